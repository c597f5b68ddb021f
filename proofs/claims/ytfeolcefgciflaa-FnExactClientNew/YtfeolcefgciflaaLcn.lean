/- The walk of laws.FnExactClientNew: whatever its arguments are it answers true; nothing that was there is written. -/
import Derived.Test.YtfeolcefgciflaaCns
import Derived.Test.YtfeolcefgciflaaCni
import Derived.Test.YtfeolcefgciflaaCnm
namespace Go.Proofs.Ytfeolcefgciflaa
open Go.RowKit Go.Deep

set_option maxRecDepth 100000 in
set_option maxHeartbeats 2000000 in
theorem lawNew_yes (h : ByteArray) (mu : Bool) (ep bo : Int) (hh : h.size ≤ 1048576) (hB : clientB 1 h mu ep bo zeroT 0 0 false false = true) (w : World) :
    Calls Try.prog 4 #[.string h, .bool mu, .int .i64 ep, .int .i64 bo] w fun e w' => e = .returned (.bool true) ∧ Below w.heap.size w w' := by
  have gS := hide (fun v => newS_yes h mu ep bo (by omega) hB v)
  have gI := hide (fun v => newI_yes h mu ep bo (by omega) hB v)
  have gE := hide (fun v => eqK zeroT 1 h mu ep bo 0 0 ByteArray.empty none 0 0 0 0 false false 0 0 ByteArray.empty none 0 0 v (lies_leaf _ 0 0 ByteArray.empty (by simp) rfl rfl) (lies_leaf _ 0 0 ByteArray.empty (by simp) rfl rfl))
  have gM := hide (fun v => markK 1 h mu ep bo 0 0 false false 1 (by omega) v)
  have gH := hide (fun v => heldK 1 h mu ep bo 0 0 false false 1 (by omega) v)
  have hln : ¬ (1048576 : Int) < (h.size : Int) := by omega
  clear hB hh
  go_enter Try.func4, Try.ntmps4
  go_wp2_with fail
  refine (unhide gS _).mono ?_
  rintro e w1 ⟨rfl, hb1⟩
  have HB := hide (btC hb1 (abC (.cells #[.int .i64 1, .string h, .bool mu, .int .i64 ep, .int .i64 bo, .int .i64 0, .int .i64 0, .string ⟨#[]⟩, .slice none 0 0, .int .i64 0, .int .i64 0, .bool false, .bool false] 33)))
  have HX := hide (RowK.new 33 w1 1 h mu ep bo 0 0 ⟨#[]⟩ none 0 0 0 0 false false)
  clear hb1
  go_wp2_with fail
  refine (unhide gI _).mono ?_
  rintro e w2 ⟨rfl, hb2⟩
  have HB2 := hide (btC (btC (unhide HB) hb2) (abC (.cells #[.int .i64 1, .string h, .bool mu, .int .i64 ep, .int .i64 bo, .int .i64 0, .int .i64 0, .string ⟨#[]⟩, .slice none 0 0, .int .i64 0, .int .i64 0, .bool false, .bool false] 33)))
  have HX2 := hide (((unhide HX).below hb2).below (abC (.cells #[.int .i64 1, .string h, .bool mu, .int .i64 ep, .int .i64 bo, .int .i64 0, .int .i64 0, .string ⟨#[]⟩, .slice none 0 0, .int .i64 0, .int .i64 0, .bool false, .bool false] 33)))
  have HY2 := hide (RowK.new 33 w2 1 h mu ep bo 0 0 ⟨#[]⟩ none 0 0 0 0 false false)
  have HN2 : Hid (w1.heap.size < w2.heap.size) := Nat.lt_of_lt_of_le (by simp) hb2.size
  clear hb2 HB HX
  obtain ⟨c0, c1, c2, c3, c4, c5, c6, c7, c8, c9, c10, c11, c12⟩ := (unhide HX2).facts
  obtain ⟨d0, d1, d2, d3, d4, d5, d6, d7, d8, d9, d10, d11, d12⟩ := (unhide HY2).facts
  go_wp2_with fail
  refine (unhide gE _).mono ?_
  rintro e w3 ⟨rfl, hb3⟩
  have HB3 := hide (btC (unhide HB2) hb3)
  have HX3 := hide ((unhide HX2).below hb3)
  have HY3 := hide ((unhide HY2).below hb3)
  clear hb3 HB2 HX2 HY2 c0 c1 c2 c3 c4 c5 c6 c7 c8 c9 c10 c11 c12 d0 d1 d2 d3 d4 d5 d6 d7 d8 d9 d10 d11 d12
  obtain ⟨c0, c1, c2, c3, c4, c5, c6, c7, c8, c9, c10, c11, c12⟩ := (unhide HX3).facts
  obtain ⟨d0, d1, d2, d3, d4, d5, d6, d7, d8, d9, d10, d11, d12⟩ := (unhide HY3).facts
  go_wp2_with fail
  refine (unhide gM _).mono ?_
  rintro e w4 ⟨rfl, hb4⟩
  have HB4 := hide (btC (unhide HB3) hb4)
  have HX4 := hide ((unhide HX3).below hb4)
  have HY4 := hide ((unhide HY3).below hb4)
  clear hb4 HB3 HX3 HY3 c0 c1 c2 c3 c4 c5 c6 c7 c8 c9 c10 c11 c12 d0 d1 d2 d3 d4 d5 d6 d7 d8 d9 d10 d11 d12
  obtain ⟨c0, c1, c2, c3, c4, c5, c6, c7, c8, c9, c10, c11, c12⟩ := (unhide HX4).facts
  obtain ⟨d0, d1, d2, d3, d4, d5, d6, d7, d8, d9, d10, d11, d12⟩ := (unhide HY4).facts
  go_wp2_with fail
  refine (unhide gH _).mono ?_
  rintro e w5 ⟨rfl, hb5⟩
  have HB5 := hide (btC (unhide HB4) hb5)
  have HX5 := hide ((unhide HX4).below hb5)
  have HY5 := hide ((unhide HY4).below hb5)
  clear hb5 HB4 HX4 HY4 c0 c1 c2 c3 c4 c5 c6 c7 c8 c9 c10 c11 c12 d0 d1 d2 d3 d4 d5 d6 d7 d8 d9 d10 d11 d12
  obtain ⟨c0, c1, c2, c3, c4, c5, c6, c7, c8, c9, c10, c11, c12⟩ := (unhide HX5).facts
  obtain ⟨d0, d1, d2, d3, d4, d5, d6, d7, d8, d9, d10, d11, d12⟩ := (unhide HY5).facts
  go_wp2_with fail
  refine (unhide gI _).mono ?_
  rintro e w6 ⟨rfl, hb6⟩
  have HB6 := hide (btC (btC (unhide HB5) hb6) (abC (.cells #[.int .i64 1, .string h, .bool mu, .int .i64 ep, .int .i64 bo, .int .i64 0, .int .i64 0, .string ⟨#[]⟩, .slice none 0 0, .int .i64 0, .int .i64 0, .bool false, .bool false] 33)))
  have HX6 := hide (((unhide HX5).below hb6).below (abC (.cells #[.int .i64 1, .string h, .bool mu, .int .i64 ep, .int .i64 bo, .int .i64 0, .int .i64 0, .string ⟨#[]⟩, .slice none 0 0, .int .i64 0, .int .i64 0, .bool false, .bool false] 33)))
  have HY6 := hide (((unhide HY5).below hb6).below (abC (.cells #[.int .i64 1, .string h, .bool mu, .int .i64 ep, .int .i64 bo, .int .i64 0, .int .i64 0, .string ⟨#[]⟩, .slice none 0 0, .int .i64 0, .int .i64 0, .bool false, .bool false] 33)))
  have HZ6 := hide (RowK.new 33 w6 1 h mu ep bo 0 0 ⟨#[]⟩ none 0 0 0 0 false false)
  clear hb6 HB5 HX5 HY5 c0 c1 c2 c3 c4 c5 c6 c7 c8 c9 c10 c11 c12 d0 d1 d2 d3 d4 d5 d6 d7 d8 d9 d10 d11 d12
  obtain ⟨c0, c1, c2, c3, c4, c5, c6, c7, c8, c9, c10, c11, c12⟩ := (unhide HX6).facts
  obtain ⟨d0, d1, d2, d3, d4, d5, d6, d7, d8, d9, d10, d11, d12⟩ := (unhide HY6).facts
  obtain ⟨z0, z1, z2, z3, z4, z5, z6, z7, z8, z9, z10, z11, z12⟩ := (unhide HZ6).facts
  go_wp2_with fail
  refine (unhide gE _).mono ?_
  rintro e w7 ⟨rfl, hb7⟩
  clear z0 z1 z2 z3 z4 z5 z6 z7 z8 z9 z10 z11 z12
  have HB7 := hide (btC (unhide HB6) hb7)
  have HX7 := hide ((unhide HX6).below hb7)
  have HY7 := hide ((unhide HY6).below hb7)
  clear hb7 HB6 HX6 HY6 c0 c1 c2 c3 c4 c5 c6 c7 c8 c9 c10 c11 c12 d0 d1 d2 d3 d4 d5 d6 d7 d8 d9 d10 d11 d12
  obtain ⟨c0, c1, c2, c3, c4, c5, c6, c7, c8, c9, c10, c11, c12⟩ := (unhide HX7).facts
  obtain ⟨d0, d1, d2, d3, d4, d5, d6, d7, d8, d9, d10, d11, d12⟩ := (unhide HY7).facts
  go_wp2_with fail
  refine (unhide gH _).mono ?_
  rintro e w8 ⟨rfl, hb8⟩
  have HB8 := hide (btC (unhide HB7) hb8)
  clear hb8
  go_wp2_with fail
  go_ret
  exact ⟨rfl, unhide HB8⟩

set_option maxRecDepth 100000 in
set_option maxHeartbeats 2000000 in
theorem lawNew_no (h : ByteArray) (mu : Bool) (ep bo : Int) (hh : h.size ≤ 1048576) (hB : clientB 1 h mu ep bo zeroT 0 0 false false = false) (w : World) :
    Calls Try.prog 4 #[.string h, .bool mu, .int .i64 ep, .int .i64 bo] w fun e w' => e = .returned (.bool true) ∧ Below w.heap.size w w' := by
  have gS := hide (fun v => newS_no h mu ep bo (by omega) hB v)
  have gI := hide (fun v => newI_no h mu ep bo (by omega) hB v)
  have gE := hide (fun v => eqK zeroT 0 ByteArray.empty false 0 0 0 0 ByteArray.empty none 0 0 0 0 false false 0 0 ByteArray.empty none 0 0 v (lies_leaf _ 0 0 ByteArray.empty (by simp) rfl rfl) (lies_leaf _ 0 0 ByteArray.empty (by simp) rfl rfl))
  have gM := hide (fun v => markK 0 ⟨#[]⟩ false 0 0 0 0 false false 1 (by omega) v)
  have gH := hide (fun v => heldK 0 ⟨#[]⟩ false 0 0 0 0 false false 1 (by omega) v)
  have hln : ¬ (1048576 : Int) < (h.size : Int) := by omega
  clear hB hh
  go_enter Try.func4, Try.ntmps4
  go_wp2_with fail
  refine (unhide gS _).mono ?_
  rintro e w1 ⟨rfl, hb1⟩
  have HB := hide (btC hb1 (abC (.cells #[.int .i64 0, .string ⟨#[]⟩, .bool false, .int .i64 0, .int .i64 0, .int .i64 0, .int .i64 0, .string ⟨#[]⟩, .slice none 0 0, .int .i64 0, .int .i64 0, .bool false, .bool false] 33)))
  have HX := hide (RowK.new 33 w1 0 ⟨#[]⟩ false 0 0 0 0 ⟨#[]⟩ none 0 0 0 0 false false)
  clear hb1
  go_wp2_with fail
  refine (unhide gI _).mono ?_
  rintro e w2 ⟨rfl, hb2⟩
  have HB2 := hide (btC (btC (unhide HB) hb2) (abC (.cells #[.int .i64 0, .string ⟨#[]⟩, .bool false, .int .i64 0, .int .i64 0, .int .i64 0, .int .i64 0, .string ⟨#[]⟩, .slice none 0 0, .int .i64 0, .int .i64 0, .bool false, .bool false] 33)))
  have HX2 := hide (((unhide HX).below hb2).below (abC (.cells #[.int .i64 0, .string ⟨#[]⟩, .bool false, .int .i64 0, .int .i64 0, .int .i64 0, .int .i64 0, .string ⟨#[]⟩, .slice none 0 0, .int .i64 0, .int .i64 0, .bool false, .bool false] 33)))
  have HY2 := hide (RowK.new 33 w2 0 ⟨#[]⟩ false 0 0 0 0 ⟨#[]⟩ none 0 0 0 0 false false)
  have HN2 : Hid (w1.heap.size < w2.heap.size) := Nat.lt_of_lt_of_le (by simp) hb2.size
  clear hb2 HB HX
  obtain ⟨c0, c1, c2, c3, c4, c5, c6, c7, c8, c9, c10, c11, c12⟩ := (unhide HX2).facts
  obtain ⟨d0, d1, d2, d3, d4, d5, d6, d7, d8, d9, d10, d11, d12⟩ := (unhide HY2).facts
  go_wp2_with fail
  refine (unhide gE _).mono ?_
  rintro e w3 ⟨rfl, hb3⟩
  have HB3 := hide (btC (unhide HB2) hb3)
  have HX3 := hide ((unhide HX2).below hb3)
  have HY3 := hide ((unhide HY2).below hb3)
  clear hb3 HB2 HX2 HY2 c0 c1 c2 c3 c4 c5 c6 c7 c8 c9 c10 c11 c12 d0 d1 d2 d3 d4 d5 d6 d7 d8 d9 d10 d11 d12
  obtain ⟨c0, c1, c2, c3, c4, c5, c6, c7, c8, c9, c10, c11, c12⟩ := (unhide HX3).facts
  obtain ⟨d0, d1, d2, d3, d4, d5, d6, d7, d8, d9, d10, d11, d12⟩ := (unhide HY3).facts
  go_wp2_with fail
  refine (unhide gM _).mono ?_
  rintro e w4 ⟨rfl, hb4⟩
  have HB4 := hide (btC (unhide HB3) hb4)
  have HX4 := hide ((unhide HX3).below hb4)
  have HY4 := hide ((unhide HY3).below hb4)
  clear hb4 HB3 HX3 HY3 c0 c1 c2 c3 c4 c5 c6 c7 c8 c9 c10 c11 c12 d0 d1 d2 d3 d4 d5 d6 d7 d8 d9 d10 d11 d12
  obtain ⟨c0, c1, c2, c3, c4, c5, c6, c7, c8, c9, c10, c11, c12⟩ := (unhide HX4).facts
  obtain ⟨d0, d1, d2, d3, d4, d5, d6, d7, d8, d9, d10, d11, d12⟩ := (unhide HY4).facts
  go_wp2_with fail
  refine (unhide gH _).mono ?_
  rintro e w5 ⟨rfl, hb5⟩
  have HB5 := hide (btC (unhide HB4) hb5)
  have HX5 := hide ((unhide HX4).below hb5)
  have HY5 := hide ((unhide HY4).below hb5)
  clear hb5 HB4 HX4 HY4 c0 c1 c2 c3 c4 c5 c6 c7 c8 c9 c10 c11 c12 d0 d1 d2 d3 d4 d5 d6 d7 d8 d9 d10 d11 d12
  obtain ⟨c0, c1, c2, c3, c4, c5, c6, c7, c8, c9, c10, c11, c12⟩ := (unhide HX5).facts
  obtain ⟨d0, d1, d2, d3, d4, d5, d6, d7, d8, d9, d10, d11, d12⟩ := (unhide HY5).facts
  go_wp2_with fail
  refine (unhide gI _).mono ?_
  rintro e w6 ⟨rfl, hb6⟩
  have HB6 := hide (btC (btC (unhide HB5) hb6) (abC (.cells #[.int .i64 0, .string ⟨#[]⟩, .bool false, .int .i64 0, .int .i64 0, .int .i64 0, .int .i64 0, .string ⟨#[]⟩, .slice none 0 0, .int .i64 0, .int .i64 0, .bool false, .bool false] 33)))
  have HX6 := hide (((unhide HX5).below hb6).below (abC (.cells #[.int .i64 0, .string ⟨#[]⟩, .bool false, .int .i64 0, .int .i64 0, .int .i64 0, .int .i64 0, .string ⟨#[]⟩, .slice none 0 0, .int .i64 0, .int .i64 0, .bool false, .bool false] 33)))
  have HY6 := hide (((unhide HY5).below hb6).below (abC (.cells #[.int .i64 0, .string ⟨#[]⟩, .bool false, .int .i64 0, .int .i64 0, .int .i64 0, .int .i64 0, .string ⟨#[]⟩, .slice none 0 0, .int .i64 0, .int .i64 0, .bool false, .bool false] 33)))
  have HZ6 := hide (RowK.new 33 w6 0 ⟨#[]⟩ false 0 0 0 0 ⟨#[]⟩ none 0 0 0 0 false false)
  clear hb6 HB5 HX5 HY5 c0 c1 c2 c3 c4 c5 c6 c7 c8 c9 c10 c11 c12 d0 d1 d2 d3 d4 d5 d6 d7 d8 d9 d10 d11 d12
  obtain ⟨c0, c1, c2, c3, c4, c5, c6, c7, c8, c9, c10, c11, c12⟩ := (unhide HX6).facts
  obtain ⟨d0, d1, d2, d3, d4, d5, d6, d7, d8, d9, d10, d11, d12⟩ := (unhide HY6).facts
  obtain ⟨z0, z1, z2, z3, z4, z5, z6, z7, z8, z9, z10, z11, z12⟩ := (unhide HZ6).facts
  go_wp2_with fail
  refine (unhide gE _).mono ?_
  rintro e w7 ⟨rfl, hb7⟩
  clear z0 z1 z2 z3 z4 z5 z6 z7 z8 z9 z10 z11 z12
  have HB7 := hide (btC (unhide HB6) hb7)
  have HX7 := hide ((unhide HX6).below hb7)
  have HY7 := hide ((unhide HY6).below hb7)
  clear hb7 HB6 HX6 HY6 c0 c1 c2 c3 c4 c5 c6 c7 c8 c9 c10 c11 c12 d0 d1 d2 d3 d4 d5 d6 d7 d8 d9 d10 d11 d12
  obtain ⟨c0, c1, c2, c3, c4, c5, c6, c7, c8, c9, c10, c11, c12⟩ := (unhide HX7).facts
  obtain ⟨d0, d1, d2, d3, d4, d5, d6, d7, d8, d9, d10, d11, d12⟩ := (unhide HY7).facts
  go_wp2_with fail
  refine (unhide gH _).mono ?_
  rintro e w8 ⟨rfl, hb8⟩
  have HB8 := hide (btC (unhide HB7) hb8)
  clear hb8
  go_wp2_with fail
  go_ret
  exact ⟨rfl, unhide HB8⟩

theorem lawClientNew (h : ByteArray) (mu : Bool) (ep bo : Int) (w : World) :
    Calls Try.prog 4 #[.string h, .bool mu, .int .i64 ep, .int .i64 bo] w fun e w' => e = .returned (.bool true) ∧ Below w.heap.size w w' := by
  by_cases hs : h.size ≤ 1048576
  · cases hB : clientB 1 h mu ep bo zeroT 0 0 false false with
    | true => exact lawNew_yes h mu ep bo hs hB w
    | false => exact lawNew_no h mu ep bo hs hB w
  · have hln : (1048576 : Int) < (h.size : Int) := by omega
    clear hs
    go_enter Try.func4, Try.ntmps4
    go_wp2_with fail
    go_ret
    exact ⟨rfl, Below.refl _ _⟩

end Go.Proofs.Ytfeolcefgciflaa
