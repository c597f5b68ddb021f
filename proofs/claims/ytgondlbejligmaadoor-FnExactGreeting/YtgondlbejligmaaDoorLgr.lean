/- The walks of spec.Greeting, impl.Greeting and laws.FnExactGreeting: it answers true; nothing that was there is written. -/
import Derived.Test.YtgondlbejligmaaDoorLg
namespace Go.Proofs.YtgondlbejligmaaDoor
open Go.RowKit Go.Deep

theorem ok220 : okT (.node 2 0 ⟨#[50, 50, 48]⟩ []) = true := by
  unfold okT
  simp only [Bool.and_eq_true, decide_eq_true_eq]
  refine ⟨by simp [Tm.size, Tm.sizes], ?_⟩
  simp only [rightT, rightL, Bool.and_true]
  decide
theorem lies220 (v : World) : Lies v 0 (.node 2 0 ⟨#[50, 50, 48]⟩ []) (tmCells 2 0 ⟨#[50, 50, 48]⟩ none 0 0) := lies_leaf v 2 0 _ (by decide) (by decide) (by decide)

set_option maxRecDepth 100000 in
set_option maxHeartbeats 2000000 in
theorem textS (s : ByteArray) (w : World) :
    Calls Tryd.prog 23 #[.string s] w fun e w' => e = .returned (.agg #[.int .i64 2, .int .i64 0, .string s, .slice none 0 0]) ∧ Below w.heap.size w w' := by
  go_enter Tryd.func23, Tryd.ntmps23
  go_wp2_with fail
  exact bodyPost_ret (v := .agg #[.int .i64 2, .int .i64 0, .string s, .slice none 0 0]) (by simp [results, Tryd.results23, go_sem]) rfl ⟨rfl, ab _⟩

set_option maxRecDepth 100000 in
set_option maxHeartbeats 2000000 in
theorem wordI (s : ByteArray) (w : World) :
    Calls Tryd.prog 25 #[.string s] w fun e w' => e = .returned (.agg #[.int .i64 2, .int .i64 0, .string s, .slice none 0 0]) ∧ Below w.heap.size w w' := by
  go_enter Tryd.func25, Tryd.ntmps25
  go_wp2_with fail
  exact bodyPost_ret (v := .agg #[.int .i64 2, .int .i64 0, .string s, .slice none 0 0]) (by simp [results, Tryd.results25, go_sem]) rfl ⟨rfl, ab _⟩

theorem Box4g (w : World) (cs : Array Value) (c0 c1 c2 c3 : Value) (h : cs = #[c0, c1, c2, c3]) (t : TypeId) : (w.alloc (.cells cs t)).cell? ⟨w.heap.size, 0, none⟩ = some c0 ∧ (w.alloc (.cells cs t)).cell? ⟨w.heap.size, 1, none⟩ = some c1 ∧ (w.alloc (.cells cs t)).cell? ⟨w.heap.size, 2, none⟩ = some c2 ∧ (w.alloc (.cells cs t)).cell? ⟨w.heap.size, 3, none⟩ = some c3 := by
  subst h
  exact ⟨box_cell _ _ _ 0 _ rfl, box_cell _ _ _ 1 _ rfl, box_cell _ _ _ 2 _ rfl, box_cell _ _ _ 3 _ rfl⟩

set_option maxRecDepth 100000 in
set_option maxHeartbeats 2000000 in
theorem greetS (w : World) : Calls Tryd.prog 8 #[] w fun e w' => e = .returned (.agg #[.int .i64 2, .int .i64 0, .string ⟨#[50, 50, 48]⟩, .slice none 0 0]) ∧ Below w.heap.size w w' := by
  have hb0 : Below w.heap.size w (w.alloc (.cells #[.int .i64 0, .int .i64 0, .string ⟨#[]⟩, .slice none 0 0] 24)) := ab _
  have HB0 := hide hb0
  obtain ⟨d0, d1, d2, d3⟩ := Box4g w #[.int .i64 0, .int .i64 0, .string ⟨#[]⟩, .slice none 0 0] _ _ _ _ rfl 24
  have HR := hide (RowT.new 24 w 0 0 ⟨#[]⟩ none 0 0)
  clear hb0
  go_enter Tryd.func8, Tryd.ntmps8
  go_wp2_with fail
  refine (textS ⟨#[50, 50, 48]⟩ _).mono ?_
  rintro e w3 ⟨rfl, hb3⟩
  have HB3 := hide (bt (unhide HB0) hb3 (Nat.le_refl _))
  have d0 := keepc hb3 d0
  have d1 := keepc hb3 d1
  have d2 := keepc hb3 d2
  have d3 := keepc hb3 d3
  have fz : ∀ j, w3.frozen? ⟨w.heap.size, j, none⟩ = false := fun j => frozen_of_row ((unhide HR).below hb3)
  clear hb3 HB0
  go_wp2_with fail
  exact bodyPost_ret (v := .agg #[.int .i64 2, .int .i64 0, .string ⟨#[50, 50, 48]⟩, .slice none 0 0]) (by simp [results, Tryd.results8, go_sem, d0, d1, d2, d3]) rfl ⟨rfl, set4_below (unhide HB3) (Nat.le_refl _)⟩

set_option maxRecDepth 100000 in
set_option maxHeartbeats 2000000 in
theorem greetI (w : World) (herr : Err w) : Calls Tryd.prog 9 #[] w fun e w' => e = .returned (.agg #[.int .i64 2, .int .i64 0, .string ⟨#[50, 50, 48]⟩, .slice none 0 0]) ∧ Below w.heap.size w w' := by
  have hb0 : Below w.heap.size w (w.alloc (.cells #[.int .i64 0, .int .i64 0, .string ⟨#[]⟩, .slice none 0 0] 24)) := ab _
  have HB0 := hide hb0
  have HER := hide herr
  have h := hide (fun v he => new_yes 2 0 ⟨#[50, 50, 48]⟩ v lies220 ok220 he)
  obtain ⟨d0, d1, d2, d3⟩ := Box4g w #[.int .i64 0, .int .i64 0, .string ⟨#[]⟩, .slice none 0 0] _ _ _ _ rfl 24
  have HR := hide (RowT.new 24 w 0 0 ⟨#[]⟩ none 0 0)
  clear hb0 herr
  go_enter Tryd.func9, Tryd.ntmps9
  go_wp2_with fail
  refine (wordI ⟨#[50, 50, 48]⟩ _).mono ?_
  rintro e w2 ⟨rfl, hb2⟩
  have HB2 := hide (bt (unhide HB0) hb2 (Nat.le_refl _))
  have d0 := keepc hb2 d0
  have d1 := keepc hb2 d1
  have d2 := keepc hb2 d2
  have d3 := keepc hb2 d3
  have HR2 := hide ((unhide HR).below hb2)
  clear hb2 HB0
  go_wp2_with fail
  refine (unhide h _ ((unhide HER).on (unhide HB2))).mono ?_
  rintro e w3 ⟨rfl, hb3⟩
  have HB3 := hide (bt (unhide HB2) hb3 (Nat.le_refl _))
  have d0 := keepc hb3 d0
  have d1 := keepc hb3 d1
  have d2 := keepc hb3 d2
  have d3 := keepc hb3 d3
  have fz : ∀ j, w3.frozen? ⟨w.heap.size, j, none⟩ = false := fun j => frozen_of_row ((unhide HR2).below hb3)
  clear hb3 HB2
  go_wp2_with fail
  exact bodyPost_ret (v := .agg #[.int .i64 2, .int .i64 0, .string ⟨#[50, 50, 48]⟩, .slice none 0 0]) (by simp [results, Tryd.results9, go_sem, d0, d1, d2, d3]) rfl ⟨rfl, set4_below (unhide HB3) (Nat.le_refl _)⟩

set_option maxRecDepth 100000 in
set_option maxHeartbeats 2000000 in
theorem lawGreeting (w : World) (herr : Err w) :
    Calls Tryd.prog 3 #[] w fun e w' => e = .returned (.bool true) ∧ Below w.heap.size w w' := by
  have HER := hide herr
  clear herr
  have h6 := hide greetS
  have h7 := hide greetI
  have HL := hide lies220
  have h8 := hide (eq_calls (.node 2 0 ⟨#[50, 50, 48]⟩ []))
  have h9 := hide mark_leaf
  have h10 := hide held_leaf
  generalize (⟨#[50, 50, 48]⟩ : ByteArray) = sg at *
  go_enter Tryd.func3, Tryd.ntmps3
  go_wp2_with fail
  refine (unhide h6 _).mono ?_
  rintro e w1 ⟨rfl, hb1⟩
  have HW1 := hide (hb1.alloc hb1.size (.cells #[.int .i64 2, .int .i64 0, .string sg, .slice none 0 0] 24))
  obtain ⟨a0, a1, a2, a3⟩ := Box4g w1 #[.int .i64 2, .int .i64 0, .string sg, .slice none 0 0] _ _ _ _ rfl 24
  clear hb1
  go_wp2_with fail
  refine (unhide h7 _ ((unhide HER).on (unhide HW1))).mono ?_
  rintro e w2 ⟨rfl, hb2⟩
  have hg2 := (Below.refl w2.heap.size w2).alloc (Nat.le_refl _) (.cells #[.int .i64 2, .int .i64 0, .string sg, .slice none 0 0] 24)
  have HW2 := hide (((unhide HW1).trans (hb2.mono (unhide HW1).size)).trans (hg2.mono (Nat.le_trans (unhide HW1).size hb2.size)))
  have a0 := keepc hg2 (keepc hb2 a0)
  have a1 := keepc hg2 (keepc hb2 a1)
  have a2 := keepc hg2 (keepc hb2 a2)
  have a3 := keepc hg2 (keepc hb2 a3)
  obtain ⟨b0, b1, b2, b3⟩ := Box4g w2 #[.int .i64 2, .int .i64 0, .string sg, .slice none 0 0] _ _ _ _ rfl 24
  clear hb2 hg2 HW1
  go_wp2_with fail
  refine (unhide h8 2 0 sg none 0 0 2 0 sg none 0 0 _ (unhide HL _) (unhide HL _)).mono ?_
  rintro e w3 ⟨rfl, hb3⟩
  have HW3 := hide ((unhide HW2).trans (hb3.mono (unhide HW2).size))
  have a0 := keepc hb3 a0
  have a1 := keepc hb3 a1
  have a2 := keepc hb3 a2
  have a3 := keepc hb3 a3
  have b0 := keepc hb3 b0
  have b1 := keepc hb3 b1
  have b2 := keepc hb3 b2
  have b3 := keepc hb3 b3
  clear hb3 HW2
  go_wp2_with fail
  refine (unhide h9 2 0 sg none 0 1 _).mono ?_
  rintro e w4 ⟨rfl, hb4⟩
  have HW4 := hide ((unhide HW3).trans (hb4.mono (unhide HW3).size))
  have a0 := keepc hb4 a0
  have a1 := keepc hb4 a1
  have a2 := keepc hb4 a2
  have a3 := keepc hb4 a3
  have b0 := keepc hb4 b0
  have b1 := keepc hb4 b1
  have b2 := keepc hb4 b2
  have b3 := keepc hb4 b3
  clear hb4 HW3
  go_wp2_with fail
  refine (unhide h10 2 0 sg none 0 1 _ (by omega)).mono ?_
  rintro e w5 ⟨rfl, hb5⟩
  have HW5 := hide ((unhide HW4).trans (hb5.mono (unhide HW4).size))
  have a0 := keepc hb5 a0
  have a1 := keepc hb5 a1
  have a2 := keepc hb5 a2
  have a3 := keepc hb5 a3
  have b0 := keepc hb5 b0
  have b1 := keepc hb5 b1
  have b2 := keepc hb5 b2
  have b3 := keepc hb5 b3
  clear hb5 HW4
  go_wp2_with fail
  refine (unhide h7 _ ((unhide HER).on (unhide HW5))).mono ?_
  rintro e w6 ⟨rfl, hb6⟩
  have hg6 := (Below.refl w6.heap.size w6).alloc (Nat.le_refl _) (.cells #[.int .i64 2, .int .i64 0, .string sg, .slice none 0 0] 24)
  have HW6 := hide (((unhide HW5).trans (hb6.mono (unhide HW5).size)).trans (hg6.mono (Nat.le_trans (unhide HW5).size hb6.size)))
  have a0 := keepc hb6 a0
  have a1 := keepc hb6 a1
  have a2 := keepc hb6 a2
  have a3 := keepc hb6 a3
  have b0 := keepc hb6 b0
  have b1 := keepc hb6 b1
  have b2 := keepc hb6 b2
  have b3 := keepc hb6 b3
  have a0 := keepc hg6 a0
  have a1 := keepc hg6 a1
  have a2 := keepc hg6 a2
  have a3 := keepc hg6 a3
  have b0 := keepc hg6 b0
  have b1 := keepc hg6 b1
  have b2 := keepc hg6 b2
  have b3 := keepc hg6 b3
  obtain ⟨c0, c1, c2, c3⟩ := Box4g w6 #[.int .i64 2, .int .i64 0, .string sg, .slice none 0 0] _ _ _ _ rfl 24
  clear hb6 hg6 HW5
  go_wp2_with fail
  refine (unhide h8 2 0 sg none 0 0 2 0 sg none 0 0 _ (unhide HL _) (unhide HL _)).mono ?_
  rintro e w7 ⟨rfl, hb7⟩
  have HW7 := hide ((unhide HW6).trans (hb7.mono (unhide HW6).size))
  have a0 := keepc hb7 a0
  have a1 := keepc hb7 a1
  have a2 := keepc hb7 a2
  have a3 := keepc hb7 a3
  have b0 := keepc hb7 b0
  have b1 := keepc hb7 b1
  have b2 := keepc hb7 b2
  have b3 := keepc hb7 b3
  clear hb7 HW6
  go_wp2_with fail
  refine (unhide h10 2 0 sg none 0 1 _ (by omega)).mono ?_
  rintro e w8 ⟨rfl, hb8⟩
  have HW8 := hide ((unhide HW7).trans (hb8.mono (unhide HW7).size))
  clear hb8 HW7
  go_wp2_with fail
  go_ret
  exact ⟨rfl, unhide HW8⟩

end Go.Proofs.YtgondlbejligmaaDoor
