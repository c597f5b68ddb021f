/- The walk of impl.PolicyText. -/
import Derived.Test.YtadfpheebpcjoaaDoorPi0
namespace Go.Proofs.YtadfpheebpcjoaaDoor
open Go.RowKit Go.Deep

theorem rf3 {l : List ByteArray} {k : Nat} (hp : k < l.length) (hl : l.length ≤ 1048576) : (k : Int) < (l.length : Int) ∧ (0 : Int) ≤ (k : Int) ∧ wrap64 ((k : Int) + 1) = ((k + 1 : Nat) : Int) := by
  refine ⟨by omega, by omega, ?_⟩
  unfold wrap64; omega

set_option maxRecDepth 100000 in
set_option maxHeartbeats 2000000 in
theorem textI_i (l : List ByteArray) (d : ByteArray) (m : Int) (a : Option Addr) (cap : Nat) (u age : Int) (w : World) (hl : Txt w 0 a l) (hw : l.length + txw l ≤ 1048576) (hd : d.size ≤ 2097152) (hB : polB l d m u = true) (hage : 0 ≤ age ∧ age ≤ 100000) (htab : Tab w) :
    Calls Tryd.prog 7 #[.agg #[.string d, .int .i64 m, .slice a l.length cap, .int .i64 u], .int .i64 age] w fun e w' => e = .returned (.string (polT l m age)) ∧ Below w.heap.size w w' := by
  have HTB := hide htab
  have ht : ∀ t ∈ l, t.size ≤ 1048576 := fun t hx => by
    obtain ⟨k, hk, rfl⟩ := List.mem_iff_getElem.1 hx
    have := txw_get (List.getElem?_eq_getElem hk)
    omega
  have h14 := hide (fun v hv => polI l d m a cap u v hv (by omega) (fun t hx => by have := ht t hx; omega) hd)
  rw [hB] at h14
  have h15 := hide (fun v => inTime age v)
  rw [show decide (0 ≤ age ∧ age ≤ 100000) = true from decide_eq_true hage] at h15
  have h16 := hide (fun v => modeI m v)
  have h17 := hide (fun v hv => itoaP age v (by omega) (by omega) hv)
  obtain ⟨MM, eM, HMM⟩ := mode_add m
  obtain ⟨AA, eA, HAA⟩ := age_add age hage
  obtain HJN := join_ok l m age hage hw
  have hb0 := abP (w := w) (.cells #[.string d, .int .i64 m, .slice a l.length cap, .int .i64 u] 27)
  have HB0 := hide hb0
  have HL0 := hide (hl.on hb0)
  have HX0 := hide (RowP.new 27 w d m a l.length cap u)
  have HT := hide ht
  have HLL : Hid (l.length ≤ 1048576) := by show _ ≤ _; omega
  rw [← unhide HMM, ← unhide HAA] at HJN
  clear hl hw hd hB hage hb0 ht HMM HAA htab
  generalize hMD : mdWord m = MD at *
  generalize (⟨(Lib.itoa age).toArray⟩ : ByteArray) = IT at *
  clear hMD
  generalize polT l m age = PT at *
  go_enter Tryd.func7, Tryd.ntmps7
  go_wp2_with fail
  refine (unhide h14 _ (unhide HL0)).mono ?_
  rintro e w1 ⟨rfl, hb1⟩
  have HB1 := hide (btP (unhide HB0) hb1)
  have HL1 := hide ((unhide HL0).on hb1)
  have HX1 := hide ((unhide HX0).below hb1)
  clear hb1 HB0 HL0 HX0
  go_wp2_with fail
  refine (unhide h15 _).mono ?_
  rintro e w2 ⟨rfl, rfl⟩
  obtain ⟨c0, c1, c2, c3⟩ := (unhide HX1).facts
  go_wp2_with fail
  refine (unhide h16 _).mono ?_
  rintro e w3 ⟨rfl, rfl⟩
  have hlit : Txs w3 [tVL, MM] (.slice (some ⟨w3.heap.size, 0, none⟩) 2 2) (w3.alloc (.cells #[.string ⟨#[118, 101, 114, 115, 105, 111, 110, 58, 32, 118, 49]⟩, .string MM] 9)) := Txs.lit2 w3 tVL MM
  have hbr := abP (w := w3) (.cells #[.string ⟨#[118, 101, 114, 115, 105, 111, 110, 58, 32, 118, 49]⟩, .string MM] 9)
  have HT0 := hide hlit
  have HBR := hide hbr
  have HX2 := hide ((unhide HX1).below hbr)
  have HL2 := hide ((unhide HL1).on hbr)
  have HBW := hide (unhide HB1)
  have HLW := hide (unhide HL1)
  clear hlit hbr HX1 HL1
  obtain ⟨c0, c1, c2, c3⟩ := (unhide HX2).facts
  go_wp2_with fail
  generalize hV2 : w3.alloc (.cells #[.string ⟨#[118, 101, 114, 115, 105, 111, 110, 58, 32, 118, 49]⟩, .string MM] 9) = V2 at *
  clear hV2 c0 c1 c2 c3
  go_loopw [7, 28] (fun v i wr => ∃ k : Nat, i = .int .i64 (k : Int) ∧ Txs w3 (rowL MM (l.take k)) v wr ∧ Below w3.heap.size w3 wr ∧ k ≤ l.length) (fun _ i _ => l.length - (intOf i).toNat)
  case atStart => exact ⟨0, rfl, by simpa [rowL] using unhide HT0, unhide HBR, Nat.zero_le _⟩
  case round =>
    obtain ⟨k, rfl, hT, hb, hk⟩ := hrel
    obtain ⟨ua, uc, rfl⟩ := hT.shape
    by_cases hp : k < l.length
    · obtain ⟨t, hkt⟩ : ∃ t, l[k]? = some t := ⟨_, List.getElem?_eq_getElem hp⟩
      obtain ⟨X, eX, HXX⟩ := mx_add t (unhide HT t (List.mem_of_getElem? hkt))
      obtain ⟨b, o, rfl, -, d0⟩ := (unhide HLW) k t hkt
      have d0 := below_some hb d0
      have HAP := hide (hT.put hb X (b := wr.heap.size) (abH (.cells #[.string X] 9)) (box_cell wr #[.string X] 9 0 _ rfl) (by rw [rowL_len]; simp; have := unhide HLL; omega) 22)
      have HST := hide (rowL_step MM hkt)
      have HP : Hid (k < l.length) := hp
      obtain ⟨q2, q3, w1⟩ := rf3 hp (unhide HLL)
      clear hT hb hk hkt hp
      generalize (rowL MM (l.take k)).length = ul at *
      go_wp2_with (at_builtin; refine wpList_append_run rfl _ _ 22 rfl (.slice ua ul uc) (.slice (some ⟨wr.heap.size, 0, none⟩) 1 1) rfl rfl (fun v' w' => Txs w3 (rowL MM (l.take k) ++ [X]) v' w' ∧ (wr.alloc (.cells #[.string X] 9)).grownBy w' (Value.slice ua ul uc).ownBlock ∧ Below w3.heap.size w3 w') (unhide HAP) ?_; rintro v3 w4 ⟨hb3, hg3, hbw3⟩; have HB3 := hide hb3; have HW3 := hide hbw3; clear hb3 hg3 hbw3)
      go_roundw
      case rel => exact ⟨k + 1, by rw [w1], by rw [unhide HST, ← unhide HXX]; exact unhide HB3, unhide HW3, unhide HP⟩
      case measure =>
        show l.length - (intOf (.int .i64 (wrap64 ((k : Int) + 1)))).toNat < l.length - (intOf (.int .i64 (k : Int))).toNat
        exact round_measP w1 (unhide HP)
    · have q2 : ¬ (k : Int) < (l.length : Int) := by omega
      have hT : Txs w3 (rowL MM l) (.slice ua (rowL MM (l.take k)).length uc) wr := by rwa [List.take_of_length_le (by omega)] at hT ⊢
      have HTT := hide hT
      have HBX := hide hb
      have HLEN := hide (rowL_len MM (l.take k))
      have HLE2 : Hid ((rowL MM (l.take k)).length = (rowL MM l).length) := by show _ = _; rw [List.take_of_length_le (by omega)]
      clear hT hb hk hp
      generalize hul : (rowL MM (l.take k)).length = ul at *
      clear hul
      go_wp2_with fail
      refine (unhide h17 _ ((unhide HTB).on (btP (unhide HBW) (unhide HBX)))).mono ?_
      rintro e w5 ⟨rfl, hb5⟩
      have hbt := (unhide HBX).trans (hb5.mono (unhide HBX).size)
      have HAP := hide (((unhide HTT).on hb5).put hbt AA (b := w5.heap.size) (abH (.cells #[.string AA] 9)) (box_cell w5 #[.string AA] 9 0 _ rfl) (by rw [rowL_len]; have := unhide HLL; omega) 22)
      clear hb5 hbt
      go_wp2_with (at_builtin; refine wpList_append_run rfl _ _ 22 rfl (.slice ua ul uc) (.slice (some ⟨w5.heap.size, 0, none⟩) 1 1) rfl rfl (fun v' w' => Txs w3 (rowL MM l ++ [AA]) v' w' ∧ (w5.alloc (.cells #[.string AA] 9)).grownBy w' (Value.slice ua ul uc).ownBlock ∧ Below w3.heap.size w3 w') (unhide HAP) ?_; rintro v3 w6 ⟨hb3, hg3, hbw3⟩; obtain ⟨g6, cp6, n6, rfl, hn6, hcl, hlt6, hle6⟩ := hb3.open2 (by simp); obtain ⟨JJ, hJ, eJ⟩ := unhide HJN g6 cp6 n6 w6 hn6 hcl hlt6 hle6; clear hn6; have HJ := hide hJ; have HW3 := hide hbw3; clear hb3 hg3 hbw3 hcl hlt6 hle6 hJ)
      refine (unhide HJ).mono ?_
      rintro e w7 ⟨rfl, hb7⟩
      have HB7 := hide (btP (unhide HBW) (btP (unhide HW3) hb7))
      clear hb7
      go_wp2_with fail
      go_ret
      exact ⟨rfl, unhide HB7⟩

set_option maxRecDepth 100000 in
set_option maxHeartbeats 2000000 in
theorem textI_o (l : List ByteArray) (d : ByteArray) (m : Int) (a : Option Addr) (cap : Nat) (u age : Int) (w : World) (hl : Txt w 0 a l) (hw : l.length + txw l ≤ 1048576) (hd : d.size ≤ 2097152) (hB : polB l d m u = true) (hage : ¬ (0 ≤ age ∧ age ≤ 100000)) (htab : Tab w) :
    Calls Tryd.prog 7 #[.agg #[.string d, .int .i64 m, .slice a l.length cap, .int .i64 u], .int .i64 age] w fun e w' => e = .returned (.string (polT l m 0)) ∧ Below w.heap.size w w' := by
  have HTB := hide htab
  have ht : ∀ t ∈ l, t.size ≤ 1048576 := fun t hx => by
    obtain ⟨k, hk, rfl⟩ := List.mem_iff_getElem.1 hx
    have := txw_get (List.getElem?_eq_getElem hk)
    omega
  have h14 := hide (fun v hv => polI l d m a cap u v hv (by omega) (fun t hx => by have := ht t hx; omega) hd)
  rw [hB] at h14
  have h15 := hide (fun v => inTime age v)
  rw [show decide (0 ≤ age ∧ age ≤ 100000) = false from decide_eq_false hage] at h15
  have h16 := hide (fun v => modeI m v)
  have h17 := hide (fun v hv => itoaP 0 v (by omega) (by omega) hv)
  obtain ⟨MM, eM, HMM⟩ := mode_add m
  obtain ⟨AA, eA, HAA⟩ := age_add 0 (by omega)
  obtain HJN := join_ok l m 0 (by omega) hw
  have hb0 := abP (w := w) (.cells #[.string d, .int .i64 m, .slice a l.length cap, .int .i64 u] 27)
  have HB0 := hide hb0
  have HL0 := hide (hl.on hb0)
  have HX0 := hide (RowP.new 27 w d m a l.length cap u)
  have HT := hide ht
  have HLL : Hid (l.length ≤ 1048576) := by show _ ≤ _; omega
  rw [← unhide HMM, ← unhide HAA] at HJN
  clear hl hw hd hB hage hb0 ht HMM HAA htab
  generalize hMD : mdWord m = MD at *
  generalize (⟨(Lib.itoa 0).toArray⟩ : ByteArray) = IT at *
  clear hMD
  generalize polT l m 0 = PT at *
  go_enter Tryd.func7, Tryd.ntmps7
  go_wp2_with fail
  refine (unhide h14 _ (unhide HL0)).mono ?_
  rintro e w1 ⟨rfl, hb1⟩
  have HB1 := hide (btP (unhide HB0) hb1)
  have HL1 := hide ((unhide HL0).on hb1)
  have HX1 := hide ((unhide HX0).below hb1)
  clear hb1 HB0 HL0 HX0
  go_wp2_with fail
  refine (unhide h15 _).mono ?_
  rintro e w2 ⟨rfl, rfl⟩
  obtain ⟨c0, c1, c2, c3⟩ := (unhide HX1).facts
  go_wp2_with fail
  refine (unhide h16 _).mono ?_
  rintro e w3 ⟨rfl, rfl⟩
  have hlit : Txs w3 [tVL, MM] (.slice (some ⟨w3.heap.size, 0, none⟩) 2 2) (w3.alloc (.cells #[.string ⟨#[118, 101, 114, 115, 105, 111, 110, 58, 32, 118, 49]⟩, .string MM] 9)) := Txs.lit2 w3 tVL MM
  have hbr := abP (w := w3) (.cells #[.string ⟨#[118, 101, 114, 115, 105, 111, 110, 58, 32, 118, 49]⟩, .string MM] 9)
  have HT0 := hide hlit
  have HBR := hide hbr
  have HX2 := hide ((unhide HX1).below hbr)
  have HL2 := hide ((unhide HL1).on hbr)
  have HBW := hide (unhide HB1)
  have HLW := hide (unhide HL1)
  clear hlit hbr HX1 HL1
  obtain ⟨c0, c1, c2, c3⟩ := (unhide HX2).facts
  go_wp2_with fail
  generalize hV2 : w3.alloc (.cells #[.string ⟨#[118, 101, 114, 115, 105, 111, 110, 58, 32, 118, 49]⟩, .string MM] 9) = V2 at *
  clear hV2 c0 c1 c2 c3
  go_loopw [7, 28] (fun v i wr => ∃ k : Nat, i = .int .i64 (k : Int) ∧ Txs w3 (rowL MM (l.take k)) v wr ∧ Below w3.heap.size w3 wr ∧ k ≤ l.length) (fun _ i _ => l.length - (intOf i).toNat)
  case atStart => exact ⟨0, rfl, by simpa [rowL] using unhide HT0, unhide HBR, Nat.zero_le _⟩
  case round =>
    obtain ⟨k, rfl, hT, hb, hk⟩ := hrel
    obtain ⟨ua, uc, rfl⟩ := hT.shape
    by_cases hp : k < l.length
    · obtain ⟨t, hkt⟩ : ∃ t, l[k]? = some t := ⟨_, List.getElem?_eq_getElem hp⟩
      obtain ⟨X, eX, HXX⟩ := mx_add t (unhide HT t (List.mem_of_getElem? hkt))
      obtain ⟨b, o, rfl, -, d0⟩ := (unhide HLW) k t hkt
      have d0 := below_some hb d0
      have HAP := hide (hT.put hb X (b := wr.heap.size) (abH (.cells #[.string X] 9)) (box_cell wr #[.string X] 9 0 _ rfl) (by rw [rowL_len]; simp; have := unhide HLL; omega) 22)
      have HST := hide (rowL_step MM hkt)
      have HP : Hid (k < l.length) := hp
      obtain ⟨q2, q3, w1⟩ := rf3 hp (unhide HLL)
      clear hT hb hk hkt hp
      generalize (rowL MM (l.take k)).length = ul at *
      go_wp2_with (at_builtin; refine wpList_append_run rfl _ _ 22 rfl (.slice ua ul uc) (.slice (some ⟨wr.heap.size, 0, none⟩) 1 1) rfl rfl (fun v' w' => Txs w3 (rowL MM (l.take k) ++ [X]) v' w' ∧ (wr.alloc (.cells #[.string X] 9)).grownBy w' (Value.slice ua ul uc).ownBlock ∧ Below w3.heap.size w3 w') (unhide HAP) ?_; rintro v3 w4 ⟨hb3, hg3, hbw3⟩; have HB3 := hide hb3; have HW3 := hide hbw3; clear hb3 hg3 hbw3)
      go_roundw
      case rel => exact ⟨k + 1, by rw [w1], by rw [unhide HST, ← unhide HXX]; exact unhide HB3, unhide HW3, unhide HP⟩
      case measure =>
        show l.length - (intOf (.int .i64 (wrap64 ((k : Int) + 1)))).toNat < l.length - (intOf (.int .i64 (k : Int))).toNat
        exact round_measP w1 (unhide HP)
    · have q2 : ¬ (k : Int) < (l.length : Int) := by omega
      have hT : Txs w3 (rowL MM l) (.slice ua (rowL MM (l.take k)).length uc) wr := by rwa [List.take_of_length_le (by omega)] at hT ⊢
      have HTT := hide hT
      have HBX := hide hb
      have HLEN := hide (rowL_len MM (l.take k))
      have HLE2 : Hid ((rowL MM (l.take k)).length = (rowL MM l).length) := by show _ = _; rw [List.take_of_length_le (by omega)]
      clear hT hb hk hp
      generalize hul : (rowL MM (l.take k)).length = ul at *
      clear hul
      go_wp2_with fail
      refine (unhide h17 _ ((unhide HTB).on (btP (unhide HBW) (unhide HBX)))).mono ?_
      rintro e w5 ⟨rfl, hb5⟩
      have hbt := (unhide HBX).trans (hb5.mono (unhide HBX).size)
      have HAP := hide (((unhide HTT).on hb5).put hbt AA (b := w5.heap.size) (abH (.cells #[.string AA] 9)) (box_cell w5 #[.string AA] 9 0 _ rfl) (by rw [rowL_len]; have := unhide HLL; omega) 22)
      clear hb5 hbt
      go_wp2_with (at_builtin; refine wpList_append_run rfl _ _ 22 rfl (.slice ua ul uc) (.slice (some ⟨w5.heap.size, 0, none⟩) 1 1) rfl rfl (fun v' w' => Txs w3 (rowL MM l ++ [AA]) v' w' ∧ (w5.alloc (.cells #[.string AA] 9)).grownBy w' (Value.slice ua ul uc).ownBlock ∧ Below w3.heap.size w3 w') (unhide HAP) ?_; rintro v3 w6 ⟨hb3, hg3, hbw3⟩; obtain ⟨g6, cp6, n6, rfl, hn6, hcl, hlt6, hle6⟩ := hb3.open2 (by simp); obtain ⟨JJ, hJ, eJ⟩ := unhide HJN g6 cp6 n6 w6 hn6 hcl hlt6 hle6; clear hn6; have HJ := hide hJ; have HW3 := hide hbw3; clear hb3 hg3 hbw3 hcl hlt6 hle6 hJ)
      refine (unhide HJ).mono ?_
      rintro e w7 ⟨rfl, hb7⟩
      have HB7 := hide (btP (unhide HBW) (btP (unhide HW3) hb7))
      clear hb7
      go_wp2_with fail
      go_ret
      exact ⟨rfl, unhide HB7⟩

set_option maxRecDepth 100000 in
set_option maxHeartbeats 1000000 in
theorem textI_no (l : List ByteArray) (d : ByteArray) (m : Int) (a : Option Addr) (cap : Nat) (u age : Int) (w : World) (hl : Txt w 0 a l) (hw : l.length + txw l ≤ 1048576) (hd : d.size ≤ 2097152) (hB : polB l d m u = false) :
    Calls Tryd.prog 7 #[.agg #[.string d, .int .i64 m, .slice a l.length cap, .int .i64 u], .int .i64 age] w fun e w' => e = .returned (.string ⟨#[]⟩) ∧ Below w.heap.size w w' := by
  have ht : ∀ t ∈ l, t.size ≤ 1048576 := fun t hx => by
    obtain ⟨k, hk, rfl⟩ := List.mem_iff_getElem.1 hx
    have := txw_get (List.getElem?_eq_getElem hk)
    omega
  have h10 := hide (fun v hv => polI l d m a cap u v hv (by omega) (fun t hx => by have := ht t hx; omega) hd)
  rw [hB] at h10
  have hb0 := abP (w := w) (.cells #[.string d, .int .i64 m, .slice a l.length cap, .int .i64 u] 27)
  have HB0 := hide hb0
  have HL0 := hide (hl.on hb0)
  clear hl hw hd hB hb0 ht
  generalize l.length = len at *
  go_enter Tryd.func7, Tryd.ntmps7
  go_wp2_with fail
  refine (unhide h10 _ (unhide HL0)).mono ?_
  rintro e w1 ⟨rfl, hb1⟩
  have HB1 := hide (btP (unhide HB0) hb1)
  clear hb1
  go_wp2_with fail
  go_ret
  exact ⟨rfl, unhide HB1⟩

end Go.Proofs.YtadfpheebpcjoaaDoor
