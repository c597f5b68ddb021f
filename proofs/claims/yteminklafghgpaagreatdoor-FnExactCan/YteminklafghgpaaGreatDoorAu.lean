
/- The walk of impl.allShaped where a term's own fields are right: its kids are asked. -/
import Derived.Test.YteminklafghgpaaGreatDoorAs
namespace Go.Proofs.YteminklafghgpaaGreatDoor
open Go.RowKit Go.Deep

set_option maxRecDepth 100000 in
set_option maxHeartbeats 2000000 in
theorem as_yes1 (ks : List Tm) (hkids : ∀ x ∈ ks, AsOk x) (n : Int) (s : ByteArray) (a : Option Addr) (len cap : Nat) (w : World) (hk : LiesAll w 0 a 0 ks) (hlen : ks.length = len) (hsz : Tm.sizes ks ≤ 2097152) (hs : ∀ v : World, Below w.heap.size w v → Calls Tryz.prog 110 #[.agg #[.int .i64 1, .int .i64 n, .string s, .slice a len cap]] v fun e w' => e = .returned (.bool true) ∧ Below v.heap.size v w') :
    Calls Tryz.prog 33 #[.agg #[.int .i64 1, .int .i64 n, .string s, .slice a len cap]] w fun e w' => e = .returned (.bool (rightL ks)) ∧ Below w.heap.size w w' := by
  have hlb : len ≤ 2097152 := by have := Tm.length_le_sizes ks; omega
  have HS := hide hs
  have hm := meth49 n s a len cap
  have HL := hide hlen
  have HK := hide hk
  have HKI := hide hkids
  have HSZ : Hid (∀ k (hk : k < ks.length), (ks[k]).size ≤ 2097152) := fun k hk => by have := Tm.size_mem (List.getElem_mem hk); omega
  have HB0 := hide (box_cell w #[.int .i64 1, .int .i64 n, .string s, .slice a len cap] 35 3 _ rfl)
  have HW1 : Hid (Below w.heap.size w (w.alloc (.cells #[.int .i64 1, .int .i64 n, .string s, .slice a len cap] 35))) := (Below.refl _ _).alloc (Nat.le_refl _) _
  have HRL : Hid (∀ k, rightL ks = rightL (ks.drop k) → ks.length ≤ k → rightL ks = true) := fun k e hl => by
    rw [e, List.drop_of_length_le hl]
    rfl
  clear hs hk hkids hsz hlen
  generalize hbb : rightL ks = bb at *
  have HBB := hide hbb
  clear hbb
  go_enter Tryz.func33, Tryz.ntmps33
  go_wp2_with fail
  refine (kind27_1 n s a len cap _).mono ?_
  rintro e w2 ⟨rfl, hb2⟩
  have HC2 := hide (keepc hb2 (unhide HB0))
  have HW2 := hide ((unhide HW1).trans (hb2.mono (unhide HW1).size))
  clear hb2 HB0 HW1
  go_wp2_with fail
  refine (unhide HS _ (unhide HW2)).mono ?_
  rintro e w3 ⟨rfl, hb3⟩
  have c3 := keepc hb3 (unhide HC2)
  have HW3 := hide ((unhide HW2).trans (hb3.mono (unhide HW2).size))
  clear hb3 HC2 HW2 HS hm
  go_wp2_with fail
  go_loopw [12] (fun i wr => ∃ k : Nat, k ≤ len ∧ i = .int .i64 k ∧ bb = rightL (ks.drop k) ∧ Below w.heap.size w wr) (fun i _ => len - (intOf i).toNat)
  case atStart => exact ⟨0, Nat.zero_le _, rfl, by rw [List.drop_zero]; exact (unhide HBB).symm, unhide HW3⟩
  case round =>
    obtain ⟨k, hkl, rfl, hC, hbw⟩ := hrel
    have HC := hide hC
    clear hC c3 HW3
    by_cases hlt : k < len
    · have g1 : k < ks.length := by have := unhide HL; omega
      have HD := hide (rightL_drop g1)
      obtain ⟨b, o, y0, y1, y2, y3, y4, y5, rfl, _, _, c0, c1, c2, c3, hT⟩ := (unhide HK).elem (k := k) g1
      have c0 := keepc hbw c0
      have c1 := keepc hbw c1
      have c2 := keepc hbw c2
      have c3 := keepc hbw c3
      have HCT := hide (unhide HKI ks[k] (List.getElem_mem g1) y0 y1 y2 y3 y4 y5)
      have HZ := hide (unhide HSZ k g1)
      have HG : Hid (Below wr.heap.size wr (wr.alloc (.cells #[.int .i64 y0, .int .i64 y1, .string y2, .slice y3 y4 y5] 35))) := (Below.refl _ _).alloc (Nat.le_refl _) _
      have HT := hide ((hT.below hbw).below (unhide HG))
      have HBW := hide hbw
      clear hT HK HKI HSZ hbw
      generalize ks[k] = tk at *
      clear g1
      have hml : (k : Int) < (len : Int) := by omega
      cases hsv : rightT tk with
      | true =>
        rw [hsv] at HCT HD
        clear hsv
        go_wp2_with fail
        refine (unhide HCT _ (unhide HT) (unhide HZ)).mono ?_
        rintro e w4 ⟨rfl, hb4⟩
        go_wp2_with fail
        go_roundw
        case rel => exact ⟨k + 1, by omega, by go_num, by rw [unhide HC, unhide HD, Bool.true_and], below_alls (below_alls (unhide HBW) (unhide HG) (unhide HBW).size) hb4 (by have := (unhide HBW).size; simp; omega)⟩
        case measure => simp [intOf]; omega
      | false =>
        rw [hsv] at HCT HD
        clear hsv
        go_wp2_with fail
        refine (unhide HCT _ (unhide HT) (unhide HZ)).mono ?_
        rintro e w4 ⟨rfl, hb4⟩
        go_wp2_with fail
        go_ret
        exact ⟨ret_bool (by rw [unhide HC, unhide HD, Bool.false_and]), below_alls (below_alls (unhide HBW) (unhide HG) (unhide HBW).size) hb4 (by have := (unhide HBW).size; simp; omega)⟩
    · have HE : Hid (bb = true) := unhide HRL k (unhide HC) (by have := unhide HL; omega)
      go_wp2_with fail
      go_ret
      exact ⟨ret_bool (unhide HE).symm, hbw⟩

set_option maxRecDepth 100000 in
set_option maxHeartbeats 2000000 in
theorem as_yes2 (ks : List Tm) (hkids : ∀ x ∈ ks, AsOk x) (n : Int) (s : ByteArray) (a : Option Addr) (len cap : Nat) (w : World) (hk : LiesAll w 0 a 0 ks) (hlen : ks.length = len) (hsz : Tm.sizes ks ≤ 2097152) (hs : ∀ v : World, Below w.heap.size w v → Calls Tryz.prog 111 #[.agg #[.int .i64 2, .int .i64 n, .string s, .slice a len cap]] v fun e w' => e = .returned (.bool true) ∧ Below v.heap.size v w') :
    Calls Tryz.prog 33 #[.agg #[.int .i64 2, .int .i64 n, .string s, .slice a len cap]] w fun e w' => e = .returned (.bool (rightL ks)) ∧ Below w.heap.size w w' := by
  have hlb : len ≤ 2097152 := by have := Tm.length_le_sizes ks; omega
  have HS := hide hs
  have hm := meth50 n s a len cap
  have HL := hide hlen
  have HK := hide hk
  have HKI := hide hkids
  have HSZ : Hid (∀ k (hk : k < ks.length), (ks[k]).size ≤ 2097152) := fun k hk => by have := Tm.size_mem (List.getElem_mem hk); omega
  have HB0 := hide (box_cell w #[.int .i64 2, .int .i64 n, .string s, .slice a len cap] 35 3 _ rfl)
  have HW1 : Hid (Below w.heap.size w (w.alloc (.cells #[.int .i64 2, .int .i64 n, .string s, .slice a len cap] 35))) := (Below.refl _ _).alloc (Nat.le_refl _) _
  have HRL : Hid (∀ k, rightL ks = rightL (ks.drop k) → ks.length ≤ k → rightL ks = true) := fun k e hl => by
    rw [e, List.drop_of_length_le hl]
    rfl
  clear hs hk hkids hsz hlen
  generalize hbb : rightL ks = bb at *
  have HBB := hide hbb
  clear hbb
  go_enter Tryz.func33, Tryz.ntmps33
  go_wp2_with fail
  refine (kind27_2 n s a len cap _).mono ?_
  rintro e w2 ⟨rfl, hb2⟩
  have HC2 := hide (keepc hb2 (unhide HB0))
  have HW2 := hide ((unhide HW1).trans (hb2.mono (unhide HW1).size))
  clear hb2 HB0 HW1
  go_wp2_with fail
  refine (unhide HS _ (unhide HW2)).mono ?_
  rintro e w3 ⟨rfl, hb3⟩
  have c3 := keepc hb3 (unhide HC2)
  have HW3 := hide ((unhide HW2).trans (hb3.mono (unhide HW2).size))
  clear hb3 HC2 HW2 HS hm
  go_wp2_with fail
  go_loopw [12] (fun i wr => ∃ k : Nat, k ≤ len ∧ i = .int .i64 k ∧ bb = rightL (ks.drop k) ∧ Below w.heap.size w wr) (fun i _ => len - (intOf i).toNat)
  case atStart => exact ⟨0, Nat.zero_le _, rfl, by rw [List.drop_zero]; exact (unhide HBB).symm, unhide HW3⟩
  case round =>
    obtain ⟨k, hkl, rfl, hC, hbw⟩ := hrel
    have HC := hide hC
    clear hC c3 HW3
    by_cases hlt : k < len
    · have g1 : k < ks.length := by have := unhide HL; omega
      have HD := hide (rightL_drop g1)
      obtain ⟨b, o, y0, y1, y2, y3, y4, y5, rfl, _, _, c0, c1, c2, c3, hT⟩ := (unhide HK).elem (k := k) g1
      have c0 := keepc hbw c0
      have c1 := keepc hbw c1
      have c2 := keepc hbw c2
      have c3 := keepc hbw c3
      have HCT := hide (unhide HKI ks[k] (List.getElem_mem g1) y0 y1 y2 y3 y4 y5)
      have HZ := hide (unhide HSZ k g1)
      have HG : Hid (Below wr.heap.size wr (wr.alloc (.cells #[.int .i64 y0, .int .i64 y1, .string y2, .slice y3 y4 y5] 35))) := (Below.refl _ _).alloc (Nat.le_refl _) _
      have HT := hide ((hT.below hbw).below (unhide HG))
      have HBW := hide hbw
      clear hT HK HKI HSZ hbw
      generalize ks[k] = tk at *
      clear g1
      have hml : (k : Int) < (len : Int) := by omega
      cases hsv : rightT tk with
      | true =>
        rw [hsv] at HCT HD
        clear hsv
        go_wp2_with fail
        refine (unhide HCT _ (unhide HT) (unhide HZ)).mono ?_
        rintro e w4 ⟨rfl, hb4⟩
        go_wp2_with fail
        go_roundw
        case rel => exact ⟨k + 1, by omega, by go_num, by rw [unhide HC, unhide HD, Bool.true_and], below_alls (below_alls (unhide HBW) (unhide HG) (unhide HBW).size) hb4 (by have := (unhide HBW).size; simp; omega)⟩
        case measure => simp [intOf]; omega
      | false =>
        rw [hsv] at HCT HD
        clear hsv
        go_wp2_with fail
        refine (unhide HCT _ (unhide HT) (unhide HZ)).mono ?_
        rintro e w4 ⟨rfl, hb4⟩
        go_wp2_with fail
        go_ret
        exact ⟨ret_bool (by rw [unhide HC, unhide HD, Bool.false_and]), below_alls (below_alls (unhide HBW) (unhide HG) (unhide HBW).size) hb4 (by have := (unhide HBW).size; simp; omega)⟩
    · have HE : Hid (bb = true) := unhide HRL k (unhide HC) (by have := unhide HL; omega)
      go_wp2_with fail
      go_ret
      exact ⟨ret_bool (unhide HE).symm, hbw⟩

set_option maxRecDepth 100000 in
set_option maxHeartbeats 2000000 in
theorem as_yes3 (ks : List Tm) (hkids : ∀ x ∈ ks, AsOk x) (n : Int) (s : ByteArray) (a : Option Addr) (len cap : Nat) (w : World) (hk : LiesAll w 0 a 0 ks) (hlen : ks.length = len) (hsz : Tm.sizes ks ≤ 2097152) (hs : ∀ v : World, Below w.heap.size w v → Calls Tryz.prog 112 #[.agg #[.int .i64 3, .int .i64 n, .string s, .slice a len cap]] v fun e w' => e = .returned (.bool true) ∧ Below v.heap.size v w') :
    Calls Tryz.prog 33 #[.agg #[.int .i64 3, .int .i64 n, .string s, .slice a len cap]] w fun e w' => e = .returned (.bool (rightL ks)) ∧ Below w.heap.size w w' := by
  have hlb : len ≤ 2097152 := by have := Tm.length_le_sizes ks; omega
  have HS := hide hs
  have hm := meth51 n s a len cap
  have HL := hide hlen
  have HK := hide hk
  have HKI := hide hkids
  have HSZ : Hid (∀ k (hk : k < ks.length), (ks[k]).size ≤ 2097152) := fun k hk => by have := Tm.size_mem (List.getElem_mem hk); omega
  have HB0 := hide (box_cell w #[.int .i64 3, .int .i64 n, .string s, .slice a len cap] 35 3 _ rfl)
  have HW1 : Hid (Below w.heap.size w (w.alloc (.cells #[.int .i64 3, .int .i64 n, .string s, .slice a len cap] 35))) := (Below.refl _ _).alloc (Nat.le_refl _) _
  have HRL : Hid (∀ k, rightL ks = rightL (ks.drop k) → ks.length ≤ k → rightL ks = true) := fun k e hl => by
    rw [e, List.drop_of_length_le hl]
    rfl
  clear hs hk hkids hsz hlen
  generalize hbb : rightL ks = bb at *
  have HBB := hide hbb
  clear hbb
  go_enter Tryz.func33, Tryz.ntmps33
  go_wp2_with fail
  refine (kind27_3 n s a len cap _).mono ?_
  rintro e w2 ⟨rfl, hb2⟩
  have HC2 := hide (keepc hb2 (unhide HB0))
  have HW2 := hide ((unhide HW1).trans (hb2.mono (unhide HW1).size))
  clear hb2 HB0 HW1
  go_wp2_with fail
  refine (unhide HS _ (unhide HW2)).mono ?_
  rintro e w3 ⟨rfl, hb3⟩
  have c3 := keepc hb3 (unhide HC2)
  have HW3 := hide ((unhide HW2).trans (hb3.mono (unhide HW2).size))
  clear hb3 HC2 HW2 HS hm
  go_wp2_with fail
  go_loopw [12] (fun i wr => ∃ k : Nat, k ≤ len ∧ i = .int .i64 k ∧ bb = rightL (ks.drop k) ∧ Below w.heap.size w wr) (fun i _ => len - (intOf i).toNat)
  case atStart => exact ⟨0, Nat.zero_le _, rfl, by rw [List.drop_zero]; exact (unhide HBB).symm, unhide HW3⟩
  case round =>
    obtain ⟨k, hkl, rfl, hC, hbw⟩ := hrel
    have HC := hide hC
    clear hC c3 HW3
    by_cases hlt : k < len
    · have g1 : k < ks.length := by have := unhide HL; omega
      have HD := hide (rightL_drop g1)
      obtain ⟨b, o, y0, y1, y2, y3, y4, y5, rfl, _, _, c0, c1, c2, c3, hT⟩ := (unhide HK).elem (k := k) g1
      have c0 := keepc hbw c0
      have c1 := keepc hbw c1
      have c2 := keepc hbw c2
      have c3 := keepc hbw c3
      have HCT := hide (unhide HKI ks[k] (List.getElem_mem g1) y0 y1 y2 y3 y4 y5)
      have HZ := hide (unhide HSZ k g1)
      have HG : Hid (Below wr.heap.size wr (wr.alloc (.cells #[.int .i64 y0, .int .i64 y1, .string y2, .slice y3 y4 y5] 35))) := (Below.refl _ _).alloc (Nat.le_refl _) _
      have HT := hide ((hT.below hbw).below (unhide HG))
      have HBW := hide hbw
      clear hT HK HKI HSZ hbw
      generalize ks[k] = tk at *
      clear g1
      have hml : (k : Int) < (len : Int) := by omega
      cases hsv : rightT tk with
      | true =>
        rw [hsv] at HCT HD
        clear hsv
        go_wp2_with fail
        refine (unhide HCT _ (unhide HT) (unhide HZ)).mono ?_
        rintro e w4 ⟨rfl, hb4⟩
        go_wp2_with fail
        go_roundw
        case rel => exact ⟨k + 1, by omega, by go_num, by rw [unhide HC, unhide HD, Bool.true_and], below_alls (below_alls (unhide HBW) (unhide HG) (unhide HBW).size) hb4 (by have := (unhide HBW).size; simp; omega)⟩
        case measure => simp [intOf]; omega
      | false =>
        rw [hsv] at HCT HD
        clear hsv
        go_wp2_with fail
        refine (unhide HCT _ (unhide HT) (unhide HZ)).mono ?_
        rintro e w4 ⟨rfl, hb4⟩
        go_wp2_with fail
        go_ret
        exact ⟨ret_bool (by rw [unhide HC, unhide HD, Bool.false_and]), below_alls (below_alls (unhide HBW) (unhide HG) (unhide HBW).size) hb4 (by have := (unhide HBW).size; simp; omega)⟩
    · have HE : Hid (bb = true) := unhide HRL k (unhide HC) (by have := unhide HL; omega)
      go_wp2_with fail
      go_ret
      exact ⟨ret_bool (unhide HE).symm, hbw⟩

set_option maxRecDepth 100000 in
set_option maxHeartbeats 2000000 in
theorem as_yes4 (ks : List Tm) (hkids : ∀ x ∈ ks, AsOk x) (n : Int) (s : ByteArray) (a : Option Addr) (len cap : Nat) (w : World) (hk : LiesAll w 0 a 0 ks) (hlen : ks.length = len) (hsz : Tm.sizes ks ≤ 2097152) (hs : ∀ v : World, Below w.heap.size w v → Calls Tryz.prog 114 #[.agg #[.int .i64 4, .int .i64 n, .string s, .slice a len cap]] v fun e w' => e = .returned (.bool true) ∧ Below v.heap.size v w') :
    Calls Tryz.prog 33 #[.agg #[.int .i64 4, .int .i64 n, .string s, .slice a len cap]] w fun e w' => e = .returned (.bool (rightL ks)) ∧ Below w.heap.size w w' := by
  have hlb : len ≤ 2097152 := by have := Tm.length_le_sizes ks; omega
  have HS := hide hs
  have hm := meth52 n s a len cap
  have HL := hide hlen
  have HK := hide hk
  have HKI := hide hkids
  have HSZ : Hid (∀ k (hk : k < ks.length), (ks[k]).size ≤ 2097152) := fun k hk => by have := Tm.size_mem (List.getElem_mem hk); omega
  have HB0 := hide (box_cell w #[.int .i64 4, .int .i64 n, .string s, .slice a len cap] 35 3 _ rfl)
  have HW1 : Hid (Below w.heap.size w (w.alloc (.cells #[.int .i64 4, .int .i64 n, .string s, .slice a len cap] 35))) := (Below.refl _ _).alloc (Nat.le_refl _) _
  have HRL : Hid (∀ k, rightL ks = rightL (ks.drop k) → ks.length ≤ k → rightL ks = true) := fun k e hl => by
    rw [e, List.drop_of_length_le hl]
    rfl
  clear hs hk hkids hsz hlen
  generalize hbb : rightL ks = bb at *
  have HBB := hide hbb
  clear hbb
  go_enter Tryz.func33, Tryz.ntmps33
  go_wp2_with fail
  refine (kind27_4 n s a len cap _).mono ?_
  rintro e w2 ⟨rfl, hb2⟩
  have HC2 := hide (keepc hb2 (unhide HB0))
  have HW2 := hide ((unhide HW1).trans (hb2.mono (unhide HW1).size))
  clear hb2 HB0 HW1
  go_wp2_with fail
  refine (unhide HS _ (unhide HW2)).mono ?_
  rintro e w3 ⟨rfl, hb3⟩
  have c3 := keepc hb3 (unhide HC2)
  have HW3 := hide ((unhide HW2).trans (hb3.mono (unhide HW2).size))
  clear hb3 HC2 HW2 HS hm
  go_wp2_with fail
  go_loopw [12] (fun i wr => ∃ k : Nat, k ≤ len ∧ i = .int .i64 k ∧ bb = rightL (ks.drop k) ∧ Below w.heap.size w wr) (fun i _ => len - (intOf i).toNat)
  case atStart => exact ⟨0, Nat.zero_le _, rfl, by rw [List.drop_zero]; exact (unhide HBB).symm, unhide HW3⟩
  case round =>
    obtain ⟨k, hkl, rfl, hC, hbw⟩ := hrel
    have HC := hide hC
    clear hC c3 HW3
    by_cases hlt : k < len
    · have g1 : k < ks.length := by have := unhide HL; omega
      have HD := hide (rightL_drop g1)
      obtain ⟨b, o, y0, y1, y2, y3, y4, y5, rfl, _, _, c0, c1, c2, c3, hT⟩ := (unhide HK).elem (k := k) g1
      have c0 := keepc hbw c0
      have c1 := keepc hbw c1
      have c2 := keepc hbw c2
      have c3 := keepc hbw c3
      have HCT := hide (unhide HKI ks[k] (List.getElem_mem g1) y0 y1 y2 y3 y4 y5)
      have HZ := hide (unhide HSZ k g1)
      have HG : Hid (Below wr.heap.size wr (wr.alloc (.cells #[.int .i64 y0, .int .i64 y1, .string y2, .slice y3 y4 y5] 35))) := (Below.refl _ _).alloc (Nat.le_refl _) _
      have HT := hide ((hT.below hbw).below (unhide HG))
      have HBW := hide hbw
      clear hT HK HKI HSZ hbw
      generalize ks[k] = tk at *
      clear g1
      have hml : (k : Int) < (len : Int) := by omega
      cases hsv : rightT tk with
      | true =>
        rw [hsv] at HCT HD
        clear hsv
        go_wp2_with fail
        refine (unhide HCT _ (unhide HT) (unhide HZ)).mono ?_
        rintro e w4 ⟨rfl, hb4⟩
        go_wp2_with fail
        go_roundw
        case rel => exact ⟨k + 1, by omega, by go_num, by rw [unhide HC, unhide HD, Bool.true_and], below_alls (below_alls (unhide HBW) (unhide HG) (unhide HBW).size) hb4 (by have := (unhide HBW).size; simp; omega)⟩
        case measure => simp [intOf]; omega
      | false =>
        rw [hsv] at HCT HD
        clear hsv
        go_wp2_with fail
        refine (unhide HCT _ (unhide HT) (unhide HZ)).mono ?_
        rintro e w4 ⟨rfl, hb4⟩
        go_wp2_with fail
        go_ret
        exact ⟨ret_bool (by rw [unhide HC, unhide HD, Bool.false_and]), below_alls (below_alls (unhide HBW) (unhide HG) (unhide HBW).size) hb4 (by have := (unhide HBW).size; simp; omega)⟩
    · have HE : Hid (bb = true) := unhide HRL k (unhide HC) (by have := unhide HL; omega)
      go_wp2_with fail
      go_ret
      exact ⟨ret_bool (unhide HE).symm, hbw⟩

set_option maxRecDepth 100000 in
set_option maxHeartbeats 2000000 in
theorem as_yes5 (ks : List Tm) (hkids : ∀ x ∈ ks, AsOk x) (n : Int) (s : ByteArray) (a : Option Addr) (len cap : Nat) (w : World) (hk : LiesAll w 0 a 0 ks) (hlen : ks.length = len) (hsz : Tm.sizes ks ≤ 2097152) (hs : ∀ v : World, Below w.heap.size w v → Calls Tryz.prog 115 #[.agg #[.int .i64 5, .int .i64 n, .string s, .slice a len cap]] v fun e w' => e = .returned (.bool true) ∧ Below v.heap.size v w') :
    Calls Tryz.prog 33 #[.agg #[.int .i64 5, .int .i64 n, .string s, .slice a len cap]] w fun e w' => e = .returned (.bool (rightL ks)) ∧ Below w.heap.size w w' := by
  have hlb : len ≤ 2097152 := by have := Tm.length_le_sizes ks; omega
  have HS := hide hs
  have hm := meth53 n s a len cap
  have HL := hide hlen
  have HK := hide hk
  have HKI := hide hkids
  have HSZ : Hid (∀ k (hk : k < ks.length), (ks[k]).size ≤ 2097152) := fun k hk => by have := Tm.size_mem (List.getElem_mem hk); omega
  have HB0 := hide (box_cell w #[.int .i64 5, .int .i64 n, .string s, .slice a len cap] 35 3 _ rfl)
  have HW1 : Hid (Below w.heap.size w (w.alloc (.cells #[.int .i64 5, .int .i64 n, .string s, .slice a len cap] 35))) := (Below.refl _ _).alloc (Nat.le_refl _) _
  have HRL : Hid (∀ k, rightL ks = rightL (ks.drop k) → ks.length ≤ k → rightL ks = true) := fun k e hl => by
    rw [e, List.drop_of_length_le hl]
    rfl
  clear hs hk hkids hsz hlen
  generalize hbb : rightL ks = bb at *
  have HBB := hide hbb
  clear hbb
  go_enter Tryz.func33, Tryz.ntmps33
  go_wp2_with fail
  refine (kind27_5 n s a len cap _).mono ?_
  rintro e w2 ⟨rfl, hb2⟩
  have HC2 := hide (keepc hb2 (unhide HB0))
  have HW2 := hide ((unhide HW1).trans (hb2.mono (unhide HW1).size))
  clear hb2 HB0 HW1
  go_wp2_with fail
  refine (unhide HS _ (unhide HW2)).mono ?_
  rintro e w3 ⟨rfl, hb3⟩
  have c3 := keepc hb3 (unhide HC2)
  have HW3 := hide ((unhide HW2).trans (hb3.mono (unhide HW2).size))
  clear hb3 HC2 HW2 HS hm
  go_wp2_with fail
  go_loopw [12] (fun i wr => ∃ k : Nat, k ≤ len ∧ i = .int .i64 k ∧ bb = rightL (ks.drop k) ∧ Below w.heap.size w wr) (fun i _ => len - (intOf i).toNat)
  case atStart => exact ⟨0, Nat.zero_le _, rfl, by rw [List.drop_zero]; exact (unhide HBB).symm, unhide HW3⟩
  case round =>
    obtain ⟨k, hkl, rfl, hC, hbw⟩ := hrel
    have HC := hide hC
    clear hC c3 HW3
    by_cases hlt : k < len
    · have g1 : k < ks.length := by have := unhide HL; omega
      have HD := hide (rightL_drop g1)
      obtain ⟨b, o, y0, y1, y2, y3, y4, y5, rfl, _, _, c0, c1, c2, c3, hT⟩ := (unhide HK).elem (k := k) g1
      have c0 := keepc hbw c0
      have c1 := keepc hbw c1
      have c2 := keepc hbw c2
      have c3 := keepc hbw c3
      have HCT := hide (unhide HKI ks[k] (List.getElem_mem g1) y0 y1 y2 y3 y4 y5)
      have HZ := hide (unhide HSZ k g1)
      have HG : Hid (Below wr.heap.size wr (wr.alloc (.cells #[.int .i64 y0, .int .i64 y1, .string y2, .slice y3 y4 y5] 35))) := (Below.refl _ _).alloc (Nat.le_refl _) _
      have HT := hide ((hT.below hbw).below (unhide HG))
      have HBW := hide hbw
      clear hT HK HKI HSZ hbw
      generalize ks[k] = tk at *
      clear g1
      have hml : (k : Int) < (len : Int) := by omega
      cases hsv : rightT tk with
      | true =>
        rw [hsv] at HCT HD
        clear hsv
        go_wp2_with fail
        refine (unhide HCT _ (unhide HT) (unhide HZ)).mono ?_
        rintro e w4 ⟨rfl, hb4⟩
        go_wp2_with fail
        go_roundw
        case rel => exact ⟨k + 1, by omega, by go_num, by rw [unhide HC, unhide HD, Bool.true_and], below_alls (below_alls (unhide HBW) (unhide HG) (unhide HBW).size) hb4 (by have := (unhide HBW).size; simp; omega)⟩
        case measure => simp [intOf]; omega
      | false =>
        rw [hsv] at HCT HD
        clear hsv
        go_wp2_with fail
        refine (unhide HCT _ (unhide HT) (unhide HZ)).mono ?_
        rintro e w4 ⟨rfl, hb4⟩
        go_wp2_with fail
        go_ret
        exact ⟨ret_bool (by rw [unhide HC, unhide HD, Bool.false_and]), below_alls (below_alls (unhide HBW) (unhide HG) (unhide HBW).size) hb4 (by have := (unhide HBW).size; simp; omega)⟩
    · have HE : Hid (bb = true) := unhide HRL k (unhide HC) (by have := unhide HL; omega)
      go_wp2_with fail
      go_ret
      exact ⟨ret_bool (unhide HE).symm, hbw⟩

set_option maxRecDepth 100000 in
set_option maxHeartbeats 2000000 in
theorem as_yes6 (ks : List Tm) (hkids : ∀ x ∈ ks, AsOk x) (n : Int) (s : ByteArray) (a : Option Addr) (len cap : Nat) (w : World) (hk : LiesAll w 0 a 0 ks) (hlen : ks.length = len) (hsz : Tm.sizes ks ≤ 2097152) (hs : ∀ v : World, Below w.heap.size w v → Calls Tryz.prog 122 #[.agg #[.int .i64 6, .int .i64 n, .string s, .slice a len cap]] v fun e w' => e = .returned (.bool true) ∧ Below v.heap.size v w') :
    Calls Tryz.prog 33 #[.agg #[.int .i64 6, .int .i64 n, .string s, .slice a len cap]] w fun e w' => e = .returned (.bool (rightL ks)) ∧ Below w.heap.size w w' := by
  have hlb : len ≤ 2097152 := by have := Tm.length_le_sizes ks; omega
  have HS := hide hs
  have hm := meth54 n s a len cap
  have HL := hide hlen
  have HK := hide hk
  have HKI := hide hkids
  have HSZ : Hid (∀ k (hk : k < ks.length), (ks[k]).size ≤ 2097152) := fun k hk => by have := Tm.size_mem (List.getElem_mem hk); omega
  have HB0 := hide (box_cell w #[.int .i64 6, .int .i64 n, .string s, .slice a len cap] 35 3 _ rfl)
  have HW1 : Hid (Below w.heap.size w (w.alloc (.cells #[.int .i64 6, .int .i64 n, .string s, .slice a len cap] 35))) := (Below.refl _ _).alloc (Nat.le_refl _) _
  have HRL : Hid (∀ k, rightL ks = rightL (ks.drop k) → ks.length ≤ k → rightL ks = true) := fun k e hl => by
    rw [e, List.drop_of_length_le hl]
    rfl
  clear hs hk hkids hsz hlen
  generalize hbb : rightL ks = bb at *
  have HBB := hide hbb
  clear hbb
  go_enter Tryz.func33, Tryz.ntmps33
  go_wp2_with fail
  refine (kind27_6 n s a len cap _).mono ?_
  rintro e w2 ⟨rfl, hb2⟩
  have HC2 := hide (keepc hb2 (unhide HB0))
  have HW2 := hide ((unhide HW1).trans (hb2.mono (unhide HW1).size))
  clear hb2 HB0 HW1
  go_wp2_with fail
  refine (unhide HS _ (unhide HW2)).mono ?_
  rintro e w3 ⟨rfl, hb3⟩
  have c3 := keepc hb3 (unhide HC2)
  have HW3 := hide ((unhide HW2).trans (hb3.mono (unhide HW2).size))
  clear hb3 HC2 HW2 HS hm
  go_wp2_with fail
  go_loopw [12] (fun i wr => ∃ k : Nat, k ≤ len ∧ i = .int .i64 k ∧ bb = rightL (ks.drop k) ∧ Below w.heap.size w wr) (fun i _ => len - (intOf i).toNat)
  case atStart => exact ⟨0, Nat.zero_le _, rfl, by rw [List.drop_zero]; exact (unhide HBB).symm, unhide HW3⟩
  case round =>
    obtain ⟨k, hkl, rfl, hC, hbw⟩ := hrel
    have HC := hide hC
    clear hC c3 HW3
    by_cases hlt : k < len
    · have g1 : k < ks.length := by have := unhide HL; omega
      have HD := hide (rightL_drop g1)
      obtain ⟨b, o, y0, y1, y2, y3, y4, y5, rfl, _, _, c0, c1, c2, c3, hT⟩ := (unhide HK).elem (k := k) g1
      have c0 := keepc hbw c0
      have c1 := keepc hbw c1
      have c2 := keepc hbw c2
      have c3 := keepc hbw c3
      have HCT := hide (unhide HKI ks[k] (List.getElem_mem g1) y0 y1 y2 y3 y4 y5)
      have HZ := hide (unhide HSZ k g1)
      have HG : Hid (Below wr.heap.size wr (wr.alloc (.cells #[.int .i64 y0, .int .i64 y1, .string y2, .slice y3 y4 y5] 35))) := (Below.refl _ _).alloc (Nat.le_refl _) _
      have HT := hide ((hT.below hbw).below (unhide HG))
      have HBW := hide hbw
      clear hT HK HKI HSZ hbw
      generalize ks[k] = tk at *
      clear g1
      have hml : (k : Int) < (len : Int) := by omega
      cases hsv : rightT tk with
      | true =>
        rw [hsv] at HCT HD
        clear hsv
        go_wp2_with fail
        refine (unhide HCT _ (unhide HT) (unhide HZ)).mono ?_
        rintro e w4 ⟨rfl, hb4⟩
        go_wp2_with fail
        go_roundw
        case rel => exact ⟨k + 1, by omega, by go_num, by rw [unhide HC, unhide HD, Bool.true_and], below_alls (below_alls (unhide HBW) (unhide HG) (unhide HBW).size) hb4 (by have := (unhide HBW).size; simp; omega)⟩
        case measure => simp [intOf]; omega
      | false =>
        rw [hsv] at HCT HD
        clear hsv
        go_wp2_with fail
        refine (unhide HCT _ (unhide HT) (unhide HZ)).mono ?_
        rintro e w4 ⟨rfl, hb4⟩
        go_wp2_with fail
        go_ret
        exact ⟨ret_bool (by rw [unhide HC, unhide HD, Bool.false_and]), below_alls (below_alls (unhide HBW) (unhide HG) (unhide HBW).size) hb4 (by have := (unhide HBW).size; simp; omega)⟩
    · have HE : Hid (bb = true) := unhide HRL k (unhide HC) (by have := unhide HL; omega)
      go_wp2_with fail
      go_ret
      exact ⟨ret_bool (unhide HE).symm, hbw⟩

set_option maxRecDepth 100000 in
set_option maxHeartbeats 2000000 in
theorem as_yes7 (ks : List Tm) (hkids : ∀ x ∈ ks, AsOk x) (n : Int) (s : ByteArray) (a : Option Addr) (len cap : Nat) (w : World) (hk : LiesAll w 0 a 0 ks) (hlen : ks.length = len) (hsz : Tm.sizes ks ≤ 2097152) (hs : ∀ v : World, Below w.heap.size w v → Calls Tryz.prog 123 #[.agg #[.int .i64 7, .int .i64 n, .string s, .slice a len cap]] v fun e w' => e = .returned (.bool true) ∧ Below v.heap.size v w') :
    Calls Tryz.prog 33 #[.agg #[.int .i64 7, .int .i64 n, .string s, .slice a len cap]] w fun e w' => e = .returned (.bool (rightL ks)) ∧ Below w.heap.size w w' := by
  have hlb : len ≤ 2097152 := by have := Tm.length_le_sizes ks; omega
  have HS := hide hs
  have hm := meth55 n s a len cap
  have HL := hide hlen
  have HK := hide hk
  have HKI := hide hkids
  have HSZ : Hid (∀ k (hk : k < ks.length), (ks[k]).size ≤ 2097152) := fun k hk => by have := Tm.size_mem (List.getElem_mem hk); omega
  have HB0 := hide (box_cell w #[.int .i64 7, .int .i64 n, .string s, .slice a len cap] 35 3 _ rfl)
  have HW1 : Hid (Below w.heap.size w (w.alloc (.cells #[.int .i64 7, .int .i64 n, .string s, .slice a len cap] 35))) := (Below.refl _ _).alloc (Nat.le_refl _) _
  have HRL : Hid (∀ k, rightL ks = rightL (ks.drop k) → ks.length ≤ k → rightL ks = true) := fun k e hl => by
    rw [e, List.drop_of_length_le hl]
    rfl
  clear hs hk hkids hsz hlen
  generalize hbb : rightL ks = bb at *
  have HBB := hide hbb
  clear hbb
  go_enter Tryz.func33, Tryz.ntmps33
  go_wp2_with fail
  refine (kind27_7 n s a len cap _).mono ?_
  rintro e w2 ⟨rfl, hb2⟩
  have HC2 := hide (keepc hb2 (unhide HB0))
  have HW2 := hide ((unhide HW1).trans (hb2.mono (unhide HW1).size))
  clear hb2 HB0 HW1
  go_wp2_with fail
  refine (unhide HS _ (unhide HW2)).mono ?_
  rintro e w3 ⟨rfl, hb3⟩
  have c3 := keepc hb3 (unhide HC2)
  have HW3 := hide ((unhide HW2).trans (hb3.mono (unhide HW2).size))
  clear hb3 HC2 HW2 HS hm
  go_wp2_with fail
  go_loopw [12] (fun i wr => ∃ k : Nat, k ≤ len ∧ i = .int .i64 k ∧ bb = rightL (ks.drop k) ∧ Below w.heap.size w wr) (fun i _ => len - (intOf i).toNat)
  case atStart => exact ⟨0, Nat.zero_le _, rfl, by rw [List.drop_zero]; exact (unhide HBB).symm, unhide HW3⟩
  case round =>
    obtain ⟨k, hkl, rfl, hC, hbw⟩ := hrel
    have HC := hide hC
    clear hC c3 HW3
    by_cases hlt : k < len
    · have g1 : k < ks.length := by have := unhide HL; omega
      have HD := hide (rightL_drop g1)
      obtain ⟨b, o, y0, y1, y2, y3, y4, y5, rfl, _, _, c0, c1, c2, c3, hT⟩ := (unhide HK).elem (k := k) g1
      have c0 := keepc hbw c0
      have c1 := keepc hbw c1
      have c2 := keepc hbw c2
      have c3 := keepc hbw c3
      have HCT := hide (unhide HKI ks[k] (List.getElem_mem g1) y0 y1 y2 y3 y4 y5)
      have HZ := hide (unhide HSZ k g1)
      have HG : Hid (Below wr.heap.size wr (wr.alloc (.cells #[.int .i64 y0, .int .i64 y1, .string y2, .slice y3 y4 y5] 35))) := (Below.refl _ _).alloc (Nat.le_refl _) _
      have HT := hide ((hT.below hbw).below (unhide HG))
      have HBW := hide hbw
      clear hT HK HKI HSZ hbw
      generalize ks[k] = tk at *
      clear g1
      have hml : (k : Int) < (len : Int) := by omega
      cases hsv : rightT tk with
      | true =>
        rw [hsv] at HCT HD
        clear hsv
        go_wp2_with fail
        refine (unhide HCT _ (unhide HT) (unhide HZ)).mono ?_
        rintro e w4 ⟨rfl, hb4⟩
        go_wp2_with fail
        go_roundw
        case rel => exact ⟨k + 1, by omega, by go_num, by rw [unhide HC, unhide HD, Bool.true_and], below_alls (below_alls (unhide HBW) (unhide HG) (unhide HBW).size) hb4 (by have := (unhide HBW).size; simp; omega)⟩
        case measure => simp [intOf]; omega
      | false =>
        rw [hsv] at HCT HD
        clear hsv
        go_wp2_with fail
        refine (unhide HCT _ (unhide HT) (unhide HZ)).mono ?_
        rintro e w4 ⟨rfl, hb4⟩
        go_wp2_with fail
        go_ret
        exact ⟨ret_bool (by rw [unhide HC, unhide HD, Bool.false_and]), below_alls (below_alls (unhide HBW) (unhide HG) (unhide HBW).size) hb4 (by have := (unhide HBW).size; simp; omega)⟩
    · have HE : Hid (bb = true) := unhide HRL k (unhide HC) (by have := unhide HL; omega)
      go_wp2_with fail
      go_ret
      exact ⟨ret_bool (unhide HE).symm, hbw⟩

set_option maxRecDepth 100000 in
set_option maxHeartbeats 2000000 in
theorem as_yes8 (ks : List Tm) (hkids : ∀ x ∈ ks, AsOk x) (n : Int) (s : ByteArray) (a : Option Addr) (len cap : Nat) (w : World) (hk : LiesAll w 0 a 0 ks) (hlen : ks.length = len) (hsz : Tm.sizes ks ≤ 2097152) (hs : ∀ v : World, Below w.heap.size w v → Calls Tryz.prog 124 #[.agg #[.int .i64 8, .int .i64 n, .string s, .slice a len cap]] v fun e w' => e = .returned (.bool true) ∧ Below v.heap.size v w') :
    Calls Tryz.prog 33 #[.agg #[.int .i64 8, .int .i64 n, .string s, .slice a len cap]] w fun e w' => e = .returned (.bool (rightL ks)) ∧ Below w.heap.size w w' := by
  have hlb : len ≤ 2097152 := by have := Tm.length_le_sizes ks; omega
  have HS := hide hs
  have hm := meth56 n s a len cap
  have HL := hide hlen
  have HK := hide hk
  have HKI := hide hkids
  have HSZ : Hid (∀ k (hk : k < ks.length), (ks[k]).size ≤ 2097152) := fun k hk => by have := Tm.size_mem (List.getElem_mem hk); omega
  have HB0 := hide (box_cell w #[.int .i64 8, .int .i64 n, .string s, .slice a len cap] 35 3 _ rfl)
  have HW1 : Hid (Below w.heap.size w (w.alloc (.cells #[.int .i64 8, .int .i64 n, .string s, .slice a len cap] 35))) := (Below.refl _ _).alloc (Nat.le_refl _) _
  have HRL : Hid (∀ k, rightL ks = rightL (ks.drop k) → ks.length ≤ k → rightL ks = true) := fun k e hl => by
    rw [e, List.drop_of_length_le hl]
    rfl
  clear hs hk hkids hsz hlen
  generalize hbb : rightL ks = bb at *
  have HBB := hide hbb
  clear hbb
  go_enter Tryz.func33, Tryz.ntmps33
  go_wp2_with fail
  refine (kind27_8 n s a len cap _).mono ?_
  rintro e w2 ⟨rfl, hb2⟩
  have HC2 := hide (keepc hb2 (unhide HB0))
  have HW2 := hide ((unhide HW1).trans (hb2.mono (unhide HW1).size))
  clear hb2 HB0 HW1
  go_wp2_with fail
  refine (unhide HS _ (unhide HW2)).mono ?_
  rintro e w3 ⟨rfl, hb3⟩
  have c3 := keepc hb3 (unhide HC2)
  have HW3 := hide ((unhide HW2).trans (hb3.mono (unhide HW2).size))
  clear hb3 HC2 HW2 HS hm
  go_wp2_with fail
  go_loopw [12] (fun i wr => ∃ k : Nat, k ≤ len ∧ i = .int .i64 k ∧ bb = rightL (ks.drop k) ∧ Below w.heap.size w wr) (fun i _ => len - (intOf i).toNat)
  case atStart => exact ⟨0, Nat.zero_le _, rfl, by rw [List.drop_zero]; exact (unhide HBB).symm, unhide HW3⟩
  case round =>
    obtain ⟨k, hkl, rfl, hC, hbw⟩ := hrel
    have HC := hide hC
    clear hC c3 HW3
    by_cases hlt : k < len
    · have g1 : k < ks.length := by have := unhide HL; omega
      have HD := hide (rightL_drop g1)
      obtain ⟨b, o, y0, y1, y2, y3, y4, y5, rfl, _, _, c0, c1, c2, c3, hT⟩ := (unhide HK).elem (k := k) g1
      have c0 := keepc hbw c0
      have c1 := keepc hbw c1
      have c2 := keepc hbw c2
      have c3 := keepc hbw c3
      have HCT := hide (unhide HKI ks[k] (List.getElem_mem g1) y0 y1 y2 y3 y4 y5)
      have HZ := hide (unhide HSZ k g1)
      have HG : Hid (Below wr.heap.size wr (wr.alloc (.cells #[.int .i64 y0, .int .i64 y1, .string y2, .slice y3 y4 y5] 35))) := (Below.refl _ _).alloc (Nat.le_refl _) _
      have HT := hide ((hT.below hbw).below (unhide HG))
      have HBW := hide hbw
      clear hT HK HKI HSZ hbw
      generalize ks[k] = tk at *
      clear g1
      have hml : (k : Int) < (len : Int) := by omega
      cases hsv : rightT tk with
      | true =>
        rw [hsv] at HCT HD
        clear hsv
        go_wp2_with fail
        refine (unhide HCT _ (unhide HT) (unhide HZ)).mono ?_
        rintro e w4 ⟨rfl, hb4⟩
        go_wp2_with fail
        go_roundw
        case rel => exact ⟨k + 1, by omega, by go_num, by rw [unhide HC, unhide HD, Bool.true_and], below_alls (below_alls (unhide HBW) (unhide HG) (unhide HBW).size) hb4 (by have := (unhide HBW).size; simp; omega)⟩
        case measure => simp [intOf]; omega
      | false =>
        rw [hsv] at HCT HD
        clear hsv
        go_wp2_with fail
        refine (unhide HCT _ (unhide HT) (unhide HZ)).mono ?_
        rintro e w4 ⟨rfl, hb4⟩
        go_wp2_with fail
        go_ret
        exact ⟨ret_bool (by rw [unhide HC, unhide HD, Bool.false_and]), below_alls (below_alls (unhide HBW) (unhide HG) (unhide HBW).size) hb4 (by have := (unhide HBW).size; simp; omega)⟩
    · have HE : Hid (bb = true) := unhide HRL k (unhide HC) (by have := unhide HL; omega)
      go_wp2_with fail
      go_ret
      exact ⟨ret_bool (unhide HE).symm, hbw⟩

end Go.Proofs.YteminklafghgpaaGreatDoor
