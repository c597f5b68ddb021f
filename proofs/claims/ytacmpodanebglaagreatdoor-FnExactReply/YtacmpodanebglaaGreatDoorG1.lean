
/- The walks of spec.Both and impl.Both: the hash of two terms in a row, where that is right, else the zero term; the second in new blocks of its own; nothing that was there is written. -/
import Derived.Test.YtacmpodanebglaaGreatDoorG0
import Derived.Test.YtacmpodanebglaaGreatDoorKo
import Derived.Deep.RegionHeld3
import Derived.Deep.RegionWith
namespace Go.Proofs.YtacmpodanebglaaGreatDoor
open Go.RowKit Go.Deep

/-- What is signed: the hash of the pair of both. -/
def bothT (t u : Tm) : Tm := madeT 6 [madeT 3 [t, u]]

theorem zeroT_bad (op n : Int) (s : ByteArray) : okT (.node op n s [.node 0 0 ByteArray.empty []]) = false := by
  cases h : okT (.node op n s [.node 0 0 ByteArray.empty []]) with
  | false => rfl
  | true =>
    have := okT_kid h (List.mem_singleton.2 rfl)
    revert this
    decide
theorem made_one (op o : Int) (ks : List Tm) : madeT op [madeT o ks] = madeT op [.node o 0 ByteArray.empty ks] := by
  cases h : okT (.node o 0 ByteArray.empty ks) with
  | true => simp only [madeT, h, pickT, if_true]
  | false =>
    have h1 : madeT o ks = .node 0 0 ByteArray.empty [] := by simp [madeT, h, pickT]
    have h2 : okT (.node op 0 ByteArray.empty [.node o 0 ByteArray.empty ks]) = false := by
      cases h3 : okT (.node op 0 ByteArray.empty [.node o 0 ByteArray.empty ks]) with
      | false => rfl
      | true =>
        rw [okT_kid h3 (List.mem_singleton.2 rfl)] at h
        cases h
    rw [h1]
    simp only [madeT, zeroT_bad, h2, pickT, Bool.false_eq_true, if_false]
theorem both_two (t u : Tm) : madeT 6 [twoT t u] = bothT t u := (made_one 6 3 [t, u]).symm

set_option maxRecDepth 100000 in
set_option maxHeartbeats 2000000 in
theorem bothS (t u : Tm) (op n : Int) (s : ByteArray) (a : Option Addr) (len cap : Nat) (op2 n2 : Int) (s2 : ByteArray) (a2 : Option Addr) (len2 cap2 : Nat) (w : World) (hl : Lies w 0 t (tmCells op n s a len cap)) (hl2 : Lies w 0 u (tmCells op2 n2 s2 a2 len2 cap2)) (hsz : t.size + u.size ≤ 2097140) :
    Calls Tryz.prog 22 #[.agg #[.int .i64 op, .int .i64 n, .string s, .slice a len cap], .agg #[.int .i64 op2, .int .i64 n2, .string s2, .slice a2 len2 cap2]] w fun e w' => ∃ op' n' s' a' len' cap', e = .returned (.agg #[.int .i64 op', .int .i64 n', .string s', .slice a' len' cap']) ∧ Lies w' w.heap.size (bothT t u) (tmCells op' n' s' a' len' cap') ∧ Below w.heap.size w w' := by
  have h22 := hide (pair12 t u op n s a len cap op2 n2 s2 a2 len2 cap2)
  have h21 := hide (hash15 (madeT 3 [t, u]))
  have HZ2 : Hid ((madeT 3 [t, u]).size ≤ 2097151) := by
    show _ ≤ _
    have := madeT_le 3 [t, u]
    simp only [Tm.sizes] at this
    omega
  have HZ1 : Hid (t.size + u.size ≤ 2097151) := by show _ ≤ _; omega
  have HE : Hid (bothT t u = madeT 6 [madeT 3 [t, u]]) := rfl
  generalize bothT t u = ST at *
  generalize madeT 3 [t, u] = PT at *
  have hB0 : Below w.heap.size w (((w.alloc (.cells #[.int .i64 op, .int .i64 n, .string s, .slice a len cap] 28)).alloc (.cells #[.int .i64 op2, .int .i64 n2, .string s2, .slice a2 len2 cap2] 28)).alloc (.cells #[.int .i64 0, .int .i64 0, .string ByteArray.empty, .slice none 0 0] 28)) := bt (bt (ab _) (ab _) (Nat.le_refl _)) (ab _) (Nat.le_refl _)
  have HX : Hid (ZBox (((w.alloc (.cells #[.int .i64 op, .int .i64 n, .string s, .slice a len cap] 28)).alloc (.cells #[.int .i64 op2, .int .i64 n2, .string s2, .slice a2 len2 cap2] 28)).alloc (.cells #[.int .i64 0, .int .i64 0, .string ByteArray.empty, .slice none 0 0] 28)) (w.heap.size + 1 + 1)) := by
    have := ZBox.new ((w.alloc (.cells #[.int .i64 op, .int .i64 n, .string s, .slice a len cap] 28)).alloc (.cells #[.int .i64 op2, .int .i64 n2, .string s2, .slice a2 len2 cap2] 28))
    rwa [heap_size_alloc, heap_size_alloc] at this
  have HS0 : Hid ((((w.alloc (.cells #[.int .i64 op, .int .i64 n, .string s, .slice a len cap] 28)).alloc (.cells #[.int .i64 op2, .int .i64 n2, .string s2, .slice a2 len2 cap2] 28)).alloc (.cells #[.int .i64 0, .int .i64 0, .string ByteArray.empty, .slice none 0 0] 28)).heap.size = w.heap.size + 3) := by show _ = _; simp
  have HLA := hide (hl.below hB0)
  have HLB := hide (hl2.below hB0)
  have HB0 := hide hB0
  clear hl hl2 hsz hB0
  go_enter Tryz.func22, Tryz.ntmps22
  go_wp2_with fail
  refine (unhide h22 _ (unhide HLA) (unhide HLB) (unhide HZ1)).mono ?_
  rintro e w2 ⟨op3, n3, s3, a3, len3, cap3, rfl, hL2, hb2, -⟩
  have HB2 := hide (bt (unhide HB0) hb2 (Nat.le_refl _))
  have HX2 := hide ((unhide HX).below hb2)
  have HL2 := hide (hL2.any (Nat.zero_le _))
  have HSZ : Hid (w.heap.size + 1 + 1 < w2.heap.size) := lt_of_heap (unhide HX2)
  clear hL2 hb2 HB0 HX HLA HLB
  go_wp2_with fail
  refine (unhide h21 _ _ _ _ _ _ _ (unhide HL2) (unhide HZ2)).mono ?_
  rintro e w4 ⟨op', n', s', a', len', cap', rfl, hL4, hb4, -⟩
  have HB4 := hide (bt (unhide HB2) hb4 (Nat.le_refl _))
  have HL4 := hide hL4
  obtain ⟨d0, d1, d2, d3, e0, e1, e2, e3⟩ := ((unhide HX2).below hb4).facts
  clear hL4 hb4 HB2 HX2
  go_wp2_with fail
  exact bodyPost_ret (v := .agg #[.int .i64 op', .int .i64 n', .string s', .slice a' len' cap']) (by simp [results, Tryz.results22, go_sem, d0, d1, d2, d3]) rfl ⟨op', n', s', a', len', cap', rfl, by rw [unhide HE]; exact set4_lies (unhide HL4) (by have := unhide HSZ; omega) w.heap.size (by have := unhide HSZ; omega), set4_below (unhide HB4) (by omega)⟩

set_option maxRecDepth 100000 in
set_option maxHeartbeats 2000000 in
theorem bothI (t u : Tm) (op n : Int) (s : ByteArray) (a : Option Addr) (len cap : Nat) (op2 n2 : Int) (s2 : ByteArray) (a2 : Option Addr) (len2 cap2 : Nat) (w : World) (hl : Lies w 0 t (tmCells op n s a len cap)) (hl2 : Lies w 0 u (tmCells op2 n2 s2 a2 len2 cap2)) (hsz : t.size + u.size ≤ 2097140) (herr : Err w) :
    Calls Tryz.prog 45 #[.agg #[.int .i64 op, .int .i64 n, .string s, .slice a len cap], .agg #[.int .i64 op2, .int .i64 n2, .string s2, .slice a2 len2 cap2]] w fun e w' => ∃ op' n' s' a' len' cap' fp, e = .returned (.agg #[.int .i64 op', .int .i64 n', .string s', .slice a' len' cap']) ∧ Own w' (bothT t u) (tmCells op' n' s' a' len' cap') fp ∧ (fp.Nodup ∧ ∀ x ∈ fp, w.heap.size ≤ x) ∧ Below w.heap.size w w' := by
  have h24 := hide (hash16 (twoT t u))
  have HZ2 : Hid ((twoT t u).size ≤ 2097151) := by
    show _ ≤ _
    simp only [twoT, Tm.size, Tm.sizes]
    omega
  have HE : Hid (bothT t u = madeT 6 [twoT t u]) := (both_two t u).symm
  generalize bothT t u = ST at *
  have hB0 : Below w.heap.size w (((w.alloc (.cells #[.int .i64 op, .int .i64 n, .string s, .slice a len cap] 28)).alloc (.cells #[.int .i64 op2, .int .i64 n2, .string s2, .slice a2 len2 cap2] 28)).alloc (.cells #[.int .i64 0, .int .i64 0, .string ByteArray.empty, .slice none 0 0] 28)) := bt (bt (ab _) (ab _) (Nat.le_refl _)) (ab _) (Nat.le_refl _)
  have HX : Hid (ZBox (((w.alloc (.cells #[.int .i64 op, .int .i64 n, .string s, .slice a len cap] 28)).alloc (.cells #[.int .i64 op2, .int .i64 n2, .string s2, .slice a2 len2 cap2] 28)).alloc (.cells #[.int .i64 0, .int .i64 0, .string ByteArray.empty, .slice none 0 0] 28)) (w.heap.size + 1 + 1)) := by
    have := ZBox.new ((w.alloc (.cells #[.int .i64 op, .int .i64 n, .string s, .slice a len cap] 28)).alloc (.cells #[.int .i64 op2, .int .i64 n2, .string s2, .slice a2 len2 cap2] 28))
    rwa [heap_size_alloc, heap_size_alloc] at this
  have HS0 : Hid ((((w.alloc (.cells #[.int .i64 op, .int .i64 n, .string s, .slice a len cap] 28)).alloc (.cells #[.int .i64 op2, .int .i64 n2, .string s2, .slice a2 len2 cap2] 28)).alloc (.cells #[.int .i64 0, .int .i64 0, .string ByteArray.empty, .slice none 0 0] 28)).heap.size = w.heap.size + 3) := by show _ = _; simp
  have HB0 := hide hB0
  have HER := hide (herr.on hB0)
  have hB1 := bt hB0 (ab (.cells #[.int .i64 op2, .int .i64 n2, .string s2, .slice a2 len2 cap2] 28)) (Nat.le_refl _)
  have HB1 := hide hB1
  have HX1 := hide ((unhide HX).below (ab (.cells #[.int .i64 op2, .int .i64 n2, .string s2, .slice a2 len2 cap2] 28)))
  have HR2 := hide (RowT.new 28 (((w.alloc (.cells #[.int .i64 op, .int .i64 n, .string s, .slice a len cap] 28)).alloc (.cells #[.int .i64 op2, .int .i64 n2, .string s2, .slice a2 len2 cap2] 28)).alloc (.cells #[.int .i64 0, .int .i64 0, .string ByteArray.empty, .slice none 0 0] 28)) op2 n2 s2 a2 len2 cap2)
  have h25 := hide (fun b r0 r1 r2 r3 => row1 t u op n s a len cap op2 n2 s2 a2 len2 cap2 b 0 w ((((w.alloc (.cells #[.int .i64 op, .int .i64 n, .string s, .slice a len cap] 28)).alloc (.cells #[.int .i64 op2, .int .i64 n2, .string s2, .slice a2 len2 cap2] 28)).alloc (.cells #[.int .i64 0, .int .i64 0, .string ByteArray.empty, .slice none 0 0] 28)).alloc (.cells #[.int .i64 op2, .int .i64 n2, .string s2, .slice a2 len2 cap2] 28)) hB1 hl hl2 r0 r1 r2 r3)
  clear hl hl2 hsz hB0 hB1 herr
  go_enter Tryz.func45, Tryz.ntmps45
  go_wp2_with fail
  obtain ⟨c0, c1, c2, c3⟩ := (unhide HR2).facts
  simp only [heap_size_alloc] at c0 c1 c2 c3
  refine (unhide h25 _ c0 c1 c2 c3).mono ?_
  rintro e w2 ⟨a9, rfl, hR2, hb2⟩
  have HL2 := hide (hR2 w2 (bt (unhide HB1) hb2 (Nat.le_refl _)) (fun _ _ _ => rfl))
  have HB2 := hide (bt (unhide HB1) hb2 (Nat.le_refl _))
  have HX2 := hide ((unhide HX1).below hb2)
  have HER2 := hide (((unhide HER).on (ab _)).on hb2)
  have HSZ : Hid (w.heap.size + 1 + 1 < w2.heap.size) := lt_of_heap (unhide HX2)
  clear hR2 hb2 c0 c1 c2 c3 HB0 HB1 HX HX1 HR2 HER
  go_wp2_with fail
  refine (unhide h24 _ _ _ _ _ _ _ (unhide HL2) (unhide HZ2) (unhide HER2)).mono ?_
  rintro e w4 ⟨op', n', s', a', len', cap', fp, rfl, hO4, ⟨hnd, hge⟩, hb4⟩
  have HB4 := hide (bt (unhide HB2) hb4 (Nat.le_refl _))
  have HO4 := hide hO4
  have HND := hide hnd
  have HGE := hide hge
  obtain ⟨d0, d1, d2, d3, e0, e1, e2, e3⟩ := ((unhide HX2).below hb4).facts
  clear hO4 hb4 hnd hge HB2 HX2
  go_wp2_with fail
  exact bodyPost_ret (v := .agg #[.int .i64 op', .int .i64 n', .string s', .slice a' len' cap']) (by simp [results, Tryz.results45, go_sem, d0, d1, d2, d3]) rfl ⟨op', n', s', a', len', cap', fp, rfl, by rw [unhide HE]; exact Own.keep _ _ _ (unhide HO4) (fun b hb => set4_heap _ _ _ _ _ _ b (by have := unhide HGE b hb; have := unhide HSZ; omega)), ⟨unhide HND, fun x hx => by have := unhide HGE x hx; have := unhide HSZ; omega⟩, set4_below (unhide HB4) (by omega)⟩


end Go.Proofs.YtacmpodanebglaaGreatDoor
