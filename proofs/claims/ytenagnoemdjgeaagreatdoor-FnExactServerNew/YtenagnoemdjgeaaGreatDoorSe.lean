
/- The walks of spec.l3Num and spec.Seal: the text of a number; of whatever two terms lie in memory the second, with a number ahead of it, sealed by the first, where that is right, else the zero term; nothing that was there is written. -/
import Derived.Test.YtenagnoemdjgeaaGreatDoorPr
import Derived.Test.YtenagnoemdjgeaaGreatDoorTx
namespace Go.Proofs.YtenagnoemdjgeaaGreatDoor
open Go.RowKit Go.Deep

/-- The text of a number. -/
def numT (m : Int) : Tm := .node 2 0 ⟨(Lib.itoa m).toArray⟩ []
set_option maxRecDepth 100000 in
theorem numT_size (m : Int) : (numT m).size = 1 := by simp [numT, Tm.size, Tm.sizes]
/-- What is sealed. -/
def sealT (k : Tm) (m : Int) (b : Tm) : Tm := madeT 7 [k, madeT 3 [numT m, b]]

set_option maxRecDepth 100000 in
theorem itoa_size (m : Int) (h0 : -9223372036854775808 ≤ m) (h1 : m ≤ 9223372036854775807) : (ByteArray.mk (Lib.itoa m).toArray).size ≤ maxLen := by
  have := Lib.itoa_length_le m h0 h1
  show (Lib.itoa m).toArray.size ≤ _
  simp [maxLen]
  omega

set_option maxRecDepth 100000 in
set_option maxHeartbeats 1000000 in
theorem num_calls (m : Int) (w : World) (h0 : -9223372036854775808 ≤ m) (h1 : m ≤ 9223372036854775807) :
    Calls Tryz.prog 65 #[.int .i64 m] w fun e w' => e = .returned (.agg #[.int .i64 2, .int .i64 0, .string ⟨(Lib.itoa m).toArray⟩, .slice none 0 0]) ∧ Below w.heap.size w w' := by
  have h59 := hide (digits_any m)
  have HX := hide (ZBox.new w)
  go_enter Tryz.func65, Tryz.ntmps65
  go_wp2_with fail
  refine (unhide h59 _ h0 h1).mono ?_
  rintro e w2 ⟨rfl, hb2⟩
  obtain ⟨d0, d1, d2, d3, e0, e1, e2, e3⟩ := ((unhide HX).below hb2).facts
  have HB := hide (bt (ab _) hb2 (Nat.le_refl _))
  clear hb2
  go_wp2_with fail
  exact bodyPost_ret (v := .agg #[.int .i64 2, .int .i64 0, .string ⟨(Lib.itoa m).toArray⟩, .slice none 0 0]) (by simp [results, Tryz.results65, go_sem, d0, d1, d2, d3]; try rfl) rfl ⟨rfl, set4_below (unhide HB) (Nat.le_refl _)⟩

set_option maxRecDepth 100000 in
set_option maxHeartbeats 2000000 in
theorem sealS (t u : Tm) (m : Int) (op n : Int) (s : ByteArray) (a : Option Addr) (len cap : Nat) (op2 n2 : Int) (s2 : ByteArray) (a2 : Option Addr) (len2 cap2 : Nat) (w : World) (hl : Lies w 0 t (tmCells op n s a len cap)) (hl2 : Lies w 0 u (tmCells op2 n2 s2 a2 len2 cap2)) (hsz : t.size + u.size ≤ 2097140) (h0 : -9223372036854775808 ≤ m) (h1 : m ≤ 9223372036854775807) :
    Calls Tryz.prog 75 #[.agg #[.int .i64 op, .int .i64 n, .string s, .slice a len cap], .int .i64 m, .agg #[.int .i64 op2, .int .i64 n2, .string s2, .slice a2 len2 cap2]] w fun e w' => ∃ op' n' s' a' len' cap', e = .returned (.agg #[.int .i64 op', .int .i64 n', .string s', .slice a' len' cap']) ∧ Lies w' w.heap.size (sealT t m u) (tmCells op' n' s' a' len' cap') ∧ Below w.heap.size w w' ∧ len' = cap' := by
  have h58 := hide (num_calls m)
  have h20 := hide (pair12 (numT m) u 2 0 ⟨(Lib.itoa m).toArray⟩ none 0 0 op2 n2 s2 a2 len2 cap2)
  have h31 := hide (two23 7 (by decide) t (madeT 3 [numT m, u]) op n s a len cap)
  have HN0 := hide h0
  have HN1 := hide h1
  have HZ1 : Hid ((numT m).size + u.size ≤ 2097151) := by show _ ≤ _; rw [numT_size]; omega
  have HZ2 : Hid (t.size + (madeT 3 [numT m, u]).size ≤ 2097151) := by
    show _ ≤ _
    have : (madeT 3 [numT m, u]).size ≤ 1 + Tm.sizes [numT m, u] := by
      unfold madeT pickT
      split
      · simp [Tm.size]
      · simp [Tm.size, Tm.sizes]
    simp only [Tm.sizes, numT_size] at this
    omega
  have HNL : Hid (∀ v : World, Lies v 0 (numT m) (tmCells 2 0 ⟨(Lib.itoa m).toArray⟩ none 0 0)) := fun v => lies_leaf v 2 0 _ (itoa_size m h0 h1) (by decide) (by decide)
  have HE : Hid (sealT t m u = madeT 7 [t, madeT 3 [numT m, u]]) := rfl
  generalize sealT t m u = ST at *
  generalize madeT 3 [numT m, u] = PT at *
  generalize numT m = NT at *
  generalize (⟨(Lib.itoa m).toArray⟩ : ByteArray) = ns at *
  have hB0 : Below w.heap.size w (((w.alloc (.cells #[.int .i64 op, .int .i64 n, .string s, .slice a len cap] 24)).alloc (.cells #[.int .i64 op2, .int .i64 n2, .string s2, .slice a2 len2 cap2] 24)).alloc (.cells #[.int .i64 0, .int .i64 0, .string ByteArray.empty, .slice none 0 0] 24)) := bt (bt (ab _) (ab _) (Nat.le_refl _)) (ab _) (Nat.le_refl _)
  have HX : Hid (ZBox (((w.alloc (.cells #[.int .i64 op, .int .i64 n, .string s, .slice a len cap] 24)).alloc (.cells #[.int .i64 op2, .int .i64 n2, .string s2, .slice a2 len2 cap2] 24)).alloc (.cells #[.int .i64 0, .int .i64 0, .string ByteArray.empty, .slice none 0 0] 24)) (w.heap.size + 1 + 1)) := by
    have := ZBox.new ((w.alloc (.cells #[.int .i64 op, .int .i64 n, .string s, .slice a len cap] 24)).alloc (.cells #[.int .i64 op2, .int .i64 n2, .string s2, .slice a2 len2 cap2] 24))
    rwa [heap_size_alloc, heap_size_alloc] at this
  have HRA : Hid (RowT 24 (((w.alloc (.cells #[.int .i64 op, .int .i64 n, .string s, .slice a len cap] 24)).alloc (.cells #[.int .i64 op2, .int .i64 n2, .string s2, .slice a2 len2 cap2] 24)).alloc (.cells #[.int .i64 0, .int .i64 0, .string ByteArray.empty, .slice none 0 0] 24)) w.heap.size op n s a len cap) := ((RowT.new 24 w op n s a len cap).below (ab _)).below (ab _)
  have HRB : Hid (RowT 24 (((w.alloc (.cells #[.int .i64 op, .int .i64 n, .string s, .slice a len cap] 24)).alloc (.cells #[.int .i64 op2, .int .i64 n2, .string s2, .slice a2 len2 cap2] 24)).alloc (.cells #[.int .i64 0, .int .i64 0, .string ByteArray.empty, .slice none 0 0] 24)) (w.heap.size + 1) op2 n2 s2 a2 len2 cap2) := by
    have := (RowT.new 24 (w.alloc (.cells #[.int .i64 op, .int .i64 n, .string s, .slice a len cap] 24)) op2 n2 s2 a2 len2 cap2).below (ab (.cells #[.int .i64 0, .int .i64 0, .string ByteArray.empty, .slice none 0 0] 24))
    rwa [heap_size_alloc] at this
  have HLA := hide (hl.below hB0)
  have HLB := hide (hl2.below hB0)
  have HB0 := hide hB0
  have HS0 : Hid ((((w.alloc (.cells #[.int .i64 op, .int .i64 n, .string s, .slice a len cap] 24)).alloc (.cells #[.int .i64 op2, .int .i64 n2, .string s2, .slice a2 len2 cap2] 24)).alloc (.cells #[.int .i64 0, .int .i64 0, .string ByteArray.empty, .slice none 0 0] 24)).heap.size = w.heap.size + 3) := by show _ = _; simp
  clear hl hl2 hsz hB0 h0 h1
  go_enter Tryz.func75, Tryz.ntmps75
  go_wp2_with fail
  generalize hgw : (((w.alloc (.cells #[.int .i64 op, .int .i64 n, .string s, .slice a len cap] 24)).alloc (.cells #[.int .i64 op2, .int .i64 n2, .string s2, .slice a2 len2 cap2] 24)).alloc (.cells #[.int .i64 0, .int .i64 0, .string ByteArray.empty, .slice none 0 0] 24)) = W0 at *
  refine gw_world hgw ?_
  clear hgw
  obtain ⟨c0, c1, c2, c3⟩ := (unhide HRA).facts
  obtain ⟨d0, d1, d2, d3⟩ := (unhide HRB).facts
  have hne1 : (w.heap.size = w.heap.size + 1 + 1) = False := by simp; omega
  have hne2 : (w.heap.size + 1 + 1 = w.heap.size) = False := by simp; omega
  have hsA : w.heap.size + 1 + 1 < W0.heap.size := by have := unhide HS0; omega
  go_region_held3 (fun x => x.cell? ⟨w.heap.size, 0, none⟩ = some (.int .i64 op) ∧ x.cell? ⟨w.heap.size, 1, none⟩ = some (.int .i64 n) ∧ x.cell? ⟨w.heap.size, 2, none⟩ = some (.string s) ∧ x.cell? ⟨w.heap.size, 3, none⟩ = some (.slice a len cap) ∧
      x.cell? ⟨w.heap.size + 1, 0, none⟩ = some (.int .i64 op2) ∧ x.cell? ⟨w.heap.size + 1, 1, none⟩ = some (.int .i64 n2) ∧ x.cell? ⟨w.heap.size + 1, 2, none⟩ = some (.string s2) ∧ x.cell? ⟨w.heap.size + 1, 3, none⟩ = some (.slice a2 len2 cap2)) (go_keep)
    (first
      | (go_at_call 65
         refine (unhide h58 _ (unhide HN0) (unhide HN1)).mono ?_
         rintro e w2 ⟨rfl, hb2⟩
         have hb2' := hide (below_drew' hb2)
         have f0 := kpc (unhide hb2') c0
         have f1 := kpc (unhide hb2') c1
         have f2 := kpc (unhide hb2') c2
         have f3 := kpc (unhide hb2') c3
         have f4 := kpc (unhide hb2') d0
         have f5 := kpc (unhide hb2') d1
         have f6 := kpc (unhide hb2') d2
         have f7 := kpc (unhide hb2') d3)
      | (go_at_call 64
         refine (unhide h20 _ (unhide HNL _) ((unhide HLB).below (unhide hb2')) (unhide HZ1)).mono ?_
         rintro e w3 ⟨op3, n3, s3, a3, len3, cap3, rfl, hL3, hb3, -⟩
         have hb3' := hide hb3
         have HL3 := hide (hL3.any (Nat.zero_le _))
         have g0 := kpc hb3 f0
         have g1 := kpc hb3 f1
         have g2 := kpc hb3 f2
         have g3 := kpc hb3 f3
         have g4 := kpc hb3 f4
         have g5 := kpc hb3 f5
         have g6 := kpc hb3 f6
         have g7 := kpc hb3 f7)
      | (go_at_call 122
         refine (unhide h31 _ _ _ _ _ _ _ (((unhide HLA).below (unhide hb2')).below (unhide hb3')) (unhide HL3) (unhide HZ2)).mono ?_
         rintro e w4 ⟨op', n', s', a', len', cap', rfl, hL4, hb4, htt⟩
         have HTT := hide htt
         clear htt
         have hb4' := hide hb4
         have HL4 := hide hL4
         obtain ⟨p0, p1, p2, p3, q0, q1, q2, q3⟩ := ((((unhide HX).below (unhide hb2')).below (unhide hb3')).below hb4).facts
         have j0 := kpc hb4 g0
         have j1 := kpc hb4 g1
         have j2 := kpc hb4 g2
         have j3 := kpc hb4 g3
         have j4 := kpc hb4 g4
         have j5 := kpc hb4 g5
         have j6 := kpc hb4 g6
         have j7 := kpc hb4 g7))
  have HB4 := hide (bt (bt (bt (unhide HB0) (unhide hb2') (Nat.le_refl _)) (unhide hb3') (Nat.le_refl _)) (unhide hb4') (Nat.le_refl _))
  have HSZ : Hid (w.heap.size + 1 + 1 < w3.heap.size) := by show _ < _; have := (unhide hb2').size; have := (unhide hb3').size; omega
  clear f0 f1 f2 f3 f4 f5 f6 f7 c0 c1 c2 c3 d0 d1 d2 d3 g0 g1 g2 g3 g4 g5 g6 g7 j0 j1 j2 j3 j4 j5 j6 j7 hb2' hb3' hb4'
  go_wp2_with fail
  exact bodyPost_ret (v := .agg #[.int .i64 op', .int .i64 n', .string s', .slice a' len' cap']) (by simp [results, Tryz.results75, go_sem, p0, p1, p2, p3]) rfl ⟨op', n', s', a', len', cap', rfl, by rw [unhide HE]; exact set4_lies (unhide HL4) (unhide HSZ) w.heap.size (by have := unhide HSZ; omega), set4_below (unhide HB4) (by omega), unhide HTT⟩

end Go.Proofs.YtenagnoemdjgeaaGreatDoor
