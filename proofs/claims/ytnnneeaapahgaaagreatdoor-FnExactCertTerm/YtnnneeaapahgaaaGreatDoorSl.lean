
/- The walks of spec.l3Num and spec.Seal: the text of a number; of whatever two terms lie in memory the second, with a number ahead of it, sealed by the first, where that is right, else the zero term; nothing that was there is written. The walks of impl.digits and impl.Seal: of whatever two terms lie in memory the second, with a number ahead of it, sealed by the first, where that is right, else the zero term; in new blocks of its own; nothing that was there is written. -/
import Derived.Test.YtnnneeaapahgaaaGreatDoorPr
import Derived.Test.YtnnneeaapahgaaaGreatDoorTx
import Derived.Test.YtnnneeaapahgaaaGreatDoorIs
import Derived.Deep.RegionHeld3
import Derived.Deep.DeepCutAuto
namespace Go.Proofs.YtnnneeaapahgaaaGreatDoor
open Go.RowKit Go.Deep

/-- The text of a number. -/
def numT (m : Int) : Tm := .node 2 0 ⟨(Lib.itoa m).toArray⟩ []
theorem numT_size (m : Int) : (numT m).size = 1 := by simp [numT, Tm.size, Tm.sizes]
/-- What is sealed. -/
def sealT (k : Tm) (m : Int) (b : Tm) : Tm := madeT 7 [k, madeT 3 [numT m, b]]

theorem itoa_size (m : Int) (h0 : -9223372036854775808 ≤ m) (h1 : m ≤ 9223372036854775807) : (ByteArray.mk (Lib.itoa m).toArray).size ≤ maxLen := by
  have := Lib.itoa_length_le m h0 h1
  show (Lib.itoa m).toArray.size ≤ _
  simp [maxLen]
  omega

set_option maxRecDepth 100000 in
set_option maxHeartbeats 1000000 in
theorem num_calls (m : Int) (w : World) (h0 : -9223372036854775808 ≤ m) (h1 : m ≤ 9223372036854775807) :
    Calls Tryz.prog 34 #[.int .i64 m] w fun e w' => e = .returned (.agg #[.int .i64 2, .int .i64 0, .string ⟨(Lib.itoa m).toArray⟩, .slice none 0 0]) ∧ Below w.heap.size w w' := by
  have h59 := hide (digits_any m)
  have HX := hide (ZBox.new w)
  go_enter Tryz.func34, Tryz.ntmps34
  go_wp2_with fail
  refine (unhide h59 _ h0 h1).mono ?_
  rintro e w2 ⟨rfl, hb2⟩
  obtain ⟨d0, d1, d2, d3, e0, e1, e2, e3⟩ := ((unhide HX).below hb2).facts
  have HB := hide (bt (ab _) hb2 (Nat.le_refl _))
  clear hb2
  go_wp2_with fail
  exact bodyPost_ret (v := .agg #[.int .i64 2, .int .i64 0, .string ⟨(Lib.itoa m).toArray⟩, .slice none 0 0]) (by simp [results, Tryz.results34, go_sem, d0, d1, d2, d3]; try rfl) rfl ⟨rfl, set4_below (unhide HB) (Nat.le_refl _)⟩

set_option maxRecDepth 100000 in
set_option maxHeartbeats 2000000 in
theorem sealS (t u : Tm) (m : Int) (op n : Int) (s : ByteArray) (a : Option Addr) (len cap : Nat) (op2 n2 : Int) (s2 : ByteArray) (a2 : Option Addr) (len2 cap2 : Nat) (w : World) (hl : Lies w 0 t (tmCells op n s a len cap)) (hl2 : Lies w 0 u (tmCells op2 n2 s2 a2 len2 cap2)) (hsz : t.size + u.size ≤ 2097140) (h0 : -9223372036854775808 ≤ m) (h1 : m ≤ 9223372036854775807) :
    Calls Tryz.prog 100 #[.agg #[.int .i64 op, .int .i64 n, .string s, .slice a len cap], .int .i64 m, .agg #[.int .i64 op2, .int .i64 n2, .string s2, .slice a2 len2 cap2]] w fun e w' => ∃ op' n' s' a' len' cap', e = .returned (.agg #[.int .i64 op', .int .i64 n', .string s', .slice a' len' cap']) ∧ Lies w' w.heap.size (sealT t m u) (tmCells op' n' s' a' len' cap') ∧ Below w.heap.size w w' ∧ len' = cap' := by
  have h58 := hide (num_calls m)
  have h20 := hide (pair12 (numT m) u 2 0 ⟨(Lib.itoa m).toArray⟩ none 0 0 op2 n2 s2 a2 len2 cap2)
  have h31 := hide (two23 7 (by decide) t (madeT 3 [numT m, u]) op n s a len cap)
  have HN0 := hide h0
  have HN1 := hide h1
  have HZ1 : Hid ((numT m).size + u.size ≤ 2097151) := by show _ ≤ _; rw [numT_size]; omega
  have HZ2 : Hid (t.size + (madeT 3 [numT m, u]).size ≤ 2097151) := by
    show _ ≤ _
    have : (madeT 3 [numT m, u]).size ≤ 1 + Tm.sizes [numT m, u] := by
      unfold madeT pickT
      split
      · simp [Tm.size]
      · simp [Tm.size, Tm.sizes]
    simp only [Tm.sizes, numT_size] at this
    omega
  have HNL : Hid (∀ v : World, Lies v 0 (numT m) (tmCells 2 0 ⟨(Lib.itoa m).toArray⟩ none 0 0)) := fun v => lies_leaf v 2 0 _ (itoa_size m h0 h1) (by decide) (by decide)
  have HE : Hid (sealT t m u = madeT 7 [t, madeT 3 [numT m, u]]) := rfl
  generalize sealT t m u = ST at *
  generalize madeT 3 [numT m, u] = PT at *
  generalize numT m = NT at *
  generalize (⟨(Lib.itoa m).toArray⟩ : ByteArray) = ns at *
  have hB0 : Below w.heap.size w (((w.alloc (.cells #[.int .i64 op, .int .i64 n, .string s, .slice a len cap] 30)).alloc (.cells #[.int .i64 op2, .int .i64 n2, .string s2, .slice a2 len2 cap2] 30)).alloc (.cells #[.int .i64 0, .int .i64 0, .string ByteArray.empty, .slice none 0 0] 30)) := bt (bt (ab _) (ab _) (Nat.le_refl _)) (ab _) (Nat.le_refl _)
  have HX : Hid (ZBox (((w.alloc (.cells #[.int .i64 op, .int .i64 n, .string s, .slice a len cap] 30)).alloc (.cells #[.int .i64 op2, .int .i64 n2, .string s2, .slice a2 len2 cap2] 30)).alloc (.cells #[.int .i64 0, .int .i64 0, .string ByteArray.empty, .slice none 0 0] 30)) (w.heap.size + 1 + 1)) := by
    have := ZBox.new ((w.alloc (.cells #[.int .i64 op, .int .i64 n, .string s, .slice a len cap] 30)).alloc (.cells #[.int .i64 op2, .int .i64 n2, .string s2, .slice a2 len2 cap2] 30))
    rwa [heap_size_alloc, heap_size_alloc] at this
  have HRA : Hid (RowT 30 (((w.alloc (.cells #[.int .i64 op, .int .i64 n, .string s, .slice a len cap] 30)).alloc (.cells #[.int .i64 op2, .int .i64 n2, .string s2, .slice a2 len2 cap2] 30)).alloc (.cells #[.int .i64 0, .int .i64 0, .string ByteArray.empty, .slice none 0 0] 30)) w.heap.size op n s a len cap) := ((RowT.new 30 w op n s a len cap).below (ab _)).below (ab _)
  have HRB : Hid (RowT 30 (((w.alloc (.cells #[.int .i64 op, .int .i64 n, .string s, .slice a len cap] 30)).alloc (.cells #[.int .i64 op2, .int .i64 n2, .string s2, .slice a2 len2 cap2] 30)).alloc (.cells #[.int .i64 0, .int .i64 0, .string ByteArray.empty, .slice none 0 0] 30)) (w.heap.size + 1) op2 n2 s2 a2 len2 cap2) := by
    have := (RowT.new 30 (w.alloc (.cells #[.int .i64 op, .int .i64 n, .string s, .slice a len cap] 30)) op2 n2 s2 a2 len2 cap2).below (ab (.cells #[.int .i64 0, .int .i64 0, .string ByteArray.empty, .slice none 0 0] 30))
    rwa [heap_size_alloc] at this
  have HLA := hide (hl.below hB0)
  have HLB := hide (hl2.below hB0)
  have HB0 := hide hB0
  have HS0 : Hid ((((w.alloc (.cells #[.int .i64 op, .int .i64 n, .string s, .slice a len cap] 30)).alloc (.cells #[.int .i64 op2, .int .i64 n2, .string s2, .slice a2 len2 cap2] 30)).alloc (.cells #[.int .i64 0, .int .i64 0, .string ByteArray.empty, .slice none 0 0] 30)).heap.size = w.heap.size + 3) := by show _ = _; simp
  clear hl hl2 hsz hB0 h0 h1
  go_enter Tryz.func100, Tryz.ntmps100
  go_wp2_with fail
  generalize hgw : (((w.alloc (.cells #[.int .i64 op, .int .i64 n, .string s, .slice a len cap] 30)).alloc (.cells #[.int .i64 op2, .int .i64 n2, .string s2, .slice a2 len2 cap2] 30)).alloc (.cells #[.int .i64 0, .int .i64 0, .string ByteArray.empty, .slice none 0 0] 30)) = W0 at *
  refine gw_world hgw ?_
  clear hgw
  obtain ⟨c0, c1, c2, c3⟩ := (unhide HRA).facts
  obtain ⟨d0, d1, d2, d3⟩ := (unhide HRB).facts
  have hne1 : (w.heap.size = w.heap.size + 1 + 1) = False := by simp; omega
  have hne2 : (w.heap.size + 1 + 1 = w.heap.size) = False := by simp; omega
  have hsA : w.heap.size + 1 + 1 < W0.heap.size := by have := unhide HS0; omega
  go_region_held3 (fun x => x.cell? ⟨w.heap.size, 0, none⟩ = some (.int .i64 op) ∧ x.cell? ⟨w.heap.size, 1, none⟩ = some (.int .i64 n) ∧ x.cell? ⟨w.heap.size, 2, none⟩ = some (.string s) ∧ x.cell? ⟨w.heap.size, 3, none⟩ = some (.slice a len cap) ∧
      x.cell? ⟨w.heap.size + 1, 0, none⟩ = some (.int .i64 op2) ∧ x.cell? ⟨w.heap.size + 1, 1, none⟩ = some (.int .i64 n2) ∧ x.cell? ⟨w.heap.size + 1, 2, none⟩ = some (.string s2) ∧ x.cell? ⟨w.heap.size + 1, 3, none⟩ = some (.slice a2 len2 cap2)) (go_keep)
    (first
      | (go_at_call 34
         refine (unhide h58 _ (unhide HN0) (unhide HN1)).mono ?_
         rintro e w2 ⟨rfl, hb2⟩
         have hb2' := hide (below_drew' hb2)
         have f0 := kpc (unhide hb2') c0
         have f1 := kpc (unhide hb2') c1
         have f2 := kpc (unhide hb2') c2
         have f3 := kpc (unhide hb2') c3
         have f4 := kpc (unhide hb2') d0
         have f5 := kpc (unhide hb2') d1
         have f6 := kpc (unhide hb2') d2
         have f7 := kpc (unhide hb2') d3)
      | (go_at_call 33
         refine (unhide h20 _ (unhide HNL _) ((unhide HLB).below (unhide hb2')) (unhide HZ1)).mono ?_
         rintro e w3 ⟨op3, n3, s3, a3, len3, cap3, rfl, hL3, hb3, -⟩
         have hb3' := hide hb3
         have HL3 := hide (hL3.any (Nat.zero_le _))
         have g0 := kpc hb3 f0
         have g1 := kpc hb3 f1
         have g2 := kpc hb3 f2
         have g3 := kpc hb3 f3
         have g4 := kpc hb3 f4
         have g5 := kpc hb3 f5
         have g6 := kpc hb3 f6
         have g7 := kpc hb3 f7)
      | (go_at_call 64
         refine (unhide h31 _ _ _ _ _ _ _ (((unhide HLA).below (unhide hb2')).below (unhide hb3')) (unhide HL3) (unhide HZ2)).mono ?_
         rintro e w4 ⟨op', n', s', a', len', cap', rfl, hL4, hb4, htt⟩
         have HTT := hide htt
         clear htt
         have hb4' := hide hb4
         have HL4 := hide hL4
         obtain ⟨p0, p1, p2, p3, q0, q1, q2, q3⟩ := ((((unhide HX).below (unhide hb2')).below (unhide hb3')).below hb4).facts
         have j0 := kpc hb4 g0
         have j1 := kpc hb4 g1
         have j2 := kpc hb4 g2
         have j3 := kpc hb4 g3
         have j4 := kpc hb4 g4
         have j5 := kpc hb4 g5
         have j6 := kpc hb4 g6
         have j7 := kpc hb4 g7))
  have HB4 := hide (bt (bt (bt (unhide HB0) (unhide hb2') (Nat.le_refl _)) (unhide hb3') (Nat.le_refl _)) (unhide hb4') (Nat.le_refl _))
  have HSZ : Hid (w.heap.size + 1 + 1 < w3.heap.size) := by show _ < _; have := (unhide hb2').size; have := (unhide hb3').size; omega
  clear f0 f1 f2 f3 f4 f5 f6 f7 c0 c1 c2 c3 d0 d1 d2 d3 g0 g1 g2 g3 g4 g5 g6 g7 j0 j1 j2 j3 j4 j5 j6 j7 hb2' hb3' hb4'
  go_wp2_with fail
  exact bodyPost_ret (v := .agg #[.int .i64 op', .int .i64 n', .string s', .slice a' len' cap']) (by simp [results, Tryz.results100, go_sem, p0, p1, p2, p3]) rfl ⟨op', n', s', a', len', cap', rfl, by rw [unhide HE]; exact set4_lies (unhide HL4) (unhide HSZ) w.heap.size (by have := unhide HSZ; omega), set4_below (unhide HB4) (by omega), unhide HTT⟩

set_option maxRecDepth 100000 in
set_option maxHeartbeats 1000000 in
theorem digitsI (m : Int) (w : World) (h0 : -9223372036854775808 ≤ m) (h1 : m ≤ 9223372036854775807) (ht : Tab w) :
    Calls Tryz.prog 35 #[.int .i64 m] w fun e w' => e = .returned (.agg #[.int .i64 2, .int .i64 0, .string ⟨(Lib.itoa m).toArray⟩, .slice none 0 0]) ∧ Below w.heap.size w w' := by
  have h59 := hide (itoa46 m)
  have HX := hide (ZBox.new w)
  have HT := hide (ht.on (ab (.cells #[.int .i64 0, .int .i64 0, .string ByteArray.empty, .slice none 0 0] 30)))
  clear ht
  go_enter Tryz.func35, Tryz.ntmps35
  go_wp2_with fail
  refine (unhide h59 _ h0 h1 (unhide HT)).mono ?_
  rintro e w2 ⟨rfl, hb2⟩
  obtain ⟨d0, d1, d2, d3, e0, e1, e2, e3⟩ := ((unhide HX).below hb2).facts
  have HB := hide (bt (ab _) hb2 (Nat.le_refl _))
  clear hb2
  go_wp2_with fail
  exact bodyPost_ret (v := .agg #[.int .i64 2, .int .i64 0, .string ⟨(Lib.itoa m).toArray⟩, .slice none 0 0]) (by simp [results, Tryz.results35, go_sem, d0, d1, d2, d3]; try rfl) rfl ⟨rfl, set4_below (unhide HB) (Nat.le_refl _)⟩

theorem ZBox.drew {w : World} {g : Nat} (h : ZBox w g) : ZBox w.drew g := h
/-- The box of what was numbered. -/
def SlCut (P : Tm) (w2 : World) (p : Value) (wx : World) : Prop := ∃ g7 a7, p = .pointer (some ⟨g7, 0, none⟩) ∧ RowT 30 wx g7 3 0 ByteArray.empty a7 2 2 ∧ Lies wx 0 P (tmCells 3 0 ByteArray.empty a7 2 2) ∧ Below w2.heap.size w2 wx

theorem lies_row2 {W : World} {t u : Tm} {op1 n1 op2 n2 : Int} {s1 s2 : ByteArray} {a1 a2 : Option Addr} {l1 c1 l2 c2 b : Nat} (h1 : Lies W 0 t (tmCells op1 n1 s1 a1 l1 c1)) (h2 : Lies W 0 u (tmCells op2 n2 s2 a2 l2 c2)) (hr : ∀ j v, (#[.int .i64 op1, .int .i64 n1, .string s1, .slice a1 l1 c1, .int .i64 op2, .int .i64 n2, .string s2, .slice a2 l2 c2] : Array Value)[j]? = some v → W.cell? ⟨b, j, none⟩ = some v) (op : Int) (hop : (Lit.int .i64 op).wf = true) :
    Lies W 0 (.node op 0 ByteArray.empty [t, u]) (tmCells op 0 ByteArray.empty (some ⟨b, 0, none⟩) 2 2) := by
  simp only [Lies, LiesAll]
  refine ⟨_, _, rfl, ⟨by simp [maxLen], by simp, by simp [maxLen]⟩, ⟨hop, by decide⟩, ⟨b, 0, _, rfl, Nat.zero_le _, fun j v hj => ?_, h1⟩, ⟨b, 0, _, rfl, Nat.zero_le _, fun j v hj => ?_, h2⟩, trivial⟩
  · rw [Nat.zero_mul, Nat.zero_add]
    refine hr j v ?_
    match j, hj with
    | 0, hj => simpa [tmCells] using hj
    | 1, hj => simpa [tmCells] using hj
    | 2, hj => simpa [tmCells] using hj
    | 3, hj => simpa [tmCells] using hj
    | j + 4, hj => simp [tmCells] at hj
  · rw [show 0 + (0 + 1) * 4 + j = 4 + j by omega]
    refine hr (4 + j) v ?_
    match j, hj with
    | 0, hj => simpa [tmCells] using hj
    | 1, hj => simpa [tmCells] using hj
    | 2, hj => simpa [tmCells] using hj
    | 3, hj => simpa [tmCells] using hj
    | j + 4, hj => simp [tmCells] at hj

theorem fill26 {w : World} {g : Nat} (h : ZBox w g) (op n : Int) (s : ByteArray) (a : Option Addr) (len cap : Nat) : RowT 30 ((((w.setCell ⟨g, 0, none⟩ (.int .i64 op)).setCell ⟨g, 1, none⟩ (.int .i64 n)).setCell ⟨g, 2, none⟩ (.string s)).setCell ⟨g, 3, none⟩ (.slice a len cap)) g op n s a len cap := by
  unfold ZBox at h
  unfold RowT
  have r : ∀ {w : World} {b o : Nat} {C : Array Value} {t : TypeId} {fr : Nat × Nat} (v : Value), w.heap[b]? = some (.cells C t fr) → (w.setCell ⟨b, o, none⟩ v).heap[b]? = some (.cells (C.setIfInBounds o v) t fr) := fun v h => by
    simp only [World.setCell, Array.getElem?_modify]
    simp [h]
  exact r (o := 3) (.slice a len cap) (r (o := 2) (.string s) (r (o := 1) (.int .i64 n) (r (o := 0) (.int .i64 op) h)))

theorem SlCut.mk {w2 wx : World} {g b : Nat} {NT u : Tm} {ns s2 : ByteArray} {op2 n2 : Int} {a2 : Option Addr} {len2 cap2 : Nat} (hb : Below w2.heap.size w2 wx) (hrow : RowT 30 wx g 3 0 ByteArray.empty (some ⟨b, 0, none⟩) 2 2) (hc : ∀ j v, (#[.int .i64 2, .int .i64 0, .string ns, .slice none 0 0, .int .i64 op2, .int .i64 n2, .string s2, .slice a2 len2 cap2] : Array Value)[j]? = some v → wx.cell? ⟨b, j, none⟩ = some v) (hN : ∀ v : World, Lies v 0 NT (tmCells 2 0 ns none 0 0)) (hu : Lies w2 0 u (tmCells op2 n2 s2 a2 len2 cap2)) :
    SlCut (.node 3 0 ByteArray.empty [NT, u]) w2 (.pointer (some ⟨g, 0, none⟩)) wx := ⟨g, _, rfl, hrow, lies_row2 (hN _) (hu.below hb) hc 3 (by decide), hb⟩
theorem SlCut.late {w2 X : World} {NT u : Tm} {ns s2 : ByteArray} {op2 n2 : Int} {a2 : Option Addr} {len2 cap2 : Nat} (hb : Below w2.heap.size w2 X) (hN : ∀ v : World, Lies v 0 NT (tmCells 2 0 ns none 0 0)) (hu : Lies w2 0 u (tmCells op2 n2 s2 a2 len2 cap2)) :
    SlCut (.node 3 0 ByteArray.empty [NT, u]) w2 (.pointer (some ⟨X.heap.size + 1, 0, none⟩)) ((X.alloc (.cells #[.int .i64 2, .int .i64 0, .string ns, .slice none 0 0, .int .i64 op2, .int .i64 n2, .string s2, .slice a2 len2 cap2] 30)).alloc (.cells #[.int .i64 3, .int .i64 0, .string ⟨#[]⟩, .slice (some ⟨X.heap.size, 0, none⟩) 2 2] 30)) := by
  have hr := RowT.new 30 (X.alloc (.cells #[.int .i64 2, .int .i64 0, .string ns, .slice none 0 0, .int .i64 op2, .int .i64 n2, .string s2, .slice a2 len2 cap2] 30)) 3 0 ByteArray.empty (some ⟨X.heap.size, 0, none⟩) 2 2
  rw [heap_size_alloc] at hr
  exact SlCut.mk (bt (bt hb (ab _) (Nat.le_refl _)) (ab _) (Nat.le_refl _)) hr (fun j v hj => kpc (ab _) (box_cell X _ 30 j v hj)) hN hu
theorem SlCut.mid {w2 X : World} {NT u : Tm} {ns s2 : ByteArray} {op2 n2 : Int} {a2 : Option Addr} {len2 cap2 : Nat} (hb : Below w2.heap.size w2 X) (hN : ∀ v : World, Lies v 0 NT (tmCells 2 0 ns none 0 0)) (hu : Lies w2 0 u (tmCells op2 n2 s2 a2 len2 cap2)) :
    SlCut (.node 3 0 ByteArray.empty [NT, u]) w2 (.pointer (some ⟨X.heap.size, 0, none⟩)) ((X.alloc (.cells #[.int .i64 3, .int .i64 0, .string ⟨#[]⟩, .slice (some ⟨X.heap.size + 1, 0, none⟩) 2 2] 30)).alloc (.cells #[.int .i64 2, .int .i64 0, .string ns, .slice none 0 0, .int .i64 op2, .int .i64 n2, .string s2, .slice a2 len2 cap2] 30)) := by
  have hr := (RowT.new 30 X 3 0 ByteArray.empty (some ⟨X.heap.size + 1, 0, none⟩) 2 2).below (ab (.cells #[.int .i64 2, .int .i64 0, .string ns, .slice none 0 0, .int .i64 op2, .int .i64 n2, .string s2, .slice a2 len2 cap2] 30))
  exact SlCut.mk (bt (bt hb (ab _) (Nat.le_refl _)) (ab _) (Nat.le_refl _)) hr (fun j v hj => by have := box_cell (X.alloc (.cells #[.int .i64 3, .int .i64 0, .string ByteArray.empty, .slice (some ⟨X.heap.size + 1, 0, none⟩) 2 2] 30)) _ 30 j v hj; rwa [heap_size_alloc] at this) hN hu
theorem SlCut.early {w2 X Y : World} {g : Nat} {NT u : Tm} {ns s2 : ByteArray} {op2 n2 : Int} {a2 : Option Addr} {len2 cap2 : Nat} (hb : Below w2.heap.size w2 X) (hz : ZBox X g) (hg : w2.heap.size ≤ g) (hN : ∀ v : World, Lies v 0 NT (tmCells 2 0 ns none 0 0)) (hu : Lies w2 0 u (tmCells op2 n2 s2 a2 len2 cap2))
    (hY : Y = ((((X.setCell ⟨g, 0, none⟩ (.int .i64 3)).setCell ⟨g, 1, none⟩ (.int .i64 0)).setCell ⟨g, 2, none⟩ (.string ⟨#[]⟩)).setCell ⟨g, 3, none⟩ (.slice (some ⟨X.heap.size, 0, none⟩) 2 2))) :
    SlCut (.node 3 0 ByteArray.empty [NT, u]) w2 (.pointer (some ⟨g, 0, none⟩)) (Y.alloc (.cells #[.int .i64 2, .int .i64 0, .string ns, .slice none 0 0, .int .i64 op2, .int .i64 n2, .string s2, .slice a2 len2 cap2] 30)) := by
  have hf := fill26 hz 3 0 ByteArray.empty (some ⟨X.heap.size, 0, none⟩) 2 2
  have hby := set4_below (x0 := .int .i64 3) (x1 := .int .i64 0) (x2 := .string ByteArray.empty) (x3 := .slice (some ⟨X.heap.size, 0, none⟩) 2 2) hb hg
  have hs : Y.heap.size = X.heap.size := by rw [hY]; simp
  have hf : RowT 30 ((((X.setCell ⟨g, 0, none⟩ (.int .i64 3)).setCell ⟨g, 1, none⟩ (.int .i64 0)).setCell ⟨g, 2, none⟩ (.string ⟨#[]⟩)).setCell ⟨g, 3, none⟩ (.slice (some ⟨X.heap.size, 0, none⟩) 2 2)) g 3 0 ByteArray.empty (some ⟨X.heap.size, 0, none⟩) 2 2 := hf
  have hby : Below w2.heap.size w2 ((((X.setCell ⟨g, 0, none⟩ (.int .i64 3)).setCell ⟨g, 1, none⟩ (.int .i64 0)).setCell ⟨g, 2, none⟩ (.string ⟨#[]⟩)).setCell ⟨g, 3, none⟩ (.slice (some ⟨X.heap.size, 0, none⟩) 2 2)) := hby
  rw [← hY] at hf hby
  rw [← hs] at hf
  exact SlCut.mk (bt hby (ab _) (Nat.le_refl _)) (hf.below (ab _)) (fun j v hj => box_cell Y _ 30 j v hj) hN hu

theorem rightL_mem {x : Tm} : ∀ {ks : List Tm}, rightL ks = true → x ∈ ks → rightT x = true
  | [], _, h => by cases h
  | t :: r, h, hx => by
    simp only [rightL, Bool.and_eq_true] at h
    rcases List.mem_cons.1 hx with rfl | hx
    · exact h.1
    · exact rightL_mem h.2 hx
theorem okT_kid {op n : Int} {s : ByteArray} {ks : List Tm} {x : Tm} (h : okT (.node op n s ks) = true) (hx : x ∈ ks) : okT x = true := by
  simp only [okT, Bool.and_eq_true, decide_eq_true_eq, rightT] at h
  simp only [okT, Bool.and_eq_true, decide_eq_true_eq]
  refine ⟨?_, rightL_mem h.2.2 hx⟩
  have := Tm.size_mem hx
  have h1 := h.1
  simp only [Tm.size] at h1
  omega
theorem okT_zero (op n : Int) (s : ByteArray) (k : Tm) : okT (.node op n s [k, .node 0 0 ByteArray.empty []]) = false := by
  cases h : okT (.node op n s [k, .node 0 0 ByteArray.empty []]) with
  | false => rfl
  | true =>
    have := okT_kid h (x := .node 0 0 ByteArray.empty []) (by simp)
    simp [okT, rightT, headB, kidsOf] at this
theorem seal_one (k : Tm) (m : Int) (b : Tm) : pickT (okT (.node 7 0 ByteArray.empty [k, .node 3 0 ByteArray.empty [numT m, b]])) (.node 7 0 ByteArray.empty [k, .node 3 0 ByteArray.empty [numT m, b]]) = sealT k m b := by
  unfold sealT madeT
  cases h : okT (.node 3 0 ByteArray.empty [numT m, b]) with
  | true => rfl
  | false =>
    have h1 : okT (.node 7 0 ByteArray.empty [k, .node 3 0 ByteArray.empty [numT m, b]]) = false := by
      cases h2 : okT (.node 7 0 ByteArray.empty [k, .node 3 0 ByteArray.empty [numT m, b]]) with
      | false => rfl
      | true =>
        have := okT_kid h2 (x := .node 3 0 ByteArray.empty [numT m, b]) (by simp)
        rw [h] at this
        cases this
    rw [h1]
    have h3 : pickT false (.node 3 0 ByteArray.empty [numT m, b]) = .node 0 0 ByteArray.empty [] := rfl
    rw [h3, okT_zero]
    rfl
theorem seal_200 (k : Tm) (m : Int) (b : Tm) : (sealT k m b).size ≤ 200 := by
  unfold sealT madeT
  generalize pickT (okT (.node 3 0 ByteArray.empty [numT m, b])) (.node 3 0 ByteArray.empty [numT m, b]) = P
  unfold pickT
  split
  · rename_i h
    simp only [okT, Bool.and_eq_true, decide_eq_true_eq] at h
    exact h.1
  · simp [Tm.size, Tm.sizes]

end Go.Proofs.YtnnneeaapahgaaaGreatDoor
