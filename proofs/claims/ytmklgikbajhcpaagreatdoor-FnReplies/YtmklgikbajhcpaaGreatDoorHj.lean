/- The walks of spec.l3Num and spec.Seal: the text of a number; of whatever two terms lie in memory the second, with a number ahead of it, sealed by the first, where that is right, else the zero term; nothing that was there is written. The walks of impl.digits and impl.Seal: of whatever two terms lie in memory the second, with a number ahead of it, sealed by the first, where that is right, else the zero term; in new blocks of its own; nothing that was there is written. The walks of spec.Sign and impl.Sign: of whatever two terms lie in memory they answer the second signed by the first where that is right, else the zero term; the second in new blocks of its own; nothing that was there is written. Texts of hosts as lists of bytes: labels, what stands between bytes 46, a host. Plain: nothing of the program is named. The walks of impl.inLabel and impl.labelOk: whether a text is a label; nothing that was there is written. The walks of spec.l5Label, spec.Labels, spec.l5Labels and spec.HostOk: whether a text is a host; nothing that was there is written. The walks of spec.l5Labels and spec.HostOk: whether a text is a host; nothing that was there is written. The walks of strings.Clone, impl.Labels, impl.labelsOk and impl.HostOk: what stands between bytes 46, in a row of the call's own; whether a text is labels; nothing that was there is written. The walks of impl.labelsOk and impl.HostOk: whether a text is labels, so many at least; nothing that was there is written. -/
import Derived.Test.YtmklgikbajhcpaaGreatDoorTx
import Derived.Test.YtmklgikbajhcpaaGreatDoorOk
import Derived.Deep.RegionHeld3
import Derived.Deep.DeepCutAuto
import Derived.WalkKit
import Derived.ProofKit
import Derived.Laws.RangeAny
import Derived.Test.YtmklgikbajhcpaaGreatDoorTp
import Derived.Test.YtmklgikbajhcpaaGreatDoorProg
import Derived.LoopTactic
import Derived.WalkSpells
import Derived.Lib.OthersKept
import Derived.Laws.AppendOwn
import Derived.Deep.DeepAppendWide
import Derived.Deep.Fields
import Derived.Test.YtmklgikbajhcpaaGreatDoorShelf
namespace Go.Proofs.YtmklgikbajhcpaaGreatDoor
open Go.RowKit Go.Deep

/-- The text of a number. -/
def numT (m : Int) : Tm := .node 2 0 ⟨(Lib.itoa m).toArray⟩ []
set_option maxRecDepth 100000 in
theorem numT_size (m : Int) : (numT m).size = 1 := by simp [numT, Tm.size, Tm.sizes]
/-- What is sealed. -/
def sealT (k : Tm) (m : Int) (b : Tm) : Tm := madeT 7 [k, madeT 3 [numT m, b]]

set_option maxRecDepth 100000 in
theorem itoa_size (m : Int) (h0 : -9223372036854775808 ≤ m) (h1 : m ≤ 9223372036854775807) : (ByteArray.mk (Lib.itoa m).toArray).size ≤ maxLen := by
  have := Lib.itoa_length_le m h0 h1
  show (Lib.itoa m).toArray.size ≤ _
  simp [maxLen]
  omega

set_option maxRecDepth 100000 in
set_option maxHeartbeats 1000000 in
theorem num_calls (m : Int) (w : World) (h0 : -9223372036854775808 ≤ m) (h1 : m ≤ 9223372036854775807) :
    Calls Tryz.prog 101 #[.int .i64 m] w fun e w' => e = .returned (.agg #[.int .i64 2, .int .i64 0, .string ⟨(Lib.itoa m).toArray⟩, .slice none 0 0]) ∧ Below w.heap.size w w' := by
  have h59 := hide (digits_any m)
  have HX := hide (ZBox.new w)
  go_enter Tryz.func101, Tryz.ntmps101
  go_wp2_with fail
  refine (unhide h59 _ h0 h1).mono ?_
  rintro e w2 ⟨rfl, hb2⟩
  obtain ⟨d0, d1, d2, d3, e0, e1, e2, e3⟩ := ((unhide HX).below hb2).facts
  have HB := hide (bt (ab _) hb2 (Nat.le_refl _))
  clear hb2
  go_wp2_with fail
  exact bodyPost_ret (v := .agg #[.int .i64 2, .int .i64 0, .string ⟨(Lib.itoa m).toArray⟩, .slice none 0 0]) (by simp [results, Tryz.results101, go_sem, d0, d1, d2, d3]; try rfl) rfl ⟨rfl, set4_below (unhide HB) (Nat.le_refl _)⟩

set_option maxRecDepth 100000 in
set_option maxHeartbeats 2000000 in
theorem sealS (t u : Tm) (m : Int) (op n : Int) (s : ByteArray) (a : Option Addr) (len cap : Nat) (op2 n2 : Int) (s2 : ByteArray) (a2 : Option Addr) (len2 cap2 : Nat) (w : World) (hl : Lies w 0 t (tmCells op n s a len cap)) (hl2 : Lies w 0 u (tmCells op2 n2 s2 a2 len2 cap2)) (hsz : t.size + u.size ≤ 2097140) (h0 : -9223372036854775808 ≤ m) (h1 : m ≤ 9223372036854775807) :
    Calls Tryz.prog 76 #[.agg #[.int .i64 op, .int .i64 n, .string s, .slice a len cap], .int .i64 m, .agg #[.int .i64 op2, .int .i64 n2, .string s2, .slice a2 len2 cap2]] w fun e w' => ∃ op' n' s' a' len' cap', e = .returned (.agg #[.int .i64 op', .int .i64 n', .string s', .slice a' len' cap']) ∧ Lies w' w.heap.size (sealT t m u) (tmCells op' n' s' a' len' cap') ∧ Below w.heap.size w w' ∧ len' = cap' := by
  have h58 := hide (num_calls m)
  have h20 := hide (pair12 (numT m) u 2 0 ⟨(Lib.itoa m).toArray⟩ none 0 0 op2 n2 s2 a2 len2 cap2)
  have h31 := hide (two23 7 (by decide) t (madeT 3 [numT m, u]) op n s a len cap)
  have HN0 := hide h0
  have HN1 := hide h1
  have HZ1 : Hid ((numT m).size + u.size ≤ 2097151) := by show _ ≤ _; rw [numT_size]; omega
  have HZ2 : Hid (t.size + (madeT 3 [numT m, u]).size ≤ 2097151) := by
    show _ ≤ _
    have : (madeT 3 [numT m, u]).size ≤ 1 + Tm.sizes [numT m, u] := by
      unfold madeT pickT
      split
      · simp [Tm.size]
      · simp [Tm.size, Tm.sizes]
    simp only [Tm.sizes, numT_size] at this
    omega
  have HNL : Hid (∀ v : World, Lies v 0 (numT m) (tmCells 2 0 ⟨(Lib.itoa m).toArray⟩ none 0 0)) := fun v => lies_leaf v 2 0 _ (itoa_size m h0 h1) (by decide) (by decide)
  have HE : Hid (sealT t m u = madeT 7 [t, madeT 3 [numT m, u]]) := rfl
  generalize sealT t m u = ST at *
  generalize madeT 3 [numT m, u] = PT at *
  generalize numT m = NT at *
  generalize (⟨(Lib.itoa m).toArray⟩ : ByteArray) = ns at *
  have hB0 : Below w.heap.size w (((w.alloc (.cells #[.int .i64 op, .int .i64 n, .string s, .slice a len cap] 29)).alloc (.cells #[.int .i64 op2, .int .i64 n2, .string s2, .slice a2 len2 cap2] 29)).alloc (.cells #[.int .i64 0, .int .i64 0, .string ByteArray.empty, .slice none 0 0] 29)) := bt (bt (ab _) (ab _) (Nat.le_refl _)) (ab _) (Nat.le_refl _)
  have HX : Hid (ZBox (((w.alloc (.cells #[.int .i64 op, .int .i64 n, .string s, .slice a len cap] 29)).alloc (.cells #[.int .i64 op2, .int .i64 n2, .string s2, .slice a2 len2 cap2] 29)).alloc (.cells #[.int .i64 0, .int .i64 0, .string ByteArray.empty, .slice none 0 0] 29)) (w.heap.size + 1 + 1)) := by
    have := ZBox.new ((w.alloc (.cells #[.int .i64 op, .int .i64 n, .string s, .slice a len cap] 29)).alloc (.cells #[.int .i64 op2, .int .i64 n2, .string s2, .slice a2 len2 cap2] 29))
    rwa [heap_size_alloc, heap_size_alloc] at this
  have HRA : Hid (RowT 29 (((w.alloc (.cells #[.int .i64 op, .int .i64 n, .string s, .slice a len cap] 29)).alloc (.cells #[.int .i64 op2, .int .i64 n2, .string s2, .slice a2 len2 cap2] 29)).alloc (.cells #[.int .i64 0, .int .i64 0, .string ByteArray.empty, .slice none 0 0] 29)) w.heap.size op n s a len cap) := ((RowT.new 29 w op n s a len cap).below (ab _)).below (ab _)
  have HRB : Hid (RowT 29 (((w.alloc (.cells #[.int .i64 op, .int .i64 n, .string s, .slice a len cap] 29)).alloc (.cells #[.int .i64 op2, .int .i64 n2, .string s2, .slice a2 len2 cap2] 29)).alloc (.cells #[.int .i64 0, .int .i64 0, .string ByteArray.empty, .slice none 0 0] 29)) (w.heap.size + 1) op2 n2 s2 a2 len2 cap2) := by
    have := (RowT.new 29 (w.alloc (.cells #[.int .i64 op, .int .i64 n, .string s, .slice a len cap] 29)) op2 n2 s2 a2 len2 cap2).below (ab (.cells #[.int .i64 0, .int .i64 0, .string ByteArray.empty, .slice none 0 0] 29))
    rwa [heap_size_alloc] at this
  have HLA := hide (hl.below hB0)
  have HLB := hide (hl2.below hB0)
  have HB0 := hide hB0
  have HS0 : Hid ((((w.alloc (.cells #[.int .i64 op, .int .i64 n, .string s, .slice a len cap] 29)).alloc (.cells #[.int .i64 op2, .int .i64 n2, .string s2, .slice a2 len2 cap2] 29)).alloc (.cells #[.int .i64 0, .int .i64 0, .string ByteArray.empty, .slice none 0 0] 29)).heap.size = w.heap.size + 3) := by show _ = _; simp
  clear hl hl2 hsz hB0 h0 h1
  go_enter Tryz.func76, Tryz.ntmps76
  go_wp2_with fail
  generalize hgw : (((w.alloc (.cells #[.int .i64 op, .int .i64 n, .string s, .slice a len cap] 29)).alloc (.cells #[.int .i64 op2, .int .i64 n2, .string s2, .slice a2 len2 cap2] 29)).alloc (.cells #[.int .i64 0, .int .i64 0, .string ByteArray.empty, .slice none 0 0] 29)) = W0 at *
  refine gw_world hgw ?_
  clear hgw
  obtain ⟨c0, c1, c2, c3⟩ := (unhide HRA).facts
  obtain ⟨d0, d1, d2, d3⟩ := (unhide HRB).facts
  have hne1 : (w.heap.size = w.heap.size + 1 + 1) = False := by simp; omega
  have hne2 : (w.heap.size + 1 + 1 = w.heap.size) = False := by simp; omega
  have hsA : w.heap.size + 1 + 1 < W0.heap.size := by have := unhide HS0; omega
  go_region_held3 (fun x => x.cell? ⟨w.heap.size, 0, none⟩ = some (.int .i64 op) ∧ x.cell? ⟨w.heap.size, 1, none⟩ = some (.int .i64 n) ∧ x.cell? ⟨w.heap.size, 2, none⟩ = some (.string s) ∧ x.cell? ⟨w.heap.size, 3, none⟩ = some (.slice a len cap) ∧
      x.cell? ⟨w.heap.size + 1, 0, none⟩ = some (.int .i64 op2) ∧ x.cell? ⟨w.heap.size + 1, 1, none⟩ = some (.int .i64 n2) ∧ x.cell? ⟨w.heap.size + 1, 2, none⟩ = some (.string s2) ∧ x.cell? ⟨w.heap.size + 1, 3, none⟩ = some (.slice a2 len2 cap2)) (go_keep)
    (first
      | (go_at_call 101
         refine (unhide h58 _ (unhide HN0) (unhide HN1)).mono ?_
         rintro e w2 ⟨rfl, hb2⟩
         have hb2' := hide (below_drew' hb2)
         have f0 := kpc (unhide hb2') c0
         have f1 := kpc (unhide hb2') c1
         have f2 := kpc (unhide hb2') c2
         have f3 := kpc (unhide hb2') c3
         have f4 := kpc (unhide hb2') d0
         have f5 := kpc (unhide hb2') d1
         have f6 := kpc (unhide hb2') d2
         have f7 := kpc (unhide hb2') d3)
      | (go_at_call 74
         refine (unhide h20 _ (unhide HNL _) ((unhide HLB).below (unhide hb2')) (unhide HZ1)).mono ?_
         rintro e w3 ⟨op3, n3, s3, a3, len3, cap3, rfl, hL3, hb3, -⟩
         have hb3' := hide hb3
         have HL3 := hide (hL3.any (Nat.zero_le _))
         have g0 := kpc hb3 f0
         have g1 := kpc hb3 f1
         have g2 := kpc hb3 f2
         have g3 := kpc hb3 f3
         have g4 := kpc hb3 f4
         have g5 := kpc hb3 f5
         have g6 := kpc hb3 f6
         have g7 := kpc hb3 f7)
      | (go_at_call 126
         refine (unhide h31 _ _ _ _ _ _ _ (((unhide HLA).below (unhide hb2')).below (unhide hb3')) (unhide HL3) (unhide HZ2)).mono ?_
         rintro e w4 ⟨op', n', s', a', len', cap', rfl, hL4, hb4, htt⟩
         have HTT := hide htt
         clear htt
         have hb4' := hide hb4
         have HL4 := hide hL4
         obtain ⟨p0, p1, p2, p3, q0, q1, q2, q3⟩ := ((((unhide HX).below (unhide hb2')).below (unhide hb3')).below hb4).facts
         have j0 := kpc hb4 g0
         have j1 := kpc hb4 g1
         have j2 := kpc hb4 g2
         have j3 := kpc hb4 g3
         have j4 := kpc hb4 g4
         have j5 := kpc hb4 g5
         have j6 := kpc hb4 g6
         have j7 := kpc hb4 g7))
  have HB4 := hide (bt (bt (bt (unhide HB0) (unhide hb2') (Nat.le_refl _)) (unhide hb3') (Nat.le_refl _)) (unhide hb4') (Nat.le_refl _))
  have HSZ : Hid (w.heap.size + 1 + 1 < w3.heap.size) := by show _ < _; have := (unhide hb2').size; have := (unhide hb3').size; omega
  clear f0 f1 f2 f3 f4 f5 f6 f7 c0 c1 c2 c3 d0 d1 d2 d3 g0 g1 g2 g3 g4 g5 g6 g7 j0 j1 j2 j3 j4 j5 j6 j7 hb2' hb3' hb4'
  go_wp2_with fail
  exact bodyPost_ret (v := .agg #[.int .i64 op', .int .i64 n', .string s', .slice a' len' cap']) (by simp [results, Tryz.results76, go_sem, p0, p1, p2, p3]) rfl ⟨op', n', s', a', len', cap', rfl, by rw [unhide HE]; exact set4_lies (unhide HL4) (unhide HSZ) w.heap.size (by have := unhide HSZ; omega), set4_below (unhide HB4) (by omega), unhide HTT⟩

set_option maxRecDepth 100000 in
set_option maxHeartbeats 1000000 in
theorem digitsI (m : Int) (w : World) (h0 : -9223372036854775808 ≤ m) (h1 : m ≤ 9223372036854775807) (ht : Tab w) :
    Calls Tryz.prog 102 #[.int .i64 m] w fun e w' => e = .returned (.agg #[.int .i64 2, .int .i64 0, .string ⟨(Lib.itoa m).toArray⟩, .slice none 0 0]) ∧ Below w.heap.size w w' := by
  have h59 := hide (itoa46 m)
  have HX := hide (ZBox.new w)
  have HT := hide (ht.on (ab (.cells #[.int .i64 0, .int .i64 0, .string ByteArray.empty, .slice none 0 0] 29)))
  clear ht
  go_enter Tryz.func102, Tryz.ntmps102
  go_wp2_with fail
  refine (unhide h59 _ h0 h1 (unhide HT)).mono ?_
  rintro e w2 ⟨rfl, hb2⟩
  obtain ⟨d0, d1, d2, d3, e0, e1, e2, e3⟩ := ((unhide HX).below hb2).facts
  have HB := hide (bt (ab _) hb2 (Nat.le_refl _))
  clear hb2
  go_wp2_with fail
  exact bodyPost_ret (v := .agg #[.int .i64 2, .int .i64 0, .string ⟨(Lib.itoa m).toArray⟩, .slice none 0 0]) (by simp [results, Tryz.results102, go_sem, d0, d1, d2, d3]; try rfl) rfl ⟨rfl, set4_below (unhide HB) (Nat.le_refl _)⟩

set_option maxRecDepth 100000 in
theorem ZBox.drew {w : World} {g : Nat} (h : ZBox w g) : ZBox w.drew g := h
/-- The box of what was numbered. -/
def SlCut (P : Tm) (w2 : World) (p : Value) (wx : World) : Prop := ∃ g7 a7, p = .pointer (some ⟨g7, 0, none⟩) ∧ RowT 29 wx g7 3 0 ByteArray.empty a7 2 2 ∧ Lies wx 0 P (tmCells 3 0 ByteArray.empty a7 2 2) ∧ Below w2.heap.size w2 wx

set_option maxRecDepth 100000 in
theorem lies_row2 {W : World} {t u : Tm} {op1 n1 op2 n2 : Int} {s1 s2 : ByteArray} {a1 a2 : Option Addr} {l1 c1 l2 c2 b : Nat} (h1 : Lies W 0 t (tmCells op1 n1 s1 a1 l1 c1)) (h2 : Lies W 0 u (tmCells op2 n2 s2 a2 l2 c2)) (hr : ∀ j v, (#[.int .i64 op1, .int .i64 n1, .string s1, .slice a1 l1 c1, .int .i64 op2, .int .i64 n2, .string s2, .slice a2 l2 c2] : Array Value)[j]? = some v → W.cell? ⟨b, j, none⟩ = some v) (op : Int) (hop : (Lit.int .i64 op).wf = true) :
    Lies W 0 (.node op 0 ByteArray.empty [t, u]) (tmCells op 0 ByteArray.empty (some ⟨b, 0, none⟩) 2 2) := by
  simp only [Lies, LiesAll]
  refine ⟨_, _, rfl, ⟨by simp [maxLen], by simp, by simp [maxLen]⟩, ⟨hop, by decide⟩, ⟨b, 0, _, rfl, Nat.zero_le _, fun j v hj => ?_, h1⟩, ⟨b, 0, _, rfl, Nat.zero_le _, fun j v hj => ?_, h2⟩, trivial⟩
  · rw [Nat.zero_mul, Nat.zero_add]
    refine hr j v ?_
    match j, hj with
    | 0, hj => simpa [tmCells] using hj
    | 1, hj => simpa [tmCells] using hj
    | 2, hj => simpa [tmCells] using hj
    | 3, hj => simpa [tmCells] using hj
    | j + 4, hj => simp [tmCells] at hj
  · rw [show 0 + (0 + 1) * 4 + j = 4 + j by omega]
    refine hr (4 + j) v ?_
    match j, hj with
    | 0, hj => simpa [tmCells] using hj
    | 1, hj => simpa [tmCells] using hj
    | 2, hj => simpa [tmCells] using hj
    | 3, hj => simpa [tmCells] using hj
    | j + 4, hj => simp [tmCells] at hj

set_option maxRecDepth 100000 in
theorem fill26 {w : World} {g : Nat} (h : ZBox w g) (op n : Int) (s : ByteArray) (a : Option Addr) (len cap : Nat) : RowT 29 ((((w.setCell ⟨g, 0, none⟩ (.int .i64 op)).setCell ⟨g, 1, none⟩ (.int .i64 n)).setCell ⟨g, 2, none⟩ (.string s)).setCell ⟨g, 3, none⟩ (.slice a len cap)) g op n s a len cap := by
  unfold ZBox at h
  unfold RowT
  have r : ∀ {w : World} {b o : Nat} {C : Array Value} {t : TypeId} {fr : Nat × Nat} (v : Value), w.heap[b]? = some (.cells C t fr) → (w.setCell ⟨b, o, none⟩ v).heap[b]? = some (.cells (C.setIfInBounds o v) t fr) := fun v h => by
    simp only [World.setCell, Array.getElem?_modify]
    simp [h]
  exact r (o := 3) (.slice a len cap) (r (o := 2) (.string s) (r (o := 1) (.int .i64 n) (r (o := 0) (.int .i64 op) h)))

set_option maxRecDepth 100000 in
theorem SlCut.mk {w2 wx : World} {g b : Nat} {NT u : Tm} {ns s2 : ByteArray} {op2 n2 : Int} {a2 : Option Addr} {len2 cap2 : Nat} (hb : Below w2.heap.size w2 wx) (hrow : RowT 29 wx g 3 0 ByteArray.empty (some ⟨b, 0, none⟩) 2 2) (hc : ∀ j v, (#[.int .i64 2, .int .i64 0, .string ns, .slice none 0 0, .int .i64 op2, .int .i64 n2, .string s2, .slice a2 len2 cap2] : Array Value)[j]? = some v → wx.cell? ⟨b, j, none⟩ = some v) (hN : ∀ v : World, Lies v 0 NT (tmCells 2 0 ns none 0 0)) (hu : Lies w2 0 u (tmCells op2 n2 s2 a2 len2 cap2)) :
    SlCut (.node 3 0 ByteArray.empty [NT, u]) w2 (.pointer (some ⟨g, 0, none⟩)) wx := ⟨g, _, rfl, hrow, lies_row2 (hN _) (hu.below hb) hc 3 (by decide), hb⟩
set_option maxRecDepth 100000 in
theorem SlCut.late {w2 X : World} {NT u : Tm} {ns s2 : ByteArray} {op2 n2 : Int} {a2 : Option Addr} {len2 cap2 : Nat} (hb : Below w2.heap.size w2 X) (hN : ∀ v : World, Lies v 0 NT (tmCells 2 0 ns none 0 0)) (hu : Lies w2 0 u (tmCells op2 n2 s2 a2 len2 cap2)) :
    SlCut (.node 3 0 ByteArray.empty [NT, u]) w2 (.pointer (some ⟨X.heap.size + 1, 0, none⟩)) ((X.alloc (.cells #[.int .i64 2, .int .i64 0, .string ns, .slice none 0 0, .int .i64 op2, .int .i64 n2, .string s2, .slice a2 len2 cap2] 29)).alloc (.cells #[.int .i64 3, .int .i64 0, .string ⟨#[]⟩, .slice (some ⟨X.heap.size, 0, none⟩) 2 2] 29)) := by
  have hr := RowT.new 29 (X.alloc (.cells #[.int .i64 2, .int .i64 0, .string ns, .slice none 0 0, .int .i64 op2, .int .i64 n2, .string s2, .slice a2 len2 cap2] 29)) 3 0 ByteArray.empty (some ⟨X.heap.size, 0, none⟩) 2 2
  rw [heap_size_alloc] at hr
  exact SlCut.mk (bt (bt hb (ab _) (Nat.le_refl _)) (ab _) (Nat.le_refl _)) hr (fun j v hj => kpc (ab _) (box_cell X _ 29 j v hj)) hN hu
set_option maxRecDepth 100000 in
theorem SlCut.mid {w2 X : World} {NT u : Tm} {ns s2 : ByteArray} {op2 n2 : Int} {a2 : Option Addr} {len2 cap2 : Nat} (hb : Below w2.heap.size w2 X) (hN : ∀ v : World, Lies v 0 NT (tmCells 2 0 ns none 0 0)) (hu : Lies w2 0 u (tmCells op2 n2 s2 a2 len2 cap2)) :
    SlCut (.node 3 0 ByteArray.empty [NT, u]) w2 (.pointer (some ⟨X.heap.size, 0, none⟩)) ((X.alloc (.cells #[.int .i64 3, .int .i64 0, .string ⟨#[]⟩, .slice (some ⟨X.heap.size + 1, 0, none⟩) 2 2] 29)).alloc (.cells #[.int .i64 2, .int .i64 0, .string ns, .slice none 0 0, .int .i64 op2, .int .i64 n2, .string s2, .slice a2 len2 cap2] 29)) := by
  have hr := (RowT.new 29 X 3 0 ByteArray.empty (some ⟨X.heap.size + 1, 0, none⟩) 2 2).below (ab (.cells #[.int .i64 2, .int .i64 0, .string ns, .slice none 0 0, .int .i64 op2, .int .i64 n2, .string s2, .slice a2 len2 cap2] 29))
  exact SlCut.mk (bt (bt hb (ab _) (Nat.le_refl _)) (ab _) (Nat.le_refl _)) hr (fun j v hj => by have := box_cell (X.alloc (.cells #[.int .i64 3, .int .i64 0, .string ByteArray.empty, .slice (some ⟨X.heap.size + 1, 0, none⟩) 2 2] 29)) _ 29 j v hj; rwa [heap_size_alloc] at this) hN hu
set_option maxRecDepth 100000 in
theorem SlCut.early {w2 X Y : World} {g : Nat} {NT u : Tm} {ns s2 : ByteArray} {op2 n2 : Int} {a2 : Option Addr} {len2 cap2 : Nat} (hb : Below w2.heap.size w2 X) (hz : ZBox X g) (hg : w2.heap.size ≤ g) (hN : ∀ v : World, Lies v 0 NT (tmCells 2 0 ns none 0 0)) (hu : Lies w2 0 u (tmCells op2 n2 s2 a2 len2 cap2))
    (hY : Y = ((((X.setCell ⟨g, 0, none⟩ (.int .i64 3)).setCell ⟨g, 1, none⟩ (.int .i64 0)).setCell ⟨g, 2, none⟩ (.string ⟨#[]⟩)).setCell ⟨g, 3, none⟩ (.slice (some ⟨X.heap.size, 0, none⟩) 2 2))) :
    SlCut (.node 3 0 ByteArray.empty [NT, u]) w2 (.pointer (some ⟨g, 0, none⟩)) (Y.alloc (.cells #[.int .i64 2, .int .i64 0, .string ns, .slice none 0 0, .int .i64 op2, .int .i64 n2, .string s2, .slice a2 len2 cap2] 29)) := by
  have hf := fill26 hz 3 0 ByteArray.empty (some ⟨X.heap.size, 0, none⟩) 2 2
  have hby := set4_below (x0 := .int .i64 3) (x1 := .int .i64 0) (x2 := .string ByteArray.empty) (x3 := .slice (some ⟨X.heap.size, 0, none⟩) 2 2) hb hg
  have hs : Y.heap.size = X.heap.size := by rw [hY]; simp
  have hf : RowT 29 ((((X.setCell ⟨g, 0, none⟩ (.int .i64 3)).setCell ⟨g, 1, none⟩ (.int .i64 0)).setCell ⟨g, 2, none⟩ (.string ⟨#[]⟩)).setCell ⟨g, 3, none⟩ (.slice (some ⟨X.heap.size, 0, none⟩) 2 2)) g 3 0 ByteArray.empty (some ⟨X.heap.size, 0, none⟩) 2 2 := hf
  have hby : Below w2.heap.size w2 ((((X.setCell ⟨g, 0, none⟩ (.int .i64 3)).setCell ⟨g, 1, none⟩ (.int .i64 0)).setCell ⟨g, 2, none⟩ (.string ⟨#[]⟩)).setCell ⟨g, 3, none⟩ (.slice (some ⟨X.heap.size, 0, none⟩) 2 2)) := hby
  rw [← hY] at hf hby
  rw [← hs] at hf
  exact SlCut.mk (bt hby (ab _) (Nat.le_refl _)) (hf.below (ab _)) (fun j v hj => box_cell Y _ 29 j v hj) hN hu

set_option maxRecDepth 100000 in
theorem rightL_mem {x : Tm} : ∀ {ks : List Tm}, rightL ks = true → x ∈ ks → rightT x = true
  | [], _, h => by cases h
  | t :: r, h, hx => by
    simp only [rightL, Bool.and_eq_true] at h
    rcases List.mem_cons.1 hx with rfl | hx
    · exact h.1
    · exact rightL_mem h.2 hx
set_option maxRecDepth 100000 in
theorem okT_kid {op n : Int} {s : ByteArray} {ks : List Tm} {x : Tm} (h : okT (.node op n s ks) = true) (hx : x ∈ ks) : okT x = true := by
  simp only [okT, Bool.and_eq_true, decide_eq_true_eq, rightT] at h
  simp only [okT, Bool.and_eq_true, decide_eq_true_eq]
  refine ⟨?_, rightL_mem h.2.2 hx⟩
  have := Tm.size_mem hx
  have h1 := h.1
  simp only [Tm.size] at h1
  omega
set_option maxRecDepth 100000 in
theorem okT_zero (op n : Int) (s : ByteArray) (k : Tm) : okT (.node op n s [k, .node 0 0 ByteArray.empty []]) = false := by
  cases h : okT (.node op n s [k, .node 0 0 ByteArray.empty []]) with
  | false => rfl
  | true =>
    have := okT_kid h (x := .node 0 0 ByteArray.empty []) (by simp)
    simp [okT, rightT, headB, kidsOf] at this
set_option maxRecDepth 100000 in
theorem seal_one (k : Tm) (m : Int) (b : Tm) : pickT (okT (.node 7 0 ByteArray.empty [k, .node 3 0 ByteArray.empty [numT m, b]])) (.node 7 0 ByteArray.empty [k, .node 3 0 ByteArray.empty [numT m, b]]) = sealT k m b := by
  unfold sealT madeT
  cases h : okT (.node 3 0 ByteArray.empty [numT m, b]) with
  | true => rfl
  | false =>
    have h1 : okT (.node 7 0 ByteArray.empty [k, .node 3 0 ByteArray.empty [numT m, b]]) = false := by
      cases h2 : okT (.node 7 0 ByteArray.empty [k, .node 3 0 ByteArray.empty [numT m, b]]) with
      | false => rfl
      | true =>
        have := okT_kid h2 (x := .node 3 0 ByteArray.empty [numT m, b]) (by simp)
        rw [h] at this
        cases this
    rw [h1]
    have h3 : pickT false (.node 3 0 ByteArray.empty [numT m, b]) = .node 0 0 ByteArray.empty [] := rfl
    rw [h3, okT_zero]
    rfl
set_option maxRecDepth 100000 in
theorem seal_200 (k : Tm) (m : Int) (b : Tm) : (sealT k m b).size ≤ 200 := by
  unfold sealT madeT
  generalize pickT (okT (.node 3 0 ByteArray.empty [numT m, b])) (.node 3 0 ByteArray.empty [numT m, b]) = P
  unfold pickT
  split
  · rename_i h
    simp only [okT, Bool.and_eq_true, decide_eq_true_eq] at h
    exact h.1
  · simp [Tm.size, Tm.sizes]

set_option maxRecDepth 100000 in
set_option maxHeartbeats 4000000 in
theorem sealI (t u : Tm) (m : Int) (op n : Int) (s : ByteArray) (a : Option Addr) (len cap : Nat) (op2 n2 : Int) (s2 : ByteArray) (a2 : Option Addr) (len2 cap2 : Nat) (w : World) (hl : Lies w 0 t (tmCells op n s a len cap)) (hl2 : Lies w 0 u (tmCells op2 n2 s2 a2 len2 cap2)) (hsz : t.size + u.size ≤ 2097140) (h0 : -9223372036854775808 ≤ m) (h1 : m ≤ 9223372036854775807) (htab : Tab w) (herr : Err w) :
    Calls Tryz.prog 93 #[.agg #[.int .i64 op, .int .i64 n, .string s, .slice a len cap], .int .i64 m, .agg #[.int .i64 op2, .int .i64 n2, .string s2, .slice a2 len2 cap2]] w fun e w' => ∃ op' n' s' a' len' cap' fp, e = .returned (.agg #[.int .i64 op', .int .i64 n', .string s', .slice a' len' cap']) ∧ Own w' (sealT t m u) (tmCells op' n' s' a' len' cap') fp ∧ (fp.Nodup ∧ ∀ x ∈ fp, w.heap.size ≤ x) ∧ Below w.heap.size w w' := by
  have h46 := hide (digitsI m)
  have h47 := hide (new_any (.node 7 0 ByteArray.empty [t, .node 3 0 ByteArray.empty [numT m, u]]))
  have HE := hide (seal_one t m u)
  have HZ : Hid ((Tm.node 7 0 ByteArray.empty [t, .node 3 0 ByteArray.empty [numT m, u]]).size ≤ 2097152) := by show _ ≤ _; simp only [Tm.size, Tm.sizes, numT_size]; omega
  have HNL : Hid (∀ v : World, Lies v 0 (numT m) (tmCells 2 0 ⟨(Lib.itoa m).toArray⟩ none 0 0)) := fun v => lies_leaf v 2 0 _ (itoa_size m h0 h1) (by decide) (by decide)
  have HN0 := hide h0
  have HN1 := hide h1
  generalize sealT t m u = ST at *
  generalize numT m = NT at *
  generalize (⟨(Lib.itoa m).toArray⟩ : ByteArray) = ns at *
  have hB0 : Below w.heap.size w (((w.alloc (.cells #[.int .i64 op, .int .i64 n, .string s, .slice a len cap] 29)).alloc (.cells #[.int .i64 op2, .int .i64 n2, .string s2, .slice a2 len2 cap2] 29)).alloc (.cells #[.int .i64 0, .int .i64 0, .string ByteArray.empty, .slice none 0 0] 29)) := bt (bt (ab _) (ab _) (Nat.le_refl _)) (ab _) (Nat.le_refl _)
  have HX : Hid (ZBox (((w.alloc (.cells #[.int .i64 op, .int .i64 n, .string s, .slice a len cap] 29)).alloc (.cells #[.int .i64 op2, .int .i64 n2, .string s2, .slice a2 len2 cap2] 29)).alloc (.cells #[.int .i64 0, .int .i64 0, .string ByteArray.empty, .slice none 0 0] 29)) (w.heap.size + 1 + 1)) := by
    have := ZBox.new ((w.alloc (.cells #[.int .i64 op, .int .i64 n, .string s, .slice a len cap] 29)).alloc (.cells #[.int .i64 op2, .int .i64 n2, .string s2, .slice a2 len2 cap2] 29))
    rwa [heap_size_alloc, heap_size_alloc] at this
  have HRA : Hid (RowT 29 (((w.alloc (.cells #[.int .i64 op, .int .i64 n, .string s, .slice a len cap] 29)).alloc (.cells #[.int .i64 op2, .int .i64 n2, .string s2, .slice a2 len2 cap2] 29)).alloc (.cells #[.int .i64 0, .int .i64 0, .string ByteArray.empty, .slice none 0 0] 29)) w.heap.size op n s a len cap) := ((RowT.new 29 w op n s a len cap).below (ab _)).below (ab _)
  have HRB : Hid (RowT 29 (((w.alloc (.cells #[.int .i64 op, .int .i64 n, .string s, .slice a len cap] 29)).alloc (.cells #[.int .i64 op2, .int .i64 n2, .string s2, .slice a2 len2 cap2] 29)).alloc (.cells #[.int .i64 0, .int .i64 0, .string ByteArray.empty, .slice none 0 0] 29)) (w.heap.size + 1) op2 n2 s2 a2 len2 cap2) := by
    have := (RowT.new 29 (w.alloc (.cells #[.int .i64 op, .int .i64 n, .string s, .slice a len cap] 29)) op2 n2 s2 a2 len2 cap2).below (ab (.cells #[.int .i64 0, .int .i64 0, .string ByteArray.empty, .slice none 0 0] 29))
    rwa [heap_size_alloc] at this
  have HLA := hide (hl.below hB0)
  have HLB := hide (hl2.below hB0)
  have HTB := hide (htab.on hB0)
  have HER := hide (herr.on hB0)
  have HB0 := hide hB0
  have HS0 : Hid ((((w.alloc (.cells #[.int .i64 op, .int .i64 n, .string s, .slice a len cap] 29)).alloc (.cells #[.int .i64 op2, .int .i64 n2, .string s2, .slice a2 len2 cap2] 29)).alloc (.cells #[.int .i64 0, .int .i64 0, .string ByteArray.empty, .slice none 0 0] 29)).heap.size = w.heap.size + 3) := by show _ = _; simp
  clear hl hl2 hsz hB0 h0 h1 htab herr
  go_enter Tryz.func93, Tryz.ntmps93
  go_wp2_with fail
  generalize hgw : (((w.alloc (.cells #[.int .i64 op, .int .i64 n, .string s, .slice a len cap] 29)).alloc (.cells #[.int .i64 op2, .int .i64 n2, .string s2, .slice a2 len2 cap2] 29)).alloc (.cells #[.int .i64 0, .int .i64 0, .string ByteArray.empty, .slice none 0 0] 29)) = W0 at *
  refine gw_world hgw ?_
  clear hgw
  obtain ⟨d0, d1, d2, d3⟩ := (unhide HRB).facts
  have l0 := lt_of_cell d0
  have n0 := Nat.ne_of_lt l0
  have m0 := Ne.symm n0
  go_cut [7] (fun p wx => SlCut (.node 3 0 ByteArray.empty [NT, u]) W0 p wx)
  case first =>
    go_region_held3 (fun x => x.cell? ⟨w.heap.size + 1, 0, none⟩ = some (.int .i64 op2) ∧ x.cell? ⟨w.heap.size + 1, 1, none⟩ = some (.int .i64 n2) ∧ x.cell? ⟨w.heap.size + 1, 2, none⟩ = some (.string s2) ∧ x.cell? ⟨w.heap.size + 1, 3, none⟩ = some (.slice a2 len2 cap2)) (go_keep)
      (first
        | (go_at_call 102
           refine (unhide h46 _ (unhide HN0) (unhide HN1) ?_).mono ?_
           first
             | exact (unhide HTB).on ((Below.refl _ _).drew)
             | exact (unhide HTB).on ((ab _).drew)
           rintro e w2 ⟨rfl, hb2⟩
           try have zz2 := hide ((ZBox.new W0).drew.below hb2)
           have hb02 : Hid (Below W0.heap.size W0 w2) := by
             first
               | exact below_drew' hb2
               | exact bt (ab _) (below_drew' hb2) (Nat.le_refl _)
           have f4 := kpc (unhide hb02) d0
           have f5 := kpc (unhide hb02) d1
           have f6 := kpc (unhide hb02) d2
           have f7 := kpc (unhide hb02) d3
           try obtain ⟨p0, p1, p2, p3, q0, q1, q2, q3⟩ := (unhide zz2).facts
           try have nz := Nat.ne_of_lt (lt_of_heap (unhide zz2))
           try have mz := Ne.symm nz
           try have nz' := eq_false nz
           try have mz' := eq_false mz
           try have lz := lt_of_heap (unhide zz2)
           have l2 := lt_of_cell f4
           have n2' := Nat.ne_of_lt l2
           have m2 := Ne.symm n2'
           clear hb2))
    all_goals
      go_wp2_with fail
      go_meet
      first
        | (with_reducible refine SlCut.late ?_ ?_ ?_
           · exact unhide hb02
           · exact unhide HNL
           · exact unhide HLB)
        | (with_reducible refine SlCut.mid ?_ ?_ ?_
           · exact unhide hb02
           · exact unhide HNL
           · exact unhide HLB)
        | (with_reducible refine SlCut.early ?_ ?_ ?_ ?_ ?_ rfl
           · exact unhide hb02
           · exact unhide zz2
           · exact Nat.le_refl _
           · exact unhide HNL
           · exact unhide HLB)
  case rest =>
    obtain ⟨g7, a7, rfl, hR7, hP7, hb7⟩ := hcut
    have HX7 := hide ((unhide HX).below hb7)
    have HER7 := hide ((unhide HER).on hb7)
    have HB7 := hide (bt (unhide HB0) hb7 (Nat.le_refl _))
    have HLA7 := hide ((unhide HLA).below hb7)
    have HP7 := hide hP7
    have HS7 : Hid (w.heap.size + 1 + 1 < wc.heap.size) := lt_of_heap (unhide HX7)
    have HRA7 := hide ((unhide HRA).below hb7)
    have HRR := hide hR7
    clear hR7 hP7 hb7 d0 d1 d2 d3 l0 n0 m0
    obtain ⟨c0, c1, c2, c3⟩ := (unhide HRA7).facts
    obtain ⟨d0, d1, d2, d3⟩ := (unhide HRR).facts
    go_wp2_with fail
    refine (unhide h47 _ _ _ _ _ _ _ (lies_two (unhide HLA7) (unhide HP7) (Nat.zero_le _) 7 (by decide)) (unhide HZ) ((unhide HER7).on (ab _))).mono ?_
    rintro e w8 ⟨op', n', s', a', len', cap', fp, rfl, hO8, ⟨hnd, hge⟩, hb8⟩
    rw [unhide HE] at hO8
    have hb78 := bt (ab (w := wc) (.cells #[.int .i64 op, .int .i64 n, .string s, .slice a len cap, .int .i64 3, .int .i64 0, .string ByteArray.empty, .slice a7 2 2] 29)) hb8 (Nat.le_refl _)
    have HB8 := hide (bt (unhide HB7) hb78 (Nat.le_refl _))
    have HO8 := hide hO8
    have HND := hide hnd
    rw [heap_size_alloc] at hge
    have HGE := hide hge
    obtain ⟨p0, p1, p2, p3, q0, q1, q2, q3⟩ := ((unhide HX7).below hb78).facts
    clear hb8 hb78 hO8 hnd hge c0 c1 c2 c3 d0 d1 d2 d3
    go_wp2_with fail
    exact bodyPost_ret (v := .agg #[.int .i64 op', .int .i64 n', .string s', .slice a' len' cap']) (by simp [results, Tryz.results93, go_sem, p0, p1, p2, p3]) rfl ⟨op', n', s', a', len', cap', fp, rfl, Own.keep _ _ _ (unhide HO8) (fun b hb => set4_heap _ _ _ _ _ _ b (by have := unhide HGE b hb; have := unhide HS7; omega)), ⟨unhide HND, fun x hx => by have := unhide HGE x hx; have := unhide HS7; omega⟩, set4_below (unhide HB8) (by omega)⟩

set_option maxRecDepth 100000 in
set_option maxHeartbeats 1000000 in
theorem signS (t u : Tm) (op n : Int) (s : ByteArray) (a : Option Addr) (len cap : Nat) (op2 n2 : Int) (s2 : ByteArray) (a2 : Option Addr) (len2 cap2 : Nat) (w : World) (hl : Lies w 0 t (tmCells op n s a len cap)) (hl2 : Lies w 0 u (tmCells op2 n2 s2 a2 len2 cap2)) (hsz : t.size + u.size ≤ 2097151) :
    Calls Tryz.prog 78 #[.agg #[.int .i64 op, .int .i64 n, .string s, .slice a len cap], .agg #[.int .i64 op2, .int .i64 n2, .string s2, .slice a2 len2 cap2]] w fun e w' => ∃ op' n' s' a' len' cap', e = .returned (.agg #[.int .i64 op', .int .i64 n', .string s', .slice a' len' cap']) ∧ Lies w' w.heap.size (madeT 8 [t, u]) (tmCells op' n' s' a' len' cap') ∧ Below w.heap.size w w' ∧ len' = cap' := by
  have h23 := hide (two23 8 (by decide) t u op n s a len cap op2 n2 s2 a2 len2 cap2)
  have hB0 : Below w.heap.size w (((w.alloc (.cells #[.int .i64 op, .int .i64 n, .string s, .slice a len cap] 29)).alloc (.cells #[.int .i64 op2, .int .i64 n2, .string s2, .slice a2 len2 cap2] 29)).alloc (.cells #[.int .i64 0, .int .i64 0, .string ByteArray.empty, .slice none 0 0] 29)) := bt (bt (ab _) (ab _) (Nat.le_refl _)) (ab _) (Nat.le_refl _)
  have HX : Hid (ZBox (((w.alloc (.cells #[.int .i64 op, .int .i64 n, .string s, .slice a len cap] 29)).alloc (.cells #[.int .i64 op2, .int .i64 n2, .string s2, .slice a2 len2 cap2] 29)).alloc (.cells #[.int .i64 0, .int .i64 0, .string ByteArray.empty, .slice none 0 0] 29)) (w.heap.size + 1 + 1)) := by
    have := ZBox.new ((w.alloc (.cells #[.int .i64 op, .int .i64 n, .string s, .slice a len cap] 29)).alloc (.cells #[.int .i64 op2, .int .i64 n2, .string s2, .slice a2 len2 cap2] 29))
    rwa [heap_size_alloc, heap_size_alloc] at this
  have HLA := hide (hl.below hB0)
  have HLB := hide (hl2.below hB0)
  have HB0 := hide hB0
  clear hl hl2 hB0
  go_enter Tryz.func78, Tryz.ntmps78
  go_wp2_with fail
  refine (unhide h23 _ (unhide HLA) (unhide HLB) hsz).mono ?_
  rintro e w4 ⟨op', n', s', a', len', cap', rfl, hL4, hb4, htt⟩
  have HTT := hide htt
  have HB4 := hide (bt (unhide HB0) hb4 (Nat.le_refl _))
  have hX4 := (unhide HX).below hb4
  simp only [heap_size_alloc] at hL4
  have HL4 := hide hL4
  obtain ⟨d0, d1, d2, d3, e0, e1, e2, e3⟩ := hX4.facts
  clear hb4 hL4 hX4 HX HB0 HLA HLB htt
  go_wp2_with fail
  exact bodyPost_ret (v := .agg #[.int .i64 op', .int .i64 n', .string s', .slice a' len' cap']) (by simp [results, Tryz.results78, go_sem, d0, d1, d2, d3]) rfl ⟨op', n', s', a', len', cap', rfl, set4_lies (unhide HL4) (by omega) _ (by omega), set4_below (unhide HB4) (by omega), unhide HTT⟩

set_option maxRecDepth 100000 in
set_option maxHeartbeats 1000000 in
theorem signI (t u : Tm) (op n : Int) (s : ByteArray) (a : Option Addr) (len cap : Nat) (op2 n2 : Int) (s2 : ByteArray) (a2 : Option Addr) (len2 cap2 : Nat) (w : World) (hl : Lies w 0 t (tmCells op n s a len cap)) (hl2 : Lies w 0 u (tmCells op2 n2 s2 a2 len2 cap2)) (hsz : t.size + u.size ≤ 2097151) (herr : Err w) :
    Calls Tryz.prog 39 #[.agg #[.int .i64 op, .int .i64 n, .string s, .slice a len cap], .agg #[.int .i64 op2, .int .i64 n2, .string s2, .slice a2 len2 cap2]] w fun e w' => ∃ op' n' s' a' len' cap' fp, e = .returned (.agg #[.int .i64 op', .int .i64 n', .string s', .slice a' len' cap']) ∧ Own w' (madeT 8 [t, u]) (tmCells op' n' s' a' len' cap') fp ∧ (fp.Nodup ∧ ∀ x ∈ fp, w.heap.size ≤ x) ∧ Below w.heap.size w w' := by
  have HER := hide herr
  clear herr
  have h18 := hide (new_any (.node 8 0 ByteArray.empty [t, u]))
  have HZ : Hid ((Tm.node 8 0 ByteArray.empty [t, u]).size ≤ 2097152) := by show _ ≤ _; simp only [Tm.size, Tm.sizes]; omega
  have hB0 : Below w.heap.size w (((w.alloc (.cells #[.int .i64 op, .int .i64 n, .string s, .slice a len cap] 29)).alloc (.cells #[.int .i64 op2, .int .i64 n2, .string s2, .slice a2 len2 cap2] 29)).alloc (.cells #[.int .i64 0, .int .i64 0, .string ByteArray.empty, .slice none 0 0] 29)) := bt (bt (ab _) (ab _) (Nat.le_refl _)) (ab _) (Nat.le_refl _)
  have hX : ZBox (((w.alloc (.cells #[.int .i64 op, .int .i64 n, .string s, .slice a len cap] 29)).alloc (.cells #[.int .i64 op2, .int .i64 n2, .string s2, .slice a2 len2 cap2] 29)).alloc (.cells #[.int .i64 0, .int .i64 0, .string ByteArray.empty, .slice none 0 0] 29)) (w.heap.size + 1 + 1) := by
    have := ZBox.new ((w.alloc (.cells #[.int .i64 op, .int .i64 n, .string s, .slice a len cap] 29)).alloc (.cells #[.int .i64 op2, .int .i64 n2, .string s2, .slice a2 len2 cap2] 29))
    rwa [heap_size_alloc, heap_size_alloc] at this
  have HB3 := hide (bt hB0 (ab (.cells #[.int .i64 op, .int .i64 n, .string s, .slice a len cap, .int .i64 op2, .int .i64 n2, .string s2, .slice a2 len2 cap2] 29)) (Nat.le_refl _))
  have HX3 := hide (hX.below (ab (.cells #[.int .i64 op, .int .i64 n, .string s, .slice a len cap, .int .i64 op2, .int .i64 n2, .string s2, .slice a2 len2 cap2] 29)))
  have HT3 := hide (lies_two (hl.below hB0) (hl2.below hB0) (Nat.zero_le _) 8 (by decide))
  simp only [heap_size_alloc] at HT3
  clear hl hl2 hB0 hX hsz
  go_enter Tryz.func39, Tryz.ntmps39
  go_wp2_with fail
  refine (unhide h18 _ _ _ _ _ _ _ (unhide HT3) (unhide HZ) ((unhide HER).on (unhide HB3))).mono ?_
  rintro e w4 ⟨op', n', s', a', len', cap', fp, rfl, hO4, ⟨hnd, hge⟩, hb4⟩
  have HB4 := hide (bt (unhide HB3) hb4 (Nat.le_refl _))
  have hX4 := (unhide HX3).below hb4
  have HO4 := hide hO4
  have HND := hide hnd
  simp only [heap_size_alloc] at hge
  have HGE := hide hge
  obtain ⟨d0, d1, d2, d3, e0, e1, e2, e3⟩ := hX4.facts
  clear hb4 hO4 hX4 HB3 HX3 HT3 hnd hge
  go_wp2_with fail
  exact bodyPost_ret (v := .agg #[.int .i64 op', .int .i64 n', .string s', .slice a' len' cap']) (by simp [results, Tryz.results39, go_sem, d0, d1, d2, d3]) rfl ⟨op', n', s', a', len', cap', fp, rfl, Own.keep _ _ _ (unhide HO4) (fun b hb => set4_heap _ _ _ _ _ _ b (by have := unhide HGE b hb; omega)), ⟨unhide HND, fun x hx => by have := unhide HGE x hx; omega⟩, set4_below (unhide HB4) (by omega)⟩

/-- A byte of a text; nought behind its end. -/
def byteAt (s : ByteArray) (i : Nat) : Nat := if h : i < s.size then (s[i]'h).toNat else 0
theorem byteAt_lt {s : ByteArray} {i : Nat} (h : i < s.size) : (s[i]'h).toNat = byteAt s i := by simp [byteAt, h]
theorem byteAt_le (s : ByteArray) (i : Nat) : byteAt s i < 256 := by
  unfold byteAt
  split
  · exact UInt8.toNat_lt _
  · omega
theorem byteAt_extract {s : ByteArray} {a b i : Nat} (hb : b ≤ s.size) (hi : a + i < b) : byteAt (s.extract a b) i = byteAt s (a + i) := by
  have h1 : i < (s.extract a b).size := by rw [ByteArray.size_extract]; omega
  have h2 : a + i < s.size := by omega
  rw [← byteAt_lt h1, ← byteAt_lt h2]
  simp [ByteArray.getElem_extract]
theorem size_extract_le (s : ByteArray) (a b : Nat) : (s.extract a b).size ≤ s.size := by rw [ByteArray.size_extract]; omega

/-- A byte of a label at its place. -/
def okAt (s : ByteArray) (k : Nat) : Prop := (97 ≤ byteAt s k ∧ byteAt s k ≤ 122) ∨ (48 ≤ byteAt s k ∧ byteAt s k ≤ 57) ∨ (byteAt s k = 45 ∧ 0 < k ∧ k + 1 < s.size)
/-- A byte that a label may have. -/
def labByte (b : Nat) : Prop := (97 ≤ b ∧ b ≤ 122) ∨ (48 ≤ b ∧ b ≤ 57) ∨ b = 45
/-- A label. -/
def labP (s : ByteArray) : Prop := 1 ≤ s.size ∧ s.size ≤ 10 ∧ ∀ k, k < s.size → okAt s k
open Classical in
noncomputable def labB (s : ByteArray) : Bool := decide (labP s)
theorem labB_yes {s : ByteArray} (h : labP s) : labB s = true := by simp [labB, h]
theorem labB_no {s : ByteArray} (h : ¬ labP s) : labB s = false := by simp [labB, h]
theorem labB_iff {s : ByteArray} : labB s = true ↔ labP s := by simp [labB]

theorem okAt_labByte {s : ByteArray} {k : Nat} (h : okAt s k) : labByte (byteAt s k) := by
  rcases h with h | h | h
  · exact Or.inl h
  · exact Or.inr (Or.inl h)
  · exact Or.inr (Or.inr h.1)
theorem labP_bad {s : ByteArray} {k : Nat} (hk : k < s.size) (h : ¬ labByte (byteAt s k)) : ¬ labP s := fun hl => h (okAt_labByte (hl.2.2 k hk))
theorem labP_mk {s : ByteArray} (h0 : 1 ≤ s.size) (h1 : s.size ≤ 10) (ha : byteAt s 0 ≠ 45) (hz : byteAt s (s.size - 1) ≠ 45) (h : ∀ k, k < s.size → labByte (byteAt s k)) : labP s := by
  refine ⟨h0, h1, fun k hk => ?_⟩
  rcases h k hk with h | h | h
  · exact Or.inl h
  · exact Or.inr (Or.inl h)
  · refine Or.inr (Or.inr ⟨h, ?_, ?_⟩)
    · rcases Nat.eq_zero_or_pos k with rfl | hp
      · exact absurd h ha
      · exact hp
    · rcases Nat.lt_or_ge (k + 1) s.size with hp | hp
      · exact hp
      · have : k = s.size - 1 := by omega
        subst this
        exact absurd h hz
theorem labP_first {s : ByteArray} (h : byteAt s 0 = 45) : ¬ labP s := fun hl => by
  have h0 := hl.2.2 0 (by have := hl.1; omega)
  rcases h0 with h1 | h1 | h1
  · omega
  · omega
  · exact absurd h1.2.1 (by omega)
theorem labP_last {s : ByteArray} (h : byteAt s (s.size - 1) = 45) : ¬ labP s := fun hl => by
  have hs := hl.1
  have h0 := hl.2.2 (s.size - 1) (by omega)
  rcases h0 with h1 | h1 | h1
  · omega
  · omega
  · have := h1.2.2; omega

/-- What stands between bytes 46, from a place on: the label that is under way began at the second number. -/
def labs (s : ByteArray) : Nat → Nat → List ByteArray
  | 0, st => [s.extract st s.size]
  | f + 1, st => if byteAt s (s.size - (f + 1)) = 46 then s.extract st (s.size - (f + 1)) :: labs s f (s.size - (f + 1) + 1) else labs s f st
def labsOf (s : ByteArray) : List ByteArray := labs s s.size 0
theorem labs_dot {s : ByteArray} {i st : Nat} (hi : i < s.size) (h : byteAt s i = 46) : labs s (s.size - i) st = s.extract st i :: labs s (s.size - (i + 1)) (i + 1) := by
  have e : s.size - i = (s.size - (i + 1)) + 1 := by omega
  have e2 : s.size - (s.size - (i + 1) + 1) = i := by omega
  rw [e, labs, e2, if_pos h]
theorem labs_no {s : ByteArray} {i st : Nat} (hi : i < s.size) (h : ¬ byteAt s i = 46) : labs s (s.size - i) st = labs s (s.size - (i + 1)) st := by
  have e : s.size - i = (s.size - (i + 1)) + 1 := by omega
  have e2 : s.size - (s.size - (i + 1) + 1) = i := by omega
  conv => lhs; rw [e, labs, e2, if_neg h]
theorem labs_size {s : ByteArray} : ∀ (f st : Nat), ∀ l ∈ labs s f st, l.size ≤ s.size
  | 0, st, l, h => by
    simp [labs] at h
    subst h
    exact size_extract_le _ _ _
  | f + 1, st, l, h => by
    unfold labs at h
    split at h
    · rcases List.mem_cons.mp h with rfl | h
      · exact size_extract_le _ _ _
      · exact labs_size f _ l h
    · exact labs_size f _ l h
theorem labs_length (s : ByteArray) : ∀ (f st : Nat), (labs s f st).length ≤ f + 1
  | 0, st => by simp [labs]
  | f + 1, st => by
    unfold labs
    split
    · have := labs_length s f (s.size - (f + 1) + 1)
      simp only [List.length_cons]
      omega
    · have := labs_length s f st
      omega
/-- A byte above 127 stands in some label. -/
theorem labs_bad {s : ByteArray} {j : Nat} (hj : j < s.size) (h : 128 ≤ byteAt s j) : ∀ (f st : Nat), f ≤ s.size → st ≤ s.size - f → st ≤ j → ∃ l ∈ labs s f st, ¬ labP l
  | 0, st, _, h1, h2 => by
    refine ⟨s.extract st s.size, by simp [labs], labP_bad (k := j - st) (by rw [ByteArray.size_extract]; omega) ?_⟩
    rw [byteAt_extract (Nat.le_refl _) (by omega), show st + (j - st) = j by omega]
    unfold labByte
    omega
  | f + 1, st, hf, h1, h2 => by
    unfold labs
    split
    · rename_i hd
      rcases Nat.lt_or_ge j (s.size - (f + 1)) with hl | hl
      · refine ⟨_, List.mem_cons_self, labP_bad (k := j - st) (by rw [ByteArray.size_extract]; omega) ?_⟩
        rw [byteAt_extract (by omega) (by omega), show st + (j - st) = j by omega]
        unfold labByte
        omega
      · have hne : j ≠ s.size - (f + 1) := fun e => by rw [← e] at hd; omega
        obtain ⟨l, hm, hb⟩ := labs_bad hj h f (s.size - (f + 1) + 1) (by omega) (by omega) (by omega)
        exact ⟨l, List.mem_cons_of_mem _ hm, hb⟩
    · exact labs_bad hj h f st (by omega) (by omega) h2

/-- Labels with a byte 46 between, so many at least. -/
def lsP (n : Nat) (s : ByteArray) : Prop := s.size ≤ 60 ∧ n ≤ (labsOf s).length ∧ ∀ l ∈ labsOf s, labP l
open Classical in
noncomputable def lsB (n : Nat) (s : ByteArray) : Bool := decide (lsP n s)
theorem lsB_yes {n : Nat} {s : ByteArray} (h : lsP n s) : lsB n s = true := by simp [lsB, h]
theorem lsB_no {n : Nat} {s : ByteArray} (h : ¬ lsP n s) : lsB n s = false := by simp [lsB, h]
theorem lsB_iff {n : Nat} {s : ByteArray} : lsB n s = true ↔ lsP n s := by simp [lsB]
/-- A host's name. -/
def hostP (s : ByteArray) : Prop := s.size ≤ 60 ∧ 2 ≤ (labsOf s).length ∧ ∀ l ∈ labsOf s, labP l
open Classical in
noncomputable def hostB (s : ByteArray) : Bool := decide (hostP s)
theorem hostB_yes {s : ByteArray} (h : hostP s) : hostB s = true := by simp [hostB, h]
theorem hostB_no {s : ByteArray} (h : ¬ hostP s) : hostB s = false := by simp [hostB, h]
theorem hostB_iff {s : ByteArray} : hostB s = true ↔ hostP s := by simp [hostB]
theorem hostP_bad {s : ByteArray} {j : Nat} (hj : j < s.size) (h : 128 ≤ byteAt s j) : ¬ hostP s := fun hp => by
  obtain ⟨l, hm, hb⟩ := labs_bad hj h s.size 0 (Nat.le_refl _) (by omega) (by omega)
  exact hb (hp.2.2 l hm)
theorem hostB_ls (s : ByteArray) : hostB s = lsB 2 s := rfl
/-- A rune's bytes: none behind its end, and where it is none of seven bits none of its bytes is. -/
theorem decode_wide {s : ByteArray} {pos : Nat} (h : pos < s.size) (ha : 128 ≤ byteAt s pos) : pos + (Utf8.decode s pos).2 ≤ s.size ∧ ∀ j, pos ≤ j → j < pos + (Utf8.decode s pos).2 → 128 ≤ byteAt s j := by
  have g : ∀ k, pos + k < s.size → (s.get! (pos + k)).toNat = byteAt s (pos + k) := fun k hk => by
    rw [← byteAt_lt hk]
    simp [ByteArray.get!, getElem!_pos, hk]
    rfl
  have g0 := g 0 h
  have hn : ¬ (s.get! (pos + 0)).toNat < 128 := by rw [g0]; simpa using ha
  have one : ∀ j, pos ≤ j → j < pos + 1 → 128 ≤ byteAt s j := fun j h1 h2 => by
    obtain rfl : j = pos := by omega
    exact ha
  simp only [Utf8.decode, hn, if_false]
  repeat' split
  all_goals (try exact ⟨h, one⟩)
  all_goals
    rename_i hc _
    simp only [Bool.and_eq_true, decide_eq_true_eq, beq_iff_eq] at hc
  · obtain ⟨_, h1, h2⟩ := hc
    rw [g 1 h1] at h2
    refine ⟨by simp only; omega, fun j a b => ?_⟩
    rcases Nat.eq_or_lt_of_le a with rfl | a
    · exact ha
    · obtain rfl : j = pos + 1 := by simp only at b; omega
      omega
  · obtain ⟨⟨_, h1, h2⟩, h3, h4⟩ := hc
    rw [g 1 h1] at h2
    rw [g 2 h3] at h4
    refine ⟨by simp only; omega, fun j a b => ?_⟩
    simp only at b
    rcases Nat.eq_or_lt_of_le a with rfl | a
    · exact ha
    · rcases Nat.eq_or_lt_of_le (Nat.succ_le_of_lt a) with rfl | a
      · show 128 ≤ byteAt s (pos + 1)
        omega
      · obtain rfl : j = pos + 2 := by omega
        omega
  · obtain ⟨⟨⟨_, h1, h2⟩, h3, h4⟩, h5, h6⟩ := hc
    rw [g 1 h1] at h2
    rw [g 2 h3] at h4
    rw [g 3 h5] at h6
    refine ⟨by simp only; omega, fun j a b => ?_⟩
    simp only at b
    obtain ⟨d, rfl⟩ : ∃ d, j = pos + d := ⟨j - pos, by omega⟩
    obtain rfl | rfl | rfl | rfl : d = 0 ∨ d = 1 ∨ d = 2 ∨ d = 3 := by omega
    · exact ha
    · omega
    · omega
    · omega
theorem labs_skip {s : ByteArray} {st : Nat} : ∀ (n pos : Nat), pos + n ≤ s.size → (∀ j, pos ≤ j → j < pos + n → ¬ byteAt s j = 46) → labs s (s.size - pos) st = labs s (s.size - (pos + n)) st
  | 0, pos, _, _ => rfl
  | n + 1, pos, h, hj => by
    rw [labs_no (by omega) (hj pos (Nat.le_refl _) (by omega)), labs_skip n (pos + 1) (by omega) (fun j a b => hj j (by omega) (by omega)), show pos + 1 + n = pos + (n + 1) by omega]

theorem inLabel_yes (r : Int) (w : World) (h : (97 ≤ r ∧ r ≤ 122) ∨ (48 ≤ r ∧ r ≤ 57) ∨ r = 45) :
    Calls Tryz.prog 169 #[.int .i32 r] w fun e w' => e = .returned (.bool true) ∧ w' = w := by
  go_enter Tryz.func169, Tryz.ntmps169
  go_wp2
  all_goals go_ret
  all_goals first
    | (exfalso; omega)
    | (refine ⟨?_, rfl⟩; congr 2 <;> simp <;> omega)
theorem inLabel_no (r : Int) (w : World) (h : ¬ ((97 ≤ r ∧ r ≤ 122) ∨ (48 ≤ r ∧ r ≤ 57) ∨ r = 45)) :
    Calls Tryz.prog 169 #[.int .i32 r] w fun e w' => e = .returned (.bool false) ∧ w' = w := by
  go_enter Tryz.func169, Tryz.ntmps169
  go_wp2
  all_goals go_ret
  all_goals first
    | (exfalso; omega)
    | (refine ⟨?_, rfl⟩; congr 2 <;> simp <;> omega)


theorem retB {b c : Bool} (h : c = b) : Ending.returned (.bool b) = .returned (.bool c) := by rw [h]
theorem iterBelow {w v : World} {s : ByteArray} {pos : Nat} (h : Below w.heap.size w v) : Below w.heap.size w (v.iter s pos) := h.alloc h.size _
theorem width_pos (s : ByteArray) (pos : Nat) (h : pos < s.size) : 1 ≤ (Utf8.decode s pos).2 := by
  by_cases ha : (s[pos]'h).toNat < 128
  · rw [decode_ascii s pos h ha]
    exact Nat.le_refl _
  · exact (decode_high s pos h (by omega)).2
theorem decode_byte {s : ByteArray} {pos : Nat} (h : pos < s.size) (ha : byteAt s pos < 128) : Utf8.decode s pos = (byteAt s pos, 1) := by
  rw [← byteAt_lt h] at ha ⊢
  exact decode_ascii s pos h ha
theorem decode_not {s : ByteArray} {pos : Nat} (h : pos < s.size) (ha : 128 ≤ byteAt s pos) : 128 ≤ (Utf8.decode s pos).1 := by
  rw [← byteAt_lt h] at ha
  exact (decode_high s pos h ha).1

set_option maxRecDepth 100000 in
theorem labelOk_empty (s : ByteArray) (w : World) (hs : s.size = 0) :
    Calls Tryz.prog 157 #[.string s] w fun e w' => e = .returned (.bool false) ∧ Below w.heap.size w w' := by
  have hwr : wrap64 ((s.size : Int) - 1) = -1 := by unfold wrap64; omega
  go_enter Tryz.func157, Tryz.ntmps157
  go_wp2
  go_ret
  exact ⟨rfl, Below.refl _ _⟩

set_option maxRecDepth 100000 in
theorem labelOk_long (s : ByteArray) (w : World) (m : Nat) (hm : s.size = m + 1) (hs : s.size ≤ 2097152) (h : 10 ≤ m) :
    Calls Tryz.prog 157 #[.string s] w fun e w' => e = .returned (.bool false) ∧ Below w.heap.size w w' := by
  have hwr : wrap64 ((s.size : Int) - 1) = (m : Int) := by unfold wrap64; omega
  have h1 : ¬ ((m : Int) < 0) := by omega
  have h2 : (10 : Int) ≤ (m : Int) := by omega
  go_enter Tryz.func157, Tryz.ntmps157
  go_wp2
  go_ret
  exact ⟨rfl, Below.refl _ _⟩

set_option maxRecDepth 100000 in
theorem labelOk_first (s : ByteArray) (w : World) (m : Nat) (hm : s.size = m + 1) (h : m < 10) (hb : byteAt s 0 = 45) :
    Calls Tryz.prog 157 #[.string s] w fun e w' => e = .returned (.bool false) ∧ Below w.heap.size w w' := by
  have hwr : wrap64 ((s.size : Int) - 1) = (m : Int) := by unfold wrap64; omega
  have h1 : ¬ ((m : Int) < 0) := by omega
  have h2 : ¬ (10 : Int) ≤ (m : Int) := by omega
  have h3 : 0 < s.size := by omega
  have h4 : (((s[0]'h3).toNat : Int) == 45) = true := by rw [byteAt_lt h3, hb]; rfl
  go_enter Tryz.func157, Tryz.ntmps157
  go_wp2
  go_ret
  exact ⟨rfl, Below.refl _ _⟩

set_option maxRecDepth 100000 in
theorem labelOk_last (s : ByteArray) (w : World) (m : Nat) (hm : s.size = m + 1) (h : m < 10) (ha : byteAt s 0 ≠ 45) (hb : byteAt s m = 45) :
    Calls Tryz.prog 157 #[.string s] w fun e w' => e = .returned (.bool false) ∧ Below w.heap.size w w' := by
  have hwr : wrap64 ((s.size : Int) - 1) = (m : Int) := by unfold wrap64; omega
  have h1 : ¬ ((m : Int) < 0) := by omega
  have h2 : ¬ (10 : Int) ≤ (m : Int) := by omega
  have h3 : 0 < s.size := by omega
  have h4 : (((s[0]'h3).toNat : Int) == 45) = false := by rw [byteAt_lt h3]; simp; omega
  have h5 : m < s.size := by omega
  have h6 : (((s[m]'h5).toNat : Int) == 45) = true := by rw [byteAt_lt h5, hb]; rfl
  go_enter Tryz.func157, Tryz.ntmps157
  go_wp2
  go_ret
  exact ⟨rfl, Below.refl _ _⟩

set_option maxRecDepth 100000 in
theorem labelOk_loop (s : ByteArray) (w : World) (m : Nat) (hm : s.size = m + 1) (h : m < 10) (ha : byteAt s 0 ≠ 45) (hb : byteAt s m ≠ 45) :
    Calls Tryz.prog 157 #[.string s] w fun e w' => e = .returned (.bool (labB s)) ∧ Below w.heap.size w w' := by
  have hwr : wrap64 ((s.size : Int) - 1) = (m : Int) := by unfold wrap64; omega
  have h1 : ¬ ((m : Int) < 0) := by omega
  have h2 : ¬ (10 : Int) ≤ (m : Int) := by omega
  have h3 : 0 < s.size := by omega
  have h4 : (((s[0]'h3).toNat : Int) == 45) = false := by rw [byteAt_lt h3]; simp; omega
  have h5 : m < s.size := by omega
  have h6 : (((s[m]'h5).toNat : Int) == 45) = false := by rw [byteAt_lt h5]; simp; omega
  go_enter Tryz.func157, Tryz.ntmps157
  go_wp2
  go_loopw [5] (fun _ w' => ∃ pos : Nat, w' = w.iter s pos ∧ pos ≤ s.size ∧ ∀ k, k < pos → labByte (byteAt s k)) (fun _ w' => s.size - w'.iterPos w.heap.size)
  case atStart => exact ⟨0, rfl, by omega, fun k hk => by omega⟩
  case round =>
    obtain ⟨pos, rfl, hpos, hall⟩ := hrel
    by_cases hp : pos < s.size
    · have hnx : ∀ ty, (Instr.next (.pointer (some ⟨w.heap.size, 0, none⟩)) true ty).run Tryz.prog (w.iter s pos) = _ := fun ty => run_next_any w s pos ty hp
      by_cases hin : labByte (byteAt s pos)
      · have hlt : byteAt s pos < 128 := by unfold labByte at hin; omega
        rw [decode_byte hp hlt] at hnx
        have hc := fun v => inLabel_yes (byteAt s pos : Int) v (by unfold labByte at hin; omega)
        go_wp2_with fail
        refine (hc _).mono ?_
        rintro e w2 ⟨rfl, rfl⟩
        go_wp2
        go_roundw
        case rel =>
          refine ⟨pos + 1, rfl, by omega, fun k hk => ?_⟩
          rcases Nat.lt_or_ge k pos with hk' | hk'
          · exact hall k hk'
          · obtain rfl : k = pos := by omega
            exact hin
        case measure =>
          simp
          omega
      · have hc := fun v => inLabel_no ((Utf8.decode s pos).1 : Int) v (by
          rcases Nat.lt_or_ge (byteAt s pos) 128 with hl | hl
          · rw [decode_byte hp hl]
            unfold labByte at hin
            simp only
            omega
          · have := decode_not hp hl
            omega)
        go_wp2_with fail
        refine (hc _).mono ?_
        rintro e w2 ⟨rfl, rfl⟩
        go_wp2
        go_ret
        exact ⟨retB (labB_no (labP_bad hp hin)), iterBelow (Below.refl _ _)⟩
    · have hnx : ∀ ty, (Instr.next (.pointer (some ⟨w.heap.size, 0, none⟩)) true ty).run Tryz.prog (w.iter s pos) = _ := fun ty => run_next_end w s pos ty hp
      go_wp2
      go_ret
      exact ⟨retB (labB_yes (labP_mk (by omega) (by omega) ha (by rw [show s.size - 1 = m by omega]; exact hb) fun k hk => hall k (by omega))), iterBelow (Below.refl _ _)⟩

theorem labelOk_calls (s : ByteArray) (w : World) (hs : s.size ≤ 2097152) :
    Calls Tryz.prog 157 #[.string s] w fun e w' => e = .returned (.bool (labB s)) ∧ Below w.heap.size w w' := by
  rcases Nat.eq_zero_or_pos s.size with h0 | h0
  · rw [labB_no fun h => by have := h.1; omega]
    exact labelOk_empty s w h0
  · obtain ⟨m, hm⟩ : ∃ m, s.size = m + 1 := ⟨s.size - 1, by omega⟩
    rcases Nat.lt_or_ge m 10 with h1 | h1
    · by_cases ha : byteAt s 0 = 45
      · rw [labB_no (labP_first ha)]
        exact labelOk_first s w m hm h1 ha
      · by_cases hb : byteAt s m = 45
        · rw [labB_no (labP_last (by rw [show s.size - 1 = m by omega]; exact hb))]
          exact labelOk_last s w m hm h1 ha hb
        · exact labelOk_loop s w m hm h1 ha hb
    · rw [labB_no fun h => by have := h.2.1; omega]
      exact labelOk_long s w m hm hs h1


theorem iterPos_of {w : World} {k : Nat} {s : ByteArray} {pos : Nat} (h : w.heap[k]? = some (.stringIter s pos)) : w.iterPos k = pos := by simp [World.iterPos, h]
theorem iter_kept {w w2 : World} {k : Nat} {s : ByteArray} {pos pos' : Nat} (h : w.heap[k]? = some (.stringIter s pos)) (hb : Below (w.iterAt k s pos').heap.size (w.iterAt k s pos') w2) : w2.heap[k]? = some (.stringIter s pos') := by
  rw [hb.block k (by rw [Lib.iterAt_size]; exact (Array.getElem?_eq_some_iff.1 h).1)]
  exact Lib.iterAt_heap w k s pos pos' h

theorem in14 (x lo hi : Int) (w : World) :
    Calls Tryz.prog 115 #[.int .i64 x, .int .i64 lo, .int .i64 hi] w fun e w' => e = .returned (.bool (decide (lo ≤ x ∧ x ≤ hi))) ∧ w' = w := by
  go_enter Tryz.func115, Tryz.ntmps115
  go_wp2
  all_goals go_ret
  all_goals exact ⟨retB (by simp; omega), rfl⟩

set_option maxRecDepth 100000 in
set_option maxHeartbeats 1000000 in
theorem label28 (s : ByteArray) (w : World) (hs : s.size ≤ 2097152) :
    Calls Tryz.prog 159 #[.string s] w fun e w' => e = .returned (.bool (labB s)) ∧ w' = w := by
  have h14 := hide (fun v => in14 (s.size : Int) 1 10 v)
  go_enter Tryz.func159, Tryz.ntmps159
  go_wp2_with fail
  go_loopw [3] (fun n w' => ∃ k : Nat, n = .int .i64 k ∧ w' = w ∧ k ≤ s.size ∧ ∀ j, j < k → okAt s j) (fun n _ => s.size - (intOf n).toNat)
  case atStart => exact ⟨0, rfl, rfl, by omega, fun j hj => by omega⟩
  case round =>
    obtain ⟨k, rfl, rfl, hk, hall⟩ := hrel
    by_cases hp : k < s.size
    · have hb := byteAt_lt hp
      have c1 : (k : Int) < (s.size : Int) := by omega
      have w1 : wrap64 ((k : Int) + 1) = ((k + 1 : Nat) : Int) := by unfold wrap64; omega
      have w2 : wrap64 ((s.size : Int) - 1) = (s.size : Int) - 1 := by unfold wrap64; omega
      by_cases hok : okAt s k
      · have hok' := hok
        unfold okAt at hok'
        generalize byteAt s k = b at *
        have HM : Hid (∃ k' : Nat, Value.int .i64 ((k : Int) + 1) = .int .i64 k' ∧ True ∧ k' ≤ s.size ∧ ∀ j, j < k' → okAt s j) := ⟨k + 1, rfl, trivial, by omega, fun j hj => by
          rcases Nat.lt_or_ge j k with h | h
          · exact hall j h
          · obtain rfl : j = k := by omega
            exact hok⟩
        go_wp2
        all_goals first
          | (go_roundw
             case rel => exact unhide HM
             case measure => simp only [intOf]; omega)
          | (exfalso; simp at *; omega)
      · have hok' := hok
        unfold okAt at hok'
        have HN := hide (labB_no (s := s) fun hl => hok (hl.2.2 k hp))
        generalize byteAt s k = b at *
        go_wp2
        all_goals first
          | (go_ret; exact ⟨retB (unhide HN), rfl⟩)
          | (exfalso; simp at *; omega)
    · have c1 : ¬ (k : Int) < (s.size : Int) := by omega
      go_wp2_with fail
      refine (unhide h14 _).mono ?_
      rintro e w2 ⟨rfl, rfl⟩
      go_wp2_with fail
      go_ret
      refine ⟨retB ?_, rfl⟩
      by_cases hl : labP s
      · rw [labB_yes hl]; symm; simp; have := hl.1; have := hl.2.1; omega
      · rw [labB_no hl]; symm; simp; intro h1; refine Classical.byContradiction fun h2 => hl ⟨by omega, by omega, fun j hj => hall j (by omega)⟩


theorem infoS : (Tryz.prog.info? 9).map (fun i => (i.zero, i.size, i.bytes)) = some (some (.string ⟨#[]⟩), 1, 16) := by kernel_rfl
/-- The texts lie in a row of the call's own. -/
def Txs (w : World) (l : List ByteArray) (v : Value) (wr : World) : Prop := wr.ownsRow w.heap.size 9 1 v l.length (l.map fun b => Value.string b)
theorem Txs.shape {w wr : World} {l : List ByteArray} {v : Value} (h : Txs w l v wr) : ∃ a c, v = .slice a l.length c := by
  rcases h.2 with ⟨h1, h2⟩ | ⟨g, cap, cur, h1, _⟩
  · exact ⟨none, 0, by rw [h1, h2]⟩
  · exact ⟨_, _, h1⟩
theorem Txs.on {w wr w2 : World} {l : List ByteArray} {v : Value} (h : Txs w l v wr) (hb : Below wr.heap.size wr w2) : Txs w l v w2 :=
  World.ownsRow.kept h (w' := w2) (row := none) ⟨hb.os, hb.tape, hb.output, hb.size, fun k hk _ => hb.block k hk⟩ (by cases v.ownBlock <;> simp)
/-- One text more, out of a block of its own. -/
theorem Txs.put {w wr w0 : World} {l : List ByteArray} {tv : Value} (h : Txs w l tv wr) (hbw : Below w.heap.size w wr) (c : ByteArray) {b : Nat} (hb : Below wr.heap.size wr w0) (hc : w0.cell? ⟨b, 0, none⟩ = some (.string c)) (hn : l.length + 1 ≤ 1073741824) (ty : TypeId) :
    ∃ v' w', (Builtin.append_ #[125, 125] ty #[tv, .slice (some ⟨b, 0, none⟩) 1 1]).run Tryz.prog w0 = .ok v' w' ∧ Txs w (l ++ [c]) v' w' ∧ w0.grownBy w' tv.ownBlock ∧ Below w.heap.size w w' := by
  obtain ⟨i, hi, hzz⟩ := Option.map_eq_some_iff.1 infoS
  simp only [Prod.mk.injEq] at hzz
  obtain ⟨hz, hs, hby⟩ := hzz
  have h0 := h.on hb
  have hb0 : Below w.heap.size w w0 := hbw.trans (hb.mono hbw.size)
  obtain ⟨v', w', g1, g2, g3, _⟩ := run_append_own_wide (P := Tryz.prog) w0 w.heap.size 125 ty 9 i _ 1 16 Tryz.underlying125 hi hz hs hby rfl (by omega) tv l.length _ h0 ⟨b, 0, none⟩ 1 1 [.string c]
    rfl (fun j u hj => by
      rw [Addr.add_mid]
      match j, hj with
      | 0, hj => simp at hj; subst hj; exact hc) (fun u hu => by simp at hu; subst hu; rfl) (by unfold maxLen; omega) (by omega) hb0.size
  refine ⟨v', w', g1, ?_, g3, hb0.grown g3 hb0.size (fun k hk => (World.ownsRow.lt h0 k hk).1)⟩
  unfold Txs
  rw [List.length_append, List.map_append]
  simpa using g2

theorem abH {w : World} (x : Obj) : Below w.heap.size w (w.alloc x) := (Below.refl _ _).alloc (Nat.le_refl _) _
theorem Txs.lit (w : World) : Txs w [] (.slice (some ⟨w.heap.size, 0, none⟩) 0 0) (w.alloc (.cells #[] 9)) :=
  ⟨rfl, Or.inr ⟨w.heap.size, 0, #[], rfl, Nat.le_refl _, heap_alloc_new w _, Nat.le_refl _, Nat.zero_le _, rfl, rfl⟩⟩
/-- How far the labels are gone through. -/
def Gone (s : ByteArray) (k fr : Nat) (ls : List ByteArray) : Prop := (k ≤ s.size ∧ fr ≤ k ∧ ls ++ labs s (s.size - k) fr = labsOf s) ∨ (k = s.size + 1 ∧ ls = labsOf s)
theorem Gone.end {s : ByteArray} {k fr : Nat} {ls : List ByteArray} (h : Gone s k fr ls) (hk : ¬ k ≤ s.size) : ls = labsOf s := by
  rcases h with h | h
  · exact absurd h.1 hk
  · exact h.2
theorem Gone.last {s : ByteArray} {k fr : Nat} {ls : List ByteArray} (h : Gone s k fr ls) (hk : k = s.size) (fr' : Nat) : Gone s (k + 1) fr' (ls ++ [s.extract fr k]) := by
  rcases h with h | h
  · refine Or.inr ⟨by omega, ?_⟩
    rw [← h.2.2, hk, Nat.sub_self]
    simp [labs]
  · omega
theorem Gone.dot {s : ByteArray} {k fr : Nat} {ls : List ByteArray} (h : Gone s k fr ls) (hk : k < s.size) (hd : byteAt s k = 46) : Gone s (k + 1) (k + 1) (ls ++ [s.extract fr k]) := by
  rcases h with h | h
  · refine Or.inl ⟨by omega, Nat.le_refl _, ?_⟩
    rw [← h.2.2, labs_dot hk hd]
    simp
  · omega
theorem Gone.next {s : ByteArray} {k fr : Nat} {ls : List ByteArray} (h : Gone s k fr ls) (hk : k < s.size) (hd : ¬ byteAt s k = 46) : Gone s (k + 1) fr ls := by
  rcases h with h | h
  · exact Or.inl ⟨by omega, by omega, by rw [← h.2.2, labs_no hk hd]⟩
  · omega
theorem Gone.le {s : ByteArray} {k fr : Nat} {ls : List ByteArray} (h : Gone s k fr ls) (hk : k ≤ s.size) : fr ≤ k := by
  rcases h with h | h
  · exact h.2.1
  · omega

set_option maxRecDepth 100000 in
set_option maxHeartbeats 1000000 in
theorem labels27 (s : ByteArray) (w : World) (hs : s.size ≤ 2097152) :
    Calls Tryz.prog 158 #[.string s] w fun e w' => ∃ v, e = .returned v ∧ Txs w (labsOf s) v w' ∧ Below w.heap.size w w' := by
  go_enter Tryz.func158, Tryz.ntmps158
  go_wp2_with fail
  go_loopw [3, 4, 5] (fun v f i wr => ∃ (k fr : Nat) (ls : List ByteArray), i = .int .i64 k ∧ f = .int .i64 fr ∧ Txs w ls v wr ∧ Below w.heap.size w wr ∧ k ≤ s.size + 1 ∧ ls.length ≤ k ∧ Gone s k fr ls) (fun _ _ i _ => s.size + 1 - (intOf i).toNat)
  case atStart => exact ⟨0, 0, [], rfl, rfl, Txs.lit w, abH _, by omega, by simp, Or.inl ⟨Nat.zero_le _, Nat.le_refl _, rfl⟩⟩
  case round =>
    obtain ⟨k, fr, ls, rfl, rfl, htx, hbw, hk, hlen, hgo⟩ := hrel
    obtain ⟨ua, uc, rfl⟩ := htx.shape
    have HTX := hide htx
    have HBW := hide hbw
    have HGO := hide hgo
    by_cases hp : k ≤ s.size
    · have hfr := hgo.le hp
      clear htx hbw hgo
      have c1 : (k : Int) ≤ (s.size : Int) := by omega
      have c2 : (fr : Int) ≤ (k : Int) := by omega
      have c3 : (0 : Int) ≤ (fr : Int) := by omega
      have c4 : (0 : Int) ≤ (k : Int) := by omega
      have w1 : wrap64 ((k : Int) + 1) = ((k + 1 : Nat) : Int) := by unfold wrap64; omega
      have HAP := hide ((unhide HTX).put (unhide HBW) (s.extract fr k) (b := wr.heap.size) (abH (.cells #[.string (s.extract fr k)] 9)) (box_cell wr _ 9 0 _ rfl) (by omega) 125)
      have HLEN : Hid (ls.length ≤ k) := hlen
      have HLT : Hid (∀ l, (ls ++ [l]).length ≤ k + 1) := fun l => by simp; exact hlen
      by_cases he : k = s.size
      · have hq : ((k : Int) == (s.size : Int)) = true := by simp [he]
        have HN := hide ((unhide HGO).last he (k + 1))
        have HE := hide he
        clear he
        generalize ls.length = ul at *
        go_wp2_with (at_builtin; refine wpList_append_run rfl _ _ 125 rfl _ _ rfl rfl (fun v' w' => Txs w (ls ++ [s.extract fr k]) v' w' ∧ (wr.alloc (.cells #[.string (s.extract fr k)] 9)).grownBy w' (Value.slice ua ul uc).ownBlock ∧ Below w.heap.size w w') (unhide HAP) ?_; rintro v3 w3 ⟨hb3, hg3, hbw3⟩; have HB3 := hide hb3; have HW3 := hide hbw3; clear hb3 hg3 hbw3)
        go_roundw
        case rel => exact ⟨k + 1, k + 1, _, rfl, rfl, unhide HB3, unhide HW3, by omega, unhide HLT _, unhide HN⟩
        case measure => simp only [intOf]; omega
      · have hlt : k < s.size := by omega
        have hq : ((k : Int) == (s.size : Int)) = false := by simp; omega
        have c5 : (k : Int) < (s.size : Int) := by omega
        have hb := byteAt_lt hlt
        by_cases hd : byteAt s k = 46
        · have HN := hide ((unhide HGO).dot hlt hd)
          rw [hd] at hb
          have hb' : ((((s[k]'hlt).toNat : Nat) : Int) == 46) = true := by rw [hb]; rfl
          generalize ls.length = ul at *
          go_wp2_with (at_builtin; refine wpList_append_run rfl _ _ 125 rfl _ _ rfl rfl (fun v' w' => Txs w (ls ++ [s.extract fr k]) v' w' ∧ (wr.alloc (.cells #[.string (s.extract fr k)] 9)).grownBy w' (Value.slice ua ul uc).ownBlock ∧ Below w.heap.size w w') (unhide HAP) ?_; rintro v3 w3 ⟨hb3, hg3, hbw3⟩; have HB3 := hide hb3; have HW3 := hide hbw3; clear hb3 hg3 hbw3)
          go_roundw
          case rel => exact ⟨k + 1, k + 1, _, rfl, rfl, unhide HB3, unhide HW3, by omega, unhide HLT _, unhide HN⟩
          case measure => simp only [intOf]; omega
        · have HN := hide ((unhide HGO).next hlt hd)
          have hb' : ((((s[k]'hlt).toNat : Nat) : Int) == 46) = false := by rw [hb]; simp; omega
          generalize hul : ls.length = ul at *
          go_wp2_with fail
          go_roundw
          case rel => exact ⟨k + 1, fr, ls, rfl, rfl, by have := unhide HTX; exact this, unhide HBW, by omega, by have := unhide HLEN; omega, unhide HN⟩
          case measure => simp only [intOf]; omega
    · have c1 : ¬ (k : Int) ≤ (s.size : Int) := by omega
      have he := (unhide HGO).end hp
      clear htx hbw hgo
      go_wp2_with fail
      go_ret
      refine ⟨_, rfl, ?_, unhide HBW⟩
      rw [← he]
      exact unhide HTX

theorem labs_ne (s : ByteArray) : ∀ f st, labs s f st ≠ []
  | 0, st => by simp [labs]
  | f + 1, st => by
    unfold labs
    split
    · simp
    · exact labs_ne s f st
/-- A row of texts that is not empty: where it lies, and what each place holds. -/
theorem Txs.open {w wr : World} {l : List ByteArray} {v : Value} (h : Txs w l v wr) (hne : l ≠ []) : ∃ g c, v = .slice (some ⟨g, 0, none⟩) l.length c ∧ ∀ k t, l[k]? = some t → wr.cell? ⟨g, k, none⟩ = some (.string t) := by
  rcases h.2 with ⟨h1, h2⟩ | ⟨g, cap, cur, h1, h2, h3, h4, h5, h6, h7⟩
  · exact absurd (List.length_eq_zero_iff.1 h2) hne
  · refine ⟨g, cap, h1, fun k t hk => ?_⟩
    have hk' : k < l.length := (List.getElem?_eq_some_iff.1 hk).1
    have hkc : k < cur.size := by omega
    have e : (cur.toList.take (l.length * 1))[k]? = some (.string t) := by rw [h7]; simp [hk]
    rw [List.getElem?_take, if_pos (by omega), Array.getElem?_toList, Array.getElem?_eq_getElem hkc] at e
    rw [cell_of_row h3 hkc, e]

set_option maxRecDepth 100000 in
set_option maxHeartbeats 1000000 in
theorem labels18 (n : Nat) (s : ByteArray) (w : World) (hs : s.size ≤ 2097152) :
    Calls Tryz.prog 145 #[.string s, .int .i64 n] w fun e w' => e = .returned (.bool (lsB n s)) ∧ Below w.heap.size w w' := by
  have h27 := hide (fun v => labels27 s v hs)
  have h28 := hide (fun (l : ByteArray) v (h : l.size ≤ s.size) => label28 l v (by omega))
  have hlz : ∀ l ∈ labsOf s, l.size ≤ s.size := labs_size _ _
  have hll : (labsOf s).length ≤ s.size + 1 := labs_length _ _ _
  go_enter Tryz.func145, Tryz.ntmps145
  go_wp2_with fail
  refine (unhide h27 _).mono ?_
  rintro e wr ⟨v, rfl, htx, hbw⟩
  obtain ⟨g, c, rfl, hcell⟩ := htx.open (labs_ne _ _ _)
  have HC := hide hcell
  have HBW := hide hbw
  have HLZ := hide hlz
  have HH : Hid (∀ k, ¬ k < (labsOf s).length → (∀ j l, j < k → (labsOf s)[j]? = some l → labP l) → ∀ l ∈ labsOf s, labP l) := fun k hk h l hm => by
    obtain ⟨j, hj, e⟩ := List.getElem_of_mem hm
    exact h j l (by omega) (by rw [List.getElem?_eq_getElem hj, e])
  clear htx hcell hbw hlz
  go_wp2_with fail
  go_loopw [6] (fun n w' => ∃ k : Nat, n = .int .i64 k ∧ w' = wr ∧ k ≤ (labsOf s).length ∧ ∀ j l, j < k → (labsOf s)[j]? = some l → labP l) (fun n _ => (labsOf s).length - (intOf n).toNat)
  case atStart => exact ⟨0, rfl, rfl, by omega, fun j l hj => by omega⟩
  case round =>
    obtain ⟨k, rfl, rfl, hk, hall⟩ := hrel
    by_cases hp : k < (labsOf s).length
    · obtain ⟨l, hl⟩ : ∃ l, (labsOf s)[k]? = some l := ⟨_, List.getElem?_eq_getElem hp⟩
      have hm : l ∈ labsOf s := List.mem_of_getElem? hl
      have c0 := unhide HC k l hl
      have hc := hide (fun v => unhide h28 l v (unhide HLZ l hm))
      have c1 : (k : Int) < ((labsOf s).length : Int) := by omega
      have w1 : wrap64 ((k : Int) + 1) = ((k + 1 : Nat) : Int) := by unfold wrap64; omega
      by_cases hb : labP l
      · rw [labB_yes hb] at hc
        have HM : Hid (∀ j l, j < k + 1 → (labsOf s)[j]? = some l → labP l) := fun j l' hj hl' => by
          rcases Nat.lt_or_ge j k with h | h
          · exact hall j l' h hl'
          · obtain rfl : j = k := by omega
            rw [hl] at hl'
            cases hl'
            exact hb
        clear hl hm hall hb
        generalize hL : (labsOf s).length = L at *
        go_wp2_with fail
        refine (unhide hc _).mono ?_
        rintro e w2 ⟨rfl, rfl⟩
        go_wp2_with fail
        go_roundw
        case rel => exact ⟨k + 1, rfl, by simp, by omega, unhide HM⟩
        case measure => simp only [intOf]; omega
      · rw [labB_no hb] at hc
        have HN := hide (lsB_no (n := n) (s := s) fun hh => hb (hh.2.2 l hm))
        clear hl hm hall hb
        generalize hL : (labsOf s).length = L at *
        go_wp2_with fail
        refine (unhide hc _).mono ?_
        rintro e w2 ⟨rfl, rfl⟩
        go_wp2_with fail
        go_ret
        exact ⟨retB (unhide HN), unhide HBW⟩
    · have c1 : ¬ (k : Int) < ((labsOf s).length : Int) := by omega
      have HA := hide (unhide HH k hp hall)
      have HE : Hid (lsB n s = (decide ((n : Int) ≤ ((labsOf s).length : Int)) && decide ((s.size : Int) ≤ 60))) := by
        show _ = _
        by_cases h1 : n ≤ (labsOf s).length
        · by_cases h2 : s.size ≤ 60
          · rw [lsB_yes ⟨h2, h1, unhide HA⟩]; symm; simp; omega
          · rw [lsB_no fun hh => h2 hh.1]; symm; simp; intro _; omega
        · rw [lsB_no fun hh => h1 hh.2.1]; symm; simp; omega
      clear hall
      generalize hL : (labsOf s).length = L at *
      by_cases h1 : (n : Int) ≤ (L : Int)
      · by_cases h2 : (s.size : Int) ≤ 60
        · have HF : Hid (lsB n s = true) := by show _ = _; rw [unhide HE]; simp [h1, h2]
          go_wp2_with fail
          go_ret
          exact ⟨retB (unhide HF), unhide HBW⟩
        · have HF : Hid (lsB n s = false) := by show _ = _; rw [unhide HE]; simp [h2]
          go_wp2_with fail
          go_ret
          exact ⟨retB (unhide HF), unhide HBW⟩
      · have HF : Hid (lsB n s = false) := by show _ = _; rw [unhide HE]; simp [h1]
        go_wp2_with fail
        go_ret
        exact ⟨retB (unhide HF), unhide HBW⟩

set_option maxRecDepth 100000 in
theorem hostS (s : ByteArray) (w : World) (hs : s.size ≤ 2097152) :
    Calls Tryz.prog 113 #[.string s] w fun e w' => e = .returned (.bool (hostB s)) ∧ Below w.heap.size w w' := by
  have h18 := hide (fun v => labels18 2 s v hs)
  go_enter Tryz.func113, Tryz.ntmps113
  go_wp2_with fail
  refine (unhide h18 _).mono ?_
  rintro e w2 ⟨rfl, hb2⟩
  go_wp2_with fail
  go_ret
  exact ⟨rfl, hb2⟩

set_option maxRecDepth 100000 in
theorem clone36 (s : ByteArray) (w : World) (hs : s.size ≤ 2097152) :
    Calls Tryz.prog 109 #[.string s] w fun e w' => e = .returned (.string s) ∧ Below w.heap.size w w' := by
  have h := hide (fun v => Tryz.stringslite_Clone s v (by omega))
  go_enter Tryz.func109, Tryz.ntmps109
  go_wp2_with fail
  refine (unhide h _).mono ?_
  rintro e w2 ⟨rfl, hb2⟩
  go_wp2_with fail
  go_ret
  exact ⟨rfl, hb2⟩

theorem Txs.iterAt {w wr : World} {l : List ByteArray} {v : Value} (h : Txs w l v wr) {k : Nat} {s : ByteArray} {pos : Nat} (hk : wr.heap[k]? = some (.stringIter s pos)) (pos' : Nat) : Txs w l v (wr.iterAt k s pos') := by
  refine World.ownsRow.kept h (row := some k) ⟨rfl, rfl, rfl, by rw [Lib.iterAt_size]; exact Nat.le_refl _, fun j _ hj => Lib.iterAt_other wr k j s pos' fun e => hj (by rw [e])⟩ ?_
  rcases h.2 with ⟨h1, _⟩ | ⟨g, cap, cur, h1, _, h3, _⟩
  · exact Or.inl (by rw [h1]; rfl)
  · refine Or.inr (fun e => ?_)
    rw [h1] at e
    cases e
    rw [h3] at hk
    cases hk
theorem Txs.notIter {w wr : World} {l : List ByteArray} {v : Value} (h : Txs w l v wr) {k : Nat} {s : ByteArray} {pos : Nat} (hk : wr.heap[k]? = some (.stringIter s pos)) : some k ≠ v.ownBlock := fun e => by
  rcases h.2 with ⟨h1, _⟩ | ⟨g, cap, cur, h1, _, h3, _⟩
  · rw [h1] at e; cases e
  · rw [h1] at e
    cases e
    rw [h3] at hk
    cases hk
theorem grown_iter {w w' : World} {row : Option Nat} {k : Nat} {s : ByteArray} {pos : Nat} {x : Obj} (hk : w.heap[k]? = some (.stringIter s pos)) (hn : some k ≠ row) (hg : (w.alloc x).grownBy w' row) : w'.heap[k]? = some (.stringIter s pos) := by
  have h1 : k < w.heap.size := (Array.getElem?_eq_some_iff.1 hk).1
  rw [hg.block k (by rw [heap_size_alloc]; omega) hn, (abH x).block k h1, hk]
theorem Txs.nil (w : World) (s : ByteArray) : Txs w [] (.slice none 0 0) (w.iter s 0) := ⟨rfl, Or.inl ⟨rfl, rfl⟩⟩

/-- How far the range over the text has come: what was put, and where the label that is under way began. -/
def Run (s : ByteArray) (pos st : Nat) (ls : List ByteArray) : Prop := pos ≤ s.size ∧ st ≤ pos ∧ ls.length ≤ pos ∧ ls ++ labs s (s.size - pos) st = labsOf s
theorem Run.start (s : ByteArray) : Run s 0 0 [] := ⟨Nat.zero_le _, Nat.le_refl _, Nat.le_refl _, rfl⟩
theorem Run.dot {s : ByteArray} {pos st : Nat} {ls : List ByteArray} (h : Run s pos st ls) (hp : pos < s.size) (hd : byteAt s pos = 46) : Run s (pos + 1) (pos + 1) (ls ++ [s.extract st pos]) := by
  refine ⟨hp, Nat.le_refl _, by have := h.2.2.1; simp; omega, ?_⟩
  rw [← h.2.2.2, labs_dot hp hd]
  simp
theorem Run.next {s : ByteArray} {pos st : Nat} {ls : List ByteArray} (h : Run s pos st ls) (hp : pos < s.size) (hd : ¬ byteAt s pos = 46) : Run s (pos + (Utf8.decode s pos).2) st ls := by
  obtain ⟨_, h1, h2, h3⟩ := h
  rcases Nat.lt_or_ge (byteAt s pos) 128 with hb | hb
  · rw [decode_byte hp hb]
    exact ⟨hp, by simp only; omega, by simp only; omega, by rw [← h3, labs_no hp hd]⟩
  · obtain ⟨w1, w2⟩ := decode_wide hp hb
    exact ⟨w1, by omega, by omega, by rw [← h3, labs_skip _ pos w1 fun j a b => by have := w2 j a b; omega]⟩
theorem Run.last {s : ByteArray} {pos st : Nat} {ls : List ByteArray} (h : Run s pos st ls) (hp : ¬ pos < s.size) : ls ++ [s.extract st s.size] = labsOf s := by
  rw [← h.2.2.2, show s.size - pos = 0 by omega]
  rfl

set_option maxRecDepth 100000 in
set_option maxHeartbeats 1000000 in
theorem labelsI (s : ByteArray) (w : World) (hs : s.size ≤ 2097152) :
    Calls Tryz.prog 156 #[.string s] w fun e w' => ∃ v, e = .returned v ∧ Txs w (labsOf s) v w' ∧ Below w.heap.size w w' := by
  have h36 := hide (fun (l : ByteArray) v (h : l.size ≤ s.size) => clone36 l v (by omega))
  go_enter Tryz.func156, Tryz.ntmps156
  go_wp2_with fail
  go_loopw [3, 4] (fun v n wr => ∃ (pos st : Nat) (ls : List ByteArray), n = .int .i64 st ∧ Txs w ls v wr ∧ wr.heap[w.heap.size]? = some (.stringIter s pos) ∧ Below w.heap.size w wr ∧ Run s pos st ls) (fun _ _ wr => s.size - wr.iterPos w.heap.size)
  case atStart => exact ⟨0, 0, [], rfl, Txs.nil w s, World.iter_heap _ _ _, iterBelow (Below.refl _ _), Run.start s⟩
  case round =>
    obtain ⟨pos, st, ls, rfl, htx, hit, hbw, hrun⟩ := hrel
    obtain ⟨ua, uc, rfl⟩ := htx.shape
    have HTX := hide htx
    have HIT := hide hit
    have HBW := hide hbw
    have HRUN := hide hrun
    have HP0 : Hid (wr.iterPos w.heap.size = pos) := iterPos_of hit
    obtain ⟨r1, r2, r3, r4⟩ := hrun
    by_cases hp : pos < s.size
    · have hnx := fun ty => Lib.run_next_any_at (P := Tryz.prog) wr w.heap.size s pos ty hit hp
      clear htx hit hbw r4
      have c1 : (pos : Int) ≤ (s.size : Int) := by omega
      have c2 : (st : Int) ≤ (pos : Int) := by omega
      have c3 : (0 : Int) ≤ (st : Int) := by omega
      have c4 : (0 : Int) ≤ (pos : Int) := by omega
      by_cases hd : byteAt s pos = 46
      · simp only [decode_byte hp (show byteAt s pos < 128 by omega), hd, Int.cast_ofNat_Int] at hnx
        have w1 : wrap64 ((pos : Int) + 1) = ((pos + 1 : Nat) : Int) := by unfold wrap64; omega
        have hc := hide (fun v => unhide h36 (s.extract st pos) v (size_extract_le _ _ _))
        generalize hul : ls.length = ul at *
        go_wp2_with fail
        refine (unhide hc _).mono ?_
        rintro e w2 ⟨rfl, hb2⟩
        have HTX2 := hide (((unhide HTX).iterAt (unhide HIT) (pos + 1)).on hb2)
        have HBI := hide (Lib.below_iterAt (unhide HBW) (Nat.le_refl _) s (pos + 1))
        have HBW2 := hide ((unhide HBI).trans (hb2.mono (unhide HBI).size))
        have HIT2 := hide (iter_kept (unhide HIT) hb2)
        clear hb2
        subst hul
        have HAP := hide ((unhide HTX2).put (unhide HBW2) (s.extract st pos) (b := w2.heap.size) (abH (.cells #[.string (s.extract st pos)] 9)) (box_cell w2 _ 9 0 _ rfl) (by omega) 125)
        have HNI := hide ((unhide HTX2).notIter (unhide HIT2))
        have HN := hide ((unhide HRUN).dot hp hd)
        generalize hul : ls.length = ul at *
        go_wp2_with (at_builtin; refine wpList_append_run rfl _ _ 125 rfl _ _ rfl rfl (fun v' w' => Txs w (ls ++ [s.extract st pos]) v' w' ∧ (w2.alloc (.cells #[.string (s.extract st pos)] 9)).grownBy w' (Value.slice ua ul uc).ownBlock ∧ Below w.heap.size w w') (unhide HAP) ?_; rintro v3 w3 ⟨hb3, hg3, hbw3⟩; have HB3 := hide hb3; have HW3 := hide hbw3; have HI3 := hide (grown_iter (unhide HIT2) (unhide HNI) hg3); clear hb3 hg3 hbw3)
        go_roundw
        case rel => exact ⟨pos + 1, pos + 1, _, rfl, unhide HB3, unhide HI3, unhide HW3, unhide HN⟩
        case measure =>
          have e1 := iterPos_of (unhide HI3)
          have e0 := unhide HP0
          simp only [e0, e1]
          omega
      · have hr : ((((Utf8.decode s pos).1 : Nat) : Int) == 46) = false := by
          rcases Nat.lt_or_ge (byteAt s pos) 128 with hb | hb
          · rw [decode_byte hp hb]
            simp
            omega
          · have := decode_not hp hb
            simp
            omega
        generalize hul : ls.length = ul at *
        go_wp2_with fail
        go_roundw
        case rel =>
          exact ⟨_, st, ls, rfl, (unhide HTX).iterAt (unhide HIT) _, Lib.iterAt_heap wr w.heap.size s pos _ (unhide HIT), Lib.below_iterAt (unhide HBW) (Nat.le_refl _) s _, (unhide HRUN).next hp hd⟩
        case measure =>
          have e1 := iterPos_of (Lib.iterAt_heap wr w.heap.size s pos (pos + (Utf8.decode s pos).2) (unhide HIT))
          have e0 := unhide HP0
          have := width_pos s pos hp
          simp only [e0, e1]
          omega
    · have hnx := fun ty => Lib.run_next_end_at (P := Tryz.prog) wr w.heap.size s pos ty hit hp
      clear htx hit hbw r4
      have c5 : (st : Int) ≤ (s.size : Int) := by omega
      have c3 : (0 : Int) ≤ (st : Int) := by omega
      have hc := hide (fun v => unhide h36 (s.extract st s.size) v (size_extract_le _ _ _))
      generalize hul : ls.length = ul at *
      go_wp2_with fail
      refine (unhide hc _).mono ?_
      rintro e w2 ⟨rfl, hb2⟩
      have HTX2 := hide ((unhide HTX).on hb2)
      have HBW2 := hide ((unhide HBW).trans (hb2.mono (unhide HBW).size))
      clear hb2
      subst hul
      have HAP := hide ((unhide HTX2).put (unhide HBW2) (s.extract st s.size) (b := w2.heap.size) (abH (.cells #[.string (s.extract st s.size)] 9)) (box_cell w2 _ 9 0 _ rfl) (by omega) 125)
      have HN := hide ((unhide HRUN).last hp)
      generalize hul : ls.length = ul at *
      go_wp2_with (at_builtin; refine wpList_append_run rfl _ _ 125 rfl _ _ rfl rfl (fun v' w' => Txs w (ls ++ [s.extract st s.size]) v' w' ∧ (w2.alloc (.cells #[.string (s.extract st s.size)] 9)).grownBy w' (Value.slice ua ul uc).ownBlock ∧ Below w.heap.size w w') (unhide HAP) ?_; rintro v3 w3 ⟨hb3, hg3, hbw3⟩; have HB3 := hide hb3; have HW3 := hide hbw3; clear hb3 hg3 hbw3)
      go_ret
      refine ⟨_, rfl, ?_, unhide HW3⟩
      rw [← unhide HN]
      exact unhide HB3

theorem below_some {w w' : World} (h : Below w.heap.size w w') {b o : Nat} {v : Value} (hc : w.cell? ⟨b, o, none⟩ = some v) : w'.cell? ⟨b, o, none⟩ = some v := by
  rw [h.cell (p := ⟨b, o, none⟩) ?_, hc]
  refine Classical.byContradiction fun hn => ?_
  have : w.heap[b]? = none := Array.getElem?_eq_none_iff.2 (by simpa using hn)
  simp [World.cell?, this] at hc

set_option maxRecDepth 100000 in
set_option maxHeartbeats 1000000 in
theorem labelsOkI (n : Nat) (s : ByteArray) (w : World) (hs : s.size ≤ 2097152) :
    Calls Tryz.prog 144 #[.string s, .int .i64 n] w fun e w' => e = .returned (.bool (lsB n s)) ∧ Below w.heap.size w w' := by
  by_cases h60 : s.size ≤ 60
  · have h16 := hide (fun v => labelsI s v hs)
    have h49 := hide (fun (l : ByteArray) v (h : l.size ≤ s.size) => labelOk_calls l v (by omega))
    have hlz : ∀ l ∈ labsOf s, l.size ≤ s.size := labs_size _ _
    have hll : (labsOf s).length ≤ s.size + 1 := labs_length _ _ _
    have c60 : ¬ (60 : Int) < (s.size : Int) := by omega
    go_enter Tryz.func144, Tryz.ntmps144
    go_wp2_with fail
    refine (unhide h16 _).mono ?_
    rintro e wo ⟨v, rfl, htx, hbw⟩
    obtain ⟨g, c, rfl, hcell⟩ := htx.open (labs_ne _ _ _)
    have HC := hide hcell
    have HBW := hide hbw
    have HLZ := hide hlz
    have HH : Hid (∀ k, ¬ k < (labsOf s).length → (∀ j l, j < k → (labsOf s)[j]? = some l → labP l) → ∀ l ∈ labsOf s, labP l) := fun k hk h l hm => by
      obtain ⟨j, hj, e⟩ := List.getElem_of_mem hm
      exact h j l (by omega) (by rw [List.getElem?_eq_getElem hj, e])
    clear htx hcell hbw hlz
    go_wp2_with fail
    go_loopw [15] (fun x w' => ∃ k : Nat, x = .int .i64 k ∧ Below wo.heap.size wo w' ∧ k ≤ (labsOf s).length ∧ ∀ j l, j < k → (labsOf s)[j]? = some l → labP l) (fun x _ => (labsOf s).length - (intOf x).toNat)
    case atStart => exact ⟨0, rfl, Below.refl _ _, by omega, fun j l hj => by omega⟩
    case round =>
      obtain ⟨k, rfl, hbq, hk, hall⟩ := hrel
      have HBQ := hide hbq
      have HBT := hide ((unhide HBW).trans (hbq.mono (unhide HBW).size))
      clear hbq
      by_cases hp : k < (labsOf s).length
      · obtain ⟨l, hl⟩ : ∃ l, (labsOf s)[k]? = some l := ⟨_, List.getElem?_eq_getElem hp⟩
        have hm : l ∈ labsOf s := List.mem_of_getElem? hl
        have c0 := below_some (unhide HBQ) (unhide HC k l hl)
        have hc := hide (fun v => unhide h49 l v (unhide HLZ l hm))
        have c1 : (k : Int) < ((labsOf s).length : Int) := by omega
        have w1 : wrap64 ((k : Int) + 1) = ((k + 1 : Nat) : Int) := by unfold wrap64; omega
        by_cases hb : labP l
        · rw [labB_yes hb] at hc
          have HM : Hid (∀ j l, j < k + 1 → (labsOf s)[j]? = some l → labP l) := fun j l' hj hl' => by
            rcases Nat.lt_or_ge j k with h | h
            · exact hall j l' h hl'
            · obtain rfl : j = k := by omega
              rw [hl] at hl'
              cases hl'
              exact hb
          clear hl hm hall hb
          generalize hL : (labsOf s).length = L at *
          go_wp2_with fail
          refine (unhide hc _).mono ?_
          rintro e w2 ⟨rfl, hb2⟩
          have HB2 := hide ((unhide HBQ).trans (hb2.mono (unhide HBQ).size))
          clear hb2 c0
          go_wp2_with fail
          go_roundw
          case rel => exact ⟨k + 1, rfl, unhide HB2, by omega, unhide HM⟩
          case measure => simp only [intOf]; omega
        · rw [labB_no hb] at hc
          have HN := hide (lsB_no (n := n) (s := s) fun hh => hb (hh.2.2 l hm))
          clear hl hm hall hb
          generalize hL : (labsOf s).length = L at *
          go_wp2_with fail
          refine (unhide hc _).mono ?_
          rintro e w2 ⟨rfl, hb2⟩
          have HB2 := hide ((unhide HBT).trans (hb2.mono (unhide HBT).size))
          clear hb2 c0
          go_wp2_with fail
          go_ret
          exact ⟨retB (unhide HN), unhide HB2⟩
      · have c1 : ¬ (k : Int) < ((labsOf s).length : Int) := by omega
        have HE : Hid (lsB n s = decide (n ≤ (labsOf s).length)) := by
          show _ = _
          by_cases h1 : n ≤ (labsOf s).length
          · rw [lsB_yes ⟨h60, h1, unhide HH k hp hall⟩]; symm; simpa using h1
          · rw [lsB_no fun hh => h1 hh.2.1]; symm; simpa using h1
        clear hall
        generalize hL : (labsOf s).length = L at *
        go_wp2_with fail
        go_ret
        exact ⟨retB (unhide HE), unhide HBT⟩
  · have c : (60 : Int) < (s.size : Int) := by omega
    go_enter Tryz.func144, Tryz.ntmps144
    go_wp2_with fail
    go_ret
    exact ⟨retB (lsB_no fun hh => h60 hh.1), Below.refl _ _⟩

set_option maxRecDepth 100000 in
theorem hostI (s : ByteArray) (w : World) (hs : s.size ≤ 2097152) :
    Calls Tryz.prog 111 #[.string s] w fun e w' => e = .returned (.bool (hostB s)) ∧ Below w.heap.size w w' := by
  have h32 := hide (fun v => labelsOkI 2 s v hs)
  go_enter Tryz.func111, Tryz.ntmps111
  go_wp2_with fail
  refine (unhide h32 _).mono ?_
  rintro e w2 ⟨rfl, hb2⟩
  go_wp2_with fail
  go_ret
  exact ⟨rfl, hb2⟩

end Go.Proofs.YtmklgikbajhcpaaGreatDoor
