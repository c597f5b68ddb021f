
/- The walks of impl.digits and impl.Seal: of whatever two terms lie in memory the second, with a number ahead of it, sealed by the first, where that is right, else the zero term; in new blocks of its own; nothing that was there is written. -/
import Derived.Test.YtafoonabmijcdaaGreatDoorSe
import Derived.Test.YtafoonabmijcdaaGreatDoorIs
import Derived.Deep.RegionHeld3
import Derived.Deep.DeepCutAuto
namespace Go.Proofs.YtafoonabmijcdaaGreatDoor
open Go.RowKit Go.Deep

set_option maxRecDepth 100000 in
set_option maxHeartbeats 1000000 in
theorem digitsI (m : Int) (w : World) (h0 : -9223372036854775808 ≤ m) (h1 : m ≤ 9223372036854775807) (ht : Tab w) :
    Calls Tryz.prog 49 #[.int .i64 m] w fun e w' => e = .returned (.agg #[.int .i64 2, .int .i64 0, .string ⟨(Lib.itoa m).toArray⟩, .slice none 0 0]) ∧ Below w.heap.size w w' := by
  have h59 := hide (itoa46 m)
  have HX := hide (ZBox.new w)
  have HT := hide (ht.on (ab (.cells #[.int .i64 0, .int .i64 0, .string ByteArray.empty, .slice none 0 0] 28)))
  clear ht
  go_enter Tryz.func49, Tryz.ntmps49
  go_wp2_with fail
  refine (unhide h59 _ h0 h1 (unhide HT)).mono ?_
  rintro e w2 ⟨rfl, hb2⟩
  obtain ⟨d0, d1, d2, d3, e0, e1, e2, e3⟩ := ((unhide HX).below hb2).facts
  have HB := hide (bt (ab _) hb2 (Nat.le_refl _))
  clear hb2
  go_wp2_with fail
  exact bodyPost_ret (v := .agg #[.int .i64 2, .int .i64 0, .string ⟨(Lib.itoa m).toArray⟩, .slice none 0 0]) (by simp [results, Tryz.results49, go_sem, d0, d1, d2, d3]; try rfl) rfl ⟨rfl, set4_below (unhide HB) (Nat.le_refl _)⟩

set_option maxRecDepth 100000 in
theorem ZBox.drew {w : World} {g : Nat} (h : ZBox w g) : ZBox w.drew g := h
/-- The box of what was numbered. -/
def SlCut (P : Tm) (w2 : World) (p : Value) (wx : World) : Prop := ∃ g7 a7, p = .pointer (some ⟨g7, 0, none⟩) ∧ RowT 28 wx g7 3 0 ByteArray.empty a7 2 2 ∧ Lies wx 0 P (tmCells 3 0 ByteArray.empty a7 2 2) ∧ Below w2.heap.size w2 wx

set_option maxRecDepth 100000 in
theorem lies_row2 {W : World} {t u : Tm} {op1 n1 op2 n2 : Int} {s1 s2 : ByteArray} {a1 a2 : Option Addr} {l1 c1 l2 c2 b : Nat} (h1 : Lies W 0 t (tmCells op1 n1 s1 a1 l1 c1)) (h2 : Lies W 0 u (tmCells op2 n2 s2 a2 l2 c2)) (hr : ∀ j v, (#[.int .i64 op1, .int .i64 n1, .string s1, .slice a1 l1 c1, .int .i64 op2, .int .i64 n2, .string s2, .slice a2 l2 c2] : Array Value)[j]? = some v → W.cell? ⟨b, j, none⟩ = some v) (op : Int) (hop : (Lit.int .i64 op).wf = true) :
    Lies W 0 (.node op 0 ByteArray.empty [t, u]) (tmCells op 0 ByteArray.empty (some ⟨b, 0, none⟩) 2 2) := by
  simp only [Lies, LiesAll]
  refine ⟨_, _, rfl, ⟨by simp [maxLen], by simp, by simp [maxLen]⟩, ⟨hop, by decide⟩, ⟨b, 0, _, rfl, Nat.zero_le _, fun j v hj => ?_, h1⟩, ⟨b, 0, _, rfl, Nat.zero_le _, fun j v hj => ?_, h2⟩, trivial⟩
  · rw [Nat.zero_mul, Nat.zero_add]
    refine hr j v ?_
    match j, hj with
    | 0, hj => simpa [tmCells] using hj
    | 1, hj => simpa [tmCells] using hj
    | 2, hj => simpa [tmCells] using hj
    | 3, hj => simpa [tmCells] using hj
    | j + 4, hj => simp [tmCells] at hj
  · rw [show 0 + (0 + 1) * 4 + j = 4 + j by omega]
    refine hr (4 + j) v ?_
    match j, hj with
    | 0, hj => simpa [tmCells] using hj
    | 1, hj => simpa [tmCells] using hj
    | 2, hj => simpa [tmCells] using hj
    | 3, hj => simpa [tmCells] using hj
    | j + 4, hj => simp [tmCells] at hj

set_option maxRecDepth 100000 in
theorem fill26 {w : World} {g : Nat} (h : ZBox w g) (op n : Int) (s : ByteArray) (a : Option Addr) (len cap : Nat) : RowT 28 ((((w.setCell ⟨g, 0, none⟩ (.int .i64 op)).setCell ⟨g, 1, none⟩ (.int .i64 n)).setCell ⟨g, 2, none⟩ (.string s)).setCell ⟨g, 3, none⟩ (.slice a len cap)) g op n s a len cap := by
  unfold ZBox at h
  unfold RowT
  have r : ∀ {w : World} {b o : Nat} {C : Array Value} {t : TypeId} {fr : Nat × Nat} (v : Value), w.heap[b]? = some (.cells C t fr) → (w.setCell ⟨b, o, none⟩ v).heap[b]? = some (.cells (C.setIfInBounds o v) t fr) := fun v h => by
    simp only [World.setCell, Array.getElem?_modify]
    simp [h]
  exact r (o := 3) (.slice a len cap) (r (o := 2) (.string s) (r (o := 1) (.int .i64 n) (r (o := 0) (.int .i64 op) h)))

set_option maxRecDepth 100000 in
theorem SlCut.mk {w2 wx : World} {g b : Nat} {NT u : Tm} {ns s2 : ByteArray} {op2 n2 : Int} {a2 : Option Addr} {len2 cap2 : Nat} (hb : Below w2.heap.size w2 wx) (hrow : RowT 28 wx g 3 0 ByteArray.empty (some ⟨b, 0, none⟩) 2 2) (hc : ∀ j v, (#[.int .i64 2, .int .i64 0, .string ns, .slice none 0 0, .int .i64 op2, .int .i64 n2, .string s2, .slice a2 len2 cap2] : Array Value)[j]? = some v → wx.cell? ⟨b, j, none⟩ = some v) (hN : ∀ v : World, Lies v 0 NT (tmCells 2 0 ns none 0 0)) (hu : Lies w2 0 u (tmCells op2 n2 s2 a2 len2 cap2)) :
    SlCut (.node 3 0 ByteArray.empty [NT, u]) w2 (.pointer (some ⟨g, 0, none⟩)) wx := ⟨g, _, rfl, hrow, lies_row2 (hN _) (hu.below hb) hc 3 (by decide), hb⟩
set_option maxRecDepth 100000 in
theorem SlCut.late {w2 X : World} {NT u : Tm} {ns s2 : ByteArray} {op2 n2 : Int} {a2 : Option Addr} {len2 cap2 : Nat} (hb : Below w2.heap.size w2 X) (hN : ∀ v : World, Lies v 0 NT (tmCells 2 0 ns none 0 0)) (hu : Lies w2 0 u (tmCells op2 n2 s2 a2 len2 cap2)) :
    SlCut (.node 3 0 ByteArray.empty [NT, u]) w2 (.pointer (some ⟨X.heap.size + 1, 0, none⟩)) ((X.alloc (.cells #[.int .i64 2, .int .i64 0, .string ns, .slice none 0 0, .int .i64 op2, .int .i64 n2, .string s2, .slice a2 len2 cap2] 28)).alloc (.cells #[.int .i64 3, .int .i64 0, .string ⟨#[]⟩, .slice (some ⟨X.heap.size, 0, none⟩) 2 2] 28)) := by
  have hr := RowT.new 28 (X.alloc (.cells #[.int .i64 2, .int .i64 0, .string ns, .slice none 0 0, .int .i64 op2, .int .i64 n2, .string s2, .slice a2 len2 cap2] 28)) 3 0 ByteArray.empty (some ⟨X.heap.size, 0, none⟩) 2 2
  rw [heap_size_alloc] at hr
  exact SlCut.mk (bt (bt hb (ab _) (Nat.le_refl _)) (ab _) (Nat.le_refl _)) hr (fun j v hj => kpc (ab _) (box_cell X _ 28 j v hj)) hN hu
set_option maxRecDepth 100000 in
theorem SlCut.mid {w2 X : World} {NT u : Tm} {ns s2 : ByteArray} {op2 n2 : Int} {a2 : Option Addr} {len2 cap2 : Nat} (hb : Below w2.heap.size w2 X) (hN : ∀ v : World, Lies v 0 NT (tmCells 2 0 ns none 0 0)) (hu : Lies w2 0 u (tmCells op2 n2 s2 a2 len2 cap2)) :
    SlCut (.node 3 0 ByteArray.empty [NT, u]) w2 (.pointer (some ⟨X.heap.size, 0, none⟩)) ((X.alloc (.cells #[.int .i64 3, .int .i64 0, .string ⟨#[]⟩, .slice (some ⟨X.heap.size + 1, 0, none⟩) 2 2] 28)).alloc (.cells #[.int .i64 2, .int .i64 0, .string ns, .slice none 0 0, .int .i64 op2, .int .i64 n2, .string s2, .slice a2 len2 cap2] 28)) := by
  have hr := (RowT.new 28 X 3 0 ByteArray.empty (some ⟨X.heap.size + 1, 0, none⟩) 2 2).below (ab (.cells #[.int .i64 2, .int .i64 0, .string ns, .slice none 0 0, .int .i64 op2, .int .i64 n2, .string s2, .slice a2 len2 cap2] 28))
  exact SlCut.mk (bt (bt hb (ab _) (Nat.le_refl _)) (ab _) (Nat.le_refl _)) hr (fun j v hj => by have := box_cell (X.alloc (.cells #[.int .i64 3, .int .i64 0, .string ByteArray.empty, .slice (some ⟨X.heap.size + 1, 0, none⟩) 2 2] 28)) _ 28 j v hj; rwa [heap_size_alloc] at this) hN hu
set_option maxRecDepth 100000 in
theorem SlCut.early {w2 X Y : World} {g : Nat} {NT u : Tm} {ns s2 : ByteArray} {op2 n2 : Int} {a2 : Option Addr} {len2 cap2 : Nat} (hb : Below w2.heap.size w2 X) (hz : ZBox X g) (hg : w2.heap.size ≤ g) (hN : ∀ v : World, Lies v 0 NT (tmCells 2 0 ns none 0 0)) (hu : Lies w2 0 u (tmCells op2 n2 s2 a2 len2 cap2))
    (hY : Y = ((((X.setCell ⟨g, 0, none⟩ (.int .i64 3)).setCell ⟨g, 1, none⟩ (.int .i64 0)).setCell ⟨g, 2, none⟩ (.string ⟨#[]⟩)).setCell ⟨g, 3, none⟩ (.slice (some ⟨X.heap.size, 0, none⟩) 2 2))) :
    SlCut (.node 3 0 ByteArray.empty [NT, u]) w2 (.pointer (some ⟨g, 0, none⟩)) (Y.alloc (.cells #[.int .i64 2, .int .i64 0, .string ns, .slice none 0 0, .int .i64 op2, .int .i64 n2, .string s2, .slice a2 len2 cap2] 28)) := by
  have hf := fill26 hz 3 0 ByteArray.empty (some ⟨X.heap.size, 0, none⟩) 2 2
  have hby := set4_below (x0 := .int .i64 3) (x1 := .int .i64 0) (x2 := .string ByteArray.empty) (x3 := .slice (some ⟨X.heap.size, 0, none⟩) 2 2) hb hg
  have hs : Y.heap.size = X.heap.size := by rw [hY]; simp
  have hf : RowT 28 ((((X.setCell ⟨g, 0, none⟩ (.int .i64 3)).setCell ⟨g, 1, none⟩ (.int .i64 0)).setCell ⟨g, 2, none⟩ (.string ⟨#[]⟩)).setCell ⟨g, 3, none⟩ (.slice (some ⟨X.heap.size, 0, none⟩) 2 2)) g 3 0 ByteArray.empty (some ⟨X.heap.size, 0, none⟩) 2 2 := hf
  have hby : Below w2.heap.size w2 ((((X.setCell ⟨g, 0, none⟩ (.int .i64 3)).setCell ⟨g, 1, none⟩ (.int .i64 0)).setCell ⟨g, 2, none⟩ (.string ⟨#[]⟩)).setCell ⟨g, 3, none⟩ (.slice (some ⟨X.heap.size, 0, none⟩) 2 2)) := hby
  rw [← hY] at hf hby
  rw [← hs] at hf
  exact SlCut.mk (bt hby (ab _) (Nat.le_refl _)) (hf.below (ab _)) (fun j v hj => box_cell Y _ 28 j v hj) hN hu

set_option maxRecDepth 100000 in
theorem rightL_mem {x : Tm} : ∀ {ks : List Tm}, rightL ks = true → x ∈ ks → rightT x = true
  | [], _, h => by cases h
  | t :: r, h, hx => by
    simp only [rightL, Bool.and_eq_true] at h
    rcases List.mem_cons.1 hx with rfl | hx
    · exact h.1
    · exact rightL_mem h.2 hx
set_option maxRecDepth 100000 in
theorem okT_kid {op n : Int} {s : ByteArray} {ks : List Tm} {x : Tm} (h : okT (.node op n s ks) = true) (hx : x ∈ ks) : okT x = true := by
  simp only [okT, Bool.and_eq_true, decide_eq_true_eq, rightT] at h
  simp only [okT, Bool.and_eq_true, decide_eq_true_eq]
  refine ⟨?_, rightL_mem h.2.2 hx⟩
  have := Tm.size_mem hx
  have h1 := h.1
  simp only [Tm.size] at h1
  omega
set_option maxRecDepth 100000 in
theorem okT_zero (op n : Int) (s : ByteArray) (k : Tm) : okT (.node op n s [k, .node 0 0 ByteArray.empty []]) = false := by
  cases h : okT (.node op n s [k, .node 0 0 ByteArray.empty []]) with
  | false => rfl
  | true =>
    have := okT_kid h (x := .node 0 0 ByteArray.empty []) (by simp)
    simp [okT, rightT, headB, kidsOf] at this
set_option maxRecDepth 100000 in
theorem seal_one (k : Tm) (m : Int) (b : Tm) : pickT (okT (.node 7 0 ByteArray.empty [k, .node 3 0 ByteArray.empty [numT m, b]])) (.node 7 0 ByteArray.empty [k, .node 3 0 ByteArray.empty [numT m, b]]) = sealT k m b := by
  unfold sealT madeT
  cases h : okT (.node 3 0 ByteArray.empty [numT m, b]) with
  | true => rfl
  | false =>
    have h1 : okT (.node 7 0 ByteArray.empty [k, .node 3 0 ByteArray.empty [numT m, b]]) = false := by
      cases h2 : okT (.node 7 0 ByteArray.empty [k, .node 3 0 ByteArray.empty [numT m, b]]) with
      | false => rfl
      | true =>
        have := okT_kid h2 (x := .node 3 0 ByteArray.empty [numT m, b]) (by simp)
        rw [h] at this
        cases this
    rw [h1]
    have h3 : pickT false (.node 3 0 ByteArray.empty [numT m, b]) = .node 0 0 ByteArray.empty [] := rfl
    rw [h3, okT_zero]
    rfl
set_option maxRecDepth 100000 in
theorem seal_200 (k : Tm) (m : Int) (b : Tm) : (sealT k m b).size ≤ 200 := by
  unfold sealT madeT
  generalize pickT (okT (.node 3 0 ByteArray.empty [numT m, b])) (.node 3 0 ByteArray.empty [numT m, b]) = P
  unfold pickT
  split
  · rename_i h
    simp only [okT, Bool.and_eq_true, decide_eq_true_eq] at h
    exact h.1
  · simp [Tm.size, Tm.sizes]

end Go.Proofs.YtafoonabmijcdaaGreatDoor
