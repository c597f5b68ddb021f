
/- The walks of spec.l8Text, impl.word and impl.row: a text as a term; terms in a row, each pair of the first and the row of the others; nothing that was there is written. -/
import Derived.Test.YtafoonabmijcdaaGreatDoorSl
import Derived.Test.YtafoonabmijcdaaGreatDoorPr
import Derived.Deep.RegionHeld3
import Derived.Deep.RegionWith
namespace Go.Proofs.YtafoonabmijcdaaGreatDoor
open Go.RowKit Go.Deep

/-- A text as a term. -/
def textT (s : ByteArray) : Tm := .node 2 0 s []
theorem textT_size (s : ByteArray) : (textT s).size = 1 := by simp [textT, Tm.size, Tm.sizes]
theorem text_lies (s : ByteArray) (hs : s.size ≤ 300) (w : World) : Lies w 0 (textT s) (tmCells 2 0 s none 0 0) := lies_leaf w 2 0 s (by unfold maxLen; omega) (by decide) (by decide)
/-- Two terms in a row. -/
def twoT (t u : Tm) : Tm := .node 3 0 ByteArray.empty [t, u]

set_option maxRecDepth 100000 in
set_option maxHeartbeats 2000000 in
theorem textS (s : ByteArray) (w : World) :
    Calls Tryz.prog 25 #[.string s] w fun e w' => e = .returned (.agg #[.int .i64 2, .int .i64 0, .string s, .slice none 0 0]) ∧ Below w.heap.size w w' := by
  go_enter Tryz.func25, Tryz.ntmps25
  go_wp2_with fail
  exact bodyPost_ret (v := .agg #[.int .i64 2, .int .i64 0, .string s, .slice none 0 0]) (by simp [results, Tryz.results25, go_sem]) rfl ⟨rfl, ab _⟩

set_option maxRecDepth 100000 in
set_option maxHeartbeats 2000000 in
theorem wordI (s : ByteArray) (w : World) :
    Calls Tryz.prog 33 #[.string s] w fun e w' => e = .returned (.agg #[.int .i64 2, .int .i64 0, .string s, .slice none 0 0]) ∧ Below w.heap.size w w' := by
  go_enter Tryz.func33, Tryz.ntmps33
  go_wp2_with fail
  exact bodyPost_ret (v := .agg #[.int .i64 2, .int .i64 0, .string s, .slice none 0 0]) (by simp [results, Tryz.results33, go_sem]) rfl ⟨rfl, ab _⟩

/-- What a row of terms leaves: the row lies in every world that keeps what was there at first, and what is new. -/
def RowOk (w0 w w' : World) (T : Tm) (a : Option Addr) : Prop := ∀ W : World, Below w0.heap.size w0 W → (∀ b, w.heap.size ≤ b → b < w'.heap.size → W.heap[b]? = w'.heap[b]?) → Lies W 0 T (tmCells 3 0 ByteArray.empty a 2 2)

theorem row_cells (w : World) (op n : Int) (s : ByteArray) (a : Option Addr) (len cap : Nat) (op2 n2 : Int) (s2 : ByteArray) (a2 : Option Addr) (len2 cap2 : Nat) (j : Nat) (v : Value) (h : (#[.int .i64 op, .int .i64 n, .string s, .slice a len cap, .int .i64 op2, .int .i64 n2, .string s2, .slice a2 len2 cap2] : Array Value)[j]? = some v) : (w.alloc (.cells #[.int .i64 op, .int .i64 n, .string s, .slice a len cap, .int .i64 op2, .int .i64 n2, .string s2, .slice a2 len2 cap2] 28)).cell? ⟨w.heap.size, j, none⟩ = some v := box_cell w _ 28 j v h

theorem row_fin {w0 w w2 : World} {g : Nat} {t u : Tm} {op n : Int} {s : ByteArray} {a : Option Addr} {len cap : Nat} {op2 n2 : Int} {s2 : ByteArray} {a2 : Option Addr} {len2 cap2 : Nat} {x0 x1 x2 x3 : Value} (hb : Below w.heap.size w w2) (hg : w.heap.size ≤ g) (hl : Lies w0 0 t (tmCells op n s a len cap))
    (hu : ∀ W : World, Below w0.heap.size w0 W → (∀ b, w2.heap.size ≤ b → b < w2.heap.size → W.heap[b]? = w2.heap[b]?) → (∀ b, g < b → b < w2.heap.size → W.heap[b]? = w2.heap[b]?) → Lies W 0 u (tmCells op2 n2 s2 a2 len2 cap2)) :
    RowOk w0 w (((((w2.setCell ⟨g, 0, none⟩ x0).setCell ⟨g, 1, none⟩ x1).setCell ⟨g, 2, none⟩ x2).setCell ⟨g, 3, none⟩ x3).alloc (.cells #[.int .i64 op, .int .i64 n, .string s, .slice a len cap, .int .i64 op2, .int .i64 n2, .string s2, .slice a2 len2 cap2] 28)) (twoT t u) (some ⟨w2.heap.size, 0, none⟩) ∧
      Below w.heap.size w (((((w2.setCell ⟨g, 0, none⟩ x0).setCell ⟨g, 1, none⟩ x1).setCell ⟨g, 2, none⟩ x2).setCell ⟨g, 3, none⟩ x3).alloc (.cells #[.int .i64 op, .int .i64 n, .string s, .slice a len cap, .int .i64 op2, .int .i64 n2, .string s2, .slice a2 len2 cap2] 28)) := by
  have hX := set4_heap w2 g x0 x1 x2 x3
  have hbX : Below w.heap.size w ((((w2.setCell ⟨g, 0, none⟩ x0).setCell ⟨g, 1, none⟩ x1).setCell ⟨g, 2, none⟩ x2).setCell ⟨g, 3, none⟩ x3) := set4_below hb hg
  have hs := hb.size
  have hXs : ((((w2.setCell ⟨g, 0, none⟩ x0).setCell ⟨g, 1, none⟩ x1).setCell ⟨g, 2, none⟩ x2).setCell ⟨g, 3, none⟩ x3).heap.size = w2.heap.size := by simp
  generalize ((((w2.setCell ⟨g, 0, none⟩ x0).setCell ⟨g, 1, none⟩ x1).setCell ⟨g, 2, none⟩ x2).setCell ⟨g, 3, none⟩ x3) = X at *
  refine ⟨fun W h0 h1 => ?_, bt hbX (ab _) (Nat.le_refl _)⟩
  refine lies_row2 (hl.below h0) (hu W h0 (fun b h2 h3 => absurd h3 (by omega)) (fun b h2 h3 => ?_)) (fun j v hj => ?_) 3 (by decide)
  · rw [h1 b (by omega) (by simp; omega), (ab _).block b (by omega)]
    exact hX b (by omega)
  · rw [World.cell?_of_block (h1 w2.heap.size hs (by simp; omega)), ← hXs]
    exact row_cells X _ _ _ _ _ _ _ _ _ _ _ _ j v hj

end Go.Proofs.YtafoonabmijcdaaGreatDoor
