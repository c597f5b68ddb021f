
/- A letter as plain data: its five cells in a block of their own; the walks of laws.szLetter, toLetter, eqLetter. -/
import Derived.Test.YtjckdepcgjfomaaDoorPk
namespace Go.Proofs.YtjckdepcgjfomaaDoor
open Go.RowKit Go.Deep

/-- The cells of a letter in a block of its own. -/
def RowL (ty : TypeId) (w : World) (p : Nat) (d : ByteArray) (b s t n : Int) : Prop := w.heap[p]? = some (.cells #[.string d, .int .i64 b, .int .i64 s, .int .i64 t, .int .i64 n] ty (0, 0))
theorem RowL.new (ty : TypeId) (w : World) (d : ByteArray) (b s t n : Int) : RowL ty (w.alloc (.cells #[.string d, .int .i64 b, .int .i64 s, .int .i64 t, .int .i64 n] ty)) w.heap.size d b s t n := heap_alloc_new w _
theorem RowL.lt {ty : TypeId} {w : World} {p : Nat} {d : ByteArray} {b s t n : Int} (hr : RowL ty w p d b s t n) : p < w.heap.size := (Array.getElem?_eq_some_iff.1 hr).1
theorem RowL.below {ty : TypeId} {w w' : World} {p : Nat} {d : ByteArray} {b s t n : Int} (hr : RowL ty w p d b s t n) (hb : Below w.heap.size w w') : RowL ty w' p d b s t n := (hb.block p hr.lt).trans hr
theorem RowL.under {ty : TypeId} {w w' : World} {p q : Nat} {d : ByteArray} {b s t n : Int} (hr : RowL ty w p d b s t n) (hb : Below q w w') (hq : p < q) : RowL ty w' p d b s t n := (hb.block p hq).trans hr
theorem RowL.facts {ty : TypeId} {w : World} {p : Nat} {d : ByteArray} {b s t n : Int} (hr : RowL ty w p d b s t n) :
    w.cell? ⟨p, 0, none⟩ = some (.string d) ∧ w.cell? ⟨p, 1, none⟩ = some (.int .i64 b) ∧ w.cell? ⟨p, 2, none⟩ = some (.int .i64 s) ∧ w.cell? ⟨p, 3, none⟩ = some (.int .i64 t) ∧ w.cell? ⟨p, 4, none⟩ = some (.int .i64 n) :=
  ⟨cell_of_row hr (by simp), cell_of_row hr (by simp), cell_of_row hr (by simp), cell_of_row hr (by simp), cell_of_row hr (by simp)⟩
theorem RowL.free {ty : TypeId} {w : World} {p : Nat} {d : ByteArray} {b s t n : Int} (hr : RowL ty w p d b s t n) (j : Nat) : w.frozen? ⟨p, j, none⟩ = false := frozen_of_row hr
theorem row_setL {w : World} {p j : Nat} {X : Array Value} {ty : TypeId} (h : w.heap[p]? = some (.cells X ty (0, 0))) (v : Value) : (w.setCell ⟨p, j, none⟩ v).heap[p]? = some (.cells (X.setIfInBounds j v) ty (0, 0)) := by
  simp only [World.setCell, Array.getElem?_modify]
  simp [h]
theorem RowL.set2 {ty : TypeId} {w : World} {p : Nat} {d : ByteArray} {b s t n : Int} (hr : RowL ty w p d b s t n) (x : Int) : RowL ty (w.setCell ⟨p, 2, none⟩ (.int .i64 x)) p d b x t n := row_setL hr _
theorem RowL.set3 {ty : TypeId} {w : World} {p : Nat} {d : ByteArray} {b s t n : Int} (hr : RowL ty w p d b s t n) (x : Int) : RowL ty (w.setCell ⟨p, 3, none⟩ (.int .i64 x)) p d b s x n := row_setL hr _
theorem RowL.set4 {ty : TypeId} {w : World} {p : Nat} {d : ByteArray} {b s t n : Int} (hr : RowL ty w p d b s t n) (x : Int) : RowL ty (w.setCell ⟨p, 4, none⟩ (.int .i64 x)) p d b s t x := row_setL hr _
theorem RowL.set0 {ty : TypeId} {w : World} {p : Nat} {d : ByteArray} {b s t n : Int} (hr : RowL ty w p d b s t n) (x : ByteArray) : RowL ty (w.setCell ⟨p, 0, none⟩ (.string x)) p x b s t n := row_setL hr _
theorem setB {w v : World} {q p j : Nat} {x : Value} (h : Below q w v) (hb : q ≤ p) : Below q w (v.setCell ⟨p, j, none⟩ x) := h.setCell hb _

end Go.Proofs.YtjckdepcgjfomaaDoor
