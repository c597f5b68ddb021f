
/- A server as plain data: its sixteen cells in a block of their own. -/
import Derived.Test.YtbbidjckplpaiaaGreatDoorIn
import Derived.Test.YtbbidjckplpaiaaGreatDoorAv
import Derived.Test.YtbbidjckplpaiaaGreatDoorEq
namespace Go.Proofs.YtbbidjckplpaiaaGreatDoor
open Go.RowKit Go.Deep

/-- The cells of a server in a block of its own. -/
def RowS (ty : TypeId) (w : World) (b : Nat) (st : Int) (h : ByteArray) (ke : Int) (ep : Int) (op : Int) (n : Int) (s : ByteArray) (a : Option Addr) (len : Nat) (cap : Nat) (oq : Int) (m : Int) (r : ByteArray) (c : Option Addr) (lem : Nat) (cat : Nat) (i : Int) (o : Int) (tl : Bool) (g : Option Addr) (gl : Nat) (gc : Nat) : Prop := w.heap[b]? = some (.cells #[.int .i64 st, .string h, .int .i64 ke, .int .i64 ep, .int .i64 op, .int .i64 n, .string s, .slice a len cap, .int .i64 oq, .int .i64 m, .string r, .slice c lem cat, .int .i64 i, .int .i64 o, .bool tl, .slice g gl gc] ty (0, 0))
theorem RowS.new (ty : TypeId) (w : World) (st : Int) (h : ByteArray) (ke : Int) (ep : Int) (op : Int) (n : Int) (s : ByteArray) (a : Option Addr) (len : Nat) (cap : Nat) (oq : Int) (m : Int) (r : ByteArray) (c : Option Addr) (lem : Nat) (cat : Nat) (i : Int) (o : Int) (tl : Bool) (g : Option Addr) (gl : Nat) (gc : Nat) : RowS ty (w.alloc (.cells #[.int .i64 st, .string h, .int .i64 ke, .int .i64 ep, .int .i64 op, .int .i64 n, .string s, .slice a len cap, .int .i64 oq, .int .i64 m, .string r, .slice c lem cat, .int .i64 i, .int .i64 o, .bool tl, .slice g gl gc] ty)) w.heap.size st h ke ep op n s a len cap oq m r c lem cat i o tl g gl gc := heap_alloc_new w _
theorem RowS.lt {ty : TypeId} {w : World} {b : Nat} {st : Int} {h : ByteArray} {ke : Int} {ep : Int} {op : Int} {n : Int} {s : ByteArray} {a : Option Addr} {len : Nat} {cap : Nat} {oq : Int} {m : Int} {r : ByteArray} {c : Option Addr} {lem : Nat} {cat : Nat} {i : Int} {o : Int} {tl : Bool} {g : Option Addr} {gl : Nat} {gc : Nat} (hr : RowS ty w b st h ke ep op n s a len cap oq m r c lem cat i o tl g gl gc) : b < w.heap.size := (Array.getElem?_eq_some_iff.1 hr).1
theorem RowS.below {ty : TypeId} {w w' : World} {b : Nat} {st : Int} {h : ByteArray} {ke : Int} {ep : Int} {op : Int} {n : Int} {s : ByteArray} {a : Option Addr} {len : Nat} {cap : Nat} {oq : Int} {m : Int} {r : ByteArray} {c : Option Addr} {lem : Nat} {cat : Nat} {i : Int} {o : Int} {tl : Bool} {g : Option Addr} {gl : Nat} {gc : Nat} (hr : RowS ty w b st h ke ep op n s a len cap oq m r c lem cat i o tl g gl gc) (hb : Below w.heap.size w w') : RowS ty w' b st h ke ep op n s a len cap oq m r c lem cat i o tl g gl gc := (hb.block b hr.lt).trans hr
theorem RowS.facts {ty : TypeId} {w : World} {b : Nat} {st : Int} {h : ByteArray} {ke : Int} {ep : Int} {op : Int} {n : Int} {s : ByteArray} {a : Option Addr} {len : Nat} {cap : Nat} {oq : Int} {m : Int} {r : ByteArray} {c : Option Addr} {lem : Nat} {cat : Nat} {i : Int} {o : Int} {tl : Bool} {g : Option Addr} {gl : Nat} {gc : Nat} (hr : RowS ty w b st h ke ep op n s a len cap oq m r c lem cat i o tl g gl gc) :
    w.cell? ⟨b, 0, none⟩ = some (.int .i64 st) ∧ w.cell? ⟨b, 1, none⟩ = some (.string h) ∧ w.cell? ⟨b, 2, none⟩ = some (.int .i64 ke) ∧ w.cell? ⟨b, 3, none⟩ = some (.int .i64 ep) ∧ w.cell? ⟨b, 4, none⟩ = some (.int .i64 op) ∧ w.cell? ⟨b, 5, none⟩ = some (.int .i64 n) ∧ w.cell? ⟨b, 6, none⟩ = some (.string s) ∧ w.cell? ⟨b, 7, none⟩ = some (.slice a len cap) ∧ w.cell? ⟨b, 8, none⟩ = some (.int .i64 oq) ∧ w.cell? ⟨b, 9, none⟩ = some (.int .i64 m) ∧ w.cell? ⟨b, 10, none⟩ = some (.string r) ∧ w.cell? ⟨b, 11, none⟩ = some (.slice c lem cat) ∧ w.cell? ⟨b, 12, none⟩ = some (.int .i64 i) ∧ w.cell? ⟨b, 13, none⟩ = some (.int .i64 o) ∧ w.cell? ⟨b, 14, none⟩ = some (.bool tl) ∧ w.cell? ⟨b, 15, none⟩ = some (.slice g gl gc) :=
  ⟨cell_of_row hr (by simp), cell_of_row hr (by simp), cell_of_row hr (by simp), cell_of_row hr (by simp), cell_of_row hr (by simp), cell_of_row hr (by simp), cell_of_row hr (by simp), cell_of_row hr (by simp), cell_of_row hr (by simp), cell_of_row hr (by simp), cell_of_row hr (by simp), cell_of_row hr (by simp), cell_of_row hr (by simp), cell_of_row hr (by simp), cell_of_row hr (by simp), cell_of_row hr (by simp)⟩
theorem RowS.free {ty : TypeId} {w : World} {b : Nat} {st : Int} {h : ByteArray} {ke : Int} {ep : Int} {op : Int} {n : Int} {s : ByteArray} {a : Option Addr} {len : Nat} {cap : Nat} {oq : Int} {m : Int} {r : ByteArray} {c : Option Addr} {lem : Nat} {cat : Nat} {i : Int} {o : Int} {tl : Bool} {g : Option Addr} {gl : Nat} {gc : Nat} (hr : RowS ty w b st h ke ep op n s a len cap oq m r c lem cat i o tl g gl gc) (j : Nat) : w.frozen? ⟨b, j, none⟩ = false := frozen_of_row hr

theorem row_set {w : World} {b j : Nat} {C : Array Value} {ty : TypeId} (h : w.heap[b]? = some (.cells C ty (0, 0))) (v : Value) : (w.setCell ⟨b, j, none⟩ v).heap[b]? = some (.cells (C.setIfInBounds j v) ty (0, 0)) := by
  simp only [World.setCell, Array.getElem?_modify]
  simp [h]
theorem row_other {w : World} {b b' j : Nat} {x : Obj} (h : w.heap[b]? = some x) (hn : b ≠ b') (v : Value) : (w.setCell ⟨b', j, none⟩ v).heap[b]? = some x := by
  rw [Below.heap_setCell _ _ _ _ hn]; exact h
theorem size_set (w : World) (p : Addr) (v : Value) : (w.setCell p v).heap.size = w.heap.size := by simp [World.setCell]

theorem setB {w v : World} {b j : Nat} {x : Value} (h : Below w.heap.size w v) (hb : w.heap.size ≤ b) : Below w.heap.size w (v.setCell ⟨b, j, none⟩ x) := h.setCell hb _
theorem abC {w : World} (x : Obj) : Below w.heap.size w (w.alloc x) := (Below.refl _ _).alloc (Nat.le_refl _) _
theorem btC {w v x : World} (h : Below w.heap.size w v) (h2 : Below v.heap.size v x) : Below w.heap.size w x := h.trans (h2.mono h.size)

end Go.Proofs.YtbbidjckplpaiaaGreatDoor
