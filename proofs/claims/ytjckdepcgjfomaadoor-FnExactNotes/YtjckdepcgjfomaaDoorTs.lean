
/- The walk of spec.TermSize: of whatever term lies in memory, of at most 2^21 within it, it answers how many are within it; nothing that was there is written. -/
import Derived.Test.YtjckdepcgjfomaaDoorSz
namespace Go.Proofs.YtjckdepcgjfomaaDoor
open Go.RowKit Go.Deep

theorem box_cell (w : World) (cs : Array Value) (t : TypeId) (j : Nat) (v : Value) (h : cs[j]? = some v) : (w.alloc (.cells cs t)).cell? ⟨w.heap.size, j, none⟩ = some v := by
  have e : (w.alloc (.cells cs t)).heap[w.heap.size]? = some (.cells cs t) := heap_alloc_new w _
  unfold World.cell?
  rw [e]
  exact h

end Go.Proofs.YtjckdepcgjfomaaDoor
