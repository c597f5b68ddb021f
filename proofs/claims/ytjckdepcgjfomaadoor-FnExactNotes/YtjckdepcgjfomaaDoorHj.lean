
/- The walks of impl.labelsOk and impl.HostOk: whether a text is labels, so many at least; nothing that was there is written. -/
import Derived.Test.YtjckdepcgjfomaaDoorHi
namespace Go.Proofs.YtjckdepcgjfomaaDoor
open Go.RowKit Go.Deep

theorem below_some {w w' : World} (h : Below w.heap.size w w') {b o : Nat} {v : Value} (hc : w.cell? ⟨b, o, none⟩ = some v) : w'.cell? ⟨b, o, none⟩ = some v := by
  rw [h.cell (p := ⟨b, o, none⟩) ?_, hc]
  refine Classical.byContradiction fun hn => ?_
  have : w.heap[b]? = none := Array.getElem?_eq_none_iff.2 (by simpa using hn)
  simp [World.cell?, this] at hc

end Go.Proofs.YtjckdepcgjfomaaDoor
