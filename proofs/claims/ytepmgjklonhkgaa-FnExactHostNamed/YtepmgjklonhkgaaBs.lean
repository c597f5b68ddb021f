/- What lies in memory lies there still, where only new memory was written. -/
import Derived.Test.YtepmgjklonhkgaaTo
namespace Go.Proofs.Ytepmgjklonhkgaa
open Go.RowKit Go.Deep

theorem hide {p : Prop} (h : p) : Hid p := h
theorem unhide {p : Prop} (h : Hid p) : p := h

theorem below_some {w w' : World} (h : Below w.heap.size w w') {b o : Nat} {v : Value} (hc : w.cell? ⟨b, o, none⟩ = some v) : w'.cell? ⟨b, o, none⟩ = some v := by
  rw [h.cell (p := ⟨b, o, none⟩) ?_, hc]
  refine Classical.byContradiction fun hn => ?_
  have : w.heap[b]? = none := Array.getElem?_eq_none_iff.2 (by simpa using hn)
  simp [World.cell?, this] at hc

end Go.Proofs.Ytepmgjklonhkgaa
