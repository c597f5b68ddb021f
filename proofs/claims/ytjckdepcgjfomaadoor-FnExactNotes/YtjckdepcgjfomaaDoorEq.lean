
/- The walks of laws.eqTerm and laws.eqTermS: of two that are one and the same term, wherever the two lie in memory, they answer true; nothing that was there is written. -/
import Derived.Test.YtjckdepcgjfomaaDoorTo
import Derived.Deep.RegionWith
namespace Go.Proofs.YtjckdepcgjfomaaDoor
open Go.RowKit Go.Deep

theorem below_alloc2 (w : World) (x y : Obj) : Below w.heap.size w ((w.alloc x).alloc y) :=
  ((Below.refl _ _).alloc (Nat.le_refl _) _).alloc (by simp) _

end Go.Proofs.YtjckdepcgjfomaaDoor
