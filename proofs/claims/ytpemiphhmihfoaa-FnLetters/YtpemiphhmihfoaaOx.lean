
/- A list of terms in a slice of its own, each term in blocks of its own: what append makes of it. -/
import Derived.Test.YtpemiphhmihfoaaOw
namespace Go.Proofs.Ytpemiphhmihfoaa
open Go.RowKit Go.Deep

theorem lt_of_heap {w : World} {b : Nat} {o : Obj} (h : w.heap[b]? = some o) : b < w.heap.size := (Array.getElem?_eq_some_iff.1 h).1


end Go.Proofs.Ytpemiphhmihfoaa
