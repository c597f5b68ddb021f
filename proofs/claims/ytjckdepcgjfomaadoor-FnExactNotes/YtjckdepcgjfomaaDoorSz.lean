
/- The walks of laws.szTerm and laws.szTermS: whatever term lies in memory, and a room between 0 and 2^20, they answer the room that is left when the term's weight is taken, or -1; nothing that was there is written. -/
import Derived.Test.YtjckdepcgjfomaaDoorRows
import Derived.Test.YtjckdepcgjfomaaDoorTm
namespace Go.Proofs.YtjckdepcgjfomaaDoor
open Go.RowKit Go.Deep

def szv (left : Int) (wt : Nat) : Int := if (wt : Int) ≤ left then left - wt else -1

theorem szv_yes {left : Int} {wt : Nat} (h : (wt : Int) ≤ left) : szv left wt = left - wt := by unfold szv; rw [if_pos h]
theorem szv_no {left : Int} {wt : Nat} (h : left < (wt : Int)) : szv left wt = -1 := by unfold szv; rw [if_neg (by omega)]
theorem ret_int {k : IntKind} {a b : Int} (h : a = b) : Ending.returned (.int k a) = .returned (.int k b) := by rw [h]

theorem bcell {W w1 : World} (hb : Below W.heap.size W w1) : (∀ b o, b < W.heap.size → w1.cell? ⟨b, o, none⟩ = W.cell? ⟨b, o, none⟩) ∧ (∀ b o, b < W.heap.size → w1.frozen? ⟨b, o, none⟩ = W.frozen? ⟨b, o, none⟩) :=
  ⟨fun b o h => hb.cell (p := ⟨b, o, none⟩) h, fun b o h => hb.frozen (p := ⟨b, o, none⟩) h⟩

end Go.Proofs.YtjckdepcgjfomaaDoor
