
/- The marks that the laws write into a term: three for each term, from k on. -/
import Derived.Test.YtenagnoemdjgeaaGreatDoorMt
import Derived.Test.YtenagnoemdjgeaaGreatDoorOw
namespace Go.Proofs.YtenagnoemdjgeaaGreatDoor
open Go.RowKit Go.Deep

/- The marks, from k on: three for each term. -/
mutual
def markK : Tm → Nat → Tm
  | .node _ _ _ ks, k => .node k (k + 1 : Nat) (mtx (k + 2)) (markL ks (k + 3))
def markL : List Tm → Nat → List Tm
  | [], _ => []
  | t :: r, k => markK t k :: markL r (k + 3 * t.size)
end

theorem markL_length : ∀ (ks : List Tm) (k : Nat), (markL ks k).length = ks.length
  | [], _ => rfl
  | t :: r, k => by simp [markL, markL_length r]

mutual
theorem markK_size : ∀ (t : Tm) (k : Nat), (markK t k).size = t.size
  | .node _ _ _ ks, k => by simp only [markK, Tm.size, markL_sizes ks]
theorem markL_sizes : ∀ (ks : List Tm) (k : Nat), Tm.sizes (markL ks k) = Tm.sizes ks
  | [], _ => rfl
  | t :: r, k => by simp only [markL, Tm.sizes, markK_size t, markL_sizes r]
end

end Go.Proofs.YtenagnoemdjgeaaGreatDoor
