/- spec.ServerOk: what its loop needs. -/
import Derived.Test.YtnjddgdfancclaaSp
namespace Go.Proofs.Ytnjddgdfancclaa
open Go.RowKit Go.Deep

theorem round_facts {l : List Int} {k : Nat} (hp : k < l.length) (hl : l.length ≤ 2097152) : (k : Int) < (l.length : Int) ∧ (0 : Int) ≤ (k : Int) ∧ wrap64 ((k : Int) + 1) = ((k + 1 : Nat) : Int) := by
  refine ⟨by omega, by omega, ?_⟩
  unfold wrap64; omega
theorem round_more {l : List Int} {k : Nat} {x : Int} (hk : l[k]? = some x) (hB : inB x 0 1000000 = true) (hd : ∀ j x, j < k → l[j]? = some x → inB x 0 1000000 = true) : ∀ j x, j < k + 1 → l[j]? = some x → inB x 0 1000000 = true := fun j y hj hy => by
  by_cases hjk : j = k
  · subst hjk; rw [hk] at hy; cases hy; exact hB
  · exact hd j y (by omega) hy
theorem round_meas {L k : Nat} (w1 : wrap64 ((k : Int) + 1) = ((k + 1 : Nat) : Int)) (hp : k < L) : L - (intOf (.int .i64 (wrap64 ((k : Int) + 1)))).toNat < L - (intOf (.int .i64 (k : Int))).toNat := by
  rw [w1]; simp only [intOf]; omega
theorem len20 (l : List Int) : decide ((l.length : Int) ≤ 20) = decide (l.length ≤ 20) := decide_eq_decide.2 (by omega)
theorem round_end {l : List Int} {k : Nat} (hp : ¬ k < l.length) (hk : k ≤ l.length) (hd : ∀ j x, j < k → l[j]? = some x → inB x 0 1000000 = true) : (¬ (k : Int) < (l.length : Int)) ∧ gotB l = true := by
  refine ⟨by omega, gotB_yes fun j x hj hx => hd j x (by omega) hx⟩

end Go.Proofs.Ytnjddgdfancclaa
