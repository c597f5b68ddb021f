
/- Right letters, and the walks of spec.LetterOk, impl.LetterOk and its small pieces; nothing that was there is written. -/
import Derived.Test.YtjckdepcgjfomaaDoorYr
namespace Go.Proofs.YtjckdepcgjfomaaDoor
open Go.RowKit Go.Deep

theorem isAtomL (x : Int) (w : World) : Calls Tryd.prog 41 #[.int .i64 x] w fun e w' => e = .returned (.bool (decide (0 ≤ x ∧ x ≤ 1000000))) ∧ w' = w := by
  by_cases h1 : 0 ≤ x
  · by_cases h2 : x ≤ 1000000
    · rw [show decide (0 ≤ x ∧ x ≤ 1000000) = true from decide_eq_true ⟨h1, h2⟩]
      go_enter Tryd.func41, Tryd.ntmps41
      go_wp2_with fail
      go_ret
      exact ⟨retB (by simp), rfl⟩
    · rw [show decide (0 ≤ x ∧ x ≤ 1000000) = false from decide_eq_false (by omega)]
      go_enter Tryd.func41, Tryd.ntmps41
      go_wp2_with fail
      go_ret
      exact ⟨retB (by simp), rfl⟩
  · rw [show decide (0 ≤ x ∧ x ≤ 1000000) = false from decide_eq_false (by omega)]
    go_enter Tryd.func41, Tryd.ntmps41
    go_wp2_with fail
    go_ret
    exact ⟨rfl, rfl⟩

/-- A right letter. -/
noncomputable def letB (d : ByteArray) (b s t n : Int) : Bool := domB d && (decide (0 ≤ b ∧ b ≤ 1000000) && (decide (1 ≤ s ∧ s ≤ 3) && (decide (0 ≤ t ∧ t ≤ 4) && decide (0 ≤ n ∧ n ≤ 100000))))
theorem letB_iff {d : ByteArray} {b s t n : Int} : letB d b s t n = true ↔ domB d = true ∧ (0 ≤ b ∧ b ≤ 1000000) ∧ (1 ≤ s ∧ s ≤ 3) ∧ (0 ≤ t ∧ t ≤ 4) ∧ (0 ≤ n ∧ n ≤ 100000) := by
  unfold letB
  rw [Bool.and_eq_true, Bool.and_eq_true, Bool.and_eq_true, Bool.and_eq_true, decide_eq_true_iff, decide_eq_true_iff, decide_eq_true_iff, decide_eq_true_iff]

end Go.Proofs.YtjckdepcgjfomaaDoor
