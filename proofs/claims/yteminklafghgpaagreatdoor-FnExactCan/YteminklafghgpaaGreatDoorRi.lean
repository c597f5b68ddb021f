
/- The walk of spec.l1Right: of whatever term lies in memory it answers whether it is right; nothing that was there is written. -/
import Derived.Test.YteminklafghgpaaGreatDoorOk
namespace Go.Proofs.YteminklafghgpaaGreatDoor
open Go.RowKit Go.Deep

def RiOk (t : Tm) : Prop := ∀ (op n : Int) (s : ByteArray) (a : Option Addr) (len cap : Nat) (w : World), Lies w 0 t (tmCells op n s a len cap) →
  Calls Tryz.prog 28 #[.agg #[.int .i64 op, .int .i64 n, .string s, .slice a len cap]] w fun e w' => e = .returned (.bool (rightT t)) ∧ Below w.heap.size w w'

theorem below_one_drewN (w : World) (x : Obj) (k : Nat) : Below w.heap.size w ((w.alloc x).drewN k) := below_drewN ((Below.refl _ _).alloc (Nat.le_refl _) _) k

theorem empty_iff {s : ByteArray} : s.size = 0 ↔ s.toList = [] := by
  rw [ByteArray.toList_eq]
  constructor
  · intro h
    exact List.eq_nil_of_length_eq_zero (by rw [Array.length_toList]; exact h)
  · intro h
    have : s.data.toList.length = 0 := by rw [h]; rfl
    rw [Array.length_toList] at this
    exact this

set_option maxHeartbeats 4000000 in
theorem ri_b1 (op n : Int) (s : ByteArray) (a : Option Addr) (len cap : Nat) (w : World) (q1 : (kidsOf op != (len : Int)) = true) :
    Calls Tryz.prog 28 #[.agg #[.int .i64 op, .int .i64 n, .string s, .slice a len cap]] w fun e w' => e = .returned (.bool false) ∧ Below w.heap.size w w' := by
  go_enter Tryz.func28, Tryz.ntmps28
  go_wp2_with fail
  go_quiet (first
    | (go_at_call 42; exact Calls.quiet_of_same (kids25 _ _))
    | (go_at_call 43; exact Calls.quiet_of_same (in26 _ _ _ _)))
  go_wp2_with fail
  go_ret
  exact ⟨rfl, below_one_drewN _ _ _⟩

set_option maxHeartbeats 4000000 in
theorem ri_b2 (op n : Int) (s : ByteArray) (a : Option Addr) (len cap : Nat) (w : World) (q1 : (kidsOf op != (len : Int)) = false) (q2 : (op != 1) = true) (q3 : (n != 0) = true) :
    Calls Tryz.prog 28 #[.agg #[.int .i64 op, .int .i64 n, .string s, .slice a len cap]] w fun e w' => e = .returned (.bool false) ∧ Below w.heap.size w w' := by
  go_enter Tryz.func28, Tryz.ntmps28
  go_wp2_with fail
  go_quiet (first
    | (go_at_call 42; exact Calls.quiet_of_same (kids25 _ _))
    | (go_at_call 43; exact Calls.quiet_of_same (in26 _ _ _ _)))
  go_wp2_with fail
  go_ret
  exact ⟨rfl, below_one_drewN _ _ _⟩

set_option maxHeartbeats 4000000 in
theorem ri_b3 (op n : Int) (s : ByteArray) (a : Option Addr) (len cap : Nat) (w : World) (q1 : (kidsOf op != (len : Int)) = false) (q2 : (op != 1) = false) (q3 : (op != 2) = true) (q4 : (s.toList == []) = false) :
    Calls Tryz.prog 28 #[.agg #[.int .i64 op, .int .i64 n, .string s, .slice a len cap]] w fun e w' => e = .returned (.bool false) ∧ Below w.heap.size w w' := by
  go_enter Tryz.func28, Tryz.ntmps28
  go_wp2_with fail
  go_quiet (first
    | (go_at_call 42; exact Calls.quiet_of_same (kids25 _ _))
    | (go_at_call 43; exact Calls.quiet_of_same (in26 _ _ _ _)))
  go_wp2_with fail
  go_ret
  exact ⟨rfl, below_one_drewN _ _ _⟩

set_option maxHeartbeats 4000000 in
theorem ri_b4 (op n : Int) (s : ByteArray) (a : Option Addr) (len cap : Nat) (w : World) (q1 : (kidsOf op != (len : Int)) = false) (q2 : (op != 1) = true) (q2' : (n != 0) = false) (q3 : (op != 2) = true) (q4 : (s.toList == []) = false) :
    Calls Tryz.prog 28 #[.agg #[.int .i64 op, .int .i64 n, .string s, .slice a len cap]] w fun e w' => e = .returned (.bool false) ∧ Below w.heap.size w w' := by
  go_enter Tryz.func28, Tryz.ntmps28
  go_wp2_with fail
  go_quiet (first
    | (go_at_call 42; exact Calls.quiet_of_same (kids25 _ _))
    | (go_at_call 43; exact Calls.quiet_of_same (in26 _ _ _ _)))
  go_wp2_with fail
  go_ret
  exact ⟨rfl, below_one_drewN _ _ _⟩

set_option maxHeartbeats 4000000 in
theorem ri_b5 (op n : Int) (s : ByteArray) (a : Option Addr) (len cap : Nat) (w : World) (q1 : (kidsOf op != (len : Int)) = false) (q2 : (op != 1) = false) (q3 : (op != 2) = true) (q4 : (s.toList == []) = true) (q5 : inB n 0 1000000 = false) :
    Calls Tryz.prog 28 #[.agg #[.int .i64 op, .int .i64 n, .string s, .slice a len cap]] w fun e w' => e = .returned (.bool false) ∧ Below w.heap.size w w' := by
  go_enter Tryz.func28, Tryz.ntmps28
  go_wp2_with fail
  go_quiet (first
    | (go_at_call 42; exact Calls.quiet_of_same (kids25 _ _))
    | (go_at_call 43; exact Calls.quiet_of_same (in26 _ _ _ _)))
  go_wp2_with fail
  go_ret
  exact ⟨rfl, below_one_drewN _ _ _⟩

set_option maxHeartbeats 4000000 in
theorem ri_b6 (op n : Int) (s : ByteArray) (a : Option Addr) (len cap : Nat) (w : World) (q1 : (kidsOf op != (len : Int)) = false) (q2 : (op != 1) = true) (q2' : (n != 0) = false) (q3 : (op != 2) = false) (q5 : inB n 0 1000000 = true) (q6 : (300 : Int) < (s.size : Int)) :
    Calls Tryz.prog 28 #[.agg #[.int .i64 op, .int .i64 n, .string s, .slice a len cap]] w fun e w' => e = .returned (.bool false) ∧ Below w.heap.size w w' := by
  go_enter Tryz.func28, Tryz.ntmps28
  go_wp2_with fail
  go_quiet (first
    | (go_at_call 42; exact Calls.quiet_of_same (kids25 _ _))
    | (go_at_call 43; exact Calls.quiet_of_same (in26 _ _ _ _)))
  go_wp2_with fail
  go_ret
  exact ⟨rfl, below_one_drewN _ _ _⟩

theorem ri_bad (op n : Int) (s : ByteArray) (a : Option Addr) (len cap : Nat) (w : World) (h : headB op n s len = false) :
    Calls Tryz.prog 28 #[.agg #[.int .i64 op, .int .i64 n, .string s, .slice a len cap]] w fun e w' => e = .returned (.bool false) ∧ Below w.heap.size w w' := by
  unfold headB at h
  have hd : ¬ (kidsOf op = len ∧ (op = 1 ∨ n = 0) ∧ (op = 2 ∨ s.size = 0) ∧ (0 ≤ n ∧ n ≤ 1000000) ∧ s.size ≤ 300) := by simpa using h
  clear h
  by_cases h1 : kidsOf op = len
  case neg => exact ri_b1 _ _ _ _ _ _ _ (by simpa using h1)
  have q1 : (kidsOf op != (len : Int)) = false := by simpa using h1
  by_cases h2 : op = 1
  · have q2 : (op != 1) = false := by simpa using h2
    have q3 : (op != 2) = true := by rw [h2]; rfl
    by_cases h4 : s.size = 0
    · have q4 : (s.toList == []) = true := by simpa using empty_iff.1 h4
      exact ri_b5 _ _ _ _ _ _ _ q1 q2 q3 q4 (by unfold inB; simp only [decide_eq_false_iff_not]; omega)
    · exact ri_b3 _ _ _ _ _ _ _ q1 q2 q3 (by simpa using fun e => h4 (empty_iff.2 e))
  · have q2 : (op != 1) = true := by simpa using h2
    by_cases h3 : n = 0
    case neg => exact ri_b2 _ _ _ _ _ _ _ q1 q2 (by simpa using h3)
    have q2' : (n != 0) = false := by simpa using h3
    by_cases h5 : op = 2
    · have q3 : (op != 2) = false := by simpa using h5
      exact ri_b6 _ _ _ _ _ _ _ q1 q2 q2' q3 (by unfold inB; simp only [decide_eq_true_iff]; omega) (by omega)
    · have q3 : (op != 2) = true := by simpa using h5
      exact ri_b4 _ _ _ _ _ _ _ q1 q2 q2' q3 (by
        have : s.size ≠ 0 := by omega
        simpa using fun e => this (empty_iff.2 e))

end Go.Proofs.YteminklafghgpaaGreatDoor
