
/- The walks of the methods shaped: whether a term's own fields are right, and of a share its kids' order; nothing that was there is written. -/
import Derived.Test.YteminklafghgpaaGreatDoorKd
namespace Go.Proofs.YteminklafghgpaaGreatDoor
open Go.RowKit Go.Deep

def onlyB (n : Int) (s : ByteArray) (len : Nat) (count : Int) : Bool := decide (n = 0 ∧ s.size = 0 ∧ (len : Int) = count)
def atomB (n : Int) (s : ByteArray) (len : Nat) : Bool := decide ((0 ≤ n ∧ n ≤ 1000000) ∧ s.size = 0 ∧ len = 0)
def textB (n : Int) (s : ByteArray) (len : Nat) : Bool := decide (n = 0 ∧ s.size ≤ 300 ∧ len = 0)

theorem list_empty {s : ByteArray} (h : s.size = 0) : (s.toList == []) = true := by simpa using empty_iff.1 h
theorem list_not {s : ByteArray} (h : ¬ s.size = 0) : (s.toList == []) = false := by simpa using fun e => h (empty_iff.2 e)

theorem only52 (op n : Int) (s : ByteArray) (a : Option Addr) (len cap : Nat) (count : Int) (w : World) :
    Calls Tryz.prog 113 #[.agg #[.int .i64 op, .int .i64 n, .string s, .slice a len cap], .int .i64 count] w fun e w' => e = .returned (.bool (onlyB n s len count)) ∧ Below w.heap.size w w' := by
  by_cases h1 : n = 0
  case neg =>
    have HE : Hid (onlyB n s len count = false) := by show _ = _; unfold onlyB; simp [h1]
    have q1 : (n == 0) = false := by simpa using h1
    clear h1
    generalize onlyB n s len count = bb at *
    go_enter Tryz.func113, Tryz.ntmps113
    go_wp2_with fail
    go_ret
    exact ⟨ret_bool (unhide HE).symm, (Below.refl _ _).alloc (Nat.le_refl _) _⟩
  have q1 : (n == 0) = true := by simpa using h1
  by_cases h2 : s.size = 0
  case neg =>
    have HE : Hid (onlyB n s len count = false) := by show _ = _; unfold onlyB; simp [h2]
    have q2 := list_not h2
    clear h1 h2
    generalize onlyB n s len count = bb at *
    go_enter Tryz.func113, Tryz.ntmps113
    go_wp2_with fail
    go_ret
    exact ⟨ret_bool (unhide HE).symm, (Below.refl _ _).alloc (Nat.le_refl _) _⟩
  have q2 := list_empty h2
  have HE : Hid (onlyB n s len count = ((len : Int) == count)) := by show _ = _; unfold onlyB; rw [Bool.eq_iff_iff]; simp [h1, h2]
  clear h1 h2
  generalize onlyB n s len count = bb at *
  go_enter Tryz.func113, Tryz.ntmps113
  go_wp2_with fail
  go_ret
  exact ⟨ret_bool (unhide HE).symm, (Below.refl _ _).alloc (Nat.le_refl _) _⟩

theorem sh49 (op n : Int) (s : ByteArray) (a : Option Addr) (len cap : Nat) (w : World) :
    Calls Tryz.prog 110 #[.agg #[.int .i64 op, .int .i64 n, .string s, .slice a len cap]] w fun e w' => e = .returned (.bool (atomB n s len)) ∧ Below w.heap.size w w' := by
  by_cases h1 : 0 ≤ n
  case neg =>
    have HE : Hid (atomB n s len = false) := by show _ = _; unfold atomB; simp [h1]
    have q1 : decide (0 ≤ n) = false := by simpa using h1
    generalize atomB n s len = bb at *
    go_enter Tryz.func110, Tryz.ntmps110
    go_wp2_with fail
    go_ret
    exact ⟨ret_bool (unhide HE).symm, (Below.refl _ _).alloc (Nat.le_refl _) _⟩
  have q1 : decide (0 ≤ n) = true := by simpa using h1
  by_cases h3 : n ≤ 1000000
  case neg =>
    have HE : Hid (atomB n s len = false) := by show _ = _; unfold atomB; simp [h3]
    have q3 : decide (n ≤ 1000000) = false := by simpa using h3
    generalize atomB n s len = bb at *
    go_enter Tryz.func110, Tryz.ntmps110
    go_wp2_with fail
    go_ret
    exact ⟨ret_bool (unhide HE).symm, (Below.refl _ _).alloc (Nat.le_refl _) _⟩
  have q3 : decide (n ≤ 1000000) = true := by simpa using h3
  by_cases h2 : s.size = 0
  case neg =>
    have HE : Hid (atomB n s len = false) := by show _ = _; unfold atomB; simp [h2]
    have q2 := list_not h2
    clear h2
    generalize atomB n s len = bb at *
    go_enter Tryz.func110, Tryz.ntmps110
    go_wp2_with fail
    go_ret
    exact ⟨ret_bool (unhide HE).symm, (Below.refl _ _).alloc (Nat.le_refl _) _⟩
  have q2 := list_empty h2
  have HE : Hid (atomB n s len = ((len : Int) == 0)) := by show _ = _; unfold atomB; rw [Bool.eq_iff_iff]; simp [h1, h2, h3]
  clear h2
  generalize atomB n s len = bb at *
  go_enter Tryz.func110, Tryz.ntmps110
  go_wp2_with fail
  go_ret
  exact ⟨ret_bool (unhide HE).symm, (Below.refl _ _).alloc (Nat.le_refl _) _⟩

theorem sh50 (op n : Int) (s : ByteArray) (a : Option Addr) (len cap : Nat) (w : World) :
    Calls Tryz.prog 111 #[.agg #[.int .i64 op, .int .i64 n, .string s, .slice a len cap]] w fun e w' => e = .returned (.bool (textB n s len)) ∧ Below w.heap.size w w' := by
  by_cases h1 : n = 0
  case neg =>
    have HE : Hid (textB n s len = false) := by show _ = _; unfold textB; simp [h1]
    have q1 : (n == 0) = false := by simpa using h1
    clear h1
    generalize textB n s len = bb at *
    go_enter Tryz.func111, Tryz.ntmps111
    go_wp2_with fail
    go_ret
    exact ⟨ret_bool (unhide HE).symm, (Below.refl _ _).alloc (Nat.le_refl _) _⟩
  have q1 : (n == 0) = true := by simpa using h1
  by_cases h2 : s.size ≤ 300
  case neg =>
    have HE : Hid (textB n s len = false) := by show _ = _; unfold textB; simp [h2]
    have q2 : decide ((s.size : Int) ≤ 300) = false := by simp only [decide_eq_false_iff_not]; omega
    clear h1 h2
    generalize textB n s len = bb at *
    go_enter Tryz.func111, Tryz.ntmps111
    go_wp2_with fail
    go_ret
    exact ⟨ret_bool (unhide HE).symm, (Below.refl _ _).alloc (Nat.le_refl _) _⟩
  have q2 : decide ((s.size : Int) ≤ 300) = true := by simp only [decide_eq_true_iff]; omega
  have HE : Hid (textB n s len = ((len : Int) == 0)) := by show _ = _; unfold textB; rw [Bool.eq_iff_iff]; simp [h1, h2]
  clear h1 h2
  generalize textB n s len = bb at *
  go_enter Tryz.func111, Tryz.ntmps111
  go_wp2_with fail
  go_ret
  exact ⟨ret_bool (unhide HE).symm, (Below.refl _ _).alloc (Nat.le_refl _) _⟩

theorem sh51 (op n : Int) (s : ByteArray) (a : Option Addr) (len cap : Nat) (w : World) :
    Calls Tryz.prog 112 #[.agg #[.int .i64 op, .int .i64 n, .string s, .slice a len cap]] w fun e w' => e = .returned (.bool (onlyB n s len 2)) ∧ Below w.heap.size w w' := by
  have h := only52 op n s a len cap 2
  generalize onlyB n s len 2 = bb at *
  have H := hide h
  clear h
  go_enter Tryz.func112, Tryz.ntmps112
  go_wp2_with fail
  refine (unhide H _).mono ?_
  rintro e w2 ⟨rfl, hb2⟩
  go_wp2_with fail
  go_ret
  exact ⟨rfl, ((Below.refl _ _).alloc (Nat.le_refl _) _).trans (hb2.mono (by simp))⟩

theorem sh53 (op n : Int) (s : ByteArray) (a : Option Addr) (len cap : Nat) (w : World) :
    Calls Tryz.prog 114 #[.agg #[.int .i64 op, .int .i64 n, .string s, .slice a len cap]] w fun e w' => e = .returned (.bool (onlyB n s len 1)) ∧ Below w.heap.size w w' := by
  have h := only52 op n s a len cap 1
  generalize onlyB n s len 1 = bb at *
  have H := hide h
  clear h
  go_enter Tryz.func114, Tryz.ntmps114
  go_wp2_with fail
  refine (unhide H _).mono ?_
  rintro e w2 ⟨rfl, hb2⟩
  go_wp2_with fail
  go_ret
  exact ⟨rfl, ((Below.refl _ _).alloc (Nat.le_refl _) _).trans (hb2.mono (by simp))⟩

theorem sh55 (op n : Int) (s : ByteArray) (a : Option Addr) (len cap : Nat) (w : World) :
    Calls Tryz.prog 122 #[.agg #[.int .i64 op, .int .i64 n, .string s, .slice a len cap]] w fun e w' => e = .returned (.bool (onlyB n s len 1)) ∧ Below w.heap.size w w' := by
  have h := only52 op n s a len cap 1
  generalize onlyB n s len 1 = bb at *
  have H := hide h
  clear h
  go_enter Tryz.func122, Tryz.ntmps122
  go_wp2_with fail
  refine (unhide H _).mono ?_
  rintro e w2 ⟨rfl, hb2⟩
  go_wp2_with fail
  go_ret
  exact ⟨rfl, ((Below.refl _ _).alloc (Nat.le_refl _) _).trans (hb2.mono (by simp))⟩

theorem sh56 (op n : Int) (s : ByteArray) (a : Option Addr) (len cap : Nat) (w : World) :
    Calls Tryz.prog 123 #[.agg #[.int .i64 op, .int .i64 n, .string s, .slice a len cap]] w fun e w' => e = .returned (.bool (onlyB n s len 2)) ∧ Below w.heap.size w w' := by
  have h := only52 op n s a len cap 2
  generalize onlyB n s len 2 = bb at *
  have H := hide h
  clear h
  go_enter Tryz.func123, Tryz.ntmps123
  go_wp2_with fail
  refine (unhide H _).mono ?_
  rintro e w2 ⟨rfl, hb2⟩
  go_wp2_with fail
  go_ret
  exact ⟨rfl, ((Below.refl _ _).alloc (Nat.le_refl _) _).trans (hb2.mono (by simp))⟩

theorem sh57 (op n : Int) (s : ByteArray) (a : Option Addr) (len cap : Nat) (w : World) :
    Calls Tryz.prog 124 #[.agg #[.int .i64 op, .int .i64 n, .string s, .slice a len cap]] w fun e w' => e = .returned (.bool (onlyB n s len 2)) ∧ Below w.heap.size w w' := by
  have h := only52 op n s a len cap 2
  generalize onlyB n s len 2 = bb at *
  have H := hide h
  clear h
  go_enter Tryz.func124, Tryz.ntmps124
  go_wp2_with fail
  refine (unhide H _).mono ?_
  rintro e w2 ⟨rfl, hb2⟩
  go_wp2_with fail
  go_ret
  exact ⟨rfl, ((Below.refl _ _).alloc (Nat.le_refl _) _).trans (hb2.mono (by simp))⟩

theorem sh58 (op n : Int) (s : ByteArray) (a : Option Addr) (len cap : Nat) (w : World) :
    Calls Tryz.prog 125 #[.agg #[.int .i64 op, .int .i64 n, .string s, .slice a len cap]] w fun e w' => e = .returned (.bool false) ∧ Below w.heap.size w w' := by
  go_enter Tryz.func125, Tryz.ntmps125
  go_wp2_with fail
  go_ret
  exact ⟨rfl, (Below.refl _ _).alloc (Nat.le_refl _) _⟩

end Go.Proofs.YteminklafghgpaaGreatDoor
