/- The walks of impl.kindOf and of the methods shaped: whether a term's own fields are right, and of a share its kids' order; nothing that was there is written. The walks of the methods shaped: whether a term's own fields are right, and of a share its kids' order; nothing that was there is written. The walk of the share's method shaped. The walk of the share's method shaped, where its own fields are right. -/
import Derived.Test.YtmklgikbajhcpaaGreatDoorRl
import Derived.Deep.RegionWith
namespace Go.Proofs.YtmklgikbajhcpaaGreatDoor
open Go.RowKit Go.Deep

theorem kind27_1 (n : Int) (s : ByteArray) (a : Option Addr) (len cap : Nat) (w : World) :
    Calls Tryz.prog 133 #[.agg #[.int .i64 1, .int .i64 n, .string s, .slice a len cap]] w fun e w' => e = .returned (.iface 153 (.agg #[.int .i64 1, .int .i64 n, .string s, .slice a len cap])) ∧ Below w.heap.size w w' := by
  go_enter Tryz.func133, Tryz.ntmps133
  go_wp2_with fail
  go_ret
  exact ⟨rfl, (Below.refl _ _).alloc (Nat.le_refl _) _⟩

theorem kind27_2 (n : Int) (s : ByteArray) (a : Option Addr) (len cap : Nat) (w : World) :
    Calls Tryz.prog 133 #[.agg #[.int .i64 2, .int .i64 n, .string s, .slice a len cap]] w fun e w' => e = .returned (.iface 154 (.agg #[.int .i64 2, .int .i64 n, .string s, .slice a len cap])) ∧ Below w.heap.size w w' := by
  go_enter Tryz.func133, Tryz.ntmps133
  go_wp2_with fail
  go_ret
  exact ⟨rfl, (Below.refl _ _).alloc (Nat.le_refl _) _⟩

theorem kind27_3 (n : Int) (s : ByteArray) (a : Option Addr) (len cap : Nat) (w : World) :
    Calls Tryz.prog 133 #[.agg #[.int .i64 3, .int .i64 n, .string s, .slice a len cap]] w fun e w' => e = .returned (.iface 155 (.agg #[.int .i64 3, .int .i64 n, .string s, .slice a len cap])) ∧ Below w.heap.size w w' := by
  go_enter Tryz.func133, Tryz.ntmps133
  go_wp2_with fail
  go_ret
  exact ⟨rfl, (Below.refl _ _).alloc (Nat.le_refl _) _⟩

theorem kind27_4 (n : Int) (s : ByteArray) (a : Option Addr) (len cap : Nat) (w : World) :
    Calls Tryz.prog 133 #[.agg #[.int .i64 4, .int .i64 n, .string s, .slice a len cap]] w fun e w' => e = .returned (.iface 156 (.agg #[.int .i64 4, .int .i64 n, .string s, .slice a len cap])) ∧ Below w.heap.size w w' := by
  go_enter Tryz.func133, Tryz.ntmps133
  go_wp2_with fail
  go_ret
  exact ⟨rfl, (Below.refl _ _).alloc (Nat.le_refl _) _⟩

theorem kind27_5 (n : Int) (s : ByteArray) (a : Option Addr) (len cap : Nat) (w : World) :
    Calls Tryz.prog 133 #[.agg #[.int .i64 5, .int .i64 n, .string s, .slice a len cap]] w fun e w' => e = .returned (.iface 157 (.agg #[.int .i64 5, .int .i64 n, .string s, .slice a len cap])) ∧ Below w.heap.size w w' := by
  go_enter Tryz.func133, Tryz.ntmps133
  go_wp2_with fail
  go_ret
  exact ⟨rfl, (Below.refl _ _).alloc (Nat.le_refl _) _⟩

theorem kind27_6 (n : Int) (s : ByteArray) (a : Option Addr) (len cap : Nat) (w : World) :
    Calls Tryz.prog 133 #[.agg #[.int .i64 6, .int .i64 n, .string s, .slice a len cap]] w fun e w' => e = .returned (.iface 158 (.agg #[.int .i64 6, .int .i64 n, .string s, .slice a len cap])) ∧ Below w.heap.size w w' := by
  go_enter Tryz.func133, Tryz.ntmps133
  go_wp2_with fail
  go_ret
  exact ⟨rfl, (Below.refl _ _).alloc (Nat.le_refl _) _⟩

theorem kind27_7 (n : Int) (s : ByteArray) (a : Option Addr) (len cap : Nat) (w : World) :
    Calls Tryz.prog 133 #[.agg #[.int .i64 7, .int .i64 n, .string s, .slice a len cap]] w fun e w' => e = .returned (.iface 159 (.agg #[.int .i64 7, .int .i64 n, .string s, .slice a len cap])) ∧ Below w.heap.size w w' := by
  go_enter Tryz.func133, Tryz.ntmps133
  go_wp2_with fail
  go_ret
  exact ⟨rfl, (Below.refl _ _).alloc (Nat.le_refl _) _⟩

theorem kind27_8 (n : Int) (s : ByteArray) (a : Option Addr) (len cap : Nat) (w : World) :
    Calls Tryz.prog 133 #[.agg #[.int .i64 8, .int .i64 n, .string s, .slice a len cap]] w fun e w' => e = .returned (.iface 160 (.agg #[.int .i64 8, .int .i64 n, .string s, .slice a len cap])) ∧ Below w.heap.size w w' := by
  go_enter Tryz.func133, Tryz.ntmps133
  go_wp2_with fail
  go_ret
  exact ⟨rfl, (Below.refl _ _).alloc (Nat.le_refl _) _⟩

theorem kind27_0 (op n : Int) (s : ByteArray) (a : Option Addr) (len cap : Nat) (w : World) (q1 : (op == 1) = false) (q2 : (op == 2) = false) (q3 : (op == 3) = false) (q4 : (op == 4) = false) (q5 : (op == 5) = false) (q6 : (op == 6) = false) (q7 : (op == 7) = false) (q8 : (op == 8) = false) :
    Calls Tryz.prog 133 #[.agg #[.int .i64 op, .int .i64 n, .string s, .slice a len cap]] w fun e w' => e = .returned (.iface 161 (.agg #[.int .i64 op, .int .i64 n, .string s, .slice a len cap])) ∧ Below w.heap.size w w' := by
  go_enter Tryz.func133, Tryz.ntmps133
  go_wp2_with fail
  go_ret
  exact ⟨rfl, (Below.refl _ _).alloc (Nat.le_refl _) _⟩

def onlyB (n : Int) (s : ByteArray) (len : Nat) (count : Int) : Bool := decide (n = 0 ∧ s.size = 0 ∧ (len : Int) = count)
def atomB (n : Int) (s : ByteArray) (len : Nat) : Bool := decide ((0 ≤ n ∧ n ≤ 1000000) ∧ s.size = 0 ∧ len = 0)
def textB (n : Int) (s : ByteArray) (len : Nat) : Bool := decide (n = 0 ∧ s.size ≤ 300 ∧ len = 0)

theorem list_empty {s : ByteArray} (h : s.size = 0) : (s.toList == []) = true := by simpa using empty_iff.1 h
theorem list_not {s : ByteArray} (h : ¬ s.size = 0) : (s.toList == []) = false := by simpa using fun e => h (empty_iff.2 e)

theorem only52 (op n : Int) (s : ByteArray) (a : Option Addr) (len cap : Nat) (count : Int) (w : World) :
    Calls Tryz.prog 203 #[.agg #[.int .i64 op, .int .i64 n, .string s, .slice a len cap], .int .i64 count] w fun e w' => e = .returned (.bool (onlyB n s len count)) ∧ Below w.heap.size w w' := by
  by_cases h1 : n = 0
  case neg =>
    have HE : Hid (onlyB n s len count = false) := by show _ = _; unfold onlyB; simp [h1]
    have q1 : (n == 0) = false := by simpa using h1
    clear h1
    generalize onlyB n s len count = bb at *
    go_enter Tryz.func203, Tryz.ntmps203
    go_wp2_with fail
    go_ret
    exact ⟨ret_bool (unhide HE).symm, (Below.refl _ _).alloc (Nat.le_refl _) _⟩
  have q1 : (n == 0) = true := by simpa using h1
  by_cases h2 : s.size = 0
  case neg =>
    have HE : Hid (onlyB n s len count = false) := by show _ = _; unfold onlyB; simp [h2]
    have q2 := list_not h2
    clear h1 h2
    generalize onlyB n s len count = bb at *
    go_enter Tryz.func203, Tryz.ntmps203
    go_wp2_with fail
    go_ret
    exact ⟨ret_bool (unhide HE).symm, (Below.refl _ _).alloc (Nat.le_refl _) _⟩
  have q2 := list_empty h2
  have HE : Hid (onlyB n s len count = ((len : Int) == count)) := by show _ = _; unfold onlyB; rw [Bool.eq_iff_iff]; simp [h1, h2]
  clear h1 h2
  generalize onlyB n s len count = bb at *
  go_enter Tryz.func203, Tryz.ntmps203
  go_wp2_with fail
  go_ret
  exact ⟨ret_bool (unhide HE).symm, (Below.refl _ _).alloc (Nat.le_refl _) _⟩

theorem sh49 (op n : Int) (s : ByteArray) (a : Option Addr) (len cap : Nat) (w : World) :
    Calls Tryz.prog 200 #[.agg #[.int .i64 op, .int .i64 n, .string s, .slice a len cap]] w fun e w' => e = .returned (.bool (atomB n s len)) ∧ Below w.heap.size w w' := by
  by_cases h1 : 0 ≤ n
  case neg =>
    have HE : Hid (atomB n s len = false) := by show _ = _; unfold atomB; simp [h1]
    have q1 : decide (0 ≤ n) = false := by simpa using h1
    generalize atomB n s len = bb at *
    go_enter Tryz.func200, Tryz.ntmps200
    go_wp2_with fail
    go_ret
    exact ⟨ret_bool (unhide HE).symm, (Below.refl _ _).alloc (Nat.le_refl _) _⟩
  have q1 : decide (0 ≤ n) = true := by simpa using h1
  by_cases h3 : n ≤ 1000000
  case neg =>
    have HE : Hid (atomB n s len = false) := by show _ = _; unfold atomB; simp [h3]
    have q3 : decide (n ≤ 1000000) = false := by simpa using h3
    generalize atomB n s len = bb at *
    go_enter Tryz.func200, Tryz.ntmps200
    go_wp2_with fail
    go_ret
    exact ⟨ret_bool (unhide HE).symm, (Below.refl _ _).alloc (Nat.le_refl _) _⟩
  have q3 : decide (n ≤ 1000000) = true := by simpa using h3
  by_cases h2 : s.size = 0
  case neg =>
    have HE : Hid (atomB n s len = false) := by show _ = _; unfold atomB; simp [h2]
    have q2 := list_not h2
    clear h2
    generalize atomB n s len = bb at *
    go_enter Tryz.func200, Tryz.ntmps200
    go_wp2_with fail
    go_ret
    exact ⟨ret_bool (unhide HE).symm, (Below.refl _ _).alloc (Nat.le_refl _) _⟩
  have q2 := list_empty h2
  have HE : Hid (atomB n s len = ((len : Int) == 0)) := by show _ = _; unfold atomB; rw [Bool.eq_iff_iff]; simp [h1, h2, h3]
  clear h2
  generalize atomB n s len = bb at *
  go_enter Tryz.func200, Tryz.ntmps200
  go_wp2_with fail
  go_ret
  exact ⟨ret_bool (unhide HE).symm, (Below.refl _ _).alloc (Nat.le_refl _) _⟩

theorem sh50 (op n : Int) (s : ByteArray) (a : Option Addr) (len cap : Nat) (w : World) :
    Calls Tryz.prog 201 #[.agg #[.int .i64 op, .int .i64 n, .string s, .slice a len cap]] w fun e w' => e = .returned (.bool (textB n s len)) ∧ Below w.heap.size w w' := by
  by_cases h1 : n = 0
  case neg =>
    have HE : Hid (textB n s len = false) := by show _ = _; unfold textB; simp [h1]
    have q1 : (n == 0) = false := by simpa using h1
    clear h1
    generalize textB n s len = bb at *
    go_enter Tryz.func201, Tryz.ntmps201
    go_wp2_with fail
    go_ret
    exact ⟨ret_bool (unhide HE).symm, (Below.refl _ _).alloc (Nat.le_refl _) _⟩
  have q1 : (n == 0) = true := by simpa using h1
  by_cases h2 : s.size ≤ 300
  case neg =>
    have HE : Hid (textB n s len = false) := by show _ = _; unfold textB; simp [h2]
    have q2 : decide ((s.size : Int) ≤ 300) = false := by simp only [decide_eq_false_iff_not]; omega
    clear h1 h2
    generalize textB n s len = bb at *
    go_enter Tryz.func201, Tryz.ntmps201
    go_wp2_with fail
    go_ret
    exact ⟨ret_bool (unhide HE).symm, (Below.refl _ _).alloc (Nat.le_refl _) _⟩
  have q2 : decide ((s.size : Int) ≤ 300) = true := by simp only [decide_eq_true_iff]; omega
  have HE : Hid (textB n s len = ((len : Int) == 0)) := by show _ = _; unfold textB; rw [Bool.eq_iff_iff]; simp [h1, h2]
  clear h1 h2
  generalize textB n s len = bb at *
  go_enter Tryz.func201, Tryz.ntmps201
  go_wp2_with fail
  go_ret
  exact ⟨ret_bool (unhide HE).symm, (Below.refl _ _).alloc (Nat.le_refl _) _⟩

theorem sh51 (op n : Int) (s : ByteArray) (a : Option Addr) (len cap : Nat) (w : World) :
    Calls Tryz.prog 202 #[.agg #[.int .i64 op, .int .i64 n, .string s, .slice a len cap]] w fun e w' => e = .returned (.bool (onlyB n s len 2)) ∧ Below w.heap.size w w' := by
  have h := only52 op n s a len cap 2
  generalize onlyB n s len 2 = bb at *
  have H := hide h
  clear h
  go_enter Tryz.func202, Tryz.ntmps202
  go_wp2_with fail
  refine (unhide H _).mono ?_
  rintro e w2 ⟨rfl, hb2⟩
  go_wp2_with fail
  go_ret
  exact ⟨rfl, ((Below.refl _ _).alloc (Nat.le_refl _) _).trans (hb2.mono (by simp))⟩

theorem sh53 (op n : Int) (s : ByteArray) (a : Option Addr) (len cap : Nat) (w : World) :
    Calls Tryz.prog 204 #[.agg #[.int .i64 op, .int .i64 n, .string s, .slice a len cap]] w fun e w' => e = .returned (.bool (onlyB n s len 1)) ∧ Below w.heap.size w w' := by
  have h := only52 op n s a len cap 1
  generalize onlyB n s len 1 = bb at *
  have H := hide h
  clear h
  go_enter Tryz.func204, Tryz.ntmps204
  go_wp2_with fail
  refine (unhide H _).mono ?_
  rintro e w2 ⟨rfl, hb2⟩
  go_wp2_with fail
  go_ret
  exact ⟨rfl, ((Below.refl _ _).alloc (Nat.le_refl _) _).trans (hb2.mono (by simp))⟩

theorem sh55 (op n : Int) (s : ByteArray) (a : Option Addr) (len cap : Nat) (w : World) :
    Calls Tryz.prog 206 #[.agg #[.int .i64 op, .int .i64 n, .string s, .slice a len cap]] w fun e w' => e = .returned (.bool (onlyB n s len 1)) ∧ Below w.heap.size w w' := by
  have h := only52 op n s a len cap 1
  generalize onlyB n s len 1 = bb at *
  have H := hide h
  clear h
  go_enter Tryz.func206, Tryz.ntmps206
  go_wp2_with fail
  refine (unhide H _).mono ?_
  rintro e w2 ⟨rfl, hb2⟩
  go_wp2_with fail
  go_ret
  exact ⟨rfl, ((Below.refl _ _).alloc (Nat.le_refl _) _).trans (hb2.mono (by simp))⟩

theorem sh56 (op n : Int) (s : ByteArray) (a : Option Addr) (len cap : Nat) (w : World) :
    Calls Tryz.prog 207 #[.agg #[.int .i64 op, .int .i64 n, .string s, .slice a len cap]] w fun e w' => e = .returned (.bool (onlyB n s len 2)) ∧ Below w.heap.size w w' := by
  have h := only52 op n s a len cap 2
  generalize onlyB n s len 2 = bb at *
  have H := hide h
  clear h
  go_enter Tryz.func207, Tryz.ntmps207
  go_wp2_with fail
  refine (unhide H _).mono ?_
  rintro e w2 ⟨rfl, hb2⟩
  go_wp2_with fail
  go_ret
  exact ⟨rfl, ((Below.refl _ _).alloc (Nat.le_refl _) _).trans (hb2.mono (by simp))⟩

theorem sh57 (op n : Int) (s : ByteArray) (a : Option Addr) (len cap : Nat) (w : World) :
    Calls Tryz.prog 208 #[.agg #[.int .i64 op, .int .i64 n, .string s, .slice a len cap]] w fun e w' => e = .returned (.bool (onlyB n s len 2)) ∧ Below w.heap.size w w' := by
  have h := only52 op n s a len cap 2
  generalize onlyB n s len 2 = bb at *
  have H := hide h
  clear h
  go_enter Tryz.func208, Tryz.ntmps208
  go_wp2_with fail
  refine (unhide H _).mono ?_
  rintro e w2 ⟨rfl, hb2⟩
  go_wp2_with fail
  go_ret
  exact ⟨rfl, ((Below.refl _ _).alloc (Nat.le_refl _) _).trans (hb2.mono (by simp))⟩

theorem sh58 (op n : Int) (s : ByteArray) (a : Option Addr) (len cap : Nat) (w : World) :
    Calls Tryz.prog 209 #[.agg #[.int .i64 op, .int .i64 n, .string s, .slice a len cap]] w fun e w' => e = .returned (.bool false) ∧ Below w.heap.size w w' := by
  go_enter Tryz.func209, Tryz.ntmps209
  go_wp2_with fail
  go_ret
  exact ⟨rfl, (Below.refl _ _).alloc (Nat.le_refl _) _⟩

set_option maxHeartbeats 4000000 in
theorem sh54_no (op n : Int) (s : ByteArray) (a : Option Addr) (len cap : Nat) (w : World) (h : onlyB n s len 2 = false) :
    Calls Tryz.prog 205 #[.agg #[.int .i64 op, .int .i64 n, .string s, .slice a len cap]] w fun e w' => e = .returned (.bool false) ∧ Below w.heap.size w w' := by
  have h52 := only52 op n s a len cap 2
  rw [h] at h52
  have H := hide h52
  clear h h52
  go_enter Tryz.func205, Tryz.ntmps205
  go_wp2_with fail
  first
    | go_region_with (go_at_call 203; refine (unhide H _).mono ?_; rintro e w2 ⟨rfl, hb2⟩; have HB := hide (((Below.refl _ _).alloc (Nat.le_refl _) _).trans ((below_drw hb2).mono (by simp))))
    | fail
  all_goals go_wp2_with fail
  all_goals go_ret
  all_goals exact ⟨rfl, unhide HB⟩

set_option maxHeartbeats 4000000 in
theorem sh54_yes (x y : Tm) (op n : Int) (s : ByteArray) (a : Option Addr) (cap : Nat) (w : World) (h : onlyB n s 2 2 = true) (hk : LiesAll w 0 a 0 [x, y]) (hsz : y.size ≤ 2097152) :
    Calls Tryz.prog 205 #[.agg #[.int .i64 op, .int .i64 n, .string s, .slice a 2 cap]] w fun e w' => e = .returned (.bool (!beforeB y x)) ∧ Below w.heap.size w w' := by
  have h52 := only52 op n s a 2 cap 2
  rw [h] at h52
  have H := hide h52
  obtain ⟨b, o, z0, z1, z2, z3, z4, z5, rfl, _, _, c0, c1, c2, c3, hX⟩ := hk.elem (k := 0) (by simp)
  obtain ⟨b', o', z0', z1', z2', z3', z4', z5', hab, _, _, d0, d1, d2, d3, hY⟩ := hk.elem (k := 1) (by simp)
  cases hab
  have HBF := hide (before17 y x z0' z1' z2' z3' z4' z5' z0 z1 z2 z3 z4 z5)
  have g := (Below.refl w.heap.size w).alloc (Nat.le_refl _) (.cells #[.int .i64 op, .int .i64 n, .string s, .slice (some ⟨b, o, none⟩) 2 cap] 157)
  have HX : Hid (Lies (w.alloc (.cells #[.int .i64 op, .int .i64 n, .string s, .slice (some ⟨b, o, none⟩) 2 cap] 157)) 0 x (tmCells z0 z1 z2 z3 z4 z5)) := hX.below g
  have HY : Hid (Lies (w.alloc (.cells #[.int .i64 op, .int .i64 n, .string s, .slice (some ⟨b, o, none⟩) 2 cap] 157)) 0 y (tmCells z0' z1' z2' z3' z4' z5')) := hY.below g
  have HSZ := hide hsz
  rw [Nat.zero_mul, Nat.add_zero] at c0 c1 c2 c3
  rw [Nat.one_mul] at d0 d1 d2 d3
  have c0 := keepc g c0
  have c1 := keepc g c1
  have c2 := keepc g c2
  have c3 := keepc g c3
  have d0 := keepc g d0
  have d1 := keepc g d1
  have d2 := keepc g d2
  have d3 := keepc g d3
  have HG := hide g
  have a0 := box_cell w #[.int .i64 op, .int .i64 n, .string s, .slice (some ⟨b, o, none⟩) 2 cap] 157 0 _ rfl
  have a1 := box_cell w #[.int .i64 op, .int .i64 n, .string s, .slice (some ⟨b, o, none⟩) 2 cap] 157 1 _ rfl
  have a2 := box_cell w #[.int .i64 op, .int .i64 n, .string s, .slice (some ⟨b, o, none⟩) 2 cap] 157 2 _ rfl
  have a3 := box_cell w #[.int .i64 op, .int .i64 n, .string s, .slice (some ⟨b, o, none⟩) 2 cap] 157 3 _ rfl
  clear hX hY hk h h52 hsz g
  generalize beforeB y x = bf at *
  go_enter Tryz.func205, Tryz.ntmps205
  go_wp2_with fail
  go_region_held3 (fun v => v.cell? ⟨w.heap.size, 0, none⟩ = some (.int .i64 op) ∧ v.cell? ⟨w.heap.size, 1, none⟩ = some (.int .i64 n) ∧ v.cell? ⟨w.heap.size, 2, none⟩ = some (.string s) ∧ v.cell? ⟨w.heap.size, 3, none⟩ = some (.slice (some ⟨b, o, none⟩) 2 cap) ∧
      v.cell? ⟨b, o, none⟩ = some (.int .i64 z0) ∧ v.cell? ⟨b, o + 1, none⟩ = some (.int .i64 z1) ∧ v.cell? ⟨b, o + 2, none⟩ = some (.string z2) ∧ v.cell? ⟨b, o + 3, none⟩ = some (.slice z3 z4 z5) ∧
      v.cell? ⟨b, o + 4, none⟩ = some (.int .i64 z0') ∧ v.cell? ⟨b, o + 4 + 1, none⟩ = some (.int .i64 z1') ∧ v.cell? ⟨b, o + 4 + 2, none⟩ = some (.string z2') ∧ v.cell? ⟨b, o + 4 + 3, none⟩ = some (.slice z3' z4' z5')) (go_keep)
    (first
      | (go_at_call 203
         refine (unhide H _).mono ?_
         rintro e w2 ⟨rfl, hb2⟩
         have hb2' := hide (below_drw hb2)
         have f0 := keepc (unhide hb2') c0
         have f1 := keepc (unhide hb2') c1
         have f2 := keepc (unhide hb2') c2
         have f3 := keepc (unhide hb2') c3
         have f4 := keepc (unhide hb2') d0
         have f5 := keepc (unhide hb2') d1
         have f6 := keepc (unhide hb2') d2
         have f7 := keepc (unhide hb2') d3
         have f8 := keepc (unhide hb2') a0
         have f9 := keepc (unhide hb2') a1
         have f10 := keepc (unhide hb2') a2
         have f11 := keepc (unhide hb2') a3
         have HX2 := hide ((unhide HX).below (unhide hb2'))
         have HY2 := hide ((unhide HY).below (unhide hb2'))
         clear hb2)
      | (go_at_call 135
         refine (unhide HBF _ (unhide HY2) (unhide HX2) (unhide HSZ)).mono ?_
         rintro e w3 ⟨rfl, hb3⟩
         have k0 := keepc hb3 f0
         have k1 := keepc hb3 f1
         have k2 := keepc hb3 f2
         have k3 := keepc hb3 f3
         have k4 := keepc hb3 f4
         have k5 := keepc hb3 f5
         have k6 := keepc hb3 f6
         have k7 := keepc hb3 f7
         have k8 := keepc hb3 f8
         have k9 := keepc hb3 f9
         have k10 := keepc hb3 f10
         have k11 := keepc hb3 f11
         have hb3' := hide hb3
         clear hb3))
  go_wp2_with fail
  go_ret
  exact ⟨rfl, ((unhide HG).trans ((unhide hb2').mono (by simp))).trans ((unhide hb3').mono (by have := (unhide hb2').size; simp at this; omega))⟩

end Go.Proofs.YtmklgikbajhcpaaGreatDoor
