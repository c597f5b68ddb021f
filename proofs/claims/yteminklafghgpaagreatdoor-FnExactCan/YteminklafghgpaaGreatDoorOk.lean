
/- When a term is right, as plain functions; and the walks of spec.l1Kids and spec.l1In. -/
import Derived.Test.YteminklafghgpaaGreatDoorBf
import Derived.BigQuiet
namespace Go.Proofs.YteminklafghgpaaGreatDoor
open Go.RowKit Go.Deep

def kidsOf (op : Int) : Int := if op = 1 ∨ op = 2 then 0 else if op = 4 ∨ op = 6 then 1 else if op = 3 ∨ op = 5 ∨ op = 7 ∨ op = 8 then 2 else -1

theorem kids25 (op : Int) (w : World) : Calls Tryz.prog 42 #[.int .i64 op] w fun e w' => e = .returned (.int .i64 (kidsOf op)) ∧ w' = w := by
  by_cases h1 : op = 1
  · subst h1
    go_enter Tryz.func42, Tryz.ntmps42
    go_wp2_with fail
    go_ret
    exact ⟨rfl, rfl⟩
  by_cases h2 : op = 2
  · subst h2
    go_enter Tryz.func42, Tryz.ntmps42
    go_wp2_with fail
    go_ret
    exact ⟨rfl, rfl⟩
  by_cases h3 : op = 3
  · subst h3
    go_enter Tryz.func42, Tryz.ntmps42
    go_wp2_with fail
    go_ret
    exact ⟨rfl, rfl⟩
  by_cases h4 : op = 4
  · subst h4
    go_enter Tryz.func42, Tryz.ntmps42
    go_wp2_with fail
    go_ret
    exact ⟨rfl, rfl⟩
  by_cases h5 : op = 5
  · subst h5
    go_enter Tryz.func42, Tryz.ntmps42
    go_wp2_with fail
    go_ret
    exact ⟨rfl, rfl⟩
  by_cases h6 : op = 6
  · subst h6
    go_enter Tryz.func42, Tryz.ntmps42
    go_wp2_with fail
    go_ret
    exact ⟨rfl, rfl⟩
  by_cases h7 : op = 7
  · subst h7
    go_enter Tryz.func42, Tryz.ntmps42
    go_wp2_with fail
    go_ret
    exact ⟨rfl, rfl⟩
  by_cases h8 : op = 8
  · subst h8
    go_enter Tryz.func42, Tryz.ntmps42
    go_wp2_with fail
    go_ret
    exact ⟨rfl, rfl⟩
  have HK : Hid (kidsOf op = -1) := by
    show _ = _
    unfold kidsOf
    rw [if_neg (by omega), if_neg (by omega), if_neg (by omega)]
  have q1 : (op == 1) = false := by simpa using h1
  have q2 : (op == 2) = false := by simpa using h2
  have q3 : (op == 3) = false := by simpa using h3
  have q4 : (op == 4) = false := by simpa using h4
  have q5 : (op == 5) = false := by simpa using h5
  have q6 : (op == 6) = false := by simpa using h6
  have q7 : (op == 7) = false := by simpa using h7
  have q8 : (op == 8) = false := by simpa using h8
  clear h1 h2 h3 h4 h5 h6 h7 h8
  go_enter Tryz.func42, Tryz.ntmps42
  go_wp2_with fail
  go_ret
  exact ⟨ret_int (unhide HK).symm, rfl⟩

def inB (x lo hi : Int) : Bool := decide (lo ≤ x ∧ x ≤ hi)

theorem in26 (x lo hi : Int) (w : World) : Calls Tryz.prog 43 #[.int .i64 x, .int .i64 lo, .int .i64 hi] w fun e w' => e = .returned (.bool (inB x lo hi)) ∧ w' = w := by
  by_cases h1 : lo ≤ x
  · have hb : Hid (inB x lo hi = decide (x ≤ hi)) := by show _ = _; unfold inB; simp [h1]
    generalize inB x lo hi = bb at *
    go_enter Tryz.func43, Tryz.ntmps43
    go_wp2_with fail
    go_ret
    exact ⟨ret_bool (unhide hb).symm, rfl⟩
  · have hb : Hid (inB x lo hi = false) := by show _ = _; unfold inB; simp [h1]
    generalize inB x lo hi = bb at *
    have h2 : decide (lo ≤ x) = false := by simpa using h1
    go_enter Tryz.func43, Tryz.ntmps43
    go_wp2_with fail
    go_ret
    exact ⟨ret_bool (unhide hb).symm, rfl⟩

def headB (op n : Int) (s : ByteArray) (len : Nat) : Bool := decide (kidsOf op = len ∧ (op = 1 ∨ n = 0) ∧ (op = 2 ∨ s.size = 0) ∧ (0 ≤ n ∧ n ≤ 1000000) ∧ s.size ≤ 300)
def shareB (op : Int) (ks : List Tm) : Bool := match ks with
  | [x, y] => decide (op ≠ 5) || !beforeB y x
  | _ => true

mutual
def rightT : Tm → Bool
  | .node op n s ks => (headB op n s ks.length && shareB op ks) && rightL ks
def rightL : List Tm → Bool
  | [] => true
  | t :: r => rightT t && rightL r
end

theorem rightL_drop {ks : List Tm} {k : Nat} (h : k < ks.length) : rightL (ks.drop k) = (rightT ks[k] && rightL (ks.drop (k + 1))) := by
  rw [← List.getElem_cons_drop h]
  simp only [rightL]

end Go.Proofs.YteminklafghgpaaGreatDoor
