/- What the walk of laws.FnMaking needs. -/
import Derived.Test.YtdecdbahpkoamaaDoorDa
import Derived.Test.YtdecdbahpkoamaaDoorOr
import Derived.Test.YtdecdbahpkoamaaDoorBh
import Derived.Deep.RegionHeld3
namespace Go.Proofs.YtdecdbahpkoamaaDoor
open Go.RowKit Go.Deep

theorem big_calls (ad : Option Addr) (ln cp : Nat) (w : World) : Calls Tryd.prog 15 #[.slice ad ln cp] w fun e w' => e = .returned (.bool (decide ((1048576 : Int) < ln))) ∧ w' = w := by
  go_enter Tryd.func15, Tryd.ntmps15
  go_wp2_with fail
  go_ret
  exact ⟨rfl, rfl⟩

theorem same_self (t : Tm) : sameB t t = true := by
  have h := cmpT_flip t t
  have h0 : cmpT t t = 0 := by omega
  simp [sameB, h0]

theorem same_yes (t : Tm) (op n : Int) (s : ByteArray) (a : Option Addr) (len cap : Nat) (op' n' : Int) (s' : ByteArray) (a' : Option Addr) (len' cap' : Nat) (w : World) (hl : Lies w 0 t (tmCells op n s a len cap)) (hl' : Lies w 0 t (tmCells op' n' s' a' len' cap')) (hsz : t.size ≤ 2097152) :
    Calls Tryd.prog 24 #[.agg #[.int .i64 op, .int .i64 n, .string s, .slice a len cap], .agg #[.int .i64 op', .int .i64 n', .string s', .slice a' len' cap']] w fun e w' => e = .returned (.bool true) ∧ Below w.heap.size w w' := by
  have h := same15 t t op n s a len cap op' n' s' a' len' cap' w hl hl' hsz
  rw [same_self] at h
  exact h

theorem made_cases {w : World} {o : Int} {ks : List Tm} {op n : Int} {s : ByteArray} {a : Option Addr} {len cap : Nat} (h : Lies w 0 (madeT o ks) (tmCells op n s a len cap)) : op = 0 ∨ (op = o ∧ okT (madeT o ks) = true) := by
  unfold madeT pickT at h ⊢
  split at h
  · rename_i hk
    right
    rw [if_pos hk]
    simp only [Lies, tmCells, List.cons.injEq, Value.int.injEq] at h
    obtain ⟨_, _, ⟨⟨_, h1⟩, _⟩, _⟩ := h
    exact ⟨h1, hk⟩
  · left
    simp only [Lies, tmCells, List.cons.injEq, Value.int.injEq] at h
    obtain ⟨_, _, ⟨⟨_, h1⟩, _⟩, _⟩ := h
    exact h1

theorem at_cases {w : World} {vn op n : Int} {s : ByteArray} {a : Option Addr} {len cap : Nat} (h : Lies w 0 (.node (atOp vn) (atN vn) ByteArray.empty []) (tmCells op n s a len cap)) : op = 0 ∨ (op = 1 ∧ okT (.node (atOp vn) (atN vn) ByteArray.empty []) = true) := by
  simp only [Lies, tmCells, List.cons.injEq, Value.int.injEq] at h
  obtain ⟨_, _, ⟨⟨_, h1⟩, _⟩, _⟩ := h
  subst h1
  by_cases hk : okT (.node 1 vn ByteArray.empty []) = true
  · right
    rw [show atOp vn = 1 from by unfold atOp; rw [if_pos hk], show atN vn = vn from by unfold atN; rw [if_pos hk]]
    exact ⟨rfl, hk⟩
  · left
    unfold atOp
    rw [if_neg hk]

end Go.Proofs.YtdecdbahpkoamaaDoor
