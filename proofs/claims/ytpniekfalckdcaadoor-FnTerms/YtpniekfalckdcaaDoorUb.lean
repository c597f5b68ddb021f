
/- The walk of spec.TermText at whatever term. -/
import Derived.Test.YtpniekfalckdcaaDoorUa
namespace Go.Proofs.YtpniekfalckdcaaDoor
open Go.RowKit Go.Deep

theorem tx_step (t : Tm) (h : ∀ x ∈ t.kids, TxOk x) : TxOk t := by
  intro op n s a len cap w hl hsz hwt
  cases t with
  | node op' n' s' ks =>
    simp only [Lies, tmCells] at hl
    obtain ⟨a', cap', he, _, ⟨_, hn⟩, hk⟩ := hl
    simp only [List.cons.injEq, Value.int.injEq, Value.string.injEq, Value.slice.injEq, true_and, and_true] at he
    obtain ⟨rfl, rfl, rfl, rfl, rfl, rfl⟩ := he
    have hkids : ∀ x ∈ ks, TxOk x := h
    have hzs : Tm.sizes ks ≤ 2097152 := by simp only [Tm.size] at hsz; omega
    have hws : ks.length + Tm.wts ks ≤ 2097152 := by simp only [Tm.wt] at hwt; omega
    have hss : s.size ≤ 4194304 := by simp only [Tm.wt] at hwt; omega
    have hb := bounds_i64 hn
    simp only [textT]
    by_cases e1 : op = 1
    · subst e1
      rw [if_neg (by decide)]
      exact tx_atom n s a ks.length cap w hb.1 hb.2
    by_cases e2 : op = 2
    · subst e2
      rw [if_neg (by decide)]
      exact tx_text n s a ks.length cap w hss
    by_cases e3 : op = 3
    · subst e3
      rw [if_pos (by decide)]
      exact tx_kids3 ks hkids n s a ks.length cap w hk rfl hzs hws
    by_cases e4 : op = 4
    · subst e4
      rw [if_pos (by decide)]
      exact tx_kids4 ks hkids n s a ks.length cap w hk rfl hzs hws
    by_cases e5 : op = 5
    · subst e5
      rw [if_pos (by decide)]
      exact tx_kids5 ks hkids n s a ks.length cap w hk rfl hzs hws
    by_cases e6 : op = 6
    · subst e6
      rw [if_pos (by decide)]
      exact tx_kids6 ks hkids n s a ks.length cap w hk rfl hzs hws
    by_cases e7 : op = 7
    · subst e7
      rw [if_pos (by decide)]
      exact tx_kids7 ks hkids n s a ks.length cap w hk rfl hzs hws
    by_cases e8 : op = 8
    · subst e8
      rw [if_pos (by decide)]
      exact tx_kids8 ks hkids n s a ks.length cap w hk rfl hzs hws
    have hko : kidOp op = false := by unfold kidOp; simp only [decide_eq_false_iff_not]; omega
    rw [if_neg (by rw [hko]; decide)]
    have hw : wordOf op n s = [63] := by unfold wordOf; rw [if_neg e1, if_neg e2]
    rw [hw]
    exact tx_none op n s a ks.length cap w (by simpa using e1) (by simpa using e2) (by unfold inB; simp only [decide_eq_false_iff_not]; omega)

theorem tx_any : ∀ (k : Nat) (t : Tm), t.size ≤ k → TxOk t
  | 0, t, h => by have := t.size_pos; omega
  | k + 1, t, h => tx_step t fun x hx => tx_any k x (by
      cases t with
      | node op n s ks =>
        have := Tm.size_mem (ks := ks) hx
        simp only [Tm.size] at h
        omega)

theorem tx_calls (t : Tm) : TxOk t := tx_any t.size t (Nat.le_refl _)

end Go.Proofs.YtpniekfalckdcaaDoor
