
/- A list of terms that a call keeps for itself in a slice of its own, the last one taken off and that one's kids put on: what append does to it. -/
import Derived.Test.YtjckdepcgjfomaaDoorTo
import Derived.Deep.DeepAppendWide
import Derived.Deep.Upon
import Derived.WalkSmall
namespace Go.Proofs.YtjckdepcgjfomaaDoor
open Go.RowKit Go.Deep

theorem hide {p : Prop} (h : p) : Hid p := h
theorem unhide {p : Prop} (h : Hid p) : p := h

/-- The kids of a term that lies in memory, each with its cells. -/
theorem LiesAll.pairs {w : World} {L : Nat} {a : Option Addr} : ∀ {i : Nat} {ks : List Tm}, LiesAll w L a i ks →
    ∃ kp : List (Tm × List Value), kp.map (·.1) = ks ∧ (∀ p ∈ kp, Lies w L p.1 p.2) ∧ (ks ≠ [] → ∃ b o, a = some ⟨b, o, none⟩ ∧ w.rangeAt b (o + i * 4) (kp.flatMap (·.2)))
  | i, [], _ => ⟨[], rfl, fun _ h => (by cases h), fun h => absurd rfl h⟩
  | i, t :: r, h => by
    simp only [LiesAll] at h
    obtain ⟨⟨b, o, cs, ha, hb, hr, ht⟩, h2⟩ := h
    obtain ⟨kp, k1, k2, k3⟩ := LiesAll.pairs h2
    refine ⟨(t, cs) :: kp, by simp [k1], fun p hp => ?_, fun _ => ⟨b, o, ha, ?_⟩⟩
    · rcases List.mem_cons.1 hp with rfl | hp
      · exact ht
      · exact k2 p hp
    · have h4 := ht.length
      intro j v hj
      simp only [List.flatMap_cons] at hj
      by_cases hlt : j < cs.length
      · rw [List.getElem?_append_left hlt] at hj
        exact hr j v hj
      · rw [List.getElem?_append_right (by omega)] at hj
        by_cases hn : r = []
        · subst hn
          have : kp = [] := by simpa using k1
          subst this
          simp at hj
        · obtain ⟨b', o', ha', hr'⟩ := k3 hn
          rw [ha] at ha'
          cases ha'
          have := hr' (j - cs.length) v hj
          rw [show o + (i + 1) * 4 + (j - cs.length) = o + i * 4 + j by omega] at this
          exact this

theorem Lies.one {w : World} {L : Nat} {t : Tm} {cs : List Value} (h : Lies w L t cs) : ∀ u ∈ cs, u.oneCell' = true := by
  obtain ⟨op, n, s, a, len, cap, rfl⟩ := h.cells
  intro u hu
  simp only [tmCells, List.mem_cons, List.not_mem_nil, or_false] at hu
  rcases hu with rfl | rfl | rfl | rfl <;> rfl

theorem pairs_length {w : World} {L : Nat} : ∀ {kp : List (Tm × List Value)}, (∀ p ∈ kp, Lies w L p.1 p.2) → (kp.flatMap (·.2)).length = kp.length * 4
  | [], _ => rfl
  | p :: r, h => by
    have h1 := (h p (by simp)).length
    have h2 := pairs_length (kp := r) fun q hq => h q (by simp [hq])
    simp only [List.flatMap_cons, List.length_append, List.length_cons, h1, h2]
    omega

/-- An append in the walk, by what its run comes to. -/
theorem wpList_append_run {P : Program} {w : World} {ops : Array Oper} {rest : List Oper} {o : Oper} {a : Act} {Q : Exit → Act → World → Prop} (hgd : o.guard = none) (s x : Operand) (t : TypeId)
    (ho : o.op = .call { callee := .builtin .append, args := #[s, x], argTypes := #[t, t] }) (v xv : Value) (hs : a.eval s = v) (hx : a.eval x = xv) (R : Value → World → Prop)
    (hrun : ∃ v' w', (Builtin.append_ #[t, t] o.type #[v, xv]).run P w = .ok v' w' ∧ R v' w') (h : ∀ v' w', R v' w' → wpList P ops Q rest (a.put o.dst v') w') : wpList P ops Q (o :: rest) a w :=
  wpList_plain hgd fun K hK => by
    obtain ⟨v', w', hr, h2⟩ := hrun
    unfold Oper.wp execOp
    simp only [ho, resolve, invoke, builtin, Sem.run_bind, Sem.run_pure, Result.andThen_ok, List.map_toArray, List.map_cons, List.map_nil, hs, hx, hr]
    exact hK _ _ (h v' w' h2)

end Go.Proofs.YtjckdepcgjfomaaDoor
