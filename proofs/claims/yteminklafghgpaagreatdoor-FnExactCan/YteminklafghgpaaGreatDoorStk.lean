
/- A list of terms that a call keeps for itself in a slice of its own, the last one taken off and that one's kids put on: what append does to it. -/
import Derived.Test.YteminklafghgpaaGreatDoorTo
import Derived.Deep.DeepAppendWide
import Derived.Deep.Upon
import Derived.WalkSmall
namespace Go.Proofs.YteminklafghgpaaGreatDoor
open Go.RowKit Go.Deep

theorem hide {p : Prop} (h : p) : Hid p := h
theorem unhide {p : Prop} (h : Hid p) : p := h

/-- The kids of a term that lies in memory, each with its cells. -/
theorem LiesAll.pairs {w : World} {L : Nat} {a : Option Addr} : ∀ {i : Nat} {ks : List Tm}, LiesAll w L a i ks →
    ∃ kp : List (Tm × List Value), kp.map (·.1) = ks ∧ (∀ p ∈ kp, Lies w L p.1 p.2) ∧ (ks ≠ [] → ∃ b o, a = some ⟨b, o, none⟩ ∧ w.rangeAt b (o + i * 4) (kp.flatMap (·.2)))
  | i, [], _ => ⟨[], rfl, fun _ h => (by cases h), fun h => absurd rfl h⟩
  | i, t :: r, h => by
    simp only [LiesAll] at h
    obtain ⟨⟨b, o, cs, ha, hb, hr, ht⟩, h2⟩ := h
    obtain ⟨kp, k1, k2, k3⟩ := LiesAll.pairs h2
    refine ⟨(t, cs) :: kp, by simp [k1], fun p hp => ?_, fun _ => ⟨b, o, ha, ?_⟩⟩
    · rcases List.mem_cons.1 hp with rfl | hp
      · exact ht
      · exact k2 p hp
    · have h4 := ht.length
      intro j v hj
      simp only [List.flatMap_cons] at hj
      by_cases hlt : j < cs.length
      · rw [List.getElem?_append_left hlt] at hj
        exact hr j v hj
      · rw [List.getElem?_append_right (by omega)] at hj
        by_cases hn : r = []
        · subst hn
          have : kp = [] := by simpa using k1
          subst this
          simp at hj
        · obtain ⟨b', o', ha', hr'⟩ := k3 hn
          rw [ha] at ha'
          cases ha'
          have := hr' (j - cs.length) v hj
          rw [show o + (i + 1) * 4 + (j - cs.length) = o + i * 4 + j by omega] at this
          exact this

theorem Lies.one {w : World} {L : Nat} {t : Tm} {cs : List Value} (h : Lies w L t cs) : ∀ u ∈ cs, u.oneCell' = true := by
  obtain ⟨op, n, s, a, len, cap, rfl⟩ := h.cells
  intro u hu
  simp only [tmCells, List.mem_cons, List.not_mem_nil, or_false] at hu
  rcases hu with rfl | rfl | rfl | rfl <;> rfl

theorem pairs_length {w : World} {L : Nat} : ∀ {kp : List (Tm × List Value)}, (∀ p ∈ kp, Lies w L p.1 p.2) → (kp.flatMap (·.2)).length = kp.length * 4
  | [], _ => rfl
  | p :: r, h => by
    have h1 := (h p (by simp)).length
    have h2 := pairs_length (kp := r) fun q hq => h q (by simp [hq])
    simp only [List.flatMap_cons, List.length_append, List.length_cons, h1, h2]
    omega

/-- The list that the call keeps: its slice is the value v. -/
structure Stk (w : World) (ps : List (Tm × List Value)) (v : Value) (wr : World) : Prop where
  below : Below w.heap.size w wr
  own : wr.ownsRow w.heap.size 35 4 v ps.length (ps.flatMap (·.2))
  lies : ∀ p ∈ ps, Lies w 0 p.1 p.2

theorem Stk.shape {w wr : World} {ps : List (Tm × List Value)} {v : Value} (h : Stk w ps v wr) : ∃ a c, v = .slice a ps.length c ∧ ps.length ≤ c ∧ c ≤ maxLen := by
  rcases h.own.2 with ⟨h1, h2⟩ | ⟨g, cap, cur, h1, _, _, h2, h3, _⟩
  · exact ⟨none, 0, by rw [h2]; exact h1, by omega, by simp⟩
  · exact ⟨_, _, h1, h2, h3⟩

theorem Stk.top {w wr : World} {us : List (Tm × List Value)} {p : Tm × List Value} {v : Value} (h : Stk w (us ++ [p]) v wr) :
    ∃ g c, v = .slice (some ⟨g, 0, none⟩) (us.length + 1) c ∧ us.length + 1 ≤ c ∧ c ≤ maxLen ∧ ∀ j u, p.2[j]? = some u → wr.cell? ⟨g, us.length * 4 + j, none⟩ = some u := by
  have ho := h.own
  rcases ho.2 with ⟨h1, h2⟩ | ⟨g, cap, cur, h1, _, _, h2, h3, _⟩
  · simp at h2
  · simp only [List.length_append, List.length_cons, List.length_nil, Nat.zero_add] at h1 h2
    refine ⟨g, cap, h1, h2, h3, fun j u hj => ?_⟩
    have hj4 : j < 4 := by
      have := (h.lies p (by simp)).length
      have := (List.getElem?_eq_some_iff.1 hj).1
      omega
    have hus := pairs_length (kp := us) (w := w) (L := 0) fun q hq => h.lies q (by simp [hq])
    have hcells := ho.cells (g := g) (by rw [h1]; rfl) (us.length * 4 + j) u (by
      simp only [List.flatMap_append, List.flatMap_cons, List.flatMap_nil, List.append_nil]
      rw [List.getElem?_append_right (by omega), hus, show us.length * 4 + j - us.length * 4 = j by omega]
      exact hj)
    rw [Addr.add_mid, Nat.zero_add] at hcells
    exact hcells

theorem Stk.push {w wr : World} {us : List (Tm × List Value)} {p : Tm × List Value} {g c : Nat} (h : Stk w (us ++ [p]) (.slice (some ⟨g, 0, none⟩) (us.length + 1) c) wr)
    {a : Option Addr} {ks : List Tm} (cap : Nat) (hk : LiesAll w 0 a 0 ks) (hn : us.length + ks.length ≤ 4194304) (ty : TypeId) :
    ∃ kp : List (Tm × List Value), kp.map (·.1) = ks ∧ ∃ v' w', (Builtin.append_ #[24, 24] ty #[.slice (some ⟨g, 0, none⟩) us.length c, .slice a ks.length cap]).run Tryz.prog wr = .ok v' w' ∧ Stk w (us ++ kp) v' w' := by
  obtain ⟨kp, k1, k2, k3⟩ := hk.pairs
  refine ⟨kp, k1, ?_⟩
  have hkl : kp.length = ks.length := by rw [← k1]; simp
  have hus := pairs_length (kp := us) (w := w) (L := 0) fun q hq => h.lies q (by simp [hq])
  have ho : wr.ownsRow w.heap.size 35 4 (.slice (some ⟨g, 0, none⟩) us.length c) us.length (us.flatMap (·.2)) := by
    have := h.own
    simp only [List.flatMap_append, List.flatMap_cons, List.flatMap_nil, List.append_nil, List.length_append, List.length_cons, List.length_nil, Nat.zero_add] at this
    exact ownsRow_pop (n := us.length) hus this
  have hlies : ∀ q ∈ us ++ kp, Lies w 0 q.1 q.2 := fun q hq => by
    rcases List.mem_append.1 hq with hq | hq
    · exact h.lies q (by simp [hq])
    · exact k2 q hq
  obtain ⟨i, hi, hzz⟩ := Option.map_eq_some_iff.1 info29
  simp only [Prod.mk.injEq] at hzz
  obtain ⟨hz, hs, hb⟩ := hzz
  by_cases hnil : ks = []
  · subst hnil
    have hkp : kp = [] := by simpa using k1
    subst hkp
    have hcap : us.length ≤ c := by
      rcases ho.2 with ⟨h1, _⟩ | ⟨_, _, _, h1, _, _, h2, _⟩
      · cases h1
      · cases h1; exact h2
    have hsrc : Src Tryz.prog i.size 24 (.slice a ([] : List Tm).length cap) 0 [] wr := by
      cases a with
      | none => exact Src.ofNil wr Tryz.underlying24 cap
      | some x => exact Src.ofSlice wr Tryz.underlying24 x 0 cap [] (by simp) (fun j u hj => by simp at hj) (fun u hu => by cases hu)
    exact ⟨_, _, run_append_nothing wr 24 24 ty 35 i Tryz.underlying24 hi _ _ _ hcap _ hsrc, by simpa using h.below, by simpa using ho, by simpa using hlies⟩
  · obtain ⟨b, o, rfl, hr⟩ := k3 hnil
    rw [Nat.zero_mul, Nat.add_zero] at hr
    have hr' : wr.rangeAt b o (kp.flatMap (·.2)) := rangeAt_below hr h.below
    obtain ⟨v', w', g1, g2, g3, _⟩ := run_append_own_wide (P := Tryz.prog) wr w.heap.size 24 ty 35 i _ 4 56 Tryz.underlying24 hi hz hs hb rfl (by omega) _ us.length _ ho ⟨b, o, none⟩ ks.length cap (kp.flatMap (·.2))
      (by rw [pairs_length k2, hkl]) (fun j u hj => by rw [Addr.add_mid]; exact hr' j u hj)
      (fun u hu => by
        obtain ⟨q, hq, hu⟩ := List.mem_flatMap.1 hu
        exact (k2 q hq).one u hu)
      (by unfold maxLen; omega) (by omega) h.below.size
    refine ⟨v', w', g1, h.below.grown g3 h.below.size (fun k hk => (ho.lt k hk).1), ?_, hlies⟩
    rw [List.length_append, List.flatMap_append, hkl]
    exact g2

theorem Stk.start {w w0 : World} {t : Tm} {cs : List Value} (hb : Below w.heap.size w w0) (hl : Lies w 0 t cs) :
    Stk w [(t, cs)] (.slice (some ⟨w0.heap.size, 0, none⟩) 1 1) (w0.alloc (.cells cs.toArray 35)) := by
  refine ⟨hb.alloc hb.size _, ?_, fun p hp => by rw [List.mem_singleton] at hp; subst hp; exact hl⟩
  have := World.ownsRow_lit (base := w.heap.size) (e := 35) (size := 4) w0 cs.toArray 1 hb.size (by simp [maxLen]) (by simp [hl.length])
  simpa using this

/-- An append in the walk, by what its run comes to. -/
theorem wpList_append_run {P : Program} {w : World} {ops : Array Oper} {rest : List Oper} {o : Oper} {a : Act} {Q : Exit → Act → World → Prop} (hgd : o.guard = none) (s x : Operand) (t : TypeId)
    (ho : o.op = .call { callee := .builtin .append, args := #[s, x], argTypes := #[t, t] }) (v xv : Value) (hs : a.eval s = v) (hx : a.eval x = xv) (R : Value → World → Prop)
    (hrun : ∃ v' w', (Builtin.append_ #[t, t] o.type #[v, xv]).run P w = .ok v' w' ∧ R v' w') (h : ∀ v' w', R v' w' → wpList P ops Q rest (a.put o.dst v') w') : wpList P ops Q (o :: rest) a w :=
  wpList_plain hgd fun K hK => by
    obtain ⟨v', w', hr, h2⟩ := hrun
    unfold Oper.wp execOp
    simp only [ho, resolve, invoke, builtin, Sem.run_bind, Sem.run_pure, Result.andThen_ok, List.map_toArray, List.map_cons, List.map_nil, hs, hx, hr]
    exact hK _ _ (h v' w' h2)

end Go.Proofs.YteminklafghgpaaGreatDoor
