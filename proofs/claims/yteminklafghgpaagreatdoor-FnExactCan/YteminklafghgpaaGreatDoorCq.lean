
/- A list of pairs of terms that impl.compare keeps for itself: the last one taken off, others put on one by one: what append does to it. -/
import Derived.Test.YteminklafghgpaaGreatDoorCp
import Derived.Test.YteminklafghgpaaGreatDoorStk
import Derived.Deep.AppendLies
namespace Go.Proofs.YteminklafghgpaaGreatDoor
open Go.RowKit Go.Deep

theorem info47 : (Tryz.prog.info? 167).map (fun i => (i.zero, i.size, i.bytes)) = some (some (.agg #[.int .i64 0, .int .i64 0, .string ByteArray.empty, .slice none 0 0, .int .i64 0, .int .i64 0, .string ByteArray.empty, .slice none 0 0]), 8, 112) := by kernel_rfl

/-- Two terms, each with its cells. -/
structure Pr where
  t : Tm
  cs : List Value
  t' : Tm
  cs' : List Value

def Pr.cells (p : Pr) : List Value := p.cs ++ p.cs'
def Pr.both (p : Pr) : Tm × Tm := (p.t, p.t')

structure Pr.Ok (w : World) (p : Pr) : Prop where
  l : Lies w 0 p.t p.cs
  l' : Lies w 0 p.t' p.cs'

theorem Pr.Ok.length {w : World} {p : Pr} (h : p.Ok w) : p.cells.length = 8 := by
  unfold Pr.cells
  rw [List.length_append, h.l.length, h.l'.length]

theorem Pr.Ok.one {w : World} {p : Pr} (h : p.Ok w) : ∀ u ∈ p.cells, u.oneCell' = true := fun u hu => by
  rcases List.mem_append.1 hu with hu | hu
  · exact h.l.one u hu
  · exact h.l'.one u hu

theorem prs_length {w : World} : ∀ {ps : List Pr}, (∀ p ∈ ps, p.Ok w) → (ps.flatMap Pr.cells).length = ps.length * 8
  | [], _ => rfl
  | p :: r, h => by
    have h1 := (h p (by simp)).length
    have h2 := prs_length (ps := r) fun q hq => h q (by simp [hq])
    simp only [List.flatMap_cons, List.length_append, List.length_cons, h1, h2]
    omega

/-- The list that the call keeps. -/
structure Stq (w : World) (ps : List Pr) (v : Value) (wr : World) : Prop where
  below : Below w.heap.size w wr
  own : wr.ownsRow w.heap.size 167 8 v ps.length (ps.flatMap Pr.cells)
  lies : ∀ p ∈ ps, p.Ok w

theorem Stq.shape {w wr : World} {ps : List Pr} {v : Value} (h : Stq w ps v wr) : ∃ a c, v = .slice a ps.length c ∧ ps.length ≤ c ∧ c ≤ maxLen := by
  rcases h.own.2 with ⟨h1, h2⟩ | ⟨g, cap, cur, h1, _, _, h2, h3, _⟩
  · exact ⟨none, 0, by rw [h2]; exact h1, by omega, by simp⟩
  · exact ⟨_, _, h1, h2, h3⟩

theorem Stq.top {w wr : World} {us : List Pr} {p : Pr} {v : Value} (h : Stq w (us ++ [p]) v wr) :
    ∃ g c, v = .slice (some ⟨g, 0, none⟩) (us.length + 1) c ∧ us.length + 1 ≤ c ∧ c ≤ maxLen ∧ (∀ j u, p.cells[j]? = some u → wr.cell? ⟨g, us.length * 8 + j, none⟩ = some u) ∧ Stq w us (.slice (some ⟨g, 0, none⟩) us.length c) wr := by
  have ho := h.own
  rcases ho.2 with ⟨h1, h2⟩ | ⟨g, cap, cur, h1, _, _, h2, h3, _⟩
  · simp at h2
  · simp only [List.length_append, List.length_cons, List.length_nil, Nat.zero_add] at h1 h2
    have hus := prs_length (ps := us) (w := w) fun q hq => h.lies q (by simp [hq])
    refine ⟨g, cap, h1, h2, h3, fun j u hj => ?_, h.below, ?_, fun q hq => h.lies q (by simp [hq])⟩
    · have hj8 : j < 8 := by
        have := (h.lies p (by simp)).length
        have := (List.getElem?_eq_some_iff.1 hj).1
        omega
      have hcells := ho.cells (g := g) (by rw [h1]; rfl) (us.length * 8 + j) u (by
        simp only [List.flatMap_append, List.flatMap_cons, List.flatMap_nil, List.append_nil]
        rw [List.getElem?_append_right (by omega), hus, show us.length * 8 + j - us.length * 8 = j by omega]
        exact hj)
      rw [Addr.add_mid, Nat.zero_add] at hcells
      exact hcells
    · rw [h1] at ho
      simp only [List.flatMap_append, List.flatMap_cons, List.flatMap_nil, List.append_nil, List.length_append, List.length_cons, List.length_nil, Nat.zero_add] at ho
      exact ownsRow_pop (n := us.length) hus ho

/-- A pair is put on, out of a block of its own. -/
theorem Stq.push {w wr : World} {us : List Pr} {v : Value} (h : Stq w us v wr) {p : Pr} (hp : p.Ok w) {w0 : World} {b : Nat} (hb : Below wr.heap.size wr w0) (hr : w0.rangeAt b 0 p.cells) (hn : us.length + 1 ≤ 4194304) (ty : TypeId) :
    ∃ v' w', (Builtin.append_ #[168, 168] ty #[v, .slice (some ⟨b, 0, none⟩) 1 1]).run Tryz.prog w0 = .ok v' w' ∧ Stq w (us ++ [p]) v' w' ∧ w0.grownBy w' v.ownBlock ∧ (v'.ownBlock = v.ownBlock ∨ v'.ownBlock = some w0.heap.size) := by
  obtain ⟨i, hi, hzz⟩ := Option.map_eq_some_iff.1 info47
  simp only [Prod.mk.injEq] at hzz
  obtain ⟨hz, hs, hby⟩ := hzz
  have ho : w0.ownsRow w.heap.size 167 8 v us.length (us.flatMap Pr.cells) :=
    h.own.kept (w' := w0) (row := none) ⟨hb.os, hb.tape, hb.output, hb.size, fun k hk _ => hb.block k hk⟩ (by cases v.ownBlock <;> simp)
  have hbw : Below w.heap.size w w0 := h.below.trans (hb.mono h.below.size)
  obtain ⟨g, cap, w', g1, g2, g3, g4, _⟩ := run_append_lies (P := Tryz.prog) w0 168 ty w.heap.size 167 i _ 8 112 Tryz.underlying168 hi hz hs hby rfl (by omega) v us.length _ ho ⟨b, 0, none⟩ 1 1 p.cells
    (by rw [hp.length]) (fun j u hj => by rw [Addr.add_mid]; exact hr j u hj) hp.one (by omega) (by unfold maxLen; omega) (by omega) hbw.size _ rfl
  refine ⟨_, w', g1, ⟨hbw.grown g3 hbw.size (fun k hk => (ho.lt k hk).1), ?_, fun q hq => ?_⟩, g3, ?_⟩
  · rw [List.length_append, List.flatMap_append]
    simpa using g2
  · rcases List.mem_append.1 hq with hq | hq
    · exact h.lies q hq
    · rw [List.mem_singleton] at hq
      subst hq
      exact hp
  · rcases g4 with g4 | g4
    · exact .inl (by rw [g4]; rfl)
    · exact .inr (by rw [← g4]; rfl)

theorem Stq.start {w w0 : World} {p : Pr} (hb : Below w.heap.size w w0) (hp : p.Ok w) :
    Stq w [p] (.slice (some ⟨w0.heap.size, 0, none⟩) 1 1) (w0.alloc (.cells p.cells.toArray 167)) := by
  refine ⟨hb.alloc hb.size _, ?_, fun q hq => by rw [List.mem_singleton] at hq; subst hq; exact hp⟩
  have := World.ownsRow_lit (base := w.heap.size) (e := 167) (size := 8) w0 p.cells.toArray 1 hb.size (by simp [maxLen]) (by simp [hp.length])
  simpa using this

/-- The kids of two terms, one by one, with their cells. -/
theorem kid_prs {w : World} {a a' : Option Addr} : ∀ {i : Nat} {ks ks' : List Tm}, LiesAll w 0 a i ks → LiesAll w 0 a' i ks' → ks.length = ks'.length →
    ∃ prs : List Pr, prs.map Pr.t = ks ∧ prs.map Pr.t' = ks' ∧ (∀ q ∈ prs, q.Ok w) ∧ ∀ m (q : Pr), prs[m]? = some q → ∃ b o b' o', a = some ⟨b, o, none⟩ ∧ a' = some ⟨b', o', none⟩ ∧ w.rangeAt b (o + (i + m) * 4) q.cs ∧ w.rangeAt b' (o' + (i + m) * 4) q.cs'
  | i, [], [], _, _, _ => ⟨[], rfl, rfl, fun _ h => (by cases h), fun m q h => by simp at h⟩
  | i, [], _ :: _, _, _, h => by simp at h
  | i, _ :: _, [], _, _, h => by simp at h
  | i, t :: r, t' :: r', h, h', hlen => by
    simp only [LiesAll] at h h'
    obtain ⟨⟨b, o, cs, ha, _, hr, ht⟩, h2⟩ := h
    obtain ⟨⟨b', o', cs', ha', _, hr', ht'⟩, h2'⟩ := h'
    obtain ⟨prs, k1, k2, k3, k4⟩ := kid_prs h2 h2' (by simpa using hlen)
    refine ⟨⟨t, cs, t', cs'⟩ :: prs, by simp [k1], by simp [k2], fun q hq => ?_, fun m q hm => ?_⟩
    · rcases List.mem_cons.1 hq with rfl | hq
      · exact ⟨ht, ht'⟩
      · exact k3 q hq
    · cases m with
      | zero =>
        simp only [List.getElem?_cons_zero, Option.some.injEq] at hm
        subst hm
        exact ⟨b, o, b', o', ha, ha', hr, hr'⟩
      | succ m =>
        obtain ⟨b1, o1, b1', o1', e1, e2, e3, e4⟩ := k4 m q (by simpa using hm)
        exact ⟨b1, o1, b1', o1', e1, e2, by rwa [show i + (m + 1) = i + 1 + m by omega], by rwa [show i + (m + 1) = i + 1 + m by omega]⟩

def sizesQ (ps : List Pr) : Nat := Tm.sizes (ps.map Pr.t)
theorem sizesQ_append (a b : List Pr) : sizesQ (a ++ b) = sizesQ a + sizesQ b := by simp [sizesQ, Tm.sizes_append]
theorem sizesQ_one (p : Pr) : sizesQ [p] = p.t.size := by simp [sizesQ, Tm.sizes]
theorem sizesQ_cons (p : Pr) (r : List Pr) : sizesQ (p :: r) = p.t.size + sizesQ r := by simp [sizesQ, Tm.sizes]
theorem sizesQ_reverse (ps : List Pr) : sizesQ ps.reverse = sizesQ ps := by
  induction ps with
  | nil => rfl
  | cons p r ih => rw [List.reverse_cons, sizesQ_append, ih, sizesQ_one, sizesQ_cons]; omega
theorem length_le_sizesQ (ps : List Pr) : ps.length ≤ sizesQ ps := by
  have := Tm.length_le_sizes (ps.map Pr.t)
  simpa [sizesQ] using this

/-- What the list comes to, from its end on. -/
def cmpQ (ps : List Pr) : Int := cmpPs (ps.map Pr.both).reverse
theorem cmpQ_nil : cmpQ [] = 0 := rfl
theorem cmpQ_snoc (us : List Pr) (p : Pr) : cmpQ (us ++ [p]) = orI (cmpT p.t p.t') (cmpQ us) := by
  simp [cmpQ, cmpPs, Pr.both]
theorem both_zip {prs : List Pr} {ks ks' : List Tm} (h : prs.map Pr.t = ks) (h' : prs.map Pr.t' = ks') : prs.map Pr.both = ks.zip ks' := by
  rw [← h, ← h']
  clear h h'
  induction prs with
  | nil => rfl
  | cons p r ih => simp [Pr.both, ih]
theorem cmpQ_kids (us prs : List Pr) {ks ks' : List Tm} (h : prs.map Pr.t = ks) (h' : prs.map Pr.t' = ks') : cmpQ (us ++ prs.reverse) = orI (cmpL ks ks') (cmpQ us) := by
  unfold cmpQ
  rw [List.map_append, List.map_reverse, both_zip h h', List.reverse_append, List.reverse_reverse, cmpPs_append, cmpPs_zip]

/-- In the middle of a round: the kids from k on are put on. -/
structure Mid (w : World) (us prs : List Pr) (k : Nat) (nb : Nat) (a : Option Addr) (cap : Nat) (a' : Option Addr) (cap' : Nat) (len : Nat) (v : Value) (wr : World) : Prop where
  stq : Stq w (us ++ (prs.drop k).reverse) v wr
  blk : v.ownBlock ≠ some nb
  lt : nb < wr.heap.size
  n3 : wr.cell? ⟨nb, 3, none⟩ = some (.slice a len cap)
  n7 : wr.cell? ⟨nb, 7, none⟩ = some (.slice a' len cap')

theorem Mid.step {w wr : World} {us prs : List Pr} {m nb : Nat} {a a' : Option Addr} {cap cap' len : Nat} {v : Value} (h : Mid w us prs (m + 1) nb a cap a' cap' len v wr) {q : Pr} (hq : prs[m]? = some q) (hok : q.Ok w)
    (hn : us.length + prs.length ≤ 4194304) {w0 : World} {b : Nat} (hb : Below wr.heap.size wr w0) (hr : w0.rangeAt b 0 q.cells) (ty : TypeId) :
    ∃ v' w', (Builtin.append_ #[168, 168] ty #[v, .slice (some ⟨b, 0, none⟩) 1 1]).run Tryz.prog w0 = .ok v' w' ∧ Mid w us prs m nb a cap a' cap' len v' w' := by
  have hml : m < prs.length := (List.getElem?_eq_some_iff.1 hq).1
  have hd : prs.drop m = q :: prs.drop (m + 1) := by
    rw [← List.getElem_cons_drop hml]
    congr 1
    rw [List.getElem?_eq_getElem hml] at hq
    cases hq
    rfl
  obtain ⟨v', w', g1, g2, g3, g4⟩ := h.stq.push hok hb hr (by simp only [List.length_append, List.length_reverse, List.length_drop]; omega) ty
  have hlt : nb < w0.heap.size := Nat.lt_of_lt_of_le h.lt hb.size
  have hc : ∀ o, w'.cell? ⟨nb, o, none⟩ = wr.cell? ⟨nb, o, none⟩ := fun o =>
    (World.cell?_of_block (w := w0) (a := ⟨nb, o, none⟩) (g3.block nb hlt (fun e => h.blk e.symm))).trans (hb.cell (p := ⟨nb, o, none⟩) h.lt)
  refine ⟨v', w', g1, ?_, ?_, Nat.lt_of_lt_of_le hlt g3.size, (hc 3).trans h.n3, (hc 7).trans h.n7⟩
  · rw [hd, List.reverse_cons, ← List.append_assoc]
    exact g2
  · rcases g4 with g4 | g4
    · rw [g4]; exact h.blk
    · rw [g4]
      intro e
      simp only [Option.some.injEq] at e
      omega

/-- At a step of a region that draws its order: an append, by what its run comes to. -/
theorem step_append_run {P : Program} {w : World} {ops : Array Oper} {o : Oper} {a : Act} {K : Act → World → Prop} {Q : Exit → Act → World → Prop} {E : Prop} (hgd : o.guard = none) (s x : Operand) (t : TypeId)
    (ho : o.op = .call { callee := .builtin .append, args := #[s, x], argTypes := #[t, t] }) (v xv : Value) (hs : a.eval s = v) (hx : a.eval x = xv) (R : Value → World → Prop)
    (hrun : ∃ v' w', (Builtin.append_ #[t, t] o.type #[v, xv]).run P w = .ok v' w' ∧ R v' w') (h : ∀ v' w', R v' w' → K (a.put o.dst v') w') :
    if Region.wanted o (yielded ops a.tmps) = true then Oper.wp P o a w K Q else E := by
  have hw : Region.wanted o (yielded ops a.tmps) = true := by simp [Region.wanted, hgd]
  rw [if_pos hw]
  obtain ⟨v', w', hr, h2⟩ := hrun
  unfold Oper.wp execOp
  simp only [ho, resolve, invoke, builtin, Sem.run_bind, Sem.run_pure, Result.andThen_ok, List.map_toArray, List.map_cons, List.map_nil, hs, hx, hr]
  exact h v' w' h2

end Go.Proofs.YteminklafghgpaaGreatDoor
