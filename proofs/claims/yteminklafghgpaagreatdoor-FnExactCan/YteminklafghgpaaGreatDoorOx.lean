
/- A list of terms in a slice of its own, each term in blocks of its own: what append makes of it. -/
import Derived.Test.YteminklafghgpaaGreatDoorOw
namespace Go.Proofs.YteminklafghgpaaGreatDoor
open Go.RowKit Go.Deep

/-- The kids of a term, in blocks of their own. -/
def KidsOwn (w : World) (a : Option Addr) (ks : List Tm) (fp : List Nat) : Prop :=
  (ks = [] ∧ fp = []) ∨ ∃ b C f, a = some ⟨b, 0, none⟩ ∧ fp = b :: f ∧ w.heap[b]? = some (.cells C 35 (0, 0)) ∧ OwnAll w b 0 ks f

theorem lt_of_heap {w : World} {b : Nat} {o : Obj} (h : w.heap[b]? = some o) : b < w.heap.size := (Array.getElem?_eq_some_iff.1 h).1

mutual
theorem Own.lt {w : World} : ∀ (t : Tm) (cs : List Value) (fp : List Nat), Own w t cs fp → ∀ x ∈ fp, x < w.heap.size
  | .node op n s ks, cs, fp, h, x, hx => by
    simp only [Own] at h
    obtain ⟨a, cap, h1, h2, h3, h4⟩ := h
    rcases h4 with ⟨_, rfl⟩ | ⟨b, C, f, ha, rfl, hb, hk⟩
    · cases hx
    · rcases List.mem_cons.1 hx with rfl | hx
      · exact lt_of_heap hb
      · exact OwnAll.lt b 0 ks f hk x hx
theorem OwnAll.lt {w : World} (b : Nat) : ∀ (i : Nat) (ks : List Tm) (fp : List Nat), OwnAll w b i ks fp → ∀ x ∈ fp, x < w.heap.size
  | i, [], fp, h, x, hx => by
    simp only [OwnAll] at h
    subst h
    cases hx
  | i, t :: r, fp, h, x, hx => by
    simp only [OwnAll] at h
    obtain ⟨cs, f1, f2, rfl, hr, ht, hk⟩ := h
    rcases List.mem_append.1 hx with hx | hx
    · exact Own.lt t cs f1 ht x hx
    · exact OwnAll.lt b (i + 1) r f2 hk x hx
end

theorem KidsOwn.lt {w : World} {a : Option Addr} {ks : List Tm} {fp : List Nat} (h : KidsOwn w a ks fp) : ∀ x ∈ fp, x < w.heap.size := by
  intro x hx
  rcases h with ⟨_, rfl⟩ | ⟨b, C, f, ha, rfl, hb, hk⟩
  · cases hx
  · rcases List.mem_cons.1 hx with rfl | hx
    · exact lt_of_heap hb
    · exact OwnAll.lt b 0 ks f hk x hx

theorem KidsOwn.keep {w w' : World} {a : Option Addr} {ks : List Tm} {fp : List Nat} (h : KidsOwn w a ks fp) (hf : ∀ b ∈ fp, w'.heap[b]? = w.heap[b]?) : KidsOwn w' a ks fp := by
  rcases h with h | ⟨b, C, f, ha, rfl, hb, hk⟩
  · exact Or.inl h
  · exact Or.inr ⟨b, C, f, ha, rfl, (hf b (by simp)).trans hb, OwnAll.keep b 0 ks f hk (fun j _ _ => World.cell?_of_block (hf b (by simp))) fun x hx => hf x (by simp [hx])⟩

theorem Own.kids {w : World} {op n : Int} {s : ByteArray} {ks : List Tm} {cs : List Value} {fp : List Nat} (h : Own w (.node op n s ks) cs fp) :
    ∃ a cap, cs = tmCells op n s a ks.length cap ∧ (s.size ≤ maxLen ∧ ks.length ≤ cap ∧ cap ≤ maxLen) ∧ ((Lit.int .i64 op).wf = true ∧ (Lit.int .i64 n).wf = true) ∧ KidsOwn w a ks fp := by
  simp only [Own] at h
  exact h

theorem Own.of_kids {w : World} {op n : Int} {s : ByteArray} {ks : List Tm} {a : Option Addr} {cap : Nat} {fp : List Nat} (h1 : s.size ≤ maxLen ∧ ks.length ≤ cap ∧ cap ≤ maxLen)
    (h2 : (Lit.int .i64 op).wf = true ∧ (Lit.int .i64 n).wf = true) (hk : KidsOwn w a ks fp) : Own w (.node op n s ks) (tmCells op n s a ks.length cap) fp := by
  simp only [Own]
  exact ⟨a, cap, rfl, h1, h2, hk⟩

theorem KidsOwn.lies {w : World} {a : Option Addr} {ks : List Tm} {fp : List Nat} (h : KidsOwn w a ks fp) : LiesAll w 0 a 0 ks := by
  rcases h with ⟨rfl, _⟩ | ⟨b, C, f, rfl, rfl, hb, hk⟩
  · simp [LiesAll]
  · exact OwnAll.lies b (Nat.zero_le _) 0 ks f hk fun x _ => Nat.zero_le x

/-- Terms in a row, each with its cells and blocks. -/
def OwnRow (w : World) : List Tm → List Value → List Nat → Prop
  | [], xs, f => xs = [] ∧ f = []
  | t :: r, xs, f => ∃ cs xs' f1 f2, xs = cs ++ xs' ∧ f = f1 ++ f2 ∧ Own w t cs f1 ∧ OwnRow w r xs' f2

theorem OwnRow.length {w : World} : ∀ {ks : List Tm} {xs : List Value} {f : List Nat}, OwnRow w ks xs f → xs.length = ks.length * 4
  | [], xs, f, h => by simp only [OwnRow] at h; simp [h.1]
  | t :: r, xs, f, h => by
    simp only [OwnRow] at h
    obtain ⟨cs, xs', f1, f2, rfl, rfl, ht, hr⟩ := h
    have := ht.length
    have := hr.length
    simp only [List.length_append, List.length_cons]
    omega

theorem OwnRow.lt {w : World} : ∀ {ks : List Tm} {xs : List Value} {f : List Nat}, OwnRow w ks xs f → ∀ x ∈ f, x < w.heap.size
  | [], xs, f, h, x, hx => by simp only [OwnRow] at h; rw [h.2] at hx; cases hx
  | t :: r, xs, f, h, x, hx => by
    simp only [OwnRow] at h
    obtain ⟨cs, xs', f1, f2, rfl, rfl, ht, hr⟩ := h
    rcases List.mem_append.1 hx with hx | hx
    · exact Own.lt t cs f1 ht x hx
    · exact hr.lt x hx

theorem OwnRow.keep {w w' : World} : ∀ {ks : List Tm} {xs : List Value} {f : List Nat}, OwnRow w ks xs f → (∀ b ∈ f, w'.heap[b]? = w.heap[b]?) → OwnRow w' ks xs f
  | [], xs, f, h, _ => by simp only [OwnRow] at h ⊢; exact h
  | t :: r, xs, f, h, hf => by
    simp only [OwnRow] at h ⊢
    obtain ⟨cs, xs', f1, f2, rfl, rfl, ht, hr⟩ := h
    exact ⟨cs, xs', f1, f2, rfl, rfl, Own.keep t cs f1 ht fun b hb => hf b (by simp [hb]), hr.keep fun b hb => hf b (by simp [hb])⟩

theorem OwnRow.snoc {w : World} {t : Tm} {cs : List Value} {f1 : List Nat} (ht : Own w t cs f1) : ∀ {ks : List Tm} {xs : List Value} {f : List Nat}, OwnRow w ks xs f → OwnRow w (ks ++ [t]) (xs ++ cs) (f ++ f1)
  | [], xs, f, h => by
    simp only [OwnRow] at h
    obtain ⟨rfl, rfl⟩ := h
    simp only [List.nil_append, OwnRow]
    exact ⟨cs, [], f1, [], by simp, by simp, ht, rfl, rfl⟩
  | x :: r, xs, f, h => by
    simp only [OwnRow] at h
    obtain ⟨c1, xs', g1, g2, rfl, rfl, hx, hr⟩ := h
    simp only [List.cons_append, OwnRow]
    exact ⟨c1, xs' ++ cs, g1, g2 ++ f1, by simp, by simp, hx, OwnRow.snoc ht hr⟩

theorem OwnRow.all {w : World} {b : Nat} : ∀ {i : Nat} {ks : List Tm} {xs : List Value} {f : List Nat}, OwnRow w ks xs f → w.rangeAt b (i * 4) xs → OwnAll w b i ks f
  | i, [], xs, f, h, _ => by simp only [OwnRow] at h; simp only [OwnAll]; exact h.2
  | i, t :: r, xs, f, h, hc => by
    simp only [OwnRow] at h
    obtain ⟨cs, xs', f1, f2, rfl, rfl, ht, hr⟩ := h
    have h4 := ht.length
    simp only [OwnAll]
    refine ⟨cs, f1, f2, rfl, fun j v hj => hc j v ?_, ht, OwnRow.all hr fun j v hj => ?_⟩
    · rw [List.getElem?_append_left (List.getElem?_eq_some_iff.1 hj).1]
      exact hj
    · have := hc (4 + j) v (by rw [List.getElem?_append_right (by omega), show 4 + j - cs.length = j by omega]; exact hj)
      rw [show (i + 1) * 4 + j = i * 4 + (4 + j) by omega]
      exact this

/-- The list as it grows: its slice is the value v, its terms lie in the blocks f, all from B on. -/
structure Grow (B : Nat) (ks : List Tm) (v : Value) (f : List Nat) (w : World) : Prop where
  row : ∃ xs, w.ownsRow B 35 4 v ks.length xs ∧ OwnRow w ks xs f
  nd : f.Nodup
  ge : ∀ x ∈ f, B ≤ x
  out : ∀ g, v.ownBlock = some g → g ∉ f

theorem Grow.start (B : Nat) (w : World) : Grow B [] (.slice none 0 0) [] w :=
  ⟨⟨[], World.ownsRow_nil w B 35 4, by simp [OwnRow]⟩, by simp, by simp, by simp⟩

theorem Grow.lt {B : Nat} {ks : List Tm} {v : Value} {f : List Nat} {w : World} (h : Grow B ks v f w) : ∀ x ∈ f, x < w.heap.size := by
  obtain ⟨xs, _, hr⟩ := h.row
  exact hr.lt

theorem Grow.own_lt {B : Nat} {ks : List Tm} {v : Value} {f : List Nat} {w : World} (h : Grow B ks v f w) : ∀ g, v.ownBlock = some g → B ≤ g ∧ g < w.heap.size := by
  obtain ⟨xs, ho, _⟩ := h.row
  exact ho.lt

theorem Grow.carry {B : Nat} {ks : List Tm} {v : Value} {f : List Nat} {w w' : World} (h : Grow B ks v f w) (hb : Below w.heap.size w w') : Grow B ks v f w' := by
  obtain ⟨xs, ho, hr⟩ := h.row
  refine ⟨⟨xs, ?_, hr.keep fun b hbf => hb.block b (hr.lt b hbf)⟩, h.nd, h.ge, h.out⟩
  exact ho.kept (row := none) ⟨hb.os, hb.tape, hb.output, hb.size, fun k hk _ => hb.block k hk⟩ (by
    cases v.ownBlock with
    | none => exact Or.inl rfl
    | some g => exact Or.inr (by simp))

theorem Grow.shape {B : Nat} {ks : List Tm} {v : Value} {f : List Nat} {w : World} (h : Grow B ks v f w) : ∃ a c, v = .slice a ks.length c ∧ ks.length ≤ c ∧ c ≤ maxLen := by
  obtain ⟨xs, ho, _⟩ := h.row
  rcases ho.2 with ⟨h1, h2⟩ | ⟨g, cap, cur, h1, _, _, h2, h3, _⟩
  · exact ⟨none, 0, by rw [h2]; exact h1, by omega, by simp⟩
  · exact ⟨_, _, h1, h2, h3⟩

theorem Grow.kids {B : Nat} {ks : List Tm} {v : Value} {f : List Nat} {w : World} (h : Grow B ks v f w) :
    ∃ a cap fp, v = .slice a ks.length cap ∧ ks.length ≤ cap ∧ cap ≤ maxLen ∧ KidsOwn w a ks fp ∧ fp.Nodup ∧ ∀ x ∈ fp, B ≤ x := by
  obtain ⟨xs, ho, hr⟩ := h.row
  rcases ho.2 with ⟨h1, h2⟩ | ⟨g, cap, cur, h1, h2, h3, h4, h5, h6, h7⟩
  · have : ks = [] := List.length_eq_zero_iff.1 h2
    subst this
    exact ⟨none, 0, [], by simpa using h1, by simp, by simp, Or.inl ⟨rfl, rfl⟩, by simp, by simp⟩
  · refine ⟨some ⟨g, 0, none⟩, cap, g :: f, h1, h4, h5, Or.inr ⟨g, cur, f, rfl, rfl, h3, hr.all ?_⟩, List.nodup_cons.2 ⟨h.out g (by rw [h1]; rfl), h.nd⟩, fun x hx => ?_⟩
    · intro j u hj
      have := ho.cells (g := g) (by rw [h1]; rfl) j u hj
      rw [Addr.add_mid] at this
      simpa using this
    · rcases List.mem_cons.1 hx with rfl | hx
      · exact h2
      · exact h.ge x hx

theorem info24 : (Tryz.prog.info? 35).map (fun i => (i.zero, i.size, i.bytes)) = some (some (.agg #[.int .i64 0, .int .i64 0, .string ByteArray.empty, .slice none 0 0]), 4, 56) := by kernel_rfl

theorem Own.one {w : World} {t : Tm} {cs : List Value} {fp : List Nat} (h : Own w t cs fp) : ∀ u ∈ cs, u.oneCell' = true :=
  (Own.lies (L := 0) t cs fp h fun _ _ => Nat.zero_le _).one

/-- A term more. -/
theorem Grow.push {B : Nat} {ks : List Tm} {v : Value} {f : List Nat} {w : World} (h : Grow B ks v f w) {t : Tm} {cs : List Value} {f1 : List Nat} (ht : Own w t cs f1) (hnd : f1.Nodup) (hge : ∀ x ∈ f1, B ≤ x)
    (hd : ∀ x ∈ f1, x ∉ f) (hv : ∀ g, v.ownBlock = some g → g ∉ f1) {b o : Nat} (hr : w.rangeAt b o cs) (c : Nat) (hn : ks.length ≤ 4194304) (hB : B ≤ w.heap.size) (ty : TypeId) :
    ∃ v' w', (Builtin.append_ #[24, 24] ty #[v, .slice (some ⟨b, o, none⟩) 1 c]).run Tryz.prog w = .ok v' w' ∧ Grow B (ks ++ [t]) v' (f ++ f1) w' ∧ Below B w w' := by
  obtain ⟨xs, ho, hrow⟩ := h.row
  obtain ⟨i, hi, hzz⟩ := Option.map_eq_some_iff.1 info24
  simp only [Prod.mk.injEq] at hzz
  obtain ⟨hz, hs, hb⟩ := hzz
  have h4 := ht.length
  have hnews : ∀ j u, cs[j]? = some u → w.cell? ((⟨b, o, none⟩ : Addr).add j) = some u := fun j u hj => by rw [Addr.add_mid]; exact hr j u hj
  obtain ⟨v', w', g1, g2, g3, g4⟩ := run_append_own_wide (P := Tryz.prog) w B 24 ty 35 i _ 4 56 Tryz.underlying24 hi hz hs hb rfl (by omega) v ks.length xs ho ⟨b, o, none⟩ 1 c cs (by omega) hnews ht.one
    (by unfold maxLen; omega) (by omega) hB
  have hwhere : ∀ g, v'.ownBlock = some g → v.ownBlock = some g ∨ w.heap.size ≤ g := by
    intro g hg
    rcases ho.2 with ⟨rfl, hn0⟩ | ⟨g0, cap, cur, rfl, hbg, hg0, hnc, hcm, hcs, htake⟩
    · have hx : xs = [] := List.eq_nil_of_length_eq_zero (by rw [ho.1, hn0])
      subst hx
      obtain ⟨v2, w2, k1, k2, _⟩ := run_append_own_wide (P := Tryz.prog) w w.heap.size 24 ty 35 i _ 4 56 Tryz.underlying24 hi hz hs hb rfl (by omega) (.slice none 0 0) ks.length [] (by rw [hn0]; exact World.ownsRow_nil w _ 35 4) ⟨b, o, none⟩ 1 c cs (by omega) hnews ht.one
        (by unfold maxLen; omega) (by omega) (Nat.le_refl _)
      rw [g1] at k1
      injection k1 with k1 k1'
      subst k1
      exact Or.inr (k2.lt g hg).1
    · by_cases hroom : ks.length + 1 ≤ cap
      · have k1 := run_append_room (P := Tryz.prog) w 24 ty 35 i Tryz.underlying24 hi g0 ks.length cap cur hg0 ⟨b, o, none⟩ 1 c cs (by omega) hnews ht.one hroom (by rw [hs, hcs]; omega)
        rw [g1] at k1
        injection k1 with k1 k1'
        subst k1
        exact Or.inl hg
      · have holds : ∀ j u, xs[j]? = some u → w.cell? ((⟨g0, 0, none⟩ : Addr).add j) = some u := ho.cells (g := g0) rfl
        have k1 := run_append_grow (P := Tryz.prog) w 24 ty 35 i _ Tryz.underlying24 hi hz ⟨g0, 0, none⟩ ks.length cap xs (by rw [hs]; exact ho.1) holds ⟨b, o, none⟩ 1 c cs (by omega) hnews (by omega) (by omega) (by rw [hb]; exact growslice_fits_wide (by omega) (by omega))
        rw [g1] at k1
        injection k1 with k1 k1'
        subst k1
        simp only [Value.ownBlock, Option.some.injEq] at hg
        exact Or.inr (by omega)
  have hkeep : ∀ x, x < w.heap.size → (∀ g, v.ownBlock = some g → x ≠ g) → w'.heap[x]? = w.heap[x]? := fun x hx hne => g3.block x hx fun e => hne x e.symm rfl
  refine ⟨v', w', g1, ⟨⟨xs ++ cs, by simpa using g2, OwnRow.snoc (Own.keep t cs f1 ht fun x hx => hkeep x (Own.lt t cs f1 ht x hx) fun g hg e => hv g hg (e ▸ hx)) (hrow.keep fun x hx => hkeep x (hrow.lt x hx) fun g hg e => h.out g hg (e ▸ hx))⟩, ?_, ?_, ?_⟩, ?_⟩
  · exact List.nodup_append.2 ⟨h.nd, hnd, fun x hx y hy e => hd y hy (e ▸ hx)⟩
  · intro x hx
    rcases List.mem_append.1 hx with hx | hx
    · exact h.ge x hx
    · exact hge x hx
  · intro g hg hx
    rcases hwhere g hg with hg' | hg'
    · rcases List.mem_append.1 hx with hx | hx
      · exact h.out g hg' hx
      · exact hv g hg' hx
    · rcases List.mem_append.1 hx with hx | hx
      · have := hrow.lt g hx; omega
      · have := Own.lt t cs f1 ht g hx; omega
  · exact (Below.refl B w).grown g3 hB fun k hk => (ho.lt k hk).1

/-- The box of an argument, and behind it the box of a result. -/
theorem boxes2 {w W0 w2 : World} {op n : Int} {s : ByteArray} {a : Option Addr} {len cap : Nat}
    (hW : (w.alloc (.cells #[.int .i64 op, .int .i64 n, .string s, .slice a len cap] 35)).alloc (.cells #[.int .i64 0, .int .i64 0, .string ByteArray.empty, .slice none 0 0] 35) = W0) (hb : Below W0.heap.size W0 w2) :
    (w2.cell? ⟨w.heap.size, 0, none⟩ = some (.int .i64 op) ∧ w2.cell? ⟨w.heap.size, 1, none⟩ = some (.int .i64 n) ∧ w2.cell? ⟨w.heap.size, 2, none⟩ = some (.string s) ∧ w2.cell? ⟨w.heap.size, 3, none⟩ = some (.slice a len cap)) ∧
    (w2.cell? ⟨w.heap.size + 1, 0, none⟩ = some (.int .i64 0) ∧ w2.cell? ⟨w.heap.size + 1, 1, none⟩ = some (.int .i64 0) ∧ w2.cell? ⟨w.heap.size + 1, 2, none⟩ = some (.string ByteArray.empty) ∧ w2.cell? ⟨w.heap.size + 1, 3, none⟩ = some (.slice none 0 0)) ∧
    (w2.frozen? ⟨w.heap.size + 1, 0, none⟩ = false ∧ w2.frozen? ⟨w.heap.size + 1, 1, none⟩ = false ∧ w2.frozen? ⟨w.heap.size + 1, 2, none⟩ = false ∧ w2.frozen? ⟨w.heap.size + 1, 3, none⟩ = false) := by
  subst hW
  have h1 : w2.heap[w.heap.size + 1]? = some (.cells #[.int .i64 0, .int .i64 0, .string ByteArray.empty, .slice none 0 0] 35) := by
    rw [hb.block _ (by simp)]
    have := heap_alloc_new (w.alloc (.cells #[.int .i64 op, .int .i64 n, .string s, .slice a len cap] 35)) (.cells #[.int .i64 0, .int .i64 0, .string ByteArray.empty, .slice none 0 0] 35)
    rwa [heap_size_alloc] at this
  have h2 : w2.heap[w.heap.size]? = some (.cells #[.int .i64 op, .int .i64 n, .string s, .slice a len cap] 35) := by
    rw [hb.block _ (by simp; omega), heap_alloc_old _ _ (by simp)]
    exact heap_alloc_new w _
  exact ⟨⟨cell_of_row h2 (by simp), cell_of_row h2 (by simp), cell_of_row h2 (by simp), cell_of_row h2 (by simp)⟩, ⟨cell_of_row h1 (by simp), cell_of_row h1 (by simp), cell_of_row h1 (by simp), cell_of_row h1 (by simp)⟩, frozen_of_row h1, frozen_of_row h1, frozen_of_row h1, frozen_of_row h1⟩

end Go.Proofs.YteminklafghgpaaGreatDoor
