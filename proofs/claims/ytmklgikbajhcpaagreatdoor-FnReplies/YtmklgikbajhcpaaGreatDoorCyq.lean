/- A term in the middle of its copy: cells of its own, whose kids are either copied already or still where they lay; what is still to be done is a list of places. What holds in the middle of impl.copyTerm: the term half copied, the row of places that are still to be done, the box of the result; one round's steps as lemmas. -/
import Derived.Test.YtmklgikbajhcpaaGreatDoorTp
namespace Go.Proofs.YtmklgikbajhcpaaGreatDoor
open Go.RowKit Go.Deep

/-- A place that is still to be done: where it lies, and which term it is. -/
abbrev Hole := Nat × Nat × Tm
def hv (h : Hole) : Value := .pointer (some ⟨h.1, h.2.1, none⟩)

mutual
/-- The term's cells lie at b, o; its kids are copied (in the blocks fp), but for the places hs, whose kids lie in w0. -/
def OwnP (w w0 : World) : Tm → Nat → Nat → List Nat → List Hole → Prop
  | .node op n s ks, b, o, fp, hs => ∃ a cap, w.rangeAt b o (tmCells op n s a ks.length cap) ∧ (s.size ≤ maxLen ∧ ks.length ≤ cap ∧ cap ≤ maxLen) ∧ ((Lit.int .i64 op).wf = true ∧ (Lit.int .i64 n).wf = true) ∧
      ((fp = [] ∧ hs = [(b, o, .node op n s ks)] ∧ LiesAll w0 0 a 0 ks) ∨ (ks = [] ∧ fp = [] ∧ hs = [] ∧ a = none ∧ cap = 0) ∨
        ∃ b' C f, a = some ⟨b', 0, none⟩ ∧ ks ≠ [] ∧ fp = b' :: f ∧ w.heap[b']? = some (.cells C 29 (0, 0)) ∧ OwnPs w w0 ks b' 0 f hs)
def OwnPs (w w0 : World) : List Tm → Nat → Nat → List Nat → List Hole → Prop
  | [], _, _, fp, hs => fp = [] ∧ hs = []
  | t :: r, b, i, fp, hs => ∃ f1 f2 h1 h2, fp = f1 ++ f2 ∧ hs = h1 ++ h2 ∧ OwnP w w0 t b (i * 4) f1 h1 ∧ OwnPs w w0 r b (i + 1) f2 h2
end

mutual
theorem OwnP.done {w w0 : World} : ∀ (t : Tm) (b o : Nat) (fp : List Nat), OwnP w w0 t b o fp [] → ∃ cs, w.rangeAt b o cs ∧ Own w t cs fp
  | .node op n s ks, b, o, fp, h => by
    simp only [OwnP] at h
    obtain ⟨a, cap, h1, h2, h3, h4⟩ := h
    refine ⟨_, h1, ?_⟩
    simp only [Own]
    refine ⟨a, cap, rfl, h2, h3, ?_⟩
    rcases h4 with ⟨_, hx, _⟩ | ⟨hk, hf, _⟩ | ⟨b', C, f, ha, _, rfl, hb, hk⟩
    · cases hx
    · exact Or.inl ⟨hk, hf⟩
    · exact Or.inr ⟨b', C, f, ha, rfl, hb, OwnPs.done ks b' 0 f hk⟩
theorem OwnPs.done {w w0 : World} : ∀ (ks : List Tm) (b i : Nat) (fp : List Nat), OwnPs w w0 ks b i fp [] → OwnAll w b i ks fp
  | [], b, i, fp, h => by
    simp only [OwnPs] at h
    simp only [OwnAll]
    exact h.1
  | t :: r, b, i, fp, h => by
    simp only [OwnPs] at h
    obtain ⟨f1, f2, h1, h2, rfl, hh, ht, hr⟩ := h
    obtain ⟨rfl, rfl⟩ := List.append_eq_nil_iff.1 hh.symm
    simp only [OwnAll]
    obtain ⟨cs, hc, ho⟩ := OwnP.done t b (i * 4) f1 ht
    exact ⟨cs, f1, f2, rfl, hc, ho, OwnPs.done r b (i + 1) f2 hr⟩
end

/-- A term with no kids that is done: its row is nil. -/
theorem OwnP.leaf {w w0 : World} {op n : Int} {s : ByteArray} {b o : Nat} {fp : List Nat} (h : OwnP w w0 (.node op n s []) b o fp []) : w.rangeAt b o (tmCells op n s none 0 0) := by
  simp only [OwnP] at h
  obtain ⟨a, cap, h1, h2, h3, h4⟩ := h
  rcases h4 with ⟨_, hx, _⟩ | ⟨_, _, _, rfl, rfl⟩ | ⟨b', C, f, ha, hnn, _⟩
  · cases hx
  · exact h1
  · exact absurd rfl hnn

mutual
theorem OwnP.ty {w w0 : World} : ∀ (t : Tm) (b o : Nat) (fp : List Nat) (hs : List Hole), OwnP w w0 t b o fp hs → ∀ y ∈ fp, ∃ C, w.heap[y]? = some (.cells C 29 (0, 0))
  | .node op n s ks, b, o, fp, hs, h, y, hy => by
    simp only [OwnP] at h
    obtain ⟨a, cap, h1, h2, h3, h4⟩ := h
    rcases h4 with ⟨rfl, _⟩ | ⟨_, rfl, _⟩ | ⟨b', C, f, ha, _, rfl, hb, hk⟩
    · cases hy
    · cases hy
    · rcases List.mem_cons.1 hy with rfl | hy
      · exact ⟨C, hb⟩
      · exact OwnPs.ty ks b' 0 f hs hk y hy
theorem OwnPs.ty {w w0 : World} : ∀ (ks : List Tm) (b i : Nat) (fp : List Nat) (hs : List Hole), OwnPs w w0 ks b i fp hs → ∀ y ∈ fp, ∃ C, w.heap[y]? = some (.cells C 29 (0, 0))
  | [], b, i, fp, hs, h, y, hy => by
    simp only [OwnPs] at h
    rw [h.1] at hy
    cases hy
  | t :: r, b, i, fp, hs, h, y, hy => by
    simp only [OwnPs] at h
    obtain ⟨f1, f2, h1, h2, rfl, rfl, ht, hr⟩ := h
    rcases List.mem_append.1 hy with hy | hy
    · exact OwnP.ty t b (i * 4) f1 h1 ht y hy
    · exact OwnPs.ty r b (i + 1) f2 h2 hr y hy
end

theorem OwnP.lt {w w0 : World} {t : Tm} {b o : Nat} {fp : List Nat} {hs : List Hole} (h : OwnP w w0 t b o fp hs) : ∀ y ∈ fp, y < w.heap.size := fun y hy => by
  obtain ⟨C, hC⟩ := OwnP.ty t b o fp hs h y hy
  exact lt_of_heap hC
theorem OwnPs.lt {w w0 : World} {ks : List Tm} {b i : Nat} {fp : List Nat} {hs : List Hole} (h : OwnPs w w0 ks b i fp hs) : ∀ y ∈ fp, y < w.heap.size := fun y hy => by
  obtain ⟨C, hC⟩ := OwnPs.ty ks b i fp hs h y hy
  exact lt_of_heap hC

mutual
theorem OwnP.place {w w0 : World} : ∀ (t : Tm) (b o : Nat) (fp : List Nat) (hs : List Hole), OwnP w w0 t b o fp hs → ∀ h ∈ hs, (h.1 = b ∧ h.2.1 = o) ∨ h.1 ∈ fp
  | .node op n s ks, b, o, fp, hs, h, x, hx => by
    simp only [OwnP] at h
    obtain ⟨a, cap, h1, h2, h3, h4⟩ := h
    rcases h4 with ⟨rfl, rfl, _⟩ | ⟨_, _, rfl, _⟩ | ⟨b', C, f, ha, _, rfl, hb, hk⟩
    · rw [List.mem_singleton] at hx
      subst hx
      exact Or.inl ⟨rfl, rfl⟩
    · cases hx
    · rcases OwnPs.place ks b' 0 f hs hk x hx with ⟨h5, _⟩ | h5
      · exact Or.inr (by rw [h5]; simp)
      · exact Or.inr (by simp [h5])
theorem OwnPs.place {w w0 : World} : ∀ (ks : List Tm) (b i : Nat) (fp : List Nat) (hs : List Hole), OwnPs w w0 ks b i fp hs → ∀ h ∈ hs, (h.1 = b ∧ ∃ j, i ≤ j ∧ h.2.1 = j * 4) ∨ h.1 ∈ fp
  | [], b, i, fp, hs, h, x, hx => by
    simp only [OwnPs] at h
    rw [h.2] at hx
    cases hx
  | t :: r, b, i, fp, hs, h, x, hx => by
    simp only [OwnPs] at h
    obtain ⟨f1, f2, h1, h2, rfl, rfl, ht, hr⟩ := h
    rcases List.mem_append.1 hx with hx | hx
    · rcases OwnP.place t b (i * 4) f1 h1 ht x hx with ⟨h5, h6⟩ | h5
      · exact Or.inl ⟨h5, i, Nat.le_refl _, h6⟩
      · exact Or.inr (by simp [h5])
    · rcases OwnPs.place r b (i + 1) f2 h2 hr x hx with ⟨h5, j, h6, h7⟩ | h5
      · exact Or.inl ⟨h5, j, by omega, h7⟩
      · exact Or.inr (by simp [h5])
end

mutual
theorem OwnP.keep {w w' w0 : World} : ∀ (t : Tm) (b o : Nat) (fp : List Nat) (hs : List Hole), OwnP w w0 t b o fp hs → (∀ j, j < 4 → w'.cell? ⟨b, o + j, none⟩ = w.cell? ⟨b, o + j, none⟩) → (∀ y ∈ fp, w'.heap[y]? = w.heap[y]?) → OwnP w' w0 t b o fp hs
  | .node op n s ks, b, o, fp, hs, h, hc, hf => by
    simp only [OwnP] at h ⊢
    obtain ⟨a, cap, h1, h2, h3, h4⟩ := h
    refine ⟨a, cap, fun j v hj => ?_, h2, h3, ?_⟩
    · have hj4 : j < 4 := by have := (List.getElem?_eq_some_iff.1 hj).1; simpa [tmCells] using this
      rw [hc j hj4]
      exact h1 j v hj
    · rcases h4 with h4 | h4 | ⟨b', C, f, ha, hnn, rfl, hb, hk⟩
      · exact Or.inl h4
      · exact Or.inr (Or.inl h4)
      · exact Or.inr (Or.inr ⟨b', C, f, ha, hnn, rfl, (hf b' (by simp)).trans hb, OwnPs.keep ks b' 0 f hs hk (fun j _ => World.cell?_of_block (hf b' (by simp))) fun y hy => hf y (by simp [hy])⟩)
theorem OwnPs.keep {w w' w0 : World} : ∀ (ks : List Tm) (b i : Nat) (fp : List Nat) (hs : List Hole), OwnPs w w0 ks b i fp hs → (∀ j, i * 4 ≤ j → w'.cell? ⟨b, j, none⟩ = w.cell? ⟨b, j, none⟩) → (∀ y ∈ fp, w'.heap[y]? = w.heap[y]?) → OwnPs w' w0 ks b i fp hs
  | [], b, i, fp, hs, h, _, _ => by
    simp only [OwnPs] at h ⊢
    exact h
  | t :: r, b, i, fp, hs, h, hc, hf => by
    simp only [OwnPs] at h ⊢
    obtain ⟨f1, f2, h1, h2, rfl, rfl, ht, hr⟩ := h
    exact ⟨f1, f2, h1, h2, rfl, rfl, OwnP.keep t b (i * 4) f1 h1 ht (fun j _ => hc _ (by omega)) (fun y hy => hf y (by simp [hy])), OwnPs.keep r b (i + 1) f2 h2 hr (fun j hj => hc j (by omega)) fun y hy => hf y (by simp [hy])⟩
end

/-- Only the four cells of one place may have changed, and what is new. -/
structure Chg1 (hb ho : Nat) (w w' : World) : Prop where
  block : ∀ k, k < w.heap.size → k ≠ hb → w'.heap[k]? = w.heap[k]?
  cell : ∀ o, (o < ho ∨ ho + 4 ≤ o) → w'.cell? ⟨hb, o, none⟩ = w.cell? ⟨hb, o, none⟩
  row : ∀ C, w.heap[hb]? = some (.cells C 29 (0, 0)) → ∃ C', w'.heap[hb]? = some (.cells C' 29 (0, 0))

theorem Chg1.other {hb ho : Nat} {w w' : World} (h : Chg1 hb ho w w') {k : Nat} (hk : k < w.heap.size) (hn : k ≠ hb) (o : Nat) : w'.cell? ⟨k, o, none⟩ = w.cell? ⟨k, o, none⟩ := World.cell?_of_block (h.block k hk hn)

theorem OwnPs.part {w w' w0 : World} {hb ho : Nat} (hc : Chg1 hb ho w w') : ∀ (ks : List Tm) (b i : Nat) (fp : List Nat) (hs : List Hole), OwnPs w w0 ks b i fp hs → b < w.heap.size → (hb = b → ∀ j, i * 4 ≤ j → j < (i + ks.length) * 4 → j < ho ∨ ho + 4 ≤ j) → hb ∉ fp → OwnPs w' w0 ks b i fp hs
  | [], b, i, fp, hs, h, _, _, _ => by
    simp only [OwnPs] at h ⊢
    exact h
  | t :: r, b, i, fp, hs, h, hlt, hj, hf => by
    simp only [OwnPs] at h ⊢
    have hlt0 := fun y hy => OwnPs.lt (ks := t :: r) (b := b) (i := i) (fp := fp) (hs := hs) (by simp only [OwnPs]; exact h) y hy
    obtain ⟨f1, f2, h1, h2, rfl, rfl, ht, hr⟩ := h
    refine ⟨f1, f2, h1, h2, rfl, rfl, OwnP.keep t b (i * 4) f1 h1 ht (fun j hj4 => ?_) (fun y hy => hc.block y (hlt0 y (by simp [hy])) fun e => hf (by rw [← e]; simp [hy])), OwnPs.part hc r b (i + 1) f2 h2 hr hlt (fun e j h5 h6 => hj e j (by omega) (by simp only [List.length_cons]; omega)) fun hx => hf (by simp [hx])⟩
    by_cases e : hb = b
    · subst e
      exact hc.cell _ (hj rfl _ (by omega) (by simp only [List.length_cons]; omega))
    · exact hc.other hlt (fun e' => e e'.symm) _

mutual
/-- The last place is done: what it has become takes its place. -/
theorem OwnP.put {w w' w0 : World} {hb ho : Nat} {x : Tm} {f' : List Nat} {hs' : List Hole} (hc : Chg1 hb ho w w') (hx : OwnP w' w0 x hb ho f' hs') (hn' : f'.Nodup) (hg' : ∀ y ∈ f', w.heap.size ≤ y) :
    ∀ (t : Tm) (b o : Nat) (fp : List Nat) (H : List Hole), OwnP w w0 t b o fp (H ++ [(hb, ho, x)]) → fp.Nodup → b ∉ fp → b < w.heap.size →
      ∃ fp', OwnP w' w0 t b o fp' (H ++ hs') ∧ fp'.Nodup ∧ ∀ y ∈ fp', y ∈ fp ∨ y ∈ f'
  | .node op n s ks, b, o, fp, H, h, hnd, hbf, hlt => by
    have hpl := OwnP.place _ b o fp _ h (hb, ho, x) (by simp)
    simp only [OwnP] at h
    obtain ⟨a, cap, h1, h2, h3, h4⟩ := h
    rcases h4 with ⟨rfl, hh, _⟩ | ⟨_, _, hh, _⟩ | ⟨b', C, f, rfl, hnn, rfl, hb', hk⟩
    · obtain ⟨rfl, e⟩ : H = [] ∧ (hb, ho, x) = (b, o, Tm.node op n s ks) := by
        cases H with
        | nil => simpa using hh
        | cons y r => exfalso; have := congrArg List.length hh; simp at this
      simp only [Prod.mk.injEq] at e
      obtain ⟨rfl, rfl, rfl⟩ := e
      exact ⟨f', by simpa using hx, hn', fun y hy => Or.inr hy⟩
    · exact absurd hh (by simp)
    · have hne : b ≠ hb := by
        intro e
        subst e
        rcases hpl with ⟨_, _⟩ | h5
        · have h6 := OwnPs.place ks b' 0 f _ hk (b, ho, x) (by simp)
          rcases h6 with ⟨h7, _⟩ | h7
          · exact hbf (by rw [show b = b' from h7]; simp)
          · exact hbf (by simp [show b ∈ f from h7])
        · exact hbf h5
      rw [List.nodup_cons] at hnd
      have hltb : b' < w.heap.size := lt_of_heap hb'
      obtain ⟨f2, k1, k2, k3⟩ := OwnPs.put hc hx hn' hg' ks b' 0 f H hk hnd.2 hnd.1 hltb
      have hb2 : ∃ C', w'.heap[b']? = some (.cells C' 29 (0, 0)) := by
        by_cases e : b' = hb
        · subst e; exact hc.row C hb'
        · exact ⟨C, (hc.block b' hltb e).trans hb'⟩
      obtain ⟨C', hC'⟩ := hb2
      refine ⟨b' :: f2, ?_, List.nodup_cons.2 ⟨fun h5 => ?_, k2⟩, fun y hy => ?_⟩
      · simp only [OwnP]
        refine ⟨some ⟨b', 0, none⟩, cap, fun j v hj => ?_, h2, h3, Or.inr (Or.inr ⟨b', C', f2, rfl, hnn, rfl, hC', k1⟩)⟩
        rw [hc.other hlt hne]
        exact h1 j v hj
      · rcases k3 b' h5 with h6 | h6
        · exact hnd.1 h6
        · have := hg' b' h6; omega
      · rcases List.mem_cons.1 hy with rfl | hy
        · exact Or.inl (by simp)
        · rcases k3 y hy with h6 | h6
          · exact Or.inl (by simp [h6])
          · exact Or.inr h6
theorem OwnPs.put {w w' w0 : World} {hb ho : Nat} {x : Tm} {f' : List Nat} {hs' : List Hole} (hc : Chg1 hb ho w w') (hx : OwnP w' w0 x hb ho f' hs') (hn' : f'.Nodup) (hg' : ∀ y ∈ f', w.heap.size ≤ y) :
    ∀ (ks : List Tm) (b i : Nat) (fp : List Nat) (H : List Hole), OwnPs w w0 ks b i fp (H ++ [(hb, ho, x)]) → fp.Nodup → b ∉ fp → b < w.heap.size →
      ∃ fp', OwnPs w' w0 ks b i fp' (H ++ hs') ∧ fp'.Nodup ∧ ∀ y ∈ fp', y ∈ fp ∨ y ∈ f'
  | [], b, i, fp, H, h, _, _, _ => by
    simp only [OwnPs] at h
    exact absurd h.2 (by simp)
  | t :: r, b, i, fp, H, h, hnd, hbf, hlt => by
    simp only [OwnPs] at h
    obtain ⟨f1, f2, h1, h2, rfl, hh, ht, hr⟩ := h
    obtain ⟨nd1, nd2, nd3⟩ := List.nodup_append.1 hnd
    rcases List.eq_nil_or_concat h2 with rfl | ⟨H2, y, rfl⟩
    · rw [List.append_nil] at hh
      subst hh
      obtain ⟨g1, k1, k2, k3⟩ := OwnP.put hc hx hn' hg' t b (i * 4) f1 H ht nd1 (fun hy => hbf (by simp [hy])) hlt
      have hpl := OwnP.place t b (i * 4) f1 _ ht (hb, ho, x) (by simp)
      have hr' : OwnPs w' w0 r b (i + 1) f2 [] := by
        refine OwnPs.part hc r b (i + 1) f2 [] hr hlt (fun e j hj _ => ?_) fun hy => ?_
        · rcases hpl with ⟨_, h6⟩ | h6
          · have : ho = i * 4 := h6
            omega
          · exact absurd (show b ∈ f1 ++ f2 by rw [← e]; simp [show hb ∈ f1 from h6]) hbf
        · rcases hpl with ⟨h6, _⟩ | h6
          · exact hbf (by rw [← show hb = b from h6]; simp [hy])
          · exact nd3 hb h6 hb hy rfl
      refine ⟨g1 ++ f2, ?_, List.nodup_append.2 ⟨k2, nd2, fun y hy z hz e => ?_⟩, fun y hy => ?_⟩
      · simp only [OwnPs]
        exact ⟨g1, f2, H ++ hs', [], rfl, by simp, k1, hr'⟩
      · subst e
        rcases k3 y hy with h6 | h6
        · exact nd3 y h6 y hz rfl
        · have := hg' y h6; have := OwnPs.lt hr y hz; omega
      · rcases List.mem_append.1 hy with hy | hy
        · rcases k3 y hy with h6 | h6
          · exact Or.inl (by simp [h6])
          · exact Or.inr h6
        · exact Or.inl (by simp [hy])
    · rw [List.concat_eq_append, ← List.append_assoc] at hh
      obtain ⟨rfl, e⟩ := List.append_inj' hh rfl
      simp only [List.cons.injEq, and_true] at e
      subst e
      rw [List.concat_eq_append] at hr
      obtain ⟨g2, k1, k2, k3⟩ := OwnPs.put hc hx hn' hg' r b (i + 1) f2 H2 hr nd2 (fun hy => hbf (by simp [hy])) hlt
      have hpl := OwnPs.place r b (i + 1) f2 _ hr (hb, ho, x) (by simp)
      have hbf1 : hb ∉ f1 := fun hy => by
        rcases hpl with ⟨h6, _⟩ | h6
        · exact hbf (by rw [← show hb = b from h6]; simp [hy])
        · exact nd3 hb hy hb h6 rfl
      have ht' : OwnP w' w0 t b (i * 4) f1 h1 := by
        refine OwnP.keep t b (i * 4) f1 h1 ht (fun j hj4 => ?_) fun y hy => hc.block y (OwnP.lt ht y hy) fun e => hbf1 (e ▸ hy)
        by_cases e : b = hb
        · subst e
          rcases hpl with ⟨_, q, h6, h7⟩ | h6
          · have : ho = q * 4 := h7
            exact hc.cell _ (by omega)
          · exact absurd (show b ∈ f1 ++ f2 by simp [show b ∈ f2 from h6]) hbf
        · exact hc.other hlt e _
      refine ⟨f1 ++ g2, ?_, List.nodup_append.2 ⟨nd1, k2, fun y hy z hz e => ?_⟩, fun y hy => ?_⟩
      · simp only [OwnPs]
        exact ⟨f1, g2, h1, H2 ++ hs', rfl, by simp, ht', k1⟩
      · subst e
        rcases k3 y hz with h6 | h6
        · exact nd3 y hy y h6 rfl
        · have := hg' y h6; have := OwnP.lt ht y hy; omega
      · rcases List.mem_append.1 hy with hy | hy
        · exact Or.inl (by simp [hy])
        · rcases k3 y hy with h6 | h6
          · exact Or.inl (by simp [h6])
          · exact Or.inr h6
end

/-- The places of kids in a block. -/
def kidsH (b : Nat) : Nat → List Tm → List Hole
  | _, [] => []
  | i, t :: r => (b, i * 4, t) :: kidsH b (i + 1) r

theorem kidsH_length (b : Nat) : ∀ (i : Nat) (ks : List Tm), (kidsH b i ks).length = ks.length
  | _, [] => rfl
  | i, t :: r => by simp only [kidsH, List.length_cons, kidsH_length b (i + 1) r]

theorem kidsH_get (b : Nat) : ∀ (i : Nat) (ks : List Tm) (k : Nat) (h : k < ks.length), (kidsH b i ks)[k]? = some (b, (i + k) * 4, ks[k])
  | i, t :: r, 0, _ => by simp [kidsH]
  | i, t :: r, k + 1, h => by
    simp only [kidsH, List.getElem?_cons_succ, List.getElem_cons_succ]
    rw [kidsH_get b (i + 1) r k (by simpa using h), show i + 1 + k = i + (k + 1) by omega]

/-- How much is left to be done. -/
def hsz : List Hole → Nat
  | [] => 0
  | h :: r => h.2.2.size + hsz r
theorem hsz_append (a b : List Hole) : hsz (a ++ b) = hsz a + hsz b := by
  induction a with
  | nil => simp [hsz]
  | cons x r ih => simp only [List.cons_append, hsz, ih]; omega
theorem hsz_kids (b : Nat) : ∀ (i : Nat) (ks : List Tm), hsz (kidsH b i ks) = Tm.sizes ks
  | _, [] => rfl
  | i, t :: r => by simp only [kidsH, hsz, Tm.sizes, hsz_kids b (i + 1) r]

theorem OwnPs.fresh {w w0 : World} {b : Nat} : ∀ {i : Nat} {kp : List (Tm × List Value)}, (∀ p ∈ kp, Lies w0 0 p.1 p.2) → w.rangeAt b (i * 4) (kp.flatMap (·.2)) → OwnPs w w0 (kp.map (·.1)) b i [] (kidsH b i (kp.map (·.1)))
  | i, [], _, _ => by simp [OwnPs, kidsH]
  | i, p :: r, h, hr => by
    have hl := h p (by simp)
    have h4 := hl.length
    simp only [List.map_cons, OwnPs, kidsH]
    refine ⟨[], [], [(b, i * 4, p.1)], kidsH b (i + 1) (r.map (·.1)), rfl, by simp, ?_, OwnPs.fresh (fun q hq => h q (by simp [hq])) fun j v hj => ?_⟩
    · obtain ⟨t, cs⟩ := p
      cases t with
      | node op n s ks =>
        simp only [Lies] at hl
        obtain ⟨a, cap, rfl, k1, k2, k3⟩ := hl
        simp only [OwnP]
        refine ⟨a, cap, fun j v hj => ?_, k1, k2, Or.inl ⟨by trivial, by trivial, k3⟩⟩
        refine hr j v ?_
        simp only [List.flatMap_cons]
        rw [List.getElem?_append_left (List.getElem?_eq_some_iff.1 hj).1]
        exact hj
    · have := hr (4 + j) v (by
        simp only [List.flatMap_cons]
        rw [List.getElem?_append_right (by omega), show 4 + j - p.2.length = j by omega]
        exact hj)
      rw [show (i + 1) * 4 + j = i * 4 + (4 + j) by omega]
      exact this

/-- In the middle of the copy: H is all that is still to be done, R what of it stands in the row v. -/
structure CyS (w : World) (t : Tm) (H R : List Hole) (v : Value) (wr : World) : Prop where
  below : Below w.heap.size w wr
  root : ∃ fp, OwnP wr w t w.heap.size 0 fp H ∧ fp.Nodup ∧ ∀ y ∈ fp, w.heap.size + 2 ≤ y
  rty : ∃ C, wr.heap[w.heap.size]? = some (.cells C 29 (0, 0))
  res : wr.heap[w.heap.size + 1]? = some (.cells #[.int .i64 0, .int .i64 0, .string ByteArray.empty, .slice none 0 0] 29 (0, 0))
  row : wr.ownsRow (w.heap.size + 2) 148 1 v R.length (R.map hv)

theorem map_hv_length (R : List Hole) : (R.map hv).length = R.length := by simp

theorem CyS.carry {w wr wr2 : World} {t : Tm} {H R : List Hole} {v : Value} (h : CyS w t H R v wr) (hb : Below wr.heap.size wr wr2) : CyS w t H R v wr2 := by
  obtain ⟨fp, h1, h2, h3⟩ := h.root
  obtain ⟨C, hC⟩ := h.rty
  refine ⟨h.below.trans (hb.mono h.below.size), ⟨fp, ?_, h2, h3⟩, ⟨C, (hb.block _ (lt_of_heap hC)).trans hC⟩, (hb.block _ (lt_of_heap h.res)).trans h.res, ?_⟩
  · exact OwnP.keep t _ 0 fp H h1 (fun j _ => hb.cell (p := ⟨_, _, none⟩) (lt_of_heap hC)) fun y hy => hb.block y (h1.lt y hy)
  · exact h.row.kept (row := none) ⟨hb.os, hb.tape, hb.output, hb.size, fun k hk _ => hb.block k hk⟩ (by
      cases v.ownBlock with
      | none => exact Or.inl rfl
      | some g => exact Or.inr (by simp))

theorem CyS.shape {w wr : World} {t : Tm} {H R : List Hole} {v : Value} (h : CyS w t H R v wr) : ∃ a c, v = .slice a R.length c ∧ R.length ≤ c ∧ c ≤ maxLen := by
  rcases h.row.2 with ⟨h1, h2⟩ | ⟨g, cap, cur, h1, _, _, h2, h3, _⟩
  · exact ⟨none, 0, by rw [h2]; exact h1, by omega, by simp⟩
  · exact ⟨_, _, h1, h2, h3⟩

theorem CyS.start {w : World} {op n : Int} {s : ByteArray} {a : Option Addr} {cap : Nat} {ks : List Tm} (hl : Lies w 0 (.node op n s ks) (tmCells op n s a ks.length cap)) :
    CyS w (.node op n s ks) [(w.heap.size, 0, .node op n s ks)] [(w.heap.size, 0, .node op n s ks)] (.slice (some ⟨w.heap.size + 2, 0, none⟩) 1 1)
      (((w.alloc (.cells #[.int .i64 op, .int .i64 n, .string s, .slice a ks.length cap] 29)).alloc (.cells #[.int .i64 0, .int .i64 0, .string ByteArray.empty, .slice none 0 0] 29)).alloc (.cells #[.pointer (some ⟨w.heap.size, 0, none⟩)] 148)) := by
  have e1 : (w.alloc (.cells #[.int .i64 op, .int .i64 n, .string s, .slice a ks.length cap] 29)).heap[w.heap.size]? = some (.cells #[.int .i64 op, .int .i64 n, .string s, .slice a ks.length cap] 29 (0, 0)) := heap_alloc_new w _
  have hB : (((w.alloc (.cells #[.int .i64 op, .int .i64 n, .string s, .slice a ks.length cap] 29)).alloc (.cells #[.int .i64 0, .int .i64 0, .string ByteArray.empty, .slice none 0 0] 29)).alloc (.cells #[.pointer (some ⟨w.heap.size, 0, none⟩)] 148)).heap[w.heap.size]? = some (.cells #[.int .i64 op, .int .i64 n, .string s, .slice a ks.length cap] 29 (0, 0)) := by
    rw [heap_alloc_old _ _ (by simp; omega), heap_alloc_old _ _ (by simp)]
    exact e1
  refine ⟨(((Below.refl _ _).alloc (Nat.le_refl _) _).alloc (by simp) _).alloc (by simp; omega) _, ⟨[], ?_, by simp, by simp⟩, ⟨_, hB⟩, ?_, ?_⟩
  · simp only [Lies, tmCells] at hl
    obtain ⟨a', cap', he, h1, h2, h3⟩ := hl
    simp only [List.cons.injEq, Value.slice.injEq, true_and, and_true] at he
    obtain ⟨rfl, rfl⟩ := he
    simp only [OwnP]
    refine ⟨a, cap, fun j v hj => ?_, h1, h2, Or.inl ⟨by trivial, by trivial, h3⟩⟩
    rw [Nat.zero_add]
    have hj4 : j < 4 := by have := (List.getElem?_eq_some_iff.1 hj).1; simpa [tmCells] using this
    have hc := cell_of_row (j := j) hB (by simpa using hj4)
    rw [hc]
    rw [← hj]
    simp only [tmCells]
    rw [← List.getElem?_toArray]
    simp [hj4]
  · rw [heap_alloc_old _ _ (by simp)]
    have := heap_alloc_new (w.alloc (.cells #[.int .i64 op, .int .i64 n, .string s, .slice a ks.length cap] 29)) (.cells #[.int .i64 0, .int .i64 0, .string ByteArray.empty, .slice none 0 0] 29)
    rwa [heap_size_alloc] at this
  · have := World.ownsRow_lit (base := w.heap.size + 2) (e := 148) (size := 1) ((w.alloc (.cells #[.int .i64 op, .int .i64 n, .string s, .slice a ks.length cap] 29)).alloc (.cells #[.int .i64 0, .int .i64 0, .string ByteArray.empty, .slice none 0 0] 29)) #[.pointer (some ⟨w.heap.size, 0, none⟩)] 1 (by simp) (by simp [maxLen]) (by simp)
    simpa [hv] using this

/-- Where a place lies: in a block of terms. -/
theorem OwnP.block {w w0 : World} {t : Tm} {b o : Nat} {fp : List Nat} {hs : List Hole} (h : OwnP w w0 t b o fp hs) (hb : ∃ C, w.heap[b]? = some (.cells C 29 (0, 0))) : ∀ x ∈ hs, ∃ C, w.heap[x.1]? = some (.cells C 29 (0, 0)) := fun x hx => by
  rcases OwnP.place t b o fp hs h x hx with ⟨h1, _⟩ | h1
  · rw [h1]; exact hb
  · exact OwnP.ty t b o fp hs h x.1 h1

mutual
/-- The cells of a place that is still to be done. -/
theorem OwnP.hole {w w0 : World} : ∀ (t : Tm) (b o : Nat) (fp : List Nat) (hs : List Hole), OwnP w w0 t b o fp hs → ∀ (hb ho : Nat) (op n : Int) (s : ByteArray) (ks : List Tm), (hb, ho, Tm.node op n s ks) ∈ hs →
      ∃ a cap, w.rangeAt hb ho (tmCells op n s a ks.length cap) ∧ (s.size ≤ maxLen ∧ ks.length ≤ cap ∧ cap ≤ maxLen) ∧ ((Lit.int .i64 op).wf = true ∧ (Lit.int .i64 n).wf = true) ∧ LiesAll w0 0 a 0 ks
  | .node op' n' s' ks', b, o, fp, hs, h, hb, ho, op, n, s, ks, hx => by
    simp only [OwnP] at h
    obtain ⟨a, cap, h1, h2, h3, h4⟩ := h
    rcases h4 with ⟨_, rfl, h5⟩ | ⟨_, _, rfl, _⟩ | ⟨b', C, f, ha, _, rfl, hb', hk⟩
    · rw [List.mem_singleton] at hx
      simp only [Prod.mk.injEq, Tm.node.injEq] at hx
      obtain ⟨rfl, rfl, rfl, rfl, rfl, rfl⟩ := hx
      exact ⟨a, cap, h1, h2, h3, h5⟩
    · cases hx
    · exact OwnPs.hole ks' b' 0 f hs hk hb ho op n s ks hx
theorem OwnPs.hole {w w0 : World} : ∀ (ts : List Tm) (b i : Nat) (fp : List Nat) (hs : List Hole), OwnPs w w0 ts b i fp hs → ∀ (hb ho : Nat) (op n : Int) (s : ByteArray) (ks : List Tm), (hb, ho, Tm.node op n s ks) ∈ hs →
      ∃ a cap, w.rangeAt hb ho (tmCells op n s a ks.length cap) ∧ (s.size ≤ maxLen ∧ ks.length ≤ cap ∧ cap ≤ maxLen) ∧ ((Lit.int .i64 op).wf = true ∧ (Lit.int .i64 n).wf = true) ∧ LiesAll w0 0 a 0 ks
  | [], b, i, fp, hs, h, hb, ho, op, n, s, ks, hx => by
    simp only [OwnPs] at h
    rw [h.2] at hx
    cases hx
  | t :: r, b, i, fp, hs, h, hb, ho, op, n, s, ks, hx => by
    simp only [OwnPs] at h
    obtain ⟨f1, f2, h1, h2, rfl, rfl, ht, hr⟩ := h
    rcases List.mem_append.1 hx with hx | hx
    · exact OwnP.hole t b (i * 4) f1 h1 ht hb ho op n s ks hx
    · exact OwnPs.hole r b (i + 1) f2 h2 hr hb ho op n s ks hx
end

/-- The last place: its pointer stands at the row's end; its cells. -/
theorem CyS.top {w wr : World} {t : Tm} {H : List Hole} {hb ho : Nat} {op n : Int} {s : ByteArray} {ks : List Tm} {v : Value} (h : CyS w t (H ++ [(hb, ho, .node op n s ks)]) (H ++ [(hb, ho, .node op n s ks)]) v wr) :
    ∃ g c, v = .slice (some ⟨g, 0, none⟩) (H.length + 1) c ∧ H.length + 1 ≤ c ∧ c ≤ maxLen ∧ wr.cell? ⟨g, H.length, none⟩ = some (.pointer (some ⟨hb, ho, none⟩)) ∧
      CyS w t (H ++ [(hb, ho, .node op n s ks)]) H (.slice (some ⟨g, 0, none⟩) H.length c) wr := by
  have ho' := h.row
  rcases ho'.2 with ⟨h1, h2⟩ | ⟨g, cap, cur, h1, _, _, h2, h3, _⟩
  · simp at h2
  · simp only [List.length_append, List.length_cons, List.length_nil, Nat.zero_add] at h1 h2
    refine ⟨g, cap, h1, h2, h3, ?_, h.below, h.root, h.rty, h.res, ?_⟩
    · have hcells := ho'.cells (g := g) (by rw [h1]; rfl) H.length (.pointer (some ⟨hb, ho, none⟩)) (by simp [hv])
      rw [Addr.add_mid, Nat.zero_add] at hcells
      exact hcells
    · have := ho'
      simp only [List.map_append, List.map_cons, List.map_nil, List.length_append, List.length_cons, List.length_nil, Nat.zero_add] at this
      rw [h1] at this
      exact ownsRow_pop (n := H.length) (xs := H.map hv) (by simp) this

theorem CyS.cells {w wr : World} {t : Tm} {H R : List Hole} {hb ho : Nat} {op n : Int} {s : ByteArray} {ks : List Tm} {v : Value} (h : CyS w t (H ++ [(hb, ho, .node op n s ks)]) R v wr) :
    ∃ a cap C, wr.heap[hb]? = some (.cells C 29 (0, 0)) ∧ w.heap.size ≤ hb ∧ hb ≠ w.heap.size + 1 ∧ wr.rangeAt hb ho (tmCells op n s a ks.length cap) ∧ (s.size ≤ maxLen ∧ ks.length ≤ cap ∧ cap ≤ maxLen) ∧ ((Lit.int .i64 op).wf = true ∧ (Lit.int .i64 n).wf = true) ∧ LiesAll w 0 a 0 ks := by
  obtain ⟨fp, h1, h2, h3⟩ := h.root
  obtain ⟨C, hC⟩ := h1.block h.rty (hb, ho, .node op n s ks) (by simp)
  obtain ⟨a, cap, k1, k2, k3, k4⟩ := OwnP.hole t _ 0 fp _ h1 hb ho op n s ks (by simp)
  have hp := OwnP.place t _ 0 fp _ h1 (hb, ho, .node op n s ks) (by simp)
  refine ⟨a, cap, C, hC, ?_, ?_, k1, k2, k3, k4⟩
  · rcases hp with ⟨e, _⟩ | e
    · exact Nat.le_of_eq e.symm
    · have := h3 hb e; omega
  · rcases hp with ⟨e, _⟩ | e
    · have : hb = w.heap.size := e
      omega
    · have := h3 hb e; omega

theorem info113 : (Tryz.prog.info? 148).map (fun i => (i.zero, i.size, i.bytes)) = some (some (.pointer none), 1, 8) := by kernel_rfl
theorem und114 : Tryz.prog.underlying 149 = some (.slice 148) := by kernel_rfl
theorem und22 : Tryz.prog.underlying 27 = some (.slice 29) := by kernel_rfl
theorem info24y : (Tryz.prog.info? 29).map (fun i => (i.zero, i.size, i.bytes)) = some (some (.agg #[.int .i64 0, .int .i64 0, .string ByteArray.empty, .slice none 0 0]), 4, 56) := by kernel_rfl

/-- What a row of pointers' block is not: one of terms. -/
theorem row_apart {w : World} {B : Nat} {v : Value} {n : Nat} {xs : List Value} (h : w.ownsRow B 148 1 v n xs) {k : Nat} {C : Array Value} (hk : w.heap[k]? = some (.cells C 29 (0, 0))) : some k ≠ v.ownBlock := by
  rcases h.2 with ⟨rfl, _⟩ | ⟨g, cap, cur, rfl, _, hg, _⟩
  · simp [Value.ownBlock]
  · intro e
    simp only [Value.ownBlock, Option.some.injEq] at e
    subst e
    rw [hg] at hk
    simp at hk

/-- A pointer more in the row; all blocks of terms stay as they were. -/
theorem CyS.push {w wr : World} {t : Tm} {H R : List Hole} {v : Value} (h : CyS w t H R v wr) (x : Hole) (hn : R.length ≤ 4194304) (ty : TypeId) :
    ∃ v' w', (Builtin.append_ #[149, 149] ty #[v, .slice (some ⟨wr.heap.size, 0, none⟩) 1 1]).run Tryz.prog (wr.alloc (Obj.cells #[hv x] 148)) = .ok v' w' ∧ CyS w t H (R ++ [x]) v' w' ∧
      ∀ (k : Nat) (C : Array Value), wr.heap[k]? = some (.cells C 29 (0, 0)) → w'.heap[k]? = wr.heap[k]? := by
  have hb1 : Below wr.heap.size wr (wr.alloc (Obj.cells #[hv x] 148)) := (Below.refl _ _).alloc (Nat.le_refl _) _
  have h1 := h.carry hb1
  obtain ⟨i, hi, hzz⟩ := Option.map_eq_some_iff.1 info113
  simp only [Prod.mk.injEq] at hzz
  obtain ⟨hz, hs, hb⟩ := hzz
  have hcell : (wr.alloc (Obj.cells #[hv x] 148)).cell? ⟨wr.heap.size, 0, none⟩ = some (hv x) := cell_of_row (heap_alloc_new wr _) (by simp)
  obtain ⟨C0, hC0⟩ := h1.rty
  have hB : w.heap.size + 2 ≤ (wr.alloc (Obj.cells #[hv x] 148)).heap.size := by have := lt_of_heap h1.res; omega
  obtain ⟨v', w', g1, g2, g3, _⟩ := run_append_own_wide (P := Tryz.prog) (wr.alloc (Obj.cells #[hv x] 148)) (w.heap.size + 2) 149 ty 148 i _ 1 8 und114 hi hz hs hb rfl (by omega) v R.length (R.map hv) h1.row ⟨wr.heap.size, 0, none⟩ 1 1 [hv x] (by simp)
    (fun j u hj => by
      cases j with
      | zero => simp only [List.getElem?_cons_zero, Option.some.injEq] at hj; subst hj; rw [Addr.add_mid]; exact hcell
      | succ j => simp at hj)
    (fun u hu => by rw [List.mem_singleton] at hu; subst hu; rfl) (by unfold maxLen; omega) (by omega) hB
  have hkeep : ∀ (k : Nat) (C : Array Value), (wr.alloc (Obj.cells #[hv x] 148)).heap[k]? = some (.cells C 29 (0, 0)) → w'.heap[k]? = (wr.alloc (Obj.cells #[hv x] 148)).heap[k]? := fun k C hk => g3.block k (lt_of_heap hk) (row_apart h1.row hk)
  refine ⟨v', w', g1, ⟨?_, ?_, ?_, ?_, ?_⟩, fun k C hk => ?_⟩
  · exact h1.below.grown g3 h1.below.size fun k hk => by have := (h1.row.lt k hk).1; omega
  · obtain ⟨fp, k1, k2, k3⟩ := h1.root
    exact ⟨fp, OwnP.keep t _ 0 fp H k1 (fun j _ => World.cell?_of_block (hkeep _ C0 hC0)) (fun y hy => by obtain ⟨C, hC⟩ := OwnP.ty t _ 0 fp H k1 y hy; exact hkeep y C hC), k2, k3⟩
  · exact ⟨C0, (hkeep _ C0 hC0).trans hC0⟩
  · exact (hkeep _ _ h1.res).trans h1.res
  · simpa using g2
  · have h5 : (wr.alloc (Obj.cells #[hv x] 148)).heap[k]? = wr.heap[k]? := hb1.block k (lt_of_heap hk)
    rw [hkeep k C (h5.trans hk), h5]

/-- What is left when all is done: the term in blocks of its own. -/
theorem CyS.finish {w wr : World} {t : Tm} {v : Value} (h : CyS w t [] [] v wr) : ∃ cs fp, wr.rangeAt w.heap.size 0 cs ∧ Own wr t cs fp ∧ fp.Nodup ∧ (∀ y ∈ fp, w.heap.size + 2 ≤ y) ∧ ∀ op n s, t = .node op n s [] → wr.rangeAt w.heap.size 0 (tmCells op n s none 0 0) := by
  obtain ⟨fp, h1, h2, h3⟩ := h.root
  obtain ⟨cs, k1, k2⟩ := OwnP.done t _ 0 fp h1
  exact ⟨cs, fp, k1, k2, h2, h3, fun op n s e => by subst e; exact OwnP.leaf h1⟩

/-- The kids' cells in a new block. -/
theorem copy_kids {w wr : World} {a : Option Addr} {ks : List Tm} (cap : Nat) (hk : LiesAll w 0 a 0 ks) (hb : Below w.heap.size w wr) (hn : ks.length ≤ 4194304) (ty : TypeId) :
    ∃ v' w', (Builtin.append_ #[27, 27] ty #[.slice none 0 0, .slice a ks.length cap]).run Tryz.prog wr = .ok v' w' ∧ Below wr.heap.size wr w' ∧
      ∃ a' cap', v' = .slice a' ks.length cap' ∧ ks.length ≤ cap' ∧ cap' ≤ maxLen ∧ ((ks = [] ∧ a' = none ∧ cap' = 0) ∨ ∃ g C, a' = some ⟨g, 0, none⟩ ∧ ks ≠ [] ∧ wr.heap.size ≤ g ∧ w'.heap[g]? = some (.cells C 29 (0, 0)) ∧ OwnPs w' w ks g 0 [] (kidsH g 0 ks)) := by
  obtain ⟨kp, k1, k2, k3⟩ := hk.pairs
  have hkl : kp.length = ks.length := by rw [← k1]; simp
  obtain ⟨i, hi, hzz⟩ := Option.map_eq_some_iff.1 info24y
  simp only [Prod.mk.injEq] at hzz
  obtain ⟨hz, hs, hby⟩ := hzz
  by_cases hnil : ks = []
  · subst hnil
    have hsrc : Src Tryz.prog i.size 27 (.slice a ([] : List Tm).length cap) 0 [] wr := by
      cases a with
      | none => exact Src.ofNil wr und22 cap
      | some x => exact Src.ofSlice wr und22 x 0 cap [] (by simp) (fun j u hj => by simp at hj) (fun u hu => by cases hu)
    exact ⟨_, _, run_append_nothing wr 27 27 ty 29 i und22 hi _ _ _ (Nat.le_refl _) _ hsrc, Below.refl _ _, none, 0, by simp, by simp, by simp, Or.inl ⟨rfl, rfl, rfl⟩⟩
  · obtain ⟨b, o, rfl, hr⟩ := k3 hnil
    rw [Nat.zero_mul, Nat.add_zero] at hr
    have hr' : wr.rangeAt b o (kp.flatMap (·.2)) := rangeAt_below hr hb
    obtain ⟨v', w', g1, g2, g3, _⟩ := run_append_own_wide (P := Tryz.prog) wr wr.heap.size 27 ty 29 i _ 4 56 und22 hi hz hs hby rfl (by omega) _ 0 _ (World.ownsRow_nil wr wr.heap.size 29 4) ⟨b, o, none⟩ ks.length cap (kp.flatMap (·.2))
      (by rw [pairs_length k2, hkl]) (fun j u hj => by rw [Addr.add_mid]; exact hr' j u hj)
      (fun u hu => by
        obtain ⟨q, hq, hu⟩ := List.mem_flatMap.1 hu
        exact (k2 q hq).one u hu)
      (by unfold maxLen; omega) (by omega) (Nat.le_refl _)
    rw [Nat.zero_add, List.nil_append] at g2
    refine ⟨v', w', g1, (Below.refl _ _).grown g3 (Nat.le_refl _) (fun k hk => by simp [Value.ownBlock] at hk), ?_⟩
    rcases g2.2 with ⟨_, h2⟩ | ⟨g, cap', cur, h1, h2, h3, h4, h5, _⟩
    · exact absurd (List.length_eq_zero_iff.1 h2) hnil
    · refine ⟨some ⟨g, 0, none⟩, cap', h1, h4, h5, Or.inr ⟨g, cur, rfl, hnil, h2, h3, ?_⟩⟩
      have := OwnPs.fresh (w := w') (w0 := w) (b := g) (i := 0) (kp := kp) k2 (fun j u hj => by
        have := g2.cells (g := g) (by rw [h1]; rfl) j u hj
        rw [Addr.add_mid, Nat.zero_add] at this
        rw [Nat.zero_mul, Nat.zero_add]
        exact this)
      rwa [k1] at this

/-- A place is done: its kids lie in a new block, and are the next to be done. -/
theorem CyS.step {w wr : World} {t : Tm} {H R : List Hole} {hb ho : Nat} {op n : Int} {s : ByteArray} {ks : List Tm} {v : Value} {a : Option Addr} {cap : Nat} (h : CyS w t (H ++ [(hb, ho, .node op n s ks)]) R v wr)
    (hr : wr.rangeAt hb ho (tmCells op n s a ks.length cap)) (hk : LiesAll w 0 a 0 ks) (hn : ks.length ≤ 4194304) (ty : TypeId) :
    ∃ v' w2, (Builtin.append_ #[27, 27] ty #[.slice none 0 0, .slice a ks.length cap]).run Tryz.prog (wr.setCell ⟨hb, ho + 2, none⟩ (.string s)) = .ok v' w2 ∧
      ∃ a' cap' g, v' = .slice a' ks.length cap' ∧ ks.length ≤ cap' ∧ cap' ≤ maxLen ∧ (0 < ks.length → a' = some ⟨g, 0, none⟩) ∧ w2.frozen? ⟨hb, ho + 3, none⟩ = false ∧ (∃ u, w2.cell? ⟨hb, ho + 3, none⟩ = some u) ∧
      CyS w t (H ++ kidsH g 0 ks) R v (w2.setCell ⟨hb, ho + 3, none⟩ v') ∧ (w2.setCell ⟨hb, ho + 3, none⟩ v').cell? ⟨hb, ho + 3, none⟩ = some v' ∧ ∃ C, (w2.setCell ⟨hb, ho + 3, none⟩ v').heap[hb]? = some (.cells C 29 (0, 0)) := by
  obtain ⟨a0, cap0, C, hC, hge, hne1, hr0, hz0, hwf, _⟩ := h.cells
  have hlt : hb < wr.heap.size := lt_of_heap hC
  have hbset : Below w.heap.size w (wr.setCell ⟨hb, ho + 2, none⟩ (.string s)) := h.below.setCell hge _
  obtain ⟨v', w2, g1, g2, a', cap', rfl, hc1, hc2, hor⟩ := copy_kids (wr := wr.setCell ⟨hb, ho + 2, none⟩ (.string s)) cap hk hbset hn ty
  have hsz : (wr.setCell ⟨hb, ho + 2, none⟩ (.string s)).heap.size = wr.heap.size := by simp
  rw [hsz] at g2 hor
  have c0 : wr.cell? ⟨hb, ho, none⟩ = some (.int .i64 op) := hr 0 _ rfl
  have c1 : wr.cell? ⟨hb, ho + 1, none⟩ = some (.int .i64 n) := hr 1 _ rfl
  have c2 : wr.cell? ⟨hb, ho + 2, none⟩ = some (.string s) := hr 2 _ rfl
  have c3 : wr.cell? ⟨hb, ho + 3, none⟩ = some (.slice a ks.length cap) := hr 3 _ rfl
  have s2 : ∀ o', (wr.setCell ⟨hb, ho + 2, none⟩ (.string s)).cell? ⟨hb, o', none⟩ = wr.cell? ⟨hb, o', none⟩ := fun o' => by
    by_cases e : o' = ho + 2
    · subst e
      rw [World.cell?_setCell_same _ _ _ c2, c2]
    · exact World.cell?_setCell_other _ _ _ _ (fun e' => e (by cases e'; rfl))
  have hcw2 : ∀ o', w2.cell? ⟨hb, o', none⟩ = wr.cell? ⟨hb, o', none⟩ := fun o' => by
    rw [g2.cell (p := ⟨hb, o', none⟩) hlt, s2]
  have hCs : (wr.setCell ⟨hb, ho + 2, none⟩ (.string s)).heap[hb]? = some (.cells (C.setIfInBounds (ho + 2) (.string s)) 29 (0, 0)) := heap_setCell_same wr hb (ho + 2) C 29 _ hC
  have hC2 : w2.heap[hb]? = some (.cells (C.setIfInBounds (ho + 2) (.string s)) 29 (0, 0)) := (g2.block hb hlt).trans hCs
  have hC3 := heap_setCell_same w2 hb (ho + 3) _ 29 (.slice a' ks.length cap') hC2
  have hc3' : (w2.setCell ⟨hb, ho + 3, none⟩ (.slice a' ks.length cap')).cell? ⟨hb, ho + 3, none⟩ = some (.slice a' ks.length cap') := World.cell?_setCell_same _ _ _ ((hcw2 (ho + 3)).trans c3)
  have hoth : ∀ k, k < wr.heap.size → k ≠ hb → (w2.setCell ⟨hb, ho + 3, none⟩ (.slice a' ks.length cap')).heap[k]? = wr.heap[k]? := fun k hk hne => by
    rw [Below.heap_setCell _ _ _ _ (by exact hne), g2.block k hk, Below.heap_setCell _ _ _ _ (by exact hne)]
  have hch : Chg1 hb ho wr (w2.setCell ⟨hb, ho + 3, none⟩ (.slice a' ks.length cap')) := by
    refine ⟨hoth, fun o' ho' => ?_, fun C' _ => ⟨_, hC3⟩⟩
    rw [World.cell?_setCell_other _ _ _ _ (fun e' => by cases e'; omega), hcw2]
  have hrange : (w2.setCell ⟨hb, ho + 3, none⟩ (.slice a' ks.length cap')).rangeAt hb ho (tmCells op n s a' ks.length cap') := fun j u hj => by
    match j, hj with
    | 0, hj =>
      simp only [tmCells, List.getElem?_cons_zero, Option.some.injEq] at hj
      subst hj
      rw [World.cell?_setCell_other _ _ _ _ (fun e' => by simp at e'), hcw2]
      exact c0
    | 1, hj =>
      simp only [tmCells, List.getElem?_cons_succ, List.getElem?_cons_zero, Option.some.injEq] at hj
      subst hj
      rw [World.cell?_setCell_other _ _ _ _ (fun e' => by simp at e'), hcw2]
      exact c1
    | 2, hj =>
      simp only [tmCells, List.getElem?_cons_succ, List.getElem?_cons_zero, Option.some.injEq] at hj
      subst hj
      rw [World.cell?_setCell_other _ _ _ _ (fun e' => by simp at e'), hcw2]
      exact c2
    | 3, hj =>
      simp only [tmCells, List.getElem?_cons_succ, List.getElem?_cons_zero, Option.some.injEq] at hj
      subst hj
      exact hc3'
    | j + 4, hj => simp [tmCells] at hj
  have hbel : Below w.heap.size w (w2.setCell ⟨hb, ho + 3, none⟩ (.slice a' ks.length cap')) := ((hbset.trans (by rw [← hsz] at g2; exact g2.mono hbset.size))).setCell hge _
  obtain ⟨fp, k1, k2, k3⟩ := h.root
  obtain ⟨C0, hC0⟩ := h.rty
  have hx : ∃ g f', OwnP (w2.setCell ⟨hb, ho + 3, none⟩ (.slice a' ks.length cap')) w (.node op n s ks) hb ho f' (kidsH g 0 ks) ∧ f'.Nodup ∧ (∀ y ∈ f', wr.heap.size ≤ y) ∧ (0 < ks.length → a' = some ⟨g, 0, none⟩) := by
    rcases hor with ⟨rfl, rfl, rfl⟩ | ⟨g, C', rfl, hnn, hg, hC', hps⟩
    · refine ⟨0, [], ?_, by simp, by simp, by simp⟩
      simp only [OwnP, kidsH]
      exact ⟨none, 0, hrange, ⟨hz0.1, hc1, hc2⟩, hwf, Or.inr (Or.inl ⟨by trivial, by trivial, by trivial, by trivial, by trivial⟩)⟩
    · have hgne : g ≠ hb := by omega
      have hgk : (w2.setCell ⟨hb, ho + 3, none⟩ (.slice (some ⟨g, 0, none⟩) ks.length cap')).heap[g]? = w2.heap[g]? := Below.heap_setCell _ _ _ _ (by exact hgne)
      refine ⟨g, [g], ?_, by simp, by simpa using hg, fun _ => rfl⟩
      simp only [OwnP]
      refine ⟨some ⟨g, 0, none⟩, cap', hrange, ⟨hz0.1, hc1, hc2⟩, hwf, Or.inr (Or.inr ⟨g, C', [], rfl, hnn, rfl, hgk.trans hC', ?_⟩)⟩
      exact OwnPs.keep ks g 0 [] _ hps (fun j _ => World.cell?_of_block hgk) fun y hy => by cases hy
  obtain ⟨g, f', hx1, hx2, hx3, hx4⟩ := hx
  have hltB : w.heap.size < wr.heap.size := lt_of_heap hC0
  obtain ⟨fp', m1, m2, m3⟩ := OwnP.put hch hx1 hx2 hx3 t _ 0 fp H k1 k2 (fun hy => by have := k3 _ hy; omega) hltB
  refine ⟨_, w2, g1, a', cap', g, rfl, hc1, hc2, hx4, frozen_of_row hC2, ⟨_, (hcw2 (ho + 3)).trans c3⟩, ⟨hbel, ⟨fp', m1, m2, fun y hy => ?_⟩, ?_, ?_, ?_⟩, hc3', ⟨_, hC3⟩⟩
  · rcases m3 y hy with h5 | h5
    · exact k3 y h5
    · have := hx3 y h5
      have := lt_of_heap h.res
      omega
  · by_cases e : w.heap.size = hb
    · rw [e]; exact ⟨_, hC3⟩
    · exact ⟨C0, (hoth _ hltB e).trans hC0⟩
  · exact (hoth _ (lt_of_heap h.res) (fun e => hne1 e.symm)).trans h.res
  · refine h.row.kept (row := some hb) ⟨hbel.os.trans h.below.os.symm, hbel.tape.trans h.below.tape.symm, hbel.output.trans h.below.output.symm, ?_, fun k hk hne => hoth k hk (fun e => hne (by rw [e]))⟩ (Or.inr fun e => row_apart h.row hC e.symm)
    have := g2.size
    rw [hsz] at this
    simp only [World.setCell, Array.size_modify]
    exact this

end Go.Proofs.YtmklgikbajhcpaaGreatDoor
