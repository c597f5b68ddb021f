
/- A term in the middle of its copy: cells of its own, whose kids are either copied already or still where they lay; what is still to be done is a list of places. -/
import Derived.Test.YteminklafghgpaaGreatDoorTp
namespace Go.Proofs.YteminklafghgpaaGreatDoor
open Go.RowKit Go.Deep

/-- A place that is still to be done: where it lies, and which term it is. -/
abbrev Hole := Nat × Nat × Tm
def hv (h : Hole) : Value := .pointer (some ⟨h.1, h.2.1, none⟩)

mutual
/-- The term's cells lie at b, o; its kids are copied (in the blocks fp), but for the places hs, whose kids lie in w0. -/
def OwnP (w w0 : World) : Tm → Nat → Nat → List Nat → List Hole → Prop
  | .node op n s ks, b, o, fp, hs => ∃ a cap, w.rangeAt b o (tmCells op n s a ks.length cap) ∧ (s.size ≤ maxLen ∧ ks.length ≤ cap ∧ cap ≤ maxLen) ∧ ((Lit.int .i64 op).wf = true ∧ (Lit.int .i64 n).wf = true) ∧
      ((fp = [] ∧ hs = [(b, o, .node op n s ks)] ∧ LiesAll w0 0 a 0 ks) ∨ (ks = [] ∧ fp = [] ∧ hs = [] ∧ a = none ∧ cap = 0) ∨
        ∃ b' C f, a = some ⟨b', 0, none⟩ ∧ ks ≠ [] ∧ fp = b' :: f ∧ w.heap[b']? = some (.cells C 35 (0, 0)) ∧ OwnPs w w0 ks b' 0 f hs)
def OwnPs (w w0 : World) : List Tm → Nat → Nat → List Nat → List Hole → Prop
  | [], _, _, fp, hs => fp = [] ∧ hs = []
  | t :: r, b, i, fp, hs => ∃ f1 f2 h1 h2, fp = f1 ++ f2 ∧ hs = h1 ++ h2 ∧ OwnP w w0 t b (i * 4) f1 h1 ∧ OwnPs w w0 r b (i + 1) f2 h2
end

mutual
theorem OwnP.done {w w0 : World} : ∀ (t : Tm) (b o : Nat) (fp : List Nat), OwnP w w0 t b o fp [] → ∃ cs, w.rangeAt b o cs ∧ Own w t cs fp
  | .node op n s ks, b, o, fp, h => by
    simp only [OwnP] at h
    obtain ⟨a, cap, h1, h2, h3, h4⟩ := h
    refine ⟨_, h1, ?_⟩
    simp only [Own]
    refine ⟨a, cap, rfl, h2, h3, ?_⟩
    rcases h4 with ⟨_, hx, _⟩ | ⟨hk, hf, _⟩ | ⟨b', C, f, ha, _, rfl, hb, hk⟩
    · cases hx
    · exact Or.inl ⟨hk, hf⟩
    · exact Or.inr ⟨b', C, f, ha, rfl, hb, OwnPs.done ks b' 0 f hk⟩
theorem OwnPs.done {w w0 : World} : ∀ (ks : List Tm) (b i : Nat) (fp : List Nat), OwnPs w w0 ks b i fp [] → OwnAll w b i ks fp
  | [], b, i, fp, h => by
    simp only [OwnPs] at h
    simp only [OwnAll]
    exact h.1
  | t :: r, b, i, fp, h => by
    simp only [OwnPs] at h
    obtain ⟨f1, f2, h1, h2, rfl, hh, ht, hr⟩ := h
    obtain ⟨rfl, rfl⟩ := List.append_eq_nil_iff.1 hh.symm
    simp only [OwnAll]
    obtain ⟨cs, hc, ho⟩ := OwnP.done t b (i * 4) f1 ht
    exact ⟨cs, f1, f2, rfl, hc, ho, OwnPs.done r b (i + 1) f2 hr⟩
end

/-- A term with no kids that is done: its row is nil. -/
theorem OwnP.leaf {w w0 : World} {op n : Int} {s : ByteArray} {b o : Nat} {fp : List Nat} (h : OwnP w w0 (.node op n s []) b o fp []) : w.rangeAt b o (tmCells op n s none 0 0) := by
  simp only [OwnP] at h
  obtain ⟨a, cap, h1, h2, h3, h4⟩ := h
  rcases h4 with ⟨_, hx, _⟩ | ⟨_, _, _, rfl, rfl⟩ | ⟨b', C, f, ha, hnn, _⟩
  · cases hx
  · exact h1
  · exact absurd rfl hnn

mutual
theorem OwnP.ty {w w0 : World} : ∀ (t : Tm) (b o : Nat) (fp : List Nat) (hs : List Hole), OwnP w w0 t b o fp hs → ∀ y ∈ fp, ∃ C, w.heap[y]? = some (.cells C 35 (0, 0))
  | .node op n s ks, b, o, fp, hs, h, y, hy => by
    simp only [OwnP] at h
    obtain ⟨a, cap, h1, h2, h3, h4⟩ := h
    rcases h4 with ⟨rfl, _⟩ | ⟨_, rfl, _⟩ | ⟨b', C, f, ha, _, rfl, hb, hk⟩
    · cases hy
    · cases hy
    · rcases List.mem_cons.1 hy with rfl | hy
      · exact ⟨C, hb⟩
      · exact OwnPs.ty ks b' 0 f hs hk y hy
theorem OwnPs.ty {w w0 : World} : ∀ (ks : List Tm) (b i : Nat) (fp : List Nat) (hs : List Hole), OwnPs w w0 ks b i fp hs → ∀ y ∈ fp, ∃ C, w.heap[y]? = some (.cells C 35 (0, 0))
  | [], b, i, fp, hs, h, y, hy => by
    simp only [OwnPs] at h
    rw [h.1] at hy
    cases hy
  | t :: r, b, i, fp, hs, h, y, hy => by
    simp only [OwnPs] at h
    obtain ⟨f1, f2, h1, h2, rfl, rfl, ht, hr⟩ := h
    rcases List.mem_append.1 hy with hy | hy
    · exact OwnP.ty t b (i * 4) f1 h1 ht y hy
    · exact OwnPs.ty r b (i + 1) f2 h2 hr y hy
end

theorem OwnP.lt {w w0 : World} {t : Tm} {b o : Nat} {fp : List Nat} {hs : List Hole} (h : OwnP w w0 t b o fp hs) : ∀ y ∈ fp, y < w.heap.size := fun y hy => by
  obtain ⟨C, hC⟩ := OwnP.ty t b o fp hs h y hy
  exact lt_of_heap hC
theorem OwnPs.lt {w w0 : World} {ks : List Tm} {b i : Nat} {fp : List Nat} {hs : List Hole} (h : OwnPs w w0 ks b i fp hs) : ∀ y ∈ fp, y < w.heap.size := fun y hy => by
  obtain ⟨C, hC⟩ := OwnPs.ty ks b i fp hs h y hy
  exact lt_of_heap hC

mutual
theorem OwnP.place {w w0 : World} : ∀ (t : Tm) (b o : Nat) (fp : List Nat) (hs : List Hole), OwnP w w0 t b o fp hs → ∀ h ∈ hs, (h.1 = b ∧ h.2.1 = o) ∨ h.1 ∈ fp
  | .node op n s ks, b, o, fp, hs, h, x, hx => by
    simp only [OwnP] at h
    obtain ⟨a, cap, h1, h2, h3, h4⟩ := h
    rcases h4 with ⟨rfl, rfl, _⟩ | ⟨_, _, rfl, _⟩ | ⟨b', C, f, ha, _, rfl, hb, hk⟩
    · rw [List.mem_singleton] at hx
      subst hx
      exact Or.inl ⟨rfl, rfl⟩
    · cases hx
    · rcases OwnPs.place ks b' 0 f hs hk x hx with ⟨h5, _⟩ | h5
      · exact Or.inr (by rw [h5]; simp)
      · exact Or.inr (by simp [h5])
theorem OwnPs.place {w w0 : World} : ∀ (ks : List Tm) (b i : Nat) (fp : List Nat) (hs : List Hole), OwnPs w w0 ks b i fp hs → ∀ h ∈ hs, (h.1 = b ∧ ∃ j, i ≤ j ∧ h.2.1 = j * 4) ∨ h.1 ∈ fp
  | [], b, i, fp, hs, h, x, hx => by
    simp only [OwnPs] at h
    rw [h.2] at hx
    cases hx
  | t :: r, b, i, fp, hs, h, x, hx => by
    simp only [OwnPs] at h
    obtain ⟨f1, f2, h1, h2, rfl, rfl, ht, hr⟩ := h
    rcases List.mem_append.1 hx with hx | hx
    · rcases OwnP.place t b (i * 4) f1 h1 ht x hx with ⟨h5, h6⟩ | h5
      · exact Or.inl ⟨h5, i, Nat.le_refl _, h6⟩
      · exact Or.inr (by simp [h5])
    · rcases OwnPs.place r b (i + 1) f2 h2 hr x hx with ⟨h5, j, h6, h7⟩ | h5
      · exact Or.inl ⟨h5, j, by omega, h7⟩
      · exact Or.inr (by simp [h5])
end

mutual
theorem OwnP.keep {w w' w0 : World} : ∀ (t : Tm) (b o : Nat) (fp : List Nat) (hs : List Hole), OwnP w w0 t b o fp hs → (∀ j, j < 4 → w'.cell? ⟨b, o + j, none⟩ = w.cell? ⟨b, o + j, none⟩) → (∀ y ∈ fp, w'.heap[y]? = w.heap[y]?) → OwnP w' w0 t b o fp hs
  | .node op n s ks, b, o, fp, hs, h, hc, hf => by
    simp only [OwnP] at h ⊢
    obtain ⟨a, cap, h1, h2, h3, h4⟩ := h
    refine ⟨a, cap, fun j v hj => ?_, h2, h3, ?_⟩
    · have hj4 : j < 4 := by have := (List.getElem?_eq_some_iff.1 hj).1; simpa [tmCells] using this
      rw [hc j hj4]
      exact h1 j v hj
    · rcases h4 with h4 | h4 | ⟨b', C, f, ha, hnn, rfl, hb, hk⟩
      · exact Or.inl h4
      · exact Or.inr (Or.inl h4)
      · exact Or.inr (Or.inr ⟨b', C, f, ha, hnn, rfl, (hf b' (by simp)).trans hb, OwnPs.keep ks b' 0 f hs hk (fun j _ => World.cell?_of_block (hf b' (by simp))) fun y hy => hf y (by simp [hy])⟩)
theorem OwnPs.keep {w w' w0 : World} : ∀ (ks : List Tm) (b i : Nat) (fp : List Nat) (hs : List Hole), OwnPs w w0 ks b i fp hs → (∀ j, i * 4 ≤ j → w'.cell? ⟨b, j, none⟩ = w.cell? ⟨b, j, none⟩) → (∀ y ∈ fp, w'.heap[y]? = w.heap[y]?) → OwnPs w' w0 ks b i fp hs
  | [], b, i, fp, hs, h, _, _ => by
    simp only [OwnPs] at h ⊢
    exact h
  | t :: r, b, i, fp, hs, h, hc, hf => by
    simp only [OwnPs] at h ⊢
    obtain ⟨f1, f2, h1, h2, rfl, rfl, ht, hr⟩ := h
    exact ⟨f1, f2, h1, h2, rfl, rfl, OwnP.keep t b (i * 4) f1 h1 ht (fun j _ => hc _ (by omega)) (fun y hy => hf y (by simp [hy])), OwnPs.keep r b (i + 1) f2 h2 hr (fun j hj => hc j (by omega)) fun y hy => hf y (by simp [hy])⟩
end

/-- Only the four cells of one place may have changed, and what is new. -/
structure Chg1 (hb ho : Nat) (w w' : World) : Prop where
  block : ∀ k, k < w.heap.size → k ≠ hb → w'.heap[k]? = w.heap[k]?
  cell : ∀ o, (o < ho ∨ ho + 4 ≤ o) → w'.cell? ⟨hb, o, none⟩ = w.cell? ⟨hb, o, none⟩
  row : ∀ C, w.heap[hb]? = some (.cells C 35 (0, 0)) → ∃ C', w'.heap[hb]? = some (.cells C' 35 (0, 0))

theorem Chg1.other {hb ho : Nat} {w w' : World} (h : Chg1 hb ho w w') {k : Nat} (hk : k < w.heap.size) (hn : k ≠ hb) (o : Nat) : w'.cell? ⟨k, o, none⟩ = w.cell? ⟨k, o, none⟩ := World.cell?_of_block (h.block k hk hn)

theorem OwnPs.part {w w' w0 : World} {hb ho : Nat} (hc : Chg1 hb ho w w') : ∀ (ks : List Tm) (b i : Nat) (fp : List Nat) (hs : List Hole), OwnPs w w0 ks b i fp hs → b < w.heap.size → (hb = b → ∀ j, i * 4 ≤ j → j < (i + ks.length) * 4 → j < ho ∨ ho + 4 ≤ j) → hb ∉ fp → OwnPs w' w0 ks b i fp hs
  | [], b, i, fp, hs, h, _, _, _ => by
    simp only [OwnPs] at h ⊢
    exact h
  | t :: r, b, i, fp, hs, h, hlt, hj, hf => by
    simp only [OwnPs] at h ⊢
    have hlt0 := fun y hy => OwnPs.lt (ks := t :: r) (b := b) (i := i) (fp := fp) (hs := hs) (by simp only [OwnPs]; exact h) y hy
    obtain ⟨f1, f2, h1, h2, rfl, rfl, ht, hr⟩ := h
    refine ⟨f1, f2, h1, h2, rfl, rfl, OwnP.keep t b (i * 4) f1 h1 ht (fun j hj4 => ?_) (fun y hy => hc.block y (hlt0 y (by simp [hy])) fun e => hf (by rw [← e]; simp [hy])), OwnPs.part hc r b (i + 1) f2 h2 hr hlt (fun e j h5 h6 => hj e j (by omega) (by simp only [List.length_cons]; omega)) fun hx => hf (by simp [hx])⟩
    by_cases e : hb = b
    · subst e
      exact hc.cell _ (hj rfl _ (by omega) (by simp only [List.length_cons]; omega))
    · exact hc.other hlt (fun e' => e e'.symm) _

mutual
/-- The last place is done: what it has become takes its place. -/
theorem OwnP.put {w w' w0 : World} {hb ho : Nat} {x : Tm} {f' : List Nat} {hs' : List Hole} (hc : Chg1 hb ho w w') (hx : OwnP w' w0 x hb ho f' hs') (hn' : f'.Nodup) (hg' : ∀ y ∈ f', w.heap.size ≤ y) :
    ∀ (t : Tm) (b o : Nat) (fp : List Nat) (H : List Hole), OwnP w w0 t b o fp (H ++ [(hb, ho, x)]) → fp.Nodup → b ∉ fp → b < w.heap.size →
      ∃ fp', OwnP w' w0 t b o fp' (H ++ hs') ∧ fp'.Nodup ∧ ∀ y ∈ fp', y ∈ fp ∨ y ∈ f'
  | .node op n s ks, b, o, fp, H, h, hnd, hbf, hlt => by
    have hpl := OwnP.place _ b o fp _ h (hb, ho, x) (by simp)
    simp only [OwnP] at h
    obtain ⟨a, cap, h1, h2, h3, h4⟩ := h
    rcases h4 with ⟨rfl, hh, _⟩ | ⟨_, _, hh, _⟩ | ⟨b', C, f, rfl, hnn, rfl, hb', hk⟩
    · obtain ⟨rfl, e⟩ : H = [] ∧ (hb, ho, x) = (b, o, Tm.node op n s ks) := by
        cases H with
        | nil => simpa using hh
        | cons y r => exfalso; have := congrArg List.length hh; simp at this
      simp only [Prod.mk.injEq] at e
      obtain ⟨rfl, rfl, rfl⟩ := e
      exact ⟨f', by simpa using hx, hn', fun y hy => Or.inr hy⟩
    · exact absurd hh (by simp)
    · have hne : b ≠ hb := by
        intro e
        subst e
        rcases hpl with ⟨_, _⟩ | h5
        · have h6 := OwnPs.place ks b' 0 f _ hk (b, ho, x) (by simp)
          rcases h6 with ⟨h7, _⟩ | h7
          · exact hbf (by rw [show b = b' from h7]; simp)
          · exact hbf (by simp [show b ∈ f from h7])
        · exact hbf h5
      rw [List.nodup_cons] at hnd
      have hltb : b' < w.heap.size := lt_of_heap hb'
      obtain ⟨f2, k1, k2, k3⟩ := OwnPs.put hc hx hn' hg' ks b' 0 f H hk hnd.2 hnd.1 hltb
      have hb2 : ∃ C', w'.heap[b']? = some (.cells C' 35 (0, 0)) := by
        by_cases e : b' = hb
        · subst e; exact hc.row C hb'
        · exact ⟨C, (hc.block b' hltb e).trans hb'⟩
      obtain ⟨C', hC'⟩ := hb2
      refine ⟨b' :: f2, ?_, List.nodup_cons.2 ⟨fun h5 => ?_, k2⟩, fun y hy => ?_⟩
      · simp only [OwnP]
        refine ⟨some ⟨b', 0, none⟩, cap, fun j v hj => ?_, h2, h3, Or.inr (Or.inr ⟨b', C', f2, rfl, hnn, rfl, hC', k1⟩)⟩
        rw [hc.other hlt hne]
        exact h1 j v hj
      · rcases k3 b' h5 with h6 | h6
        · exact hnd.1 h6
        · have := hg' b' h6; omega
      · rcases List.mem_cons.1 hy with rfl | hy
        · exact Or.inl (by simp)
        · rcases k3 y hy with h6 | h6
          · exact Or.inl (by simp [h6])
          · exact Or.inr h6
theorem OwnPs.put {w w' w0 : World} {hb ho : Nat} {x : Tm} {f' : List Nat} {hs' : List Hole} (hc : Chg1 hb ho w w') (hx : OwnP w' w0 x hb ho f' hs') (hn' : f'.Nodup) (hg' : ∀ y ∈ f', w.heap.size ≤ y) :
    ∀ (ks : List Tm) (b i : Nat) (fp : List Nat) (H : List Hole), OwnPs w w0 ks b i fp (H ++ [(hb, ho, x)]) → fp.Nodup → b ∉ fp → b < w.heap.size →
      ∃ fp', OwnPs w' w0 ks b i fp' (H ++ hs') ∧ fp'.Nodup ∧ ∀ y ∈ fp', y ∈ fp ∨ y ∈ f'
  | [], b, i, fp, H, h, _, _, _ => by
    simp only [OwnPs] at h
    exact absurd h.2 (by simp)
  | t :: r, b, i, fp, H, h, hnd, hbf, hlt => by
    simp only [OwnPs] at h
    obtain ⟨f1, f2, h1, h2, rfl, hh, ht, hr⟩ := h
    obtain ⟨nd1, nd2, nd3⟩ := List.nodup_append.1 hnd
    rcases List.eq_nil_or_concat h2 with rfl | ⟨H2, y, rfl⟩
    · rw [List.append_nil] at hh
      subst hh
      obtain ⟨g1, k1, k2, k3⟩ := OwnP.put hc hx hn' hg' t b (i * 4) f1 H ht nd1 (fun hy => hbf (by simp [hy])) hlt
      have hpl := OwnP.place t b (i * 4) f1 _ ht (hb, ho, x) (by simp)
      have hr' : OwnPs w' w0 r b (i + 1) f2 [] := by
        refine OwnPs.part hc r b (i + 1) f2 [] hr hlt (fun e j hj _ => ?_) fun hy => ?_
        · rcases hpl with ⟨_, h6⟩ | h6
          · have : ho = i * 4 := h6
            omega
          · exact absurd (show b ∈ f1 ++ f2 by rw [← e]; simp [show hb ∈ f1 from h6]) hbf
        · rcases hpl with ⟨h6, _⟩ | h6
          · exact hbf (by rw [← show hb = b from h6]; simp [hy])
          · exact nd3 hb h6 hb hy rfl
      refine ⟨g1 ++ f2, ?_, List.nodup_append.2 ⟨k2, nd2, fun y hy z hz e => ?_⟩, fun y hy => ?_⟩
      · simp only [OwnPs]
        exact ⟨g1, f2, H ++ hs', [], rfl, by simp, k1, hr'⟩
      · subst e
        rcases k3 y hy with h6 | h6
        · exact nd3 y h6 y hz rfl
        · have := hg' y h6; have := OwnPs.lt hr y hz; omega
      · rcases List.mem_append.1 hy with hy | hy
        · rcases k3 y hy with h6 | h6
          · exact Or.inl (by simp [h6])
          · exact Or.inr h6
        · exact Or.inl (by simp [hy])
    · rw [List.concat_eq_append, ← List.append_assoc] at hh
      obtain ⟨rfl, e⟩ := List.append_inj' hh rfl
      simp only [List.cons.injEq, and_true] at e
      subst e
      rw [List.concat_eq_append] at hr
      obtain ⟨g2, k1, k2, k3⟩ := OwnPs.put hc hx hn' hg' r b (i + 1) f2 H2 hr nd2 (fun hy => hbf (by simp [hy])) hlt
      have hpl := OwnPs.place r b (i + 1) f2 _ hr (hb, ho, x) (by simp)
      have hbf1 : hb ∉ f1 := fun hy => by
        rcases hpl with ⟨h6, _⟩ | h6
        · exact hbf (by rw [← show hb = b from h6]; simp [hy])
        · exact nd3 hb hy hb h6 rfl
      have ht' : OwnP w' w0 t b (i * 4) f1 h1 := by
        refine OwnP.keep t b (i * 4) f1 h1 ht (fun j hj4 => ?_) fun y hy => hc.block y (OwnP.lt ht y hy) fun e => hbf1 (e ▸ hy)
        by_cases e : b = hb
        · subst e
          rcases hpl with ⟨_, q, h6, h7⟩ | h6
          · have : ho = q * 4 := h7
            exact hc.cell _ (by omega)
          · exact absurd (show b ∈ f1 ++ f2 by simp [show b ∈ f2 from h6]) hbf
        · exact hc.other hlt e _
      refine ⟨f1 ++ g2, ?_, List.nodup_append.2 ⟨nd1, k2, fun y hy z hz e => ?_⟩, fun y hy => ?_⟩
      · simp only [OwnPs]
        exact ⟨f1, g2, h1, H2 ++ hs', rfl, by simp, ht', k1⟩
      · subst e
        rcases k3 y hz with h6 | h6
        · exact nd3 y hy y h6 rfl
        · have := hg' y h6; have := OwnP.lt ht y hy; omega
      · rcases List.mem_append.1 hy with hy | hy
        · exact Or.inl (by simp [hy])
        · rcases k3 y hy with h6 | h6
          · exact Or.inl (by simp [h6])
          · exact Or.inr h6
end

/-- The places of kids in a block. -/
def kidsH (b : Nat) : Nat → List Tm → List Hole
  | _, [] => []
  | i, t :: r => (b, i * 4, t) :: kidsH b (i + 1) r

theorem kidsH_length (b : Nat) : ∀ (i : Nat) (ks : List Tm), (kidsH b i ks).length = ks.length
  | _, [] => rfl
  | i, t :: r => by simp only [kidsH, List.length_cons, kidsH_length b (i + 1) r]

theorem kidsH_get (b : Nat) : ∀ (i : Nat) (ks : List Tm) (k : Nat) (h : k < ks.length), (kidsH b i ks)[k]? = some (b, (i + k) * 4, ks[k])
  | i, t :: r, 0, _ => by simp [kidsH]
  | i, t :: r, k + 1, h => by
    simp only [kidsH, List.getElem?_cons_succ, List.getElem_cons_succ]
    rw [kidsH_get b (i + 1) r k (by simpa using h), show i + 1 + k = i + (k + 1) by omega]

/-- How much is left to be done. -/
def hsz : List Hole → Nat
  | [] => 0
  | h :: r => h.2.2.size + hsz r
theorem hsz_append (a b : List Hole) : hsz (a ++ b) = hsz a + hsz b := by
  induction a with
  | nil => simp [hsz]
  | cons x r ih => simp only [List.cons_append, hsz, ih]; omega
theorem hsz_kids (b : Nat) : ∀ (i : Nat) (ks : List Tm), hsz (kidsH b i ks) = Tm.sizes ks
  | _, [] => rfl
  | i, t :: r => by simp only [kidsH, hsz, Tm.sizes, hsz_kids b (i + 1) r]

theorem OwnPs.fresh {w w0 : World} {b : Nat} : ∀ {i : Nat} {kp : List (Tm × List Value)}, (∀ p ∈ kp, Lies w0 0 p.1 p.2) → w.rangeAt b (i * 4) (kp.flatMap (·.2)) → OwnPs w w0 (kp.map (·.1)) b i [] (kidsH b i (kp.map (·.1)))
  | i, [], _, _ => by simp [OwnPs, kidsH]
  | i, p :: r, h, hr => by
    have hl := h p (by simp)
    have h4 := hl.length
    simp only [List.map_cons, OwnPs, kidsH]
    refine ⟨[], [], [(b, i * 4, p.1)], kidsH b (i + 1) (r.map (·.1)), rfl, by simp, ?_, OwnPs.fresh (fun q hq => h q (by simp [hq])) fun j v hj => ?_⟩
    · obtain ⟨t, cs⟩ := p
      cases t with
      | node op n s ks =>
        simp only [Lies] at hl
        obtain ⟨a, cap, rfl, k1, k2, k3⟩ := hl
        simp only [OwnP]
        refine ⟨a, cap, fun j v hj => ?_, k1, k2, Or.inl ⟨by trivial, by trivial, k3⟩⟩
        refine hr j v ?_
        simp only [List.flatMap_cons]
        rw [List.getElem?_append_left (List.getElem?_eq_some_iff.1 hj).1]
        exact hj
    · have := hr (4 + j) v (by
        simp only [List.flatMap_cons]
        rw [List.getElem?_append_right (by omega), show 4 + j - p.2.length = j by omega]
        exact hj)
      rw [show (i + 1) * 4 + j = i * 4 + (4 + j) by omega]
      exact this

end Go.Proofs.YteminklafghgpaaGreatDoor
