
/- A term whose kids lie in blocks of their own: the list of these blocks; what stays of it where only other blocks change. -/
import Derived.Test.YteminklafghgpaaGreatDoorEq
import Derived.Test.YteminklafghgpaaGreatDoorStk
namespace Go.Proofs.YteminklafghgpaaGreatDoor
open Go.RowKit Go.Deep

mutual
/-- The term's own cells are these; its kids, and theirs, lie in the blocks of the list, a block for each term that has kids. -/
def Own (w : World) : Tm → List Value → List Nat → Prop
  | .node op n s ks, cs, fp => ∃ a cap, cs = tmCells op n s a ks.length cap ∧ (s.size ≤ maxLen ∧ ks.length ≤ cap ∧ cap ≤ maxLen) ∧ ((Lit.int .i64 op).wf = true ∧ (Lit.int .i64 n).wf = true) ∧
      ((ks = [] ∧ fp = []) ∨ ∃ b C f, a = some ⟨b, 0, none⟩ ∧ fp = b :: f ∧ w.heap[b]? = some (.cells C 35 (0, 0)) ∧ OwnAll w b 0 ks f)
def OwnAll (w : World) (b : Nat) : Nat → List Tm → List Nat → Prop
  | _, [], fp => fp = []
  | i, t :: r, fp => ∃ cs f1 f2, fp = f1 ++ f2 ∧ w.rangeAt b (i * 4) cs ∧ Own w t cs f1 ∧ OwnAll w b (i + 1) r f2
end

theorem Own.length {w : World} {t : Tm} {cs : List Value} {fp : List Nat} (h : Own w t cs fp) : cs.length = 4 := by
  cases t
  simp only [Own] at h
  obtain ⟨a, cap, rfl, _⟩ := h
  rfl

mutual
theorem Own.keep {w w' : World} : ∀ (t : Tm) (cs : List Value) (fp : List Nat), Own w t cs fp → (∀ b ∈ fp, w'.heap[b]? = w.heap[b]?) → Own w' t cs fp
  | .node op n s ks, cs, fp, h, hf => by
    simp only [Own] at h ⊢
    obtain ⟨a, cap, h1, h2, h3, h4⟩ := h
    refine ⟨a, cap, h1, h2, h3, ?_⟩
    rcases h4 with h4 | ⟨b, C, f, ha, rfl, hb, hk⟩
    · exact Or.inl h4
    · exact Or.inr ⟨b, C, f, ha, rfl, (hf b (by simp)).trans hb, OwnAll.keep b 0 ks f hk (fun j _ _ => World.cell?_of_block (hf b (by simp))) fun x hx => hf x (by simp [hx])⟩
theorem OwnAll.keep {w w' : World} (b : Nat) : ∀ (i : Nat) (ks : List Tm) (fp : List Nat), OwnAll w b i ks fp → (∀ j, i * 4 ≤ j → j < (i + ks.length) * 4 → w'.cell? ⟨b, j, none⟩ = w.cell? ⟨b, j, none⟩) → (∀ x ∈ fp, w'.heap[x]? = w.heap[x]?) → OwnAll w' b i ks fp
  | i, [], fp, h, _, _ => by simpa [OwnAll] using h
  | i, t :: r, fp, h, hb, hf => by
    simp only [OwnAll] at h ⊢
    obtain ⟨cs, f1, f2, rfl, hr, ht, hk⟩ := h
    refine ⟨cs, f1, f2, rfl, fun j v hj => ?_, Own.keep t cs f1 ht fun x hx => hf x (by simp [hx]), OwnAll.keep b (i + 1) r f2 hk (fun j h1 h2 => hb j (by omega) (by simp only [List.length_cons]; omega)) fun x hx => hf x (by simp [hx])⟩
    have hl := ht.length
    have hj4 : j < 4 := by have := (List.getElem?_eq_some_iff.1 hj).1; omega
    rw [hb (i * 4 + j) (by omega) (by simp only [List.length_cons]; omega)]
    exact hr j v hj
end

theorem OwnAll.split {w : World} {b : Nat} {t : Tm} {l2 : List Tm} : ∀ {i : Nat} {l1 : List Tm} {f : List Nat}, OwnAll w b i (l1 ++ t :: l2) f →
    ∃ fA f1 fB cs, f = fA ++ (f1 ++ fB) ∧ OwnAll w b i l1 fA ∧ w.rangeAt b ((i + l1.length) * 4) cs ∧ Own w t cs f1 ∧ OwnAll w b (i + l1.length + 1) l2 fB
  | i, [], f, h => by
    simp only [List.nil_append, OwnAll] at h
    obtain ⟨cs, f1, f2, rfl, hr, ht, hk⟩ := h
    exact ⟨[], f1, f2, cs, by simp, by simp [OwnAll], by simpa using hr, ht, by simpa using hk⟩
  | i, x :: l1, f, h => by
    simp only [List.cons_append, OwnAll] at h
    obtain ⟨cs, f1, f2, rfl, hr, ht, hk⟩ := h
    obtain ⟨fA, g1, fB, cs', rfl, k1, k2, k3, k4⟩ := OwnAll.split hk
    refine ⟨f1 ++ fA, g1, fB, cs', by simp, ?_, ?_, k3, ?_⟩
    · simp only [OwnAll]
      exact ⟨cs, f1, fA, rfl, hr, ht, k1⟩
    · simpa [Nat.add_assoc, Nat.add_comm, Nat.add_left_comm] using k2
    · simpa [Nat.add_assoc, Nat.add_comm, Nat.add_left_comm] using k4

theorem OwnAll.join {w : World} {b : Nat} {t : Tm} {l2 : List Tm} {f1 fB : List Nat} {cs : List Value} : ∀ {i : Nat} {l1 : List Tm} {fA : List Nat}, OwnAll w b i l1 fA → w.rangeAt b ((i + l1.length) * 4) cs → Own w t cs f1 → OwnAll w b (i + l1.length + 1) l2 fB →
    OwnAll w b i (l1 ++ t :: l2) (fA ++ (f1 ++ fB))
  | i, [], fA, h, hr, ht, hk => by
    simp only [OwnAll] at h
    subst h
    simp only [List.nil_append, OwnAll]
    exact ⟨cs, f1, fB, rfl, by simpa using hr, ht, by simpa using hk⟩
  | i, x :: l1, fA, h, hr, ht, hk => by
    simp only [OwnAll] at h
    obtain ⟨cs', g1, g2, rfl, h1, h2, h3⟩ := h
    simp only [List.cons_append, OwnAll]
    refine ⟨cs', g1, g2 ++ (f1 ++ fB), by simp, h1, h2, OwnAll.join h3 ?_ ht ?_⟩
    · simpa [Nat.add_assoc, Nat.add_comm, Nat.add_left_comm] using hr
    · simpa [Nat.add_assoc, Nat.add_comm, Nat.add_left_comm] using hk

mutual
theorem Own.lies {w : World} {L : Nat} : ∀ (t : Tm) (cs : List Value) (fp : List Nat), Own w t cs fp → (∀ b ∈ fp, L ≤ b) → Lies w L t cs
  | .node op n s ks, cs, fp, h, hf => by
    simp only [Own] at h
    simp only [Lies]
    obtain ⟨a, cap, h1, h2, h3, h4⟩ := h
    refine ⟨a, cap, h1, h2, h3, ?_⟩
    rcases h4 with ⟨rfl, _⟩ | ⟨b, C, f, rfl, rfl, hb, hk⟩
    · simp [LiesAll]
    · exact OwnAll.lies b (hf b (by simp)) 0 ks f hk fun x hx => hf x (by simp [hx])
theorem OwnAll.lies {w : World} {L : Nat} (b : Nat) (hb : L ≤ b) : ∀ (i : Nat) (ks : List Tm) (fp : List Nat), OwnAll w b i ks fp → (∀ x ∈ fp, L ≤ x) → LiesAll w L (some ⟨b, 0, none⟩) i ks
  | i, [], fp, _, _ => by simp [LiesAll]
  | i, t :: r, fp, h, hf => by
    simp only [OwnAll] at h
    simp only [LiesAll]
    obtain ⟨cs, f1, f2, rfl, hr, ht, hk⟩ := h
    exact ⟨⟨b, 0, cs, rfl, hb, by rw [Nat.zero_add]; exact hr, Own.lies t cs f1 ht fun x hx => hf x (by simp [hx])⟩, OwnAll.lies b hb (i + 1) r f2 hk fun x hx => hf x (by simp [hx])⟩
end

/-- Only these blocks may have changed. -/
structure Only (fp : List Nat) (w w' : World) : Prop where
  os : w'.os = w.os
  tape : w'.tape = w.tape
  output : w'.output = w.output
  size : w.heap.size ≤ w'.heap.size
  block : ∀ k, k < w.heap.size → k ∉ fp → w'.heap[k]? = w.heap[k]?

theorem Only.refl (fp : List Nat) (w : World) : Only fp w w := ⟨rfl, rfl, rfl, Nat.le_refl _, fun _ _ _ => rfl⟩
theorem Only.trans {fp : List Nat} {a b c : World} (h : Only fp a b) (k : Only fp b c) : Only fp a c :=
  ⟨k.os.trans h.os, k.tape.trans h.tape, k.output.trans h.output, Nat.le_trans h.size k.size, fun i hi hf => (k.block i (Nat.lt_of_lt_of_le hi h.size) hf).trans (h.block i hi hf)⟩
theorem Only.mono {fp fp' : List Nat} {a b : World} (h : Only fp a b) (hs : ∀ x ∈ fp, x ∈ fp') : Only fp' a b := ⟨h.os, h.tape, h.output, h.size, fun k hk hf => h.block k hk fun hx => hf (hs k hx)⟩
theorem Only.of_below {fp : List Nat} {a b : World} (h : Below a.heap.size a b) : Only fp a b := ⟨h.os, h.tape, h.output, h.size, fun k hk _ => h.block k hk⟩
theorem Only.below {fp : List Nat} {a b : World} {B : Nat} (h : Only fp a b) (hB : B ≤ a.heap.size) (hf : ∀ x ∈ fp, B ≤ x) : Below B a b :=
  ⟨h.os, h.tape, h.output, h.size, fun k hk => h.block k (by omega) fun hx => absurd (hf k hx) (by omega)⟩
theorem Only.set {fp : List Nat} {a b : World} (h : Only fp a b) {p : Addr} (hp : p.block ∈ fp) (u : Value) : Only fp a (b.setCell p u) :=
  ⟨h.os, h.tape, h.output, by simpa using h.size, fun k hk hf => by rw [Below.heap_setCell b p u k (fun e => hf (by rw [e]; exact hp))]; exact h.block k hk hf⟩

theorem kpc {v v' : World} (h : Below v.heap.size v v') {b o : Nat} {u : Value} (hc : v.cell? ⟨b, o, none⟩ = some u) : v'.cell? ⟨b, o, none⟩ = some u :=
  (h.cell (p := ⟨b, o, none⟩) (lt_of_cell hc)).trans hc
theorem below_drew' {v v' : World} (h : Below v.drew.heap.size v.drew v') : Below v.heap.size v v' :=
  ((Below.refl _ _).drew).trans h

/-- A term with no kids lies everywhere. -/
theorem lies_leaf (w : World) (op n : Int) (s : ByteArray) (hs : s.size ≤ maxLen) (h1 : (Lit.int .i64 op).wf = true) (h2 : (Lit.int .i64 n).wf = true) : Lies w 0 (.node op n s []) (tmCells op n s none 0 0) := by
  simp only [Lies]
  exact ⟨none, 0, rfl, ⟨hs, by simp, by simp⟩, ⟨h1, h2⟩, by simp [LiesAll]⟩

end Go.Proofs.YteminklafghgpaaGreatDoor
