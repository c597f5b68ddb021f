/- Lists of policies that append makes grow, in memory of their own; the walks of spec.CacheDrop and impl.CacheDrop. -/
import Derived.Test.YtdcfkbnppbeahaaQn
namespace Go.Proofs.Ytdcfkbnppbeahaa
open Go.RowKit Go.Deep

/-- A growing list of policies, its row and its texts in memory of its own, from block B on. -/
structure GQ (B : Nat) (P : List Pol) (v : Value) (F : Nat → Option Nat) (w : World) : Prop where
  row : ∃ xs, w.ownsRow B 27 4 v P.length xs ∧ ∀ i p, P[i]? = some p → ∃ x cap, (∀ j u, (polCells p x cap)[j]? = some u → xs[i * 4 + j]? = some u) ∧ TxOwn w x p.l (F i)
  lt : ∀ i g, i < P.length → F i = some g → B ≤ g ∧ g < w.heap.size ∧ v.ownBlock ≠ some g
  apart : ∀ i j g, i < P.length → j < P.length → i ≠ j → F i = some g → F j ≠ some g
theorem GQ.empty (B : Nat) (w : World) : GQ B [] (.slice none 0 0) (fun _ => Option.none) w :=
  ⟨⟨[], World.ownsRow_nil w B 27 4, fun i p h => by simp at h⟩, fun i g h => by simp at h, fun i j g h => by simp at h⟩
theorem GQ.lit (B : Nat) (w : World) (hB : B ≤ w.heap.size) : GQ B [] (.slice (some ⟨w.heap.size, 0, Option.none⟩) 0 0) (fun _ => Option.none) (w.alloc (.cells #[] 27)) :=
  ⟨⟨[], ⟨rfl, Or.inr ⟨w.heap.size, 0, #[], rfl, hB, heap_alloc_new w _, Nat.le_refl _, Nat.zero_le _, rfl, rfl⟩⟩, fun i p h => by simp at h⟩, fun i g h => by simp at h, fun i j g h => by simp at h⟩
theorem GQ.on {B : Nat} {P : List Pol} {v : Value} {F : Nat → Option Nat} {w w' : World} (h : GQ B P v F w) (hb : Below w.heap.size w w') : GQ B P v F w' := by
  obtain ⟨xs, ho, hr⟩ := h.row
  refine ⟨⟨xs, ?_, fun i p hp => ?_⟩, fun i g hi hg => ⟨(h.lt i g hi hg).1, Nat.lt_of_lt_of_le (h.lt i g hi hg).2.1 hb.size, (h.lt i g hi hg).2.2⟩, h.apart⟩
  · exact ho.kept (row := Option.none) ⟨hb.os, hb.tape, hb.output, hb.size, fun k hk _ => hb.block k hk⟩ (by
      cases v.ownBlock with
      | none => exact Or.inl rfl
      | some g => exact Or.inr (by simp))
  · obtain ⟨x, cap, h1, h2⟩ := hr i p hp
    exact ⟨x, cap, h1, h2.on hb⟩
theorem GQ.shape {B : Nat} {P : List Pol} {v : Value} {F : Nat → Option Nat} {w : World} (h : GQ B P v F w) : ∃ a c, v = .slice a P.length c := by
  obtain ⟨xs, ho, _⟩ := h.row
  rcases ho.2 with ⟨h1, h2⟩ | ⟨g, cap, cur, h1, _⟩
  · exact ⟨Option.none, 0, by rw [h2]; exact h1⟩
  · exact ⟨_, _, h1⟩
theorem pol_one {p : Pol} {x : Option Addr} {c : Nat} : ∀ u ∈ polCells p x c, u.oneCell' = true := fun u hu => by
  simp only [polCells, List.mem_cons, List.not_mem_nil, or_false] at hu
  rcases hu with rfl | rfl | rfl | rfl <;> rfl

/-- A policy more. -/
theorem GQ.push {B : Nat} {P : List Pol} {v : Value} {F : Nat → Option Nat} {w : World} (h : GQ B P v F w) {p : Pol} {x : Option Addr} {cx : Nat} {f : Option Nat} (ht : TxOwn w x p.l f)
    (hf : ∀ g, f = some g → B ≤ g ∧ g < w.heap.size ∧ v.ownBlock ≠ some g ∧ ∀ i, i < P.length → F i ≠ some g) {b o : Nat} (hr : w.rangeAt b o (polCells p x cx)) (c : Nat) (hn : P.length ≤ 4194304) (hB : B ≤ w.heap.size) (ty : TypeId) :
    ∃ v' w', (Builtin.append_ #[34, 34] ty #[v, .slice (some ⟨b, o, Option.none⟩) 1 c]).run Try.prog w = .ok v' w' ∧ (GQ B (P ++ [p]) v' (fun i => if i = P.length then f else F i) w' ∧ Below B w w') := by
  obtain ⟨xs, ho, hrow⟩ := h.row
  obtain ⟨i, hi, hzz⟩ := Option.map_eq_some_iff.1 infoPol
  simp only [Prod.mk.injEq] at hzz
  obtain ⟨hz, hs, hb⟩ := hzz
  have h4 : (polCells p x cx).length = 1 * 4 := rfl
  have hnews : ∀ j u, (polCells p x cx)[j]? = some u → w.cell? ((⟨b, o, Option.none⟩ : Addr).add j) = some u := fun j u hj => by rw [Addr.add_mid]; exact hr j u hj
  obtain ⟨v', w', g1, g2, g3, g4⟩ := run_append_own_wide (P := Try.prog) w B 34 ty 27 i _ 4 56 Try.underlying34 hi hz hs hb rfl (by omega) v P.length xs ho ⟨b, o, Option.none⟩ 1 c (polCells p x cx) h4 hnews pol_one
    (by unfold maxLen; omega) (by omega) hB
  have hwhere : ∀ g, v'.ownBlock = some g → v.ownBlock = some g ∨ w.heap.size ≤ g := by
    intro g hg
    rcases ho.2 with ⟨rfl, hn0⟩ | ⟨g0, cap, cur, rfl, hbg, hg0, hnc, hcm, hcs, htake⟩
    · have hx : xs = [] := List.eq_nil_of_length_eq_zero (by rw [ho.1, hn0])
      subst hx
      obtain ⟨v2, w2, k1, k2, _⟩ := run_append_own_wide (P := Try.prog) w w.heap.size 34 ty 27 i _ 4 56 Try.underlying34 hi hz hs hb rfl (by omega) (.slice Option.none 0 0) P.length [] (by rw [hn0]; exact World.ownsRow_nil w _ 27 4) ⟨b, o, Option.none⟩ 1 c (polCells p x cx) h4 hnews pol_one
        (by unfold maxLen; omega) (by omega) (Nat.le_refl _)
      rw [g1] at k1
      injection k1 with k1 k1'
      subst k1
      exact Or.inr (k2.lt g hg).1
    · by_cases hroom : P.length + 1 ≤ cap
      · have k1 := run_append_room (P := Try.prog) w 34 ty 27 i Try.underlying34 hi g0 P.length cap cur hg0 ⟨b, o, Option.none⟩ 1 c (polCells p x cx) (by rw [hs]; exact h4) hnews pol_one hroom (by rw [hs, hcs]; omega)
        rw [g1] at k1
        injection k1 with k1 k1'
        subst k1
        exact Or.inl hg
      · have holds : ∀ j u, xs[j]? = some u → w.cell? ((⟨g0, 0, Option.none⟩ : Addr).add j) = some u := ho.cells (g := g0) rfl
        have k1 := run_append_grow (P := Try.prog) w 34 ty 27 i _ Try.underlying34 hi hz ⟨g0, 0, Option.none⟩ P.length cap xs (by rw [hs]; exact ho.1) holds ⟨b, o, Option.none⟩ 1 c (polCells p x cx) (by rw [hs]; exact h4) hnews (by omega) (by omega) (by rw [hb]; exact growslice_fits_wide (by omega) (by omega))
        rw [g1] at k1
        injection k1 with k1 k1'
        subst k1
        simp only [Value.ownBlock, Option.some.injEq] at hg
        exact Or.inr (by omega)
  have hkeep : ∀ y, y < w.heap.size → v.ownBlock ≠ some y → w'.heap[y]? = w.heap[y]? := fun y hy hne => g3.block y hy fun e => hne e.symm
  have hxl : xs.length = P.length * 4 := ho.1
  have hF : ∀ i g, i < (P ++ [p]).length → (if i = P.length then f else F i) = some g → (i = P.length ∧ f = some g) ∨ (i < P.length ∧ F i = some g) := fun i g hi hg => by
    simp at hi
    by_cases e : i = P.length
    · rw [if_pos e] at hg; exact Or.inl ⟨e, hg⟩
    · rw [if_neg e] at hg; exact Or.inr ⟨by omega, hg⟩
  have hlt : ∀ i g, i < (P ++ [p]).length → (if i = P.length then f else F i) = some g → B ≤ g ∧ g < w.heap.size ∧ v.ownBlock ≠ some g := fun i g hi hg => by
    rcases hF i g hi hg with ⟨_, hg⟩ | ⟨hi, hg⟩
    · exact ⟨(hf g hg).1, (hf g hg).2.1, (hf g hg).2.2.1⟩
    · exact h.lt i g hi hg
  have g3s : w.heap.size ≤ w'.heap.size := g3.size
  refine ⟨v', w', g1, ⟨⟨xs ++ polCells p x cx, by simpa using g2, fun i q hq => ?_⟩, fun i g hi hg => ?_, fun i j g hi hj hij hg hg' => ?_⟩, (Below.refl B w).grown g3 hB fun k hk => (ho.lt k hk).1⟩
  · by_cases e : i = P.length
    · subst e
      simp only [List.getElem?_append_right (Nat.le_refl _), Nat.sub_self, List.getElem?_cons_zero, Option.some.injEq] at hq
      subst hq
      rw [if_pos rfl]
      refine ⟨x, cx, fun j u hj => ?_, ht.keep fun g hg => hkeep g (hf g hg).2.1 (hf g hg).2.2.1⟩
      rw [List.getElem?_append_right (by omega), hxl, Nat.add_sub_cancel_left]
      exact hj
    · have hi : i < P.length := by
        have := (List.getElem?_eq_some_iff.1 hq).1
        simp at this
        omega
      rw [List.getElem?_append_left hi] at hq
      obtain ⟨y, cy, h1, h2⟩ := hrow i q hq
      rw [if_neg e]
      refine ⟨y, cy, fun j u hj => ?_, h2.keep fun g hg => hkeep g (h.lt i g hi hg).2.1 (h.lt i g hi hg).2.2⟩
      have hj4 : j < 4 := (List.getElem?_eq_some_iff.1 hj).1
      rw [List.getElem?_append_left (by omega)]
      exact h1 j u hj
  · have hl := hlt i g hi hg
    refine ⟨hl.1, by omega, fun e => ?_⟩
    rcases hwhere g e with e | e
    · exact hl.2.2 e
    · omega
  · rcases hF i g hi hg with ⟨rfl, hg1⟩ | ⟨hi1, hg1⟩
    · rcases hF j g hj hg' with ⟨rfl, _⟩ | ⟨hj1, hg2⟩
      · exact hij rfl
      · exact (hf g hg1).2.2.2 j hj1 hg2
    · rcases hF j g hj hg' with ⟨rfl, hg2⟩ | ⟨hj1, hg2⟩
      · exact (hf g hg2).2.2.2 i hi1 hg1
      · exact h.apart i j g hi1 hj1 hij hg1 hg2

/-- Policies that are in blocks of their own, or none. -/
def POx (w : World) (a : Option Addr) (F : Nat → Option Nat) (P : List Pol) : Prop := P = [] ∨ ∃ g, a = some ⟨g, 0, Option.none⟩ ∧ PO w g F P.length (listQ P)
theorem GQ.pox {B : Nat} {P : List Pol} {v : Value} {F : Nat → Option Nat} {w : World} (h : GQ B P v F w) : ∃ a c, v = .slice a P.length c ∧ POx w a F P ∧ ∀ g, (a = some ⟨g, 0, Option.none⟩ ∧ P ≠ []) ∨ (∃ i, i < P.length ∧ F i = some g) → B ≤ g ∧ g < w.heap.size := by
  obtain ⟨xs, ho, hr⟩ := h.row
  rcases ho.2 with ⟨h1, h2⟩ | ⟨g, cap, cur, h1, h2, h3, h4, h5, h6, h7⟩
  · have hP : P = [] := List.length_eq_zero_iff.1 h2
    refine ⟨Option.none, 0, by rw [h2]; exact h1, Or.inl hP, fun g hg => ?_⟩
    rcases hg with ⟨e, _⟩ | ⟨i, hi, _⟩
    · cases e
    · omega
  · refine ⟨some ⟨g, 0, Option.none⟩, cap, h1, Or.inr ⟨g, rfl, ⟨cur, h3, by omega⟩, fun i hi => ?_, fun i y hi hy => ⟨fun e => ?_, (h.lt i y hi hy).2.1⟩, h.apart⟩, fun y hy => ?_⟩
    · obtain ⟨p, hp⟩ : ∃ p, P[i]? = some p := ⟨_, List.getElem?_eq_getElem hi⟩
      obtain ⟨x, c, r1, r2⟩ := hr i p hp
      rw [listQ_get hp]
      refine ⟨x, c, fun j u hj => ?_, r2⟩
      have hj4 : j < 4 := (List.getElem?_eq_some_iff.1 hj).1
      have e := r1 j u hj
      rw [← h7, List.getElem?_take, if_pos (by omega), Array.getElem?_toList] at e
      have hjc : i * 4 + j < cur.size := (Array.getElem?_eq_some_iff.1 e).1
      rw [cell_of_row h3 hjc, ← Array.getElem?_eq_getElem hjc, e]
    · subst e
      exact (h.lt i y hi hy).2.2 (by rw [h1]; rfl)
    · rcases hy with ⟨e, _⟩ | ⟨i, hi, hy⟩
      · simp only [Option.some.injEq, Addr.mk.injEq, and_true] at e
        subst e
        exact ⟨h2, (Array.getElem?_eq_some_iff.1 h3).1⟩
      · exact ⟨(h.lt i y hi hy).1, (h.lt i y hi hy).2.1⟩
theorem POx.pols {w : World} {a : Option Addr} {F : Nat → Option Nat} {P : List Pol} (h : POx w a F P) : Pols w 0 a P := by
  rcases h with rfl | ⟨g, rfl, h⟩
  · exact fun k p hk => by simp at hk
  · exact h.pols
theorem POx.on {w w' : World} {a : Option Addr} {F : Nat → Option Nat} {P : List Pol} (h : POx w a F P) (hb : Below w.heap.size w w') : POx w' a F P := by
  rcases h with h | ⟨g, ha, h⟩
  · exact Or.inl h
  · exact Or.inr ⟨g, ha, h.on hb⟩

noncomputable def keepQ (P : List Pol) (now : Int) : List Pol := P.filter fun p => decide (now ≤ p.u)
theorem keepQ_yes {P : List Pol} {now : Int} {k : Nat} {p : Pol} (hk : P[k]? = some p) (h : now ≤ p.u) : keepQ (P.take (k + 1)) now = keepQ (P.take k) now ++ [p] := by
  unfold keepQ
  rw [List.take_add_one, hk, List.filter_append]
  simp [h]
theorem keepQ_no {P : List Pol} {now : Int} {k : Nat} {p : Pol} (hk : P[k]? = some p) (h : ¬ now ≤ p.u) : keepQ (P.take (k + 1)) now = keepQ (P.take k) now := by
  unfold keepQ
  rw [List.take_add_one, hk, List.filter_append]
  simp [h]
theorem keepQ_len (P : List Pol) (now : Int) (k : Nat) : (keepQ (P.take k) now).length ≤ k := by
  unfold keepQ
  exact Nat.le_trans (List.length_filter_le _ _) (by simp; omega)

end Go.Proofs.Ytdcfkbnppbeahaa
