/- Elements of five cells each, one behind the other: such as lie somewhere, such as lie in a block of their own, and such lists as append makes grow. -/
import Derived.Test.YtjckdepcgjfomaaDoorQo
namespace Go.Proofs.YtjckdepcgjfomaaDoor
open Go.RowKit Go.Deep

structure Nt where
  k : Int
  h : Int
  d : ByteArray
  b : Int
  t : Int
structure Lt where
  d : ByteArray
  b : Int
  s : Int
  t : Int
  n : Int
/-- The cells of a note, of a letter. -/
def ntC (p : Nt) : List Value := [.int .i64 p.k, .int .i64 p.h, .string p.d, .int .i64 p.b, .int .i64 p.t]
def ltC (p : Lt) : List Value := [.string p.d, .int .i64 p.b, .int .i64 p.s, .int .i64 p.t, .int .i64 p.n]
theorem ntC_one (p : Nt) : ∀ u ∈ ntC p, u.oneCell' = true := fun u hu => by
  simp only [ntC, List.mem_cons, List.not_mem_nil, or_false] at hu
  rcases hu with rfl | rfl | rfl | rfl | rfl <;> rfl
theorem ltC_one (p : Lt) : ∀ u ∈ ltC p, u.oneCell' = true := fun u hu => by
  simp only [ltC, List.mem_cons, List.not_mem_nil, or_false] at hu
  rcases hu with rfl | rfl | rfl | rfl | rfl <;> rfl

/-- The elements lie in the world, one behind the other, in a block from L on. -/
def Els {α : Type} (c : α → List Value) (w : World) (L : Nat) (a : Option Addr) (P : List α) : Prop := ∀ k p, P[k]? = some p → ∃ b o, a = some ⟨b, o, none⟩ ∧ L ≤ b ∧ w.rangeAt b (o + k * 5) (c p)
theorem Els.on {α : Type} {c : α → List Value} {w w' : World} {L : Nat} {a : Option Addr} {P : List α} (h : Els c w L a P) (hb : Below w.heap.size w w') : Els c w' L a P := fun k p hk => by
  obtain ⟨b, o, h1, h2, h3⟩ := h k p hk
  exact ⟨b, o, h1, h2, rangeAt_below h3 hb⟩
theorem Els.low {α : Type} {c : α → List Value} {w : World} {L L' : Nat} {a : Option Addr} {P : List α} (h : Els c w L a P) (hL : L' ≤ L) : Els c w L' a P := fun k p hk => by
  obtain ⟨b, o, h1, h2, h3⟩ := h k p hk
  exact ⟨b, o, h1, by omega, h3⟩
theorem Els.note {w : World} {L : Nat} {a : Option Addr} {P : List Nt} (h : Els ntC w L a P) {k : Nat} {p : Nt} (hk : P[k]? = some p) :
    ∃ b o, a = some ⟨b, o, none⟩ ∧ b < w.heap.size ∧ w.cell? ⟨b, o + k * 5, none⟩ = some (.int .i64 p.k) ∧ w.cell? ⟨b, o + k * 5 + 1, none⟩ = some (.int .i64 p.h) ∧ w.cell? ⟨b, o + k * 5 + 2, none⟩ = some (.string p.d) ∧ w.cell? ⟨b, o + k * 5 + 3, none⟩ = some (.int .i64 p.b) ∧ w.cell? ⟨b, o + k * 5 + 4, none⟩ = some (.int .i64 p.t) := by
  obtain ⟨b, o, h1, h2, h3⟩ := h k p hk
  exact ⟨b, o, h1, rangeAt_lt h3 (by simp [ntC]), h3 0 _ rfl, h3 1 _ rfl, h3 2 _ rfl, h3 3 _ rfl, h3 4 _ rfl⟩
theorem Els.letter {w : World} {L : Nat} {a : Option Addr} {P : List Lt} (h : Els ltC w L a P) {k : Nat} {p : Lt} (hk : P[k]? = some p) :
    ∃ b o, a = some ⟨b, o, none⟩ ∧ b < w.heap.size ∧ w.cell? ⟨b, o + k * 5, none⟩ = some (.string p.d) ∧ w.cell? ⟨b, o + k * 5 + 1, none⟩ = some (.int .i64 p.b) ∧ w.cell? ⟨b, o + k * 5 + 2, none⟩ = some (.int .i64 p.s) ∧ w.cell? ⟨b, o + k * 5 + 3, none⟩ = some (.int .i64 p.t) ∧ w.cell? ⟨b, o + k * 5 + 4, none⟩ = some (.int .i64 p.n) := by
  obtain ⟨b, o, h1, h2, h3⟩ := h k p hk
  exact ⟨b, o, h1, rangeAt_lt h3 (by simp [ltC]), h3 0 _ rfl, h3 1 _ rfl, h3 2 _ rfl, h3 3 _ rfl, h3 4 _ rfl⟩

/-- n elements at the head of a block of their own. -/
structure EO {α : Type} (c : α → List Value) (ty : TypeId) (w : World) (b n : Nat) (Q : Nat → α) : Prop where
  row : ∃ C : Array Value, w.heap[b]? = some (.cells C ty (0, 0)) ∧ n * 5 ≤ C.size
  at_ : ∀ i, i < n → w.rangeAt b (i * 5) (c (Q i))
theorem EO.lt {α : Type} {c : α → List Value} {ty : TypeId} {w : World} {b n : Nat} {Q : Nat → α} (h : EO c ty w b n Q) : b < w.heap.size := by
  obtain ⟨C, h1, _⟩ := h.row
  exact (Array.getElem?_eq_some_iff.1 h1).1
theorem EO.chg {α : Type} {c : α → List Value} {ty : TypeId} {w w' : World} {b n : Nat} {Q : Nat → α} {S : Nat → Prop} (h : EO c ty w b n Q) (hc : Chg S w w') (hb : ¬ S b) : EO c ty w' b n Q := by
  obtain ⟨C, h1, h2⟩ := h.row
  have hbl := hc.block b h.lt hb
  exact ⟨⟨C, by rw [hbl, h1], h2⟩, fun i hi j v hj => by rw [World.cell?_of_block hbl]; exact h.at_ i hi j v hj⟩
theorem EO.on {α : Type} {c : α → List Value} {ty : TypeId} {w w' : World} {b n : Nat} {Q : Nat → α} (h : EO c ty w b n Q) (hb : Below w.heap.size w w') : EO c ty w' b n Q :=
  h.chg (S := fun _ => False) (Chg.of_below hb) (fun x => x)
theorem EO.eqQ {α : Type} {c : α → List Value} {ty : TypeId} {w : World} {b n : Nat} {Q Q' : Nat → α} (h : EO c ty w b n Q) (he : ∀ i, i < n → Q i = Q' i) : EO c ty w b n Q' :=
  ⟨h.row, fun i hi => by rw [← he i hi]; exact h.at_ i hi⟩
theorem EO.there {α : Type} {c : α → List Value} {ty : TypeId} {w : World} {b n : Nat} {Q : Nat → α} (h : EO c ty w b n Q) {k : Nat} (hk : k < n) : w.there b (k * 5) 5 := by
  obtain ⟨C, h1, h2⟩ := h.row
  intro j hj
  exact ⟨by rw [cell_of_row h1 (by omega)]; rfl, frozen_of_row h1⟩
theorem EO.els {α : Type} {c : α → List Value} {ty : TypeId} {w : World} {b n : Nat} {Q : Nat → α} {P : List α} (h : EO c ty w b n Q) (hn : P.length ≤ n) (hq : ∀ i p, P[i]? = some p → Q i = p) : Els c w 0 (some ⟨b, 0, none⟩) P := fun k p hk => by
  have h1 := h.at_ k (by have := (List.getElem?_eq_some_iff.1 hk).1; omega)
  rw [hq k p hk] at h1
  exact ⟨b, 0, rfl, Nat.zero_le _, by rw [Nat.zero_add]; exact h1⟩
theorem setCells_other5 (b : Nat) : ∀ (vs : List Value) (o : Nat) (v : World) (x : Nat), x ≠ b → (v.setCells b o vs).heap[x]? = v.heap[x]?
  | [], _, _, _, _ => rfl
  | u :: r, o, v, x, h => (setCells_other5 b r (o + 1) _ x h).trans (Below.heap_setCell v _ u x h)
theorem setCells_size5 (b : Nat) : ∀ (vs : List Value) (o : Nat) (v : World), (v.setCells b o vs).heap.size = v.heap.size
  | [], _, _ => rfl
  | u :: r, o, v => (setCells_size5 b r (o + 1) _).trans (by simp [World.setCell])
theorem setCells_chg {S : Nat → Prop} {b : Nat} (hb : S b) : ∀ (vs : List Value) (o : Nat) (v : World), Chg S v (v.setCells b o vs)
  | [], _, v => Chg.refl S v
  | u :: r, o, v => ((Chg.refl S v).set (p := ⟨b, o, none⟩) hb u).trans (setCells_chg hb r (o + 1) _)
/-- An element is written over. -/
theorem EO.put {α : Type} {c : α → List Value} {ty : TypeId} {w : World} {b n : Nat} {Q : Nat → α} (h : EO c ty w b n Q) (hc5 : ∀ x, (c x).length = 5) {k : Nat} (hk : k < n) (x : α) : EO c ty (w.setCells b (k * 5) (c x)) b n (fun i => if i = k then x else Q i) := by
  obtain ⟨C, h1, h2⟩ := h.row
  obtain ⟨C', g1, g2⟩ := setCells_row (c x) (k * 5) w C h1
  refine ⟨⟨C', g1, by omega⟩, fun i hi => ?_⟩
  have hth := h.there hk
  by_cases e : i = k
  · subst e
    rw [if_pos rfl]
    exact World.rangeAt_setCells_same _ _ _ _ (by rw [hc5]; exact hth)
  · rw [if_neg e]
    exact World.rangeAt_setCells_apart (h.at_ i hi) _ _ _ (Or.inr (by rw [hc5, hc5]; omega))

/-- A growing list, in a block of its own from B on. -/
def GE {α : Type} (c : α → List Value) (ty : TypeId) (B : Nat) (P : List α) (v : Value) (w : World) : Prop :=
  (v = .slice none 0 0 ∧ P = []) ∨ ∃ (g cap : Nat) (C : Array Value), v = .slice (some ⟨g, 0, none⟩) P.length cap ∧ B ≤ g ∧ w.heap[g]? = some (.cells C ty (0, 0)) ∧ P.length ≤ cap ∧ cap ≤ maxLen ∧ C.size = cap * 5 ∧ ∀ i p, P[i]? = some p → w.rangeAt g (i * 5) (c p)
theorem GE.empty {α : Type} (c : α → List Value) (ty : TypeId) (B : Nat) (w : World) : GE c ty B [] (.slice Option.none 0 0) w := Or.inl ⟨rfl, rfl⟩
theorem GE.lit {α : Type} (c : α → List Value) (ty : TypeId) (B : Nat) (w : World) (hB : B ≤ w.heap.size) : GE c ty B [] (.slice (some ⟨w.heap.size, 0, Option.none⟩) 0 0) (w.alloc (.cells #[] ty)) :=
  Or.inr ⟨w.heap.size, 0, #[], rfl, hB, heap_alloc_new w _, Nat.le_refl _, Nat.zero_le _, rfl, fun i p h => by simp at h⟩
theorem GE.shape {α : Type} {c : α → List Value} {ty : TypeId} {B : Nat} {P : List α} {v : Value} {w : World} (h : GE c ty B P v w) : ∃ a cap, v = .slice a P.length cap := by
  rcases h with ⟨rfl, rfl⟩ | ⟨g, cap, C, h1, _⟩
  · exact ⟨Option.none, 0, rfl⟩
  · exact ⟨_, _, h1⟩
theorem GE.chg {α : Type} {c : α → List Value} {ty : TypeId} {B : Nat} {P : List α} {v : Value} {w w' : World} {S : Nat → Prop} (h : GE c ty B P v w) (hc : Chg S w w') (hs : ∀ g, v.ownBlock = some g → ¬ S g) : GE c ty B P v w' := by
  rcases h with h | ⟨g, cap, C, h1, h2, h3, h4, h5, h6, h7⟩
  · exact Or.inl h
  · have hbl := hc.block g (Array.getElem?_eq_some_iff.1 h3).1 (hs g (by rw [h1]; rfl))
    exact Or.inr ⟨g, cap, C, h1, h2, by rw [hbl, h3], h4, h5, h6, fun i p hp j u hj => by rw [World.cell?_of_block hbl]; exact h7 i p hp j u hj⟩
theorem GE.on {α : Type} {c : α → List Value} {ty : TypeId} {B : Nat} {P : List α} {v : Value} {w w' : World} (h : GE c ty B P v w) (hb : Below w.heap.size w w') : GE c ty B P v w' :=
  h.chg (S := fun _ => False) (Chg.of_below hb) (fun _ _ x => x)
theorem GE.els {α : Type} {c : α → List Value} {ty : TypeId} {B : Nat} {P : List α} {a : Option Addr} {n cap : Nat} {w : World} (h : GE c ty B P (.slice a n cap) w) : Els c w 0 a P := fun k p hk => by
  rcases h with ⟨_, rfl⟩ | ⟨g, cap, C, h1, h2, h3, h4, h5, h6, h7⟩
  · simp at hk
  · simp only [Value.slice.injEq] at h1
    obtain ⟨rfl, _, _⟩ := h1
    exact ⟨g, 0, rfl, Nat.zero_le _, by rw [Nat.zero_add]; exact h7 k p hk⟩
theorem GE.own {α : Type} {c : α → List Value} {ty : TypeId} {B : Nat} {P : List α} {v : Value} {w : World} (h : GE c ty B P v w) {g : Nat} (hg : v.ownBlock = some g) : B ≤ g ∧ g < w.heap.size := by
  rcases h with ⟨rfl, rfl⟩ | ⟨g', cap, C, h1, h2, h3, _⟩
  · cases hg
  · subst h1
    simp only [Value.ownBlock, Option.some.injEq] at hg
    subst hg
    exact ⟨h2, (Array.getElem?_eq_some_iff.1 h3).1⟩
/-- What is at a place of it, and that it may be written. -/
theorem GE.at {α : Type} {c : α → List Value} {ty : TypeId} {B : Nat} {P : List α} {a : Option Addr} {n cap : Nat} {w : World} (h : GE c ty B P (.slice a n cap) w) {k : Nat} {p : α} (hk : P[k]? = some p) :
    ∃ g, a = some ⟨g, 0, Option.none⟩ ∧ B ≤ g ∧ g < w.heap.size ∧ w.rangeAt g (k * 5) (c p) ∧ ∀ j, w.frozen? ⟨g, j, Option.none⟩ = false := by
  rcases h with ⟨_, rfl⟩ | ⟨g, cap, C, h1, h2, h3, h4, h5, h6, h7⟩
  · simp at hk
  · simp only [Value.slice.injEq] at h1
    obtain ⟨rfl, _, _⟩ := h1
    exact ⟨g, rfl, h2, (Array.getElem?_eq_some_iff.1 h3).1, h7 k p hk, fun j => frozen_of_row h3⟩
/-- An element of it is written over. -/
theorem GE.put {α : Type} {c : α → List Value} {ty : TypeId} {B : Nat} {P : List α} {g n cap : Nat} {w : World} (h : GE c ty B P (.slice (some ⟨g, 0, Option.none⟩) n cap) w) (hc5 : ∀ x, (c x).length = 5) {k : Nat} (hk : k < P.length) (x : α) : GE c ty B (P.set k x) (.slice (some ⟨g, 0, Option.none⟩) n cap) (w.setCells g (k * 5) (c x)) := by
  rcases h with ⟨h, _⟩ | ⟨g', cap', C, h1, h2, h3, h4, h5, h6, h7⟩
  · cases h
  · simp only [Value.slice.injEq, Option.some.injEq, Addr.mk.injEq, and_true] at h1
    obtain ⟨rfl, rfl, rfl⟩ := h1
    obtain ⟨C', g1, g2⟩ := setCells_row (c x) (k * 5) w C h3
    have hth : w.there g (k * 5) 5 := fun j hj => ⟨by rw [cell_of_row h3 (by omega)]; rfl, frozen_of_row h3⟩
    refine Or.inr ⟨g, cap, C', by rw [List.length_set], h2, g1, by rw [List.length_set]; exact h4, h5, g2.trans h6, fun i p hp => ?_⟩
    by_cases e : i = k
    · subst e
      rw [List.getElem?_set_self hk] at hp
      cases hp
      exact World.rangeAt_setCells_same _ _ _ _ (by rw [hc5]; exact hth)
    · rw [List.getElem?_set_ne (by omega)] at hp
      exact World.rangeAt_setCells_apart (h7 i p hp) _ _ _ (Or.inr (by rw [hc5, hc5]; omega))
/-- As a row that append takes. -/
theorem GE.owns {α : Type} {c : α → List Value} {ty : TypeId} {B : Nat} {P : List α} {v : Value} {w : World} (h : GE c ty B P v w) (hc5 : ∀ x, (c x).length = 5) : ∃ xs, w.ownsRow B ty 5 v P.length xs ∧ ∀ i p, P[i]? = some p → ∀ j u, (c p)[j]? = some u → xs[i * 5 + j]? = some u := by
  rcases h with ⟨rfl, rfl⟩ | ⟨g, cap, C, h1, h2, h3, h4, h5, h6, h7⟩
  · exact ⟨[], World.ownsRow_nil w B ty 5, fun i p h => by simp at h⟩
  · refine ⟨C.toList.take (P.length * 5), ⟨by simp; omega, Or.inr ⟨g, cap, C, h1, h2, h3, h4, h5, h6, rfl⟩⟩, fun i p hp j u hj => ?_⟩
    have hi := (List.getElem?_eq_some_iff.1 hp).1
    have hj5 : j < 5 := by have := (List.getElem?_eq_some_iff.1 hj).1; rw [hc5] at this; exact this
    have hc := h7 i p hp j u hj
    rw [cell_of_row h3 (by omega)] at hc
    rw [List.getElem?_take_of_lt (by omega), Array.getElem?_toList, Array.getElem?_eq_getElem (by omega)]
    exact hc
theorem GE.of {α : Type} {c : α → List Value} {ty : TypeId} {B : Nat} {P : List α} {v : Value} {w : World} {xs : List Value} (hc5 : ∀ x, (c x).length = 5) (h : w.ownsRow B ty 5 v P.length xs) (hx : ∀ i p, P[i]? = some p → ∀ j u, (c p)[j]? = some u → xs[i * 5 + j]? = some u) : GE c ty B P v w := by
  rcases h.2 with ⟨h1, h2⟩ | ⟨g, cap, C, h1, h2, h3, h4, h5, h6, h7⟩
  · exact Or.inl ⟨h1, List.length_eq_zero_iff.1 h2⟩
  · refine Or.inr ⟨g, cap, C, h1, h2, h3, h4, h5, h6, fun i p hp j u hj => ?_⟩
    have hi := (List.getElem?_eq_some_iff.1 hp).1
    have hj5 : j < 5 := by have := (List.getElem?_eq_some_iff.1 hj).1; rw [hc5] at this; exact this
    have e := hx i p hp j u hj
    rw [← h7, List.getElem?_take_of_lt (by omega), Array.getElem?_toList, Array.getElem?_eq_getElem (by omega)] at e
    rw [cell_of_row h3 (by omega)]
    exact e
theorem GE.push' {α : Type} {c : α → List Value} {ty ts : TypeId} {B : Nat} {P : List α} {v : Value} {w : World} (hc5 : ∀ x, (c x).length = 5) (hone : ∀ x, ∀ u ∈ c x, u.oneCell' = true) (hts : Tryd.prog.underlying ts = some (.slice ty)) {zero : Value} (hin : (Tryd.prog.info? ty).map (fun i => (i.zero, i.size, i.bytes)) = some (some zero, 5, 48)) (hz5 : zero.cells.size = 5) (h : GE c ty B P v w) (p : α) {b o : Nat} (hr : w.rangeAt b o (c p)) (cc : Nat) (hn : P.length ≤ 68719476736) (hB : B ≤ w.heap.size) (tr : TypeId) :
    ∃ v' w', (Builtin.append_ #[ts, ts] tr #[v, .slice (some ⟨b, o, Option.none⟩) 1 cc]).run Tryd.prog w = .ok v' w' ∧ (GE c ty B (P ++ [p]) v' w' ∧ Below B w w' ∧ Chg (fun y => v.ownBlock = some y) w w') := by
  obtain ⟨xs, ho, hrow⟩ := h.owns hc5
  obtain ⟨i, hi, hzz⟩ := Option.map_eq_some_iff.1 hin
  simp only [Prod.mk.injEq] at hzz
  obtain ⟨hz, hs, hb⟩ := hzz
  have hnews : ∀ j u, (c p)[j]? = some u → w.cell? ((⟨b, o, Option.none⟩ : Addr).add j) = some u := fun j u hj => by rw [Addr.add_mid]; exact hr j u hj
  obtain ⟨v', w', g1, g2, g3, g4⟩ := run_append_own_wide (P := Tryd.prog) w B ts tr ty i _ 5 48 hts hi hz hs hb hz5 (by omega) v P.length xs ho ⟨b, o, Option.none⟩ 1 cc (c p) (hc5 p) hnews (hone p) (by unfold maxLen; omega) (by omega) hB
  have hxl : xs.length = P.length * 5 := ho.1
  refine ⟨v', w', g1, GE.of hc5 (xs := xs ++ c p) (by simpa using g2) (fun i q hq j u hj => ?_), (Below.refl B w).grown g3 hB fun k hk => (ho.lt k hk).1, ⟨g3.os, g3.tape, g3.output, g3.size, fun y hy hn => g3.block y hy fun e => hn e.symm⟩⟩
  have hj5 : j < 5 := by have := (List.getElem?_eq_some_iff.1 hj).1; rw [hc5] at this; exact this
  by_cases e : i = P.length
  · subst e
    simp only [List.getElem?_append_right (Nat.le_refl _), Nat.sub_self, List.getElem?_cons_zero, Option.some.injEq] at hq
    subst hq
    rw [List.getElem?_append_right (by omega), hxl, Nat.add_sub_cancel_left]
    exact hj
  · have hi : i < P.length := by
      have := (List.getElem?_eq_some_iff.1 hq).1
      simp at this
      omega
    rw [List.getElem?_append_left hi] at hq
    rw [List.getElem?_append_left (by omega)]
    exact hrow i q hq j u hj

end Go.Proofs.YtjckdepcgjfomaaDoor
