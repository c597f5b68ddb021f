
/- The walks of laws.toTerm and laws.toTermS: of whatever term lies in memory, of at most 2^21 within it, they make the same term in new memory; nothing that was there is written. -/
import Derived.Test.YtdcfkbnppbeahaaTs
namespace Go.Proofs.Ytdcfkbnppbeahaa
open Go.RowKit Go.Deep


def madeTm (n : Nat) : Array Value := madeCells #[.int .i64 0, .int .i64 0, .string ByteArray.empty, .slice none 0 0] (n * 4)
theorem madeTm_size (n : Nat) : (madeTm n).size = n * 4 := size_madeCells _ _

theorem setCells_row {b : Nat} {t : TypeId} {fr : Nat × Nat} : ∀ (vs : List Value) (o : Nat) (w : World) (C : Array Value), w.heap[b]? = some (.cells C t fr) →
    ∃ C', (w.setCells b o vs).heap[b]? = some (.cells C' t fr) ∧ C'.size = C.size
  | [], o, w, C, h => ⟨C, h, rfl⟩
  | v :: r, o, w, C, h => by
    have h1 : (w.setCell ⟨b, o, none⟩ v).heap[b]? = some (.cells (C.setIfInBounds o v) t fr) := by
      simp only [World.setCell, Array.getElem?_modify]
      simp [h]
    obtain ⟨C', h2, h3⟩ := setCells_row r (o + 1) _ _ h1
    exact ⟨C', h2, by simpa using h3⟩

theorem cell_of_row {w : World} {b j : Nat} {C : Array Value} {t : TypeId} {fr : Nat × Nat} (h : w.heap[b]? = some (.cells C t fr)) (hj : j < C.size) : w.cell? ⟨b, j, none⟩ = some C[j] := by
  unfold World.cell?
  rw [h]
  simp [hj]

theorem frozen_of_row {w : World} {b j : Nat} {C : Array Value} {t : TypeId} (h : w.heap[b]? = some (.cells C t (0, 0))) : w.frozen? ⟨b, j, none⟩ = false := by
  unfold World.frozen?
  rw [h]
  simp

/-- In the middle of the copy: k of the kids are there. -/
structure ToMid (w : World) (ks : List Tm) (k : Nat) (wr : World) : Prop where
  below : Below w.heap.size w wr
  row : ∃ C, wr.heap[w.heap.size]? = some (.cells C 42 (0, 0)) ∧ C.size = ks.length * 4
  done : ∀ j t, j < k → ks[j]? = some t → ∃ cs, wr.rangeAt w.heap.size (j * 4) cs ∧ Lies wr (w.heap.size + 1) t cs

theorem ToMid.start (w : World) (ks : List Tm) : ToMid w ks 0 (w.alloc (.cells (madeTm ks.length) 42)) :=
  ⟨(Below.refl _ _).alloc (Nat.le_refl _) _, ⟨madeTm ks.length, heap_alloc_new w _, madeTm_size _⟩, fun _ _ hj => absurd hj (Nat.not_lt_zero _)⟩

theorem ToMid.lt {w wr : World} {ks : List Tm} {k : Nat} (h : ToMid w ks k wr) : w.heap.size < wr.heap.size := by
  obtain ⟨C, h1, _⟩ := h.row
  by_cases hb : w.heap.size < wr.heap.size
  · exact hb
  · have : wr.heap[w.heap.size]? = none := by simp; omega
    rw [this] at h1
    cases h1

theorem ToMid.row2 {w wr w2 : World} {ks : List Tm} {k : Nat} (h : ToMid w ks k wr) (hb : Below wr.heap.size wr w2) : ∃ C, w2.heap[w.heap.size]? = some (.cells C 42 (0, 0)) ∧ C.size = ks.length * 4 := by
  obtain ⟨C, h1, h2⟩ := h.row
  exact ⟨C, (hb.block _ h.lt).trans h1, h2⟩

theorem ToMid.there {w wr w2 : World} {ks : List Tm} {k : Nat} (h : ToMid w ks k wr) (hb : Below wr.heap.size wr w2) (hk : k < ks.length) : w2.there w.heap.size (k * 4) 4 := by
  obtain ⟨C, h1, h2⟩ := h.row2 hb
  intro j hj
  exact ⟨by rw [cell_of_row h1 (by omega)]; rfl, frozen_of_row h1⟩

theorem ToMid.step {w wr w2 : World} {ks : List Tm} {k : Nat} {cs : List Value} (h : ToMid w ks k wr) (hb : Below wr.heap.size wr w2) (hk : k < ks.length) (hl : Lies w2 wr.heap.size ks[k] cs) :
    ToMid w ks (k + 1) (w2.setCells w.heap.size (k * 4) cs) := by
  have hlt := h.lt
  have h4 := hl.length
  have hth := h.there hb hk
  have out : ∀ b o, w.heap.size + 1 ≤ b → (w2.setCells w.heap.size (k * 4) cs).cell? ⟨b, o, none⟩ = w2.cell? ⟨b, o, none⟩ := fun b o hbb =>
    World.cell?_setCells_out _ _ _ _ _ (fun e => by simp only at e; omega)
  obtain ⟨C, h1, h2⟩ := h.row2 hb
  obtain ⟨C', g1, g2⟩ := setCells_row cs (k * 4) w2 C h1
  refine ⟨?_, ⟨C', g1, g2.trans h2⟩, fun j t hj ht => ?_⟩
  · refine (h.below.trans (hb.mono (by omega))).trans ?_
    have : ∀ (vs : List Value) (o : Nat) (v : World), Below w.heap.size v (v.setCells w.heap.size o vs) := by
      intro vs
      induction vs with
      | nil => exact fun o v => Below.refl _ _
      | cons x r ih => exact fun o v => ((Below.refl _ v).setCell (p := ⟨w.heap.size, o, none⟩) (Nat.le_refl _) x).trans (ih (o + 1) _)
    exact this _ _ _
  · rcases Nat.lt_succ_iff_lt_or_eq.1 hj with hjk | rfl
    · obtain ⟨cs', r1, r2⟩ := h.done j t hjk ht
      have r3 : w2.rangeAt w.heap.size (j * 4) cs' := rangeAt_below r1 hb
      refine ⟨cs', World.rangeAt_setCells_apart r3 _ _ _ (Or.inr (Or.inl (by rw [r2.length]; omega))), ?_⟩
      exact Lies.carry (Nat.le_refl _) (fun b o hb1 _ => out b o hb1) t cs' (r2.below hb)
    · rw [List.getElem?_eq_getElem hk] at ht
      cases ht
      exact ⟨cs, World.rangeAt_setCells_same _ _ _ _ (by rw [h4]; exact hth), Lies.carry (by omega) (fun b o hb1 _ => out b o (by omega)) _ cs hl⟩

theorem ToMid.lies {w wr : World} {ks : List Tm} (h : ToMid w ks ks.length wr) : LiesAll wr w.heap.size (some ⟨w.heap.size, 0, none⟩) 0 ks :=
  LiesAll.mk fun k t hk => by
    have hkl : k < ks.length := by
      by_cases hq : k < ks.length
      · exact hq
      · rw [List.getElem?_eq_none (by omega)] at hk; cases hk
    obtain ⟨cs, h1, h2⟩ := h.done k t hkl hk
    exact ⟨w.heap.size, 0, cs, rfl, Nat.le_refl _, by rw [Nat.zero_add, Nat.zero_add]; exact h1, h2.any (by omega)⟩

theorem below_alloc3 (w : World) (x y z : Obj) : Below w.heap.size w (((w.alloc x).alloc y).alloc z) :=
  (((Below.refl _ _).alloc (Nat.le_refl _) _).alloc (by simp) _).alloc (by simp; omega) _
theorem heap_size_alloc (w : World) (x : Obj) : (w.alloc x).heap.size = w.heap.size + 1 := by simp
theorem cell_set_other {w : World} {b o b' o' : Nat} {v : Value} (h : b' ≠ b) : (w.setCell ⟨b, o, none⟩ v).cell? ⟨b', o', none⟩ = w.cell? ⟨b', o', none⟩ :=
  World.cell?_setCell_other _ _ _ _ (fun e => h (by cases e; rfl))

end Go.Proofs.Ytdcfkbnppbeahaa
