
/- The walks of laws.toTerm and laws.toTermS: of whatever term lies in memory, of at most 2^21 within it, they make the same term in new memory; nothing that was there is written. -/
import Derived.Test.YtjckdepcgjfomaaDoorTs
namespace Go.Proofs.YtjckdepcgjfomaaDoor
open Go.RowKit Go.Deep


def madeTm (n : Nat) : Array Value := madeCells #[.int .i64 0, .int .i64 0, .string ByteArray.empty, .slice none 0 0] (n * 4)
theorem madeTm_size (n : Nat) : (madeTm n).size = n * 4 := size_madeCells _ _

theorem setCells_row {b : Nat} {t : TypeId} {fr : Nat × Nat} : ∀ (vs : List Value) (o : Nat) (w : World) (C : Array Value), w.heap[b]? = some (.cells C t fr) →
    ∃ C', (w.setCells b o vs).heap[b]? = some (.cells C' t fr) ∧ C'.size = C.size
  | [], o, w, C, h => ⟨C, h, rfl⟩
  | v :: r, o, w, C, h => by
    have h1 : (w.setCell ⟨b, o, none⟩ v).heap[b]? = some (.cells (C.setIfInBounds o v) t fr) := by
      simp only [World.setCell, Array.getElem?_modify]
      simp [h]
    obtain ⟨C', h2, h3⟩ := setCells_row r (o + 1) _ _ h1
    exact ⟨C', h2, by simpa using h3⟩

theorem cell_of_row {w : World} {b j : Nat} {C : Array Value} {t : TypeId} {fr : Nat × Nat} (h : w.heap[b]? = some (.cells C t fr)) (hj : j < C.size) : w.cell? ⟨b, j, none⟩ = some C[j] := by
  unfold World.cell?
  rw [h]
  simp [hj]

theorem frozen_of_row {w : World} {b j : Nat} {C : Array Value} {t : TypeId} (h : w.heap[b]? = some (.cells C t (0, 0))) : w.frozen? ⟨b, j, none⟩ = false := by
  unfold World.frozen?
  rw [h]
  simp

theorem below_alloc3 (w : World) (x y z : Obj) : Below w.heap.size w (((w.alloc x).alloc y).alloc z) :=
  (((Below.refl _ _).alloc (Nat.le_refl _) _).alloc (by simp) _).alloc (by simp; omega) _
theorem heap_size_alloc (w : World) (x : Obj) : (w.alloc x).heap.size = w.heap.size + 1 := by simp
theorem cell_set_other {w : World} {b o b' o' : Nat} {v : Value} (h : b' ≠ b) : (w.setCell ⟨b, o, none⟩ v).cell? ⟨b', o', none⟩ = w.cell? ⟨b', o', none⟩ :=
  World.cell?_setCell_other _ _ _ _ (fun e => h (by cases e; rfl))

end Go.Proofs.YtjckdepcgjfomaaDoor
