
/- The walks of laws.eqStringS, laws.markStringS and laws.heldStringS over rows of texts. -/
import Derived.Test.YtjckdepcgjfomaaDoorHj
import Derived.Test.YtjckdepcgjfomaaDoorMt
import Derived.Deep.RegionHeld3
namespace Go.Proofs.YtjckdepcgjfomaaDoor
open Go.RowKit Go.Deep

/-- The texts stand in the places of a row. -/
def Stand (w : World) (g : Nat) (l : List ByteArray) : Prop := ∀ k t, l[k]? = some t → w.cell? ⟨g, k, none⟩ = some (.string t)
theorem Stand.on {w w' : World} {g : Nat} {l : List ByteArray} (h : Stand w g l) (hb : Below w.heap.size w w') : Stand w' g l := fun k t hk => below_some hb (h k t hk)

theorem below_drewX {w v : World} (h : Below w.drew.heap.size w.drew v) : Below w.heap.size w v := ((Below.refl _ _).drew).trans h

/-- A row of texts of its own, marked up to a place. -/
def Marked (w : World) (g L i : Nat) : Prop := ∃ cur : Array Value, w.heap[g]? = some (.cells cur 9 (0, 0)) ∧ L ≤ cur.size ∧ ∀ j, j < i → cur[j]? = some (.string (mtx (j + 1)))
theorem Marked.on {w w' : World} {g L i : Nat} (h : Marked w g L i) (hb : Below w.heap.size w w') : Marked w' g L i := by
  obtain ⟨cur, h1, h2, h3⟩ := h
  exact ⟨cur, by rw [hb.block g (Array.getElem?_eq_some_iff.1 h1).1, h1], h2, h3⟩
theorem Marked.next {w : World} {g L i : Nat} (h : Marked w g L i) (hi : i < L) : Marked (w.setCell ⟨g, i, none⟩ (.string (mtx (i + 1)))) g L (i + 1) := by
  obtain ⟨cur, h1, h2, h3⟩ := h
  have e := heap_setCell_same w g i cur 9 (.string (mtx (i + 1))) h1
  refine ⟨_, e, by simpa using h2, fun j hj => ?_⟩
  rcases Nat.lt_or_ge j i with hl | hl
  · rw [Array.getElem?_setIfInBounds_ne (by omega)]
    exact h3 j hl
  · obtain rfl : j = i := by omega
    rw [Array.getElem?_setIfInBounds_self_of_lt (by omega)]
theorem Marked.cell {w : World} {g L i j : Nat} (h : Marked w g L i) (hj : j < i) : w.cell? ⟨g, j, none⟩ = some (.string (mtx (j + 1))) := by
  obtain ⟨cur, h1, h2, h3⟩ := h
  have hc : j < cur.size := (Array.getElem?_eq_some_iff.1 (h3 j hj)).1
  rw [cell_of_row h1 hc, ← h3 j hj, Array.getElem?_eq_getElem hc]
theorem Marked.some {w : World} {g L i j : Nat} (h : Marked w g L i) (hj : j < L) : ∃ v, w.cell? ⟨g, j, none⟩ = Option.some v := by
  obtain ⟨cur, h1, h2, h3⟩ := h
  exact ⟨_, cell_of_row h1 (show j < cur.size by omega)⟩
theorem Marked.free {w : World} {g L i j : Nat} (h : Marked w g L i) : w.frozen? ⟨g, j, none⟩ = false := by
  obtain ⟨cur, h1, h2, h3⟩ := h
  simp [World.frozen?, h1]

end Go.Proofs.YtjckdepcgjfomaaDoor
