
/- The walks of spec.Hash and impl.Hash: of whatever term lies in memory they answer its hash where that is right, else the zero term; the second in new blocks of its own; nothing that was there is written. -/
import Derived.Test.YteminklafghgpaaGreatDoorNw
namespace Go.Proofs.YteminklafghgpaaGreatDoor
open Go.RowKit Go.Deep

/-- What is made of a term under an operator. -/
def madeT (op : Int) (ks : List Tm) : Tm := pickT (okT (.node op 0 ByteArray.empty ks)) (.node op 0 ByteArray.empty ks)

set_option maxRecDepth 100000 in
/-- A term of one kid that was laid in a block of its own. -/
theorem lies_one {w : World} {t : Tm} {cs : List Value} {L : Nat} (h : Lies w L t cs) (hL : L ≤ w.heap.size) (op : Int) (hop : (Lit.int .i64 op).wf = true) : Lies (w.alloc (.cells cs.toArray 35)) L (.node op 0 ByteArray.empty [t]) (tmCells op 0 ByteArray.empty (some ⟨w.heap.size, 0, none⟩) 1 1) := by
  simp only [Lies, LiesAll]
  refine ⟨_, _, rfl, ⟨by simp [maxLen], by simp, by simp [maxLen]⟩, ⟨hop, by decide⟩, ⟨w.heap.size, 0, cs, rfl, hL, fun j v hj => ?_, h.below ((Below.refl _ _).alloc (Nat.le_refl _) _)⟩, trivial⟩
  have := box_at w cs j v hj
  simpa using this

/-- The box of a result, still as it was made. -/
def ZBox (w : World) (g : Nat) : Prop := w.heap[g]? = some (.cells #[.int .i64 0, .int .i64 0, .string ByteArray.empty, .slice none 0 0] 35 (0, 0))
set_option maxRecDepth 100000 in
theorem ZBox.new (w : World) : ZBox (w.alloc (.cells #[.int .i64 0, .int .i64 0, .string ByteArray.empty, .slice none 0 0] 35)) w.heap.size := heap_alloc_new w _
set_option maxRecDepth 100000 in
theorem ZBox.below {w w' : World} {g : Nat} (h : ZBox w g) (hb : Below w.heap.size w w') : ZBox w' g := (hb.block g (lt_of_heap h)).trans h
set_option maxRecDepth 100000 in
theorem ZBox.facts {w : World} {g : Nat} (h : ZBox w g) : w.cell? ⟨g, 0, none⟩ = some (.int .i64 0) ∧ w.cell? ⟨g, 1, none⟩ = some (.int .i64 0) ∧ w.cell? ⟨g, 2, none⟩ = some (.string ByteArray.empty) ∧ w.cell? ⟨g, 3, none⟩ = some (.slice none 0 0) ∧
    w.frozen? ⟨g, 0, none⟩ = false ∧ w.frozen? ⟨g, 1, none⟩ = false ∧ w.frozen? ⟨g, 2, none⟩ = false ∧ w.frozen? ⟨g, 3, none⟩ = false :=
  ⟨cell_of_row h (by simp), cell_of_row h (by simp), cell_of_row h (by simp), cell_of_row h (by simp), frozen_of_row h, frozen_of_row h, frozen_of_row h, frozen_of_row h⟩
set_option maxRecDepth 100000 in
theorem set4_lies {w : World} {L g : Nat} {x0 x1 x2 x3 : Value} {t : Tm} {cs : List Value} (h : Lies w L t cs) (hg : g < L) (L' : Nat) (hL : L' ≤ L) : Lies ((((w.setCell ⟨g, 0, none⟩ x0).setCell ⟨g, 1, none⟩ x1).setCell ⟨g, 2, none⟩ x2).setCell ⟨g, 3, none⟩ x3) L' t cs :=
  Lies.carry hL (fun b _ hb _ => World.cell?_of_block (set4_heap w g x0 x1 x2 x3 b (by omega))) t cs h
set_option maxRecDepth 100000 in
theorem ab {w : World} (x : Obj) : Below w.heap.size w (w.alloc x) := (Below.refl _ _).alloc (Nat.le_refl _) _
set_option maxRecDepth 100000 in
theorem bt {B : Nat} {w v v' : World} (h : Below B w v) (hb : Below v.heap.size v v') (hB : B ≤ w.heap.size) : Below B w v' := h.trans (hb.mono (Nat.le_trans hB h.size))

end Go.Proofs.YteminklafghgpaaGreatDoor
