
/- The walks of spec.l3Two, spec.Pair and impl.Pair: of whatever two terms lie in memory they answer the term of both where that is right, else the zero term; the last in new blocks of its own; nothing that was there is written. -/
import Derived.Test.YteminklafghgpaaGreatDoorHs
import Derived.Deep.RegionHeld3
namespace Go.Proofs.YteminklafghgpaaGreatDoor
open Go.RowKit Go.Deep

set_option maxRecDepth 100000 in
/-- A term of two kids that were laid in a block of their own. -/
theorem lies_two {w : World} {t u : Tm} {op1 n1 op2 n2 : Int} {s1 s2 : ByteArray} {a1 a2 : Option Addr} {l1 c1 l2 c2 : Nat} {L : Nat} (h1 : Lies w L t (tmCells op1 n1 s1 a1 l1 c1)) (h2 : Lies w L u (tmCells op2 n2 s2 a2 l2 c2)) (hL : L ≤ w.heap.size) (op : Int) (hop : (Lit.int .i64 op).wf = true) :
    Lies (w.alloc (.cells #[.int .i64 op1, .int .i64 n1, .string s1, .slice a1 l1 c1, .int .i64 op2, .int .i64 n2, .string s2, .slice a2 l2 c2] 35)) L (.node op 0 ByteArray.empty [t, u]) (tmCells op 0 ByteArray.empty (some ⟨w.heap.size, 0, none⟩) 2 2) := by
  simp only [Lies, LiesAll]
  refine ⟨_, _, rfl, ⟨by simp [maxLen], by simp, by simp [maxLen]⟩, ⟨hop, by decide⟩, ⟨w.heap.size, 0, _, rfl, hL, fun j v hj => ?_, h1.below (ab _)⟩, ⟨w.heap.size, 0, _, rfl, hL, fun j v hj => ?_, h2.below (ab _)⟩, trivial⟩
  · rw [Nat.zero_mul, Nat.zero_add]
    refine box_cell w _ 35 j v ?_
    match j, hj with
    | 0, hj => simpa [tmCells] using hj
    | 1, hj => simpa [tmCells] using hj
    | 2, hj => simpa [tmCells] using hj
    | 3, hj => simpa [tmCells] using hj
    | j + 4, hj => simp [tmCells] at hj
  · rw [show 0 + (0 + 1) * 4 + j = 4 + j by omega]
    refine box_cell w _ 35 (4 + j) v ?_
    match j, hj with
    | 0, hj => simpa [tmCells] using hj
    | 1, hj => simpa [tmCells] using hj
    | 2, hj => simpa [tmCells] using hj
    | 3, hj => simpa [tmCells] using hj
    | j + 4, hj => simp [tmCells] at hj

set_option maxRecDepth 100000 in
theorem gw_world {P : Program} {c : Code} {Q : Exit → Act → World → Prop} {a : Act} {v w : World} (h : v = w) (hk : Code.wp P c Q a w) : Code.wp P c Q a v := h ▸ hk

end Go.Proofs.YteminklafghgpaaGreatDoor
