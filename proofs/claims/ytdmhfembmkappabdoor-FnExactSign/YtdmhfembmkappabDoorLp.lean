
/- The walk of laws.FnExactPair: whatever two terms lie in memory it answers true; nothing that was there is written. -/
import Derived.Test.YtdmhfembmkappabDoorPr
import Derived.Test.YtdmhfembmkappabDoorLh
import Derived.Deep.DeepCutAuto
namespace Go.Proofs.YtdmhfembmkappabDoor
open Go.RowKit Go.Deep

set_option maxRecDepth 100000 in
theorem ZBox.drew {w : World} {g : Nat} (h : ZBox w g) : ZBox w.drew g := h
set_option maxRecDepth 100000 in
/-- The box, filled. -/
theorem ZBox.fill {w : World} {g : Nat} (h : ZBox w g) (op n : Int) (s : ByteArray) (a : Option Addr) (len cap : Nat) : RowT 28 ((((w.setCell ⟨g, 0, none⟩ (.int .i64 op)).setCell ⟨g, 1, none⟩ (.int .i64 n)).setCell ⟨g, 2, none⟩ (.string s)).setCell ⟨g, 3, none⟩ (.slice a len cap)) g op n s a len cap := by
  unfold ZBox at h
  unfold RowT
  have h0 := setCell_row (o := 0) (.int .i64 op) h
  have h1 := setCell_row (o := 1) (.int .i64 n) h0
  have h2 := setCell_row (o := 2) (.string s) h1
  have h3 := setCell_row (o := 3) (.slice a len cap) h2
  exact h3

/-- What an order of the two makings leaves: the box of the answer, which lies in memory; what was there stays. -/
def PairCut (T : Tm) (w2 : World) (p : Value) (wx : World) : Prop := ∃ bW opW nW sW aW lenW capW, p = .pointer (some ⟨bW, 0, none⟩) ∧ RowT 28 wx bW opW nW sW aW lenW capW ∧ Lies wx 0 T (tmCells opW nW sW aW lenW capW) ∧ Below w2.heap.size w2 wx

set_option maxRecDepth 100000 in
theorem PairCut.late {T : Tm} {w2 w5 : World} {op n : Int} {s : ByteArray} {a : Option Addr} {len cap : Nat} (hb : Below w2.heap.size w2 w5) (hl : Lies w5 0 T (tmCells op n s a len cap)) : PairCut T w2 (.pointer (some ⟨w5.heap.size, 0, none⟩)) (w5.alloc (.cells #[.int .i64 op, .int .i64 n, .string s, .slice a len cap] 28)) :=
  ⟨_, _, _, _, _, _, _, rfl, RowT.new 28 w5 op n s a len cap, hl.below (ab _), bt hb (ab _) (Nat.le_refl _)⟩

set_option maxRecDepth 100000 in
theorem PairCut.early {T : Tm} {w2 w5 : World} {g L : Nat} {op n : Int} {s : ByteArray} {a : Option Addr} {len cap : Nat} (hb : Below w2.heap.size w2 w5) (hz : ZBox w5 g) (hg : w2.heap.size ≤ g) (hl : Lies w5 L T (tmCells op n s a len cap)) (hL : g < L) :
    PairCut T w2 (.pointer (some ⟨g, 0, none⟩)) ((((w5.setCell ⟨g, 0, none⟩ (.int .i64 op)).setCell ⟨g, 1, none⟩ (.int .i64 n)).setCell ⟨g, 2, none⟩ (.string s)).setCell ⟨g, 3, none⟩ (.slice a len cap)) :=
  ⟨_, _, _, _, _, _, _, rfl, hz.fill op n s a len cap, set4_lies hl hL 0 (Nat.zero_le _), set4_below hb hg⟩

end Go.Proofs.YtdmhfembmkappabDoor
