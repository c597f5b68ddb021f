
/- The walk of laws.FnExactHash: whatever term lies in memory it answers true; nothing that was there is written. -/
import Derived.Test.YtdmhfembmkappaaDoorHs
import Derived.Test.YtdmhfembmkappaaDoorMk
import Derived.Deep.RegionHeld3
namespace Go.Proofs.YtdmhfembmkappaaDoor
open Go.RowKit Go.Deep

set_option maxRecDepth 100000 in
theorem held_marked (T : Tm) (op n : Int) (s : ByteArray) (a : Option Addr) (len cap k : Nat) (w : World) (hl : Lies w 0 (T.marked k) (tmCells op n s a len cap)) (h1 : 1 ≤ k) (hz : k + 3 * T.size ≤ 1099511627776) :
    Calls Tryd.prog 13 #[.agg #[.int .i64 op, .int .i64 n, .string s, .slice a len cap], .int .i64 (k : Int)] w fun e w' => e = .returned (.int .i64 ((k + 3 * Tm.sizes T.kids : Nat) : Int)) ∧ Below w.heap.size w w' := by
  obtain ⟨op', n', s', ks⟩ := T
  have hh := hl
  simp only [Tm.marked, Lies, tmCells, List.cons.injEq, Value.int.injEq, Value.string.injEq, true_and] at hh
  obtain ⟨_, _, ⟨rfl, rfl, rfl, _⟩, _⟩ := hh
  simp only [Tm.size] at hz
  exact held_any op n s ks a len cap k w hl h1 (by omega)

set_option maxRecDepth 100000 in
theorem madeT_size (op : Int) (ks : List Tm) : (madeT op ks).size ≤ 1 + Tm.sizes ks := by
  unfold madeT pickT
  split
  · simp [Tm.size]
  · simp [Tm.size, Tm.sizes]

end Go.Proofs.YtdmhfembmkappaaDoor
