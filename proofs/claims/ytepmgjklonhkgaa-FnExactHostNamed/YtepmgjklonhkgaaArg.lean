
/- An argument of the laws' own term type, opened: the term that it is, and that it lies in memory. -/
import Derived.Test.YtepmgjklonhkgaaRows
import Derived.Test.YtepmgjklonhkgaaTm
import Derived.OpenShut
import Derived.ShutString
import Derived.ChangeOld
namespace Go.Proofs.Ytepmgjklonhkgaa
open Go.ChangeShapes Go.WideShapes Go.ChangeAt Go.RowKit Go.Deep

set_option maxRecDepth 100000 in
theorem own : ownKnob Try.prog.godebug = none := by kernel_rfl
set_option maxRecDepth 100000 in
theorem laidOut : laidOutB Try.prog = true := by kernel_rfl
theorem cells24 : Try.prog.cellsOf 70 = 4 := by kernel_rfl

set_option maxRecDepth 100000 in
/-- An argument of the laws' own term type, opened. -/
theorem open_arg {H : Type} {enc : TypeId × Value → H} {W : World} {base : Nat} {v : Value} {d : DataW H} {p : List MemPlace} (hv : Value.okWide Try.prog W .any base 70 v) (h : DataW.Trod enc Try.prog W 0 (fun _ => true) true 70 v d p) :
    ∃ (t : Tm) (op n : Int) (s : ByteArray) (a : Option Addr) (len cap : Nat), v = .agg #[.int .i64 op, .int .i64 n, .string s, .slice a len cap] ∧ Lies W 0 t (tmCells op n s a len cap) := by
  obtain ⟨cs, rfl, hsz⟩ := okWide_struct Try.underlying70 hv
  obtain ⟨fuel, hf⟩ := h
  obtain ⟨T, hT⟩ := open_tm (t := 22) (e := 70) (tint := 3) (tstr := 9) Try.underlying70 (by kernel_rfl) cells24 rfl rfl rfl rfl Try.underlying3 Try.underlying9 Try.underlying22 fuel _ _ hf
  obtain ⟨op, n, s, a, len, cap, he⟩ := hT.cells
  rw [he] at hT
  refine ⟨T, op, n, s, a, len, cap, ?_, hT⟩
  have : cs = #[.int .i64 op, .int .i64 n, .string s, .slice a len cap] := by
    apply Array.ext'
    simpa [Value.cells, tmCells] using he
  rw [this]

end Go.Proofs.Ytepmgjklonhkgaa
