
/- What the card lays, met: the variable of the named error holds a pointer; the tables of Go's library; and the variable read again behind a call. -/
import Derived.Test.YteminklafghgpaaDoorIs
import Derived.Test.YteminklafghgpaaDoorArg
import Derived.ProofKit
import Derived.LaidMore
import Derived.MakeChecks
import Derived.LaidHandle
import Derived.Stop.LaidErr
import Derived.Stop.LaidTwo
import Derived.Stop.Joined
import Derived.SevenTiedAt
namespace Go.Proofs.YteminklafghgpaaDoor
open Go.ChangeShapes Go.WideShapes Go.ChangeAt Go.RowKit Go.Deep

def laidE : List (String × DataW Unit) := [("loop.example/g00328/impl.errNoTerm", Rows.laid_loop_example_g00328_impl_errNoTerm)]
def laid4 : List (String × DataW Unit) := [("math/bits.deBruijn32tab", Rows.laid_math_bits_deBruijn32tab), ("math/bits.deBruijn64tab", Rows.laid_math_bits_deBruijn64tab), ("internal/strconv.uint64pow10", Rows.laid_internal_strconv_uint64pow10), ("loop.example/g00328/impl.errNoTerm", Rows.laid_loop_example_g00328_impl_errNoTerm)]

theorem doorE_met (os : Os) (args : Array Value) : laidMetH Tryd.prog laidE ((World.doorLaid Tryd.prog 400 os).forCall (fun _ _ => 0) ⟨#[], args, []⟩).memory :=
  laidMetH_of_parts3 (fuel := 8) (laidMet_of_run' 8 (by kernel_rfl) (by kernel_rfl)) (by kernel_rfl) (by kernel_rfl)
theorem door4_met (os : Os) (args : Array Value) : laidMetH Tryd.prog laid4 ((World.doorLaid Tryd.prog 400 os).forCall (fun _ _ => 0) ⟨#[], args, []⟩).memory :=
  laidMetH_of_parts3 (fuel := 8) (laidMet_of_run' 8 (by kernel_rfl) (by kernel_rfl)) (by kernel_rfl) (by kernel_rfl)

theorem gE : Tryd.prog.globalNamed "loop.example/g00328/impl.errNoTerm" = some 0 := by kernel_rfl
theorem gEType : (Tryd.prog.globals[0]?).map (·.type) = some 78 := by kernel_rfl
theorem cells137 : Tryd.prog.cellsOf 152 = 1 := by kernel_rfl
theorem cells9 : Tryd.prog.cellsOf 9 = 1 := by kernel_rfl
theorem star : "*" ++ "errors.errorString" = "*errors.errorString" := by decide
theorem rowE (u : TypeId) (h : Tryd.prog.typeName? 3 u = some "*errors.errorString") : u = 117 :=
  typeName_ptr_named (nm := "errors.errorString") (by rw [star]; kernel_rfl) (by kernel_rfl) (by decide) u (by rw [star]; exact h)

theorem err_of_met {W : World} {r : List (String × DataW Unit)} (h : laidMet Tryd.prog (("loop.example/g00328/impl.errNoTerm", Rows.laid_loop_example_g00328_impl_errNoTerm) :: r) W) : ∃ a, W.var? Tryd.prog "loop.example/g00328/impl.errNoTerm" = some #[.iface 117 (.pointer (some a))] := by
  obtain ⟨a, s, hv, _⟩ := laid_sentinel h gE gEType Tryd.underlying78 rowE Tryd.underlying117 Tryd.underlying152 rfl rfl Tryd.underlying9 cells137 cells9
  exact ⟨a, hv⟩
theorem err_of_var {W : World} {a : Addr} (hv : W.var? Tryd.prog "loop.example/g00328/impl.errNoTerm" = some #[.iface 117 (.pointer (some a))]) : Err W :=
  ⟨a, by have := World.var?_cell gE hv 0; simpa [ErrAt] using this⟩
theorem err_of_laidE {W : World} (h : laidMetH Tryd.prog laidE W) : ∃ a, W.var? Tryd.prog "loop.example/g00328/impl.errNoTerm" = some #[.iface 117 (.pointer (some a))] := by
  rw [MakeChecks.laidMetH_plain _ _ _ (by kernel_rfl)] at h
  exact err_of_met h
theorem err_of_laid4 {W : World} (h : laidMetH Tryd.prog laid4 W) : ∃ a, W.var? Tryd.prog "loop.example/g00328/impl.errNoTerm" = some #[.iface 117 (.pointer (some a))] := by
  rw [MakeChecks.laidMetH_plain _ _ _ (by kernel_rfl)] at h
  exact err_of_met h.tail.tail.tail

theorem pow_data : (Rows.laid_internal_strconv_uint64pow10 : DataW Unit) = Lib.tabData .u64 Lib.pow10Tab := by kernel_rfl
theorem tab_of_laid4 {W : World} (h : laidMetH Tryd.prog laid4 W) : Tab W := by
  rw [MakeChecks.laidMetH_plain _ _ _ (by kernel_rfl)] at h
  have h2 : laidMet Tryd.prog (("internal/strconv.uint64pow10", Lib.tabData .u64 Lib.pow10Tab) :: [("loop.example/g00328/impl.errNoTerm", Rows.laid_loop_example_g00328_impl_errNoTerm)]) W := by
    have := h.tail.tail
    rw [pow_data] at this
    exact this
  exact Lib.tabIs_of_head (g := 1) (t := 89) (e := 73) (n := 20) (by kernel_rfl) (by kernel_rfl) (by kernel_rfl) (by kernel_rfl) (by kernel_rfl) (by kernel_rfl) h2

theorem var?_below {P : Program} {W W' : World} {n : String} {cs : Array Value} (h : W.var? P n = some cs) (hb : Below W.heap.size W W') : W'.var? P n = some cs := by
  unfold World.var? at h ⊢
  cases hg : P.globalNamed n with
  | none => simp [hg] at h
  | some g =>
    simp only [hg, Option.bind_some] at h ⊢
    have hlt : g < W.heap.size := by
      rcases Nat.lt_or_ge g W.heap.size with h' | h'
      · exact h'
      · simp [Array.getElem?_eq_none h'] at h
    rw [hb.block g hlt]
    exact h

/-- The variable of the named error, read as a token. -/
theorem err_read {H : Type} (enc : TypeId × Value → H) {W : World} {a : Addr} (h : W.var? Tryd.prog "loop.example/g00328/impl.errNoTerm" = some #[.iface 117 (.pointer (some a))]) (sp : Nat → Bool) :
    DataW.TrodVars enc Tryd.prog W sp ["loop.example/g00328/impl.errNoTerm"] [tok enc (.iface 117 (.pointer (some a)))] [.cell 0 0] :=
  vars_read1 enc gE gEType Tryd.underlying78 h trivial sp

end Go.Proofs.YteminklafghgpaaDoor
