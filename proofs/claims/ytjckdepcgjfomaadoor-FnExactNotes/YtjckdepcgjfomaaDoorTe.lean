/- What the card lays, met: the variables of the three named errors hold pointers; the table of powers; a number of the library's own; and the variable read again behind a call. -/
import Derived.Test.YtjckdepcgjfomaaDoorWr
import Derived.ProofKit
import Derived.LaidMore
import Derived.MakeChecks
import Derived.LaidHandle
import Derived.Stop.LaidErr
import Derived.Stop.LaidTwo
import Derived.Stop.Joined
import Derived.SevenTiedAt
import Derived.HandedShaped
import Derived.Lay
import Derived.Test.YtjckdepcgjfomaaDoorRows
namespace Go.Proofs.YtjckdepcgjfomaaDoor
open Go.ChangeShapes Go.WideShapes Go.ChangeAt Go.RowKit Go.Deep

def laid8 : List (String × DataW Unit) := [("math/bits.deBruijn32tab", Rows.laid_math_bits_deBruijn32tab), ("math/bits.deBruijn64tab", Rows.laid_math_bits_deBruijn64tab), ("internal/strconv.uint64pow10", Rows.laid_internal_strconv_uint64pow10), ("unicode/utf8.acceptRanges", Rows.laid_unicode_utf8_acceptRanges), ("strconv.ErrRange", Rows.laid_strconv_ErrRange), ("strconv.ErrSyntax", Rows.laid_strconv_ErrSyntax), ("loop.example/g00328/impl.errNoNote", Rows.laid_loop_example_g00328_impl_errNoNote), ("unicode/utf8.first", Rows.laid_unicode_utf8_first)]

theorem gN : Tryd.prog.globalNamed "loop.example/g00328/impl.errNoNote" = some 0 := by kernel_rfl
theorem gNType : (Tryd.prog.globals[0]?).map (·.type) = some 56 := by kernel_rfl
theorem gS : Tryd.prog.globalNamed "strconv.ErrSyntax" = some 5 := by kernel_rfl
theorem gSType : (Tryd.prog.globals[5]?).map (·.type) = some 56 := by kernel_rfl
theorem gR : Tryd.prog.globalNamed "strconv.ErrRange" = some 6 := by kernel_rfl
theorem gRType : (Tryd.prog.globals[6]?).map (·.type) = some 56 := by kernel_rfl
theorem cells115 : Tryd.prog.cellsOf 115 = 1 := by kernel_rfl
theorem cells9 : Tryd.prog.cellsOf 9 = 1 := by kernel_rfl
theorem star : "*" ++ "errors.errorString" = "*errors.errorString" := by decide
theorem rowE (u : TypeId) (h : Tryd.prog.typeName? 3 u = some "*errors.errorString") : u = 113 :=
  typeName_ptr_named (nm := "errors.errorString") (by rw [star]; kernel_rfl) (by kernel_rfl) (by decide) u (by rw [star]; exact h)
theorem cell_of_var {W : World} {x : String} {g : Nat} {v : Value} (hg : Tryd.prog.globalNamed x = some g) (hv : W.var? Tryd.prog x = some #[v]) : W.cell? ⟨g, 0, none⟩ = some v := by
  have := World.var?_cell hg hv 0
  simpa using this
theorem none_of_met {W : World} {r : List (String × DataW Unit)} (h : laidMet Tryd.prog (("loop.example/g00328/impl.errNoNote", Rows.laid_loop_example_g00328_impl_errNoNote) :: r) W) : ∃ a, W.var? Tryd.prog "loop.example/g00328/impl.errNoNote" = some #[.iface 113 (.pointer (some a))] := by
  obtain ⟨a, s, hv, _⟩ := laid_sentinel h gN gNType Tryd.underlying56 rowE Tryd.underlying113 Tryd.underlying115 rfl rfl Tryd.underlying9 cells115 cells9
  exact ⟨a, hv⟩
theorem syn_of_met {W : World} {r : List (String × DataW Unit)} (h : laidMet Tryd.prog (("strconv.ErrSyntax", Rows.laid_strconv_ErrSyntax) :: r) W) : ∃ a, W.var? Tryd.prog "strconv.ErrSyntax" = some #[.iface 113 (.pointer (some a))] := by
  obtain ⟨a, s, hv, _⟩ := laid_sentinel h gS gSType Tryd.underlying56 rowE Tryd.underlying113 Tryd.underlying115 rfl rfl Tryd.underlying9 cells115 cells9
  exact ⟨a, hv⟩
theorem ran_of_met {W : World} {r : List (String × DataW Unit)} (h : laidMet Tryd.prog (("strconv.ErrRange", Rows.laid_strconv_ErrRange) :: r) W) : ∃ a, W.var? Tryd.prog "strconv.ErrRange" = some #[.iface 113 (.pointer (some a))] := by
  obtain ⟨a, s, hv, _⟩ := laid_sentinel h gR gRType Tryd.underlying56 rowE Tryd.underlying113 Tryd.underlying115 rfl rfl Tryd.underlying9 cells115 cells9
  exact ⟨a, hv⟩
theorem pow_data : (Rows.laid_internal_strconv_uint64pow10 : DataW Unit) = Lib.tabData .u64 Lib.pow10Tab := by kernel_rfl
theorem tab_of_met {W : World} {r : List (String × DataW Unit)} (h : laidMet Tryd.prog (("internal/strconv.uint64pow10", Rows.laid_internal_strconv_uint64pow10) :: r) W) : Tab W := by
  rw [pow_data] at h
  exact Lib.tabIs_of_head (g := 1) (t := 81) (e := 70) (n := 20) (by kernel_rfl) (by kernel_rfl) (by kernel_rfl) (by kernel_rfl) (by kernel_rfl) (by kernel_rfl) h
theorem wd_of_laid {W : World} (h : laidMetH Tryd.prog laid8 W) (hsh : W.ShapedOpen Tryd.prog) : ∃ a, W.var? Tryd.prog "loop.example/g00328/impl.errNoNote" = some #[.iface 113 (.pointer (some a))] ∧ Wd W 113 (.pointer (some a)) := by
  rw [MakeChecks.laidMetH_plain _ _ _ (by kernel_rfl)] at h
  obtain ⟨a, ha⟩ := none_of_met h.tail.tail.tail.tail.tail.tail
  obtain ⟨b, hb⟩ := syn_of_met h.tail.tail.tail.tail.tail
  obtain ⟨c, hc⟩ := ran_of_met h.tail.tail.tail.tail
  exact ⟨a, ha, ⟨cell_of_var gN ha, ⟨_, cell_of_var gS hb, Or.inr ⟨_, _, rfl⟩⟩, _, cell_of_var gR hc, Or.inr ⟨_, _, rfl⟩⟩, tab_of_met h.tail.tail, Tryd.laysM147.s1_3 W hsh⟩
theorem var?_below {P : Program} {W W' : World} {n : String} {cs : Array Value} (h : W.var? P n = some cs) (hb : Below W.heap.size W W') : W'.var? P n = some cs := by
  unfold World.var? at h ⊢
  cases hg : P.globalNamed n with
  | none => simp [hg] at h
  | some g =>
    simp only [hg, Option.bind_some] at h ⊢
    have hlt : g < W.heap.size := by
      rcases Nat.lt_or_ge g W.heap.size with h' | h'
      · exact h'
      · simp [Array.getElem?_eq_none h'] at h
    rw [hb.block g hlt]
    exact h
theorem err_read {H : Type} (enc : TypeId × Value → H) {W : World} {a : Addr} (h : W.var? Tryd.prog "loop.example/g00328/impl.errNoNote" = some #[.iface 113 (.pointer (some a))]) (sp : Nat → Bool) :
    DataW.TrodVars enc Tryd.prog W sp ["loop.example/g00328/impl.errNoNote"] [tok enc (.iface 113 (.pointer (some a)))] [.cell 0 0] :=
  vars_read1 enc gN gNType Tryd.underlying56 h trivial sp

/-- A row that lists variables, the world's shape kept: of Derived/Handed's own wrap for calls. -/
theorem handed_laid_shaped {H : Type} {enc : TypeId × Value → H} {C : Checked} {os : Os} {f : FuncId} {fn : Func} {s : ChangeSpec} {l : List (String × DataW Unit)}
    (own : ownKnob C.prog.godebug = none) (started : os.Started) (noInit : C.prog.inits.idxOf? f = none) (hfn : C.prog.funcs[f]? = some fn)
    (witness : ∃ (w : World) (tape : Tape) (i : Input), w.os = os ∧ (w.forCall tape i).Shaped C.prog ∧ i.vars = [] ∧ Input.okWide C.prog (w.forCall tape i) .any w.heap.size f i ∧
      ((s.pre enc C.prog fn [] false (w.forCall tape i).memory i.args ∧ laidMetH C.prog l (w.forCall tape i).memory) ∧ sizedMet enc C.prog fn (OpenSpec.ofChange s) false (w.forCall tape i).memory i.args) ∧ ({} : Assume).holds C.prog (lone (Frame.enter C.prog f i.args .normal) [] (w.forCall tape i)))
    (contract : ∀ (W : World) (base : Nat) (args : Array Value) (ds gs : List (DataW H)) (before : List MemPlace),
      (∀ (j : Nat) t v, fn.params[j]? = some t → args[j]? = some v → Value.okWide C.prog W .any base t v) →
      DataW.Whole enc C.prog fn.params.toList s.vars false W args.toList ds gs before → laidMetH C.prog l W → W.ShapedOpen C.prog →
      Calls C.prog f args W fun e W' => ∃ v, e = .returned v ∧ s.post enc C.prog fn false true false false W args v W') :
    ReturnsInHanded {} C os f .any (fun w args => (s.pre enc C.prog fn [] false w args ∧ laidMetH C.prog l w) ∧ sizedMet enc C.prog fn (OpenSpec.ofChange s) false w args) (s.post enc C.prog fn false true false false) := by
  refine returnsInHanded_of_calls own started noInit witness ?_
  intro w tape i _ hshape _ hok hpre _
  obtain ⟨_, _, _, fn', hfn', _, _, _, _, hval⟩ := hok
  obtain rfl : fn' = fn := Option.some.inj (hfn'.symm.trans hfn)
  obtain ⟨⟨⟨ds, gs, before, hwh, _⟩, hl⟩, _⟩ := hpre
  have hwh' := DataW.Whole.of_heap (w' := w.forCall tape i) (by rfl) hwh
  have hl' := laidMetH.of_heap (w' := w.forCall tape i) (by rfl) hl
  refine (contract (w.forCall tape i) w.heap.size i.args ds gs before hval hwh' hl' hshape).mono fun e W' ⟨v, he, hp⟩ => ?_
  subst he
  exact ChangeSpec.post_blind hp

end Go.Proofs.YtjckdepcgjfomaaDoor
