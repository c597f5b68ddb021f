
/- For every list of terms and term that can be read as data, FnExactCan returns true and leaves its arguments as they were: impl.Can answers as the model does, at every argument, writes into none, and its answer owns its memory. Conditions: the row's own; the package-level variables that it lists begin as the program's text lays them, which the card ties to the pruned copy of the program. -/
import Derived.Test.YteminklafghgpaaGreatDoorRows
import Derived.Test.YteminklafghgpaaGreatDoorTm
import Derived.OpenShut
import Derived.ShutString
import Derived.ChangeOld
import Derived.Test.YteminklafghgpaaGreatDoorIs
import Derived.ProofKit
import Derived.LaidMore
import Derived.MakeChecks
import Derived.LaidHandle
import Derived.Stop.LaidErr
import Derived.Stop.LaidTwo
import Derived.Stop.Joined
import Derived.SevenTiedAt
import Derived.Test.YteminklafghgpaaGreatDoorLca
import Derived.Test.YteminklafghgpaaGreatDoorTie
import Derived.Test.YteminklafghgpaaGreatDoorCards
namespace Go.Proofs.YteminklafghgpaaGreatDoor
open Go.ChangeShapes Go.WideShapes Go.ChangeAt Go.RowKit Go.Deep

set_option maxRecDepth 100000 in
theorem own : ownKnob Tryz.prog.godebug = none := by kernel_rfl
set_option maxRecDepth 100000 in
theorem laidOut : laidOutB Tryz.prog = true := by kernel_rfl
theorem cells24 : Tryz.prog.cellsOf 31 = 4 := by kernel_rfl

set_option maxRecDepth 100000 in
/-- An argument of the laws' own term type, opened. -/
theorem open_arg {H : Type} {enc : TypeId × Value → H} {W : World} {base : Nat} {v : Value} {d : DataW H} {p : List MemPlace} (hv : Value.okWide Tryz.prog W .any base 31 v) (h : DataW.Trod enc Tryz.prog W 0 (fun _ => true) true 31 v d p) :
    ∃ (t : Tm) (op n : Int) (s : ByteArray) (a : Option Addr) (len cap : Nat), v = .agg #[.int .i64 op, .int .i64 n, .string s, .slice a len cap] ∧ Lies W 0 t (tmCells op n s a len cap) := by
  obtain ⟨cs, rfl, hsz⟩ := okWide_struct Tryz.underlying31 hv
  obtain ⟨fuel, hf⟩ := h
  obtain ⟨T, hT⟩ := open_tm (t := 22) (e := 31) (tint := 3) (tstr := 9) Tryz.underlying31 (by kernel_rfl) cells24 rfl rfl rfl rfl Tryz.underlying3 Tryz.underlying9 Tryz.underlying22 fuel _ _ hf
  obtain ⟨op, n, s, a, len, cap, he⟩ := hT.cells
  rw [he] at hT
  refine ⟨T, op, n, s, a, len, cap, ?_, hT⟩
  have : cs = #[.int .i64 op, .int .i64 n, .string s, .slice a len cap] := by
    apply Array.ext'
    simpa [Value.cells, tmCells] using he
  rw [this]

def laidE : List (String × DataW Unit) := [("loop.example/g00328/impl.errNoTerm", Rows.laid_loop_example_g00328_impl_errNoTerm)]
def laid4 : List (String × DataW Unit) := [("math/bits.deBruijn32tab", Rows.laid_math_bits_deBruijn32tab), ("math/bits.deBruijn64tab", Rows.laid_math_bits_deBruijn64tab), ("internal/strconv.uint64pow10", Rows.laid_internal_strconv_uint64pow10), ("loop.example/g00328/impl.errNoTerm", Rows.laid_loop_example_g00328_impl_errNoTerm)]

theorem doorE_met (os : Os) (args : Array Value) : laidMetH Tryz.prog laidE ((World.doorLaid Tryz.prog 400 os).forCall (fun _ _ => 0) ⟨#[], args, []⟩).memory :=
  laidMetH_of_parts3 (fuel := 8) (laidMet_of_run' 8 (by kernel_rfl) (by kernel_rfl)) (by kernel_rfl) (by kernel_rfl)
theorem door4_met (os : Os) (args : Array Value) : laidMetH Tryz.prog laid4 ((World.doorLaid Tryz.prog 400 os).forCall (fun _ _ => 0) ⟨#[], args, []⟩).memory :=
  laidMetH_of_parts3 (fuel := 8) (laidMet_of_run' 8 (by kernel_rfl) (by kernel_rfl)) (by kernel_rfl) (by kernel_rfl)

theorem gE : Tryz.prog.globalNamed "loop.example/g00328/impl.errNoTerm" = some 0 := by kernel_rfl
theorem gEType : (Tryz.prog.globals[0]?).map (·.type) = some 121 := by kernel_rfl
theorem cells137 : Tryz.prog.cellsOf 182 = 1 := by kernel_rfl
theorem cells9 : Tryz.prog.cellsOf 9 = 1 := by kernel_rfl
theorem star : "*" ++ "errors.errorString" = "*errors.errorString" := by decide
theorem rowE (u : TypeId) (h : Tryz.prog.typeName? 3 u = some "*errors.errorString") : u = 149 :=
  typeName_ptr_named (nm := "errors.errorString") (by rw [star]; kernel_rfl) (by kernel_rfl) (by decide) u (by rw [star]; exact h)

theorem err_of_met {W : World} {r : List (String × DataW Unit)} (h : laidMet Tryz.prog (("loop.example/g00328/impl.errNoTerm", Rows.laid_loop_example_g00328_impl_errNoTerm) :: r) W) : ∃ a, W.var? Tryz.prog "loop.example/g00328/impl.errNoTerm" = some #[.iface 149 (.pointer (some a))] := by
  obtain ⟨a, s, hv, _⟩ := laid_sentinel h gE gEType Tryz.underlying121 rowE Tryz.underlying149 Tryz.underlying182 rfl rfl Tryz.underlying9 cells137 cells9
  exact ⟨a, hv⟩
theorem err_of_var {W : World} {a : Addr} (hv : W.var? Tryz.prog "loop.example/g00328/impl.errNoTerm" = some #[.iface 149 (.pointer (some a))]) : Err W :=
  ⟨a, by have := World.var?_cell gE hv 0; simpa [ErrAt] using this⟩
theorem err_of_laidE {W : World} (h : laidMetH Tryz.prog laidE W) : ∃ a, W.var? Tryz.prog "loop.example/g00328/impl.errNoTerm" = some #[.iface 149 (.pointer (some a))] := by
  rw [MakeChecks.laidMetH_plain _ _ _ (by kernel_rfl)] at h
  exact err_of_met h
theorem err_of_laid4 {W : World} (h : laidMetH Tryz.prog laid4 W) : ∃ a, W.var? Tryz.prog "loop.example/g00328/impl.errNoTerm" = some #[.iface 149 (.pointer (some a))] := by
  rw [MakeChecks.laidMetH_plain _ _ _ (by kernel_rfl)] at h
  exact err_of_met h.tail.tail.tail

theorem pow_data : (Rows.laid_internal_strconv_uint64pow10 : DataW Unit) = Lib.tabData .u64 Lib.pow10Tab := by kernel_rfl
theorem tab_of_laid4 {W : World} (h : laidMetH Tryz.prog laid4 W) : Tab W := by
  rw [MakeChecks.laidMetH_plain _ _ _ (by kernel_rfl)] at h
  have h2 : laidMet Tryz.prog (("internal/strconv.uint64pow10", Lib.tabData .u64 Lib.pow10Tab) :: [("loop.example/g00328/impl.errNoTerm", Rows.laid_loop_example_g00328_impl_errNoTerm)]) W := by
    have := h.tail.tail
    rw [pow_data] at this
    exact this
  exact Lib.tabIs_of_head (g := 1) (t := 130) (e := 100) (n := 20) (by kernel_rfl) (by kernel_rfl) (by kernel_rfl) (by kernel_rfl) (by kernel_rfl) (by kernel_rfl) h2

theorem var?_below {P : Program} {W W' : World} {n : String} {cs : Array Value} (h : W.var? P n = some cs) (hb : Below W.heap.size W W') : W'.var? P n = some cs := by
  unfold World.var? at h ⊢
  cases hg : P.globalNamed n with
  | none => simp [hg] at h
  | some g =>
    simp only [hg, Option.bind_some] at h ⊢
    have hlt : g < W.heap.size := by
      rcases Nat.lt_or_ge g W.heap.size with h' | h'
      · exact h'
      · simp [Array.getElem?_eq_none h'] at h
    rw [hb.block g hlt]
    exact h

/-- The variable of the named error, read as a token. -/
theorem err_read {H : Type} (enc : TypeId × Value → H) {W : World} {a : Addr} (h : W.var? Tryz.prog "loop.example/g00328/impl.errNoTerm" = some #[.iface 149 (.pointer (some a))]) (sp : Nat → Bool) :
    DataW.TrodVars enc Tryz.prog W sp ["loop.example/g00328/impl.errNoTerm"] [tok enc (.iface 149 (.pointer (some a)))] [.cell 0 0] :=
  vars_read1 enc gE gEType Tryz.underlying121 h trivial sp

set_option maxRecDepth 100000 in
theorem open_list {H : Type} {enc : TypeId × Value → H} {W : World} {base : Nat} {v : Value} {d : DataW H} {p : List MemPlace} (hv : Value.okWide Tryz.prog W .any base 22 v) (h : DataW.Trod enc Tryz.prog W 0 (fun _ => true) true 22 v d p) :
    ∃ (ps : List Tm) (a : Option Addr) (cap : Nat), v = .slice a ps.length cap ∧ LiesAll W 0 a 0 ps ∧ ps.length ≤ maxLen := by
  obtain ⟨a1, len1, cap1, rfl⟩ := okWide_slice Tryz.underlying22 hv
  obtain ⟨fuel, hf⟩ := h
  rcases DataW.trod_slice Tryz.underlying22 hf with ⟨h0, _⟩ | ⟨a, len, cap, elems, rest, m, hm, h0, _, _, hlc, hcm, hel, hget, _⟩
  · simp [Value.cells] at h0
    obtain ⟨rfl, rfl, rfl⟩ := h0
    exact ⟨[], none, 0, rfl, by simp [LiesAll], by simp⟩
  · simp [Value.cells] at h0
    obtain ⟨rfl, rfl, rfl⟩ := h0
    rw [cells24] at hget
    have hk : ∀ i, i < len1 → ∃ T : Tm, ∃ b o cs, a = ⟨b, o, none⟩ ∧ W.rangeAt b (o + i * 4) cs ∧ Lies W 0 T cs := fun i hi => by
      have hb := hget i hi
      rw [List.getElem?_eq_getElem (by omega)] at hb
      obtain ⟨cs', c1', c2'⟩ := Option.bind_eq_some_iff.1 hb
      obtain ⟨T, hT⟩ := open_tm (t := 22) (e := 31) (tint := 3) (tstr := 9) Tryz.underlying31 (by kernel_rfl) cells24 rfl rfl rfl rfl Tryz.underlying3 Tryz.underlying9 Tryz.underlying22 m cs' _ c2'
      obtain ⟨_, hl4, hcell⟩ := World.cells?_some c1'
      have hsp : a.spot = none := by
        have := hcell 1 (by omega)
        have h00 := hcell 0 (by omega)
        rw [List.getElem?_eq_getElem (by omega)] at h00
        have := World.cell?_spot h00
        unfold Addr.add at this
        by_cases hz : i * 4 = 0
        · simpa [hz] using this
        · have hi0 : i ≠ 0 := by omega
          have h0c := hget 0 (by omega)
          rw [List.getElem?_eq_getElem (by omega)] at h0c
          obtain ⟨cs0, d1', _⟩ := Option.bind_eq_some_iff.1 h0c
          obtain ⟨_, hl0, hcell0⟩ := World.cells?_some d1'
          have h000 := hcell0 0 (by omega)
          rw [List.getElem?_eq_getElem (by omega)] at h000
          have := World.cell?_spot h000
          simpa [Addr.add] using this
      obtain ⟨b, o, sp⟩ := a
      simp only at hsp
      subst hsp
      refine ⟨T, b, o, cs', rfl, fun j v hj => ?_, hT⟩
      have hjl : j < cs'.length := by
        by_cases hq : j < cs'.length
        · exact hq
        · rw [List.getElem?_eq_none (by omega)] at hj; cases hj
      have := hcell j (by omega)
      rw [hj] at this
      rw [Addr.add_mid, Addr.add_mid] at this
      exact this
    obtain ⟨F, hF⟩ := choose_lt (α := Tm) (p := fun i T => ∃ b o cs, a = ⟨b, o, none⟩ ∧ W.rangeAt b (o + i * 4) cs ∧ Lies W 0 T cs) hk
    refine ⟨(List.range len1).map F, some a, cap1, by simp, LiesAll.mk fun k t hkt => ?_, by simp; omega⟩
    have hkl : k < len1 := by
      by_cases hq : k < len1
      · exact hq
      · rw [List.getElem?_eq_none (by simp; omega)] at hkt; cases hkt
    simp [hkl] at hkt
    subst hkt
    obtain ⟨b, o, cs, rfl, hr, hl⟩ := hF k hkl
    exact ⟨b, o, cs, rfl, Nat.zero_le _, by rwa [Nat.zero_add], hl⟩

set_option maxRecDepth 100000 in
theorem liftedCan (os : Os) (started : os.Started) (H : Type) (enc : TypeId × Value → H) :
    ReturnsInHanded {} Tryz.checked os 4 .any (fun w args => (Rows.fnExactCanSpec.pre enc Tryz.prog Tryz.f4 Rows.fnExactCanRow.domain false w args ∧ laidMetH Tryz.prog laid4 w) ∧ sizedMet enc Tryz.prog Tryz.f4 (OpenSpec.ofChange Rows.fnExactCanSpec) false w args)
      (Rows.fnExactCanSpec.post enc Tryz.prog Tryz.f4 false true false false) := by
  refine returnsInHanded_of_change_and (C := Tryz.checked) (X := fun w _ => laidMetH Tryz.prog laid4 w) (fun _ _ _ hh h => h.of_heap hh) own started (by kernel_rfl) Tryz.func4
    (ChangeSpec.witness_shaped (enc := enc) (C := Tryz.checked) (os := os) (X := fun w _ => laidMetH Tryz.prog laid4 w) false (World.doorLaid Tryz.prog 400 os) #[.slice none 0 0, .agg #[.int .i64 0, .int .i64 0, .string ByteArray.empty, .slice none 0 0]] 8 rfl (World.shaped_of_RefB (by kernel_rfl) (by kernel_rfl)) (by kernel_rfl) (by kernel_rfl) (by kernel_rfl) (door4_met os _)) ?_
  intro W base args ds gs before hval0 hW _ _ hL _
  have hval : ∀ (j : Nat) t v, Tryz.f4.params[j]? = some t → args[j]? = some v → Value.okWide Tryz.prog W .any base t v := hval0
  have hW' := hW
  obtain ⟨p, q, hA0, hV0, rfl, hfz, hnd⟩ := hW
  have hA : DataW.TrodAll enc Tryz.prog W 0 (fun _ => true) true Tryz.f4.params.toList args.toList ds p := hA0
  have hV : DataW.TrodVars enc Tryz.prog W (fun _ => true) ["loop.example/g00328/impl.errNoTerm"] gs q := hV0
  rw [Tryz.params4] at hA hval
  obtain ⟨v0, vs0, d0, ds0, p0, q0, hargs, rfl, rfl, h0, r0⟩ := trodAll_cons hA
  obtain ⟨v1, vs1, d1, ds1, p1, q1, rfl, rfl, rfl, h1, r1⟩ := trodAll_cons r0
  obtain ⟨rfl, rfl, rfl⟩ := trodAll_nil r1
  obtain rfl : args = #[v0, v1] := by cases args; simp_all
  obtain ⟨x, hx⟩ := err_of_laid4 hL
  obtain ⟨rfl, rfl⟩ := hV.unique (err_read enc hx _)
  have k0 := h0
  have lt0 : ∀ x ∈ p0, x.block < W.heap.size := by obtain ⟨m, hm⟩ := k0; exact DataW.trod_lt m _ _ _ hm
  obtain ⟨ps0, pa0, pc0, rfl, hp0, hpl0⟩ := open_list (hval 0 22 v0 rfl rfl) h0
  have k1 := h1
  have lt1 : ∀ x ∈ p1, x.block < W.heap.size := by obtain ⟨m, hm⟩ := k1; exact DataW.trod_lt m _ _ _ hm
  obtain ⟨t1, op1, n1, s1, a1, len1, cap1, rfl, hl1⟩ := open_arg (hval 1 31 v1 rfl rfl) h1
  clear hA0 hV0 hval0
  refine (lawCan ps0 t1 pa0 pc0 op1 n1 s1 a1 len1 cap1 W hp0 hpl0 hl1 (tab_of_laid4 hL) (err_of_var hx)).mono fun e W' ⟨he, bel⟩ => ?_
  subst he
  exact ⟨_, rfl, _, _, _, [], _, [.cell 0 0], hW', trodAll_mk1 (shut_bool Tryz.underlying4 _), (trodAll_cons_mk (Below.trod laidOut (by kernel_rfl) (of_decide_eq_true (by kernel_rfl)) k0 bel lt0) (trodAll_cons_mk (Below.trod laidOut (by kernel_rfl) (of_decide_eq_true (by kernel_rfl)) k1 bel lt1) trodAll_mk0)), err_read enc (var?_below hx bel) _, bel.frame _, fun h => by cases h⟩

theorem can_row : Rows.FnExactCanSaid :=
  OpenClaim.holds_of_wide 4 Tryz.f4 rfl rfl rfl rfl rfl rfl rfl ⟨rfl, rfl, rfl, rfl, rfl⟩ rfl rfl rfl rfl rfl (by kernel_rfl) Tryz.func4 (by kernel_rfl)
    (of_decide_eq_true (by kernel_rfl)) (by unfold Func.isWrapper; first | (rw [if_pos (by decide +kernel)]; kernel_rfl) | (rw [if_neg (by decide +kernel)]; exact ⟨rfl, rfl⟩))
    (fun os started H enc _ => liftedCan os started H enc)

theorem can_card : Rows.FnExactCanCardSaid :=
  Claim7.holds_tied_plain_at .later [] [.data, .data, .data, .sentinel] true (true, "d4f2513303c7d1cc0a5b0ec937e9ad9849c2b012d16d74fe8260eb573639107b") true
    can_row (fun _ h => by cases h) (by kernel_rfl) (fun _ h => by cases h) fnExactCan_row_tie rfl ⟨rfl, rfl⟩ (by kernel_rfl) rfl
    (fun f fn hf hfn => by
      obtain rfl : f = 4 := Option.some.inj ((show Tryz.prog.funcNamed "loop.example/g00328/laws.FnExactCan" = some 4 by kernel_rfl).symm.trans hf) |>.symm
      obtain rfl : fn = Tryz.f4 := (Option.some.inj (Tryz.func4.symm.trans hfn)).symm
      exact ⟨by kernel_rfl, fun j t ht => by
        rw [Tryz.params4] at ht
        have hm : t ∈ [22, 31] := by have := Array.mem_of_getElem? ht; simp at this ⊢; rcases this with rfl | rfl <;> simp
        have hall : ([22, 31].all fun u => !Tryz.prog.wantsStandIn u) = true := by kernel_rfl
        exact (show Tryz.prog.wantsStandIn t = false by simpa using List.all_eq_true.1 hall t hm)⟩)
    (by kernel_rfl)
#print axioms can_card

end Go.Proofs.YteminklafghgpaaGreatDoor
