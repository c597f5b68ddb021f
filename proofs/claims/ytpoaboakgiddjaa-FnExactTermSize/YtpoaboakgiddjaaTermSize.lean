/- For every term that can be read as data, FnExactTermSize returns true and leaves its argument as it was: impl.TermSize answers as the model does, at every argument, and writes into none. No condition beyond the row's own. -/
import Derived.Test.YtpoaboakgiddjaaL4
import Derived.OpenShut
import Derived.ShutString
import Derived.ChangeOld
namespace Go.Proofs.Ytpoaboakgiddjaa
open Go.ChangeShapes Go.WideShapes Go.ChangeAt Go.RowKit Go.Deep

theorem own : ownKnob Try.prog.godebug = none := by kernel_rfl
theorem laidOut : laidOutB Try.prog = true := by kernel_rfl
theorem cells24 : Try.prog.cellsOf 24 = 4 := by kernel_rfl

/-- An argument of the laws' own term type, opened. -/
theorem open_arg {H : Type} {enc : TypeId × Value → H} {W : World} {base : Nat} {v : Value} {d : DataW H} {p : List MemPlace} (hv : Value.okWide Try.prog W .any base 24 v) (h : DataW.Trod enc Try.prog W 0 (fun _ => true) true 24 v d p) :
    ∃ (t : Tm) (op n : Int) (s : ByteArray) (a : Option Addr) (len cap : Nat), v = .agg #[.int .i64 op, .int .i64 n, .string s, .slice a len cap] ∧ Lies W 0 t (tmCells op n s a len cap) := by
  obtain ⟨cs, rfl, hsz⟩ := okWide_struct Try.underlying24 hv
  obtain ⟨fuel, hf⟩ := h
  obtain ⟨T, hT⟩ := open_tm (t := 22) (e := 24) (tint := 3) (tstr := 9) Try.underlying24 (by kernel_rfl) cells24 rfl rfl rfl rfl Try.underlying3 Try.underlying9 Try.underlying22 fuel _ _ hf
  obtain ⟨op, n, s, a, len, cap, he⟩ := hT.cells
  rw [he] at hT
  refine ⟨T, op, n, s, a, len, cap, ?_, hT⟩
  have : cs = #[.int .i64 op, .int .i64 n, .string s, .slice a len cap] := by
    apply Array.ext'
    simpa [Value.cells, tmCells] using he
  rw [this]

set_option maxRecDepth 100000 in
theorem lifted4 (os : Os) (started : os.Started) (H : Type) (enc : TypeId × Value → H) :
    ReturnsInHanded {} Try.checked os 4 .any (Rows.fnExactTermSizeSpec.pre6 enc Try.prog Try.f4 Rows.fnExactTermSizeRow.domain false) (Rows.fnExactTermSizeSpec.post enc Try.prog Try.f4 false true false false) := by
  refine returnsInHanded_of_change (C := Try.checked) own started (by kernel_rfl) Try.func4
    (ChangeSpec.witness6 (enc := enc) (C := Try.checked) false ⟨#[], #[.agg #[.int .i64 0, .int .i64 0, .string ByteArray.empty, .slice none 0 0]], []⟩ 8 (by kernel_rfl) (by kernel_rfl) (by kernel_rfl) (by kernel_rfl)) ?_
  intro W base args ds gs before hval0 hW hcnd _
  have hval : ∀ (j : Nat) t v, Try.f4.params[j]? = some t → args[j]? = some v → Value.okWide Try.prog W .any base t v := hval0
  have hW' := hW
  obtain ⟨p, q, hA0, hV, rfl, hfz, hnd⟩ := hW
  have hA : DataW.TrodAll enc Try.prog W 0 (fun _ => true) true Try.f4.params.toList args.toList ds p := hA0
  rw [Try.params4] at hA hval
  obtain ⟨v0, vs0, d0, ds0, p0, q0, hargs, rfl, rfl, h0, r0⟩ := trodAll_cons hA
  obtain ⟨rfl, rfl, rfl⟩ := trodAll_nil r0
  obtain rfl : args = #[v0] := by cases args; simp_all
  obtain ⟨rfl, rfl⟩ := trodVars_none hV
  have k0 := h0
  have lt0 : ∀ x ∈ p0, x.block < W.heap.size := by obtain ⟨m, hm⟩ := k0; exact DataW.trod_lt m _ _ _ hm
  obtain ⟨t, op, n, s, a, len, cap, rfl, hl⟩ := open_arg (hval 0 24 v0 rfl rfl) h0
  clear hA0 hval0
  refine (law4 t op n s a len cap W hl).mono fun e W' ⟨he, bel⟩ => ?_
  subst he
  exact ⟨_, rfl, _, _, _, [], _, [], hW', trodAll_mk1 (shut_bool Try.underlying4 _), (trodAll_cons_mk (Below.trod laidOut (by kernel_rfl) (of_decide_eq_true (by kernel_rfl)) k0 bel lt0) trodAll_mk0), rfl, bel.frame _, fun h => by cases h⟩

theorem over4 : Rows.fnExactTermSizeRow.holds Try.pinned (OpenSpec.ofChange Rows.fnExactTermSizeSpec) :=
  OpenClaim.holds_of_wide 4 Try.f4 rfl rfl rfl rfl rfl rfl rfl ⟨rfl, rfl, rfl, rfl, rfl⟩ rfl rfl rfl rfl rfl (by kernel_rfl) Try.func4 (by kernel_rfl)
    (of_decide_eq_true (by kernel_rfl)) (by unfold Func.isWrapper; first | (rw [if_pos (by decide +kernel)]; kernel_rfl) | (rw [if_neg (by decide +kernel)]; exact ⟨rfl, rfl⟩))
    (fun os started H enc _ => lifted4 os started H enc)

theorem termsize_holds : Rows.FnExactTermSizeSaid := over4
#print axioms termsize_holds
end Go.Proofs.Ytpoaboakgiddjaa
