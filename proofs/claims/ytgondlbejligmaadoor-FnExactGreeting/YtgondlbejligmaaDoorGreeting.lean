/- FnExactGreeting returns true: impl.Greeting answers as the model does, its answer owns its memory, behind another call too. Conditions: the row's own; the package-level variable that it lists begins as the program's text lays it, which the card ties to the pruned copy of the program. -/
import Derived.Test.YtgondlbejligmaaDoorLgr
import Derived.Test.YtgondlbejligmaaDoorTe
import Derived.Test.YtgondlbejligmaaDoorTie
import Derived.Test.YtgondlbejligmaaDoorCards
namespace Go.Proofs.YtgondlbejligmaaDoor
open Go.ChangeShapes Go.WideShapes Go.ChangeAt Go.RowKit Go.Deep
set_option maxRecDepth 100000 in
theorem liftedGreeting (os : Os) (started : os.Started) (H : Type) (enc : TypeId × Value → H) :
    ReturnsInHanded {} Tryd.checked os 3 .any (fun w args => (Rows.fnExactGreetingSpec.pre enc Tryd.prog Tryd.f3 Rows.fnExactGreetingRow.domain false w args ∧ laidMetH Tryd.prog laidE w) ∧ sizedMet enc Tryd.prog Tryd.f3 (OpenSpec.ofChange Rows.fnExactGreetingSpec) false w args)
      (Rows.fnExactGreetingSpec.post enc Tryd.prog Tryd.f3 false true false false) := by
  refine returnsInHanded_of_change_and (C := Tryd.checked) (X := fun w _ => laidMetH Tryd.prog laidE w) (fun _ _ _ hh h => h.of_heap hh) own started (by kernel_rfl) Tryd.func3
    (ChangeSpec.witness_shaped (enc := enc) (C := Tryd.checked) (os := os) (X := fun w _ => laidMetH Tryd.prog laidE w) false (World.doorLaid Tryd.prog 400 os) #[] 8 rfl (World.shaped_of_RefB (by kernel_rfl) (by kernel_rfl)) (by kernel_rfl) (by kernel_rfl) (by kernel_rfl) (doorE_met os _)) ?_
  intro W base args ds gs before hval0 hW _ _ hL _
  have hW' := hW
  obtain ⟨p, q, hA0, hV0, rfl, hfz, hnd⟩ := hW
  have hA : DataW.TrodAll enc Tryd.prog W 0 (fun _ => true) true Tryd.f3.params.toList args.toList ds p := hA0
  have hV : DataW.TrodVars enc Tryd.prog W (fun _ => true) ["loop.example/g00328/impl.errNoTerm"] gs q := hV0
  rw [Tryd.params3] at hA
  obtain ⟨hargs, rfl, rfl⟩ := trodAll_nil hA
  obtain rfl : args = #[] := by cases args; simp_all
  obtain ⟨x, hx⟩ := err_of_laidE hL
  obtain ⟨rfl, rfl⟩ := hV.unique (err_read enc hx _)
  clear hA0 hV0 hval0
  refine (lawGreeting W (err_of_var hx)).mono fun e W' ⟨he, bel⟩ => ?_
  subst he
  exact ⟨_, rfl, _, _, _, [], _, [.cell 0 0], hW', trodAll_mk1 (shut_bool Tryd.underlying4 _), trodAll_mk0, err_read enc (var?_below hx bel) _, bel.frame _, fun h => by cases h⟩

theorem greeting_row : Rows.FnExactGreetingSaid :=
  OpenClaim.holds_of_wide 3 Tryd.f3 rfl rfl rfl rfl rfl rfl rfl ⟨rfl, rfl, rfl, rfl, rfl⟩ rfl rfl rfl rfl rfl (by kernel_rfl) Tryd.func3 (by kernel_rfl)
    (of_decide_eq_true (by kernel_rfl)) (by unfold Func.isWrapper; first | (rw [if_pos (by decide +kernel)]; kernel_rfl) | (rw [if_neg (by decide +kernel)]; exact ⟨rfl, rfl⟩))
    (fun os started H enc _ => liftedGreeting os started H enc)

theorem greeting_card : Rows.FnExactGreetingCardSaid :=
  Claim7.holds_tied_plain_at .later [] [.sentinel] true (true, "1e6db55c8e1dc3c7f9c90abfb344259e30cde112a208d9154fba909e05b219c1") true
    greeting_row (fun _ h => by cases h) (by kernel_rfl) (fun _ h => by cases h) fnExactGreeting_row_tie rfl ⟨rfl, rfl⟩ (by kernel_rfl) rfl
    (fun f fn hf hfn => by
      obtain rfl : f = 3 := Option.some.inj ((show Tryd.prog.funcNamed "loop.example/g00328/laws.FnExactGreeting" = some 3 by kernel_rfl).symm.trans hf) |>.symm
      obtain rfl : fn = Tryd.f3 := (Option.some.inj (Tryd.func3.symm.trans hfn)).symm
      exact ⟨by kernel_rfl, fun j t ht => by
        rw [Tryd.params3] at ht
        simp at ht⟩)
    (by kernel_rfl)
#print axioms greeting_card
end Go.Proofs.YtgondlbejligmaaDoor
