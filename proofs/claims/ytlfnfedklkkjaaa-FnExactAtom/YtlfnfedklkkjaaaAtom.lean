/- For every int FnExactAtom returns true: impl.Atom answers as the model does, at every argument, and its answer is its own. No condition beyond the row's own. -/
import Derived.Test.YtlfnfedklkkjaaaLg
import Derived.OpenShut
import Derived.ShutString
import Derived.ChangeOld
namespace Go.Proofs.Ytlfnfedklkkjaaa
open Go.ChangeShapes Go.WideShapes Go.ChangeAt Go.RowKit Go.Deep

theorem Box4 (w : World) (cs : Array Value) (c0 c1 c2 c3 : Value) (h : cs = #[c0, c1, c2, c3]) (t : TypeId) : (w.alloc (.cells cs t)).cell? ⟨w.heap.size, 0, none⟩ = some c0 ∧ (w.alloc (.cells cs t)).cell? ⟨w.heap.size, 1, none⟩ = some c1 ∧ (w.alloc (.cells cs t)).cell? ⟨w.heap.size, 2, none⟩ = some c2 ∧ (w.alloc (.cells cs t)).cell? ⟨w.heap.size, 3, none⟩ = some c3 := by
  subst h
  exact ⟨box_cell _ _ _ 0 _ rfl, box_cell _ _ _ 1 _ rfl, box_cell _ _ _ 2 _ rfl, box_cell _ _ _ 3 _ rfl⟩

set_option maxHeartbeats 1000000 in
theorem lawAtom (n : Int) (w : World) (hw : (Lit.int .i64 n).wf = true) :
    Calls Try.prog 3 #[.int .i64 n] w fun e w' => e = .returned (.bool true) ∧ Below w.heap.size w w' := by
  have h6 := hide (fun v => atom6 n v hw)
  have h7 := hide (fun v => atom7 n v hw)
  obtain ⟨hw1, hw2⟩ := at_wf hw
  have HL : Hid (∀ v, Lies v 0 (.node (atOp n) (atN n) ByteArray.empty []) (tmCells (atOp n) (atN n) ByteArray.empty none 0 0)) := fun v => lies_leaf v _ _ _ (by simp [maxLen]) hw1 hw2
  have h8 := hide (eq_calls (.node (atOp n) (atN n) ByteArray.empty []))
  have h9 := hide mark_leaf
  have h10 := hide held_leaf
  generalize atOp n = o at *
  generalize atN n = m at *
  clear hw1 hw2
  go_enter Try.func3, Try.ntmps3
  go_wp2_with fail
  refine (unhide h6 _).mono ?_
  rintro e w1 ⟨rfl, hb1⟩
  have HW1 := hide (hb1.alloc hb1.size (.cells #[.int .i64 o, .int .i64 m, .string ByteArray.empty, .slice none 0 0] 24))
  obtain ⟨a0, a1, a2, a3⟩ := Box4 w1 #[.int .i64 o, .int .i64 m, .string ByteArray.empty, .slice none 0 0] _ _ _ _ rfl 24
  clear hb1
  go_wp2_with fail
  refine (unhide h7 _).mono ?_
  rintro e w2 ⟨rfl, hb2⟩
  have hg2 := (Below.refl w2.heap.size w2).alloc (Nat.le_refl _) (.cells #[.int .i64 o, .int .i64 m, .string ByteArray.empty, .slice none 0 0] 24)
  have HW2 := hide (((unhide HW1).trans (hb2.mono (unhide HW1).size)).trans (hg2.mono (Nat.le_trans (unhide HW1).size hb2.size)))
  have a0 := keepc hg2 (keepc hb2 a0)
  have a1 := keepc hg2 (keepc hb2 a1)
  have a2 := keepc hg2 (keepc hb2 a2)
  have a3 := keepc hg2 (keepc hb2 a3)
  obtain ⟨b0, b1, b2, b3⟩ := Box4 w2 #[.int .i64 o, .int .i64 m, .string ByteArray.empty, .slice none 0 0] _ _ _ _ rfl 24
  clear hb2 hg2 HW1
  go_wp2_with fail
  refine (unhide h8 o m ByteArray.empty none 0 0 o m ByteArray.empty none 0 0 _ (unhide HL _) (unhide HL _)).mono ?_
  rintro e w3 ⟨rfl, hb3⟩
  have HW3 := hide ((unhide HW2).trans (hb3.mono (unhide HW2).size))
  have a0 := keepc hb3 a0
  have a1 := keepc hb3 a1
  have a2 := keepc hb3 a2
  have a3 := keepc hb3 a3
  have b0 := keepc hb3 b0
  have b1 := keepc hb3 b1
  have b2 := keepc hb3 b2
  have b3 := keepc hb3 b3
  clear hb3 HW2
  go_wp2_with fail
  refine (unhide h9 o m ByteArray.empty none 0 1 _).mono ?_
  rintro e w4 ⟨rfl, hb4⟩
  have HW4 := hide ((unhide HW3).trans (hb4.mono (unhide HW3).size))
  have a0 := keepc hb4 a0
  have a1 := keepc hb4 a1
  have a2 := keepc hb4 a2
  have a3 := keepc hb4 a3
  have b0 := keepc hb4 b0
  have b1 := keepc hb4 b1
  have b2 := keepc hb4 b2
  have b3 := keepc hb4 b3
  clear hb4 HW3
  go_wp2_with fail
  refine (unhide h10 o m ByteArray.empty none 0 1 _ (by omega)).mono ?_
  rintro e w5 ⟨rfl, hb5⟩
  have HW5 := hide ((unhide HW4).trans (hb5.mono (unhide HW4).size))
  have a0 := keepc hb5 a0
  have a1 := keepc hb5 a1
  have a2 := keepc hb5 a2
  have a3 := keepc hb5 a3
  have b0 := keepc hb5 b0
  have b1 := keepc hb5 b1
  have b2 := keepc hb5 b2
  have b3 := keepc hb5 b3
  clear hb5 HW4
  go_wp2_with fail
  refine (unhide h7 _).mono ?_
  rintro e w6 ⟨rfl, hb6⟩
  have hg6 := (Below.refl w6.heap.size w6).alloc (Nat.le_refl _) (.cells #[.int .i64 o, .int .i64 m, .string ByteArray.empty, .slice none 0 0] 24)
  have HW6 := hide (((unhide HW5).trans (hb6.mono (unhide HW5).size)).trans (hg6.mono (Nat.le_trans (unhide HW5).size hb6.size)))
  have a0 := keepc hb6 a0
  have a1 := keepc hb6 a1
  have a2 := keepc hb6 a2
  have a3 := keepc hb6 a3
  have b0 := keepc hb6 b0
  have b1 := keepc hb6 b1
  have b2 := keepc hb6 b2
  have b3 := keepc hb6 b3
  have a0 := keepc hg6 a0
  have a1 := keepc hg6 a1
  have a2 := keepc hg6 a2
  have a3 := keepc hg6 a3
  have b0 := keepc hg6 b0
  have b1 := keepc hg6 b1
  have b2 := keepc hg6 b2
  have b3 := keepc hg6 b3
  obtain ⟨c0, c1, c2, c3⟩ := Box4 w6 #[.int .i64 o, .int .i64 m, .string ByteArray.empty, .slice none 0 0] _ _ _ _ rfl 24
  clear hb6 hg6 HW5
  go_wp2_with fail
  refine (unhide h8 o m ByteArray.empty none 0 0 o m ByteArray.empty none 0 0 _ (unhide HL _) (unhide HL _)).mono ?_
  rintro e w7 ⟨rfl, hb7⟩
  have HW7 := hide ((unhide HW6).trans (hb7.mono (unhide HW6).size))
  have a0 := keepc hb7 a0
  have a1 := keepc hb7 a1
  have a2 := keepc hb7 a2
  have a3 := keepc hb7 a3
  have b0 := keepc hb7 b0
  have b1 := keepc hb7 b1
  have b2 := keepc hb7 b2
  have b3 := keepc hb7 b3
  clear hb7 HW6
  go_wp2_with fail
  refine (unhide h10 o m ByteArray.empty none 0 1 _ (by omega)).mono ?_
  rintro e w8 ⟨rfl, hb8⟩
  have HW8 := hide ((unhide HW7).trans (hb8.mono (unhide HW7).size))
  clear hb8 HW7
  go_wp2_with fail
  go_ret
  exact ⟨rfl, unhide HW8⟩

theorem own : ownKnob Try.prog.godebug = none := by kernel_rfl
theorem laidOut : laidOutB Try.prog = true := by kernel_rfl

set_option maxRecDepth 100000 in
theorem lifted3 (os : Os) (started : os.Started) (H : Type) (enc : TypeId × Value → H) :
    ReturnsInHanded {} Try.checked os 3 .any (Rows.fnExactAtomSpec.pre6 enc Try.prog Try.f3 Rows.fnExactAtomRow.domain false) (Rows.fnExactAtomSpec.post enc Try.prog Try.f3 false true false false) := by
  refine returnsInHanded_of_change (C := Try.checked) own started (by kernel_rfl) Try.func3
    (ChangeSpec.witness6 (enc := enc) (C := Try.checked) false ⟨#[], #[.int .i64 0], []⟩ 8 (by kernel_rfl) (by kernel_rfl) (by kernel_rfl) (by kernel_rfl)) ?_
  intro W base args ds gs before hval0 hW hcnd _
  have hval : ∀ (j : Nat) t v, Try.f3.params[j]? = some t → args[j]? = some v → Value.okWide Try.prog W .any base t v := hval0
  have hW' := hW
  obtain ⟨p, q, hA0, hV, rfl, hfz, hnd⟩ := hW
  have hA : DataW.TrodAll enc Try.prog W 0 (fun _ => true) true Try.f3.params.toList args.toList ds p := hA0
  rw [Try.params3] at hA hval
  obtain ⟨v0, vs0, d0, ds0, p0, q0, hargs, rfl, rfl, h0, r0⟩ := trodAll_cons hA
  obtain ⟨rfl, rfl, rfl⟩ := trodAll_nil r0
  obtain rfl : args = #[v0] := by cases args; simp_all
  obtain ⟨rfl, rfl⟩ := trodVars_none hV
  obtain ⟨n, rfl, rfl, rfl, w1⟩ := open_int Try.underlying3 (hval 0 3 v0 rfl rfl) h0
  clear hA0 hval0
  refine (lawAtom n W w1).mono fun e W' ⟨he, bel⟩ => ?_
  subst he
  exact ⟨_, rfl, _, _, _, [], _, [], hW', trodAll_mk1 (shut_bool Try.underlying4 _), (trodAll_cons_mk (shut_int Try.underlying3 w1) trodAll_mk0), rfl, bel.frame _, fun h => by cases h⟩

theorem over3 : Rows.fnExactAtomRow.holds Try.pinned (OpenSpec.ofChange Rows.fnExactAtomSpec) :=
  OpenClaim.holds_of_wide 3 Try.f3 rfl rfl rfl rfl rfl rfl rfl ⟨rfl, rfl, rfl, rfl, rfl⟩ rfl rfl rfl rfl rfl (by kernel_rfl) Try.func3 (by kernel_rfl)
    (of_decide_eq_true (by kernel_rfl)) (by unfold Func.isWrapper; first | (rw [if_pos (by decide +kernel)]; kernel_rfl) | (rw [if_neg (by decide +kernel)]; exact ⟨rfl, rfl⟩))
    (fun os started H enc _ => lifted3 os started H enc)

theorem atom_holds : Rows.FnExactAtomSaid := over3
#print axioms atom_holds

end Go.Proofs.Ytlfnfedklkkjaaa
