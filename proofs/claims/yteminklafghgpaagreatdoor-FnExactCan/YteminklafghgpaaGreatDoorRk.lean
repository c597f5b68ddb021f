
/- The walk of spec.l1Right at a share whose own fields are right: its two kids are asked, and then their order; and at whatever term. -/
import Derived.Test.YteminklafghgpaaGreatDoorRj
namespace Go.Proofs.YteminklafghgpaaGreatDoor
open Go.RowKit Go.Deep

set_option maxHeartbeats 4000000 in
theorem ri_share (x y : Tm) (hkids : ∀ z ∈ [x, y], RiOk z) (n : Int) (s : ByteArray) (a : Option Addr) (cap : Nat) (w : World) (hk : LiesAll w 0 a 0 [x, y]) (hh : headB 5 n s 2 = true) :
    Calls Tryz.prog 28 #[.agg #[.int .i64 5, .int .i64 n, .string s, .slice a 2 cap]] w fun e w' => e = .returned (.bool (!beforeB y x && rightL [x, y])) ∧ Below w.heap.size w w' := by
  obtain ⟨_, q2, q3, q4⟩ := ways hh
  have q1 : (kidsOf 5 != (2 : Int)) = false := by decide
  have hks : ∃ ks, ks = [x, y] := ⟨_, rfl⟩
  obtain ⟨ks, hks⟩ := hks
  have HXY := hide hks
  rw [← hks] at hkids hk ⊢
  obtain ⟨b, o, z0, z1, z2, z3, z4, z5, rfl, _, _, uu0, uu1, uu2, uu3, hX⟩ := hk.elem (k := 0) (by rw [hks]; simp)
  obtain ⟨b', o', z0', z1', z2', z3', z4', z5', hab, _, _, vv0, vv1, vv2, vv3, hY⟩ := hk.elem (k := 1) (by rw [hks]; simp)
  cases hab
  have HBF := hide (bf_calls y x z0' z1' z2' z3' z4' z5' z0 z1 z2 z3 z4 z5)
  have HX : Hid (Lies w 0 x (tmCells z0 z1 z2 z3 z4 z5)) := by subst hks; exact hX
  have HY : Hid (Lies w 0 y (tmCells z0' z1' z2' z3' z4' z5')) := by subst hks; exact hY
  rw [Nat.zero_mul, Nat.add_zero] at uu0 uu1 uu2 uu3
  rw [Nat.one_mul] at vv0 vv1 vv2 vv3
  have hl2 : ks.length = 2 := by rw [hks]; rfl
  clear hX hY hks
  have q8 : decide ((300 : Int) < (s.size : Int)) = false := by simp only [decide_eq_false_iff_not]; omega
  have HK := hide hk
  have HKI := hide hkids
  clear hk hh hkids
  have HRL : Hid (∀ k, rightL ks = rightL (ks.drop k) → ks.length ≤ k → rightL ks = true) := fun k e hl => by
    rw [e, List.drop_of_length_le hl]
    rfl
  have HL := hide hl2
  generalize hbb : rightL ks = bb at *
  have HBB := hide hbb
  clear hbb
  generalize hbf : beforeB y x = bf at *
  clear hbf
  rcases q4 with ⟨q4, q5, q6⟩ | ⟨q4, q5, q6⟩ | ⟨q4, q5, q6, q7⟩
  · cases q4
  · cases q6
  · 
    go_enter Tryz.func28, Tryz.ntmps28
    go_wp2_with fail
    go_quiet (first
      | (go_at_call 42; exact Calls.quiet_of_same (kids25 _ _))
      | (go_at_call 43; exact Calls.quiet_of_same (in26_yes _ _ _ _ q2)))
    go_wp2_with fail
    go_loopw [3] (fun i wr => ∃ k : Nat, k ≤ 2 ∧ i = .int .i64 k ∧ bb = rightL (ks.drop k) ∧ Below (w.heap.size + 1) (w.alloc (.cells #[.int .i64 5, .int .i64 n, .string s, .slice (some ⟨b, o, none⟩) 2 cap] 35)) wr) (fun i _ => 2 - (intOf i).toNat)
    case atStart => exact ⟨0, Nat.zero_le _, rfl, by rw [List.drop_zero]; exact (unhide HBB).symm, below_drewN (Below.refl _ _) _⟩
    case round =>
      obtain ⟨k, hkl, rfl, hC, hb⟩ := hrel
      have b3 : wr.cell? ⟨w.heap.size, 3, none⟩ = some (.slice (some ⟨b, o, none⟩) 2 cap) := (hb.cell (p := ⟨w.heap.size, 3, none⟩) (by show w.heap.size < _; omega)).trans (box_cell _ _ _ 3 _ rfl)
      have b0 : wr.cell? ⟨w.heap.size, 0, none⟩ = some (.int .i64 5) := (hb.cell (p := ⟨w.heap.size, 0, none⟩) (by show w.heap.size < _; omega)).trans (box_cell _ _ _ 0 _ rfl)
      have hbw : Below w.heap.size w wr := ((Below.refl _ _).alloc (Nat.le_refl _) _).trans (hb.mono (by omega))
      have HC := hide hC
      have HB := hide hb
      clear hC hb
      by_cases hlt : k < 2
      · have g1 : k < ks.length := by have := unhide HL; omega
        have HD := hide (rightL_drop g1)
        obtain ⟨b', o', y0, y1, y2, y3, y4, y5, hab, _, _, c0, c1, c2, c3, hT⟩ := (unhide HK).elem (k := k) g1
        cases hab
        have c0 := keepc hbw c0
        have c1 := keepc hbw c1
        have c2 := keepc hbw c2
        have c3 := keepc hbw c3
        have HCT := hide (unhide HKI ks[k] (List.getElem_mem g1) y0 y1 y2 y3 y4 y5)
        have HT := hide (hT.below hbw)
        clear hT HK HKI HXY HX HY HBF uu0 uu1 uu2 uu3 vv0 vv1 vv2 vv3
        generalize ks[k] = tk at *
        clear g1
        have hml : (k : Int) < 2 := by omega
        cases hsv : rightT tk with
        | true =>
          rw [hsv] at HCT HD
          clear hsv
          go_wp2_with fail
          refine (unhide HCT _ (unhide HT)).mono ?_
          rintro e w2 ⟨rfl, hb2⟩
          go_wp2_with fail
          go_roundw
          case rel => exact ⟨k + 1, by omega, by go_num, by rw [unhide HC, unhide HD, Bool.true_and], (unhide HB).trans (hb2.mono (by have := (unhide HB).size; simp at this; omega))⟩
          case measure => simp [intOf]; omega
        | false =>
          rw [hsv] at HCT HD
          clear hsv
          go_wp2_with fail
          refine (unhide HCT _ (unhide HT)).mono ?_
          rintro e w2 ⟨rfl, hb2⟩
          go_wp2_with fail
          go_ret
          exact ⟨ret_bool (by rw [unhide HC, unhide HD, Bool.false_and, Bool.and_false]), hbw.trans (hb2.mono hbw.size)⟩
      · have HE : Hid (bb = true) := unhide HRL k (unhide HC) (by have := unhide HL; omega)
        have uu0 := keepc hbw uu0
        have uu1 := keepc hbw uu1
        have uu2 := keepc hbw uu2
        have uu3 := keepc hbw uu3
        have vv0 := keepc hbw vv0
        have vv1 := keepc hbw vv1
        have vv2 := keepc hbw vv2
        have vv3 := keepc hbw vv3
        have HX' := hide ((unhide HX).below hbw.drew)
        have HY' := hide ((unhide HY).below hbw.drew)
        clear HK HKI HXY HX HY
        go_wp2_with fail
        go_region_held3 (fun v => v.cell? ⟨w.heap.size, 0, none⟩ = some (.int .i64 5) ∧ v.cell? ⟨w.heap.size, 3, none⟩ = some (.slice (some ⟨b, o, none⟩) 2 cap) ∧
            v.cell? ⟨b, o, none⟩ = some (.int .i64 z0) ∧ v.cell? ⟨b, o + 1, none⟩ = some (.int .i64 z1) ∧ v.cell? ⟨b, o + 2, none⟩ = some (.string z2) ∧ v.cell? ⟨b, o + 3, none⟩ = some (.slice z3 z4 z5) ∧
            v.cell? ⟨b, o + 4, none⟩ = some (.int .i64 z0') ∧ v.cell? ⟨b, o + 4 + 1, none⟩ = some (.int .i64 z1') ∧ v.cell? ⟨b, o + 4 + 2, none⟩ = some (.string z2') ∧ v.cell? ⟨b, o + 4 + 3, none⟩ = some (.slice z3' z4' z5')) (go_keep)
          (first
            | (go_at_call 44
               refine (unhide HBF _ (unhide HY') (unhide HX')).mono ?_
               rintro e w2 ⟨rfl, hb2⟩
               have hb2' := hide (below_drw hb2)
               have f0 := keepc (unhide hb2') uu0
               have f1 := keepc (unhide hb2') uu1
               have f2 := keepc (unhide hb2') uu2
               have f3 := keepc (unhide hb2') uu3
               have f4 := keepc (unhide hb2') vv0
               have f5 := keepc (unhide hb2') vv1
               have f6 := keepc (unhide hb2') vv2
               have f7 := keepc (unhide hb2') vv3
               have f8 := keepc (unhide hb2') b3
               have f9 := keepc (unhide hb2') b0))
        go_wp2_with fail
        go_ret
        exact ⟨ret_bool (by rw [unhide HE, Bool.and_true]), hbw.trans ((unhide hb2').mono hbw.size)⟩

end Go.Proofs.YteminklafghgpaaGreatDoor
