
/- The walk of the share's method shaped, where its own fields are right. -/
import Derived.Test.YteminklafghgpaaGreatDoorSk
namespace Go.Proofs.YteminklafghgpaaGreatDoor
open Go.RowKit Go.Deep

set_option maxHeartbeats 4000000 in
theorem sh54_yes (x y : Tm) (op n : Int) (s : ByteArray) (a : Option Addr) (cap : Nat) (w : World) (h : onlyB n s 2 2 = true) (hk : LiesAll w 0 a 0 [x, y]) (hsz : y.size ≤ 2097152) :
    Calls Tryz.prog 115 #[.agg #[.int .i64 op, .int .i64 n, .string s, .slice a 2 cap]] w fun e w' => e = .returned (.bool (!beforeB y x)) ∧ Below w.heap.size w w' := by
  have h52 := only52 op n s a 2 cap 2
  rw [h] at h52
  have H := hide h52
  obtain ⟨b, o, z0, z1, z2, z3, z4, z5, rfl, _, _, c0, c1, c2, c3, hX⟩ := hk.elem (k := 0) (by simp)
  obtain ⟨b', o', z0', z1', z2', z3', z4', z5', hab, _, _, d0, d1, d2, d3, hY⟩ := hk.elem (k := 1) (by simp)
  cases hab
  have HBF := hide (before17 y x z0' z1' z2' z3' z4' z5' z0 z1 z2 z3 z4 z5)
  have g := (Below.refl w.heap.size w).alloc (Nat.le_refl _) (.cells #[.int .i64 op, .int .i64 n, .string s, .slice (some ⟨b, o, none⟩) 2 cap] 83)
  have HX : Hid (Lies (w.alloc (.cells #[.int .i64 op, .int .i64 n, .string s, .slice (some ⟨b, o, none⟩) 2 cap] 83)) 0 x (tmCells z0 z1 z2 z3 z4 z5)) := hX.below g
  have HY : Hid (Lies (w.alloc (.cells #[.int .i64 op, .int .i64 n, .string s, .slice (some ⟨b, o, none⟩) 2 cap] 83)) 0 y (tmCells z0' z1' z2' z3' z4' z5')) := hY.below g
  have HSZ := hide hsz
  rw [Nat.zero_mul, Nat.add_zero] at c0 c1 c2 c3
  rw [Nat.one_mul] at d0 d1 d2 d3
  have c0 := keepc g c0
  have c1 := keepc g c1
  have c2 := keepc g c2
  have c3 := keepc g c3
  have d0 := keepc g d0
  have d1 := keepc g d1
  have d2 := keepc g d2
  have d3 := keepc g d3
  have HG := hide g
  have a0 := box_cell w #[.int .i64 op, .int .i64 n, .string s, .slice (some ⟨b, o, none⟩) 2 cap] 83 0 _ rfl
  have a1 := box_cell w #[.int .i64 op, .int .i64 n, .string s, .slice (some ⟨b, o, none⟩) 2 cap] 83 1 _ rfl
  have a2 := box_cell w #[.int .i64 op, .int .i64 n, .string s, .slice (some ⟨b, o, none⟩) 2 cap] 83 2 _ rfl
  have a3 := box_cell w #[.int .i64 op, .int .i64 n, .string s, .slice (some ⟨b, o, none⟩) 2 cap] 83 3 _ rfl
  clear hX hY hk h h52 hsz g
  generalize beforeB y x = bf at *
  go_enter Tryz.func115, Tryz.ntmps115
  go_wp2_with fail
  go_region_held3 (fun v => v.cell? ⟨w.heap.size, 0, none⟩ = some (.int .i64 op) ∧ v.cell? ⟨w.heap.size, 1, none⟩ = some (.int .i64 n) ∧ v.cell? ⟨w.heap.size, 2, none⟩ = some (.string s) ∧ v.cell? ⟨w.heap.size, 3, none⟩ = some (.slice (some ⟨b, o, none⟩) 2 cap) ∧
      v.cell? ⟨b, o, none⟩ = some (.int .i64 z0) ∧ v.cell? ⟨b, o + 1, none⟩ = some (.int .i64 z1) ∧ v.cell? ⟨b, o + 2, none⟩ = some (.string z2) ∧ v.cell? ⟨b, o + 3, none⟩ = some (.slice z3 z4 z5) ∧
      v.cell? ⟨b, o + 4, none⟩ = some (.int .i64 z0') ∧ v.cell? ⟨b, o + 4 + 1, none⟩ = some (.int .i64 z1') ∧ v.cell? ⟨b, o + 4 + 2, none⟩ = some (.string z2') ∧ v.cell? ⟨b, o + 4 + 3, none⟩ = some (.slice z3' z4' z5')) (go_keep)
    (first
      | (go_at_call 113
         refine (unhide H _).mono ?_
         rintro e w2 ⟨rfl, hb2⟩
         have hb2' := hide (below_drw hb2)
         have f0 := keepc (unhide hb2') c0
         have f1 := keepc (unhide hb2') c1
         have f2 := keepc (unhide hb2') c2
         have f3 := keepc (unhide hb2') c3
         have f4 := keepc (unhide hb2') d0
         have f5 := keepc (unhide hb2') d1
         have f6 := keepc (unhide hb2') d2
         have f7 := keepc (unhide hb2') d3
         have f8 := keepc (unhide hb2') a0
         have f9 := keepc (unhide hb2') a1
         have f10 := keepc (unhide hb2') a2
         have f11 := keepc (unhide hb2') a3
         have HX2 := hide ((unhide HX).below (unhide hb2'))
         have HY2 := hide ((unhide HY).below (unhide hb2'))
         clear hb2)
      | (go_at_call 116
         refine (unhide HBF _ (unhide HY2) (unhide HX2) (unhide HSZ)).mono ?_
         rintro e w3 ⟨rfl, hb3⟩
         have k0 := keepc hb3 f0
         have k1 := keepc hb3 f1
         have k2 := keepc hb3 f2
         have k3 := keepc hb3 f3
         have k4 := keepc hb3 f4
         have k5 := keepc hb3 f5
         have k6 := keepc hb3 f6
         have k7 := keepc hb3 f7
         have k8 := keepc hb3 f8
         have k9 := keepc hb3 f9
         have k10 := keepc hb3 f10
         have k11 := keepc hb3 f11
         have hb3' := hide hb3
         clear hb3))
  go_wp2_with fail
  go_ret
  exact ⟨rfl, ((unhide HG).trans ((unhide hb2').mono (by simp))).trans ((unhide hb3').mono (by have := (unhide hb2').size; simp at this; omega))⟩

end Go.Proofs.YteminklafghgpaaGreatDoor
