/- For every row of bytes, FnMaking returns true and leaves its argument as it was: impl's Pair, Atom, Pub and Hash answer on what is drawn as the model does, and what they make is right. Conditions: the row's own; the package-level variable that it lists begins as the program's text lays it, which the card ties to the pruned copy of the program. -/
import Derived.Test.YtagondlfhdfcgaaDoorDn
import Derived.Test.YtagondlfhdfcgaaDoorOr
import Derived.Test.YtagondlfhdfcgaaDoorBh
import Derived.Deep.RegionHeld3
import Derived.Test.YtagondlfhdfcgaaDoorTe
import Derived.Test.YtagondlfhdfcgaaDoorTie
import Derived.Test.YtagondlfhdfcgaaDoorCards
import Derived.OpenShut
namespace Go.Proofs.YtagondlfhdfcgaaDoor
open Go.RowKit Go.Deep
open Go.ChangeShapes Go.WideShapes Go.ChangeAt Go.RowKit Go.Deep

set_option maxRecDepth 100000 in
set_option maxHeartbeats 1000000 in
theorem drawAtom (ad : Option Addr) (ln cp : Nat) (w : World) (hB : Bytes w w.heap.size ad ln) (hl : ln ≤ 1048576) (hlc : ln ≤ cp) :
    Calls Tryd.prog 23 #[.slice ad ln cp] w fun e w' => ∃ z, e = .returned (.int .i64 z) ∧ (Lit.int .i64 z).wf = true ∧ Below w.heap.size w w' := by
  have hnew := hide (new_calls ad ln cp)
  have hpk := hide pickInt_calls
  have HBY := hide hB
  have HL := hide hl
  have HLC := hide hlc
  clear hB hl hlc
  go_enter Tryd.func23, Tryd.ntmps23
  go_wp2_with fail
  refine (unhide hnew _ (unhide HBY) (unhide HL) (unhide HLC)).mono ?_
  rintro e w1 ⟨rfl, hc1, hb1, hs1⟩
  have HC1 := hide hc1
  have HB1 := hide hb1
  clear hc1 hb1
  go_wp2_with fail
  refine (unhide hpk w.heap.size w1.heap.size 6 6 _ ?_ (by omega) (by omega) (by omega) (by omega) (by omega) ?_).mono ?_
  · exact (unhide HC1).below (ab _)
  · intro k hk
    obtain rfl | rfl | rfl | rfl | rfl | rfl : k = 0 ∨ k = 1 ∨ k = 2 ∨ k = 3 ∨ k = 4 ∨ k = 5 := by omega
    · exact ⟨0, box_cell _ _ _ _ _ rfl, by decide⟩
    · exact ⟨1, box_cell _ _ _ _ _ rfl, by decide⟩
    · exact ⟨77, box_cell _ _ _ _ _ rfl, by decide⟩
    · exact ⟨1000000, box_cell _ _ _ _ _ rfl, by decide⟩
    · exact ⟨1000001, box_cell _ _ _ _ _ rfl, by decide⟩
    · exact ⟨-1, box_cell _ _ _ _ _ rfl, by decide⟩
  rintro e w2 ⟨z, rfl, hz, hc2, ho2⟩
  go_wp2_with fail
  go_ret
  have hb := bt (unhide HB1) (ab (.cells #[.int .i64 0, .int .i64 1, .int .i64 77, .int .i64 1000000, .int .i64 1000001, .int .i64 (-1)] 3)) (Nat.le_refl _)
  exact ⟨z, rfl, hz, hb.trans (ho2.belowc hb.size (Nat.le_refl _))⟩

theorem big_calls (ad : Option Addr) (ln cp : Nat) (w : World) : Calls Tryd.prog 21 #[.slice ad ln cp] w fun e w' => e = .returned (.bool (decide ((1048576 : Int) < ln))) ∧ w' = w := by
  go_enter Tryd.func21, Tryd.ntmps21
  go_wp2_with fail
  go_ret
  exact ⟨rfl, rfl⟩

theorem same_self (t : Tm) : sameB t t = true := by
  have h := cmpT_flip t t
  have h0 : cmpT t t = 0 := by omega
  simp [sameB, h0]

theorem same_yes (t : Tm) (op n : Int) (s : ByteArray) (a : Option Addr) (len cap : Nat) (op' n' : Int) (s' : ByteArray) (a' : Option Addr) (len' cap' : Nat) (w : World) (hl : Lies w 0 t (tmCells op n s a len cap)) (hl' : Lies w 0 t (tmCells op' n' s' a' len' cap')) (hsz : t.size ≤ 2097152) :
    Calls Tryd.prog 28 #[.agg #[.int .i64 op, .int .i64 n, .string s, .slice a len cap], .agg #[.int .i64 op', .int .i64 n', .string s', .slice a' len' cap']] w fun e w' => e = .returned (.bool true) ∧ Below w.heap.size w w' := by
  have h := same15 t t op n s a len cap op' n' s' a' len' cap' w hl hl' hsz
  rw [same_self] at h
  exact h

theorem made_cases {w : World} {o : Int} {ks : List Tm} {op n : Int} {s : ByteArray} {a : Option Addr} {len cap : Nat} (h : Lies w 0 (madeT o ks) (tmCells op n s a len cap)) : op = 0 ∨ (op = o ∧ okT (madeT o ks) = true) := by
  unfold madeT pickT at h ⊢
  split at h
  · rename_i hk
    right
    rw [if_pos hk]
    simp only [Lies, tmCells, List.cons.injEq, Value.int.injEq] at h
    obtain ⟨_, _, ⟨⟨_, h1⟩, _⟩, _⟩ := h
    exact ⟨h1, hk⟩
  · left
    simp only [Lies, tmCells, List.cons.injEq, Value.int.injEq] at h
    obtain ⟨_, _, ⟨⟨_, h1⟩, _⟩, _⟩ := h
    exact h1

theorem at_cases {w : World} {vn op n : Int} {s : ByteArray} {a : Option Addr} {len cap : Nat} (h : Lies w 0 (.node (atOp vn) (atN vn) ByteArray.empty []) (tmCells op n s a len cap)) : op = 0 ∨ (op = 1 ∧ okT (.node (atOp vn) (atN vn) ByteArray.empty []) = true) := by
  simp only [Lies, tmCells, List.cons.injEq, Value.int.injEq] at h
  obtain ⟨_, _, ⟨⟨_, h1⟩, _⟩, _⟩ := h
  subst h1
  by_cases hk : okT (.node 1 vn ByteArray.empty []) = true
  · right
    rw [show atOp vn = 1 from by unfold atOp; rw [if_pos hk], show atN vn = vn from by unfold atN; rw [if_pos hk]]
    exact ⟨rfl, hk⟩
  · left
    unfold atOp
    rw [if_neg hk]

set_option maxRecDepth 100000 in
set_option maxHeartbeats 8000000 in
theorem lawMaking (ad : Option Addr) (ln cp : Nat) (w : World) (hB : Bytes w w.heap.size ad ln) (hlc : ln ≤ cp) (herr : Err w) :
    Calls Tryd.prog 6 #[.slice ad ln cp] w fun e w' => e = .returned (.bool true) ∧ Below w.heap.size w w' := by
  have hbig := hide (big_calls ad ln cp)
  by_cases hl : ln ≤ 1048576
  · have hbn : (decide ((1048576 : Int) < ln)) = false := by simp; omega
    rw [hbn] at hbig
    have h6 := hide (drawPair ad ln cp)
    have h7 := hide (drawAtom ad ln cp)
    have h9 := hide (drawPub ad ln cp)
    have h10 := hide (drawHash ad ln cp)
    have HBY := hide hB
    have HL := hide hl
    have HLC := hide hlc
    have HER0 := hide herr
    clear hB hl hlc herr hbn
    go_enter Tryd.func6, Tryd.ntmps6
    go_wp2_with fail
    refine (unhide hbig _).mono ?_
    rintro e _ ⟨rfl, rfl⟩
    go_wp2_with fail
    refine (unhide h6 _ (unhide HBY) (unhide HL) (unhide HLC)).mono ?_
    rintro e w1 ⟨v, u, rfl, ⟨t1, o1, n1, s1, a1, l1, c1, rfl, q1, z1⟩, ⟨t2, o2, n2, s2, a2, l2, c2, rfl, q2, z2⟩, e1⟩
    have E1 := hide (bt e1 (bt (ab (.cells #[.int .i64 o1, .int .i64 n1, .string s1, .slice a1 l1 c1] 24)) (ab (.cells #[.int .i64 o2, .int .i64 n2, .string s2, .slice a2 l2 c2] 24)) (Nat.le_refl _)) (Nat.le_refl _))
    have HR1 := hide ((RowT.new 24 w1 o1 n1 s1 a1 l1 c1).below (ab (.cells #[.int .i64 o2, .int .i64 n2, .string s2, .slice a2 l2 c2] 24)))
    have hr2 := RowT.new 24 (w1.alloc (.cells #[.int .i64 o1, .int .i64 n1, .string s1, .slice a1 l1 c1] 24)) o2 n2 s2 a2 l2 c2
    rw [heap_size_alloc] at hr2
    have HR2 := hide hr2
    have HL1 := hide ((q1.any (Nat.zero_le _)).below (bt (ab (.cells #[.int .i64 o1, .int .i64 n1, .string s1, .slice a1 l1 c1] 24)) (ab (.cells #[.int .i64 o2, .int .i64 n2, .string s2, .slice a2 l2 c2] 24)) (Nat.le_refl _)))
    have HL2 := hide ((q2.any (Nat.zero_le _)).below (bt (ab (.cells #[.int .i64 o1, .int .i64 n1, .string s1, .slice a1 l1 c1] 24)) (ab (.cells #[.int .i64 o2, .int .i64 n2, .string s2, .slice a2 l2 c2] 24)) (Nat.le_refl _)))
    have HZ1 := hide z1
    have HZ2 := hide z2
    clear q1 q2 z1 z2 e1 hr2
    go_wp2_with fail
    generalize hV : (w1.alloc (.cells #[.int .i64 o1, .int .i64 n1, .string s1, .slice a1 l1 c1] 24)).alloc (.cells #[.int .i64 o2, .int .i64 n2, .string s2, .slice a2 l2 c2] 24) = V1 at *
    clear hV
    generalize w1.heap.size + 1 = b2 at *
    generalize w1.heap.size = b1 at *
    refine (unhide h7 _ ((unhide HBY).below (unhide E1) (unhide E1).size) (unhide HL) (unhide HLC)).mono ?_
    rintro e w2 ⟨vn, rfl, hvn, e2⟩
    have E2 := hide (bt (unhide E1) e2 (Nat.le_refl _))
    have HR1 := hide ((unhide HR1).below e2)
    have HR2 := hide ((unhide HR2).below e2)
    have HL1 := hide ((unhide HL1).below e2)
    have HL2 := hide ((unhide HL2).below e2)
    have HVN := hide hvn
    clear hvn e2 E1
    go_wp2_with fail
    refine (unhide h9 _ ((unhide HBY).below (unhide E2) (unhide E2).size) (unhide HL) (unhide HLC)).mono ?_
    rintro e w4 ⟨v, rfl, ⟨t3, o3, n3, s3, a3, l3, c3, rfl, q3, z3⟩, e4⟩
    have E4 := hide (bt (unhide E2) e4 (Nat.le_refl _))
    have HL3 := hide (q3.any (Nat.zero_le _))
    have HZ3 := hide z3
    have HR1 := hide ((unhide HR1).below e4)
    have HL1 := hide ((unhide HL1).below e4)
    have HR2 := hide ((unhide HR2).below e4)
    have HL2 := hide ((unhide HL2).below e4)
    clear q3 z3 e4 E2
    go_wp2_with fail
    refine (unhide h10 _ ((unhide HBY).below (unhide E4) (unhide E4).size) (unhide HL) (unhide HLC)).mono ?_
    rintro e w5 ⟨v, rfl, ⟨t4, o4, n4, s4, a4, l4, c4, rfl, q4, z4⟩, e5⟩
    have e55 := bt e5 (bt (ab (.cells #[.int .i64 o3, .int .i64 n3, .string s3, .slice a3 l3 c3] 24)) (ab (.cells #[.int .i64 o4, .int .i64 n4, .string s4, .slice a4 l4 c4] 24)) (Nat.le_refl _)) (Nat.le_refl _)
    have E5 := hide (bt (unhide E4) e55 (Nat.le_refl _))
    have HL4 := hide ((q4.any (Nat.zero_le _)).below (bt (ab (.cells #[.int .i64 o3, .int .i64 n3, .string s3, .slice a3 l3 c3] 24)) (ab (.cells #[.int .i64 o4, .int .i64 n4, .string s4, .slice a4 l4 c4] 24)) (Nat.le_refl _)))
    have HZ4 := hide z4
    have HR3 := hide ((RowT.new 24 w5 o3 n3 s3 a3 l3 c3).below (ab (.cells #[.int .i64 o4, .int .i64 n4, .string s4, .slice a4 l4 c4] 24)))
    have hr4 := RowT.new 24 (w5.alloc (.cells #[.int .i64 o3, .int .i64 n3, .string s3, .slice a3 l3 c3] 24)) o4 n4 s4 a4 l4 c4
    rw [heap_size_alloc] at hr4
    have HR4 := hide hr4
    have HL3 := hide ((unhide HL3).below e55)
    have HR1 := hide ((unhide HR1).below e55)
    have HL1 := hide ((unhide HL1).below e55)
    have HR2 := hide ((unhide HR2).below e55)
    have HL2 := hide ((unhide HL2).below e55)
    clear q4 z4 e5 e55 E4 hr4 h6 h7 h9 h10 hbig HBY HL HLC
    go_wp2_with fail
    generalize hV : (w5.alloc (.cells #[.int .i64 o3, .int .i64 n3, .string s3, .slice a3 l3 c3] 24)).alloc (.cells #[.int .i64 o4, .int .i64 n4, .string s4, .slice a4 l4 c4] 24) = V at *
    clear hV
    generalize w5.heap.size + 1 = b4 at *
    generalize w5.heap.size = b3 at *
    have HER := hide ((unhide HER0).on (unhide E5))
    refine wp_region_any (by kernel_rfl) ?_
    have HS12 : Hid (t1.size + t2.size ≤ 2097151) := by show _ ≤ _; have := unhide HZ1; have := unhide HZ2; omega
    have HS3 : Hid (t3.size ≤ 2097151) := by show _ ≤ _; have := unhide HZ3; omega
    have HS4 : Hid (t4.size ≤ 2097151) := by show _ ≤ _; have := unhide HZ4; omega
    have hd0 : Below V.heap.size V V.drew := (Below.refl _ _).drew
    refine rows6 _ V.drew rfl b1 b2 b3 b4 vn t1 t2 t3 t4 o1 n1 o2 n2 o3 n3 o4 n4 s1 s2 s3 s4 a1 a2 a3 a4 l1 c1 l2 c2 l3 c3 l4 c4 rfl rfl rfl rfl rfl (unhide HR1) (unhide HR2) (unhide HR3) (unhide HR4) ((unhide HL1).below hd0) ((unhide HL2).below hd0) ((unhide HL3).below hd0) ((unhide HL4).below hd0) (unhide HS12) (unhide HS3) (unhide HS4) (unhide HVN) ((unhide HER).on hd0) (fun i => if i = 0 then madeT 3 [t1, t2] else if i = 1 then .node (atOp vn) (atN vn) ByteArray.empty [] else if i = 2 then madeT 4 [t3] else madeT 6 [t4]) rfl rfl rfl rfl ?_
    intro b σ y m hall hS
    refine done6 rfl hall hS ?_
    clear hS hall m y σ b
    intro p0 p1 p2 p3 op5 n5 s5 a5 l5 k5 op6 n6 s6 a6 l6 k6 op7 n7 s7 a7 l7 k7 op8 n8 s8 a8 l8 k8 y R0 R1 R2 R3 Q0 Q1 Q2 Q3 BB
    have hBV : Below V.heap.size V y := hd0.trans BB
    have EY := hide (bt (unhide E5) hBV (Nat.le_refl _))
    have HB1 := hide R0
    have HB4 := hide R1
    have HB5 := hide R2
    have HB7 := hide R3
    have HB2 := hide ((unhide HR1).below hBV)
    have HB3 := hide ((unhide HR2).below hBV)
    have HB6 := hide ((unhide HR3).below hBV)
    have HB8 := hide ((unhide HR4).below hBV)
    have HX0 : Hid (Lies y 0 (madeT 3 [t1, t2]) (tmCells op5 n5 s5 a5 l5 k5)) := Q0
    have HX1 : Hid (Lies y 0 (.node (atOp vn) (atN vn) ByteArray.empty []) (tmCells op6 n6 s6 a6 l6 k6)) := Q1
    have HX2 : Hid (Lies y 0 (madeT 4 [t3]) (tmCells op7 n7 s7 a7 l7 k7)) := Q2
    have HX3 : Hid (Lies y 0 (madeT 6 [t4]) (tmCells op8 n8 s8 a8 l8 k8)) := Q3
    have HL1 := hide ((unhide HL1).below hBV)
    have HL2 := hide ((unhide HL2).below hBV)
    have HL3 := hide ((unhide HL3).below hBV)
    have HL4 := hide ((unhide HL4).below hBV)
    clear R0 R1 R2 R3 Q0 Q1 Q2 Q3 BB hBV hd0 HER HER0 HR1 HR2 HR3 HR4 E5
    have HW0 : Hid ((madeT 3 [t1, t2]).size ≤ 2097152) := by show _ ≤ _; have := madeT_200 3 [t1, t2]; omega
    have HW1 : Hid ((Tm.node (atOp vn) (atN vn) ByteArray.empty []).size ≤ 2097152) := by show _ ≤ _; simp [Tm.size, Tm.sizes]
    have HW2 : Hid ((madeT 4 [t3]).size ≤ 2097152) := by show _ ≤ _; have := madeT_200 4 [t3]; omega
    have HW3 : Hid ((madeT 6 [t4]).size ≤ 2097152) := by show _ ≤ _; have := madeT_200 6 [t4]; omega
    have HAT : Hid (∀ v, Lies v 0 (.node (atOp vn) (atN vn) ByteArray.empty []) (tmCells (atOp vn) (atN vn) ByteArray.empty none 0 0)) := fun v => lies_leaf v _ _ ByteArray.empty (by simp [maxLen]) (at_wf (unhide HVN)).1 (at_wf (unhide HVN)).2
    have g25 := hide (pair12 t1 t2 o1 n1 s1 a1 l1 c1 o2 n2 s2 a2 l2 c2)
    have g26 := hide (fun v => atom6 vn v (unhide HVN))
    have g27 := hide (pubS t3 o3 n3 s3 a3 l3 c3)
    have g28 := hide (hash15 t4 o4 n4 s4 a4 l4 c4)
    have g240 := hide (same_yes (madeT 3 [t1, t2]) op5 n5 s5 a5 l5 k5)
    have g241 := hide (same_yes (.node (atOp vn) (atN vn) ByteArray.empty []) op6 n6 s6 a6 l6 k6)
    have g242 := hide (same_yes (madeT 4 [t3]) op7 n7 s7 a7 l7 k7)
    have g243 := hide (same_yes (madeT 6 [t4]) op8 n8 s8 a8 l8 k8)
    have g290 := hide (ok10 (madeT 3 [t1, t2]) op5 n5 s5 a5 l5 k5)
    have g291 := hide (ok10 (.node (atOp vn) (atN vn) ByteArray.empty []) op6 n6 s6 a6 l6 k6)
    have g292 := hide (ok10 (madeT 4 [t3]) op7 n7 s7 a7 l7 k7)
    have g293 := hide (ok10 (madeT 6 [t4]) op8 n8 s8 a8 l8 k8)
    have CS0 := hide (made_cases (unhide HX0))
    have CS1 := hide (at_cases (unhide HX1))
    have CS2 := hide (made_cases (unhide HX2))
    have CS3 := hide (made_cases (unhide HX3))
    generalize madeT 3 [t1, t2] = X0 at *
    generalize madeT 4 [t3] = X2 at *
    generalize madeT 6 [t4] = X3 at *
    generalize Tm.node (atOp vn) (atN vn) ByteArray.empty [] = X1 at *
    generalize atOp vn = av at *
    generalize atN vn = bv at *
    go_wp2_with fail
    obtain ⟨f0_1a, f0_1b, f0_1c, f0_1d⟩ := (unhide HB1).facts
    obtain ⟨f0_2a, f0_2b, f0_2c, f0_2d⟩ := (unhide HB2).facts
    obtain ⟨f0_3a, f0_3b, f0_3c, f0_3d⟩ := (unhide HB3).facts
    obtain ⟨f0_4a, f0_4b, f0_4c, f0_4d⟩ := (unhide HB4).facts
    obtain ⟨f0_5a, f0_5b, f0_5c, f0_5d⟩ := (unhide HB5).facts
    obtain ⟨f0_6a, f0_6b, f0_6c, f0_6d⟩ := (unhide HB6).facts
    obtain ⟨f0_7a, f0_7b, f0_7c, f0_7d⟩ := (unhide HB7).facts
    obtain ⟨f0_8a, f0_8b, f0_8c, f0_8d⟩ := (unhide HB8).facts
    go_region_held3 (fun x => x.cell? ⟨p0, 0, none⟩ = some (.int .i64 op5) ∧ x.cell? ⟨p0, 1, none⟩ = some (.int .i64 n5) ∧ x.cell? ⟨p0, 2, none⟩ = some (.string s5) ∧ x.cell? ⟨p0, 3, none⟩ = some (.slice a5 l5 k5) ∧ x.cell? ⟨b1, 0, none⟩ = some (.int .i64 o1) ∧ x.cell? ⟨b1, 1, none⟩ = some (.int .i64 n1) ∧ x.cell? ⟨b1, 2, none⟩ = some (.string s1) ∧ x.cell? ⟨b1, 3, none⟩ = some (.slice a1 l1 c1) ∧ x.cell? ⟨b2, 0, none⟩ = some (.int .i64 o2) ∧ x.cell? ⟨b2, 1, none⟩ = some (.int .i64 n2) ∧ x.cell? ⟨b2, 2, none⟩ = some (.string s2) ∧ x.cell? ⟨b2, 3, none⟩ = some (.slice a2 l2 c2) ∧ x.cell? ⟨p1, 0, none⟩ = some (.int .i64 op6) ∧ x.cell? ⟨p1, 1, none⟩ = some (.int .i64 n6) ∧ x.cell? ⟨p1, 2, none⟩ = some (.string s6) ∧ x.cell? ⟨p1, 3, none⟩ = some (.slice a6 l6 k6) ∧ x.cell? ⟨p2, 0, none⟩ = some (.int .i64 op7) ∧ x.cell? ⟨p2, 1, none⟩ = some (.int .i64 n7) ∧ x.cell? ⟨p2, 2, none⟩ = some (.string s7) ∧ x.cell? ⟨p2, 3, none⟩ = some (.slice a7 l7 k7) ∧ x.cell? ⟨b3, 0, none⟩ = some (.int .i64 o3) ∧ x.cell? ⟨b3, 1, none⟩ = some (.int .i64 n3) ∧ x.cell? ⟨b3, 2, none⟩ = some (.string s3) ∧ x.cell? ⟨b3, 3, none⟩ = some (.slice a3 l3 c3) ∧ x.cell? ⟨p3, 0, none⟩ = some (.int .i64 op8) ∧ x.cell? ⟨p3, 1, none⟩ = some (.int .i64 n8) ∧ x.cell? ⟨p3, 2, none⟩ = some (.string s8) ∧ x.cell? ⟨p3, 3, none⟩ = some (.slice a8 l8 k8) ∧ x.cell? ⟨b4, 0, none⟩ = some (.int .i64 o4) ∧ x.cell? ⟨b4, 1, none⟩ = some (.int .i64 n4) ∧ x.cell? ⟨b4, 2, none⟩ = some (.string s4) ∧ x.cell? ⟨b4, 3, none⟩ = some (.slice a4 l4 c4)) (go_keep)
      (first
        | (go_at_call 28
           have qq := C7
           clear qq
           refine (unhide g243 op13 n13 s13 a13 l13 k13 _ ((unhide HX3).below (unhide C7)) (unhide HQ3) (unhide HW3)).mono ?_
           rintro e y8 ⟨rfl, hb8⟩
           have C8 := hide (bt (unhide C7) hb8 (Nat.le_refl _))
           clear hb8 f7_1a f7_1b f7_1c f7_1d f7_2a f7_2b f7_2c f7_2d f7_3a f7_3b f7_3c f7_3d f7_4a f7_4b f7_4c f7_4d f7_5a f7_5b f7_5c f7_5d f7_6a f7_6b f7_6c f7_6d f7_7a f7_7b f7_7c f7_7d f7_8a f7_8b f7_8c f7_8d
           obtain ⟨f8_1a, f8_1b, f8_1c, f8_1d⟩ := ((unhide HB1).below (unhide C8)).facts
           obtain ⟨f8_2a, f8_2b, f8_2c, f8_2d⟩ := ((unhide HB2).below (unhide C8)).facts
           obtain ⟨f8_3a, f8_3b, f8_3c, f8_3d⟩ := ((unhide HB3).below (unhide C8)).facts
           obtain ⟨f8_4a, f8_4b, f8_4c, f8_4d⟩ := ((unhide HB4).below (unhide C8)).facts
           obtain ⟨f8_5a, f8_5b, f8_5c, f8_5d⟩ := ((unhide HB5).below (unhide C8)).facts
           obtain ⟨f8_6a, f8_6b, f8_6c, f8_6d⟩ := ((unhide HB6).below (unhide C8)).facts
           obtain ⟨f8_7a, f8_7b, f8_7c, f8_7d⟩ := ((unhide HB7).below (unhide C8)).facts
           obtain ⟨f8_8a, f8_8b, f8_8c, f8_8d⟩ := ((unhide HB8).below (unhide C8)).facts)
        | (go_at_call 30
           have qq := C6
           clear qq
           refine (unhide g28 _ ((unhide HL4).below (unhide C6)) (unhide HS4)).mono ?_
           rintro e y7 ⟨op13, n13, s13, a13, l13, k13, rfl, q13, hb7, -⟩
           have HQ3 := hide (q13.any (Nat.zero_le _))
           clear q13
           have C7 := hide (bt (unhide C6) hb7 (Nat.le_refl _))
           clear hb7 f6_1a f6_1b f6_1c f6_1d f6_2a f6_2b f6_2c f6_2d f6_3a f6_3b f6_3c f6_3d f6_4a f6_4b f6_4c f6_4d f6_5a f6_5b f6_5c f6_5d f6_6a f6_6b f6_6c f6_6d f6_7a f6_7b f6_7c f6_7d f6_8a f6_8b f6_8c f6_8d
           obtain ⟨f7_1a, f7_1b, f7_1c, f7_1d⟩ := ((unhide HB1).below (unhide C7)).facts
           obtain ⟨f7_2a, f7_2b, f7_2c, f7_2d⟩ := ((unhide HB2).below (unhide C7)).facts
           obtain ⟨f7_3a, f7_3b, f7_3c, f7_3d⟩ := ((unhide HB3).below (unhide C7)).facts
           obtain ⟨f7_4a, f7_4b, f7_4c, f7_4d⟩ := ((unhide HB4).below (unhide C7)).facts
           obtain ⟨f7_5a, f7_5b, f7_5c, f7_5d⟩ := ((unhide HB5).below (unhide C7)).facts
           obtain ⟨f7_6a, f7_6b, f7_6c, f7_6d⟩ := ((unhide HB6).below (unhide C7)).facts
           obtain ⟨f7_7a, f7_7b, f7_7c, f7_7d⟩ := ((unhide HB7).below (unhide C7)).facts
           obtain ⟨f7_8a, f7_8b, f7_8c, f7_8d⟩ := ((unhide HB8).below (unhide C7)).facts)
        | (go_at_call 28
           have qq := C5
           clear qq
           refine (unhide g242 op12 n12 s12 a12 l12 k12 _ ((unhide HX2).below (unhide C5)) (unhide HQ2) (unhide HW2)).mono ?_
           rintro e y6 ⟨rfl, hb6⟩
           have C6 := hide (bt (unhide C5) hb6 (Nat.le_refl _))
           clear hb6 f5_1a f5_1b f5_1c f5_1d f5_2a f5_2b f5_2c f5_2d f5_3a f5_3b f5_3c f5_3d f5_4a f5_4b f5_4c f5_4d f5_5a f5_5b f5_5c f5_5d f5_6a f5_6b f5_6c f5_6d f5_7a f5_7b f5_7c f5_7d f5_8a f5_8b f5_8c f5_8d
           obtain ⟨f6_1a, f6_1b, f6_1c, f6_1d⟩ := ((unhide HB1).below (unhide C6)).facts
           obtain ⟨f6_2a, f6_2b, f6_2c, f6_2d⟩ := ((unhide HB2).below (unhide C6)).facts
           obtain ⟨f6_3a, f6_3b, f6_3c, f6_3d⟩ := ((unhide HB3).below (unhide C6)).facts
           obtain ⟨f6_4a, f6_4b, f6_4c, f6_4d⟩ := ((unhide HB4).below (unhide C6)).facts
           obtain ⟨f6_5a, f6_5b, f6_5c, f6_5d⟩ := ((unhide HB5).below (unhide C6)).facts
           obtain ⟨f6_6a, f6_6b, f6_6c, f6_6d⟩ := ((unhide HB6).below (unhide C6)).facts
           obtain ⟨f6_7a, f6_7b, f6_7c, f6_7d⟩ := ((unhide HB7).below (unhide C6)).facts
           obtain ⟨f6_8a, f6_8b, f6_8c, f6_8d⟩ := ((unhide HB8).below (unhide C6)).facts)
        | (go_at_call 29
           have qq := C4
           clear qq
           refine (unhide g27 _ ((unhide HL3).below (unhide C4)) (unhide HS3)).mono ?_
           rintro e y5 ⟨op12, n12, s12, a12, l12, k12, rfl, q12, hb5, -⟩
           have HQ2 := hide (q12.any (Nat.zero_le _))
           clear q12
           have C5 := hide (bt (unhide C4) hb5 (Nat.le_refl _))
           clear hb5 f4_1a f4_1b f4_1c f4_1d f4_2a f4_2b f4_2c f4_2d f4_3a f4_3b f4_3c f4_3d f4_4a f4_4b f4_4c f4_4d f4_5a f4_5b f4_5c f4_5d f4_6a f4_6b f4_6c f4_6d f4_7a f4_7b f4_7c f4_7d f4_8a f4_8b f4_8c f4_8d
           obtain ⟨f5_1a, f5_1b, f5_1c, f5_1d⟩ := ((unhide HB1).below (unhide C5)).facts
           obtain ⟨f5_2a, f5_2b, f5_2c, f5_2d⟩ := ((unhide HB2).below (unhide C5)).facts
           obtain ⟨f5_3a, f5_3b, f5_3c, f5_3d⟩ := ((unhide HB3).below (unhide C5)).facts
           obtain ⟨f5_4a, f5_4b, f5_4c, f5_4d⟩ := ((unhide HB4).below (unhide C5)).facts
           obtain ⟨f5_5a, f5_5b, f5_5c, f5_5d⟩ := ((unhide HB5).below (unhide C5)).facts
           obtain ⟨f5_6a, f5_6b, f5_6c, f5_6d⟩ := ((unhide HB6).below (unhide C5)).facts
           obtain ⟨f5_7a, f5_7b, f5_7c, f5_7d⟩ := ((unhide HB7).below (unhide C5)).facts
           obtain ⟨f5_8a, f5_8b, f5_8c, f5_8d⟩ := ((unhide HB8).below (unhide C5)).facts)
        | (go_at_call 28
           have qq := C3
           clear qq
           refine (unhide g241 av bv ByteArray.empty none 0 0 _ ((unhide HX1).below (unhide C3)) (unhide HAT _) (unhide HW1)).mono ?_
           rintro e y4 ⟨rfl, hb4⟩
           have C4 := hide (bt (unhide C3) hb4 (Nat.le_refl _))
           clear hb4 f3_1a f3_1b f3_1c f3_1d f3_2a f3_2b f3_2c f3_2d f3_3a f3_3b f3_3c f3_3d f3_4a f3_4b f3_4c f3_4d f3_5a f3_5b f3_5c f3_5d f3_6a f3_6b f3_6c f3_6d f3_7a f3_7b f3_7c f3_7d f3_8a f3_8b f3_8c f3_8d
           obtain ⟨f4_1a, f4_1b, f4_1c, f4_1d⟩ := ((unhide HB1).below (unhide C4)).facts
           obtain ⟨f4_2a, f4_2b, f4_2c, f4_2d⟩ := ((unhide HB2).below (unhide C4)).facts
           obtain ⟨f4_3a, f4_3b, f4_3c, f4_3d⟩ := ((unhide HB3).below (unhide C4)).facts
           obtain ⟨f4_4a, f4_4b, f4_4c, f4_4d⟩ := ((unhide HB4).below (unhide C4)).facts
           obtain ⟨f4_5a, f4_5b, f4_5c, f4_5d⟩ := ((unhide HB5).below (unhide C4)).facts
           obtain ⟨f4_6a, f4_6b, f4_6c, f4_6d⟩ := ((unhide HB6).below (unhide C4)).facts
           obtain ⟨f4_7a, f4_7b, f4_7c, f4_7d⟩ := ((unhide HB7).below (unhide C4)).facts
           obtain ⟨f4_8a, f4_8b, f4_8c, f4_8d⟩ := ((unhide HB8).below (unhide C4)).facts)
        | (go_at_call 7
           have qq := C2
           clear qq
           refine (unhide g26 _).mono ?_
           rintro e y3 ⟨rfl, hb3⟩
           have C3 := hide (bt (unhide C2) hb3 (Nat.le_refl _))
           clear hb3 f2_1a f2_1b f2_1c f2_1d f2_2a f2_2b f2_2c f2_2d f2_3a f2_3b f2_3c f2_3d f2_4a f2_4b f2_4c f2_4d f2_5a f2_5b f2_5c f2_5d f2_6a f2_6b f2_6c f2_6d f2_7a f2_7b f2_7c f2_7d f2_8a f2_8b f2_8c f2_8d
           obtain ⟨f3_1a, f3_1b, f3_1c, f3_1d⟩ := ((unhide HB1).below (unhide C3)).facts
           obtain ⟨f3_2a, f3_2b, f3_2c, f3_2d⟩ := ((unhide HB2).below (unhide C3)).facts
           obtain ⟨f3_3a, f3_3b, f3_3c, f3_3d⟩ := ((unhide HB3).below (unhide C3)).facts
           obtain ⟨f3_4a, f3_4b, f3_4c, f3_4d⟩ := ((unhide HB4).below (unhide C3)).facts
           obtain ⟨f3_5a, f3_5b, f3_5c, f3_5d⟩ := ((unhide HB5).below (unhide C3)).facts
           obtain ⟨f3_6a, f3_6b, f3_6c, f3_6d⟩ := ((unhide HB6).below (unhide C3)).facts
           obtain ⟨f3_7a, f3_7b, f3_7c, f3_7d⟩ := ((unhide HB7).below (unhide C3)).facts
           obtain ⟨f3_8a, f3_8b, f3_8c, f3_8d⟩ := ((unhide HB8).below (unhide C3)).facts)
        | (go_at_call 28
           have qq := C1
           clear qq
           refine (unhide g240 op11 n11 s11 a11 l11 k11 _ ((unhide HX0).below (unhide C1)) (unhide HQ) (unhide HW0)).mono ?_
           rintro e y2 ⟨rfl, hb2⟩
           have C2 := hide (bt (unhide C1) hb2 (Nat.le_refl _))
           clear hb2 f1_1a f1_1b f1_1c f1_1d f1_2a f1_2b f1_2c f1_2d f1_3a f1_3b f1_3c f1_3d f1_4a f1_4b f1_4c f1_4d f1_5a f1_5b f1_5c f1_5d f1_6a f1_6b f1_6c f1_6d f1_7a f1_7b f1_7c f1_7d f1_8a f1_8b f1_8c f1_8d
           obtain ⟨f2_1a, f2_1b, f2_1c, f2_1d⟩ := ((unhide HB1).below (unhide C2)).facts
           obtain ⟨f2_2a, f2_2b, f2_2c, f2_2d⟩ := ((unhide HB2).below (unhide C2)).facts
           obtain ⟨f2_3a, f2_3b, f2_3c, f2_3d⟩ := ((unhide HB3).below (unhide C2)).facts
           obtain ⟨f2_4a, f2_4b, f2_4c, f2_4d⟩ := ((unhide HB4).below (unhide C2)).facts
           obtain ⟨f2_5a, f2_5b, f2_5c, f2_5d⟩ := ((unhide HB5).below (unhide C2)).facts
           obtain ⟨f2_6a, f2_6b, f2_6c, f2_6d⟩ := ((unhide HB6).below (unhide C2)).facts
           obtain ⟨f2_7a, f2_7b, f2_7c, f2_7d⟩ := ((unhide HB7).below (unhide C2)).facts
           obtain ⟨f2_8a, f2_8b, f2_8c, f2_8d⟩ := ((unhide HB8).below (unhide C2)).facts)
        | (go_at_call 13
           refine (unhide g25 _ ((unhide HL1).below ((Below.refl _ _).drew)) ((unhide HL2).below ((Below.refl _ _).drew)) (unhide HS12)).mono ?_
           rintro e y1 ⟨op11, n11, s11, a11, l11, k11, rfl, q11, hb1, -⟩
           have HQ := hide (q11.any (Nat.zero_le _))
           clear q11
           have C1 := hide (below_drew' hb1)
           clear hb1 f0_1a f0_1b f0_1c f0_1d f0_2a f0_2b f0_2c f0_2d f0_3a f0_3b f0_3c f0_3d f0_4a f0_4b f0_4c f0_4d f0_5a f0_5b f0_5c f0_5d f0_6a f0_6b f0_6c f0_6d f0_7a f0_7b f0_7c f0_7d f0_8a f0_8b f0_8c f0_8d
           obtain ⟨f1_1a, f1_1b, f1_1c, f1_1d⟩ := ((unhide HB1).below (unhide C1)).facts
           obtain ⟨f1_2a, f1_2b, f1_2c, f1_2d⟩ := ((unhide HB2).below (unhide C1)).facts
           obtain ⟨f1_3a, f1_3b, f1_3c, f1_3d⟩ := ((unhide HB3).below (unhide C1)).facts
           obtain ⟨f1_4a, f1_4b, f1_4c, f1_4d⟩ := ((unhide HB4).below (unhide C1)).facts
           obtain ⟨f1_5a, f1_5b, f1_5c, f1_5d⟩ := ((unhide HB5).below (unhide C1)).facts
           obtain ⟨f1_6a, f1_6b, f1_6c, f1_6d⟩ := ((unhide HB6).below (unhide C1)).facts
           obtain ⟨f1_7a, f1_7b, f1_7c, f1_7d⟩ := ((unhide HB7).below (unhide C1)).facts
           obtain ⟨f1_8a, f1_8b, f1_8c, f1_8d⟩ := ((unhide HB8).below (unhide C1)).facts))
    clear f8_1a f8_1b f8_1c f8_1d f8_2a f8_2b f8_2c f8_2d f8_3a f8_3b f8_3c f8_3d f8_4a f8_4b f8_4c f8_4d f8_5a f8_5b f8_5c f8_5d f8_6a f8_6b f8_6c f8_6d f8_7a f8_7b f8_7c f8_7d f8_8a f8_8b f8_8c f8_8d g25 g26 g27 g28 g240 g241 g242 g243 HQ HQ2 HQ3 HAT HL1 HL2 HL3 HL4
    have HB1 := hide ((unhide HB1).below (unhide C8))
    have HB4 := hide ((unhide HB4).below (unhide C8))
    have HB5 := hide ((unhide HB5).below (unhide C8))
    have HB7 := hide ((unhide HB7).below (unhide C8))
    have HX0 := hide ((unhide HX0).below (unhide C8))
    have HX1 := hide ((unhide HX1).below (unhide C8))
    have HX2 := hide ((unhide HX2).below (unhide C8))
    have HX3 := hide ((unhide HX3).below (unhide C8))
    have EZ := hide (bt (unhide EY) (unhide C8) (Nat.le_refl _))
    clear EY C1 C2 C3 C4 C5 C6 C7 C8 HB2 HB3 HB6 HB8
    rcases unhide CS0 with rfl | ⟨rfl, hk0⟩
    · rcases unhide CS1 with rfl | ⟨rfl, hk1⟩
      · rcases unhide CS2 with rfl | ⟨rfl, hk2⟩
        · rcases unhide CS3 with rfl | ⟨rfl, hk3⟩
          · obtain ⟨u0_0a, u0_0b, u0_0c, u0_0d⟩ := (unhide HB1).facts
            obtain ⟨u0_1a, u0_1b, u0_1c, u0_1d⟩ := (unhide HB4).facts
            obtain ⟨u0_2a, u0_2b, u0_2c, u0_2d⟩ := (unhide HB5).facts
            obtain ⟨u0_3a, u0_3b, u0_3c, u0_3d⟩ := (unhide HB7).facts
            go_wp2_with fail
            go_ret
            exact ⟨rfl, unhide EZ⟩
          · rw [hk3] at g293
            clear hk3
            obtain ⟨u0_0a, u0_0b, u0_0c, u0_0d⟩ := (unhide HB1).facts
            obtain ⟨u0_1a, u0_1b, u0_1c, u0_1d⟩ := (unhide HB4).facts
            obtain ⟨u0_2a, u0_2b, u0_2c, u0_2d⟩ := (unhide HB5).facts
            obtain ⟨u0_3a, u0_3b, u0_3c, u0_3d⟩ := (unhide HB7).facts
            go_wp2_with fail
            refine (unhide g293 _ (unhide HX3) (unhide HW3)).mono ?_
            rintro e v1 ⟨rfl, hv1⟩
            have G1 := hide hv1
            clear hv1 u0_0a u0_0b u0_0c u0_0d u0_1a u0_1b u0_1c u0_1d u0_2a u0_2b u0_2c u0_2d u0_3a u0_3b u0_3c u0_3d
            obtain ⟨u1_0a, u1_0b, u1_0c, u1_0d⟩ := ((unhide HB1).below (unhide G1)).facts
            obtain ⟨u1_1a, u1_1b, u1_1c, u1_1d⟩ := ((unhide HB4).below (unhide G1)).facts
            obtain ⟨u1_2a, u1_2b, u1_2c, u1_2d⟩ := ((unhide HB5).below (unhide G1)).facts
            obtain ⟨u1_3a, u1_3b, u1_3c, u1_3d⟩ := ((unhide HB7).below (unhide G1)).facts
            go_wp2_with fail
            go_ret
            exact ⟨rfl, bt (unhide EZ) (unhide G1) (Nat.le_refl _)⟩
        · rw [hk2] at g292
          clear hk2
          rcases unhide CS3 with rfl | ⟨rfl, hk3⟩
          · obtain ⟨u0_0a, u0_0b, u0_0c, u0_0d⟩ := (unhide HB1).facts
            obtain ⟨u0_1a, u0_1b, u0_1c, u0_1d⟩ := (unhide HB4).facts
            obtain ⟨u0_2a, u0_2b, u0_2c, u0_2d⟩ := (unhide HB5).facts
            obtain ⟨u0_3a, u0_3b, u0_3c, u0_3d⟩ := (unhide HB7).facts
            go_wp2_with fail
            refine (unhide g292 _ (unhide HX2) (unhide HW2)).mono ?_
            rintro e v1 ⟨rfl, hv1⟩
            have G1 := hide hv1
            clear hv1 u0_0a u0_0b u0_0c u0_0d u0_1a u0_1b u0_1c u0_1d u0_2a u0_2b u0_2c u0_2d u0_3a u0_3b u0_3c u0_3d
            obtain ⟨u1_0a, u1_0b, u1_0c, u1_0d⟩ := ((unhide HB1).below (unhide G1)).facts
            obtain ⟨u1_1a, u1_1b, u1_1c, u1_1d⟩ := ((unhide HB4).below (unhide G1)).facts
            obtain ⟨u1_2a, u1_2b, u1_2c, u1_2d⟩ := ((unhide HB5).below (unhide G1)).facts
            obtain ⟨u1_3a, u1_3b, u1_3c, u1_3d⟩ := ((unhide HB7).below (unhide G1)).facts
            go_wp2_with fail
            go_ret
            exact ⟨rfl, bt (unhide EZ) (unhide G1) (Nat.le_refl _)⟩
          · rw [hk3] at g293
            clear hk3
            obtain ⟨u0_0a, u0_0b, u0_0c, u0_0d⟩ := (unhide HB1).facts
            obtain ⟨u0_1a, u0_1b, u0_1c, u0_1d⟩ := (unhide HB4).facts
            obtain ⟨u0_2a, u0_2b, u0_2c, u0_2d⟩ := (unhide HB5).facts
            obtain ⟨u0_3a, u0_3b, u0_3c, u0_3d⟩ := (unhide HB7).facts
            go_wp2_with fail
            refine (unhide g292 _ (unhide HX2) (unhide HW2)).mono ?_
            rintro e v1 ⟨rfl, hv1⟩
            have G1 := hide hv1
            clear hv1 u0_0a u0_0b u0_0c u0_0d u0_1a u0_1b u0_1c u0_1d u0_2a u0_2b u0_2c u0_2d u0_3a u0_3b u0_3c u0_3d
            obtain ⟨u1_0a, u1_0b, u1_0c, u1_0d⟩ := ((unhide HB1).below (unhide G1)).facts
            obtain ⟨u1_1a, u1_1b, u1_1c, u1_1d⟩ := ((unhide HB4).below (unhide G1)).facts
            obtain ⟨u1_2a, u1_2b, u1_2c, u1_2d⟩ := ((unhide HB5).below (unhide G1)).facts
            obtain ⟨u1_3a, u1_3b, u1_3c, u1_3d⟩ := ((unhide HB7).below (unhide G1)).facts
            go_wp2_with fail
            refine (unhide g293 _ ((unhide HX3).below (unhide G1)) (unhide HW3)).mono ?_
            rintro e v2 ⟨rfl, hv2⟩
            have G2 := hide (bt (unhide G1) hv2 (Nat.le_refl _))
            clear hv2 u1_0a u1_0b u1_0c u1_0d u1_1a u1_1b u1_1c u1_1d u1_2a u1_2b u1_2c u1_2d u1_3a u1_3b u1_3c u1_3d
            obtain ⟨u2_0a, u2_0b, u2_0c, u2_0d⟩ := ((unhide HB1).below (unhide G2)).facts
            obtain ⟨u2_1a, u2_1b, u2_1c, u2_1d⟩ := ((unhide HB4).below (unhide G2)).facts
            obtain ⟨u2_2a, u2_2b, u2_2c, u2_2d⟩ := ((unhide HB5).below (unhide G2)).facts
            obtain ⟨u2_3a, u2_3b, u2_3c, u2_3d⟩ := ((unhide HB7).below (unhide G2)).facts
            go_wp2_with fail
            go_ret
            exact ⟨rfl, bt (unhide EZ) (unhide G2) (Nat.le_refl _)⟩
      · rw [hk1] at g291
        clear hk1
        rcases unhide CS2 with rfl | ⟨rfl, hk2⟩
        · rcases unhide CS3 with rfl | ⟨rfl, hk3⟩
          · obtain ⟨u0_0a, u0_0b, u0_0c, u0_0d⟩ := (unhide HB1).facts
            obtain ⟨u0_1a, u0_1b, u0_1c, u0_1d⟩ := (unhide HB4).facts
            obtain ⟨u0_2a, u0_2b, u0_2c, u0_2d⟩ := (unhide HB5).facts
            obtain ⟨u0_3a, u0_3b, u0_3c, u0_3d⟩ := (unhide HB7).facts
            go_wp2_with fail
            refine (unhide g291 _ (unhide HX1) (unhide HW1)).mono ?_
            rintro e v1 ⟨rfl, hv1⟩
            have G1 := hide hv1
            clear hv1 u0_0a u0_0b u0_0c u0_0d u0_1a u0_1b u0_1c u0_1d u0_2a u0_2b u0_2c u0_2d u0_3a u0_3b u0_3c u0_3d
            obtain ⟨u1_0a, u1_0b, u1_0c, u1_0d⟩ := ((unhide HB1).below (unhide G1)).facts
            obtain ⟨u1_1a, u1_1b, u1_1c, u1_1d⟩ := ((unhide HB4).below (unhide G1)).facts
            obtain ⟨u1_2a, u1_2b, u1_2c, u1_2d⟩ := ((unhide HB5).below (unhide G1)).facts
            obtain ⟨u1_3a, u1_3b, u1_3c, u1_3d⟩ := ((unhide HB7).below (unhide G1)).facts
            go_wp2_with fail
            go_ret
            exact ⟨rfl, bt (unhide EZ) (unhide G1) (Nat.le_refl _)⟩
          · rw [hk3] at g293
            clear hk3
            obtain ⟨u0_0a, u0_0b, u0_0c, u0_0d⟩ := (unhide HB1).facts
            obtain ⟨u0_1a, u0_1b, u0_1c, u0_1d⟩ := (unhide HB4).facts
            obtain ⟨u0_2a, u0_2b, u0_2c, u0_2d⟩ := (unhide HB5).facts
            obtain ⟨u0_3a, u0_3b, u0_3c, u0_3d⟩ := (unhide HB7).facts
            go_wp2_with fail
            refine (unhide g291 _ (unhide HX1) (unhide HW1)).mono ?_
            rintro e v1 ⟨rfl, hv1⟩
            have G1 := hide hv1
            clear hv1 u0_0a u0_0b u0_0c u0_0d u0_1a u0_1b u0_1c u0_1d u0_2a u0_2b u0_2c u0_2d u0_3a u0_3b u0_3c u0_3d
            obtain ⟨u1_0a, u1_0b, u1_0c, u1_0d⟩ := ((unhide HB1).below (unhide G1)).facts
            obtain ⟨u1_1a, u1_1b, u1_1c, u1_1d⟩ := ((unhide HB4).below (unhide G1)).facts
            obtain ⟨u1_2a, u1_2b, u1_2c, u1_2d⟩ := ((unhide HB5).below (unhide G1)).facts
            obtain ⟨u1_3a, u1_3b, u1_3c, u1_3d⟩ := ((unhide HB7).below (unhide G1)).facts
            go_wp2_with fail
            refine (unhide g293 _ ((unhide HX3).below (unhide G1)) (unhide HW3)).mono ?_
            rintro e v2 ⟨rfl, hv2⟩
            have G2 := hide (bt (unhide G1) hv2 (Nat.le_refl _))
            clear hv2 u1_0a u1_0b u1_0c u1_0d u1_1a u1_1b u1_1c u1_1d u1_2a u1_2b u1_2c u1_2d u1_3a u1_3b u1_3c u1_3d
            obtain ⟨u2_0a, u2_0b, u2_0c, u2_0d⟩ := ((unhide HB1).below (unhide G2)).facts
            obtain ⟨u2_1a, u2_1b, u2_1c, u2_1d⟩ := ((unhide HB4).below (unhide G2)).facts
            obtain ⟨u2_2a, u2_2b, u2_2c, u2_2d⟩ := ((unhide HB5).below (unhide G2)).facts
            obtain ⟨u2_3a, u2_3b, u2_3c, u2_3d⟩ := ((unhide HB7).below (unhide G2)).facts
            go_wp2_with fail
            go_ret
            exact ⟨rfl, bt (unhide EZ) (unhide G2) (Nat.le_refl _)⟩
        · rw [hk2] at g292
          clear hk2
          rcases unhide CS3 with rfl | ⟨rfl, hk3⟩
          · obtain ⟨u0_0a, u0_0b, u0_0c, u0_0d⟩ := (unhide HB1).facts
            obtain ⟨u0_1a, u0_1b, u0_1c, u0_1d⟩ := (unhide HB4).facts
            obtain ⟨u0_2a, u0_2b, u0_2c, u0_2d⟩ := (unhide HB5).facts
            obtain ⟨u0_3a, u0_3b, u0_3c, u0_3d⟩ := (unhide HB7).facts
            go_wp2_with fail
            refine (unhide g291 _ (unhide HX1) (unhide HW1)).mono ?_
            rintro e v1 ⟨rfl, hv1⟩
            have G1 := hide hv1
            clear hv1 u0_0a u0_0b u0_0c u0_0d u0_1a u0_1b u0_1c u0_1d u0_2a u0_2b u0_2c u0_2d u0_3a u0_3b u0_3c u0_3d
            obtain ⟨u1_0a, u1_0b, u1_0c, u1_0d⟩ := ((unhide HB1).below (unhide G1)).facts
            obtain ⟨u1_1a, u1_1b, u1_1c, u1_1d⟩ := ((unhide HB4).below (unhide G1)).facts
            obtain ⟨u1_2a, u1_2b, u1_2c, u1_2d⟩ := ((unhide HB5).below (unhide G1)).facts
            obtain ⟨u1_3a, u1_3b, u1_3c, u1_3d⟩ := ((unhide HB7).below (unhide G1)).facts
            go_wp2_with fail
            refine (unhide g292 _ ((unhide HX2).below (unhide G1)) (unhide HW2)).mono ?_
            rintro e v2 ⟨rfl, hv2⟩
            have G2 := hide (bt (unhide G1) hv2 (Nat.le_refl _))
            clear hv2 u1_0a u1_0b u1_0c u1_0d u1_1a u1_1b u1_1c u1_1d u1_2a u1_2b u1_2c u1_2d u1_3a u1_3b u1_3c u1_3d
            obtain ⟨u2_0a, u2_0b, u2_0c, u2_0d⟩ := ((unhide HB1).below (unhide G2)).facts
            obtain ⟨u2_1a, u2_1b, u2_1c, u2_1d⟩ := ((unhide HB4).below (unhide G2)).facts
            obtain ⟨u2_2a, u2_2b, u2_2c, u2_2d⟩ := ((unhide HB5).below (unhide G2)).facts
            obtain ⟨u2_3a, u2_3b, u2_3c, u2_3d⟩ := ((unhide HB7).below (unhide G2)).facts
            go_wp2_with fail
            go_ret
            exact ⟨rfl, bt (unhide EZ) (unhide G2) (Nat.le_refl _)⟩
          · rw [hk3] at g293
            clear hk3
            obtain ⟨u0_0a, u0_0b, u0_0c, u0_0d⟩ := (unhide HB1).facts
            obtain ⟨u0_1a, u0_1b, u0_1c, u0_1d⟩ := (unhide HB4).facts
            obtain ⟨u0_2a, u0_2b, u0_2c, u0_2d⟩ := (unhide HB5).facts
            obtain ⟨u0_3a, u0_3b, u0_3c, u0_3d⟩ := (unhide HB7).facts
            go_wp2_with fail
            refine (unhide g291 _ (unhide HX1) (unhide HW1)).mono ?_
            rintro e v1 ⟨rfl, hv1⟩
            have G1 := hide hv1
            clear hv1 u0_0a u0_0b u0_0c u0_0d u0_1a u0_1b u0_1c u0_1d u0_2a u0_2b u0_2c u0_2d u0_3a u0_3b u0_3c u0_3d
            obtain ⟨u1_0a, u1_0b, u1_0c, u1_0d⟩ := ((unhide HB1).below (unhide G1)).facts
            obtain ⟨u1_1a, u1_1b, u1_1c, u1_1d⟩ := ((unhide HB4).below (unhide G1)).facts
            obtain ⟨u1_2a, u1_2b, u1_2c, u1_2d⟩ := ((unhide HB5).below (unhide G1)).facts
            obtain ⟨u1_3a, u1_3b, u1_3c, u1_3d⟩ := ((unhide HB7).below (unhide G1)).facts
            go_wp2_with fail
            refine (unhide g292 _ ((unhide HX2).below (unhide G1)) (unhide HW2)).mono ?_
            rintro e v2 ⟨rfl, hv2⟩
            have G2 := hide (bt (unhide G1) hv2 (Nat.le_refl _))
            clear hv2 u1_0a u1_0b u1_0c u1_0d u1_1a u1_1b u1_1c u1_1d u1_2a u1_2b u1_2c u1_2d u1_3a u1_3b u1_3c u1_3d
            obtain ⟨u2_0a, u2_0b, u2_0c, u2_0d⟩ := ((unhide HB1).below (unhide G2)).facts
            obtain ⟨u2_1a, u2_1b, u2_1c, u2_1d⟩ := ((unhide HB4).below (unhide G2)).facts
            obtain ⟨u2_2a, u2_2b, u2_2c, u2_2d⟩ := ((unhide HB5).below (unhide G2)).facts
            obtain ⟨u2_3a, u2_3b, u2_3c, u2_3d⟩ := ((unhide HB7).below (unhide G2)).facts
            go_wp2_with fail
            refine (unhide g293 _ ((unhide HX3).below (unhide G2)) (unhide HW3)).mono ?_
            rintro e v3 ⟨rfl, hv3⟩
            have G3 := hide (bt (unhide G2) hv3 (Nat.le_refl _))
            clear hv3 u2_0a u2_0b u2_0c u2_0d u2_1a u2_1b u2_1c u2_1d u2_2a u2_2b u2_2c u2_2d u2_3a u2_3b u2_3c u2_3d
            obtain ⟨u3_0a, u3_0b, u3_0c, u3_0d⟩ := ((unhide HB1).below (unhide G3)).facts
            obtain ⟨u3_1a, u3_1b, u3_1c, u3_1d⟩ := ((unhide HB4).below (unhide G3)).facts
            obtain ⟨u3_2a, u3_2b, u3_2c, u3_2d⟩ := ((unhide HB5).below (unhide G3)).facts
            obtain ⟨u3_3a, u3_3b, u3_3c, u3_3d⟩ := ((unhide HB7).below (unhide G3)).facts
            go_wp2_with fail
            go_ret
            exact ⟨rfl, bt (unhide EZ) (unhide G3) (Nat.le_refl _)⟩
    · rw [hk0] at g290
      clear hk0
      rcases unhide CS1 with rfl | ⟨rfl, hk1⟩
      · rcases unhide CS2 with rfl | ⟨rfl, hk2⟩
        · rcases unhide CS3 with rfl | ⟨rfl, hk3⟩
          · obtain ⟨u0_0a, u0_0b, u0_0c, u0_0d⟩ := (unhide HB1).facts
            obtain ⟨u0_1a, u0_1b, u0_1c, u0_1d⟩ := (unhide HB4).facts
            obtain ⟨u0_2a, u0_2b, u0_2c, u0_2d⟩ := (unhide HB5).facts
            obtain ⟨u0_3a, u0_3b, u0_3c, u0_3d⟩ := (unhide HB7).facts
            go_wp2_with fail
            refine (unhide g290 _ (unhide HX0) (unhide HW0)).mono ?_
            rintro e v1 ⟨rfl, hv1⟩
            have G1 := hide hv1
            clear hv1 u0_0a u0_0b u0_0c u0_0d u0_1a u0_1b u0_1c u0_1d u0_2a u0_2b u0_2c u0_2d u0_3a u0_3b u0_3c u0_3d
            obtain ⟨u1_0a, u1_0b, u1_0c, u1_0d⟩ := ((unhide HB1).below (unhide G1)).facts
            obtain ⟨u1_1a, u1_1b, u1_1c, u1_1d⟩ := ((unhide HB4).below (unhide G1)).facts
            obtain ⟨u1_2a, u1_2b, u1_2c, u1_2d⟩ := ((unhide HB5).below (unhide G1)).facts
            obtain ⟨u1_3a, u1_3b, u1_3c, u1_3d⟩ := ((unhide HB7).below (unhide G1)).facts
            go_wp2_with fail
            go_ret
            exact ⟨rfl, bt (unhide EZ) (unhide G1) (Nat.le_refl _)⟩
          · rw [hk3] at g293
            clear hk3
            obtain ⟨u0_0a, u0_0b, u0_0c, u0_0d⟩ := (unhide HB1).facts
            obtain ⟨u0_1a, u0_1b, u0_1c, u0_1d⟩ := (unhide HB4).facts
            obtain ⟨u0_2a, u0_2b, u0_2c, u0_2d⟩ := (unhide HB5).facts
            obtain ⟨u0_3a, u0_3b, u0_3c, u0_3d⟩ := (unhide HB7).facts
            go_wp2_with fail
            refine (unhide g290 _ (unhide HX0) (unhide HW0)).mono ?_
            rintro e v1 ⟨rfl, hv1⟩
            have G1 := hide hv1
            clear hv1 u0_0a u0_0b u0_0c u0_0d u0_1a u0_1b u0_1c u0_1d u0_2a u0_2b u0_2c u0_2d u0_3a u0_3b u0_3c u0_3d
            obtain ⟨u1_0a, u1_0b, u1_0c, u1_0d⟩ := ((unhide HB1).below (unhide G1)).facts
            obtain ⟨u1_1a, u1_1b, u1_1c, u1_1d⟩ := ((unhide HB4).below (unhide G1)).facts
            obtain ⟨u1_2a, u1_2b, u1_2c, u1_2d⟩ := ((unhide HB5).below (unhide G1)).facts
            obtain ⟨u1_3a, u1_3b, u1_3c, u1_3d⟩ := ((unhide HB7).below (unhide G1)).facts
            go_wp2_with fail
            refine (unhide g293 _ ((unhide HX3).below (unhide G1)) (unhide HW3)).mono ?_
            rintro e v2 ⟨rfl, hv2⟩
            have G2 := hide (bt (unhide G1) hv2 (Nat.le_refl _))
            clear hv2 u1_0a u1_0b u1_0c u1_0d u1_1a u1_1b u1_1c u1_1d u1_2a u1_2b u1_2c u1_2d u1_3a u1_3b u1_3c u1_3d
            obtain ⟨u2_0a, u2_0b, u2_0c, u2_0d⟩ := ((unhide HB1).below (unhide G2)).facts
            obtain ⟨u2_1a, u2_1b, u2_1c, u2_1d⟩ := ((unhide HB4).below (unhide G2)).facts
            obtain ⟨u2_2a, u2_2b, u2_2c, u2_2d⟩ := ((unhide HB5).below (unhide G2)).facts
            obtain ⟨u2_3a, u2_3b, u2_3c, u2_3d⟩ := ((unhide HB7).below (unhide G2)).facts
            go_wp2_with fail
            go_ret
            exact ⟨rfl, bt (unhide EZ) (unhide G2) (Nat.le_refl _)⟩
        · rw [hk2] at g292
          clear hk2
          rcases unhide CS3 with rfl | ⟨rfl, hk3⟩
          · obtain ⟨u0_0a, u0_0b, u0_0c, u0_0d⟩ := (unhide HB1).facts
            obtain ⟨u0_1a, u0_1b, u0_1c, u0_1d⟩ := (unhide HB4).facts
            obtain ⟨u0_2a, u0_2b, u0_2c, u0_2d⟩ := (unhide HB5).facts
            obtain ⟨u0_3a, u0_3b, u0_3c, u0_3d⟩ := (unhide HB7).facts
            go_wp2_with fail
            refine (unhide g290 _ (unhide HX0) (unhide HW0)).mono ?_
            rintro e v1 ⟨rfl, hv1⟩
            have G1 := hide hv1
            clear hv1 u0_0a u0_0b u0_0c u0_0d u0_1a u0_1b u0_1c u0_1d u0_2a u0_2b u0_2c u0_2d u0_3a u0_3b u0_3c u0_3d
            obtain ⟨u1_0a, u1_0b, u1_0c, u1_0d⟩ := ((unhide HB1).below (unhide G1)).facts
            obtain ⟨u1_1a, u1_1b, u1_1c, u1_1d⟩ := ((unhide HB4).below (unhide G1)).facts
            obtain ⟨u1_2a, u1_2b, u1_2c, u1_2d⟩ := ((unhide HB5).below (unhide G1)).facts
            obtain ⟨u1_3a, u1_3b, u1_3c, u1_3d⟩ := ((unhide HB7).below (unhide G1)).facts
            go_wp2_with fail
            refine (unhide g292 _ ((unhide HX2).below (unhide G1)) (unhide HW2)).mono ?_
            rintro e v2 ⟨rfl, hv2⟩
            have G2 := hide (bt (unhide G1) hv2 (Nat.le_refl _))
            clear hv2 u1_0a u1_0b u1_0c u1_0d u1_1a u1_1b u1_1c u1_1d u1_2a u1_2b u1_2c u1_2d u1_3a u1_3b u1_3c u1_3d
            obtain ⟨u2_0a, u2_0b, u2_0c, u2_0d⟩ := ((unhide HB1).below (unhide G2)).facts
            obtain ⟨u2_1a, u2_1b, u2_1c, u2_1d⟩ := ((unhide HB4).below (unhide G2)).facts
            obtain ⟨u2_2a, u2_2b, u2_2c, u2_2d⟩ := ((unhide HB5).below (unhide G2)).facts
            obtain ⟨u2_3a, u2_3b, u2_3c, u2_3d⟩ := ((unhide HB7).below (unhide G2)).facts
            go_wp2_with fail
            go_ret
            exact ⟨rfl, bt (unhide EZ) (unhide G2) (Nat.le_refl _)⟩
          · rw [hk3] at g293
            clear hk3
            obtain ⟨u0_0a, u0_0b, u0_0c, u0_0d⟩ := (unhide HB1).facts
            obtain ⟨u0_1a, u0_1b, u0_1c, u0_1d⟩ := (unhide HB4).facts
            obtain ⟨u0_2a, u0_2b, u0_2c, u0_2d⟩ := (unhide HB5).facts
            obtain ⟨u0_3a, u0_3b, u0_3c, u0_3d⟩ := (unhide HB7).facts
            go_wp2_with fail
            refine (unhide g290 _ (unhide HX0) (unhide HW0)).mono ?_
            rintro e v1 ⟨rfl, hv1⟩
            have G1 := hide hv1
            clear hv1 u0_0a u0_0b u0_0c u0_0d u0_1a u0_1b u0_1c u0_1d u0_2a u0_2b u0_2c u0_2d u0_3a u0_3b u0_3c u0_3d
            obtain ⟨u1_0a, u1_0b, u1_0c, u1_0d⟩ := ((unhide HB1).below (unhide G1)).facts
            obtain ⟨u1_1a, u1_1b, u1_1c, u1_1d⟩ := ((unhide HB4).below (unhide G1)).facts
            obtain ⟨u1_2a, u1_2b, u1_2c, u1_2d⟩ := ((unhide HB5).below (unhide G1)).facts
            obtain ⟨u1_3a, u1_3b, u1_3c, u1_3d⟩ := ((unhide HB7).below (unhide G1)).facts
            go_wp2_with fail
            refine (unhide g292 _ ((unhide HX2).below (unhide G1)) (unhide HW2)).mono ?_
            rintro e v2 ⟨rfl, hv2⟩
            have G2 := hide (bt (unhide G1) hv2 (Nat.le_refl _))
            clear hv2 u1_0a u1_0b u1_0c u1_0d u1_1a u1_1b u1_1c u1_1d u1_2a u1_2b u1_2c u1_2d u1_3a u1_3b u1_3c u1_3d
            obtain ⟨u2_0a, u2_0b, u2_0c, u2_0d⟩ := ((unhide HB1).below (unhide G2)).facts
            obtain ⟨u2_1a, u2_1b, u2_1c, u2_1d⟩ := ((unhide HB4).below (unhide G2)).facts
            obtain ⟨u2_2a, u2_2b, u2_2c, u2_2d⟩ := ((unhide HB5).below (unhide G2)).facts
            obtain ⟨u2_3a, u2_3b, u2_3c, u2_3d⟩ := ((unhide HB7).below (unhide G2)).facts
            go_wp2_with fail
            refine (unhide g293 _ ((unhide HX3).below (unhide G2)) (unhide HW3)).mono ?_
            rintro e v3 ⟨rfl, hv3⟩
            have G3 := hide (bt (unhide G2) hv3 (Nat.le_refl _))
            clear hv3 u2_0a u2_0b u2_0c u2_0d u2_1a u2_1b u2_1c u2_1d u2_2a u2_2b u2_2c u2_2d u2_3a u2_3b u2_3c u2_3d
            obtain ⟨u3_0a, u3_0b, u3_0c, u3_0d⟩ := ((unhide HB1).below (unhide G3)).facts
            obtain ⟨u3_1a, u3_1b, u3_1c, u3_1d⟩ := ((unhide HB4).below (unhide G3)).facts
            obtain ⟨u3_2a, u3_2b, u3_2c, u3_2d⟩ := ((unhide HB5).below (unhide G3)).facts
            obtain ⟨u3_3a, u3_3b, u3_3c, u3_3d⟩ := ((unhide HB7).below (unhide G3)).facts
            go_wp2_with fail
            go_ret
            exact ⟨rfl, bt (unhide EZ) (unhide G3) (Nat.le_refl _)⟩
      · rw [hk1] at g291
        clear hk1
        rcases unhide CS2 with rfl | ⟨rfl, hk2⟩
        · rcases unhide CS3 with rfl | ⟨rfl, hk3⟩
          · obtain ⟨u0_0a, u0_0b, u0_0c, u0_0d⟩ := (unhide HB1).facts
            obtain ⟨u0_1a, u0_1b, u0_1c, u0_1d⟩ := (unhide HB4).facts
            obtain ⟨u0_2a, u0_2b, u0_2c, u0_2d⟩ := (unhide HB5).facts
            obtain ⟨u0_3a, u0_3b, u0_3c, u0_3d⟩ := (unhide HB7).facts
            go_wp2_with fail
            refine (unhide g290 _ (unhide HX0) (unhide HW0)).mono ?_
            rintro e v1 ⟨rfl, hv1⟩
            have G1 := hide hv1
            clear hv1 u0_0a u0_0b u0_0c u0_0d u0_1a u0_1b u0_1c u0_1d u0_2a u0_2b u0_2c u0_2d u0_3a u0_3b u0_3c u0_3d
            obtain ⟨u1_0a, u1_0b, u1_0c, u1_0d⟩ := ((unhide HB1).below (unhide G1)).facts
            obtain ⟨u1_1a, u1_1b, u1_1c, u1_1d⟩ := ((unhide HB4).below (unhide G1)).facts
            obtain ⟨u1_2a, u1_2b, u1_2c, u1_2d⟩ := ((unhide HB5).below (unhide G1)).facts
            obtain ⟨u1_3a, u1_3b, u1_3c, u1_3d⟩ := ((unhide HB7).below (unhide G1)).facts
            go_wp2_with fail
            refine (unhide g291 _ ((unhide HX1).below (unhide G1)) (unhide HW1)).mono ?_
            rintro e v2 ⟨rfl, hv2⟩
            have G2 := hide (bt (unhide G1) hv2 (Nat.le_refl _))
            clear hv2 u1_0a u1_0b u1_0c u1_0d u1_1a u1_1b u1_1c u1_1d u1_2a u1_2b u1_2c u1_2d u1_3a u1_3b u1_3c u1_3d
            obtain ⟨u2_0a, u2_0b, u2_0c, u2_0d⟩ := ((unhide HB1).below (unhide G2)).facts
            obtain ⟨u2_1a, u2_1b, u2_1c, u2_1d⟩ := ((unhide HB4).below (unhide G2)).facts
            obtain ⟨u2_2a, u2_2b, u2_2c, u2_2d⟩ := ((unhide HB5).below (unhide G2)).facts
            obtain ⟨u2_3a, u2_3b, u2_3c, u2_3d⟩ := ((unhide HB7).below (unhide G2)).facts
            go_wp2_with fail
            go_ret
            exact ⟨rfl, bt (unhide EZ) (unhide G2) (Nat.le_refl _)⟩
          · rw [hk3] at g293
            clear hk3
            obtain ⟨u0_0a, u0_0b, u0_0c, u0_0d⟩ := (unhide HB1).facts
            obtain ⟨u0_1a, u0_1b, u0_1c, u0_1d⟩ := (unhide HB4).facts
            obtain ⟨u0_2a, u0_2b, u0_2c, u0_2d⟩ := (unhide HB5).facts
            obtain ⟨u0_3a, u0_3b, u0_3c, u0_3d⟩ := (unhide HB7).facts
            go_wp2_with fail
            refine (unhide g290 _ (unhide HX0) (unhide HW0)).mono ?_
            rintro e v1 ⟨rfl, hv1⟩
            have G1 := hide hv1
            clear hv1 u0_0a u0_0b u0_0c u0_0d u0_1a u0_1b u0_1c u0_1d u0_2a u0_2b u0_2c u0_2d u0_3a u0_3b u0_3c u0_3d
            obtain ⟨u1_0a, u1_0b, u1_0c, u1_0d⟩ := ((unhide HB1).below (unhide G1)).facts
            obtain ⟨u1_1a, u1_1b, u1_1c, u1_1d⟩ := ((unhide HB4).below (unhide G1)).facts
            obtain ⟨u1_2a, u1_2b, u1_2c, u1_2d⟩ := ((unhide HB5).below (unhide G1)).facts
            obtain ⟨u1_3a, u1_3b, u1_3c, u1_3d⟩ := ((unhide HB7).below (unhide G1)).facts
            go_wp2_with fail
            refine (unhide g291 _ ((unhide HX1).below (unhide G1)) (unhide HW1)).mono ?_
            rintro e v2 ⟨rfl, hv2⟩
            have G2 := hide (bt (unhide G1) hv2 (Nat.le_refl _))
            clear hv2 u1_0a u1_0b u1_0c u1_0d u1_1a u1_1b u1_1c u1_1d u1_2a u1_2b u1_2c u1_2d u1_3a u1_3b u1_3c u1_3d
            obtain ⟨u2_0a, u2_0b, u2_0c, u2_0d⟩ := ((unhide HB1).below (unhide G2)).facts
            obtain ⟨u2_1a, u2_1b, u2_1c, u2_1d⟩ := ((unhide HB4).below (unhide G2)).facts
            obtain ⟨u2_2a, u2_2b, u2_2c, u2_2d⟩ := ((unhide HB5).below (unhide G2)).facts
            obtain ⟨u2_3a, u2_3b, u2_3c, u2_3d⟩ := ((unhide HB7).below (unhide G2)).facts
            go_wp2_with fail
            refine (unhide g293 _ ((unhide HX3).below (unhide G2)) (unhide HW3)).mono ?_
            rintro e v3 ⟨rfl, hv3⟩
            have G3 := hide (bt (unhide G2) hv3 (Nat.le_refl _))
            clear hv3 u2_0a u2_0b u2_0c u2_0d u2_1a u2_1b u2_1c u2_1d u2_2a u2_2b u2_2c u2_2d u2_3a u2_3b u2_3c u2_3d
            obtain ⟨u3_0a, u3_0b, u3_0c, u3_0d⟩ := ((unhide HB1).below (unhide G3)).facts
            obtain ⟨u3_1a, u3_1b, u3_1c, u3_1d⟩ := ((unhide HB4).below (unhide G3)).facts
            obtain ⟨u3_2a, u3_2b, u3_2c, u3_2d⟩ := ((unhide HB5).below (unhide G3)).facts
            obtain ⟨u3_3a, u3_3b, u3_3c, u3_3d⟩ := ((unhide HB7).below (unhide G3)).facts
            go_wp2_with fail
            go_ret
            exact ⟨rfl, bt (unhide EZ) (unhide G3) (Nat.le_refl _)⟩
        · rw [hk2] at g292
          clear hk2
          rcases unhide CS3 with rfl | ⟨rfl, hk3⟩
          · obtain ⟨u0_0a, u0_0b, u0_0c, u0_0d⟩ := (unhide HB1).facts
            obtain ⟨u0_1a, u0_1b, u0_1c, u0_1d⟩ := (unhide HB4).facts
            obtain ⟨u0_2a, u0_2b, u0_2c, u0_2d⟩ := (unhide HB5).facts
            obtain ⟨u0_3a, u0_3b, u0_3c, u0_3d⟩ := (unhide HB7).facts
            go_wp2_with fail
            refine (unhide g290 _ (unhide HX0) (unhide HW0)).mono ?_
            rintro e v1 ⟨rfl, hv1⟩
            have G1 := hide hv1
            clear hv1 u0_0a u0_0b u0_0c u0_0d u0_1a u0_1b u0_1c u0_1d u0_2a u0_2b u0_2c u0_2d u0_3a u0_3b u0_3c u0_3d
            obtain ⟨u1_0a, u1_0b, u1_0c, u1_0d⟩ := ((unhide HB1).below (unhide G1)).facts
            obtain ⟨u1_1a, u1_1b, u1_1c, u1_1d⟩ := ((unhide HB4).below (unhide G1)).facts
            obtain ⟨u1_2a, u1_2b, u1_2c, u1_2d⟩ := ((unhide HB5).below (unhide G1)).facts
            obtain ⟨u1_3a, u1_3b, u1_3c, u1_3d⟩ := ((unhide HB7).below (unhide G1)).facts
            go_wp2_with fail
            refine (unhide g291 _ ((unhide HX1).below (unhide G1)) (unhide HW1)).mono ?_
            rintro e v2 ⟨rfl, hv2⟩
            have G2 := hide (bt (unhide G1) hv2 (Nat.le_refl _))
            clear hv2 u1_0a u1_0b u1_0c u1_0d u1_1a u1_1b u1_1c u1_1d u1_2a u1_2b u1_2c u1_2d u1_3a u1_3b u1_3c u1_3d
            obtain ⟨u2_0a, u2_0b, u2_0c, u2_0d⟩ := ((unhide HB1).below (unhide G2)).facts
            obtain ⟨u2_1a, u2_1b, u2_1c, u2_1d⟩ := ((unhide HB4).below (unhide G2)).facts
            obtain ⟨u2_2a, u2_2b, u2_2c, u2_2d⟩ := ((unhide HB5).below (unhide G2)).facts
            obtain ⟨u2_3a, u2_3b, u2_3c, u2_3d⟩ := ((unhide HB7).below (unhide G2)).facts
            go_wp2_with fail
            refine (unhide g292 _ ((unhide HX2).below (unhide G2)) (unhide HW2)).mono ?_
            rintro e v3 ⟨rfl, hv3⟩
            have G3 := hide (bt (unhide G2) hv3 (Nat.le_refl _))
            clear hv3 u2_0a u2_0b u2_0c u2_0d u2_1a u2_1b u2_1c u2_1d u2_2a u2_2b u2_2c u2_2d u2_3a u2_3b u2_3c u2_3d
            obtain ⟨u3_0a, u3_0b, u3_0c, u3_0d⟩ := ((unhide HB1).below (unhide G3)).facts
            obtain ⟨u3_1a, u3_1b, u3_1c, u3_1d⟩ := ((unhide HB4).below (unhide G3)).facts
            obtain ⟨u3_2a, u3_2b, u3_2c, u3_2d⟩ := ((unhide HB5).below (unhide G3)).facts
            obtain ⟨u3_3a, u3_3b, u3_3c, u3_3d⟩ := ((unhide HB7).below (unhide G3)).facts
            go_wp2_with fail
            go_ret
            exact ⟨rfl, bt (unhide EZ) (unhide G3) (Nat.le_refl _)⟩
          · rw [hk3] at g293
            clear hk3
            obtain ⟨u0_0a, u0_0b, u0_0c, u0_0d⟩ := (unhide HB1).facts
            obtain ⟨u0_1a, u0_1b, u0_1c, u0_1d⟩ := (unhide HB4).facts
            obtain ⟨u0_2a, u0_2b, u0_2c, u0_2d⟩ := (unhide HB5).facts
            obtain ⟨u0_3a, u0_3b, u0_3c, u0_3d⟩ := (unhide HB7).facts
            go_wp2_with fail
            refine (unhide g290 _ (unhide HX0) (unhide HW0)).mono ?_
            rintro e v1 ⟨rfl, hv1⟩
            have G1 := hide hv1
            clear hv1 u0_0a u0_0b u0_0c u0_0d u0_1a u0_1b u0_1c u0_1d u0_2a u0_2b u0_2c u0_2d u0_3a u0_3b u0_3c u0_3d
            obtain ⟨u1_0a, u1_0b, u1_0c, u1_0d⟩ := ((unhide HB1).below (unhide G1)).facts
            obtain ⟨u1_1a, u1_1b, u1_1c, u1_1d⟩ := ((unhide HB4).below (unhide G1)).facts
            obtain ⟨u1_2a, u1_2b, u1_2c, u1_2d⟩ := ((unhide HB5).below (unhide G1)).facts
            obtain ⟨u1_3a, u1_3b, u1_3c, u1_3d⟩ := ((unhide HB7).below (unhide G1)).facts
            go_wp2_with fail
            refine (unhide g291 _ ((unhide HX1).below (unhide G1)) (unhide HW1)).mono ?_
            rintro e v2 ⟨rfl, hv2⟩
            have G2 := hide (bt (unhide G1) hv2 (Nat.le_refl _))
            clear hv2 u1_0a u1_0b u1_0c u1_0d u1_1a u1_1b u1_1c u1_1d u1_2a u1_2b u1_2c u1_2d u1_3a u1_3b u1_3c u1_3d
            obtain ⟨u2_0a, u2_0b, u2_0c, u2_0d⟩ := ((unhide HB1).below (unhide G2)).facts
            obtain ⟨u2_1a, u2_1b, u2_1c, u2_1d⟩ := ((unhide HB4).below (unhide G2)).facts
            obtain ⟨u2_2a, u2_2b, u2_2c, u2_2d⟩ := ((unhide HB5).below (unhide G2)).facts
            obtain ⟨u2_3a, u2_3b, u2_3c, u2_3d⟩ := ((unhide HB7).below (unhide G2)).facts
            go_wp2_with fail
            refine (unhide g292 _ ((unhide HX2).below (unhide G2)) (unhide HW2)).mono ?_
            rintro e v3 ⟨rfl, hv3⟩
            have G3 := hide (bt (unhide G2) hv3 (Nat.le_refl _))
            clear hv3 u2_0a u2_0b u2_0c u2_0d u2_1a u2_1b u2_1c u2_1d u2_2a u2_2b u2_2c u2_2d u2_3a u2_3b u2_3c u2_3d
            obtain ⟨u3_0a, u3_0b, u3_0c, u3_0d⟩ := ((unhide HB1).below (unhide G3)).facts
            obtain ⟨u3_1a, u3_1b, u3_1c, u3_1d⟩ := ((unhide HB4).below (unhide G3)).facts
            obtain ⟨u3_2a, u3_2b, u3_2c, u3_2d⟩ := ((unhide HB5).below (unhide G3)).facts
            obtain ⟨u3_3a, u3_3b, u3_3c, u3_3d⟩ := ((unhide HB7).below (unhide G3)).facts
            go_wp2_with fail
            refine (unhide g293 _ ((unhide HX3).below (unhide G3)) (unhide HW3)).mono ?_
            rintro e v4 ⟨rfl, hv4⟩
            have G4 := hide (bt (unhide G3) hv4 (Nat.le_refl _))
            clear hv4 u3_0a u3_0b u3_0c u3_0d u3_1a u3_1b u3_1c u3_1d u3_2a u3_2b u3_2c u3_2d u3_3a u3_3b u3_3c u3_3d
            obtain ⟨u4_0a, u4_0b, u4_0c, u4_0d⟩ := ((unhide HB1).below (unhide G4)).facts
            obtain ⟨u4_1a, u4_1b, u4_1c, u4_1d⟩ := ((unhide HB4).below (unhide G4)).facts
            obtain ⟨u4_2a, u4_2b, u4_2c, u4_2d⟩ := ((unhide HB5).below (unhide G4)).facts
            obtain ⟨u4_3a, u4_3b, u4_3c, u4_3d⟩ := ((unhide HB7).below (unhide G4)).facts
            go_wp2_with fail
            go_ret
            exact ⟨rfl, bt (unhide EZ) (unhide G4) (Nat.le_refl _)⟩
  · have hbn : (decide ((1048576 : Int) < ln)) = true := by simp; omega
    rw [hbn] at hbig
    clear hB hlc herr hbn hl
    go_enter Tryd.func6, Tryd.ntmps6
    go_wp2_with fail
    refine (unhide hbig _).mono ?_
    rintro e _ ⟨rfl, rfl⟩
    go_wp2_with fail
    go_ret
    exact ⟨rfl, Below.refl _ _⟩

theorem cells5 : Tryd.prog.cellsOf 5 = 1 := by kernel_rfl

theorem u8_bounds {n : Int} (h : (Lit.int .u8 n).wf = true) : 0 ≤ n ∧ n < 256 := by
  simp only [Lit.wf, Bool.and_eq_true, decide_eq_true_eq] at h
  have h1 : (0 : Int) ≤ n := h.1
  have h2 : n ≤ (255 : Int) := h.2
  omega

set_option maxRecDepth 100000 in
/-- An argument that is a row of bytes, opened. -/
theorem open_code {H : Type} {enc : TypeId × Value → H} {W : World} {base : Nat} {v : Value} {d : DataW H} {p : List MemPlace} (hv : Value.okWide Tryd.prog W .any base 41 v) (h : DataW.Trod enc Tryd.prog W 0 (fun _ => true) true 41 v d p) :
    ∃ (a : Option Addr) (len cap : Nat), v = .slice a len cap ∧ len ≤ cap ∧ Bytes W W.heap.size a len := by
  obtain ⟨a1, len, cap, rfl⟩ := okWide_slice Tryd.underlying41 hv
  obtain ⟨fuel, hf⟩ := h
  rcases open_ints Tryd.underlying41 Tryd.underlying5 cells5 hf with ⟨hcs, hx⟩ | ⟨a, len', cap', zs, hcs, _, hl, hm, hz, hx, hcell, hwz⟩
  · simp [Value.cells] at hcs
    obtain ⟨rfl, rfl, rfl⟩ := hcs
    exact ⟨none, 0, 0, rfl, Nat.le_refl _, fun k hk => by omega⟩
  · simp [Value.cells] at hcs
    obtain ⟨rfl, rfl, rfl⟩ := hcs
    simp only [if_true] at hz
    refine ⟨some a, len, cap, rfl, hl, fun k hk => ?_⟩
    obtain ⟨b, off, rfl, hb⟩ := ints_at hcell (by omega)
    have hk' : k < zs.length := by omega
    have hc := hb k hk'
    refine ⟨b, off, zs.getD k 0, rfl, lt_of_cell hc, hc, u8_bounds (hwz _ ?_)⟩
    rw [List.getD_eq_getElem?_getD, List.getElem?_eq_getElem hk']
    exact List.getElem_mem hk'

set_option maxRecDepth 100000 in
theorem liftedMaking (os : Os) (started : os.Started) (H : Type) (enc : TypeId × Value → H) :
    ReturnsInHanded {} Tryd.checked os 6 .any (fun w args => (Rows.fnMakingSpec.pre enc Tryd.prog Tryd.f6 Rows.fnMakingRow.domain false w args ∧ laidMetH Tryd.prog laidE w) ∧ sizedMet enc Tryd.prog Tryd.f6 (OpenSpec.ofChange Rows.fnMakingSpec) false w args)
      (Rows.fnMakingSpec.post enc Tryd.prog Tryd.f6 false true false false) := by
  refine returnsInHanded_of_change_and (C := Tryd.checked) (X := fun w _ => laidMetH Tryd.prog laidE w) (fun _ _ _ hh h => h.of_heap hh) own started (by kernel_rfl) Tryd.func6
    (ChangeSpec.witness_shaped (enc := enc) (C := Tryd.checked) (os := os) (X := fun w _ => laidMetH Tryd.prog laidE w) false (World.doorLaid Tryd.prog 400 os) #[.slice none 0 0] 8 rfl (World.shaped_of_RefB (by kernel_rfl) (by kernel_rfl)) (by kernel_rfl) (by kernel_rfl) (by kernel_rfl) (doorE_met os _)) ?_
  intro W base args ds gs before hval0 hW _ _ hL _
  have hval : ∀ (j : Nat) t v, Tryd.f6.params[j]? = some t → args[j]? = some v → Value.okWide Tryd.prog W .any base t v := hval0
  have hW' := hW
  obtain ⟨p, q, hA0, hV0, rfl, hfz, hnd⟩ := hW
  have hA : DataW.TrodAll enc Tryd.prog W 0 (fun _ => true) true Tryd.f6.params.toList args.toList ds p := hA0
  have hV : DataW.TrodVars enc Tryd.prog W (fun _ => true) ["loop.example/g00328/impl.errNoTerm"] gs q := hV0
  rw [Tryd.params6] at hA hval
  obtain ⟨v0, vs0, d0, ds0, p0, q0, hargs, rfl, rfl, h0, r0⟩ := trodAll_cons hA
  obtain ⟨rfl, rfl, rfl⟩ := trodAll_nil r0
  obtain rfl : args = #[v0] := by cases args; simp_all
  obtain ⟨x, hx⟩ := err_of_laidE hL
  obtain ⟨rfl, rfl⟩ := hV.unique (err_read enc hx _)
  have k0 := h0
  have lt0 : ∀ x ∈ p0, x.block < W.heap.size := by obtain ⟨m, hm⟩ := k0; exact DataW.trod_lt m _ _ _ hm
  obtain ⟨a, len, cap, rfl, hlc, hby⟩ := open_code (hval 0 41 v0 rfl rfl) h0
  clear hA0 hV0 hval0
  refine (lawMaking a len cap W hby hlc (err_of_var hx)).mono fun e W' ⟨he, bel⟩ => ?_
  subst he
  exact ⟨_, rfl, _, _, _, [], _, [.cell 0 0], hW', trodAll_mk1 (shut_bool Tryd.underlying4 _), (trodAll_cons_mk (Below.trod laidOut (by kernel_rfl) (of_decide_eq_true (by kernel_rfl)) k0 bel lt0) trodAll_mk0), err_read enc (var?_below hx bel) _, bel.frame _, fun h => by cases h⟩

theorem making_row : Rows.FnMakingSaid :=
  OpenClaim.holds_of_wide 6 Tryd.f6 rfl rfl rfl rfl rfl rfl rfl ⟨rfl, rfl, rfl, rfl, rfl⟩ rfl rfl rfl rfl rfl (by kernel_rfl) Tryd.func6 (by kernel_rfl)
    (of_decide_eq_true (by kernel_rfl)) (by unfold Func.isWrapper; first | (rw [if_pos (by decide +kernel)]; kernel_rfl) | (rw [if_neg (by decide +kernel)]; exact ⟨rfl, rfl⟩))
    (fun os started H enc _ => liftedMaking os started H enc)

theorem making_card : Rows.FnMakingCardSaid :=
  Claim7.holds_tied_plain_at .later [] [.sentinel] true (true, "ac0daa81b4e0f428fa110507d870c79f86d5afa0e151faecc420abd79b226524") true
    making_row (fun _ h => by cases h) (by kernel_rfl) (fun _ h => by cases h) fnMaking_row_tie rfl ⟨rfl, rfl⟩ (by kernel_rfl) rfl
    (fun f fn hf hfn => by
      obtain rfl : f = 6 := Option.some.inj ((show Tryd.prog.funcNamed "loop.example/g00328/laws.FnMaking" = some 6 by kernel_rfl).symm.trans hf) |>.symm
      obtain rfl : fn = Tryd.f6 := (Option.some.inj (Tryd.func6.symm.trans hfn)).symm
      exact ⟨by kernel_rfl, fun j t ht => by
        rw [Tryd.params6] at ht
        have hm : t ∈ [41] := by have := Array.mem_of_getElem? ht; simp at this ⊢; omega
        have hall : ([41].all fun u => !Tryd.prog.wantsStandIn u) = true := by kernel_rfl
        exact (show Tryd.prog.wantsStandIn t = false by simpa using List.all_eq_true.1 hall t hm)⟩)
    (by kernel_rfl)
#print axioms making_card

end Go.Proofs.YtagondlfhdfcgaaDoor
