/- The walk of laws.FnTerms: whatever bytes it is given it answers true; nothing that was there is written. -/
import Derived.Test.YtpniekfalckdcaaDoorDn
import Derived.Test.YtpniekfalckdcaaDoorIt
import Derived.Test.YtpniekfalckdcaaDoorAv
import Derived.Deep.RegionHeld3
namespace Go.Proofs.YtpniekfalckdcaaDoor
open Go.RowKit Go.Deep

theorem same15 (t t' : Tm) (op n : Int) (s : ByteArray) (a : Option Addr) (len cap : Nat) (op' n' : Int) (s' : ByteArray) (a' : Option Addr) (len' cap' : Nat) (w : World) (hl : Lies w 0 t (tmCells op n s a len cap)) (hl' : Lies w 0 t' (tmCells op' n' s' a' len' cap'))
    (hsz : t.size ≤ 2097152) :
    Calls Tryd.prog 13 #[.agg #[.int .i64 op, .int .i64 n, .string s, .slice a len cap], .agg #[.int .i64 op', .int .i64 n', .string s', .slice a' len' cap']] w fun e w' => e = .returned (.bool (sameB t t')) ∧ Below w.heap.size w w' := by
  have h24 := hide (cmp24 t t' op n s a len cap op' n' s' a' len' cap')
  have HL := hide hl
  have HL' := hide hl'
  have HB : Hid (∀ c : Int, c = cmpT t t' → sameB t t' = (c == 0)) := fun c hc => by rw [hc]; unfold sameB; rw [Bool.eq_iff_iff]; simp
  generalize cmpT t t' = C at *
  clear hl hl'
  go_enter Tryd.func13, Tryd.ntmps13
  go_wp2_with fail
  refine (unhide h24 _ ((unhide HL).below (((Below.refl _ _).alloc (Nat.le_refl _) _).alloc (by simp) _)) ((unhide HL').below (((Below.refl _ _).alloc (Nat.le_refl _) _).alloc (by simp) _)) hsz).mono ?_
  rintro e w2 ⟨rfl, hb2⟩
  go_wp2_with fail
  go_ret
  exact ⟨ret_bool (unhide HB _ rfl).symm, (((Below.refl _ _).alloc (Nat.le_refl _) _).alloc (by simp) _).trans (hb2.mono (by simp; omega))⟩


theorem ts13 (t : Tm) (op n : Int) (s : ByteArray) (a : Option Addr) (len cap : Nat) (w : World) (hl : Lies w 0 t (tmCells op n s a len cap)) (hsz : t.size ≤ 2097152) :
    Calls Tryd.prog 17 #[.agg #[.int .i64 op, .int .i64 n, .string s, .slice a len cap]] w fun e w' => e = .returned (.int .i64 (t.size : Int)) ∧ Below w.heap.size w w' := by
  have HL := hide hl
  have hsu := su_any t
  clear hl
  go_enter Tryd.func17, Tryd.ntmps17
  go_wp2_with fail
  refine (hsu op n s a len cap _ _ ((unhide HL).below ((Below.refl _ _).alloc (Nat.le_refl _) _)) hsz).mono ?_
  rintro e w2 ⟨rfl, hb2⟩
  go_wp2_with fail
  go_ret
  exact ⟨ret_int (capAt_le (by omega)), ((Below.refl _ _).alloc (Nat.le_refl _) _).trans (hb2.mono (by simp))⟩



theorem big_calls (ad : Option Addr) (ln cp : Nat) (w : World) : Calls Tryd.prog 5 #[.slice ad ln cp] w fun e w' => e = .returned (.bool (decide ((1048576 : Int) < ln))) ∧ w' = w := by
  go_enter Tryd.func5, Tryd.ntmps5
  go_wp2_with fail
  go_ret
  exact ⟨rfl, rfl⟩

set_option maxRecDepth 100000 in
set_option maxHeartbeats 8000000 in
theorem lawTerms (ad : Option Addr) (ln cp : Nat) (w : World) (hB : Bytes w w.heap.size ad ln) (hlc : ln ≤ cp) (htab : Tab w) :
    Calls Tryd.prog 3 #[.slice ad ln cp] w fun e w' => e = .returned (.bool true) ∧ Below w.heap.size w w' := by
  have hbig := hide (big_calls ad ln cp)
  by_cases hl : ln ≤ 1048576
  · have hbn : (decide ((1048576 : Int) < ln)) = false := by simp; omega
    rw [hbn] at hbig
    have h6 := hide (drawBefore ad ln cp)
    have h7 := hide (drawSame ad ln cp)
    have h8 := hide (drawOk ad ln cp)
    have h9 := hide (drawSize ad ln cp)
    have h10 := hide (drawText ad ln cp)
    have HBY := hide hB
    have HL := hide hl
    have HLC := hide hlc
    have HTB0 := hide htab
    clear hB hl hlc htab hbn
    go_enter Tryd.func3, Tryd.ntmps3
    go_wp2_with fail
    refine (unhide hbig _).mono ?_
    rintro e _ ⟨rfl, rfl⟩
    go_wp2_with fail
    refine (unhide h6 _ (unhide HBY) (unhide HL) (unhide HLC)).mono ?_
    rintro e w1 ⟨v, u, rfl, ⟨t1, o1, n1, s1, a1, l1, c1, rfl, q1, z1⟩, ⟨t2, o2, n2, s2, a2, l2, c2, rfl, q2, z2⟩, e1⟩
    have E1 := hide (bt e1 (bt (ab (.cells #[.int .i64 o1, .int .i64 n1, .string s1, .slice a1 l1 c1] 26)) (ab (.cells #[.int .i64 o2, .int .i64 n2, .string s2, .slice a2 l2 c2] 26)) (Nat.le_refl _)) (Nat.le_refl _))
    have HR1 := hide ((RowT.new 26 w1 o1 n1 s1 a1 l1 c1).below (ab (.cells #[.int .i64 o2, .int .i64 n2, .string s2, .slice a2 l2 c2] 26)))
    have hr2 := RowT.new 26 (w1.alloc (.cells #[.int .i64 o1, .int .i64 n1, .string s1, .slice a1 l1 c1] 26)) o2 n2 s2 a2 l2 c2
    rw [heap_size_alloc] at hr2
    have HR2 := hide hr2
    have HL1 := hide ((q1.any (Nat.zero_le _)).below (bt (ab (.cells #[.int .i64 o1, .int .i64 n1, .string s1, .slice a1 l1 c1] 26)) (ab (.cells #[.int .i64 o2, .int .i64 n2, .string s2, .slice a2 l2 c2] 26)) (Nat.le_refl _)))
    have HL2 := hide ((q2.any (Nat.zero_le _)).below (bt (ab (.cells #[.int .i64 o1, .int .i64 n1, .string s1, .slice a1 l1 c1] 26)) (ab (.cells #[.int .i64 o2, .int .i64 n2, .string s2, .slice a2 l2 c2] 26)) (Nat.le_refl _)))
    have HZ1 := hide z1
    have HZ2 := hide z2
    clear q1 q2 z1 z2 e1 hr2
    go_wp2_with fail
    generalize hV : (w1.alloc (.cells #[.int .i64 o1, .int .i64 n1, .string s1, .slice a1 l1 c1] 26)).alloc (.cells #[.int .i64 o2, .int .i64 n2, .string s2, .slice a2 l2 c2] 26) = V1 at *
    clear hV
    generalize w1.heap.size + 1 = b2 at *
    generalize w1.heap.size = b1 at *
    refine (unhide h7 _ ((unhide HBY).below (unhide E1) (unhide E1).size) (unhide HL) (unhide HLC)).mono ?_
    rintro e w2 ⟨v, u, rfl, ⟨t3, o3, n3, s3, a3, l3, c3, rfl, q3, z3⟩, ⟨t4, o4, n4, s4, a4, l4, c4, rfl, q4, z4⟩, e2⟩
    have e22 := bt e2 (bt (ab (.cells #[.int .i64 o3, .int .i64 n3, .string s3, .slice a3 l3 c3] 26)) (ab (.cells #[.int .i64 o4, .int .i64 n4, .string s4, .slice a4 l4 c4] 26)) (Nat.le_refl _)) (Nat.le_refl _)
    have E2 := hide (bt (unhide E1) e22 (Nat.le_refl _))
    have HR1 := hide ((unhide HR1).below e22)
    have HR2 := hide ((unhide HR2).below e22)
    have HL1 := hide ((unhide HL1).below e22)
    have HL2 := hide ((unhide HL2).below e22)
    have HR3 := hide ((RowT.new 26 w2 o3 n3 s3 a3 l3 c3).below (ab (.cells #[.int .i64 o4, .int .i64 n4, .string s4, .slice a4 l4 c4] 26)))
    have hr4 := RowT.new 26 (w2.alloc (.cells #[.int .i64 o3, .int .i64 n3, .string s3, .slice a3 l3 c3] 26)) o4 n4 s4 a4 l4 c4
    rw [heap_size_alloc] at hr4
    have HR4 := hide hr4
    have HL3 := hide ((q3.any (Nat.zero_le _)).below (bt (ab (.cells #[.int .i64 o3, .int .i64 n3, .string s3, .slice a3 l3 c3] 26)) (ab (.cells #[.int .i64 o4, .int .i64 n4, .string s4, .slice a4 l4 c4] 26)) (Nat.le_refl _)))
    have HL4 := hide ((q4.any (Nat.zero_le _)).below (bt (ab (.cells #[.int .i64 o3, .int .i64 n3, .string s3, .slice a3 l3 c3] 26)) (ab (.cells #[.int .i64 o4, .int .i64 n4, .string s4, .slice a4 l4 c4] 26)) (Nat.le_refl _)))
    have HZ3 := hide z3
    have HZ4 := hide z4
    clear q3 q4 z3 z4 e2 e22 hr4 E1
    go_wp2_with fail
    generalize hV : (w2.alloc (.cells #[.int .i64 o3, .int .i64 n3, .string s3, .slice a3 l3 c3] 26)).alloc (.cells #[.int .i64 o4, .int .i64 n4, .string s4, .slice a4 l4 c4] 26) = V2 at *
    clear hV
    generalize w2.heap.size + 1 = b4 at *
    generalize w2.heap.size = b3 at *
    refine (unhide h8 _ ((unhide HBY).below (unhide E2) (unhide E2).size) (unhide HL) (unhide HLC)).mono ?_
    rintro e w3 ⟨t5, o5, n5, s5, a5, l5, c5, rfl, q5, z5, e3⟩
    have e33 := bt e3 (ab (.cells #[.int .i64 o5, .int .i64 n5, .string s5, .slice a5 l5 c5] 26)) (Nat.le_refl _)
    have E3 := hide (bt (unhide E2) e33 (Nat.le_refl _))
    have HR5 := hide (RowT.new 26 w3 o5 n5 s5 a5 l5 c5)
    have HL5 := hide ((q5.any (Nat.zero_le _)).below (ab (.cells #[.int .i64 o5, .int .i64 n5, .string s5, .slice a5 l5 c5] 26)))
    have HZ5 := hide z5
    have HR1 := hide ((unhide HR1).below e33)
    have HL1 := hide ((unhide HL1).below e33)
    have HR2 := hide ((unhide HR2).below e33)
    have HL2 := hide ((unhide HL2).below e33)
    have HR3 := hide ((unhide HR3).below e33)
    have HL3 := hide ((unhide HL3).below e33)
    have HR4 := hide ((unhide HR4).below e33)
    have HL4 := hide ((unhide HL4).below e33)
    clear q5 z5 e3 e33 E2
    go_wp2_with fail
    generalize hV : w3.alloc (.cells #[.int .i64 o5, .int .i64 n5, .string s5, .slice a5 l5 c5] 26) = V3 at *
    clear hV
    generalize w3.heap.size = b5 at *
    refine (unhide h9 _ ((unhide HBY).below (unhide E3) (unhide E3).size) (unhide HL) (unhide HLC)).mono ?_
    rintro e w4 ⟨v, rfl, ⟨t6, o6, n6, s6, a6, l6, c6, rfl, q6, z6⟩, e4⟩
    have E4 := hide (bt (unhide E3) e4 (Nat.le_refl _))
    have HL6 := hide (q6.any (Nat.zero_le _))
    have HZ6 := hide z6
    have HR1 := hide ((unhide HR1).below e4)
    have HL1 := hide ((unhide HL1).below e4)
    have HR2 := hide ((unhide HR2).below e4)
    have HL2 := hide ((unhide HL2).below e4)
    have HR3 := hide ((unhide HR3).below e4)
    have HL3 := hide ((unhide HL3).below e4)
    have HR4 := hide ((unhide HR4).below e4)
    have HL4 := hide ((unhide HL4).below e4)
    have HR5 := hide ((unhide HR5).below e4)
    have HL5 := hide ((unhide HL5).below e4)
    clear q6 z6 e4 E3
    go_wp2_with fail
    refine (unhide h10 _ ((unhide HBY).below (unhide E4) (unhide E4).size) (unhide HL) (unhide HLC)).mono ?_
    rintro e w5 ⟨v, rfl, ⟨t7, o7, n7, s7, a7, l7, c7, rfl, q7, z7⟩, e5⟩
    have e55 := bt e5 (bt (ab (.cells #[.int .i64 o6, .int .i64 n6, .string s6, .slice a6 l6 c6] 26)) (ab (.cells #[.int .i64 o7, .int .i64 n7, .string s7, .slice a7 l7 c7] 26)) (Nat.le_refl _)) (Nat.le_refl _)
    have E5 := hide (bt (unhide E4) e55 (Nat.le_refl _))
    have HL7 := hide ((q7.any (Nat.zero_le _)).below (bt (ab (.cells #[.int .i64 o6, .int .i64 n6, .string s6, .slice a6 l6 c6] 26)) (ab (.cells #[.int .i64 o7, .int .i64 n7, .string s7, .slice a7 l7 c7] 26)) (Nat.le_refl _)))
    have HZ7 := hide z7
    have HR6 := hide ((RowT.new 26 w5 o6 n6 s6 a6 l6 c6).below (ab (.cells #[.int .i64 o7, .int .i64 n7, .string s7, .slice a7 l7 c7] 26)))
    have hr7 := RowT.new 26 (w5.alloc (.cells #[.int .i64 o6, .int .i64 n6, .string s6, .slice a6 l6 c6] 26)) o7 n7 s7 a7 l7 c7
    rw [heap_size_alloc] at hr7
    have HR7 := hide hr7
    have HL6 := hide ((unhide HL6).below e55)
    have HR1 := hide ((unhide HR1).below e55)
    have HL1 := hide ((unhide HL1).below e55)
    have HR2 := hide ((unhide HR2).below e55)
    have HL2 := hide ((unhide HL2).below e55)
    have HR3 := hide ((unhide HR3).below e55)
    have HL3 := hide ((unhide HL3).below e55)
    have HR4 := hide ((unhide HR4).below e55)
    have HL4 := hide ((unhide HL4).below e55)
    have HR5 := hide ((unhide HR5).below e55)
    have HL5 := hide ((unhide HL5).below e55)
    clear q7 z7 e5 e55 E4 hr7 h6 h7 h8 h9 h10 hbig HBY HL HLC
    go_wp2_with fail
    generalize hV : (w5.alloc (.cells #[.int .i64 o6, .int .i64 n6, .string s6, .slice a6 l6 c6] 26)).alloc (.cells #[.int .i64 o7, .int .i64 n7, .string s7, .slice a7 l7 c7] 26) = V at *
    clear hV
    generalize w5.heap.size + 1 = b7 at *
    generalize w5.heap.size = b6 at *
    have HTB := hide ((unhide HTB0).on (unhide E5))
    have HS1 : Hid (t1.size ≤ 2097152) := by show _ ≤ _; have := unhide HZ1; omega
    have HS2 : Hid (t2.size ≤ 2097152) := by show _ ≤ _; have := unhide HZ2; omega
    have HS3 : Hid (t3.size ≤ 2097152) := by show _ ≤ _; have := unhide HZ3; omega
    have HS4 : Hid (t4.size ≤ 2097152) := by show _ ≤ _; have := unhide HZ4; omega
    have HS5 : Hid (t5.size ≤ 2097152) := by show _ ≤ _; have := unhide HZ5; omega
    have HS6 : Hid (t6.size ≤ 2097152) := by show _ ≤ _; have := unhide HZ6; omega
    have HS7 : Hid (t7.size ≤ 2097152) := by show _ ≤ _; have := unhide HZ7; omega
    have HW1 : Hid (t1.wt ≤ 2097152) := by show _ ≤ _; have := unhide HZ1; omega
    have HW2 : Hid (t2.wt ≤ 2097152) := by show _ ≤ _; have := unhide HZ2; omega
    have HW7 : Hid (t7.wt ≤ 2097152) := by show _ ≤ _; have := unhide HZ7; omega
    have h11 := hide (before17 t1 t2 o1 n1 s1 a1 l1 c1 o2 n2 s2 a2 l2 c2)
    have h12 := hide (bf_calls t1 t2 o1 n1 s1 a1 l1 c1 o2 n2 s2 a2 l2 c2)
    have h13 := hide (same15 t3 t4 o3 n3 s3 a3 l3 c3 o4 n4 s4 a4 l4 c4)
    have h14 := hide (sa_calls t3 t4 o3 n3 s3 a3 l3 c3 o4 n4 s4 a4 l4 c4)
    have h15 := hide (ok10 t5 o5 n5 s5 a5 l5 c5)
    have h16 := hide (ok8 t5 o5 n5 s5 a5 l5 c5)
    have h17 := hide (ts13 t6 o6 n6 s6 a6 l6 c6)
    have h18 := hide (ts_calls t6 o6 n6 s6 a6 l6 c6)
    have h19 := hide (itx19 t7 o7 n7 s7 a7 l7 c7)
    have h20 := hide (tx_calls t7 o7 n7 s7 a7 l7 c7)
    have h11r := hide (before17 t2 t1 o2 n2 s2 a2 l2 c2 o1 n1 s1 a1 l1 c1)
    have h13a := hide (same15 t1 t2 o1 n1 s1 a1 l1 c1 o2 n2 s2 a2 l2 c2)
    have h19a := hide (itx19 t1 o1 n1 s1 a1 l1 c1)
    have h19b := hide (itx19 t2 o2 n2 s2 a2 l2 c2)
    have HSB : Hid (sameB t1 t2 = true → beforeB t1 t2 = false ∧ beforeB t2 t1 = false ∧ (⟨(textT t1).toArray⟩ : ByteArray) = ⟨(textT t2).toArray⟩) := fun h => ⟨(same_before h).1, (same_before h).2, by rw [same_eq h]⟩
    have HOB : Hid (sameB t1 t2 = false → beforeB t2 t1 = !beforeB t1 t2) := other_before
    generalize sameB t3 t4 = e34 at *
    generalize sameB t1 t2 = e12 at *
    generalize beforeB t1 t2 = f12 at *
    generalize beforeB t2 t1 = f21 at *
    generalize okT t5 = k5 at *
    generalize (⟨(textT t7).toArray⟩ : ByteArray) = x7 at *
    generalize (⟨(textT t1).toArray⟩ : ByteArray) = x1 at *
    generalize (⟨(textT t2).toArray⟩ : ByteArray) = x2 at *
    have hz6 : (t6.size : Int) ≤ 2097152 := by have := unhide HS6; omega
    obtain ⟨p0_1a, p0_1b, p0_1c, p0_1d⟩ := (unhide HR1).facts
    obtain ⟨p0_2a, p0_2b, p0_2c, p0_2d⟩ := (unhide HR2).facts
    obtain ⟨p0_3a, p0_3b, p0_3c, p0_3d⟩ := (unhide HR3).facts
    obtain ⟨p0_4a, p0_4b, p0_4c, p0_4d⟩ := (unhide HR4).facts
    obtain ⟨p0_5a, p0_5b, p0_5c, p0_5d⟩ := (unhide HR5).facts
    obtain ⟨p0_6a, p0_6b, p0_6c, p0_6d⟩ := (unhide HR6).facts
    obtain ⟨p0_7a, p0_7b, p0_7c, p0_7d⟩ := (unhide HR7).facts
    go_region_held3 (fun x => x.cell? ⟨b1, 0, none⟩ = some (.int .i64 o1) ∧ x.cell? ⟨b1, 1, none⟩ = some (.int .i64 n1) ∧ x.cell? ⟨b1, 2, none⟩ = some (.string s1) ∧ x.cell? ⟨b1, 3, none⟩ = some (.slice a1 l1 c1) ∧ x.cell? ⟨b2, 0, none⟩ = some (.int .i64 o2) ∧ x.cell? ⟨b2, 1, none⟩ = some (.int .i64 n2) ∧ x.cell? ⟨b2, 2, none⟩ = some (.string s2) ∧ x.cell? ⟨b2, 3, none⟩ = some (.slice a2 l2 c2) ∧ x.cell? ⟨b3, 0, none⟩ = some (.int .i64 o3) ∧ x.cell? ⟨b3, 1, none⟩ = some (.int .i64 n3) ∧ x.cell? ⟨b3, 2, none⟩ = some (.string s3) ∧ x.cell? ⟨b3, 3, none⟩ = some (.slice a3 l3 c3) ∧ x.cell? ⟨b4, 0, none⟩ = some (.int .i64 o4) ∧ x.cell? ⟨b4, 1, none⟩ = some (.int .i64 n4) ∧ x.cell? ⟨b4, 2, none⟩ = some (.string s4) ∧ x.cell? ⟨b4, 3, none⟩ = some (.slice a4 l4 c4) ∧ x.cell? ⟨b5, 0, none⟩ = some (.int .i64 o5) ∧ x.cell? ⟨b5, 1, none⟩ = some (.int .i64 n5) ∧ x.cell? ⟨b5, 2, none⟩ = some (.string s5) ∧ x.cell? ⟨b5, 3, none⟩ = some (.slice a5 l5 c5) ∧ x.cell? ⟨b6, 0, none⟩ = some (.int .i64 o6) ∧ x.cell? ⟨b6, 1, none⟩ = some (.int .i64 n6) ∧ x.cell? ⟨b6, 2, none⟩ = some (.string s6) ∧ x.cell? ⟨b6, 3, none⟩ = some (.slice a6 l6 c6) ∧ x.cell? ⟨b7, 0, none⟩ = some (.int .i64 o7) ∧ x.cell? ⟨b7, 1, none⟩ = some (.int .i64 n7) ∧ x.cell? ⟨b7, 2, none⟩ = some (.string s7) ∧ x.cell? ⟨b7, 3, none⟩ = some (.slice a7 l7 c7)) (go_keep)
      (first
        | (go_at_call 11
           refine (unhide h11 _ ((unhide HL1).below ((Below.refl _ _).drew)) ((unhide HL2).below ((Below.refl _ _).drew)) (unhide HS1)).mono ?_
           rintro e yB1 ⟨rfl, hbB1⟩
           have B1 := hide (below_drew' hbB1)
           clear hbB1 p0_1a p0_1b p0_1c p0_1d p0_2a p0_2b p0_2c p0_2d p0_3a p0_3b p0_3c p0_3d p0_4a p0_4b p0_4c p0_4d p0_5a p0_5b p0_5c p0_5d p0_6a p0_6b p0_6c p0_6d p0_7a p0_7b p0_7c p0_7d
           obtain ⟨p1_1a, p1_1b, p1_1c, p1_1d⟩ := ((unhide HR1).below (unhide B1)).facts
           obtain ⟨p1_2a, p1_2b, p1_2c, p1_2d⟩ := ((unhide HR2).below (unhide B1)).facts
           obtain ⟨p1_3a, p1_3b, p1_3c, p1_3d⟩ := ((unhide HR3).below (unhide B1)).facts
           obtain ⟨p1_4a, p1_4b, p1_4c, p1_4d⟩ := ((unhide HR4).below (unhide B1)).facts
           obtain ⟨p1_5a, p1_5b, p1_5c, p1_5d⟩ := ((unhide HR5).below (unhide B1)).facts
           obtain ⟨p1_6a, p1_6b, p1_6c, p1_6d⟩ := ((unhide HR6).below (unhide B1)).facts
           obtain ⟨p1_7a, p1_7b, p1_7c, p1_7d⟩ := ((unhide HR7).below (unhide B1)).facts)
        | (go_at_call 12
           refine (unhide h12 _ ((unhide HL1).below (unhide B1)) ((unhide HL2).below (unhide B1))).mono ?_
           rintro e yB2 ⟨rfl, hbB2⟩
           have B2 := hide (bt (unhide B1) hbB2 (Nat.le_refl _))
           clear hbB2 p1_1a p1_1b p1_1c p1_1d p1_2a p1_2b p1_2c p1_2d p1_3a p1_3b p1_3c p1_3d p1_4a p1_4b p1_4c p1_4d p1_5a p1_5b p1_5c p1_5d p1_6a p1_6b p1_6c p1_6d p1_7a p1_7b p1_7c p1_7d
           obtain ⟨p2_1a, p2_1b, p2_1c, p2_1d⟩ := ((unhide HR1).below (unhide B2)).facts
           obtain ⟨p2_2a, p2_2b, p2_2c, p2_2d⟩ := ((unhide HR2).below (unhide B2)).facts
           obtain ⟨p2_3a, p2_3b, p2_3c, p2_3d⟩ := ((unhide HR3).below (unhide B2)).facts
           obtain ⟨p2_4a, p2_4b, p2_4c, p2_4d⟩ := ((unhide HR4).below (unhide B2)).facts
           obtain ⟨p2_5a, p2_5b, p2_5c, p2_5d⟩ := ((unhide HR5).below (unhide B2)).facts
           obtain ⟨p2_6a, p2_6b, p2_6c, p2_6d⟩ := ((unhide HR6).below (unhide B2)).facts
           obtain ⟨p2_7a, p2_7b, p2_7c, p2_7d⟩ := ((unhide HR7).below (unhide B2)).facts)
        | (go_at_call 13
           refine (unhide h13 _ ((unhide HL3).below (unhide B2)) ((unhide HL4).below (unhide B2)) (unhide HS3)).mono ?_
           rintro e yB3 ⟨rfl, hbB3⟩
           have B3 := hide (bt (unhide B2) hbB3 (Nat.le_refl _))
           clear hbB3 p2_1a p2_1b p2_1c p2_1d p2_2a p2_2b p2_2c p2_2d p2_3a p2_3b p2_3c p2_3d p2_4a p2_4b p2_4c p2_4d p2_5a p2_5b p2_5c p2_5d p2_6a p2_6b p2_6c p2_6d p2_7a p2_7b p2_7c p2_7d
           obtain ⟨p3_1a, p3_1b, p3_1c, p3_1d⟩ := ((unhide HR1).below (unhide B3)).facts
           obtain ⟨p3_2a, p3_2b, p3_2c, p3_2d⟩ := ((unhide HR2).below (unhide B3)).facts
           obtain ⟨p3_3a, p3_3b, p3_3c, p3_3d⟩ := ((unhide HR3).below (unhide B3)).facts
           obtain ⟨p3_4a, p3_4b, p3_4c, p3_4d⟩ := ((unhide HR4).below (unhide B3)).facts
           obtain ⟨p3_5a, p3_5b, p3_5c, p3_5d⟩ := ((unhide HR5).below (unhide B3)).facts
           obtain ⟨p3_6a, p3_6b, p3_6c, p3_6d⟩ := ((unhide HR6).below (unhide B3)).facts
           obtain ⟨p3_7a, p3_7b, p3_7c, p3_7d⟩ := ((unhide HR7).below (unhide B3)).facts)
        | (go_at_call 14
           refine (unhide h14 _ ((unhide HL3).below (unhide B3)) ((unhide HL4).below (unhide B3))).mono ?_
           rintro e yB4 ⟨rfl, hbB4⟩
           have B4 := hide (bt (unhide B3) hbB4 (Nat.le_refl _))
           clear hbB4 p3_1a p3_1b p3_1c p3_1d p3_2a p3_2b p3_2c p3_2d p3_3a p3_3b p3_3c p3_3d p3_4a p3_4b p3_4c p3_4d p3_5a p3_5b p3_5c p3_5d p3_6a p3_6b p3_6c p3_6d p3_7a p3_7b p3_7c p3_7d
           obtain ⟨p4_1a, p4_1b, p4_1c, p4_1d⟩ := ((unhide HR1).below (unhide B4)).facts
           obtain ⟨p4_2a, p4_2b, p4_2c, p4_2d⟩ := ((unhide HR2).below (unhide B4)).facts
           obtain ⟨p4_3a, p4_3b, p4_3c, p4_3d⟩ := ((unhide HR3).below (unhide B4)).facts
           obtain ⟨p4_4a, p4_4b, p4_4c, p4_4d⟩ := ((unhide HR4).below (unhide B4)).facts
           obtain ⟨p4_5a, p4_5b, p4_5c, p4_5d⟩ := ((unhide HR5).below (unhide B4)).facts
           obtain ⟨p4_6a, p4_6b, p4_6c, p4_6d⟩ := ((unhide HR6).below (unhide B4)).facts
           obtain ⟨p4_7a, p4_7b, p4_7c, p4_7d⟩ := ((unhide HR7).below (unhide B4)).facts)
        | (go_at_call 15
           refine (unhide h15 _ ((unhide HL5).below (unhide B4)) (unhide HS5)).mono ?_
           rintro e yB5 ⟨rfl, hbB5⟩
           have B5 := hide (bt (unhide B4) hbB5 (Nat.le_refl _))
           clear hbB5 p4_1a p4_1b p4_1c p4_1d p4_2a p4_2b p4_2c p4_2d p4_3a p4_3b p4_3c p4_3d p4_4a p4_4b p4_4c p4_4d p4_5a p4_5b p4_5c p4_5d p4_6a p4_6b p4_6c p4_6d p4_7a p4_7b p4_7c p4_7d
           obtain ⟨p5_1a, p5_1b, p5_1c, p5_1d⟩ := ((unhide HR1).below (unhide B5)).facts
           obtain ⟨p5_2a, p5_2b, p5_2c, p5_2d⟩ := ((unhide HR2).below (unhide B5)).facts
           obtain ⟨p5_3a, p5_3b, p5_3c, p5_3d⟩ := ((unhide HR3).below (unhide B5)).facts
           obtain ⟨p5_4a, p5_4b, p5_4c, p5_4d⟩ := ((unhide HR4).below (unhide B5)).facts
           obtain ⟨p5_5a, p5_5b, p5_5c, p5_5d⟩ := ((unhide HR5).below (unhide B5)).facts
           obtain ⟨p5_6a, p5_6b, p5_6c, p5_6d⟩ := ((unhide HR6).below (unhide B5)).facts
           obtain ⟨p5_7a, p5_7b, p5_7c, p5_7d⟩ := ((unhide HR7).below (unhide B5)).facts)
        | (go_at_call 16
           refine (unhide h16 _ ((unhide HL5).below (unhide B5)) (unhide HS5)).mono ?_
           rintro e yB6 ⟨rfl, hbB6⟩
           have B6 := hide (bt (unhide B5) hbB6 (Nat.le_refl _))
           clear hbB6 p5_1a p5_1b p5_1c p5_1d p5_2a p5_2b p5_2c p5_2d p5_3a p5_3b p5_3c p5_3d p5_4a p5_4b p5_4c p5_4d p5_5a p5_5b p5_5c p5_5d p5_6a p5_6b p5_6c p5_6d p5_7a p5_7b p5_7c p5_7d
           obtain ⟨p6_1a, p6_1b, p6_1c, p6_1d⟩ := ((unhide HR1).below (unhide B6)).facts
           obtain ⟨p6_2a, p6_2b, p6_2c, p6_2d⟩ := ((unhide HR2).below (unhide B6)).facts
           obtain ⟨p6_3a, p6_3b, p6_3c, p6_3d⟩ := ((unhide HR3).below (unhide B6)).facts
           obtain ⟨p6_4a, p6_4b, p6_4c, p6_4d⟩ := ((unhide HR4).below (unhide B6)).facts
           obtain ⟨p6_5a, p6_5b, p6_5c, p6_5d⟩ := ((unhide HR5).below (unhide B6)).facts
           obtain ⟨p6_6a, p6_6b, p6_6c, p6_6d⟩ := ((unhide HR6).below (unhide B6)).facts
           obtain ⟨p6_7a, p6_7b, p6_7c, p6_7d⟩ := ((unhide HR7).below (unhide B6)).facts)
        | (go_at_call 17
           refine (unhide h17 _ ((unhide HL6).below (unhide B6)) (unhide HS6)).mono ?_
           rintro e yB7 ⟨rfl, hbB7⟩
           have B7 := hide (bt (unhide B6) hbB7 (Nat.le_refl _))
           clear hbB7 p6_1a p6_1b p6_1c p6_1d p6_2a p6_2b p6_2c p6_2d p6_3a p6_3b p6_3c p6_3d p6_4a p6_4b p6_4c p6_4d p6_5a p6_5b p6_5c p6_5d p6_6a p6_6b p6_6c p6_6d p6_7a p6_7b p6_7c p6_7d
           obtain ⟨p7_1a, p7_1b, p7_1c, p7_1d⟩ := ((unhide HR1).below (unhide B7)).facts
           obtain ⟨p7_2a, p7_2b, p7_2c, p7_2d⟩ := ((unhide HR2).below (unhide B7)).facts
           obtain ⟨p7_3a, p7_3b, p7_3c, p7_3d⟩ := ((unhide HR3).below (unhide B7)).facts
           obtain ⟨p7_4a, p7_4b, p7_4c, p7_4d⟩ := ((unhide HR4).below (unhide B7)).facts
           obtain ⟨p7_5a, p7_5b, p7_5c, p7_5d⟩ := ((unhide HR5).below (unhide B7)).facts
           obtain ⟨p7_6a, p7_6b, p7_6c, p7_6d⟩ := ((unhide HR6).below (unhide B7)).facts
           obtain ⟨p7_7a, p7_7b, p7_7c, p7_7d⟩ := ((unhide HR7).below (unhide B7)).facts)
        | (go_at_call 18
           refine (unhide h18 _ ((unhide HL6).below (unhide B7)) (unhide HS6)).mono ?_
           rintro e yB8 ⟨rfl, hbB8⟩
           have B8 := hide (bt (unhide B7) hbB8 (Nat.le_refl _))
           clear hbB8 p7_1a p7_1b p7_1c p7_1d p7_2a p7_2b p7_2c p7_2d p7_3a p7_3b p7_3c p7_3d p7_4a p7_4b p7_4c p7_4d p7_5a p7_5b p7_5c p7_5d p7_6a p7_6b p7_6c p7_6d p7_7a p7_7b p7_7c p7_7d
           obtain ⟨p8_1a, p8_1b, p8_1c, p8_1d⟩ := ((unhide HR1).below (unhide B8)).facts
           obtain ⟨p8_2a, p8_2b, p8_2c, p8_2d⟩ := ((unhide HR2).below (unhide B8)).facts
           obtain ⟨p8_3a, p8_3b, p8_3c, p8_3d⟩ := ((unhide HR3).below (unhide B8)).facts
           obtain ⟨p8_4a, p8_4b, p8_4c, p8_4d⟩ := ((unhide HR4).below (unhide B8)).facts
           obtain ⟨p8_5a, p8_5b, p8_5c, p8_5d⟩ := ((unhide HR5).below (unhide B8)).facts
           obtain ⟨p8_6a, p8_6b, p8_6c, p8_6d⟩ := ((unhide HR6).below (unhide B8)).facts
           obtain ⟨p8_7a, p8_7b, p8_7c, p8_7d⟩ := ((unhide HR7).below (unhide B8)).facts)
        | (go_at_call 19
           refine (unhide h19 _ ((unhide HL7).below (unhide B8)) (unhide HS7) (unhide HW7) ((unhide HTB).on (unhide B8))).mono ?_
           rintro e yB9 ⟨rfl, hbB9⟩
           have B9 := hide (bt (unhide B8) hbB9 (Nat.le_refl _))
           clear hbB9 p8_1a p8_1b p8_1c p8_1d p8_2a p8_2b p8_2c p8_2d p8_3a p8_3b p8_3c p8_3d p8_4a p8_4b p8_4c p8_4d p8_5a p8_5b p8_5c p8_5d p8_6a p8_6b p8_6c p8_6d p8_7a p8_7b p8_7c p8_7d
           obtain ⟨p9_1a, p9_1b, p9_1c, p9_1d⟩ := ((unhide HR1).below (unhide B9)).facts
           obtain ⟨p9_2a, p9_2b, p9_2c, p9_2d⟩ := ((unhide HR2).below (unhide B9)).facts
           obtain ⟨p9_3a, p9_3b, p9_3c, p9_3d⟩ := ((unhide HR3).below (unhide B9)).facts
           obtain ⟨p9_4a, p9_4b, p9_4c, p9_4d⟩ := ((unhide HR4).below (unhide B9)).facts
           obtain ⟨p9_5a, p9_5b, p9_5c, p9_5d⟩ := ((unhide HR5).below (unhide B9)).facts
           obtain ⟨p9_6a, p9_6b, p9_6c, p9_6d⟩ := ((unhide HR6).below (unhide B9)).facts
           obtain ⟨p9_7a, p9_7b, p9_7c, p9_7d⟩ := ((unhide HR7).below (unhide B9)).facts)
        | (go_at_call 20
           refine (unhide h20 _ ((unhide HL7).below (unhide B9)) (unhide HS7) (unhide HW7)).mono ?_
           rintro e yB10 ⟨rfl, hbB10⟩
           have B10 := hide (bt (unhide B9) hbB10 (Nat.le_refl _))
           clear hbB10 p9_1a p9_1b p9_1c p9_1d p9_2a p9_2b p9_2c p9_2d p9_3a p9_3b p9_3c p9_3d p9_4a p9_4b p9_4c p9_4d p9_5a p9_5b p9_5c p9_5d p9_6a p9_6b p9_6c p9_6d p9_7a p9_7b p9_7c p9_7d
           obtain ⟨p10_1a, p10_1b, p10_1c, p10_1d⟩ := ((unhide HR1).below (unhide B10)).facts
           obtain ⟨p10_2a, p10_2b, p10_2c, p10_2d⟩ := ((unhide HR2).below (unhide B10)).facts
           obtain ⟨p10_3a, p10_3b, p10_3c, p10_3d⟩ := ((unhide HR3).below (unhide B10)).facts
           obtain ⟨p10_4a, p10_4b, p10_4c, p10_4d⟩ := ((unhide HR4).below (unhide B10)).facts
           obtain ⟨p10_5a, p10_5b, p10_5c, p10_5d⟩ := ((unhide HR5).below (unhide B10)).facts
           obtain ⟨p10_6a, p10_6b, p10_6c, p10_6d⟩ := ((unhide HR6).below (unhide B10)).facts
           obtain ⟨p10_7a, p10_7b, p10_7c, p10_7d⟩ := ((unhide HR7).below (unhide B10)).facts))
    clear p10_1a p10_1b p10_1c p10_1d p10_2a p10_2b p10_2c p10_2d p10_3a p10_3b p10_3c p10_3d p10_4a p10_4b p10_4c p10_4d p10_5a p10_5b p10_5c p10_5d p10_6a p10_6b p10_6c p10_6d p10_7a p10_7b p10_7c p10_7d
    have HR1 := hide ((unhide HR1).below (unhide B10))
    have HR2 := hide ((unhide HR2).below (unhide B10))
    have HR3 := hide ((unhide HR3).below (unhide B10))
    have HR4 := hide ((unhide HR4).below (unhide B10))
    have HR5 := hide ((unhide HR5).below (unhide B10))
    have HR6 := hide ((unhide HR6).below (unhide B10))
    have HR7 := hide ((unhide HR7).below (unhide B10))
    have HL1 := hide ((unhide HL1).below (unhide B10))
    have HL2 := hide ((unhide HL2).below (unhide B10))
    have HTB := hide ((unhide HTB).on (unhide B10))
    have E6 := hide (bt (unhide E5) (unhide B10) (Nat.le_refl _))
    clear E5 h12 h13 h14 h15 h16 h17 h18 h19 h20
    obtain ⟨q0_1a, q0_1b, q0_1c, q0_1d⟩ := (unhide HR1).facts
    obtain ⟨q0_2a, q0_2b, q0_2c, q0_2d⟩ := (unhide HR2).facts
    go_wp2_with fail
    refine (unhide h13a _ (unhide HL1) (unhide HL2) (unhide HS1)).mono ?_
    rintro e w6 ⟨rfl, hb6⟩
    have HR1 := hide ((unhide HR1).below hb6)
    have HR2 := hide ((unhide HR2).below hb6)
    have HL1 := hide ((unhide HL1).below hb6)
    have HL2 := hide ((unhide HL2).below hb6)
    have HTB := hide ((unhide HTB).on hb6)
    have E7 := hide (bt (unhide E6) hb6 (Nat.le_refl _))
    clear hb6 E6 q0_1a q0_1b q0_1c q0_1d q0_2a q0_2b q0_2c q0_2d
    cases e12 with
    | true =>
      obtain ⟨rfl, rfl, rfl⟩ := unhide HSB rfl
      clear HSB HOB
      go_wp2_with fail
      obtain ⟨r0_1a, r0_1b, r0_1c, r0_1d⟩ := (unhide HR1).facts
      obtain ⟨r0_2a, r0_2b, r0_2c, r0_2d⟩ := (unhide HR2).facts
      go_region_held3 (fun x => x.cell? ⟨b1, 0, none⟩ = some (.int .i64 o1) ∧ x.cell? ⟨b1, 1, none⟩ = some (.int .i64 n1) ∧ x.cell? ⟨b1, 2, none⟩ = some (.string s1) ∧ x.cell? ⟨b1, 3, none⟩ = some (.slice a1 l1 c1) ∧ x.cell? ⟨b2, 0, none⟩ = some (.int .i64 o2) ∧ x.cell? ⟨b2, 1, none⟩ = some (.int .i64 n2) ∧ x.cell? ⟨b2, 2, none⟩ = some (.string s2) ∧ x.cell? ⟨b2, 3, none⟩ = some (.slice a2 l2 c2)) (go_keep)
        (first
          | (go_at_call 19
             have qq := C3
             clear qq
             refine (unhide h19b _ ((unhide HL2).below (unhide C3)) (unhide HS2) (unhide HW2) ((unhide HTB).on (unhide C3))).mono ?_
             rintro e yC4 ⟨rfl, hbC4⟩
             have C4 := hide (bt (unhide C3) hbC4 (Nat.le_refl _))
             clear hbC4 r3_1a r3_1b r3_1c r3_1d r3_2a r3_2b r3_2c r3_2d
             obtain ⟨r4_1a, r4_1b, r4_1c, r4_1d⟩ := ((unhide HR1).below (unhide C4)).facts
             obtain ⟨r4_2a, r4_2b, r4_2c, r4_2d⟩ := ((unhide HR2).below (unhide C4)).facts)
          | (go_at_call 19
             have qq := C2
             clear qq
             refine (unhide h19a _ ((unhide HL1).below (unhide C2)) (unhide HS1) (unhide HW1) ((unhide HTB).on (unhide C2))).mono ?_
             rintro e yC3 ⟨rfl, hbC3⟩
             have C3 := hide (bt (unhide C2) hbC3 (Nat.le_refl _))
             clear hbC3 r2_1a r2_1b r2_1c r2_1d r2_2a r2_2b r2_2c r2_2d
             obtain ⟨r3_1a, r3_1b, r3_1c, r3_1d⟩ := ((unhide HR1).below (unhide C3)).facts
             obtain ⟨r3_2a, r3_2b, r3_2c, r3_2d⟩ := ((unhide HR2).below (unhide C3)).facts)
          | (go_at_call 11
             have qq := C1
             clear qq
             refine (unhide h11r _ ((unhide HL2).below (unhide C1)) ((unhide HL1).below (unhide C1)) (unhide HS2)).mono ?_
             rintro e yC2 ⟨rfl, hbC2⟩
             have C2 := hide (bt (unhide C1) hbC2 (Nat.le_refl _))
             clear hbC2 r1_1a r1_1b r1_1c r1_1d r1_2a r1_2b r1_2c r1_2d
             obtain ⟨r2_1a, r2_1b, r2_1c, r2_1d⟩ := ((unhide HR1).below (unhide C2)).facts
             obtain ⟨r2_2a, r2_2b, r2_2c, r2_2d⟩ := ((unhide HR2).below (unhide C2)).facts)
          | (go_at_call 11
             refine (unhide h11 _ ((unhide HL1).below ((Below.refl _ _).drew)) ((unhide HL2).below ((Below.refl _ _).drew)) (unhide HS1)).mono ?_
             rintro e yC1 ⟨rfl, hbC1⟩
             have C1 := hide (below_drew' hbC1)
             clear hbC1 r0_1a r0_1b r0_1c r0_1d r0_2a r0_2b r0_2c r0_2d
             obtain ⟨r1_1a, r1_1b, r1_1c, r1_1d⟩ := ((unhide HR1).below (unhide C1)).facts
             obtain ⟨r1_2a, r1_2b, r1_2c, r1_2d⟩ := ((unhide HR2).below (unhide C1)).facts))
      clear r4_1a r4_1b r4_1c r4_1d r4_2a r4_2b r4_2c r4_2d
      go_wp2_with fail
      go_ret
      exact ⟨rfl, bt (unhide E7) (unhide C4) (Nat.le_refl _)⟩
    | false =>
      obtain rfl := unhide HOB rfl
      clear HSB HOB
      go_wp2_with fail
      cases f12 with
      | true =>
        obtain ⟨r0_1a, r0_1b, r0_1c, r0_1d⟩ := (unhide HR1).facts
        obtain ⟨r0_2a, r0_2b, r0_2c, r0_2d⟩ := (unhide HR2).facts
        go_region_held3 (fun x => x.cell? ⟨b1, 0, none⟩ = some (.int .i64 o1) ∧ x.cell? ⟨b1, 1, none⟩ = some (.int .i64 n1) ∧ x.cell? ⟨b1, 2, none⟩ = some (.string s1) ∧ x.cell? ⟨b1, 3, none⟩ = some (.slice a1 l1 c1) ∧ x.cell? ⟨b2, 0, none⟩ = some (.int .i64 o2) ∧ x.cell? ⟨b2, 1, none⟩ = some (.int .i64 n2) ∧ x.cell? ⟨b2, 2, none⟩ = some (.string s2) ∧ x.cell? ⟨b2, 3, none⟩ = some (.slice a2 l2 c2)) (go_keep)
          (first
            | (go_at_call 11
               have qq := C1
               clear qq
               refine (unhide h11r _ ((unhide HL2).below (unhide C1)) ((unhide HL1).below (unhide C1)) (unhide HS2)).mono ?_
               rintro e yC2 ⟨rfl, hbC2⟩
               have C2 := hide (bt (unhide C1) hbC2 (Nat.le_refl _))
               clear hbC2 r1_1a r1_1b r1_1c r1_1d r1_2a r1_2b r1_2c r1_2d
               obtain ⟨r2_1a, r2_1b, r2_1c, r2_1d⟩ := ((unhide HR1).below (unhide C2)).facts
               obtain ⟨r2_2a, r2_2b, r2_2c, r2_2d⟩ := ((unhide HR2).below (unhide C2)).facts)
            | (go_at_call 11
               refine (unhide h11 _ ((unhide HL1).below ((Below.refl _ _).drew)) ((unhide HL2).below ((Below.refl _ _).drew)) (unhide HS1)).mono ?_
               rintro e yC1 ⟨rfl, hbC1⟩
               have C1 := hide (below_drew' hbC1)
               clear hbC1 r0_1a r0_1b r0_1c r0_1d r0_2a r0_2b r0_2c r0_2d
               obtain ⟨r1_1a, r1_1b, r1_1c, r1_1d⟩ := ((unhide HR1).below (unhide C1)).facts
               obtain ⟨r1_2a, r1_2b, r1_2c, r1_2d⟩ := ((unhide HR2).below (unhide C1)).facts))
        clear r2_1a r2_1b r2_1c r2_1d r2_2a r2_2b r2_2c r2_2d
        go_wp2_with fail
        go_ret
        exact ⟨rfl, bt (unhide E7) (unhide C2) (Nat.le_refl _)⟩
      | false =>
        obtain ⟨r0_1a, r0_1b, r0_1c, r0_1d⟩ := (unhide HR1).facts
        obtain ⟨r0_2a, r0_2b, r0_2c, r0_2d⟩ := (unhide HR2).facts
        go_region_held3 (fun x => x.cell? ⟨b1, 0, none⟩ = some (.int .i64 o1) ∧ x.cell? ⟨b1, 1, none⟩ = some (.int .i64 n1) ∧ x.cell? ⟨b1, 2, none⟩ = some (.string s1) ∧ x.cell? ⟨b1, 3, none⟩ = some (.slice a1 l1 c1) ∧ x.cell? ⟨b2, 0, none⟩ = some (.int .i64 o2) ∧ x.cell? ⟨b2, 1, none⟩ = some (.int .i64 n2) ∧ x.cell? ⟨b2, 2, none⟩ = some (.string s2) ∧ x.cell? ⟨b2, 3, none⟩ = some (.slice a2 l2 c2)) (go_keep)
          (first
            | (go_at_call 11
               have qq := C1
               clear qq
               refine (unhide h11r _ ((unhide HL2).below (unhide C1)) ((unhide HL1).below (unhide C1)) (unhide HS2)).mono ?_
               rintro e yC2 ⟨rfl, hbC2⟩
               have C2 := hide (bt (unhide C1) hbC2 (Nat.le_refl _))
               clear hbC2 r1_1a r1_1b r1_1c r1_1d r1_2a r1_2b r1_2c r1_2d
               obtain ⟨r2_1a, r2_1b, r2_1c, r2_1d⟩ := ((unhide HR1).below (unhide C2)).facts
               obtain ⟨r2_2a, r2_2b, r2_2c, r2_2d⟩ := ((unhide HR2).below (unhide C2)).facts)
            | (go_at_call 11
               refine (unhide h11 _ ((unhide HL1).below ((Below.refl _ _).drew)) ((unhide HL2).below ((Below.refl _ _).drew)) (unhide HS1)).mono ?_
               rintro e yC1 ⟨rfl, hbC1⟩
               have C1 := hide (below_drew' hbC1)
               clear hbC1 r0_1a r0_1b r0_1c r0_1d r0_2a r0_2b r0_2c r0_2d
               obtain ⟨r1_1a, r1_1b, r1_1c, r1_1d⟩ := ((unhide HR1).below (unhide C1)).facts
               obtain ⟨r1_2a, r1_2b, r1_2c, r1_2d⟩ := ((unhide HR2).below (unhide C1)).facts))
        clear r2_1a r2_1b r2_1c r2_1d r2_2a r2_2b r2_2c r2_2d
        go_wp2_with fail
        go_ret
        exact ⟨rfl, bt (unhide E7) (unhide C2) (Nat.le_refl _)⟩
  · have hbn : (decide ((1048576 : Int) < ln)) = true := by simp; omega
    rw [hbn] at hbig
    clear hB hlc htab hbn hl
    go_enter Tryd.func3, Tryd.ntmps3
    go_wp2_with fail
    refine (unhide hbig _).mono ?_
    rintro e _ ⟨rfl, rfl⟩
    go_wp2_with fail
    go_ret
    exact ⟨rfl, Below.refl _ _⟩

end Go.Proofs.YtpniekfalckdcaaDoor
