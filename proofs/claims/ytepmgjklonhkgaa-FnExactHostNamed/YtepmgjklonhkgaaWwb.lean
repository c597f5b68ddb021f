/- The walk of laws.szWorld: it answers the room that is left when the world's weight is taken, or -1; nothing that was there is written. -/
import Derived.Test.YtepmgjklonhkgaaWwa
namespace Go.Proofs.Ytepmgjklonhkgaa
open Go.RowKit Go.Deep

set_option maxRecDepth 100000 in
set_option maxHeartbeats 4000000 in
theorem szWd (X : Wd) (cs : List Value) (l0 : Int) (w : World) (h : wdAt w 0 X cs) (hl0 : 0 ≤ l0) (hl1 : l0 ≤ 1048576) :
    Calls Try.prog 4 #[.agg cs.toArray, .int .i64 l0] w fun e w' => e = .returned (.int .i64 (szv l0 (ww X))) ∧ Below w.heap.size w w' := by
  obtain ⟨hfit, ak, ck, ac, cc, ah, ch, al, cl, aa, ca, az, cz, ai, ci, rfl, hy0, hy1, hy2, hy3, hy4, hy5, hy6⟩ := h
  obtain ⟨hm0, hm1, hm2, hm3, hm4, hm5, hm6, hmb⟩ := hfit
  have hb0 : Below w.heap.size w (w.alloc (.cells #[.int .i64 X.time, .int .i64 X.fresh, .slice ak X.known.length ck, .slice ac X.cache.length cc, .slice ah X.hosts.length ch, .slice al X.letters.length cl, .string X.book, .int .i64 X.sure, .slice aa X.calls.length ca, .slice az X.talks.length cz, .slice ai X.told.length ci] 30)) := abG _
  show Calls Try.prog 4 #[.agg #[.int .i64 X.time, .int .i64 X.fresh, .slice ak X.known.length ck, .slice ac X.cache.length cc, .slice ah X.hosts.length ch, .slice al X.letters.length cl, .string X.book, .int .i64 X.sure, .slice aa X.calls.length ca, .slice az X.talks.length cz, .slice ai X.told.length ci], .int .i64 l0] w _
  have HX := hide (Box.new w 30 [.int .i64 X.time, .int .i64 X.fresh, .slice ak X.known.length ck, .slice ac X.cache.length cc, .slice ah X.hosts.length ch, .slice al X.letters.length cl, .string X.book, .int .i64 X.sure, .slice aa X.calls.length ca, .slice az X.talks.length cz, .slice ai X.told.length ci])
  have HY0 := hide (hy0.on hb0)
  have HC0 := hide (fun left v hv h0 h1 => szTms X.known ak ck left v hv hm0 h0 h1)
  have HY1 := hide (hy1.on hb0)
  have HC1 := hide (fun left v hv h0 h1 => szPos X.cache ac cc left v hv hm1 h0 h1)
  have HY2 := hide (hy2.on hb0)
  have HC2 := hide (fun left v hv h0 h1 => szHos X.hosts ah ch left v hv hm2 h0 h1)
  have HY3 := hide (hy3.on hb0)
  have HC3 := hide (fun left v hv h0 h1 => szLes X.letters al cl left v hv hm3 h0 h1)
  have HY4 := hide (hy4.on hb0)
  have HC4 := hide (fun left v hv h0 h1 => szCas X.calls aa ca left v hv hm4 h0 h1)
  have HY5 := hide (hy5.on hb0)
  have HC5 := hide (fun left v hv h0 h1 => szTas X.talks az cz left v hv hm5 h0 h1)
  have HC6 := hide (fun left v h0 h1 => szIs X.told ai ci left v hm6 h0 h1)
  have HW : Hid (ww X = (X.known.length + Tm.wts X.known) + ((X.cache.length + ws pw X.cache) + ((X.hosts.length + ws how X.hosts) + ((X.letters.length + ws lew X.letters) + (X.book.size + ((X.calls.length + ws caw X.calls) + ((X.talks.length + ws taw X.talks) + (X.told.length)))))))) := rfl
  generalize ww X = W at *
  generalize (X.known.length + Tm.wts X.known) = q0 at *
  generalize (X.cache.length + ws pw X.cache) = q1 at *
  generalize (X.hosts.length + ws how X.hosts) = q2 at *
  generalize (X.letters.length + ws lew X.letters) = q3 at *
  generalize (X.calls.length + ws caw X.calls) = q4 at *
  generalize (X.talks.length + ws taw X.talks) = q5 at *
  generalize hqb : X.book.size = qb at *
  have HQB := hide hqb
  have hqm : qb ≤ 9223372036854775807 := by unfold maxLen at hmb; omega
  have HQM := hide hqm
  clear hqb hqm hmb
  have HB := hide hb0
  clear hb0 hy0 hy1 hy2 hy3 hy4 hy5 hy6 hm0 hm1 hm2 hm3 hm4 hm5 hm6
  go_enter Try.func4, Try.ntmps4
  go_wp2_with fail
  refine (unhide HC0 l0 _ (unhide HY0) hl0 hl1).mono ?_
  rintro e w2 ⟨rfl, hb0⟩
  have HB0 := hide (btG (unhide HB) hb0)
  have HX0 := hide ((unhide HX).on hb0)
  replace HY1 := hide ((unhide HY1).on hb0)
  replace HY2 := hide ((unhide HY2).on hb0)
  replace HY3 := hide ((unhide HY3).on hb0)
  replace HY4 := hide ((unhide HY4).on hb0)
  replace HY5 := hide ((unhide HY5).on hb0)
  clear hb0 HB HX 
  by_cases hw0 : (q0 : Int) ≤ l0
  rotate_left
  · have HR : Hid (szv l0 W = -1) := by have e := unhide HW; exact szv_no (by omega)
    rw [szv_no (by omega)]
    go_wp2_with fail
    go_ret
    exact ⟨ret_int (unhide HR).symm, unhide HB0⟩
  rw [szv_yes hw0]
  obtain ⟨r0, hr0⟩ : ∃ r : Int, r = l0 - (q0 : Int) := ⟨_, rfl⟩
  rw [← hr0]
  have HE0 := hide hr0
  have n0 : 0 ≤ r0 := by omega
  have m0 : r0 ≤ 1048576 := by omega
  have nx0 : ¬ r0 < 0 := by omega
  clear hr0 hw0
  have c3 : w2.cell? ⟨w.heap.size, 3, none⟩ = some (.slice ac X.cache.length cc) := (unhide HX0).cell rfl
  go_wp2_with fail
  refine (unhide HC1 r0 _ (unhide HY1) n0 m0).mono ?_
  rintro e w3 ⟨rfl, hb1⟩
  have HB1 := hide (btG (unhide HB0) hb1)
  have HX1 := hide ((unhide HX0).on hb1)
  replace HY2 := hide ((unhide HY2).on hb1)
  replace HY3 := hide ((unhide HY3).on hb1)
  replace HY4 := hide ((unhide HY4).on hb1)
  replace HY5 := hide ((unhide HY5).on hb1)
  clear hb1 HB0 HX0 
  by_cases hw1 : (q1 : Int) ≤ r0
  rotate_left
  · have HR : Hid (szv l0 W = -1) := by have e := unhide HW; have f0 := unhide HE0; exact szv_no (by omega)
    rw [szv_no (by omega)]
    go_wp2_with fail
    go_ret
    exact ⟨ret_int (unhide HR).symm, unhide HB1⟩
  rw [szv_yes hw1]
  obtain ⟨r1, hr1⟩ : ∃ r : Int, r = r0 - (q1 : Int) := ⟨_, rfl⟩
  rw [← hr1]
  have HE1 := hide hr1
  have n1 : 0 ≤ r1 := by omega
  have m1 : r1 ≤ 1048576 := by omega
  have nx1 : ¬ r1 < 0 := by omega
  clear hr1 hw1
  have c4 : w3.cell? ⟨w.heap.size, 4, none⟩ = some (.slice ah X.hosts.length ch) := (unhide HX1).cell rfl
  go_wp2_with fail
  refine (unhide HC2 r1 _ (unhide HY2) n1 m1).mono ?_
  rintro e w4 ⟨rfl, hb2⟩
  have HB2 := hide (btG (unhide HB1) hb2)
  have HX2 := hide ((unhide HX1).on hb2)
  replace HY3 := hide ((unhide HY3).on hb2)
  replace HY4 := hide ((unhide HY4).on hb2)
  replace HY5 := hide ((unhide HY5).on hb2)
  clear hb2 HB1 HX1 
  by_cases hw2 : (q2 : Int) ≤ r1
  rotate_left
  · have HR : Hid (szv l0 W = -1) := by have e := unhide HW; have f0 := unhide HE0; have f1 := unhide HE1; exact szv_no (by omega)
    rw [szv_no (by omega)]
    go_wp2_with fail
    go_ret
    exact ⟨ret_int (unhide HR).symm, unhide HB2⟩
  rw [szv_yes hw2]
  obtain ⟨r2, hr2⟩ : ∃ r : Int, r = r1 - (q2 : Int) := ⟨_, rfl⟩
  rw [← hr2]
  have HE2 := hide hr2
  have n2 : 0 ≤ r2 := by omega
  have m2 : r2 ≤ 1048576 := by omega
  have nx2 : ¬ r2 < 0 := by omega
  clear hr2 hw2
  have c5 : w4.cell? ⟨w.heap.size, 5, none⟩ = some (.slice al X.letters.length cl) := (unhide HX2).cell rfl
  go_wp2_with fail
  refine (unhide HC3 r2 _ (unhide HY3) n2 m2).mono ?_
  rintro e w5 ⟨rfl, hb3⟩
  have HB3 := hide (btG (unhide HB2) hb3)
  have HX3 := hide ((unhide HX2).on hb3)
  replace HY4 := hide ((unhide HY4).on hb3)
  replace HY5 := hide ((unhide HY5).on hb3)
  clear hb3 HB2 HX2 
  by_cases hw3 : (q3 : Int) ≤ r2
  rotate_left
  · have HR : Hid (szv l0 W = -1) := by have e := unhide HW; have f0 := unhide HE0; have f1 := unhide HE1; have f2 := unhide HE2; exact szv_no (by omega)
    rw [szv_no (by omega)]
    go_wp2_with fail
    go_ret
    exact ⟨ret_int (unhide HR).symm, unhide HB3⟩
  rw [szv_yes hw3]
  obtain ⟨r3, hr3⟩ : ∃ r : Int, r = r2 - (q3 : Int) := ⟨_, rfl⟩
  rw [← hr3]
  have HE3 := hide hr3
  have n3 : 0 ≤ r3 := by omega
  have m3 : r3 ≤ 1048576 := by omega
  have nx3 : ¬ r3 < 0 := by omega
  clear hr3 hw3
  have c8 : w5.cell? ⟨w.heap.size, 8, none⟩ = some (.slice aa X.calls.length ca) := (unhide HX3).cell rfl
  have c6 : w5.cell? ⟨w.heap.size, 6, none⟩ = some (.string X.book) := (unhide HX3).cell rfl
  by_cases hwb : r3 - (qb : Int) < 0
  · have wb : wrap64 (r3 - (qb : Int)) = r3 - (qb : Int) := by have := unhide HQM; unfold wrap64; omega
    have HR : Hid (szv l0 W = -1) := by have e := unhide HW; have f0 := unhide HE0; have f1 := unhide HE1; have f2 := unhide HE2; have f3 := unhide HE3; exact szv_no (by omega)
    have hqb := unhide HQB
    go_wp2_with fail
    go_ret
    exact ⟨ret_int (unhide HR).symm, unhide HB3⟩
  · obtain ⟨rb, hrb⟩ : ∃ rb : Int, rb = r3 - (qb : Int) := ⟨_, rfl⟩
    have wb : wrap64 (r3 - (qb : Int)) = rb := by rw [hrb]; have := unhide HQM; unfold wrap64; omega
    have HEb := hide hrb
    have nb : 0 ≤ rb := by omega
    have mb : rb ≤ 1048576 := by omega
    clear hrb hwb
    have hqb := unhide HQB
    have nbx : ¬ rb < 0 := by omega
    go_wp2_with fail
    refine (unhide HC4 rb _ (unhide HY4) nb mb).mono ?_
    rintro e w6 ⟨rfl, hb4⟩
    have HB4 := hide (btG (unhide HB3) hb4)
    have HX4 := hide ((unhide HX3).on hb4)
    replace HY5 := hide ((unhide HY5).on hb4)
    clear hb4 HB3 HX3 
    by_cases hw4 : (q4 : Int) ≤ rb
    rotate_left
    · have HR : Hid (szv l0 W = -1) := by have e := unhide HW; have f0 := unhide HE0; have f1 := unhide HE1; have f2 := unhide HE2; have f3 := unhide HE3; have fb := unhide HEb; exact szv_no (by omega)
      rw [szv_no (by omega)]
      go_wp2_with fail
      go_ret
      exact ⟨ret_int (unhide HR).symm, unhide HB4⟩
    rw [szv_yes hw4]
    obtain ⟨r4, hr4⟩ : ∃ r : Int, r = rb - (q4 : Int) := ⟨_, rfl⟩
    rw [← hr4]
    have HE4 := hide hr4
    have n4 : 0 ≤ r4 := by omega
    have m4 : r4 ≤ 1048576 := by omega
    have nx4 : ¬ r4 < 0 := by omega
    clear hr4 hw4
    have c9 : w6.cell? ⟨w.heap.size, 9, none⟩ = some (.slice az X.talks.length cz) := (unhide HX4).cell rfl
    go_wp2_with fail
    refine (unhide HC5 r4 _ (unhide HY5) n4 m4).mono ?_
    rintro e w7 ⟨rfl, hb5⟩
    have HB5 := hide (btG (unhide HB4) hb5)
    have HX5 := hide ((unhide HX4).on hb5)
    clear hb5 HB4 HX4 
    by_cases hw5 : (q5 : Int) ≤ r4
    rotate_left
    · have HR : Hid (szv l0 W = -1) := by have e := unhide HW; have f0 := unhide HE0; have f1 := unhide HE1; have f2 := unhide HE2; have f3 := unhide HE3; have fb := unhide HEb; have f4 := unhide HE4; exact szv_no (by omega)
      rw [szv_no (by omega)]
      go_wp2_with fail
      go_ret
      exact ⟨ret_int (unhide HR).symm, unhide HB5⟩
    rw [szv_yes hw5]
    obtain ⟨r5, hr5⟩ : ∃ r : Int, r = r4 - (q5 : Int) := ⟨_, rfl⟩
    rw [← hr5]
    have HE5 := hide hr5
    have n5 : 0 ≤ r5 := by omega
    have m5 : r5 ≤ 1048576 := by omega
    have nx5 : ¬ r5 < 0 := by omega
    clear hr5 hw5
    have c10 : w7.cell? ⟨w.heap.size, 10, none⟩ = some (.slice ai X.told.length ci) := (unhide HX5).cell rfl
    go_wp2_with fail
    refine (unhide HC6 r5 _ n5 m5).mono ?_
    rintro e w8 ⟨rfl, hb6⟩
    have HB6 := hide (btG (unhide HB5) hb6)
    have HX6 := hide ((unhide HX5).on hb6)
    clear hb6 HB5 HX5 
    by_cases hw6 : (X.told.length : Int) ≤ r5
    rotate_left
    · have HR : Hid (szv l0 W = -1) := by have e := unhide HW; have f0 := unhide HE0; have f1 := unhide HE1; have f2 := unhide HE2; have f3 := unhide HE3; have fb := unhide HEb; have f4 := unhide HE4; have f5 := unhide HE5; exact szv_no (by omega)
      rw [szv_no (by omega)]
      go_wp2_with fail
      go_ret
      exact ⟨ret_int (unhide HR).symm, unhide HB6⟩
    rw [szv_yes hw6]
    obtain ⟨r6, hr6⟩ : ∃ r : Int, r = r5 - (X.told.length : Int) := ⟨_, rfl⟩
    rw [← hr6]
    have HE6 := hide hr6
    have n6 : 0 ≤ r6 := by omega
    have m6 : r6 ≤ 1048576 := by omega
    have nx6 : ¬ r6 < 0 := by omega
    clear hr6 hw6
    have HR : Hid (szv l0 W = r6) := by have e := unhide HW; have f0 := unhide HE0; have f1 := unhide HE1; have f2 := unhide HE2; have f3 := unhide HE3; have fb := unhide HEb; have f4 := unhide HE4; have f5 := unhide HE5; have f6 := unhide HE6; show _ = _; rw [szv_yes (by omega)]; omega
    go_wp2_with fail
    go_ret
    exact ⟨ret_int (unhide HR).symm, unhide HB6⟩

end Go.Proofs.Ytepmgjklonhkgaa
