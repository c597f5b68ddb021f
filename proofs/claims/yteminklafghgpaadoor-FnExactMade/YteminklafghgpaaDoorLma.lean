
/- The walk of laws.FnExactMade: whatever list of terms, and whatever term, lie in memory it answers true; nothing that was there is written. -/
import Derived.Test.YteminklafghgpaaDoorMa
import Derived.Deep.RegionHeld3
namespace Go.Proofs.YteminklafghgpaaDoor
open Go.RowKit Go.Deep Go.Maps Go.MapKept

theorem LiesAll.any0 {w : World} {L : Nat} {a : Option Addr} {i : Nat} {ks : List Tm} (h : LiesAll w L a i ks) : LiesAll w 0 a i ks := LiesAll.carry (Nat.zero_le _) (fun _ _ _ _ => rfl) a i ks h

set_option maxRecDepth 100000 in
set_option maxHeartbeats 2000000 in
theorem lawMade_true (ps : List Tm) (t : Tm) (pa : Option Addr) (pcap : Nat) (op n : Int) (s : ByteArray) (a : Option Addr) (len cap : Nat) (w : World) (hps : LiesAll w 0 pa 0 ps) (hpl : ps.length ≤ maxLen) (hl : Lies w 0 t (tmCells op n s a len cap)) (htab : Tab w) (herr : Err w) (hB : madeB ps t = true) (hw : (ps.length : Int) + (Tm.wts ps : Int) ≤ 1048576) (hw2 : (t.wt : Int) ≤ 1048576 - ((ps.length : Int) + (Tm.wts ps : Int))) :
    Calls Tryd.prog 3 #[.slice pa ps.length pcap, .agg #[.int .i64 op, .int .i64 n, .string s, .slice a len cap]] w fun e w' => e = .returned (.bool true) ∧ Below w.heap.size w w' := by
  have h4 := hide (szS_any ps (fun x _ => sz_calls x) pa pcap)
  have h5 := hide (sz_calls t op n s a len cap)
  have h7 := hide (toS_any ps (fun x _ => to_calls x) pa pcap)
  have h8 := hide (to_calls t op n s a len cap)
  have h6 := hide (fun pa pcap op n s a len cap => made_calls ps t pa pcap op n s a len cap)
  have h9 := hide (fun pa pcap op n s a len cap => madeI ps t pa pcap op n s a len cap)
  rw [hB] at h6 h9
  have h10 := hide (fun a a' cap cap' => eqS_any ps (fun x _ => eq_calls x) a a' cap cap')
  have h11 := hide (eq_calls t)
  have hsz := Tm.sizes_le ps
  have hZ := t.size_le
  have HSZ : Hid (Tm.sizes ps ≤ 2097152) := by show _ ≤ _; omega
  have HPL : Hid (ps.length ≤ 2097152) := by show _ ≤ _; omega
  have HPM := hide hpl
  have HPZ : Hid (∀ x ∈ ps, x.size ≤ 2097152) := fun x hx => by have := Tm.size_mem hx; omega
  have HTZ : Hid (t.size ≤ 2097152) := by show _ ≤ _; omega
  have hb0 := abD (w := w) (.cells #[.int .i64 op, .int .i64 n, .string s, .slice a len cap] 24)
  have HB0 := hide hb0
  have HR0 := hide (RowT.new 24 w op n s a len cap)
  have HPS := hide hps
  have HL := hide hl
  have HTB := hide htab
  have HER := hide herr
  have hwt : ((ps.length + Tm.wts ps : Nat) : Int) ≤ 1048576 := by omega
  have hs1 := szv_yes (left := 1048576) hwt
  generalize hg1 : ps.length + Tm.wts ps = wp at *
  have hwp : (0 : Int) ≤ (wp : Int) := by omega
  have hs2 := szv_yes (left := 1048576 - (wp : Int)) (wt := t.wt) (by omega)
  generalize hplen : ps.length = plen at *
  generalize hg2 : (1048576 : Int) - (wp : Int) = left1 at *
  have hl1 : 0 ≤ left1 := by omega
  have hl1' : left1 ≤ 1048576 := by omega
  generalize hg3 : left1 - (t.wt : Int) = left2 at *
  have hl2 : 0 ≤ left2 := by omega
  clear hps hl htab herr hb0 hB hpl hsz hZ hw hw2 hwt hwp
  go_enter Tryd.func3, Tryd.ntmps3
  go_wp2_with fail
  refine (unhide h4 _ _ ((unhide HPS).below (unhide HB0)) (unhide HPM) (by omega) (by omega)).mono ?_
  rintro e w1 ⟨rfl, hb1⟩
  rw [hs1]
  have HB1 := hide (bt (unhide HB0) hb1 (Nat.le_refl _))
  obtain ⟨c0, c1, c2, c3⟩ := ((unhide HR0).below hb1).facts
  have HR1 := hide ((unhide HR0).below hb1)
  clear hb1 HB0 HR0 hs1 h4
  go_wp2_with fail
  refine (unhide h5 _ _ ((unhide HL).below (unhide HB1)) hl1 hl1').mono ?_
  rintro e w2 ⟨rfl, hb2⟩
  rw [hs2]
  have HB2 := hide (bt (unhide HB1) hb2 (Nat.le_refl _))
  have HR2 := hide ((unhide HR1).below hb2)
  clear hb2 HB1 HR1 hs2 h5 c0 c1 c2 c3
  obtain ⟨c0, c1, c2, c3⟩ := (unhide HR2).facts
  go_wp2_with fail
  go_region_held3 (fun y => y.cell? ⟨w.heap.size, 0, none⟩ = some (.int .i64 op) ∧ y.cell? ⟨w.heap.size, 1, none⟩ = some (.int .i64 n) ∧ y.cell? ⟨w.heap.size, 2, none⟩ = some (.string s) ∧ y.cell? ⟨w.heap.size, 3, none⟩ = some (.slice a len cap)) (go_keep)
    (first
      | (go_at_call 7
         refine (unhide h7 _ ((unhide HPS).below (unhide HB2).drew) (unhide HSZ)).mono ?_
         rintro e w3 ⟨rfl, hL3, hb3⟩
         have hb3' := hide (below_drew' hb3)
         have HB3 := hide (bt (unhide HB2) (unhide hb3') (Nat.le_refl _))
         have HL3 := hide (hL3.any0)
         obtain ⟨f0, f1, f2, f3⟩ := ((unhide HR2).below (unhide hb3')).facts)
      | (go_at_call 8
         refine (unhide h8 _ ((unhide HL).below (unhide HB3)) (unhide HTZ)).mono ?_
         rintro e w4 ⟨a4, rfl, hL4, hb4⟩
         have hb4' := hide hb4
         have HB4 := hide (bt (unhide HB3) hb4 (Nat.le_refl _))
         have HL4 := hide (hL4.any (Nat.zero_le _))
         have HL34 := hide ((unhide HL3).below hb4)
         obtain ⟨g0, g1, g2, g3⟩ := (((unhide HR2).below (unhide hb3')).below hb4).facts)
      | (go_at_call 6
         refine (unhide h6 _ _ op n s _ len len _ (unhide HL34) (unhide HL4) (unhide HPL) (unhide HTZ)).mono ?_
         rintro e w5 ⟨rfl, hb5⟩
         have HB5 := hide (bt (unhide HB4) hb5 (Nat.le_refl _))
         have HR5 := hide ((((unhide HR2).below (unhide hb3')).below (unhide hb4')).below hb5)
         obtain ⟨j0, j1, j2, j3⟩ := (unhide HR5).facts))
  clear f0 f1 f2 f3 g0 g1 g2 g3 c0 c1 c2 c3 HB3 HB4 HL3 HL4 HL34 hb3' hb4'
  go_wp2_with fail
  refine (unhide h7 _ ((unhide HPS).below (unhide HB5)) (unhide HSZ)).mono ?_
  rintro e w6 ⟨rfl, hL6, hb6⟩
  have HB6 := hide (bt (unhide HB5) hb6 (Nat.le_refl _))
  have HL6 := hide hL6.any0
  have HR6 := hide ((unhide HR5).below hb6)
  generalize hg5 : w5.heap.size = bx at *
  clear hL6 hb6 j0 j1 j2 j3 HR5
  obtain ⟨c0, c1, c2, c3⟩ := (unhide HR6).facts
  go_wp2_with fail
  refine (unhide h8 _ ((unhide HL).below (unhide HB6)) (unhide HTZ)).mono ?_
  rintro e w7 ⟨a7, rfl, hL7, hb7⟩
  have hb7' := bt hb7 (abD (.cells #[.int .i64 op, .int .i64 n, .string s, .slice a7 len len] 31)) (Nat.le_refl _)
  have HB7 := hide (bt (unhide HB6) hb7' (Nat.le_refl _))
  have HR7 := hide ((unhide HR6).below hb7')
  have HL67 := hide ((unhide HL6).below hb7')
  have HL7 := hide ((hL7.any (Nat.zero_le _)).below (abD (.cells #[.int .i64 op, .int .i64 n, .string s, .slice a7 len len] 31)))
  have HX7 := hide (RowT.new 31 w7 op n s a7 len len)
  clear hb7 hb7' hL7 c0 c1 c2 c3 HR6
  obtain ⟨c0, c1, c2, c3⟩ := (unhide HX7).facts
  go_wp2_with fail
  generalize w7.alloc (.cells #[.int .i64 op, .int .i64 n, .string s, .slice a7 len len] 31) = V7 at *
  generalize w7.heap.size = b7 at *
  refine (unhide h9 _ _ op n s a7 len len _ (unhide HL67) (unhide HPL) (unhide HPZ) (unhide HL7) (unhide HTZ) ((unhide HTB).on (unhide HB7)) ((unhide HER).on (unhide HB7))).mono ?_
  rintro e w8 ⟨rfl, hb8⟩
  have HB8 := hide (bt (unhide HB7) hb8 (Nat.le_refl _))
  have HR8 := hide ((unhide HR7).below hb8)
  have HL68 := hide ((unhide HL67).below hb8)
  have HL8 := hide ((unhide HL7).below hb8)
  have HX8 := hide ((unhide HX7).below hb8)
  clear hb8 c0 c1 c2 c3 HR7 HL67 HL7 HX7
  go_wp2_with fail
  refine (unhide h7 _ ((unhide HPS).below (unhide HB8)) (unhide HSZ)).mono ?_
  rintro e w9 ⟨rfl, hL9, hb9⟩
  have HB9 := hide (bt (unhide HB8) hb9 (Nat.le_refl _))
  have HR9 := hide ((unhide HR8).below hb9)
  have HL69 := hide ((unhide HL68).below hb9)
  have HL9 := hide ((unhide HL8).below hb9)
  have HX9 := hide ((unhide HX8).below hb9)
  have HN9 := hide hL9.any0
  clear hb9 hL9 HR8 HL68 HL8 HX8
  go_wp2_with fail
  refine (unhide h10 _ _ _ _ _ (unhide HL69) (unhide HN9) (unhide HPM)).mono ?_
  rintro e w10 ⟨rfl, hb10⟩
  have HB10 := hide (bt (unhide HB9) hb10 (Nat.le_refl _))
  have HR10 := hide ((unhide HR9).below hb10)
  have HL10 := hide ((unhide HL9).below hb10)
  have HX10 := hide ((unhide HX9).below hb10)
  clear hb10 HR9 HL69 HL9 HX9 HN9
  obtain ⟨c0, c1, c2, c3⟩ := (unhide HX10).facts
  obtain ⟨d0, d1, d2, d3⟩ := (unhide HR10).facts
  go_wp2_with fail
  go_region_held3 (fun y => y.cell? ⟨b7, 0, none⟩ = some (.int .i64 op) ∧ y.cell? ⟨b7, 1, none⟩ = some (.int .i64 n) ∧ y.cell? ⟨b7, 2, none⟩ = some (.string s) ∧ y.cell? ⟨b7, 3, none⟩ = some (.slice a7 len len) ∧ y.cell? ⟨w.heap.size, 0, none⟩ = some (.int .i64 op) ∧ y.cell? ⟨w.heap.size, 1, none⟩ = some (.int .i64 n) ∧ y.cell? ⟨w.heap.size, 2, none⟩ = some (.string s) ∧ y.cell? ⟨w.heap.size, 3, none⟩ = some (.slice a len cap)) (go_keep)
    (first
      | (go_at_call 8
         refine (unhide h8 _ ((unhide HL).below (unhide HB10).drew) (unhide HTZ)).mono ?_
         rintro e w11 ⟨a11, rfl, hL11, hb11⟩
         have hb11' := hide (below_drew' hb11)
         have HB11 := hide (bt (unhide HB10) (unhide hb11') (Nat.le_refl _))
         have HN11 := hide (hL11.any (Nat.zero_le _))
         have HL11 := hide ((unhide HL10).below (unhide hb11'))
         obtain ⟨f0, f1, f2, f3⟩ := ((unhide HX10).below (unhide hb11')).facts
         obtain ⟨f4, f5, f6, f7⟩ := ((unhide HR10).below (unhide hb11')).facts)
      | (go_at_call 11
         refine (unhide h11 op n s a7 len len op n s a11 len len _ (unhide HL11) (unhide HN11)).mono ?_
         rintro e w12 ⟨rfl, hb12⟩
         have HB12 := hide (bt (unhide HB11) hb12 (Nat.le_refl _))
         obtain ⟨g0, g1, g2, g3⟩ := (((unhide HX10).below (unhide hb11')).below hb12).facts
         obtain ⟨g4, g5, g6, g7⟩ := (((unhide HR10).below (unhide hb11')).below hb12).facts))
  go_wp2_with fail
  go_ret
  exact ⟨rfl, unhide HB12⟩

set_option maxRecDepth 100000 in
set_option maxHeartbeats 2000000 in
theorem lawMade_false (ps : List Tm) (t : Tm) (pa : Option Addr) (pcap : Nat) (op n : Int) (s : ByteArray) (a : Option Addr) (len cap : Nat) (w : World) (hps : LiesAll w 0 pa 0 ps) (hpl : ps.length ≤ maxLen) (hl : Lies w 0 t (tmCells op n s a len cap)) (htab : Tab w) (herr : Err w) (hB : madeB ps t = false) (hw : (ps.length : Int) + (Tm.wts ps : Int) ≤ 1048576) (hw2 : (t.wt : Int) ≤ 1048576 - ((ps.length : Int) + (Tm.wts ps : Int))) :
    Calls Tryd.prog 3 #[.slice pa ps.length pcap, .agg #[.int .i64 op, .int .i64 n, .string s, .slice a len cap]] w fun e w' => e = .returned (.bool true) ∧ Below w.heap.size w w' := by
  have h4 := hide (szS_any ps (fun x _ => sz_calls x) pa pcap)
  have h5 := hide (sz_calls t op n s a len cap)
  have h7 := hide (toS_any ps (fun x _ => to_calls x) pa pcap)
  have h8 := hide (to_calls t op n s a len cap)
  have h6 := hide (fun pa pcap op n s a len cap => made_calls ps t pa pcap op n s a len cap)
  have h9 := hide (fun pa pcap op n s a len cap => madeI ps t pa pcap op n s a len cap)
  rw [hB] at h6 h9
  have h10 := hide (fun a a' cap cap' => eqS_any ps (fun x _ => eq_calls x) a a' cap cap')
  have h11 := hide (eq_calls t)
  have hsz := Tm.sizes_le ps
  have hZ := t.size_le
  have HSZ : Hid (Tm.sizes ps ≤ 2097152) := by show _ ≤ _; omega
  have HPL : Hid (ps.length ≤ 2097152) := by show _ ≤ _; omega
  have HPM := hide hpl
  have HPZ : Hid (∀ x ∈ ps, x.size ≤ 2097152) := fun x hx => by have := Tm.size_mem hx; omega
  have HTZ : Hid (t.size ≤ 2097152) := by show _ ≤ _; omega
  have hb0 := abD (w := w) (.cells #[.int .i64 op, .int .i64 n, .string s, .slice a len cap] 24)
  have HB0 := hide hb0
  have HR0 := hide (RowT.new 24 w op n s a len cap)
  have HPS := hide hps
  have HL := hide hl
  have HTB := hide htab
  have HER := hide herr
  have hwt : ((ps.length + Tm.wts ps : Nat) : Int) ≤ 1048576 := by omega
  have hs1 := szv_yes (left := 1048576) hwt
  generalize hg1 : ps.length + Tm.wts ps = wp at *
  have hwp : (0 : Int) ≤ (wp : Int) := by omega
  have hs2 := szv_yes (left := 1048576 - (wp : Int)) (wt := t.wt) (by omega)
  generalize hplen : ps.length = plen at *
  generalize hg2 : (1048576 : Int) - (wp : Int) = left1 at *
  have hl1 : 0 ≤ left1 := by omega
  have hl1' : left1 ≤ 1048576 := by omega
  generalize hg3 : left1 - (t.wt : Int) = left2 at *
  have hl2 : 0 ≤ left2 := by omega
  clear hps hl htab herr hb0 hB hpl hsz hZ hw hw2 hwt hwp
  go_enter Tryd.func3, Tryd.ntmps3
  go_wp2_with fail
  refine (unhide h4 _ _ ((unhide HPS).below (unhide HB0)) (unhide HPM) (by omega) (by omega)).mono ?_
  rintro e w1 ⟨rfl, hb1⟩
  rw [hs1]
  have HB1 := hide (bt (unhide HB0) hb1 (Nat.le_refl _))
  obtain ⟨c0, c1, c2, c3⟩ := ((unhide HR0).below hb1).facts
  have HR1 := hide ((unhide HR0).below hb1)
  clear hb1 HB0 HR0 hs1 h4
  go_wp2_with fail
  refine (unhide h5 _ _ ((unhide HL).below (unhide HB1)) hl1 hl1').mono ?_
  rintro e w2 ⟨rfl, hb2⟩
  rw [hs2]
  have HB2 := hide (bt (unhide HB1) hb2 (Nat.le_refl _))
  have HR2 := hide ((unhide HR1).below hb2)
  clear hb2 HB1 HR1 hs2 h5 c0 c1 c2 c3
  obtain ⟨c0, c1, c2, c3⟩ := (unhide HR2).facts
  go_wp2_with fail
  go_region_held3 (fun y => y.cell? ⟨w.heap.size, 0, none⟩ = some (.int .i64 op) ∧ y.cell? ⟨w.heap.size, 1, none⟩ = some (.int .i64 n) ∧ y.cell? ⟨w.heap.size, 2, none⟩ = some (.string s) ∧ y.cell? ⟨w.heap.size, 3, none⟩ = some (.slice a len cap)) (go_keep)
    (first
      | (go_at_call 7
         refine (unhide h7 _ ((unhide HPS).below (unhide HB2).drew) (unhide HSZ)).mono ?_
         rintro e w3 ⟨rfl, hL3, hb3⟩
         have hb3' := hide (below_drew' hb3)
         have HB3 := hide (bt (unhide HB2) (unhide hb3') (Nat.le_refl _))
         have HL3 := hide (hL3.any0)
         obtain ⟨f0, f1, f2, f3⟩ := ((unhide HR2).below (unhide hb3')).facts)
      | (go_at_call 8
         refine (unhide h8 _ ((unhide HL).below (unhide HB3)) (unhide HTZ)).mono ?_
         rintro e w4 ⟨a4, rfl, hL4, hb4⟩
         have hb4' := hide hb4
         have HB4 := hide (bt (unhide HB3) hb4 (Nat.le_refl _))
         have HL4 := hide (hL4.any (Nat.zero_le _))
         have HL34 := hide ((unhide HL3).below hb4)
         obtain ⟨g0, g1, g2, g3⟩ := (((unhide HR2).below (unhide hb3')).below hb4).facts)
      | (go_at_call 6
         refine (unhide h6 _ _ op n s _ len len _ (unhide HL34) (unhide HL4) (unhide HPL) (unhide HTZ)).mono ?_
         rintro e w5 ⟨rfl, hb5⟩
         have HB5 := hide (bt (unhide HB4) hb5 (Nat.le_refl _))
         have HR5 := hide ((((unhide HR2).below (unhide hb3')).below (unhide hb4')).below hb5)
         obtain ⟨j0, j1, j2, j3⟩ := (unhide HR5).facts))
  clear f0 f1 f2 f3 g0 g1 g2 g3 c0 c1 c2 c3 HB3 HB4 HL3 HL4 HL34 hb3' hb4'
  go_wp2_with fail
  refine (unhide h7 _ ((unhide HPS).below (unhide HB5)) (unhide HSZ)).mono ?_
  rintro e w6 ⟨rfl, hL6, hb6⟩
  have HB6 := hide (bt (unhide HB5) hb6 (Nat.le_refl _))
  have HL6 := hide hL6.any0
  have HR6 := hide ((unhide HR5).below hb6)
  generalize hg5 : w5.heap.size = bx at *
  clear hL6 hb6 j0 j1 j2 j3 HR5
  obtain ⟨c0, c1, c2, c3⟩ := (unhide HR6).facts
  go_wp2_with fail
  refine (unhide h8 _ ((unhide HL).below (unhide HB6)) (unhide HTZ)).mono ?_
  rintro e w7 ⟨a7, rfl, hL7, hb7⟩
  have hb7' := bt hb7 (abD (.cells #[.int .i64 op, .int .i64 n, .string s, .slice a7 len len] 31)) (Nat.le_refl _)
  have HB7 := hide (bt (unhide HB6) hb7' (Nat.le_refl _))
  have HR7 := hide ((unhide HR6).below hb7')
  have HL67 := hide ((unhide HL6).below hb7')
  have HL7 := hide ((hL7.any (Nat.zero_le _)).below (abD (.cells #[.int .i64 op, .int .i64 n, .string s, .slice a7 len len] 31)))
  have HX7 := hide (RowT.new 31 w7 op n s a7 len len)
  clear hb7 hb7' hL7 c0 c1 c2 c3 HR6
  obtain ⟨c0, c1, c2, c3⟩ := (unhide HX7).facts
  go_wp2_with fail
  generalize w7.alloc (.cells #[.int .i64 op, .int .i64 n, .string s, .slice a7 len len] 31) = V7 at *
  generalize w7.heap.size = b7 at *
  refine (unhide h9 _ _ op n s a7 len len _ (unhide HL67) (unhide HPL) (unhide HPZ) (unhide HL7) (unhide HTZ) ((unhide HTB).on (unhide HB7)) ((unhide HER).on (unhide HB7))).mono ?_
  rintro e w8 ⟨rfl, hb8⟩
  have HB8 := hide (bt (unhide HB7) hb8 (Nat.le_refl _))
  have HR8 := hide ((unhide HR7).below hb8)
  have HL68 := hide ((unhide HL67).below hb8)
  have HL8 := hide ((unhide HL7).below hb8)
  have HX8 := hide ((unhide HX7).below hb8)
  clear hb8 c0 c1 c2 c3 HR7 HL67 HL7 HX7
  go_wp2_with fail
  refine (unhide h7 _ ((unhide HPS).below (unhide HB8)) (unhide HSZ)).mono ?_
  rintro e w9 ⟨rfl, hL9, hb9⟩
  have HB9 := hide (bt (unhide HB8) hb9 (Nat.le_refl _))
  have HR9 := hide ((unhide HR8).below hb9)
  have HL69 := hide ((unhide HL68).below hb9)
  have HL9 := hide ((unhide HL8).below hb9)
  have HX9 := hide ((unhide HX8).below hb9)
  have HN9 := hide hL9.any0
  clear hb9 hL9 HR8 HL68 HL8 HX8
  go_wp2_with fail
  refine (unhide h10 _ _ _ _ _ (unhide HL69) (unhide HN9) (unhide HPM)).mono ?_
  rintro e w10 ⟨rfl, hb10⟩
  have HB10 := hide (bt (unhide HB9) hb10 (Nat.le_refl _))
  have HR10 := hide ((unhide HR9).below hb10)
  have HL10 := hide ((unhide HL9).below hb10)
  have HX10 := hide ((unhide HX9).below hb10)
  clear hb10 HR9 HL69 HL9 HX9 HN9
  obtain ⟨c0, c1, c2, c3⟩ := (unhide HX10).facts
  obtain ⟨d0, d1, d2, d3⟩ := (unhide HR10).facts
  go_wp2_with fail
  go_region_held3 (fun y => y.cell? ⟨b7, 0, none⟩ = some (.int .i64 op) ∧ y.cell? ⟨b7, 1, none⟩ = some (.int .i64 n) ∧ y.cell? ⟨b7, 2, none⟩ = some (.string s) ∧ y.cell? ⟨b7, 3, none⟩ = some (.slice a7 len len) ∧ y.cell? ⟨w.heap.size, 0, none⟩ = some (.int .i64 op) ∧ y.cell? ⟨w.heap.size, 1, none⟩ = some (.int .i64 n) ∧ y.cell? ⟨w.heap.size, 2, none⟩ = some (.string s) ∧ y.cell? ⟨w.heap.size, 3, none⟩ = some (.slice a len cap)) (go_keep)
    (first
      | (go_at_call 8
         refine (unhide h8 _ ((unhide HL).below (unhide HB10).drew) (unhide HTZ)).mono ?_
         rintro e w11 ⟨a11, rfl, hL11, hb11⟩
         have hb11' := hide (below_drew' hb11)
         have HB11 := hide (bt (unhide HB10) (unhide hb11') (Nat.le_refl _))
         have HN11 := hide (hL11.any (Nat.zero_le _))
         have HL11 := hide ((unhide HL10).below (unhide hb11'))
         obtain ⟨f0, f1, f2, f3⟩ := ((unhide HX10).below (unhide hb11')).facts
         obtain ⟨f4, f5, f6, f7⟩ := ((unhide HR10).below (unhide hb11')).facts)
      | (go_at_call 11
         refine (unhide h11 op n s a7 len len op n s a11 len len _ (unhide HL11) (unhide HN11)).mono ?_
         rintro e w12 ⟨rfl, hb12⟩
         have HB12 := hide (bt (unhide HB11) hb12 (Nat.le_refl _))
         obtain ⟨g0, g1, g2, g3⟩ := (((unhide HX10).below (unhide hb11')).below hb12).facts
         obtain ⟨g4, g5, g6, g7⟩ := (((unhide HR10).below (unhide hb11')).below hb12).facts))
  go_wp2_with fail
  go_ret
  exact ⟨rfl, unhide HB12⟩

set_option maxRecDepth 100000 in
set_option maxHeartbeats 2000000 in
theorem lawMade (ps : List Tm) (t : Tm) (pa : Option Addr) (pcap : Nat) (op n : Int) (s : ByteArray) (a : Option Addr) (len cap : Nat) (w : World) (hps : LiesAll w 0 pa 0 ps) (hpl : ps.length ≤ maxLen) (hl : Lies w 0 t (tmCells op n s a len cap)) (htab : Tab w) (herr : Err w) :
    Calls Tryd.prog 3 #[.slice pa ps.length pcap, .agg #[.int .i64 op, .int .i64 n, .string s, .slice a len cap]] w fun e w' => e = .returned (.bool true) ∧ Below w.heap.size w w' := by
  by_cases hw : (ps.length : Int) + (Tm.wts ps : Int) ≤ 1048576
  · by_cases hw2 : (t.wt : Int) ≤ 1048576 - ((ps.length : Int) + (Tm.wts ps : Int))
    · cases hB : madeB ps t with
      | true => exact lawMade_true ps t pa pcap op n s a len cap w hps hpl hl htab herr hB hw hw2
      | false => exact lawMade_false ps t pa pcap op n s a len cap w hps hpl hl htab herr hB hw hw2
    · have h4 := hide (szS_any ps (fun x _ => sz_calls x) pa pcap)
      have h5 := hide (sz_calls t op n s a len cap)
      have hb0 := abD (w := w) (.cells #[.int .i64 op, .int .i64 n, .string s, .slice a len cap] 24)
      have HB0 := hide hb0
      have HR0 := hide (RowT.new 24 w op n s a len cap)
      have HPS := hide hps
      have HPM := hide hpl
      have HL := hide hl
      have hwt : ((ps.length + Tm.wts ps : Nat) : Int) ≤ 1048576 := by omega
      have hs1 := szv_yes (left := 1048576) hwt
      generalize hg1 : ps.length + Tm.wts ps = wp at *
      have hwp : (0 : Int) ≤ (wp : Int) := by omega
      have hs2 := szv_no (left := 1048576 - (wp : Int)) (wt := t.wt) (by omega)
      generalize hplen : ps.length = plen at *
      generalize hg2 : (1048576 : Int) - (wp : Int) = left1 at *
      have hl1 : 0 ≤ left1 := by omega
      have hl1' : left1 ≤ 1048576 := by omega
      clear hps hl htab herr hb0 hpl hw hw2 hwt hwp
      go_enter Tryd.func3, Tryd.ntmps3
      go_wp2_with fail
      refine (unhide h4 _ _ ((unhide HPS).below (unhide HB0)) (unhide HPM) (by omega) (by omega)).mono ?_
      rintro e w1 ⟨rfl, hb1⟩
      rw [hs1]
      have HB1 := hide (bt (unhide HB0) hb1 (Nat.le_refl _))
      obtain ⟨c0, c1, c2, c3⟩ := ((unhide HR0).below hb1).facts
      clear hb1 HB0 HR0 hs1 h4
      go_wp2_with fail
      refine (unhide h5 _ _ ((unhide HL).below (unhide HB1)) hl1 hl1').mono ?_
      rintro e w2 ⟨rfl, hb2⟩
      rw [hs2]
      have HB2 := hide (bt (unhide HB1) hb2 (Nat.le_refl _))
      clear hb2
      go_wp2_with fail
      go_ret
      exact ⟨rfl, unhide HB2⟩
  · have h4 := hide (szS_any ps (fun x _ => sz_calls x) pa pcap)
    have hb0 := abD (w := w) (.cells #[.int .i64 op, .int .i64 n, .string s, .slice a len cap] 24)
    have HB0 := hide hb0
    have HPS := hide hps
    have HPM := hide hpl
    have hs1 := szv_no (left := 1048576) (wt := ps.length + Tm.wts ps) (by omega)
    generalize hplen : ps.length = plen at *
    clear hps hl htab herr hb0 hpl hw
    go_enter Tryd.func3, Tryd.ntmps3
    go_wp2_with fail
    refine (unhide h4 _ _ ((unhide HPS).below (unhide HB0)) (unhide HPM) (by omega) (by omega)).mono ?_
    rintro e w1 ⟨rfl, hb1⟩
    rw [hs1]
    have HB1 := hide (bt (unhide HB0) hb1 (Nat.le_refl _))
    clear hb1
    go_wp2_with fail
    go_ret
    exact ⟨rfl, unhide HB1⟩

end Go.Proofs.YteminklafghgpaaDoor
