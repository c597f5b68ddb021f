
/- The walk of laws.FnExactDone: whatever term lies in memory it answers true; nothing that was there is written. -/
import Derived.Test.YtdmhfembmkappaaDoorLh
import Derived.Test.YtdmhfembmkappaaDoorG3
import Derived.Test.YtdmhfembmkappaaDoorMk
import Derived.Deep.RegionHeld3
namespace Go.Proofs.YtdmhfembmkappaaDoor
open Go.RowKit Go.Deep

theorem doneT_size (t : Tm) : (doneT t).size ≤ 200 := by
  have h : ∀ x : Tm, (pickT (okT x) x).size ≤ 200 := fun x => by
    unfold pickT
    split
    · rename_i h
      simp only [okT, Bool.and_eq_true, decide_eq_true_eq] at h
      exact h.1
    · simp [Tm.size, Tm.sizes]
  exact h _

set_option maxRecDepth 100000 in
set_option maxHeartbeats 2000000 in
theorem lawDone (t : Tm) (op n : Int) (s : ByteArray) (a : Option Addr) (len cap : Nat) (w : World) (hl : Lies w 0 t (tmCells op n s a len cap)) (htab : Tab w) (herr : Err w) :
    Calls Tryd.prog 6 #[.agg #[.int .i64 op, .int .i64 n, .string s, .slice a len cap]] w fun e w' => e = .returned (.bool true) ∧ Below w.heap.size w w' := by
  have HER := hide herr
  have HTB := hide htab
  clear herr htab
  have h11 := hide (sz_calls t)
  have h13 := hide (tp_calls t)
  have h15 := hide (doneS t)
  have h16 := hide (doneI t)
  have h8 := hide eq_calls
  have hZ := t.size_le
  have hTZ := doneT_size t
  generalize doneT t = T at *
  have HKP : Hid (Tm.sizes T.kids ≤ T.size) := by have := size_kids T; show _ ≤ _; omega
  have hB0 : Below w.heap.size w (w.alloc (.cells #[.int .i64 op, .int .i64 n, .string s, .slice a len cap] 24)) := ab _
  have HL := hide (hl.below hB0)
  have HB0 := hide hB0
  have HA := hide (RowT.new 24 w op n s a len cap)
  clear hl hB0
  by_cases hw : (t.wt : Int) ≤ 1048576
  · have hsz : t.size ≤ 1048577 := by omega
    have hwp : (0 : Int) ≤ t.wt := by omega
    have HSZ : Hid (t.size ≤ 2097152) := by show _ ≤ _; omega
    have HSZ1 : Hid (t.size ≤ 2097130) := by show _ ≤ _; omega
    have HTZ : Hid (1 + 3 * T.size ≤ 1099511627776) := by show _ ≤ _; omega
    have HXZ : Hid (1 + 3 * t.size ≤ 1099511627776) := by show _ ≤ _; omega
    have h9x : Hid (∀ (op n : Int) (s : ByteArray) (a : Option Addr) (len cap : Nat) (w : World) (fp : List Nat), Own w t (tmCells op n s a len cap) fp → fp.Nodup →
        Calls Tryd.prog 12 #[.agg #[.int .i64 op, .int .i64 n, .string s, .slice a len cap], .int .i64 1] w fun e w' => e = .returned (.int .i64 ((1 + 3 * Tm.sizes t.kids : Nat) : Int)) ∧ Own w' (t.marked 1) (tmCells op n s a len cap) fp ∧ Only fp w w') :=
      fun op n s a len cap w fp h hnd => mark_any t op n s a len cap 1 w fp h hnd (Nat.le_refl _) (unhide HXZ)
    have h9g : Hid (∀ (op n : Int) (s : ByteArray) (a : Option Addr) (len cap : Nat) (w : World) (fp : List Nat), Own w T (tmCells op n s a len cap) fp → fp.Nodup →
        Calls Tryd.prog 12 #[.agg #[.int .i64 op, .int .i64 n, .string s, .slice a len cap], .int .i64 1] w fun e w' => e = .returned (.int .i64 ((1 + 3 * Tm.sizes T.kids : Nat) : Int)) ∧ Own w' (T.marked 1) (tmCells op n s a len cap) fp ∧ Only fp w w') :=
      fun op n s a len cap w fp h hnd => mark_any T op n s a len cap 1 w fp h hnd (Nat.le_refl _) (unhide HTZ)
    have h10 : Hid (∀ (op n : Int) (s : ByteArray) (a : Option Addr) (len cap : Nat) (w : World), Lies w 0 (T.marked 1) (tmCells op n s a len cap) →
        Calls Tryd.prog 13 #[.agg #[.int .i64 op, .int .i64 n, .string s, .slice a len cap], .int .i64 1] w fun e w' => e = .returned (.int .i64 ((1 + 3 * Tm.sizes T.kids : Nat) : Int)) ∧ Below w.heap.size w w') :=
      fun op n s a len cap w h => held_marked T op n s a len cap 1 w h (Nat.le_refl _) (unhide HTZ)
    have hmb : (1 + 3 * Tm.sizes T.kids : Nat) ≤ 4194304 := by have := unhide HKP; omega
    have hkb : (1 + 3 * Tm.sizes t.kids : Nat) ≤ 4194304 := by have := size_kids t; omega
    clear hZ
    generalize 1 + 3 * Tm.sizes T.kids = mG at *
    generalize 1 + 3 * Tm.sizes t.kids = mX at *
    generalize hgl : (1048576 : Int) - t.wt = left at *
    have hln : 0 ≤ left := by omega
    go_enter Tryd.func6, Tryd.ntmps6
    go_wp2_with fail
    refine (unhide h11 op n s a len cap _ _ (unhide HL) (by omega) (by omega)).mono ?_
    rintro e w1 ⟨rfl, hb1⟩
    rw [szv_yes hw, hgl]
    have HA1 := hide ((unhide HA).below hb1)
    have HL1 := hide ((unhide HL).below hb1)
    have HB1 := hide (bt (unhide HB0) hb1 (Nat.le_refl _))
    clear hb1 HL HB0 HA hgl hw hwp h11
    obtain ⟨c0, c1, c2, c3⟩ := (unhide HA1).facts
    go_wp2_with fail
    refine (unhide h13 op n s a len cap _ (unhide HL1) (unhide HSZ)).mono ?_
    rintro e w2 ⟨a2, f2, rfl, hO2, _, hb2⟩
    have HA2 := hide ((unhide HA1).below hb2)
    have HL2 := hide ((unhide HL1).below hb2)
    have HB2 := hide (bt (unhide HB1) hb2 (Nat.le_refl _))
    have HO2 := hide hO2.lies0
    clear hb2 hO2 HA1 HL1 HB1 c0 c1 c2 c3
    go_wp2_with fail
    refine (unhide h15 op n s a2 len len _ (unhide HO2) (unhide HSZ1)).mono ?_
    rintro e w3 ⟨opW, nW, sW, aW, lenW, capW, rfl, hL3, hb3⟩
    have HA3 := hide ((unhide HA2).below hb3)
    have HL3 := hide ((unhide HL2).below hb3)
    have HB3 := hide (bt (unhide HB2) hb3 (Nat.le_refl _))
    have HW3 := hide (hL3.any (Nat.zero_le _))
    clear hb3 hL3 HA2 HL2 HB2 HO2
    have HVB := hide (bt (unhide HB3) (ab (.cells #[.int .i64 opW, .int .i64 nW, .string sW, .slice aW lenW capW] 28)) (Nat.le_refl _))
    have HVA := hide ((unhide HA3).below (ab (.cells #[.int .i64 opW, .int .i64 nW, .string sW, .slice aW lenW capW] 28)))
    have HVW := hide (RowT.new 28 w3 opW nW sW aW lenW capW)
    have HVLA := hide ((unhide HL3).below (ab (.cells #[.int .i64 opW, .int .i64 nW, .string sW, .slice aW lenW capW] 28)))
    have HVLW := hide ((unhide HW3).below (ab (.cells #[.int .i64 opW, .int .i64 nW, .string sW, .slice aW lenW capW] 28)))
    obtain ⟨c0, c1, c2, c3⟩ := (unhide HVA).facts
    clear HA3 HL3 HB3 HW3
    go_wp2_with fail
    generalize hV1 : w3.alloc (.cells #[.int .i64 opW, .int .i64 nW, .string sW, .slice aW lenW capW] 28) = V1 at *
    have HGW : Hid (w3.heap.size + 1 = V1.heap.size) := by show _ = _; rw [← hV1, heap_size_alloc]
    generalize w3.heap.size = bW at *
    clear hV1
    refine (unhide h13 op n s a len cap _ (unhide HVLA) (unhide HSZ)).mono ?_
    rintro e w4 ⟨a4, f4, rfl, hO4, ⟨hnd4, hge4⟩, hb4⟩
    have HND4 := hide hnd4
    have HGE4 := hide hge4
    have HLT4 := hide (Own.lt _ _ _ hO4)
    have hb4' := bt hb4 (ab (.cells #[.int .i64 op, .int .i64 n, .string s, .slice a4 len len] 28)) (Nat.le_refl _)
    have HV2 := hide hb4'
    have HXR := hide (RowT.new 28 w4 op n s a4 len len)
    have HXO := hide (hO4.below (ab (.cells #[.int .i64 op, .int .i64 n, .string s, .slice a4 len len] 28)))
    clear hO4 hnd4 hge4 hb4 hb4' c0 c1 c2 c3
    obtain ⟨c0, c1, c2, c3⟩ := (unhide HXR).facts
    go_wp2_with fail
    generalize hV2 : w4.alloc (.cells #[.int .i64 op, .int .i64 n, .string s, .slice a4 len len] 28) = V2 at *
    have HGX : Hid (w4.heap.size + 1 = V2.heap.size) := by show _ = _; rw [← hV2, heap_size_alloc]
    generalize w4.heap.size = bX at *
    clear hV2
    refine (unhide h16 op n s a4 len len _ (unhide HXO).lies0 (unhide HSZ1) ((unhide HTB).on (bt (unhide HVB) (unhide HV2) (Nat.le_refl _))) ((unhide HER).on (bt (unhide HVB) (unhide HV2) (Nat.le_refl _)))).mono ?_
    rintro e w5 ⟨opG, nG, sG, aG, lenG, capG, f5, rfl, hO5, ⟨hnd5, hge5⟩, hb5⟩
    have HND5 := hide hnd5
    have HGE5 := hide hge5
    have HLT5 := hide (Own.lt _ _ _ hO5)
    have HBG := hide hb5.size
    have hb5' := bt hb5 (ab (.cells #[.int .i64 opG, .int .i64 nG, .string sG, .slice aG lenG capG] 28)) (Nat.le_refl _)
    have HV3 := hide hb5'
    have HV13 := hide (bt (unhide HV2) hb5' (Nat.le_refl _))
    have HGR := hide (RowT.new 28 w5 opG nG sG aG lenG capG)
    have HGO := hide (hO5.below (ab (.cells #[.int .i64 opG, .int .i64 nG, .string sG, .slice aG lenG capG] 28)))
    clear hO5 hnd5 hge5 hb5 hb5' c0 c1 c2 c3
    obtain ⟨c0, c1, c2, c3⟩ := (unhide HGR).facts
    obtain ⟨d0, d1, d2, d3⟩ := ((unhide HVW).below (unhide HV13)).facts
    go_wp2_with fail
    generalize hV3 : w5.alloc (.cells #[.int .i64 opG, .int .i64 nG, .string sG, .slice aG lenG capG] 28) = V3 at *
    have HGG : Hid (w5.heap.size + 1 = V3.heap.size) := by show _ = _; rw [← hV3, heap_size_alloc]
    generalize w5.heap.size = bG at *
    clear hV3
    refine (unhide h8 T opG nG sG aG lenG capG opW nW sW aW lenW capW _ (unhide HGO).lies0 ((unhide HVLW).below (unhide HV13))).mono ?_
    rintro e w6 ⟨rfl, hb6⟩
    have HV16 := hide (bt (unhide HV13) hb6 (Nat.le_refl _))
    have HV26 := hide (bt (unhide HV3) hb6 (Nat.le_refl _))
    have HGR6 := hide ((unhide HGR).below hb6)
    have HGO6 := hide ((unhide HGO).below hb6)
    clear hb6 c0 c1 c2 c3 d0 d1 d2 d3 HV13 HV3 HGR HGO
    obtain ⟨c0, c1, c2, c3⟩ := ((unhide HXR).below (unhide HV26)).facts
    obtain ⟨d0, d1, d2, d3⟩ := ((unhide HVA).below (unhide HV16)).facts
    have HLA6 := hide ((unhide HVLA).below (unhide HV16).drew)
    have HXO6 := hide ((unhide HXO).below (unhide HV26).drew)
    go_wp2_with fail
    go_region_held3 (fun x => x.cell? ⟨bX, 0, none⟩ = some (.int .i64 op) ∧ x.cell? ⟨bX, 1, none⟩ = some (.int .i64 n) ∧ x.cell? ⟨bX, 2, none⟩ = some (.string s) ∧ x.cell? ⟨bX, 3, none⟩ = some (.slice a4 len len) ∧
        x.cell? ⟨w.heap.size, 0, none⟩ = some (.int .i64 op) ∧ x.cell? ⟨w.heap.size, 1, none⟩ = some (.int .i64 n) ∧ x.cell? ⟨w.heap.size, 2, none⟩ = some (.string s) ∧ x.cell? ⟨w.heap.size, 3, none⟩ = some (.slice a len cap)) (go_keep)
      (first
        | (go_at_call 9
           refine (unhide h13 op n s a len cap _ (unhide HLA6) (unhide HSZ)).mono ?_
           rintro e w7 ⟨a7, f7, rfl, hO7, _, hb7⟩
           have hb7' := hide (below_drew' hb7)
           have HO7 := hide hO7.lies0
           have HX7 := hide ((unhide HXO6).below hb7).lies0
           have f0 := kpc (unhide hb7') c0
           have f1 := kpc (unhide hb7') c1
           have f2 := kpc (unhide hb7') c2
           have f3 := kpc (unhide hb7') c3
           have f4 := kpc (unhide hb7') d0
           have f5 := kpc (unhide hb7') d1
           have f6 := kpc (unhide hb7') d2
           have f7 := kpc (unhide hb7') d3)
        | (go_at_call 11
           refine (unhide h8 t op n s a4 len len op n s a7 len len _ (unhide HX7) (unhide HO7)).mono ?_
           rintro e w8 ⟨rfl, hb8⟩
           have g0 := kpc hb8 f0
           have g1 := kpc hb8 f1
           have g2 := kpc hb8 f2
           have g3 := kpc hb8 f3
           have g4 := kpc hb8 f4
           have g5 := kpc hb8 f5
           have g6 := kpc hb8 f6
           have g7 := kpc hb8 f7
           have hb8' := hide hb8))
    have HV18 := hide (bt (bt (unhide HV16) (unhide hb7') (Nat.le_refl _)) (unhide hb8') (Nat.le_refl _))
    have HGR8 := hide (((unhide HGR6).below (unhide hb7')).below (unhide hb8'))
    have HGO8 := hide (((unhide HGO6).below (unhide hb7')).below (unhide hb8'))
    have HXO8 := hide (((unhide HXO).below (unhide HV26)).below (unhide hb7') |>.below (unhide hb8'))
    clear f0 f1 f2 f3 f4 f5 f6 f7 c0 c1 c2 c3 d0 d1 d2 d3 HV16 HV26 HGR6 HGO6 HXO6 HLA6 hb7' hb8' HO7 HX7
    go_wp2_with fail
    refine (unhide h9x op n s a4 len len _ _ (unhide HXO8) (unhide HND4)).mono ?_
    rintro e w9 ⟨rfl, _, o9⟩
    have HV19 := hide ((unhide HV18).trans (o9.below (unhide HV18).size (unhide HGE4)))
    have HGR9 := hide ((unhide HGR8).only o9 (fun hx => by have := unhide HLT4 _ hx; have := unhide HBG; have := unhide HGX; omega))
    have HGO9 := hide ((unhide HGO8).only o9 (fun x hx hx4 => by have := unhide HLT4 _ hx4; have := unhide HGE5 _ hx; have := unhide HGX; omega))
    clear o9 HV18 HGR8 HGO8 HXO8 g0 g1 g2 g3 g4 g5 g6 g7
    obtain ⟨c0, c1, c2, c3⟩ := (unhide HGR9).facts
    obtain ⟨d0, d1, d2, d3⟩ := ((unhide HVW).below (unhide HV19)).facts
    go_wp2_with fail
    refine (unhide h8 T opG nG sG aG lenG capG opW nW sW aW lenW capW _ (unhide HGO9).lies0 ((unhide HVLW).below (unhide HV19))).mono ?_
    rintro e w10 ⟨rfl, hb10⟩
    have HV20 := hide (bt (unhide HV19) hb10 (Nat.le_refl _))
    have HGR10 := hide ((unhide HGR9).below hb10)
    have HGO10 := hide ((unhide HGO9).below hb10)
    clear hb10 HV19 HGR9 HGO9 c0 c1 c2 c3 d0 d1 d2 d3
    obtain ⟨c0, c1, c2, c3⟩ := (unhide HGR10).facts
    go_wp2_with fail
    refine (unhide h9g opG nG sG aG lenG capG _ _ (unhide HGO10) (unhide HND5)).mono ?_
    rintro e w11 ⟨rfl, k11, o11⟩
    have HV21 := hide ((unhide HV20).trans (o11.below (unhide HV20).size (fun x hx => by have := unhide HGE5 _ hx; have := (unhide HV2).size; omega)))
    have HGR11 := hide ((unhide HGR10).only o11 (fun hx => by have := unhide HLT5 _ hx; omega))
    have HGO11 := hide k11.lies0
    clear o11 k11 HV20 HGR10 HGO10 c0 c1 c2 c3
    obtain ⟨c0, c1, c2, c3⟩ := (unhide HGR11).facts
    go_wp2_with fail
    refine (unhide h10 opG nG sG aG lenG capG _ (unhide HGO11)).mono ?_
    rintro e w12 ⟨rfl, hb12⟩
    have HV22 := hide (bt (unhide HV21) hb12 (Nat.le_refl _))
    have HGR12 := hide ((unhide HGR11).below hb12)
    have HGO12 := hide ((unhide HGO11).below hb12)
    clear hb12 HV21 HGR11 HGO11 c0 c1 c2 c3
    obtain ⟨d0, d1, d2, d3⟩ := ((unhide HVA).below (unhide HV22)).facts
    go_wp2_with fail
    refine (unhide h13 op n s a len cap _ ((unhide HVLA).below (unhide HV22)) (unhide HSZ)).mono ?_
    rintro e w13 ⟨a13, f13, rfl, hO13, _, hb13⟩
    have HV23 := hide (bt (unhide HV22) hb13 (Nat.le_refl _))
    have HGR13 := hide ((unhide HGR12).below hb13)
    have HGO13 := hide ((unhide HGO12).below hb13)
    have HO13 := hide hO13.lies0
    clear hb13 hO13 HV22 HGR12 HGO12 d0 d1 d2 d3
    go_wp2_with fail
    refine (unhide h16 op n s a13 len len _ (unhide HO13) (unhide HSZ1) ((unhide HTB).on (bt (unhide HVB) (unhide HV23) (Nat.le_refl _))) ((unhide HER).on (bt (unhide HVB) (unhide HV23) (Nat.le_refl _)))).mono ?_
    rintro e w14 ⟨opH, nH, sH, aH, lenH, capH, f14, rfl, hO14, _, hb14⟩
    have hb14' := bt hb14 (ab (.cells #[.int .i64 opH, .int .i64 nH, .string sH, .slice aH lenH capH] 28)) (Nat.le_refl _)
    have HV24 := hide (bt (unhide HV23) hb14' (Nat.le_refl _))
    have HGR14 := hide ((unhide HGR13).below hb14')
    have HGO14 := hide ((unhide HGO13).below hb14')
    have HHO := hide (hO14.below (ab (.cells #[.int .i64 opH, .int .i64 nH, .string sH, .slice aH lenH capH] 28))).lies0
    clear hb14 hb14' hO14 HV23 HGR13 HGO13 HO13
    obtain ⟨c0, c1, c2, c3⟩ := (RowT.new 28 w14 opH nH sH aH lenH capH).facts
    obtain ⟨d0, d1, d2, d3⟩ := ((unhide HVW).below (unhide HV24)).facts
    go_wp2_with fail
    refine (unhide h8 T opH nH sH aH lenH capH opW nW sW aW lenW capW _ (unhide HHO) ((unhide HVLW).below (unhide HV24))).mono ?_
    rintro e w15 ⟨rfl, hb15⟩
    have HV25 := hide (bt (unhide HV24) hb15 (Nat.le_refl _))
    have HGR15 := hide ((unhide HGR14).below hb15)
    have HGO15 := hide ((unhide HGO14).below hb15)
    clear hb15 HV24 HGR14 HGO14 HHO c0 c1 c2 c3 d0 d1 d2 d3
    obtain ⟨c0, c1, c2, c3⟩ := (unhide HGR15).facts
    go_wp2_with fail
    refine (unhide h10 opG nG sG aG lenG capG _ (unhide HGO15)).mono ?_
    rintro e w16 ⟨rfl, hb16⟩
    have HV26 := hide (bt (unhide HV25) hb16 (Nat.le_refl _))
    clear hb16 c0 c1 c2 c3
    go_wp2_with fail
    go_ret
    exact ⟨rfl, (unhide HVB).trans ((unhide HV26).mono (unhide HVB).size)⟩
  · go_enter Tryd.func6, Tryd.ntmps6
    go_wp2_with fail
    refine (unhide h11 op n s a len cap _ _ (unhide HL) (by omega) (by omega)).mono ?_
    rintro e w2 ⟨rfl, hb2⟩
    rw [szv_no (by omega)]
    go_wp2_with fail
    go_ret
    exact ⟨rfl, bt (unhide HB0) hb2 (Nat.le_refl _)⟩

end Go.Proofs.YtdmhfembmkappaaDoor
