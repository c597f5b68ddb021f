/- The walk of laws.FnExactCertOf, given what both sides answer: it answers true; nothing that was there is written. The walks of impl.goodPub, impl.CertGood and spec.CertGood: the open half of a certificate that is good for that host at that time, and true; else zero and false; nothing that was there is written. The walk of spec.CertGood: the open half of a certificate that is good for that host at that time, and true; else zero and false; nothing that was there is written. The walk of laws.FnExactCertGood, given what both sides answer, and at whatever term, text and number: it answers true; nothing that was there is written. -/
import Derived.Test.YtlepdkbkiajkiaaGreatDoorSw
import Derived.Test.YtlepdkbkiajkiaaGreatDoorHd
import Derived.Deep.RegionHeld3
import Derived.Test.YtlepdkbkiajkiaaGreatDoorSx
namespace Go.Proofs.YtlepdkbkiajkiaaGreatDoor
open Go.RowKit Go.Deep

theorem RowC.only {ty : TypeId} {w w' : World} {b : Nat} {h : ByteArray} {op n : Int} {s : ByteArray} {a : Option Addr} {len cap : Nat} {u : Int} {f : List Nat} (hr : RowC ty w b h op n s a len cap u) (hb : Only f w w') (hf : b ∉ f) : RowC ty w' b h op n s a len cap u := (hb.block b hr.lt hf).trans hr

theorem held_markedC (T : Tm) (op n : Int) (s : ByteArray) (a : Option Addr) (len cap k : Nat) (w : World) (hl : Lies w 0 (T.marked k) (tmCells op n s a len cap)) (h1 : 1 ≤ k) (hz : k + 3 * T.size ≤ 1099511627776) :
    Calls Tryz.prog 47 #[.agg #[.int .i64 op, .int .i64 n, .string s, .slice a len cap], .int .i64 (k : Int)] w fun e w' => e = .returned (.int .i64 ((k + 3 * Tm.sizes T.kids : Nat) : Int)) ∧ Below w.heap.size w w' := by
  obtain ⟨op', n', s', ks⟩ := T
  have hh := hl
  simp only [Tm.marked, Lies, tmCells, List.cons.injEq, Value.int.injEq, Value.string.injEq, true_and] at hh
  obtain ⟨_, _, ⟨rfl, rfl, rfl, _⟩, _⟩ := hh
  simp only [Tm.size] at hz
  exact held_any op n s ks a len cap k w hl h1 (by omega)

set_option maxRecDepth 100000 in
set_option maxHeartbeats 1000000 in
theorem heldC (P : Tm) (h : ByteArray) (op n : Int) (s : ByteArray) (a : Option Addr) (len cap : Nat) (u : Int) (w : World) (hl : Lies w 0 (P.marked 1) (tmCells op n s a len cap)) (hz : 1 + 3 * P.size ≤ 1099511627776) :
    Calls Tryz.prog 50 #[.agg #[.string h, .int .i64 op, .int .i64 n, .string s, .slice a len cap, .int .i64 u], .int .i64 1] w fun e w' => e = .returned (.int .i64 ((1 + 3 * Tm.sizes P.kids : Nat) : Int)) ∧ Below w.heap.size w w' := by
  have h16 := hide (fun v hl => held_markedC P op n s a len cap 1 v hl (Nat.le_refl _) hz)
  have HL := hide (hl.below (abC (.cells #[.string h, .int .i64 op, .int .i64 n, .string s, .slice a len cap, .int .i64 u] 57)))
  have HB := hide (abC (w := w) (.cells #[.string h, .int .i64 op, .int .i64 n, .string s, .slice a len cap, .int .i64 u] 57))
  generalize 1 + 3 * Tm.sizes P.kids = M at *
  clear hl hz
  go_enter Tryz.func50, Tryz.ntmps50
  go_wp2_with fail
  refine (unhide h16 _ (unhide HL)).mono ?_
  rintro e w2 ⟨rfl, hb2⟩
  have HB2 := hide (btC (unhide HB) hb2)
  have hM : ¬ (M : Int) < 0 := by omega
  clear hb2
  go_wp2_with fail
  go_ret
  exact ⟨rfl, unhide HB2⟩

set_option maxRecDepth 100000 in
set_option maxHeartbeats 8000000 in
theorem lawCertOf (t : Tm) (h : ByteArray) (P : Tm) (v : Int) (B : Bool) (x : Addr) (hPZ : P.size ≤ 200)
    (hS : ∀ (op n : Int) (s : ByteArray) (a : Option Addr) (len cap : Nat) (w : World), Lies w 0 t (tmCells op n s a len cap) → t.size ≤ 2097152 → Calls Tryz.prog 48 #[.agg #[.int .i64 op, .int .i64 n, .string s, .slice a len cap]] w fun e w' => ∃ opW nW sW aW lenW capW, e = .returned (.tuple #[.agg #[.string h, .int .i64 opW, .int .i64 nW, .string sW, .slice aW lenW capW, .int .i64 v], .bool B]) ∧ Lies w' 0 P (tmCells opW nW sW aW lenW capW) ∧ Below w.heap.size w w')
    (hI : ∀ (op n : Int) (s : ByteArray) (a : Option Addr) (len cap : Nat) (w : World), Lies w 0 t (tmCells op n s a len cap) → t.size ≤ 2097152 → ErrAt x w → Var12 w → Tab w → Calls Tryz.prog 49 #[.agg #[.int .i64 op, .int .i64 n, .string s, .slice a len cap]] w fun e w' => ∃ opG nG sG aG lenG capG fp, e = .returned (.tuple #[.agg #[.string h, .int .i64 opG, .int .i64 nG, .string sG, .slice aG lenG capG, .int .i64 v], .bool B]) ∧ Own w' P (tmCells opG nG sG aG lenG capG) fp ∧ (fp.Nodup ∧ ∀ y ∈ fp, w.heap.size ≤ y) ∧ Below w.heap.size w w')
    (op n : Int) (s : ByteArray) (a : Option Addr) (len cap : Nat) (w : World) (hl : Lies w 0 t (tmCells op n s a len cap)) (hv : Var12 w) (htab : Tab w) (herr : ErrAt x w) :
    Calls Tryz.prog 6 #[.agg #[.int .i64 op, .int .i64 n, .string s, .slice a len cap]] w fun e w' => e = .returned (.bool true) ∧ Below w.heap.size w w' := by
  have HER := hide herr
  have HTB := hide htab
  have HVR := hide hv
  clear herr htab hv
  have h11 := hide (sz_calls t)
  have h8 := hide eq_calls
  have hZ := t.size_le
  have hB0 : Below w.heap.size w (w.alloc (.cells #[.int .i64 op, .int .i64 n, .string s, .slice a len cap] 24)) := ab _
  have HL := hide (hl.below hB0)
  have HB0 := hide hB0
  have HA := hide (RowT.new 24 w op n s a len cap)
  clear hl hB0
  by_cases hw : (t.wt : Int) ≤ 1048576
  · have hsz : t.size ≤ 1048577 := by omega
    have hsz2 : t.size ≤ 2097152 := by omega
    have h13 := hide (fun a cap v hv => tp_calls t op n s a len cap v hv hsz2)
    have h15 := hide (fun a cap v hv => hS op n s a len cap v hv hsz2)
    have h16 := hide (fun a cap v hv he hr ht => hI op n s a len cap v hv hsz2 he hr ht)
    have h9 := hide (fun op1 n1 s1 a1 len1 cap1 op2 n2 s2 a2 len2 cap2 W hv hv' => eqC P h op1 n1 s1 a1 len1 cap1 v op2 n2 s2 a2 len2 cap2 W hv hv')
    clear hS hI
    have HKP : Hid (Tm.sizes P.kids ≤ P.size) := by have := size_kids P; show _ ≤ _; omega
    have HTZ : Hid (1 + 3 * P.size ≤ 1099511627776) := by show _ ≤ _; omega
    have HXZ : Hid (1 + 3 * t.size ≤ 1099511627776) := by show _ ≤ _; omega
    have h9x : Hid (∀ (a : Option Addr) (w : World) (fp : List Nat), Own w t (tmCells op n s a len len) fp → fp.Nodup →
        Calls Tryz.prog 46 #[.agg #[.int .i64 op, .int .i64 n, .string s, .slice a len len], .int .i64 1] w fun e w' => e = .returned (.int .i64 ((1 + 3 * Tm.sizes t.kids : Nat) : Int)) ∧ Own w' (t.marked 1) (tmCells op n s a len len) fp ∧ Only fp w w') :=
      fun a w fp ho hnd => mark_any t op n s a len len 1 w fp ho hnd (Nat.le_refl _) (unhide HXZ)
    have h9g : Hid (∀ (op n : Int) (s : ByteArray) (a : Option Addr) (len cap : Nat) (w : World) (fp : List Nat), Own w P (tmCells op n s a len cap) fp → fp.Nodup →
        Calls Tryz.prog 45 #[.agg #[.string h, .int .i64 op, .int .i64 n, .string s, .slice a len cap, .int .i64 v], .int .i64 1] w fun e w' => e = .returned (.int .i64 ((1 + 3 * Tm.sizes P.kids : Nat) : Int)) ∧ Own w' (P.marked 1) (tmCells op n s a len cap) fp ∧ Only fp w w') :=
      fun op n s a len cap w fp ho hnd => markC P h op n s a len cap v w fp ho hnd (unhide HTZ)
    have h10 : Hid (∀ (op n : Int) (s : ByteArray) (a : Option Addr) (len cap : Nat) (w : World), Lies w 0 (P.marked 1) (tmCells op n s a len cap) →
        Calls Tryz.prog 50 #[.agg #[.string h, .int .i64 op, .int .i64 n, .string s, .slice a len cap, .int .i64 v], .int .i64 1] w fun e w' => e = .returned (.int .i64 ((1 + 3 * Tm.sizes P.kids : Nat) : Int)) ∧ Below w.heap.size w w') :=
      fun op n s a len cap w hl => heldC P h op n s a len cap v w hl (unhide HTZ)
    have hmb : (1 + 3 * Tm.sizes P.kids : Nat) ≤ 4194304 := by have := unhide HKP; omega
    have hkb : (1 + 3 * Tm.sizes t.kids : Nat) ≤ 4194304 := by have := size_kids t; omega
    have hBB : (B != B) = false := by simp
    clear hZ hsz hsz2 HKP hPZ
    generalize 1 + 3 * Tm.sizes P.kids = mG at *
    generalize 1 + 3 * Tm.sizes t.kids = mX at *
    obtain ⟨left, hgl⟩ : ∃ left : Int, (1048576 : Int) - t.wt = left := ⟨_, rfl⟩
    have hln : 0 ≤ left := by omega
    go_enter Tryz.func6, Tryz.ntmps6
    go_wp2_with fail
    refine (unhide h11 op n s a len cap _ _ (unhide HL) (by omega) (by omega)).mono ?_
    rintro e w1 ⟨rfl, hb1⟩
    rw [szv_yes hw, hgl]
    have HA1 := hide ((unhide HA).below hb1)
    have HL1 := hide ((unhide HL).below hb1)
    have HB1 := hide (bt (unhide HB0) hb1 (Nat.le_refl _))
    clear hb1 HL HB0 HA hgl hw h11
    obtain ⟨c0, c1, c2, c3⟩ := (unhide HA1).facts
    go_wp2_with fail
    refine (unhide h13 a cap _ (unhide HL1)).mono ?_
    rintro e w2 ⟨a2, f2, rfl, hO2, _, hb2⟩
    have HA2 := hide ((unhide HA1).below hb2)
    have HL2 := hide ((unhide HL1).below hb2)
    have HB2 := hide (bt (unhide HB1) hb2 (Nat.le_refl _))
    have HO2 := hide hO2.lies0
    clear hb2 hO2 HA1 HL1 HB1 c0 c1 c2 c3
    go_wp2_with fail
    refine (unhide h15 a2 len _ (unhide HO2)).mono ?_
    rintro e w3 ⟨opW, nW, sW, aW, lenW, capW, rfl, hL3, hb3⟩
    have HA3 := hide ((unhide HA2).below hb3)
    have HL3 := hide ((unhide HL2).below hb3)
    have HB3 := hide (bt (unhide HB2) hb3 (Nat.le_refl _))
    have HW3 := hide hL3
    clear hb3 hL3 HA2 HL2 HB2 HO2
    have HVB := hide (bt (unhide HB3) (ab (.cells #[.string h, .int .i64 opW, .int .i64 nW, .string sW, .slice aW lenW capW, .int .i64 v] 57)) (Nat.le_refl _))
    have HVA := hide ((unhide HA3).below (ab (.cells #[.string h, .int .i64 opW, .int .i64 nW, .string sW, .slice aW lenW capW, .int .i64 v] 57)))
    have HVW := hide (RowC.new 57 w3 h opW nW sW aW lenW capW v)
    have HVLA := hide ((unhide HL3).below (ab (.cells #[.string h, .int .i64 opW, .int .i64 nW, .string sW, .slice aW lenW capW, .int .i64 v] 57)))
    have HVLW := hide ((unhide HW3).below (ab (.cells #[.string h, .int .i64 opW, .int .i64 nW, .string sW, .slice aW lenW capW, .int .i64 v] 57)))
    obtain ⟨c0, c1, c2, c3⟩ := (unhide HVA).facts
    clear HA3 HL3 HB3 HW3
    go_wp2_with fail
    generalize hV1 : w3.alloc (.cells #[.string h, .int .i64 opW, .int .i64 nW, .string sW, .slice aW lenW capW, .int .i64 v] 57) = V1 at *
    generalize w3.heap.size = bW at *
    clear hV1
    refine (unhide h13 a cap _ (unhide HVLA)).mono ?_
    rintro e w4 ⟨a4, f4, rfl, hO4, ⟨hnd4, hge4⟩, hb4⟩
    have HND4 := hide hnd4
    have HGE4 := hide hge4
    have HLT4 := hide (Own.lt _ _ _ hO4)
    have hb4' := bt hb4 (ab (.cells #[.int .i64 op, .int .i64 n, .string s, .slice a4 len len] 29)) (Nat.le_refl _)
    have HV2 := hide hb4'
    have HXR := hide (RowT.new 29 w4 op n s a4 len len)
    have HXO := hide (hO4.below (ab (.cells #[.int .i64 op, .int .i64 n, .string s, .slice a4 len len] 29)))
    clear hO4 hnd4 hge4 hb4 hb4' c0 c1 c2 c3
    obtain ⟨c0, c1, c2, c3⟩ := (unhide HXR).facts
    go_wp2_with fail
    generalize hV2 : w4.alloc (.cells #[.int .i64 op, .int .i64 n, .string s, .slice a4 len len] 29) = V2 at *
    have HGX : Hid (w4.heap.size + 1 = V2.heap.size) := by show _ = _; rw [← hV2, heap_size_alloc]
    generalize w4.heap.size = bX at *
    clear hV2
    have hVV := bt (unhide HVB) (unhide HV2) (Nat.le_refl _)
    refine (unhide h16 a4 len _ (unhide HXO).lies0 ((unhide HER).on hVV) ((unhide HVR).on hVV) ((unhide HTB).on hVV)).mono ?_
    rintro e w5 ⟨opG, nG, sG, aG, lenG, capG, f5, rfl, hO5, ⟨hnd5, hge5⟩, hb5⟩
    have HND5 := hide hnd5
    have HGE5 := hide hge5
    have HLT5 := hide (Own.lt _ _ _ hO5)
    have HBG := hide hb5.size
    have hb5' := bt hb5 (ab (.cells #[.string h, .int .i64 opG, .int .i64 nG, .string sG, .slice aG lenG capG, .int .i64 v] 57)) (Nat.le_refl _)
    have HV3 := hide hb5'
    have HV13 := hide (bt (unhide HV2) hb5' (Nat.le_refl _))
    have HGR := hide (RowC.new 57 w5 h opG nG sG aG lenG capG v)
    have HGO := hide (hO5.below (ab (.cells #[.string h, .int .i64 opG, .int .i64 nG, .string sG, .slice aG lenG capG, .int .i64 v] 57)))
    clear hVV hO5 hnd5 hge5 hb5 hb5' c0 c1 c2 c3
    obtain ⟨c0, c1, c2, c3, c4, c5⟩ := (unhide HGR).facts
    obtain ⟨d0, d1, d2, d3, d4, d5⟩ := ((unhide HVW).below (unhide HV13)).facts
    go_wp2_with fail
    generalize hV3 : w5.alloc (.cells #[.string h, .int .i64 opG, .int .i64 nG, .string sG, .slice aG lenG capG, .int .i64 v] 57) = V3 at *
    have HGG : Hid (w5.heap.size + 1 = V3.heap.size) := by show _ = _; rw [← hV3, heap_size_alloc]
    generalize w5.heap.size = bG at *
    clear hV3
    refine (unhide h9 opG nG sG aG lenG capG opW nW sW aW lenW capW _ (unhide HGO).lies0 ((unhide HVLW).below (unhide HV13))).mono ?_
    rintro e w6 ⟨rfl, hb6⟩
    have HV16 := hide (bt (unhide HV13) hb6 (Nat.le_refl _))
    have HV26 := hide (bt (unhide HV3) hb6 (Nat.le_refl _))
    have HGR6 := hide ((unhide HGR).below hb6)
    have HGO6 := hide ((unhide HGO).below hb6)
    clear hb6 c0 c1 c2 c3 c4 c5 d0 d1 d2 d3 d4 d5 HV13 HV3 HGR HGO
    obtain ⟨c0, c1, c2, c3⟩ := ((unhide HXR).below (unhide HV26)).facts
    obtain ⟨d0, d1, d2, d3⟩ := ((unhide HVA).below (unhide HV16)).facts
    have HLA6 := hide ((unhide HVLA).below (unhide HV16).drew)
    have HXO6 := hide ((unhide HXO).below (unhide HV26).drew)
    go_wp2_with fail
    go_region_held3 (fun x => x.cell? ⟨bX, 0, none⟩ = some (.int .i64 op) ∧ x.cell? ⟨bX, 1, none⟩ = some (.int .i64 n) ∧ x.cell? ⟨bX, 2, none⟩ = some (.string s) ∧ x.cell? ⟨bX, 3, none⟩ = some (.slice a4 len len) ∧
        x.cell? ⟨w.heap.size, 0, none⟩ = some (.int .i64 op) ∧ x.cell? ⟨w.heap.size, 1, none⟩ = some (.int .i64 n) ∧ x.cell? ⟨w.heap.size, 2, none⟩ = some (.string s) ∧ x.cell? ⟨w.heap.size, 3, none⟩ = some (.slice a len cap)) (go_keep)
      (first
        | (go_at_call 11
           refine (unhide h13 a cap _ (unhide HLA6)).mono ?_
           rintro e w7 ⟨a7, f7, rfl, hO7, _, hb7⟩
           have hb7' := hide (below_drew' hb7)
           have HO7 := hide hO7.lies0
           have HX7 := hide ((unhide HXO6).below hb7).lies0
           have f0 := kpc (unhide hb7') c0
           have f1 := kpc (unhide hb7') c1
           have f2 := kpc (unhide hb7') c2
           have f3 := kpc (unhide hb7') c3
           have e0 := kpc (unhide hb7') d0
           have e1 := kpc (unhide hb7') d1
           have e2 := kpc (unhide hb7') d2
           have e3 := kpc (unhide hb7') d3)
        | (go_at_call 13
           refine (unhide h8 t op n s a4 len len op n s a7 len len _ (unhide HX7) (unhide HO7)).mono ?_
           rintro e w8 ⟨rfl, hb8⟩
           have g0 := kpc hb8 f0
           have g1 := kpc hb8 f1
           have g2 := kpc hb8 f2
           have g3 := kpc hb8 f3
           have i0 := kpc hb8 e0
           have i1 := kpc hb8 e1
           have i2 := kpc hb8 e2
           have i3 := kpc hb8 e3
           have hb8' := hide hb8))
    have HV18 := hide (bt (bt (unhide HV16) (unhide hb7') (Nat.le_refl _)) (unhide hb8') (Nat.le_refl _))
    have HGR8 := hide (((unhide HGR6).below (unhide hb7')).below (unhide hb8'))
    have HGO8 := hide (((unhide HGO6).below (unhide hb7')).below (unhide hb8'))
    have HXO8 := hide (((unhide HXO).below (unhide HV26)).below (unhide hb7') |>.below (unhide hb8'))
    clear f0 f1 f2 f3 e0 e1 e2 e3 c0 c1 c2 c3 d0 d1 d2 d3 HV16 HV26 HGR6 HGO6 HXO6 HLA6 hb7' hb8' HO7 HX7
    go_wp2_with fail
    refine (unhide h9x a4 _ _ (unhide HXO8) (unhide HND4)).mono ?_
    rintro e w9 ⟨rfl, _, o9⟩
    have HV19 := hide ((unhide HV18).trans (o9.below (unhide HV18).size (unhide HGE4)))
    have HGR9 := hide ((unhide HGR8).only o9 (fun hx => by have := unhide HLT4 _ hx; have := unhide HBG; have := unhide HGX; omega))
    have HGO9 := hide ((unhide HGO8).only o9 (fun x hx hx4 => by have := unhide HLT4 _ hx4; have := unhide HGE5 _ hx; have := unhide HGX; omega))
    clear o9 HV18 HGR8 HGO8 HXO8 g0 g1 g2 g3 i0 i1 i2 i3
    obtain ⟨c0, c1, c2, c3, c4, c5⟩ := (unhide HGR9).facts
    obtain ⟨d0, d1, d2, d3, d4, d5⟩ := ((unhide HVW).below (unhide HV19)).facts
    go_wp2_with fail
    refine (unhide h9 opG nG sG aG lenG capG opW nW sW aW lenW capW _ (unhide HGO9).lies0 ((unhide HVLW).below (unhide HV19))).mono ?_
    rintro e w10 ⟨rfl, hb10⟩
    have HV20 := hide (bt (unhide HV19) hb10 (Nat.le_refl _))
    have HGR10 := hide ((unhide HGR9).below hb10)
    have HGO10 := hide ((unhide HGO9).below hb10)
    clear hb10 HV19 HGR9 HGO9 c0 c1 c2 c3 c4 c5 d0 d1 d2 d3 d4 d5
    obtain ⟨c0, c1, c2, c3, c4, c5⟩ := (unhide HGR10).facts
    go_wp2_with fail
    refine (unhide h9g opG nG sG aG lenG capG _ _ (unhide HGO10) (unhide HND5)).mono ?_
    rintro e w11 ⟨rfl, k11, o11⟩
    have HV21 := hide ((unhide HV20).trans (o11.below (unhide HV20).size (fun x hx => by have := unhide HGE5 _ hx; have := (unhide HV2).size; omega)))
    have HGR11 := hide ((unhide HGR10).only o11 (fun hx => by have := unhide HLT5 _ hx; omega))
    have HGO11 := hide k11.lies0
    clear o11 k11 HV20 HGR10 HGO10 c0 c1 c2 c3 c4 c5
    obtain ⟨c0, c1, c2, c3, c4, c5⟩ := (unhide HGR11).facts
    go_wp2_with fail
    refine (unhide h10 opG nG sG aG lenG capG _ (unhide HGO11)).mono ?_
    rintro e w12 ⟨rfl, hb12⟩
    have HV22 := hide (bt (unhide HV21) hb12 (Nat.le_refl _))
    have HGR12 := hide ((unhide HGR11).below hb12)
    have HGO12 := hide ((unhide HGO11).below hb12)
    clear hb12 HV21 HGR11 HGO11 c0 c1 c2 c3 c4 c5
    obtain ⟨d0, d1, d2, d3⟩ := ((unhide HVA).below (unhide HV22)).facts
    go_wp2_with fail
    refine (unhide h13 a cap _ ((unhide HVLA).below (unhide HV22))).mono ?_
    rintro e w13 ⟨a13, f13, rfl, hO13, _, hb13⟩
    have HV23 := hide (bt (unhide HV22) hb13 (Nat.le_refl _))
    have HGR13 := hide ((unhide HGR12).below hb13)
    have HGO13 := hide ((unhide HGO12).below hb13)
    have HO13 := hide hO13.lies0
    clear hb13 hO13 HV22 HGR12 HGO12 d0 d1 d2 d3
    have hVV := bt (unhide HVB) (unhide HV23) (Nat.le_refl _)
    have HE13 := hide ((unhide HER).on hVV)
    have HR13 := hide ((unhide HVR).on hVV)
    have HT13 := hide ((unhide HTB).on hVV)
    clear hVV
    go_wp2_with fail
    refine (unhide h16 a13 len _ (unhide HO13) (unhide HE13) (unhide HR13) (unhide HT13)).mono ?_
    rintro e w14 ⟨opH, nH, sH, aH, lenH, capH, f14, rfl, hO14, _, hb14⟩
    have hb14' := bt hb14 (ab (.cells #[.string h, .int .i64 opH, .int .i64 nH, .string sH, .slice aH lenH capH, .int .i64 v] 57)) (Nat.le_refl _)
    have HV24 := hide (bt (unhide HV23) hb14' (Nat.le_refl _))
    have HGR14 := hide ((unhide HGR13).below hb14')
    have HGO14 := hide ((unhide HGO13).below hb14')
    have HHO := hide (hO14.below (ab (.cells #[.string h, .int .i64 opH, .int .i64 nH, .string sH, .slice aH lenH capH, .int .i64 v] 57))).lies0
    clear hb14 hb14' hO14 HV23 HGR13 HGO13 HO13
    obtain ⟨c0, c1, c2, c3, c4, c5⟩ := (RowC.new 57 w14 h opH nH sH aH lenH capH v).facts
    obtain ⟨d0, d1, d2, d3, d4, d5⟩ := ((unhide HVW).below (unhide HV24)).facts
    go_wp2_with fail
    refine (unhide h9 opH nH sH aH lenH capH opW nW sW aW lenW capW _ (unhide HHO) ((unhide HVLW).below (unhide HV24))).mono ?_
    rintro e w15 ⟨rfl, hb15⟩
    have HV25 := hide (bt (unhide HV24) hb15 (Nat.le_refl _))
    have HGR15 := hide ((unhide HGR14).below hb15)
    have HGO15 := hide ((unhide HGO14).below hb15)
    clear hb15 HV24 HGR14 HGO14 HHO c0 c1 c2 c3 c4 c5 d0 d1 d2 d3 d4 d5
    obtain ⟨c0, c1, c2, c3, c4, c5⟩ := (unhide HGR15).facts
    go_wp2_with fail
    refine (unhide h10 opG nG sG aG lenG capG _ (unhide HGO15)).mono ?_
    rintro e w16 ⟨rfl, hb16⟩
    have HV26 := hide (bt (unhide HV25) hb16 (Nat.le_refl _))
    clear hb16 c0 c1 c2 c3 c4 c5
    go_wp2_with fail
    go_ret
    exact ⟨rfl, (unhide HVB).trans ((unhide HV26).mono (unhide HVB).size)⟩
  · go_enter Tryz.func6, Tryz.ntmps6
    go_wp2_with fail
    refine (unhide h11 op n s a len cap _ _ (unhide HL) (by omega) (by omega)).mono ?_
    rintro e w2 ⟨rfl, hb2⟩
    rw [szv_no (by omega)]
    go_wp2_with fail
    go_ret
    exact ⟨rfl, bt (unhide HB0) hb2 (Nat.le_refl _)⟩

set_option maxRecDepth 100000 in
set_option maxHeartbeats 2000000 in
theorem goodP_no1 (op2 n2 : Int) (s2 : ByteArray) (a2 : Option Addr) (len2 cap2 : Nat) (hs : ByteArray) (m : Int) (x : Addr) (w : World) (hr : ∀ W, Below w.heap.size w W → Calls Tryz.prog 108 #[.agg #[.int .i64 op2, .int .i64 n2, .string s2, .slice a2 len2 cap2]] W fun e w' => Below W.heap.size W w' ∧ e = .returned (.tuple #[zeroC, .iface 202 (.pointer (some x))])) :
    Calls Tryz.prog 97 #[.agg #[.int .i64 op2, .int .i64 n2, .string s2, .slice a2 len2 cap2], .string hs, .int .i64 m] w fun e w' => e = .returned (.tuple #[.agg #[.int .i64 0, .int .i64 0, .string ByteArray.empty, .slice none 0 0], .iface 202 (.pointer (some x))]) ∧ Below w.heap.size w w' := by
  have h26 := hide hr
  unfold zeroC at h26
  have hB0 : Below w.heap.size w ((w.alloc (.cells #[.int .i64 op2, .int .i64 n2, .string s2, .slice a2 len2 cap2] 29)).alloc (.cells #[.int .i64 0, .int .i64 0, .string ByteArray.empty, .slice none 0 0] 29)) := bt (ab _) (ab _) (Nat.le_refl _)
  have HX : Hid (ZBox ((w.alloc (.cells #[.int .i64 op2, .int .i64 n2, .string s2, .slice a2 len2 cap2] 29)).alloc (.cells #[.int .i64 0, .int .i64 0, .string ByteArray.empty, .slice none 0 0] 29)) (w.heap.size + 1)) := by
    have := ZBox.new (w.alloc (.cells #[.int .i64 op2, .int .i64 n2, .string s2, .slice a2 len2 cap2] 29))
    rwa [heap_size_alloc] at this
  have HB0 := hide hB0
  clear hB0 hr
  go_enter Tryz.func97, Tryz.ntmps97
  go_wp2_with fail
  refine (unhide h26 _ (unhide HB0)).mono ?_
  rintro e w2 ⟨hb2, rfl⟩
  have hb2' := bt hb2 (ab (.cells #[.string ByteArray.empty, .int .i64 0, .int .i64 0, .string ByteArray.empty, .slice none 0 0, .int .i64 0] 57)) (Nat.le_refl _)
  have HB2 := hide (bt (unhide HB0) hb2' (Nat.le_refl _))
  obtain ⟨p0, p1, p2, p3, q0, q1, q2, q3⟩ := ((unhide HX).below hb2').facts
  obtain ⟨p0', p1', p2', p3', q0', q1', q2', q3'⟩ := ((unhide HX).below hb2).facts
  have hlX := lt_of_cell p0'
  have nX := Nat.ne_of_lt hlX
  have mX := Ne.symm nX
  have HX2 := hide ((unhide HX).below hb2)
  have HB2 := hide (bt (unhide HB0) hb2 (Nat.le_refl _))
  clear hb2 hb2'
  go_wp2_with fail
  have HF := hide ((fill26 (unhide HX2) 0 0 ⟨#[]⟩ none 0 0).below (ab (.cells #[.string ByteArray.empty, .int .i64 0, .int .i64 0, .string ByteArray.empty, .slice none 0 0, .int .i64 0] 57)))
  obtain ⟨f0, f1, f2, f3⟩ := (unhide HF).facts
  refine bodyPost_ret (v := .tuple #[.agg #[.int .i64 0, .int .i64 0, .string ByteArray.empty, .slice none 0 0], .iface 202 (.pointer (some x))]) (by simp [results, Tryz.results97, go_sem, f0, f1, f2, f3]; try rfl) rfl ⟨rfl, ?_⟩
  exact (set4_below (unhide HB2) (by omega)).alloc (by simp only [set_size]; exact (unhide HB2).size) _

set_option maxRecDepth 100000 in
set_option maxHeartbeats 2000000 in
theorem goodP_no2 (op2 n2 : Int) (s2 : ByteArray) (a2 : Option Addr) (len2 cap2 : Nat) (hs : ByteArray) (m : Int) (x : Addr) (w : World) (he : ErrAt x w) (h : ByteArray) (p : Tm) (v : Int) (hh : h ≠ hs) (hr : ∀ W, Below w.heap.size w W → Calls Tryz.prog 108 #[.agg #[.int .i64 op2, .int .i64 n2, .string s2, .slice a2 len2 cap2]] W fun e w' => Below W.heap.size W w' ∧ ∃ op n s a len cap, e = .returned (.tuple #[.agg #[.string h, .int .i64 op, .int .i64 n, .string s, .slice a len cap, .int .i64 v], .nilIface]) ∧ Lies w 0 p (tmCells op n s a len cap)) :
    Calls Tryz.prog 97 #[.agg #[.int .i64 op2, .int .i64 n2, .string s2, .slice a2 len2 cap2], .string hs, .int .i64 m] w fun e w' => e = .returned (.tuple #[.agg #[.int .i64 0, .int .i64 0, .string ByteArray.empty, .slice none 0 0], .iface 202 (.pointer (some x))]) ∧ Below w.heap.size w w' := by
  have q9 : (h.toList == hs.toList) = false := by rw [beq_eq_false_iff_ne]; intro e; exact hh (toList_inj e)
  clear hh
  have h26 := hide hr
  have hB0 : Below w.heap.size w ((w.alloc (.cells #[.int .i64 op2, .int .i64 n2, .string s2, .slice a2 len2 cap2] 29)).alloc (.cells #[.int .i64 0, .int .i64 0, .string ByteArray.empty, .slice none 0 0] 29)) := bt (ab _) (ab _) (Nat.le_refl _)
  have HX : Hid (ZBox ((w.alloc (.cells #[.int .i64 op2, .int .i64 n2, .string s2, .slice a2 len2 cap2] 29)).alloc (.cells #[.int .i64 0, .int .i64 0, .string ByteArray.empty, .slice none 0 0] 29)) (w.heap.size + 1)) := by
    have := ZBox.new (w.alloc (.cells #[.int .i64 op2, .int .i64 n2, .string s2, .slice a2 len2 cap2] 29))
    rwa [heap_size_alloc] at this
  have HB0 := hide hB0
  have HER := hide (he.on hB0)
  clear hB0 hr he
  go_enter Tryz.func97, Tryz.ntmps97
  go_wp2_with fail
  refine (unhide h26 _ (unhide HB0)).mono ?_
  rintro e w2 ⟨hb2, op, n, s, a, len, cap, rfl, hL2⟩
  have HB2 := hide (bt (unhide HB0) hb2 (Nat.le_refl _))
  have HX2 := hide ((unhide HX).below hb2)
  have HER2 := hide ((unhide HER).on (bt hb2 (ab (.cells #[.string h, .int .i64 op, .int .i64 n, .string s, .slice a len cap, .int .i64 v] 57)) (Nat.le_refl _)))
  have HL2 := hide hL2
  have HXL : Hid (w.heap.size + 1 < w2.heap.size) := lt_of_heap (unhide HX2)
  obtain ⟨p0, p1, p2, p3, q0, q1, q2, q3⟩ := (unhide HX2).facts
  have g0 := (unhide HER2).cell
  have hlX := lt_of_cell p0
  have nX := Nat.ne_of_lt hlX
  have mX := Ne.symm nX
  have hne : (w.heap.size + 1 = 0) = False := by simp
  have hne' : (0 = w.heap.size + 1) = False := by simp
  clear hb2 hL2
  go_wp2_with fail
  generalize hV2 : w2.alloc (.cells #[.string h, .int .i64 op, .int .i64 n, .string s, .slice a len cap, .int .i64 v] 57) = V2 at *
  have HXV : Hid (ZBox V2 (w.heap.size + 1)) := by rw [← hV2]; exact (unhide HX2).below (ab _)
  have HBV : Hid (Below w.heap.size w V2) := by rw [← hV2]; exact bt (unhide HB2) (ab _) (Nat.le_refl _)
  clear p0 p1 p2 p3 q0 q1 q2 q3
  obtain ⟨p0, p1, p2, p3, q0, q1, q2, q3⟩ := (unhide HXV).facts
  clear hV2
  go_region
  all_goals go_wp2_with fail
  all_goals exact bodyPost_ret (v := .tuple #[.agg #[.int .i64 0, .int .i64 0, .string ByteArray.empty, .slice none 0 0], .iface 202 (.pointer (some x))]) (by simp [results, Tryz.results97, go_sem, p0, p1, p2, p3]; try rfl) rfl ⟨rfl, by first | exact (set4_below (unhide HBV) (by omega)).drew | exact set4_below (unhide HBV) (by omega)⟩

set_option maxRecDepth 100000 in
set_option maxHeartbeats 2000000 in
theorem goodP_no3 (op2 n2 : Int) (s2 : ByteArray) (a2 : Option Addr) (len2 cap2 : Nat) (hs : ByteArray) (m : Int) (x : Addr) (w : World) (he : ErrAt x w) (h : ByteArray) (p : Tm) (v : Int) (hh : h = hs) (hm : v < m) (hr : ∀ W, Below w.heap.size w W → Calls Tryz.prog 108 #[.agg #[.int .i64 op2, .int .i64 n2, .string s2, .slice a2 len2 cap2]] W fun e w' => Below W.heap.size W w' ∧ ∃ op n s a len cap, e = .returned (.tuple #[.agg #[.string h, .int .i64 op, .int .i64 n, .string s, .slice a len cap, .int .i64 v], .nilIface]) ∧ Lies w 0 p (tmCells op n s a len cap)) :
    Calls Tryz.prog 97 #[.agg #[.int .i64 op2, .int .i64 n2, .string s2, .slice a2 len2 cap2], .string hs, .int .i64 m] w fun e w' => e = .returned (.tuple #[.agg #[.int .i64 0, .int .i64 0, .string ByteArray.empty, .slice none 0 0], .iface 202 (.pointer (some x))]) ∧ Below w.heap.size w w' := by
  have q9 : (h.toList == hs.toList) = true := by rw [hh]; simp
  clear hh
  have h26 := hide hr
  have hB0 : Below w.heap.size w ((w.alloc (.cells #[.int .i64 op2, .int .i64 n2, .string s2, .slice a2 len2 cap2] 29)).alloc (.cells #[.int .i64 0, .int .i64 0, .string ByteArray.empty, .slice none 0 0] 29)) := bt (ab _) (ab _) (Nat.le_refl _)
  have HX : Hid (ZBox ((w.alloc (.cells #[.int .i64 op2, .int .i64 n2, .string s2, .slice a2 len2 cap2] 29)).alloc (.cells #[.int .i64 0, .int .i64 0, .string ByteArray.empty, .slice none 0 0] 29)) (w.heap.size + 1)) := by
    have := ZBox.new (w.alloc (.cells #[.int .i64 op2, .int .i64 n2, .string s2, .slice a2 len2 cap2] 29))
    rwa [heap_size_alloc] at this
  have HB0 := hide hB0
  have HER := hide (he.on hB0)
  clear hB0 hr he
  go_enter Tryz.func97, Tryz.ntmps97
  go_wp2_with fail
  refine (unhide h26 _ (unhide HB0)).mono ?_
  rintro e w2 ⟨hb2, op, n, s, a, len, cap, rfl, hL2⟩
  have HB2 := hide (bt (unhide HB0) hb2 (Nat.le_refl _))
  have HX2 := hide ((unhide HX).below hb2)
  have HER2 := hide ((unhide HER).on (bt hb2 (ab (.cells #[.string h, .int .i64 op, .int .i64 n, .string s, .slice a len cap, .int .i64 v] 57)) (Nat.le_refl _)))
  have HL2 := hide hL2
  have HXL : Hid (w.heap.size + 1 < w2.heap.size) := lt_of_heap (unhide HX2)
  obtain ⟨p0, p1, p2, p3, q0, q1, q2, q3⟩ := (unhide HX2).facts
  have g0 := (unhide HER2).cell
  have hlX := lt_of_cell p0
  have nX := Nat.ne_of_lt hlX
  have mX := Ne.symm nX
  have hne : (w.heap.size + 1 = 0) = False := by simp
  have hne' : (0 = w.heap.size + 1) = False := by simp
  clear hb2 hL2
  go_wp2_with fail
  generalize hV2 : w2.alloc (.cells #[.string h, .int .i64 op, .int .i64 n, .string s, .slice a len cap, .int .i64 v] 57) = V2 at *
  have HXV : Hid (ZBox V2 (w.heap.size + 1)) := by rw [← hV2]; exact (unhide HX2).below (ab _)
  have HBV : Hid (Below w.heap.size w V2) := by rw [← hV2]; exact bt (unhide HB2) (ab _) (Nat.le_refl _)
  clear p0 p1 p2 p3 q0 q1 q2 q3
  obtain ⟨p0, p1, p2, p3, q0, q1, q2, q3⟩ := (unhide HXV).facts
  clear hV2
  go_region
  all_goals go_wp2_with fail
  all_goals exact bodyPost_ret (v := .tuple #[.agg #[.int .i64 0, .int .i64 0, .string ByteArray.empty, .slice none 0 0], .iface 202 (.pointer (some x))]) (by simp [results, Tryz.results97, go_sem, p0, p1, p2, p3]; try rfl) rfl ⟨rfl, by first | exact (set4_below (unhide HBV) (by omega)).drew | exact set4_below (unhide HBV) (by omega)⟩

set_option maxRecDepth 100000 in
set_option maxHeartbeats 2000000 in
theorem goodP_yes (op2 n2 : Int) (s2 : ByteArray) (a2 : Option Addr) (len2 cap2 : Nat) (hs : ByteArray) (m : Int) (x : Addr) (w : World) (he : ErrAt x w) (h : ByteArray) (p : Tm) (v : Int) (hh : h = hs) (hm : ¬ v < m) (hr : ∀ W, Below w.heap.size w W → Calls Tryz.prog 108 #[.agg #[.int .i64 op2, .int .i64 n2, .string s2, .slice a2 len2 cap2]] W fun e w' => Below W.heap.size W w' ∧ ∃ op n s a len cap, e = .returned (.tuple #[.agg #[.string h, .int .i64 op, .int .i64 n, .string s, .slice a len cap, .int .i64 v], .nilIface]) ∧ Lies w 0 p (tmCells op n s a len cap)) :
    Calls Tryz.prog 97 #[.agg #[.int .i64 op2, .int .i64 n2, .string s2, .slice a2 len2 cap2], .string hs, .int .i64 m] w fun e w' => ∃ op n s a len cap, e = .returned (.tuple #[.agg #[.int .i64 op, .int .i64 n, .string s, .slice a len cap], .nilIface]) ∧ Lies w' 0 p (tmCells op n s a len cap) ∧ Below w.heap.size w w' := by
  have q9 : (h.toList == hs.toList) = true := by rw [hh]; simp
  clear hh
  have h26 := hide hr
  have hB0 : Below w.heap.size w ((w.alloc (.cells #[.int .i64 op2, .int .i64 n2, .string s2, .slice a2 len2 cap2] 29)).alloc (.cells #[.int .i64 0, .int .i64 0, .string ByteArray.empty, .slice none 0 0] 29)) := bt (ab _) (ab _) (Nat.le_refl _)
  have HX : Hid (ZBox ((w.alloc (.cells #[.int .i64 op2, .int .i64 n2, .string s2, .slice a2 len2 cap2] 29)).alloc (.cells #[.int .i64 0, .int .i64 0, .string ByteArray.empty, .slice none 0 0] 29)) (w.heap.size + 1)) := by
    have := ZBox.new (w.alloc (.cells #[.int .i64 op2, .int .i64 n2, .string s2, .slice a2 len2 cap2] 29))
    rwa [heap_size_alloc] at this
  have HB0 := hide hB0
  have HER := hide (he.on hB0)
  clear hB0 hr he
  go_enter Tryz.func97, Tryz.ntmps97
  go_wp2_with fail
  refine (unhide h26 _ (unhide HB0)).mono ?_
  rintro e w2 ⟨hb2, op, n, s, a, len, cap, rfl, hL2⟩
  have HB2 := hide (bt (unhide HB0) hb2 (Nat.le_refl _))
  have HX2 := hide ((unhide HX).below hb2)
  have HER2 := hide ((unhide HER).on (bt hb2 (ab (.cells #[.string h, .int .i64 op, .int .i64 n, .string s, .slice a len cap, .int .i64 v] 57)) (Nat.le_refl _)))
  have HL2 := hide hL2
  have HXL : Hid (w.heap.size + 1 < w2.heap.size) := lt_of_heap (unhide HX2)
  obtain ⟨p0, p1, p2, p3, q0, q1, q2, q3⟩ := (unhide HX2).facts
  have g0 := (unhide HER2).cell
  have hlX := lt_of_cell p0
  have nX := Nat.ne_of_lt hlX
  have mX := Ne.symm nX
  have hne : (w.heap.size + 1 = 0) = False := by simp
  have hne' : (0 = w.heap.size + 1) = False := by simp
  clear hb2 hL2
  have hpV := hide (RowC.new 57 w2 h op n s a len cap v)
  go_wp2_with fail
  have HF := hide ((fill26 (unhide HX2) op n s a len cap).below (ab (.cells #[.string h, .int .i64 op, .int .i64 n, .string s, .slice a len cap, .int .i64 v] 57)))
  obtain ⟨f0, f1, f2, f3⟩ := (unhide HF).facts
  refine bodyPost_ret (v := .tuple #[.agg #[.int .i64 op, .int .i64 n, .string s, .slice a len cap], .nilIface]) (by simp [results, Tryz.results97, go_sem, f0, f1, f2, f3]; try rfl) rfl ⟨op, n, s, a, len, cap, rfl, ?_, ?_⟩
  · exact (unhide HL2).below ((set4_below (unhide HB2) (by omega)).alloc (by simp only [set_size]; exact (unhide HB2).size) _)
  · exact (set4_below (unhide HB2) (by omega)).alloc (by simp only [set_size]; exact (unhide HB2).size) _

set_option maxRecDepth 100000 in
set_option maxHeartbeats 2000000 in
theorem goodI_yes (op2 n2 : Int) (s2 : ByteArray) (a2 : Option Addr) (len2 cap2 : Nat) (hs : ByteArray) (m : Int) (x : Addr) (w : World) (he : ErrAt x w) (p : Tm) (hp : p.size + p.wt ≤ 4194304)
    (h30 : ∀ W, Below w.heap.size w W → Calls Tryz.prog 97 #[.agg #[.int .i64 op2, .int .i64 n2, .string s2, .slice a2 len2 cap2], .string hs, .int .i64 m] W fun e w' => ∃ op n s a len cap, e = .returned (.tuple #[.agg #[.int .i64 op, .int .i64 n, .string s, .slice a len cap], .nilIface]) ∧ Lies w' 0 p (tmCells op n s a len cap) ∧ Below W.heap.size W w') :
    Calls Tryz.prog 35 #[.agg #[.int .i64 op2, .int .i64 n2, .string s2, .slice a2 len2 cap2], .string hs, .int .i64 m] w fun e w' => ∃ op n s a len cap fp, e = .returned (.tuple #[.agg #[.int .i64 op, .int .i64 n, .string s, .slice a len cap], .bool true]) ∧ Own w' p (tmCells op n s a len cap) fp ∧ (fp.Nodup ∧ ∀ y ∈ fp, w.heap.size ≤ y) ∧ Below w.heap.size w w' := by
  have H30 := hide h30
  clear h30
  have hB0 : Below w.heap.size w ((w.alloc (.cells #[.int .i64 op2, .int .i64 n2, .string s2, .slice a2 len2 cap2] 29)).alloc (.cells #[.int .i64 0, .int .i64 0, .string ByteArray.empty, .slice none 0 0] 29)) := bt (ab _) (ab _) (Nat.le_refl _)
  have HX : Hid (ZBox ((w.alloc (.cells #[.int .i64 op2, .int .i64 n2, .string s2, .slice a2 len2 cap2] 29)).alloc (.cells #[.int .i64 0, .int .i64 0, .string ByteArray.empty, .slice none 0 0] 29)) (w.heap.size + 1)) := by
    have := ZBox.new (w.alloc (.cells #[.int .i64 op2, .int .i64 n2, .string s2, .slice a2 len2 cap2] 29))
    rwa [heap_size_alloc] at this
  have HB0 := hide hB0
  have HER := hide (he.on hB0)
  clear hB0 he
  go_enter Tryz.func35, Tryz.ntmps35
  go_wp2_with fail
  refine (unhide H30 _ (unhide HB0)).mono ?_
  rintro e w2 ⟨op, n, s, a, len, cap, rfl, hL2, hb2⟩
  have HB2 := hide (bt (unhide HB0) hb2 (Nat.le_refl _))
  have HX2 := hide ((unhide HX).below hb2)
  have HER2 := hide ((unhide HER).on hb2)
  have HL2 := hide hL2
  have HXL : Hid (w.heap.size + 1 < w2.heap.size) := lt_of_heap (unhide HX2)
  have h27 := hide (fun W hl he => answer_yes p op n s a len cap x W hl hp he)
  clear hb2 hL2 HB0 HX HER H30
  go_wp2_with fail
  refine (unhide h27 _ (unhide HL2) (unhide HER2)).mono ?_
  rintro e w3 ⟨a3, cap3, fp, rfl, hO, ⟨hnd, hge⟩, hb3⟩
  have HB3 := hide (bt (unhide HB2) hb3 (Nat.le_refl _))
  have HO := hide hO
  have HND := hide hnd
  have HGE := hide hge
  obtain ⟨p0, p1, p2, p3, q0, q1, q2, q3⟩ := ((unhide HX2).below hb3).facts
  clear hb3 hO hnd hge
  go_wp2_with fail
  exact bodyPost_ret (v := .tuple #[.agg #[.int .i64 op, .int .i64 n, .string s, .slice a3 len cap3], .bool true]) (by simp [results, Tryz.results35, go_sem, p0, p1, p2, p3]; try rfl) rfl ⟨_, _, _, _, _, _, fp, rfl, Own.keep _ _ _ (unhide HO) (fun b hb => set4_heap _ _ _ _ _ _ b (by have := unhide HGE b hb; have := unhide HXL; omega)), ⟨unhide HND, fun y hy => by have := unhide HGE y hy; have := unhide HXL; omega⟩, set4_below (unhide HB3) (by omega)⟩

set_option maxRecDepth 100000 in
set_option maxHeartbeats 2000000 in
theorem goodI_no (op2 n2 : Int) (s2 : ByteArray) (a2 : Option Addr) (len2 cap2 : Nat) (hs : ByteArray) (m : Int) (x : Addr) (w : World) (he : ErrAt x w)
    (h30 : ∀ W, Below w.heap.size w W → Calls Tryz.prog 97 #[.agg #[.int .i64 op2, .int .i64 n2, .string s2, .slice a2 len2 cap2], .string hs, .int .i64 m] W fun e w' => e = .returned (.tuple #[.agg #[.int .i64 0, .int .i64 0, .string ByteArray.empty, .slice none 0 0], .iface 202 (.pointer (some x))]) ∧ Below W.heap.size W w') :
    Calls Tryz.prog 35 #[.agg #[.int .i64 op2, .int .i64 n2, .string s2, .slice a2 len2 cap2], .string hs, .int .i64 m] w fun e w' => e = .returned (.tuple #[.agg #[.int .i64 0, .int .i64 0, .string ByteArray.empty, .slice none 0 0], .bool false]) ∧ Below w.heap.size w w' := by
  have H30 := hide h30
  clear h30
  have hB0 : Below w.heap.size w ((w.alloc (.cells #[.int .i64 op2, .int .i64 n2, .string s2, .slice a2 len2 cap2] 29)).alloc (.cells #[.int .i64 0, .int .i64 0, .string ByteArray.empty, .slice none 0 0] 29)) := bt (ab _) (ab _) (Nat.le_refl _)
  have HX : Hid (ZBox ((w.alloc (.cells #[.int .i64 op2, .int .i64 n2, .string s2, .slice a2 len2 cap2] 29)).alloc (.cells #[.int .i64 0, .int .i64 0, .string ByteArray.empty, .slice none 0 0] 29)) (w.heap.size + 1)) := by
    have := ZBox.new (w.alloc (.cells #[.int .i64 op2, .int .i64 n2, .string s2, .slice a2 len2 cap2] 29))
    rwa [heap_size_alloc] at this
  have HB0 := hide hB0
  have HER := hide (he.on hB0)
  clear hB0 he
  go_enter Tryz.func35, Tryz.ntmps35
  go_wp2_with fail
  refine (unhide H30 _ (unhide HB0)).mono ?_
  rintro e w2 ⟨rfl, hb2⟩
  have HB2 := hide (bt (unhide HB0) hb2 (Nat.le_refl _))
  have HX2 := hide ((unhide HX).below hb2)
  have HER2 := hide ((unhide HER).on hb2)
  have h27 := hide (fun W he => answer_no 0 0 ByteArray.empty none 0 0 x W he)
  clear hb2 HB0 HX HER H30
  go_wp2_with fail
  refine (unhide h27 _ (unhide HER2)).mono ?_
  rintro e w3 ⟨rfl, hb3⟩
  have HB3 := hide (bt (unhide HB2) hb3 (Nat.le_refl _))
  obtain ⟨p0, p1, p2, p3, q0, q1, q2, q3⟩ := ((unhide HX2).below hb3).facts
  clear hb3
  go_wp2_with fail
  exact bodyPost_ret (v := .tuple #[.agg #[.int .i64 0, .int .i64 0, .string ByteArray.empty, .slice none 0 0], .bool false]) (by simp [results, Tryz.results35, go_sem, p0, p1, p2, p3]; try rfl) rfl ⟨rfl, set4_below (unhide HB3) (by omega)⟩

set_option maxRecDepth 100000 in
set_option maxHeartbeats 2000000 in
theorem goodS_no1 (op2 n2 : Int) (s2 : ByteArray) (a2 : Option Addr) (len2 cap2 : Nat) (hs : ByteArray) (m : Int) (w : World) (h6 : ∀ W, Below w.heap.size w W → Calls Tryz.prog 48 #[.agg #[.int .i64 op2, .int .i64 n2, .string s2, .slice a2 len2 cap2]] W fun e w' => Below W.heap.size W w' ∧ e = .returned (.tuple #[zeroC, .bool false])) :
    Calls Tryz.prog 51 #[.agg #[.int .i64 op2, .int .i64 n2, .string s2, .slice a2 len2 cap2], .string hs, .int .i64 m] w fun e w' => e = .returned (.tuple #[.agg #[.int .i64 0, .int .i64 0, .string ByteArray.empty, .slice none 0 0], .bool false]) ∧ Below w.heap.size w w' := by
  have H6 := hide h6
  unfold zeroC at H6
  have hB0 : Below w.heap.size w ((w.alloc (.cells #[.int .i64 op2, .int .i64 n2, .string s2, .slice a2 len2 cap2] 29)).alloc (.cells #[.int .i64 0, .int .i64 0, .string ByteArray.empty, .slice none 0 0] 29)) := bt (ab _) (ab _) (Nat.le_refl _)
  have HX : Hid (ZBox ((w.alloc (.cells #[.int .i64 op2, .int .i64 n2, .string s2, .slice a2 len2 cap2] 29)).alloc (.cells #[.int .i64 0, .int .i64 0, .string ByteArray.empty, .slice none 0 0] 29)) (w.heap.size + 1)) := by
    have := ZBox.new (w.alloc (.cells #[.int .i64 op2, .int .i64 n2, .string s2, .slice a2 len2 cap2] 29))
    rwa [heap_size_alloc] at this
  have HB0 := hide hB0
  clear hB0 h6
  go_enter Tryz.func51, Tryz.ntmps51
  go_wp2_with fail
  refine (unhide H6 _ (unhide HB0)).mono ?_
  rintro e w2 ⟨hb2, rfl⟩
  have HB2 := hide (bt (unhide HB0) hb2 (Nat.le_refl _))
  have HX2 := hide ((unhide HX).below hb2)
  obtain ⟨p0, p1, p2, p3, q0, q1, q2, q3⟩ := ((unhide HX).below hb2).facts
  have hlX := lt_of_cell p0
  have nX := Nat.ne_of_lt hlX
  have mX := Ne.symm nX
  clear hb2
  go_wp2_with fail
  have HF := hide ((fill26 (unhide HX2) 0 0 ⟨#[]⟩ none 0 0).below (ab (.cells #[.string ByteArray.empty, .int .i64 0, .int .i64 0, .string ByteArray.empty, .slice none 0 0, .int .i64 0] 57)))
  obtain ⟨f0, f1, f2, f3⟩ := (unhide HF).facts
  refine bodyPost_ret (v := .tuple #[.agg #[.int .i64 0, .int .i64 0, .string ByteArray.empty, .slice none 0 0], .bool false]) (by simp [results, Tryz.results51, go_sem, f0, f1, f2, f3]; try rfl) rfl ⟨rfl, ?_⟩
  exact (set4_below (unhide HB2) (by omega)).alloc (by simp only [set_size]; exact (unhide HB2).size) _

set_option maxRecDepth 100000 in
set_option maxHeartbeats 2000000 in
theorem goodS_no2 (op2 n2 : Int) (s2 : ByteArray) (a2 : Option Addr) (len2 cap2 : Nat) (hs : ByteArray) (m : Int) (w : World) (h : ByteArray) (p : Tm) (v : Int) (hh : h ≠ hs) (h6 : ∀ W, Below w.heap.size w W → Calls Tryz.prog 48 #[.agg #[.int .i64 op2, .int .i64 n2, .string s2, .slice a2 len2 cap2]] W fun e w' => Below W.heap.size W w' ∧ ∃ op n s a len cap, e = .returned (.tuple #[.agg #[.string h, .int .i64 op, .int .i64 n, .string s, .slice a len cap, .int .i64 v], .bool true]) ∧ Lies w' W.heap.size p (tmCells op n s a len cap)) :
    Calls Tryz.prog 51 #[.agg #[.int .i64 op2, .int .i64 n2, .string s2, .slice a2 len2 cap2], .string hs, .int .i64 m] w fun e w' => e = .returned (.tuple #[.agg #[.int .i64 0, .int .i64 0, .string ByteArray.empty, .slice none 0 0], .bool false]) ∧ Below w.heap.size w w' := by
  have q9 : (h.toList == hs.toList) = false := by rw [beq_eq_false_iff_ne]; intro e; exact hh (toList_inj e)
  clear hh
  have H6 := hide h6
  have hB0 : Below w.heap.size w ((w.alloc (.cells #[.int .i64 op2, .int .i64 n2, .string s2, .slice a2 len2 cap2] 29)).alloc (.cells #[.int .i64 0, .int .i64 0, .string ByteArray.empty, .slice none 0 0] 29)) := bt (ab _) (ab _) (Nat.le_refl _)
  have HX : Hid (ZBox ((w.alloc (.cells #[.int .i64 op2, .int .i64 n2, .string s2, .slice a2 len2 cap2] 29)).alloc (.cells #[.int .i64 0, .int .i64 0, .string ByteArray.empty, .slice none 0 0] 29)) (w.heap.size + 1)) := by
    have := ZBox.new (w.alloc (.cells #[.int .i64 op2, .int .i64 n2, .string s2, .slice a2 len2 cap2] 29))
    rwa [heap_size_alloc] at this
  have HB0 := hide hB0
  have HG0 : Hid (w.heap.size + 2 = ((w.alloc (.cells #[.int .i64 op2, .int .i64 n2, .string s2, .slice a2 len2 cap2] 29)).alloc (.cells #[.int .i64 0, .int .i64 0, .string ByteArray.empty, .slice none 0 0] 29)).heap.size) := by show _ = _; simp
  clear hB0 h6
  go_enter Tryz.func51, Tryz.ntmps51
  go_wp2_with fail
  refine (unhide H6 _ (unhide HB0)).mono ?_
  rintro e w2 ⟨hb2, op, n, s, a, len, cap, rfl, hL2⟩
  have HB2 := hide (bt (unhide HB0) hb2 (Nat.le_refl _))
  have HX2 := hide ((unhide HX).below hb2)
  have HL2 := hide hL2
  obtain ⟨p0, p1, p2, p3, q0, q1, q2, q3⟩ := (unhide HX2).facts
  have hlX := lt_of_cell p0
  have nX := Nat.ne_of_lt hlX
  have mX := Ne.symm nX
  clear hb2 hL2
  go_wp2_with fail
  have HF := hide ((fill26 (unhide HX2) 0 0 ⟨#[]⟩ none 0 0).below (ab (.cells #[.string h, .int .i64 op, .int .i64 n, .string s, .slice a len cap, .int .i64 v] 57)))
  obtain ⟨f0, f1, f2, f3⟩ := (unhide HF).facts
  refine bodyPost_ret (v := .tuple #[.agg #[.int .i64 0, .int .i64 0, .string ByteArray.empty, .slice none 0 0], .bool false]) (by simp [results, Tryz.results51, go_sem, f0, f1, f2, f3]; try rfl) rfl ⟨rfl, ?_⟩
  exact (set4_below (unhide HB2) (by omega)).alloc (by simp only [set_size]; exact (unhide HB2).size) _

set_option maxRecDepth 100000 in
set_option maxHeartbeats 2000000 in
theorem goodS_no3 (op2 n2 : Int) (s2 : ByteArray) (a2 : Option Addr) (len2 cap2 : Nat) (hs : ByteArray) (m : Int) (w : World) (h : ByteArray) (p : Tm) (v : Int) (hh : h = hs) (hm : v < m) (h6 : ∀ W, Below w.heap.size w W → Calls Tryz.prog 48 #[.agg #[.int .i64 op2, .int .i64 n2, .string s2, .slice a2 len2 cap2]] W fun e w' => Below W.heap.size W w' ∧ ∃ op n s a len cap, e = .returned (.tuple #[.agg #[.string h, .int .i64 op, .int .i64 n, .string s, .slice a len cap, .int .i64 v], .bool true]) ∧ Lies w' W.heap.size p (tmCells op n s a len cap)) :
    Calls Tryz.prog 51 #[.agg #[.int .i64 op2, .int .i64 n2, .string s2, .slice a2 len2 cap2], .string hs, .int .i64 m] w fun e w' => e = .returned (.tuple #[.agg #[.int .i64 0, .int .i64 0, .string ByteArray.empty, .slice none 0 0], .bool false]) ∧ Below w.heap.size w w' := by
  have q9 : (h.toList == hs.toList) = true := by rw [hh]; simp
  clear hh
  have H6 := hide h6
  have hB0 : Below w.heap.size w ((w.alloc (.cells #[.int .i64 op2, .int .i64 n2, .string s2, .slice a2 len2 cap2] 29)).alloc (.cells #[.int .i64 0, .int .i64 0, .string ByteArray.empty, .slice none 0 0] 29)) := bt (ab _) (ab _) (Nat.le_refl _)
  have HX : Hid (ZBox ((w.alloc (.cells #[.int .i64 op2, .int .i64 n2, .string s2, .slice a2 len2 cap2] 29)).alloc (.cells #[.int .i64 0, .int .i64 0, .string ByteArray.empty, .slice none 0 0] 29)) (w.heap.size + 1)) := by
    have := ZBox.new (w.alloc (.cells #[.int .i64 op2, .int .i64 n2, .string s2, .slice a2 len2 cap2] 29))
    rwa [heap_size_alloc] at this
  have HB0 := hide hB0
  have HG0 : Hid (w.heap.size + 2 = ((w.alloc (.cells #[.int .i64 op2, .int .i64 n2, .string s2, .slice a2 len2 cap2] 29)).alloc (.cells #[.int .i64 0, .int .i64 0, .string ByteArray.empty, .slice none 0 0] 29)).heap.size) := by show _ = _; simp
  clear hB0 h6
  go_enter Tryz.func51, Tryz.ntmps51
  go_wp2_with fail
  refine (unhide H6 _ (unhide HB0)).mono ?_
  rintro e w2 ⟨hb2, op, n, s, a, len, cap, rfl, hL2⟩
  have HB2 := hide (bt (unhide HB0) hb2 (Nat.le_refl _))
  have HX2 := hide ((unhide HX).below hb2)
  have HL2 := hide hL2
  obtain ⟨p0, p1, p2, p3, q0, q1, q2, q3⟩ := (unhide HX2).facts
  have hlX := lt_of_cell p0
  have nX := Nat.ne_of_lt hlX
  have mX := Ne.symm nX
  clear hb2 hL2
  go_wp2_with fail
  have HF := hide ((fill26 (unhide HX2) 0 0 ⟨#[]⟩ none 0 0).below (ab (.cells #[.string h, .int .i64 op, .int .i64 n, .string s, .slice a len cap, .int .i64 v] 57)))
  obtain ⟨f0, f1, f2, f3⟩ := (unhide HF).facts
  refine bodyPost_ret (v := .tuple #[.agg #[.int .i64 0, .int .i64 0, .string ByteArray.empty, .slice none 0 0], .bool false]) (by simp [results, Tryz.results51, go_sem, f0, f1, f2, f3]; try rfl) rfl ⟨rfl, ?_⟩
  exact (set4_below (unhide HB2) (by omega)).alloc (by simp only [set_size]; exact (unhide HB2).size) _

set_option maxRecDepth 100000 in
set_option maxHeartbeats 2000000 in
theorem goodS_yes (op2 n2 : Int) (s2 : ByteArray) (a2 : Option Addr) (len2 cap2 : Nat) (hs : ByteArray) (m : Int) (w : World) (h : ByteArray) (p : Tm) (v : Int) (hh : h = hs) (hm : ¬ v < m) (h6 : ∀ W, Below w.heap.size w W → Calls Tryz.prog 48 #[.agg #[.int .i64 op2, .int .i64 n2, .string s2, .slice a2 len2 cap2]] W fun e w' => Below W.heap.size W w' ∧ ∃ op n s a len cap, e = .returned (.tuple #[.agg #[.string h, .int .i64 op, .int .i64 n, .string s, .slice a len cap, .int .i64 v], .bool true]) ∧ Lies w' W.heap.size p (tmCells op n s a len cap)) :
    Calls Tryz.prog 51 #[.agg #[.int .i64 op2, .int .i64 n2, .string s2, .slice a2 len2 cap2], .string hs, .int .i64 m] w fun e w' => ∃ op n s a len cap, e = .returned (.tuple #[.agg #[.int .i64 op, .int .i64 n, .string s, .slice a len cap], .bool true]) ∧ Lies w' w.heap.size p (tmCells op n s a len cap) ∧ Below w.heap.size w w' := by
  have q9 : (h.toList == hs.toList) = true := by rw [hh]; simp
  clear hh
  have H6 := hide h6
  have hB0 : Below w.heap.size w ((w.alloc (.cells #[.int .i64 op2, .int .i64 n2, .string s2, .slice a2 len2 cap2] 29)).alloc (.cells #[.int .i64 0, .int .i64 0, .string ByteArray.empty, .slice none 0 0] 29)) := bt (ab _) (ab _) (Nat.le_refl _)
  have HX : Hid (ZBox ((w.alloc (.cells #[.int .i64 op2, .int .i64 n2, .string s2, .slice a2 len2 cap2] 29)).alloc (.cells #[.int .i64 0, .int .i64 0, .string ByteArray.empty, .slice none 0 0] 29)) (w.heap.size + 1)) := by
    have := ZBox.new (w.alloc (.cells #[.int .i64 op2, .int .i64 n2, .string s2, .slice a2 len2 cap2] 29))
    rwa [heap_size_alloc] at this
  have HB0 := hide hB0
  have HG0 : Hid (w.heap.size + 2 = ((w.alloc (.cells #[.int .i64 op2, .int .i64 n2, .string s2, .slice a2 len2 cap2] 29)).alloc (.cells #[.int .i64 0, .int .i64 0, .string ByteArray.empty, .slice none 0 0] 29)).heap.size) := by show _ = _; simp
  clear hB0 h6
  go_enter Tryz.func51, Tryz.ntmps51
  go_wp2_with fail
  refine (unhide H6 _ (unhide HB0)).mono ?_
  rintro e w2 ⟨hb2, op, n, s, a, len, cap, rfl, hL2⟩
  have HB2 := hide (bt (unhide HB0) hb2 (Nat.le_refl _))
  have HX2 := hide ((unhide HX).below hb2)
  have HL2 := hide hL2
  obtain ⟨p0, p1, p2, p3, q0, q1, q2, q3⟩ := (unhide HX2).facts
  have hlX := lt_of_cell p0
  have nX := Nat.ne_of_lt hlX
  have mX := Ne.symm nX
  clear hb2 hL2
  have hpV := hide (RowC.new 57 w2 h op n s a len cap v)
  go_wp2_with fail
  have HF := hide ((fill26 (unhide HX2) op n s a len cap).below (ab (.cells #[.string h, .int .i64 op, .int .i64 n, .string s, .slice a len cap, .int .i64 v] 57)))
  obtain ⟨f0, f1, f2, f3⟩ := (unhide HF).facts
  refine bodyPost_ret (v := .tuple #[.agg #[.int .i64 op, .int .i64 n, .string s, .slice a len cap], .bool true]) (by simp [results, Tryz.results51, go_sem, f0, f1, f2, f3]; try rfl) rfl ⟨op, n, s, a, len, cap, rfl, ?_, ?_⟩
  · exact (set4_lies (unhide HL2) (by have := unhide HG0; omega) w.heap.size (by have := unhide HG0; omega)).below (ab _)
  · exact (set4_below (unhide HB2) (by omega)).alloc (by simp only [set_size]; exact (unhide HB2).size) _

set_option maxRecDepth 100000 in
set_option maxHeartbeats 8000000 in
theorem lawCertGood (t : Tm) (hs : ByteArray) (P : Tm) (m : Int) (B : Bool) (x : Addr) (hPZ : P.size ≤ 200)
    (hS : ∀ (op n : Int) (s : ByteArray) (a : Option Addr) (len cap : Nat) (w : World), Lies w 0 t (tmCells op n s a len cap) → t.size ≤ 2097152 → Calls Tryz.prog 51 #[.agg #[.int .i64 op, .int .i64 n, .string s, .slice a len cap], .string hs, .int .i64 m] w fun e w' => ∃ opW nW sW aW lenW capW, e = .returned (.tuple #[.agg #[.int .i64 opW, .int .i64 nW, .string sW, .slice aW lenW capW], .bool B]) ∧ Lies w' 0 P (tmCells opW nW sW aW lenW capW) ∧ Below w.heap.size w w')
    (hI : ∀ (op n : Int) (s : ByteArray) (a : Option Addr) (len cap : Nat) (w : World), Lies w 0 t (tmCells op n s a len cap) → t.size ≤ 2097152 → ErrAt x w → Var12 w → Tab w → Calls Tryz.prog 35 #[.agg #[.int .i64 op, .int .i64 n, .string s, .slice a len cap], .string hs, .int .i64 m] w fun e w' => ∃ opG nG sG aG lenG capG fp, e = .returned (.tuple #[.agg #[.int .i64 opG, .int .i64 nG, .string sG, .slice aG lenG capG], .bool B]) ∧ Own w' P (tmCells opG nG sG aG lenG capG) fp ∧ (fp.Nodup ∧ ∀ y ∈ fp, w.heap.size ≤ y) ∧ Below w.heap.size w w')
    (op n : Int) (s : ByteArray) (a : Option Addr) (len cap : Nat) (w : World) (hl : Lies w 0 t (tmCells op n s a len cap)) (hv : Var12 w) (htab : Tab w) (herr : ErrAt x w) :
    Calls Tryz.prog 7 #[.agg #[.int .i64 op, .int .i64 n, .string s, .slice a len cap], .string hs, .int .i64 m] w fun e w' => e = .returned (.bool true) ∧ Below w.heap.size w w' := by
  by_cases hH : (1048576 : Int) < (hs.size : Int)
  · go_enter Tryz.func7, Tryz.ntmps7
    go_wp2_with fail
    go_ret
    exact ⟨rfl, ab _⟩
  have HER := hide herr
  have HTB := hide htab
  have HVR := hide hv
  clear herr htab hv
  have h11 := hide (sz_calls t)
  have h8 := hide eq_calls
  have hZ := t.size_le
  have hB0 : Below w.heap.size w (w.alloc (.cells #[.int .i64 op, .int .i64 n, .string s, .slice a len cap] 24)) := ab _
  have HL := hide (hl.below hB0)
  have HB0 := hide hB0
  have HA := hide (RowT.new 24 w op n s a len cap)
  clear hl hB0
  by_cases hw : (t.wt : Int) ≤ 1048576
  · have hsz : t.size ≤ 1048577 := by omega
    have hsz2 : t.size ≤ 2097152 := by omega
    have h13 := hide (fun a cap v hv => tp_calls t op n s a len cap v hv hsz2)
    have h15 := hide (fun a cap v hv => hS op n s a len cap v hv hsz2)
    have h16 := hide (fun a cap v hv he hr ht => hI op n s a len cap v hv hsz2 he hr ht)
    have h9 := hide (fun op1 n1 s1 a1 len1 cap1 op2 n2 s2 a2 len2 cap2 W hv hv' => eq_calls P op1 n1 s1 a1 len1 cap1 op2 n2 s2 a2 len2 cap2 W hv hv')
    clear hS hI
    have HKP : Hid (Tm.sizes P.kids ≤ P.size) := by have := size_kids P; show _ ≤ _; omega
    have HTZ : Hid (1 + 3 * P.size ≤ 1099511627776) := by show _ ≤ _; omega
    have HXZ : Hid (1 + 3 * t.size ≤ 1099511627776) := by show _ ≤ _; omega
    have h9x : Hid (∀ (a : Option Addr) (w : World) (fp : List Nat), Own w t (tmCells op n s a len len) fp → fp.Nodup →
        Calls Tryz.prog 46 #[.agg #[.int .i64 op, .int .i64 n, .string s, .slice a len len], .int .i64 1] w fun e w' => e = .returned (.int .i64 ((1 + 3 * Tm.sizes t.kids : Nat) : Int)) ∧ Own w' (t.marked 1) (tmCells op n s a len len) fp ∧ Only fp w w') :=
      fun a w fp ho hnd => mark_any t op n s a len len 1 w fp ho hnd (Nat.le_refl _) (unhide HXZ)
    have h9g : Hid (∀ (op n : Int) (s : ByteArray) (a : Option Addr) (len cap : Nat) (w : World) (fp : List Nat), Own w P (tmCells op n s a len cap) fp → fp.Nodup →
        Calls Tryz.prog 46 #[.agg #[.int .i64 op, .int .i64 n, .string s, .slice a len cap], .int .i64 1] w fun e w' => e = .returned (.int .i64 ((1 + 3 * Tm.sizes P.kids : Nat) : Int)) ∧ Own w' (P.marked 1) (tmCells op n s a len cap) fp ∧ Only fp w w') :=
      fun op n s a len cap w fp ho hnd => mark_any P op n s a len cap 1 w fp ho hnd (Nat.le_refl _) (unhide HTZ)
    have h10 : Hid (∀ (op n : Int) (s : ByteArray) (a : Option Addr) (len cap : Nat) (w : World), Lies w 0 (P.marked 1) (tmCells op n s a len cap) →
        Calls Tryz.prog 47 #[.agg #[.int .i64 op, .int .i64 n, .string s, .slice a len cap], .int .i64 1] w fun e w' => e = .returned (.int .i64 ((1 + 3 * Tm.sizes P.kids : Nat) : Int)) ∧ Below w.heap.size w w') :=
      fun op n s a len cap w hl => held_markedC P op n s a len cap 1 w hl (Nat.le_refl _) (unhide HTZ)
    have hmb : (1 + 3 * Tm.sizes P.kids : Nat) ≤ 4194304 := by have := unhide HKP; omega
    have hkb : (1 + 3 * Tm.sizes t.kids : Nat) ≤ 4194304 := by have := size_kids t; omega
    have hBB : (B != B) = false := by simp
    clear hZ hsz hsz2 HKP hPZ
    generalize 1 + 3 * Tm.sizes P.kids = mG at *
    generalize 1 + 3 * Tm.sizes t.kids = mX at *
    obtain ⟨left, hgl⟩ : ∃ left : Int, (1048576 : Int) - t.wt = left := ⟨_, rfl⟩
    have hln : 0 ≤ left := by omega
    go_enter Tryz.func7, Tryz.ntmps7
    go_wp2_with fail
    refine (unhide h11 op n s a len cap _ _ (unhide HL) (by omega) (by omega)).mono ?_
    rintro e w1 ⟨rfl, hb1⟩
    rw [szv_yes hw, hgl]
    have HA1 := hide ((unhide HA).below hb1)
    have HL1 := hide ((unhide HL).below hb1)
    have HB1 := hide (bt (unhide HB0) hb1 (Nat.le_refl _))
    clear hb1 HL HB0 HA hgl hw h11
    obtain ⟨c0, c1, c2, c3⟩ := (unhide HA1).facts
    go_wp2_with fail
    refine (unhide h13 a cap _ (unhide HL1)).mono ?_
    rintro e w2 ⟨a2, f2, rfl, hO2, _, hb2⟩
    have HA2 := hide ((unhide HA1).below hb2)
    have HL2 := hide ((unhide HL1).below hb2)
    have HB2 := hide (bt (unhide HB1) hb2 (Nat.le_refl _))
    have HO2 := hide hO2.lies0
    clear hb2 hO2 HA1 HL1 HB1 c0 c1 c2 c3
    go_wp2_with fail
    refine (unhide h15 a2 len _ (unhide HO2)).mono ?_
    rintro e w3 ⟨opW, nW, sW, aW, lenW, capW, rfl, hL3, hb3⟩
    have HA3 := hide ((unhide HA2).below hb3)
    have HL3 := hide ((unhide HL2).below hb3)
    have HB3 := hide (bt (unhide HB2) hb3 (Nat.le_refl _))
    have HW3 := hide hL3
    clear hb3 hL3 HA2 HL2 HB2 HO2
    have HVB := hide (bt (unhide HB3) (ab (.cells #[.int .i64 opW, .int .i64 nW, .string sW, .slice aW lenW capW] 29)) (Nat.le_refl _))
    have HVA := hide ((unhide HA3).below (ab (.cells #[.int .i64 opW, .int .i64 nW, .string sW, .slice aW lenW capW] 29)))
    have HVW := hide (RowT.new 29 w3 opW nW sW aW lenW capW)
    have HVLA := hide ((unhide HL3).below (ab (.cells #[.int .i64 opW, .int .i64 nW, .string sW, .slice aW lenW capW] 29)))
    have HVLW := hide ((unhide HW3).below (ab (.cells #[.int .i64 opW, .int .i64 nW, .string sW, .slice aW lenW capW] 29)))
    obtain ⟨c0, c1, c2, c3⟩ := (unhide HVA).facts
    clear HA3 HL3 HB3 HW3
    go_wp2_with fail
    generalize hV1 : w3.alloc (.cells #[.int .i64 opW, .int .i64 nW, .string sW, .slice aW lenW capW] 29) = V1 at *
    generalize w3.heap.size = bW at *
    clear hV1
    refine (unhide h13 a cap _ (unhide HVLA)).mono ?_
    rintro e w4 ⟨a4, f4, rfl, hO4, ⟨hnd4, hge4⟩, hb4⟩
    have HND4 := hide hnd4
    have HGE4 := hide hge4
    have HLT4 := hide (Own.lt _ _ _ hO4)
    have hb4' := bt hb4 (ab (.cells #[.int .i64 op, .int .i64 n, .string s, .slice a4 len len] 29)) (Nat.le_refl _)
    have HV2 := hide hb4'
    have HXR := hide (RowT.new 29 w4 op n s a4 len len)
    have HXO := hide (hO4.below (ab (.cells #[.int .i64 op, .int .i64 n, .string s, .slice a4 len len] 29)))
    clear hO4 hnd4 hge4 hb4 hb4' c0 c1 c2 c3
    obtain ⟨c0, c1, c2, c3⟩ := (unhide HXR).facts
    go_wp2_with fail
    generalize hV2 : w4.alloc (.cells #[.int .i64 op, .int .i64 n, .string s, .slice a4 len len] 29) = V2 at *
    have HGX : Hid (w4.heap.size + 1 = V2.heap.size) := by show _ = _; rw [← hV2, heap_size_alloc]
    generalize w4.heap.size = bX at *
    clear hV2
    have hVV := bt (unhide HVB) (unhide HV2) (Nat.le_refl _)
    refine (unhide h16 a4 len _ (unhide HXO).lies0 ((unhide HER).on hVV) ((unhide HVR).on hVV) ((unhide HTB).on hVV)).mono ?_
    rintro e w5 ⟨opG, nG, sG, aG, lenG, capG, f5, rfl, hO5, ⟨hnd5, hge5⟩, hb5⟩
    have HND5 := hide hnd5
    have HGE5 := hide hge5
    have HLT5 := hide (Own.lt _ _ _ hO5)
    have HBG := hide hb5.size
    have hb5' := bt hb5 (ab (.cells #[.int .i64 opG, .int .i64 nG, .string sG, .slice aG lenG capG] 29)) (Nat.le_refl _)
    have HV3 := hide hb5'
    have HV13 := hide (bt (unhide HV2) hb5' (Nat.le_refl _))
    have HGR := hide (RowT.new 29 w5 opG nG sG aG lenG capG)
    have HGO := hide (hO5.below (ab (.cells #[.int .i64 opG, .int .i64 nG, .string sG, .slice aG lenG capG] 29)))
    clear hVV hO5 hnd5 hge5 hb5 hb5' c0 c1 c2 c3
    obtain ⟨c0, c1, c2, c3⟩ := (unhide HGR).facts
    obtain ⟨d0, d1, d2, d3⟩ := ((unhide HVW).below (unhide HV13)).facts
    go_wp2_with fail
    generalize hV3 : w5.alloc (.cells #[.int .i64 opG, .int .i64 nG, .string sG, .slice aG lenG capG] 29) = V3 at *
    have HGG : Hid (w5.heap.size + 1 = V3.heap.size) := by show _ = _; rw [← hV3, heap_size_alloc]
    generalize w5.heap.size = bG at *
    clear hV3
    refine (unhide h9 opG nG sG aG lenG capG opW nW sW aW lenW capW _ (unhide HGO).lies0 ((unhide HVLW).below (unhide HV13))).mono ?_
    rintro e w6 ⟨rfl, hb6⟩
    have HV16 := hide (bt (unhide HV13) hb6 (Nat.le_refl _))
    have HV26 := hide (bt (unhide HV3) hb6 (Nat.le_refl _))
    have HGR6 := hide ((unhide HGR).below hb6)
    have HGO6 := hide ((unhide HGO).below hb6)
    clear hb6 c0 c1 c2 c3 d0 d1 d2 d3 HV13 HV3 HGR HGO
    obtain ⟨c0, c1, c2, c3⟩ := ((unhide HXR).below (unhide HV26)).facts
    obtain ⟨d0, d1, d2, d3⟩ := ((unhide HVA).below (unhide HV16)).facts
    have HLA6 := hide ((unhide HVLA).below (unhide HV16).drew)
    have HXO6 := hide ((unhide HXO).below (unhide HV26).drew)
    go_wp2_with fail
    go_region_held3 (fun x => x.cell? ⟨bX, 0, none⟩ = some (.int .i64 op) ∧ x.cell? ⟨bX, 1, none⟩ = some (.int .i64 n) ∧ x.cell? ⟨bX, 2, none⟩ = some (.string s) ∧ x.cell? ⟨bX, 3, none⟩ = some (.slice a4 len len) ∧
        x.cell? ⟨w.heap.size, 0, none⟩ = some (.int .i64 op) ∧ x.cell? ⟨w.heap.size, 1, none⟩ = some (.int .i64 n) ∧ x.cell? ⟨w.heap.size, 2, none⟩ = some (.string s) ∧ x.cell? ⟨w.heap.size, 3, none⟩ = some (.slice a len cap)) (go_keep)
      (first
        | (go_at_call 11
           refine (unhide h13 a cap _ (unhide HLA6)).mono ?_
           rintro e w7 ⟨a7, f7, rfl, hO7, _, hb7⟩
           have hb7' := hide (below_drew' hb7)
           have HO7 := hide hO7.lies0
           have HX7 := hide ((unhide HXO6).below hb7).lies0
           have f0 := kpc (unhide hb7') c0
           have f1 := kpc (unhide hb7') c1
           have f2 := kpc (unhide hb7') c2
           have f3 := kpc (unhide hb7') c3
           have e0 := kpc (unhide hb7') d0
           have e1 := kpc (unhide hb7') d1
           have e2 := kpc (unhide hb7') d2
           have e3 := kpc (unhide hb7') d3)
        | (go_at_call 13
           refine (unhide h8 t op n s a4 len len op n s a7 len len _ (unhide HX7) (unhide HO7)).mono ?_
           rintro e w8 ⟨rfl, hb8⟩
           have g0 := kpc hb8 f0
           have g1 := kpc hb8 f1
           have g2 := kpc hb8 f2
           have g3 := kpc hb8 f3
           have i0 := kpc hb8 e0
           have i1 := kpc hb8 e1
           have i2 := kpc hb8 e2
           have i3 := kpc hb8 e3
           have hb8' := hide hb8))
    have HV18 := hide (bt (bt (unhide HV16) (unhide hb7') (Nat.le_refl _)) (unhide hb8') (Nat.le_refl _))
    have HGR8 := hide (((unhide HGR6).below (unhide hb7')).below (unhide hb8'))
    have HGO8 := hide (((unhide HGO6).below (unhide hb7')).below (unhide hb8'))
    have HXO8 := hide (((unhide HXO).below (unhide HV26)).below (unhide hb7') |>.below (unhide hb8'))
    clear f0 f1 f2 f3 e0 e1 e2 e3 c0 c1 c2 c3 d0 d1 d2 d3 HV16 HV26 HGR6 HGO6 HXO6 HLA6 hb7' hb8' HO7 HX7
    go_wp2_with fail
    refine (unhide h9x a4 _ _ (unhide HXO8) (unhide HND4)).mono ?_
    rintro e w9 ⟨rfl, _, o9⟩
    have HV19 := hide ((unhide HV18).trans (o9.below (unhide HV18).size (unhide HGE4)))
    have HGR9 := hide ((unhide HGR8).only o9 (fun hx => by have := unhide HLT4 _ hx; have := unhide HBG; have := unhide HGX; omega))
    have HGO9 := hide ((unhide HGO8).only o9 (fun x hx hx4 => by have := unhide HLT4 _ hx4; have := unhide HGE5 _ hx; have := unhide HGX; omega))
    clear o9 HV18 HGR8 HGO8 HXO8 g0 g1 g2 g3 i0 i1 i2 i3
    obtain ⟨c0, c1, c2, c3⟩ := (unhide HGR9).facts
    obtain ⟨d0, d1, d2, d3⟩ := ((unhide HVW).below (unhide HV19)).facts
    go_wp2_with fail
    refine (unhide h9 opG nG sG aG lenG capG opW nW sW aW lenW capW _ (unhide HGO9).lies0 ((unhide HVLW).below (unhide HV19))).mono ?_
    rintro e w10 ⟨rfl, hb10⟩
    have HV20 := hide (bt (unhide HV19) hb10 (Nat.le_refl _))
    have HGR10 := hide ((unhide HGR9).below hb10)
    have HGO10 := hide ((unhide HGO9).below hb10)
    clear hb10 HV19 HGR9 HGO9 c0 c1 c2 c3 d0 d1 d2 d3
    obtain ⟨c0, c1, c2, c3⟩ := (unhide HGR10).facts
    go_wp2_with fail
    refine (unhide h9g opG nG sG aG lenG capG _ _ (unhide HGO10) (unhide HND5)).mono ?_
    rintro e w11 ⟨rfl, k11, o11⟩
    have HV21 := hide ((unhide HV20).trans (o11.below (unhide HV20).size (fun x hx => by have := unhide HGE5 _ hx; have := (unhide HV2).size; omega)))
    have HGR11 := hide ((unhide HGR10).only o11 (fun hx => by have := unhide HLT5 _ hx; omega))
    have HGO11 := hide k11.lies0
    clear o11 k11 HV20 HGR10 HGO10 c0 c1 c2 c3
    obtain ⟨c0, c1, c2, c3⟩ := (unhide HGR11).facts
    go_wp2_with fail
    refine (unhide h10 opG nG sG aG lenG capG _ (unhide HGO11)).mono ?_
    rintro e w12 ⟨rfl, hb12⟩
    have HV22 := hide (bt (unhide HV21) hb12 (Nat.le_refl _))
    have HGR12 := hide ((unhide HGR11).below hb12)
    have HGO12 := hide ((unhide HGO11).below hb12)
    clear hb12 HV21 HGR11 HGO11 c0 c1 c2 c3
    obtain ⟨d0, d1, d2, d3⟩ := ((unhide HVA).below (unhide HV22)).facts
    go_wp2_with fail
    refine (unhide h13 a cap _ ((unhide HVLA).below (unhide HV22))).mono ?_
    rintro e w13 ⟨a13, f13, rfl, hO13, _, hb13⟩
    have HV23 := hide (bt (unhide HV22) hb13 (Nat.le_refl _))
    have HGR13 := hide ((unhide HGR12).below hb13)
    have HGO13 := hide ((unhide HGO12).below hb13)
    have HO13 := hide hO13.lies0
    clear hb13 hO13 HV22 HGR12 HGO12 d0 d1 d2 d3
    have hVV := bt (unhide HVB) (unhide HV23) (Nat.le_refl _)
    have HE13 := hide ((unhide HER).on hVV)
    have HR13 := hide ((unhide HVR).on hVV)
    have HT13 := hide ((unhide HTB).on hVV)
    clear hVV
    go_wp2_with fail
    refine (unhide h16 a13 len _ (unhide HO13) (unhide HE13) (unhide HR13) (unhide HT13)).mono ?_
    rintro e w14 ⟨opH, nH, sH, aH, lenH, capH, f14, rfl, hO14, _, hb14⟩
    have hb14' := bt hb14 (ab (.cells #[.int .i64 opH, .int .i64 nH, .string sH, .slice aH lenH capH] 29)) (Nat.le_refl _)
    have HV24 := hide (bt (unhide HV23) hb14' (Nat.le_refl _))
    have HGR14 := hide ((unhide HGR13).below hb14')
    have HGO14 := hide ((unhide HGO13).below hb14')
    have HHO := hide (hO14.below (ab (.cells #[.int .i64 opH, .int .i64 nH, .string sH, .slice aH lenH capH] 29))).lies0
    clear hb14 hb14' hO14 HV23 HGR13 HGO13 HO13
    obtain ⟨c0, c1, c2, c3⟩ := (RowT.new 29 w14 opH nH sH aH lenH capH).facts
    obtain ⟨d0, d1, d2, d3⟩ := ((unhide HVW).below (unhide HV24)).facts
    go_wp2_with fail
    refine (unhide h9 opH nH sH aH lenH capH opW nW sW aW lenW capW _ (unhide HHO) ((unhide HVLW).below (unhide HV24))).mono ?_
    rintro e w15 ⟨rfl, hb15⟩
    have HV25 := hide (bt (unhide HV24) hb15 (Nat.le_refl _))
    have HGR15 := hide ((unhide HGR14).below hb15)
    have HGO15 := hide ((unhide HGO14).below hb15)
    clear hb15 HV24 HGR14 HGO14 HHO c0 c1 c2 c3 d0 d1 d2 d3
    obtain ⟨c0, c1, c2, c3⟩ := (unhide HGR15).facts
    go_wp2_with fail
    refine (unhide h10 opG nG sG aG lenG capG _ (unhide HGO15)).mono ?_
    rintro e w16 ⟨rfl, hb16⟩
    have HV26 := hide (bt (unhide HV25) hb16 (Nat.le_refl _))
    clear hb16 c0 c1 c2 c3
    go_wp2_with fail
    go_ret
    exact ⟨rfl, (unhide HVB).trans ((unhide HV26).mono (unhide HVB).size)⟩
  · go_enter Tryz.func7, Tryz.ntmps7
    go_wp2_with fail
    refine (unhide h11 op n s a len cap _ _ (unhide HL) (by omega) (by omega)).mono ?_
    rintro e w2 ⟨rfl, hb2⟩
    rw [szv_no (by omega)]
    go_wp2_with fail
    go_ret
    exact ⟨rfl, bt (unhide HB0) hb2 (Nat.le_refl _)⟩

/-- The law at whatever term, text and number. -/
theorem lawCertGood_all (t : Tm) (hs : ByteArray) (m : Int) (op n : Int) (s : ByteArray) (a : Option Addr) (len cap : Nat) (w : World) (hl : Lies w 0 t (tmCells op n s a len cap)) (hv : Var12 w) (htab : Tab w) (herr : Err w) :
    Calls Tryz.prog 7 #[.agg #[.int .i64 op, .int .i64 n, .string s, .slice a len cap], .string hs, .int .i64 m] w fun e w' => e = .returned (.bool true) ∧ Below w.heap.size w w' := by
  obtain ⟨x, hx⟩ := herr
  have no : (∀ (op n : Int) (s : ByteArray) (a : Option Addr) (len cap : Nat) (w : World), Lies w 0 t (tmCells op n s a len cap) → t.size ≤ 2097152 → Calls Tryz.prog 51 #[.agg #[.int .i64 op, .int .i64 n, .string s, .slice a len cap], .string hs, .int .i64 m] w fun e w' => e = .returned (.tuple #[.agg #[.int .i64 0, .int .i64 0, .string ByteArray.empty, .slice none 0 0], .bool false]) ∧ Below w.heap.size w w') →
      (∀ (op n : Int) (s : ByteArray) (a : Option Addr) (len cap : Nat) (w : World), Lies w 0 t (tmCells op n s a len cap) → t.size ≤ 2097152 → ErrAt x w → Var12 w → Tab w → Calls Tryz.prog 97 #[.agg #[.int .i64 op, .int .i64 n, .string s, .slice a len cap], .string hs, .int .i64 m] w fun e w' => e = .returned (.tuple #[.agg #[.int .i64 0, .int .i64 0, .string ByteArray.empty, .slice none 0 0], .iface 202 (.pointer (some x))]) ∧ Below w.heap.size w w') →
      Calls Tryz.prog 7 #[.agg #[.int .i64 op, .int .i64 n, .string s, .slice a len cap], .string hs, .int .i64 m] w fun e w' => e = .returned (.bool true) ∧ Below w.heap.size w w' := fun h14 h30 => by
    refine lawCertGood t hs (.node 0 0 ByteArray.empty []) m false x (by simp [Tm.size, Tm.sizes]) (fun op n s a len cap w hl hz => ?_) (fun op n s a len cap w hl hz he hr ht => ?_) op n s a len cap w hl hv htab hx
    · refine (h14 op n s a len cap w hl hz).mono ?_
      rintro e w' ⟨he, hb⟩
      exact ⟨_, _, _, _, _, _, he, zero_lies _ _, hb⟩
    · refine (goodI_no op n s a len cap hs m x w he fun W hW => h30 op n s a len cap W (hl.below hW) hz (he.on hW) (hr.on hW) (ht.on hW)).mono ?_
      rintro e w' ⟨he', hb⟩
      exact ⟨_, _, _, _, _, _, [], he', zero_own _, ⟨by simp, by simp⟩, hb⟩
  by_cases hc : ∃ h p v, CP t h p v
  · obtain ⟨h, p, v, c⟩ := hc
    have hp := okT_200 (certB_ok c.2.1).2.2.1
    have h6 : ∀ (op n : Int) (s : ByteArray) (a : Option Addr) (len cap : Nat) (w : World), Lies w 0 t (tmCells op n s a len cap) → t.size ≤ 2097152 → ∀ W, Below w.heap.size w W → Calls Tryz.prog 48 #[.agg #[.int .i64 op, .int .i64 n, .string s, .slice a len cap]] W fun e w' => Below W.heap.size W w' ∧ ∃ op n s a len cap, e = .returned (.tuple #[.agg #[.string h, .int .i64 op, .int .i64 n, .string s, .slice a len cap, .int .i64 v], .bool true]) ∧ Lies w' W.heap.size p (tmCells op n s a len cap) := fun op n s a len cap w hl hz W hW => by
      refine (ofS6 t op n s a len cap W (hl.below hW) hz).mono ?_
      rintro e w' ⟨hb, ⟨h1, p1, v1, o1, n1, s1, a1, l1, c1, cc, he, hL⟩ | ⟨hno, _⟩⟩
      · obtain ⟨rfl, rfl, rfl⟩ := c.one cc
        exact ⟨hb, o1, n1, s1, a1, l1, c1, he, hL⟩
      · exact absurd ⟨h, p, v, c⟩ hno
    have h26 : ∀ (op n : Int) (s : ByteArray) (a : Option Addr) (len cap : Nat) (w : World), Lies w 0 t (tmCells op n s a len cap) → t.size ≤ 2097152 → ErrAt x w → Var12 w → Tab w → ∀ W, Below w.heap.size w W → Calls Tryz.prog 108 #[.agg #[.int .i64 op, .int .i64 n, .string s, .slice a len cap]] W fun e w' => Below W.heap.size W w' ∧ ∃ op n s a len cap, e = .returned (.tuple #[.agg #[.string h, .int .i64 op, .int .i64 n, .string s, .slice a len cap, .int .i64 v], .nilIface]) ∧ Lies w 0 p (tmCells op n s a len cap) := fun op n s a len cap w hl hz he hr ht W hW => by
      refine (read26 t op n s a len cap x w W hl hW hz (he.on hW) (hr.on hW) (ht.on hW)).mono ?_
      rintro e w' ⟨hb, ⟨h1, p1, v1, o1, n1, s1, a1, l1, c1, cc, he', hL⟩ | ⟨hno, _⟩⟩
      · obtain ⟨rfl, rfl, rfl⟩ := c.one cc
        exact ⟨hb, o1, n1, s1, a1, l1, c1, he', hL⟩
      · exact absurd ⟨h, p, v, c⟩ hno
    by_cases hh : h = hs
    · by_cases hm : v < m
      · exact no (fun op n s a len cap w hl hz => goodS_no3 op n s a len cap hs m w h p v hh hm (h6 op n s a len cap w hl hz))
          (fun op n s a len cap w hl hz he hr ht => goodP_no3 op n s a len cap hs m x w he h p v hh hm (h26 op n s a len cap w hl hz he hr ht))
      · refine lawCertGood t hs p m true x hp (fun op n s a len cap w hl hz => ?_) (fun op n s a len cap w hl hz he hr ht => ?_) op n s a len cap w hl hv htab hx
        · refine (goodS_yes op n s a len cap hs m w h p v hh hm (h6 op n s a len cap w hl hz)).mono ?_
          rintro e w' ⟨o1, n1, s1, a1, l1, c1, he, hL, hb⟩
          exact ⟨o1, n1, s1, a1, l1, c1, he, hL.any (Nat.zero_le _), hb⟩
        · exact goodI_yes op n s a len cap hs m x w he p (by have := okT_small (certB_ok c.2.1).2.2.1; omega) fun W hW => goodP_yes op n s a len cap hs m x W (he.on hW) h p v hh hm (h26 op n s a len cap W (hl.below hW) hz (he.on hW) (hr.on hW) (ht.on hW))
    · exact no (fun op n s a len cap w hl hz => goodS_no2 op n s a len cap hs m w h p v hh (h6 op n s a len cap w hl hz))
        (fun op n s a len cap w hl hz he hr ht => goodP_no2 op n s a len cap hs m x w he h p v hh (h26 op n s a len cap w hl hz he hr ht))
  · refine no (fun op n s a len cap w hl hz => ?_) (fun op n s a len cap w hl hz he hr ht => ?_)
    · refine goodS_no1 op n s a len cap hs m w fun W hW => ?_
      refine (ofS6 t op n s a len cap W (hl.below hW) hz).mono ?_
      rintro e w' ⟨hb, ⟨h1, p1, v1, o1, n1, s1, a1, l1, c1, cc, he, hL⟩ | ⟨_, he⟩⟩
      · exact absurd ⟨h1, p1, v1, cc⟩ hc
      · exact ⟨hb, he⟩
    · refine goodP_no1 op n s a len cap hs m x w fun W hW => ?_
      refine (read26 t op n s a len cap x w W hl hW hz (he.on hW) (hr.on hW) (ht.on hW)).mono ?_
      rintro e w' ⟨hb, ⟨h1, p1, v1, o1, n1, s1, a1, l1, c1, cc, he', hL⟩ | ⟨_, he'⟩⟩
      · exact absurd ⟨h1, p1, v1, cc⟩ hc
      · exact ⟨hb, he'⟩

end Go.Proofs.YtlepdkbkiajkiaaGreatDoor
