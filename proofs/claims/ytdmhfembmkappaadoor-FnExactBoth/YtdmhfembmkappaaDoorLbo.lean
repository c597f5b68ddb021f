
/- The walk of laws.FnExactBoth: whatever two terms lie in memory it answers true; nothing that was there is written. -/
import Derived.Test.YtdmhfembmkappaaDoorG1
import Derived.Test.YtdmhfembmkappaaDoorLh
import Derived.Deep.DeepCutAuto
namespace Go.Proofs.YtdmhfembmkappaaDoor
open Go.RowKit Go.Deep

/-- The box, filled. -/
theorem ZBox.fill {w : World} {g : Nat} (h : ZBox w g) (op n : Int) (s : ByteArray) (a : Option Addr) (len cap : Nat) : RowT 28 ((((w.setCell ⟨g, 0, none⟩ (.int .i64 op)).setCell ⟨g, 1, none⟩ (.int .i64 n)).setCell ⟨g, 2, none⟩ (.string s)).setCell ⟨g, 3, none⟩ (.slice a len cap)) g op n s a len cap := by
  unfold ZBox at h
  unfold RowT
  have h0 := setCell_row (o := 0) (.int .i64 op) h
  have h1 := setCell_row (o := 1) (.int .i64 n) h0
  have h2 := setCell_row (o := 2) (.string s) h1
  have h3 := setCell_row (o := 3) (.slice a len cap) h2
  exact h3

/-- What an order of the two makings leaves: the box of the answer, which lies in memory; what was there stays. -/
def PairCut (T : Tm) (w2 : World) (p : Value) (wx : World) : Prop := ∃ bW opW nW sW aW lenW capW, p = .pointer (some ⟨bW, 0, none⟩) ∧ RowT 28 wx bW opW nW sW aW lenW capW ∧ Lies wx 0 T (tmCells opW nW sW aW lenW capW) ∧ Below w2.heap.size w2 wx

theorem PairCut.late {T : Tm} {w2 w5 : World} {op n : Int} {s : ByteArray} {a : Option Addr} {len cap : Nat} (hb : Below w2.heap.size w2 w5) (hl : Lies w5 0 T (tmCells op n s a len cap)) : PairCut T w2 (.pointer (some ⟨w5.heap.size, 0, none⟩)) (w5.alloc (.cells #[.int .i64 op, .int .i64 n, .string s, .slice a len cap] 28)) :=
  ⟨_, _, _, _, _, _, _, rfl, RowT.new 28 w5 op n s a len cap, hl.below (ab _), bt hb (ab _) (Nat.le_refl _)⟩

theorem PairCut.early {T : Tm} {w2 w5 : World} {g L : Nat} {op n : Int} {s : ByteArray} {a : Option Addr} {len cap : Nat} (hb : Below w2.heap.size w2 w5) (hz : ZBox w5 g) (hg : w2.heap.size ≤ g) (hl : Lies w5 L T (tmCells op n s a len cap)) (hL : g < L) :
    PairCut T w2 (.pointer (some ⟨g, 0, none⟩)) ((((w5.setCell ⟨g, 0, none⟩ (.int .i64 op)).setCell ⟨g, 1, none⟩ (.int .i64 n)).setCell ⟨g, 2, none⟩ (.string s)).setCell ⟨g, 3, none⟩ (.slice a len cap)) :=
  ⟨_, _, _, _, _, _, _, rfl, hz.fill op n s a len cap, set4_lies hl hL 0 (Nat.zero_le _), set4_below hb hg⟩

set_option maxRecDepth 100000 in
set_option maxHeartbeats 2000000 in
theorem bothT_size (t u : Tm) : (bothT t u).size ≤ 200 := by
  have h : ∀ x : Tm, (pickT (okT x) x).size ≤ 200 := fun x => by
    unfold pickT
    split
    · rename_i h
      simp only [okT, Bool.and_eq_true, decide_eq_true_eq] at h
      exact h.1
    · simp [Tm.size, Tm.sizes]
  exact h _

set_option maxRecDepth 100000 in
set_option maxHeartbeats 2000000 in
theorem lawBoth (t u : Tm) (op n : Int) (s : ByteArray) (a : Option Addr) (len cap : Nat) (op2 n2 : Int) (s2 : ByteArray) (a2 : Option Addr) (len2 cap2 : Nat) (w : World) (hl : Lies w 0 t (tmCells op n s a len cap)) (hl2 : Lies w 0 u (tmCells op2 n2 s2 a2 len2 cap2)) (herr : Err w) :
    Calls Tryd.prog 3 #[.agg #[.int .i64 op, .int .i64 n, .string s, .slice a len cap], .agg #[.int .i64 op2, .int .i64 n2, .string s2, .slice a2 len2 cap2]] w fun e w' => e = .returned (.bool true) ∧ Below w.heap.size w w' := by
  have HER := hide herr
  clear herr
  have h11 := hide (sz_calls t)
  have h11' := hide (sz_calls u)
  have h13 := hide (tp_calls t)
  have h13' := hide (tp_calls u)
  have h12 := hide (bothS t u)
  have h14 := hide (bothI t u)
  have h8 := hide eq_calls
  have hZ := t.size_le
  have hZ' := u.size_le
  have hTZ := bothT_size t u
  generalize bothT t u = T at *
  have HKP : Hid (Tm.sizes T.kids ≤ T.size) := by have := size_kids T; show _ ≤ _; omega
  have hB0 : Below w.heap.size w ((w.alloc (.cells #[.int .i64 op, .int .i64 n, .string s, .slice a len cap] 24)).alloc (.cells #[.int .i64 op2, .int .i64 n2, .string s2, .slice a2 len2 cap2] 24)) := bt (ab _) (ab _) (Nat.le_refl _)
  have HL := hide (hl.below hB0)
  have HL' := hide (hl2.below hB0)
  have HB0 := hide hB0
  have HA : Hid (RowT 24 ((w.alloc (.cells #[.int .i64 op, .int .i64 n, .string s, .slice a len cap] 24)).alloc (.cells #[.int .i64 op2, .int .i64 n2, .string s2, .slice a2 len2 cap2] 24)) w.heap.size op n s a len cap) := (RowT.new 24 w op n s a len cap).below (ab _)
  have HA' : Hid (RowT 24 ((w.alloc (.cells #[.int .i64 op, .int .i64 n, .string s, .slice a len cap] 24)).alloc (.cells #[.int .i64 op2, .int .i64 n2, .string s2, .slice a2 len2 cap2] 24)) (w.heap.size + 1) op2 n2 s2 a2 len2 cap2) := by
    have := RowT.new 24 (w.alloc (.cells #[.int .i64 op, .int .i64 n, .string s, .slice a len cap] 24)) op2 n2 s2 a2 len2 cap2
    rwa [heap_size_alloc] at this
  clear hl hl2 hB0
  by_cases hw : (t.wt : Int) ≤ 1048576
  · by_cases hw2 : (u.wt : Int) ≤ 1048576 - t.wt
    · have hwp : (0 : Int) ≤ t.wt := by omega
      have hwp2 : (0 : Int) ≤ u.wt := by omega
      have HSZ : Hid (t.size ≤ 2097152) := by show _ ≤ _; omega
      have HSZ' : Hid (u.size ≤ 2097152) := by show _ ≤ _; omega
      have HSZ1 : Hid (t.size + u.size ≤ 2097140) := by show _ ≤ _; omega
      have HTZ : Hid (1 + 3 * T.size ≤ 1099511627776) := by show _ ≤ _; omega
      have hkb : (1 + 3 * Tm.sizes t.kids : Nat) ≤ 4194304 := by have := size_kids t; omega
      have HXZ : Hid (1 + 3 * t.size ≤ 1099511627776) := by show _ ≤ _; omega
      have hkb2 : (1 + 3 * Tm.sizes t.kids + 3 * Tm.sizes u.kids : Nat) ≤ 8388608 := by have := size_kids t; have := size_kids u; omega
      have h9x : Hid (∀ (op n : Int) (s : ByteArray) (a : Option Addr) (len cap : Nat) (w : World) (fp : List Nat), Own w t (tmCells op n s a len cap) fp → fp.Nodup →
          Calls Tryd.prog 12 #[.agg #[.int .i64 op, .int .i64 n, .string s, .slice a len cap], .int .i64 1] w fun e w' => e = .returned (.int .i64 ((1 + 3 * Tm.sizes t.kids : Nat) : Int)) ∧ Own w' (t.marked 1) (tmCells op n s a len cap) fp ∧ Only fp w w') :=
        fun op n s a len cap w fp h hnd => mark_any t op n s a len cap 1 w fp h hnd (Nat.le_refl _) (unhide HXZ)
      have h9y : Hid (∀ (op n : Int) (s : ByteArray) (a : Option Addr) (len cap : Nat) (w : World) (fp : List Nat), Own w u (tmCells op n s a len cap) fp → fp.Nodup →
          Calls Tryd.prog 12 #[.agg #[.int .i64 op, .int .i64 n, .string s, .slice a len cap], .int .i64 ((1 + 3 * Tm.sizes t.kids : Nat) : Int)] w fun e w' => e = .returned (.int .i64 ((1 + 3 * Tm.sizes t.kids + 3 * Tm.sizes u.kids : Nat) : Int)) ∧ Own w' (u.marked (1 + 3 * Tm.sizes t.kids)) (tmCells op n s a len cap) fp ∧ Only fp w w') :=
        fun op n s a len cap w fp h hnd => mark_any u op n s a len cap (1 + 3 * Tm.sizes t.kids) w fp h hnd (by omega) (by omega)
      have h9g : Hid (∀ (op n : Int) (s : ByteArray) (a : Option Addr) (len cap : Nat) (w : World) (fp : List Nat), Own w T (tmCells op n s a len cap) fp → fp.Nodup →
          Calls Tryd.prog 12 #[.agg #[.int .i64 op, .int .i64 n, .string s, .slice a len cap], .int .i64 1] w fun e w' => e = .returned (.int .i64 ((1 + 3 * Tm.sizes T.kids : Nat) : Int)) ∧ Own w' (T.marked 1) (tmCells op n s a len cap) fp ∧ Only fp w w') :=
        fun op n s a len cap w fp h hnd => mark_any T op n s a len cap 1 w fp h hnd (Nat.le_refl _) (unhide HTZ)
      have h10 : Hid (∀ (op n : Int) (s : ByteArray) (a : Option Addr) (len cap : Nat) (w : World), Lies w 0 (T.marked 1) (tmCells op n s a len cap) →
          Calls Tryd.prog 13 #[.agg #[.int .i64 op, .int .i64 n, .string s, .slice a len cap], .int .i64 1] w fun e w' => e = .returned (.int .i64 ((1 + 3 * Tm.sizes T.kids : Nat) : Int)) ∧ Below w.heap.size w w') :=
        fun op n s a len cap w h => held_marked T op n s a len cap 1 w h (Nat.le_refl _) (unhide HTZ)
      have hmb : (1 + 3 * Tm.sizes T.kids : Nat) ≤ 8388608 := by have := unhide HKP; omega
      clear hZ hZ' hTZ
      generalize 1 + 3 * Tm.sizes T.kids = mG at *
      generalize 1 + 3 * Tm.sizes t.kids + 3 * Tm.sizes u.kids = mY at *
      generalize 1 + 3 * Tm.sizes t.kids = mX at *
      generalize hgl : (1048576 : Int) - t.wt = left at *
      generalize hgl2 : left - u.wt = left2 at *
      have hln : 0 ≤ left := by omega
      have hln2 : 0 ≤ left2 := by omega
      have hlb : left ≤ 1048576 := by omega
      go_enter Tryd.func3, Tryd.ntmps3
      go_wp2_with fail
      refine (unhide h11 op n s a len cap _ _ (unhide HL) (by omega) (by omega)).mono ?_
      rintro e w1 ⟨rfl, hb1⟩
      rw [szv_yes hw, hgl]
      have HA1 := hide ((unhide HA).below hb1)
      have HA1' := hide ((unhide HA').below hb1)
      have HL1 := hide ((unhide HL).below hb1)
      have HL1' := hide ((unhide HL').below hb1)
      have HB1 := hide (bt (unhide HB0) hb1 (Nat.le_refl _))
      clear hb1 HL HL' HB0 HA HA' hgl hw hwp h11
      obtain ⟨c0, c1, c2, c3⟩ := (unhide HA1').facts
      go_wp2_with fail
      refine (unhide h11' op2 n2 s2 a2 len2 cap2 _ _ (unhide HL1') (by omega) (by omega)).mono ?_
      rintro e w2 ⟨rfl, hb2⟩
      rw [szv_yes hw2, hgl2]
      have HA2 := hide ((unhide HA1).below hb2)
      have HA2' := hide ((unhide HA1').below hb2)
      have HL2 := hide ((unhide HL1).below hb2)
      have HL2' := hide ((unhide HL1').below hb2)
      have HB2 := hide (bt (unhide HB1) hb2 (Nat.le_refl _))
      clear hb2 HL1 HL1' HB1 HA1 HA1' hgl2 hw2 hwp2 h11' c0 c1 c2 c3
      obtain ⟨c0, c1, c2, c3⟩ := (unhide HA2).facts
      obtain ⟨d0, d1, d2, d3⟩ := (unhide HA2').facts
      have hx0 := lt_of_cell c0
      have hx1 := lt_of_cell d0
      have hxn0 := Nat.ne_of_lt hx0
      have hxm0 := Ne.symm hxn0
      have hxn1 := Nat.ne_of_lt hx1
      have hxm1 := Ne.symm hxn1
      go_wp2_with fail
      go_cut [6] (fun p wx => PairCut T w2 p wx)
      case first =>
        go_region_held3 (fun x => x.cell? ⟨w.heap.size, 0, none⟩ = some (.int .i64 op) ∧ x.cell? ⟨w.heap.size, 1, none⟩ = some (.int .i64 n) ∧ x.cell? ⟨w.heap.size, 2, none⟩ = some (.string s) ∧ x.cell? ⟨w.heap.size, 3, none⟩ = some (.slice a len cap) ∧
            x.cell? ⟨w.heap.size + 1, 0, none⟩ = some (.int .i64 op2) ∧ x.cell? ⟨w.heap.size + 1, 1, none⟩ = some (.int .i64 n2) ∧ x.cell? ⟨w.heap.size + 1, 2, none⟩ = some (.string s2) ∧ x.cell? ⟨w.heap.size + 1, 3, none⟩ = some (.slice a2 len2 cap2)) (go_keep)
          (first
            | (go_at_call_of 9 op
               refine (unhide h13 op n s a len cap _ ?_ (unhide HSZ)).mono ?_
               first
                 | exact (unhide HL2).below ((Below.refl _ _).drew)
                 | exact (unhide HL2).below (((Below.refl _ _).alloc (Nat.le_refl _) _).drew)
               rintro e w3 ⟨a3, fp3, rfl, hO3, _, hb3⟩
               try have zz3 := hide ((ZBox.new w2).drew.below hb3)
               have hb23 : Hid (Below w2.heap.size w2 w3) := by
                 first
                   | exact below_drew' hb3
                   | exact bt (ab _) (below_drew' hb3) (Nat.le_refl _)
               have HO3 := hide hO3.lies0
               have f0 := kpc (unhide hb23) c0
               have f1 := kpc (unhide hb23) c1
               have f2 := kpc (unhide hb23) c2
               have f3 := kpc (unhide hb23) c3
               have f4 := kpc (unhide hb23) d0
               have f5 := kpc (unhide hb23) d1
               have f6 := kpc (unhide hb23) d2
               have f7 := kpc (unhide hb23) d3
               have hy0 := lt_of_cell f0
               have hy1 := lt_of_cell f4
               have hyn0 := Nat.ne_of_lt hy0
               have hym0 := Ne.symm hyn0
               have hyn1 := Nat.ne_of_lt hy1
               have hym1 := Ne.symm hyn1)
            | (go_at_call_of 9 op2
               refine (unhide h13' op2 n2 s2 a2 len2 cap2 _ ?_ (unhide HSZ')).mono ?_
               first
                 | exact (unhide HL2').below (unhide hb23)
                 | exact ((unhide HL2').below (unhide hb23)).below (ab _)
               rintro e w4 ⟨a4, fp4, rfl, hO4, _, hb4⟩
               try have zz4 := hide ((unhide zz3).below hb4)
               try have zz4 := hide ((ZBox.new w3).below hb4)
               have hb34 : Hid (Below w3.heap.size w3 w4) := by
                 first
                   | exact hb4
                   | exact bt (ab _) hb4 (Nat.le_refl _)
               have HO4 := hide hO4.lies0
               have HO34 := hide ((unhide HO3).below (unhide hb34))
               have g0 := kpc (unhide hb34) f0
               have g1 := kpc (unhide hb34) f1
               have g2 := kpc (unhide hb34) f2
               have g3 := kpc (unhide hb34) f3
               have g4 := kpc (unhide hb34) f4
               have g5 := kpc (unhide hb34) f5
               have g6 := kpc (unhide hb34) f6
               have g7 := kpc (unhide hb34) f7
               have hz0 := lt_of_cell g0
               have hz1 := lt_of_cell g4
               have hzn0 := Nat.ne_of_lt hz0
               have hzm0 := Ne.symm hzn0
               have hzn1 := Nat.ne_of_lt hz1
               have hzm1 := Ne.symm hzn1)
            | (go_at_call 8
               refine (unhide h12 op n s a3 len len op2 n2 s2 a4 len2 len2 _ ?_ ?_ (unhide HSZ1)).mono ?_
               first
                 | exact unhide HO34
                 | exact (unhide HO34).below (ab _)
               first
                 | exact unhide HO4
                 | exact (unhide HO4).below (ab _)
               rintro e w5 ⟨opW, nW, sW, aW, lenW, capW, rfl, hL5, hb5⟩
               try have zz5 := hide ((unhide zz4).below hb5)
               try have zz5 := hide ((ZBox.new w4).below hb5)
               have hb45 : Hid (Below w4.heap.size w4 w5) := by
                 first
                   | exact hb5
                   | exact bt (ab _) hb5 (Nat.le_refl _)
               have HL5 := hide hL5
               try obtain ⟨p0, p1, p2, p3, q0, q1, q2, q3⟩ := (unhide zz5).facts
               have j0 := kpc (unhide hb45) g0
               have j1 := kpc (unhide hb45) g1
               have j2 := kpc (unhide hb45) g2
               have j3 := kpc (unhide hb45) g3
               have j4 := kpc (unhide hb45) g4
               have j5 := kpc (unhide hb45) g5
               have j6 := kpc (unhide hb45) g6
               have j7 := kpc (unhide hb45) g7
               have hv0 := lt_of_cell j0
               have hv1 := lt_of_cell j4
               have hvn0 := Nat.ne_of_lt hv0
               have hvm0 := Ne.symm hvn0
               have hvn1 := Nat.ne_of_lt hv1
               have hvm1 := Ne.symm hvn1))
        all_goals
          go_wp2_with fail
          go_meet
          have s23 := (unhide hb23).size
          have s34 := (unhide hb34).size
          have hb25 := bt (bt (unhide hb23) (unhide hb34) (Nat.le_refl _)) (unhide hb45) (Nat.le_refl _)
          first
            | (with_reducible refine PairCut.late ?_ ?_
               exact hb25
               exact (unhide HL5).any (Nat.zero_le _))
            | (with_reducible refine PairCut.early ?_ ?_ ?_ (unhide HL5) ?_
               exact hb25
               exact unhide zz5
               omega
               first
                 | exact lt_of_heap (unhide zz4)
                 | (rw [heap_size_alloc]; omega))
      case rest =>
        obtain ⟨bW, opW, nW, sW, aW, lenW, capW, rfl, hRW, hLW, hbc⟩ := hcut
        have HVB := hide (bt (unhide HB2) hbc (Nat.le_refl _))
        have HVA := hide ((unhide HA2).below hbc)
        have HVA' := hide ((unhide HA2').below hbc)
        have HVLA := hide ((unhide HL2).below hbc)
        have HVLA' := hide ((unhide HL2').below hbc)
        have HVW := hide hRW
        have HVLW := hide hLW
        clear hRW hLW hbc HB2 HA2 HA2' HL2 HL2' c0 c1 c2 c3 d0 d1 d2 d3 hx0 hx1 hxn0 hxn1 hxm0 hxm1
        obtain ⟨c0, c1, c2, c3⟩ := (unhide HVA).facts
        go_wp2_with fail
        refine (unhide h13 op n s a len cap _ (unhide HVLA) (unhide HSZ)).mono ?_
        rintro e w4 ⟨a4, f4, rfl, hO4, ⟨hnd4, hge4⟩, hb4⟩
        have HND4 := hide hnd4
        have HGE4 := hide hge4
        have HLT4 := hide (Own.lt _ _ _ hO4)
        have HV2 := hide (bt hb4 (ab (.cells #[.int .i64 op, .int .i64 n, .string s, .slice a4 len len] 28)) (Nat.le_refl _))
        have HXR := hide (RowT.new 28 w4 op n s a4 len len)
        have HXO := hide (hO4.below (ab (.cells #[.int .i64 op, .int .i64 n, .string s, .slice a4 len len] 28)))
        clear hO4 hnd4 hge4 hb4 c0 c1 c2 c3
        obtain ⟨c0, c1, c2, c3⟩ := ((unhide HVA').below (unhide HV2)).facts
        go_wp2_with fail
        generalize hV2 : w4.alloc (.cells #[.int .i64 op, .int .i64 n, .string s, .slice a4 len len] 28) = V2 at *
        have HGX : Hid (w4.heap.size + 1 = V2.heap.size) := by show _ = _; rw [← hV2, heap_size_alloc]
        generalize w4.heap.size = bX at *
        clear hV2
        refine (unhide h13' op2 n2 s2 a2 len2 cap2 _ ((unhide HVLA').below (unhide HV2)) (unhide HSZ')).mono ?_
        rintro e w5 ⟨a5, f5, rfl, hO5, ⟨hnd5, hge5⟩, hb5⟩
        have HND5 := hide hnd5
        have HGE5 := hide hge5
        have HLT5 := hide (Own.lt _ _ _ hO5)
        have HBY := hide hb5.size
        have hb5' := bt hb5 (ab (.cells #[.int .i64 op2, .int .i64 n2, .string s2, .slice a5 len2 len2] 28)) (Nat.le_refl _)
        have HV25 := hide hb5'
        have HV3 := hide (bt (unhide HV2) hb5' (Nat.le_refl _))
        have HYR := hide (RowT.new 28 w5 op2 n2 s2 a5 len2 len2)
        have HYO := hide (hO5.below (ab (.cells #[.int .i64 op2, .int .i64 n2, .string s2, .slice a5 len2 len2] 28)))
        clear hO5 hnd5 hge5 hb5 hb5' c0 c1 c2 c3
        obtain ⟨c0, c1, c2, c3⟩ := ((unhide HXR).below (unhide HV25)).facts
        obtain ⟨d0, d1, d2, d3⟩ := (unhide HYR).facts
        go_wp2_with fail
        generalize hV3 : w5.alloc (.cells #[.int .i64 op2, .int .i64 n2, .string s2, .slice a5 len2 len2] 28) = V3 at *
        have HGY : Hid (w5.heap.size + 1 = V3.heap.size) := by show _ = _; rw [← hV3, heap_size_alloc]
        generalize w5.heap.size = bY at *
        clear hV3
        refine (unhide h14 op n s a4 len len op2 n2 s2 a5 len2 len2 _ ((unhide HXO).below (unhide HV25)).lies0 (unhide HYO).lies0 (unhide HSZ1) ((unhide HER).on (bt (unhide HVB) (unhide HV3) (Nat.le_refl _)))).mono ?_
        rintro e w6 ⟨opG, nG, sG, aG, lenG, capG, f6, rfl, hO6, ⟨hnd6, hge6⟩, hb6⟩
        have HND6 := hide hnd6
        have HGE6 := hide hge6
        have HLT6 := hide (Own.lt _ _ _ hO6)
        have HBG := hide hb6.size
        have hb6' := bt hb6 (ab (.cells #[.int .i64 opG, .int .i64 nG, .string sG, .slice aG lenG capG] 28)) (Nat.le_refl _)
        have HV36 := hide hb6'
        have HV4 := hide (bt (unhide HV3) hb6' (Nat.le_refl _))
        have HGR := hide (RowT.new 28 w6 opG nG sG aG lenG capG)
        have HGO := hide (hO6.below (ab (.cells #[.int .i64 opG, .int .i64 nG, .string sG, .slice aG lenG capG] 28)))
        clear hO6 hnd6 hge6 hb6 hb6' c0 c1 c2 c3 d0 d1 d2 d3
        obtain ⟨c0, c1, c2, c3⟩ := (unhide HGR).facts
        obtain ⟨d0, d1, d2, d3⟩ := ((unhide HVW).below (unhide HV4)).facts
        go_wp2_with fail
        generalize hV4 : w6.alloc (.cells #[.int .i64 opG, .int .i64 nG, .string sG, .slice aG lenG capG] 28) = V4 at *
        have HGG : Hid (w6.heap.size + 1 = V4.heap.size) := by show _ = _; rw [← hV4, heap_size_alloc]
        generalize w6.heap.size = bG at *
        clear hV4
        refine (unhide h8 T opG nG sG aG lenG capG opW nW sW aW lenW capW _ (unhide HGO).lies0 ((unhide HVLW).below (unhide HV4))).mono ?_
        rintro e w7 ⟨rfl, hb7⟩
        have HV17 := hide (bt (unhide HV4) hb7 (Nat.le_refl _))
        have HV37 := hide (bt (unhide HV36) hb7 (Nat.le_refl _))
        have HV27 := hide (bt (unhide HV25) (unhide HV37) (Nat.le_refl _))
        have HGR7 := hide ((unhide HGR).below hb7)
        have HGO7 := hide ((unhide HGO).below hb7)
        clear hb7 c0 c1 c2 c3 d0 d1 d2 d3 HV4 HV36 HGR HGO
        obtain ⟨c0, c1, c2, c3⟩ := ((unhide HXR).below (unhide HV27)).facts
        obtain ⟨d0, d1, d2, d3⟩ := ((unhide HVA).below (unhide HV17)).facts
        have HLA7 := hide ((unhide HVLA).below (unhide HV17).drew)
        have HXO7 := hide ((unhide HXO).below (unhide HV27).drew)
        go_wp2_with fail
        go_region_held3 (fun x => x.cell? ⟨bX, 0, none⟩ = some (.int .i64 op) ∧ x.cell? ⟨bX, 1, none⟩ = some (.int .i64 n) ∧ x.cell? ⟨bX, 2, none⟩ = some (.string s) ∧ x.cell? ⟨bX, 3, none⟩ = some (.slice a4 len len) ∧
            x.cell? ⟨w.heap.size, 0, none⟩ = some (.int .i64 op) ∧ x.cell? ⟨w.heap.size, 1, none⟩ = some (.int .i64 n) ∧ x.cell? ⟨w.heap.size, 2, none⟩ = some (.string s) ∧ x.cell? ⟨w.heap.size, 3, none⟩ = some (.slice a len cap)) (go_keep)
          (first
            | (go_at_call 9
               refine (unhide h13 op n s a len cap _ (unhide HLA7) (unhide HSZ)).mono ?_
               rintro e w8 ⟨a8, f8, rfl, hO8, _, hb8⟩
               have hb8' := hide (below_drew' hb8)
               have HO8 := hide hO8.lies0
               have HX8 := hide ((unhide HXO7).below hb8).lies0
               have f0 := kpc (unhide hb8') c0
               have f1 := kpc (unhide hb8') c1
               have f2 := kpc (unhide hb8') c2
               have f3 := kpc (unhide hb8') c3
               have f4 := kpc (unhide hb8') d0
               have f5 := kpc (unhide hb8') d1
               have f6 := kpc (unhide hb8') d2
               have f7 := kpc (unhide hb8') d3)
            | (go_at_call 11
               refine (unhide h8 t op n s a4 len len op n s a8 len len _ (unhide HX8) (unhide HO8)).mono ?_
               rintro e w9 ⟨rfl, hc8⟩
               have g0 := kpc hc8 f0
               have g1 := kpc hc8 f1
               have g2 := kpc hc8 f2
               have g3 := kpc hc8 f3
               have g4 := kpc hc8 f4
               have g5 := kpc hc8 f5
               have g6 := kpc hc8 f6
               have g7 := kpc hc8 f7
               have hc8' := hide hc8))
        have HV19 := hide (bt (bt (unhide HV17) (unhide hb8') (Nat.le_refl _)) (unhide hc8') (Nat.le_refl _))
        have HV29 := hide (bt (bt (unhide HV27) (unhide hb8') (Nat.le_refl _)) (unhide hc8') (Nat.le_refl _))
        have HV39 := hide (bt (bt (unhide HV37) (unhide hb8') (Nat.le_refl _)) (unhide hc8') (Nat.le_refl _))
        have HGR9 := hide (((unhide HGR7).below (unhide hb8')).below (unhide hc8'))
        have HGO9 := hide (((unhide HGO7).below (unhide hb8')).below (unhide hc8'))
        clear f0 f1 f2 f3 f4 f5 f6 f7 c0 c1 c2 c3 d0 d1 d2 d3 g0 g1 g2 g3 g4 g5 g6 g7 HV17 HV27 HV37 HGR7 HGO7 HXO7 HLA7 hb8' hc8' HO8 HX8
        obtain ⟨c0, c1, c2, c3⟩ := ((unhide HYR).below (unhide HV39)).facts
        obtain ⟨d0, d1, d2, d3⟩ := ((unhide HVA').below (unhide HV19)).facts
        have HLA9 := hide ((unhide HVLA').below (unhide HV19).drew)
        have HYO9 := hide ((unhide HYO).below (unhide HV39).drew)
        go_wp2_with fail
        go_region_held3 (fun x => x.cell? ⟨bY, 0, none⟩ = some (.int .i64 op2) ∧ x.cell? ⟨bY, 1, none⟩ = some (.int .i64 n2) ∧ x.cell? ⟨bY, 2, none⟩ = some (.string s2) ∧ x.cell? ⟨bY, 3, none⟩ = some (.slice a5 len2 len2) ∧
            x.cell? ⟨w.heap.size + 1, 0, none⟩ = some (.int .i64 op2) ∧ x.cell? ⟨w.heap.size + 1, 1, none⟩ = some (.int .i64 n2) ∧ x.cell? ⟨w.heap.size + 1, 2, none⟩ = some (.string s2) ∧ x.cell? ⟨w.heap.size + 1, 3, none⟩ = some (.slice a2 len2 cap2)) (go_keep)
          (first
            | (go_at_call 9
               refine (unhide h13' op2 n2 s2 a2 len2 cap2 _ (unhide HLA9) (unhide HSZ')).mono ?_
               rintro e w10 ⟨a10, f10, rfl, hO10, _, hb10⟩
               have hb10' := hide (below_drew' hb10)
               have HO10 := hide hO10.lies0
               have HX10 := hide ((unhide HYO9).below hb10).lies0
               have f0 := kpc (unhide hb10') c0
               have f1 := kpc (unhide hb10') c1
               have f2 := kpc (unhide hb10') c2
               have f3 := kpc (unhide hb10') c3
               have f4 := kpc (unhide hb10') d0
               have f5 := kpc (unhide hb10') d1
               have f6 := kpc (unhide hb10') d2
               have f7 := kpc (unhide hb10') d3)
            | (go_at_call 11
               refine (unhide h8 u op2 n2 s2 a5 len2 len2 op2 n2 s2 a10 len2 len2 _ (unhide HX10) (unhide HO10)).mono ?_
               rintro e w11 ⟨rfl, hc10⟩
               have g0 := kpc hc10 f0
               have g1 := kpc hc10 f1
               have g2 := kpc hc10 f2
               have g3 := kpc hc10 f3
               have g4 := kpc hc10 f4
               have g5 := kpc hc10 f5
               have g6 := kpc hc10 f6
               have g7 := kpc hc10 f7
               have hc10' := hide hc10))
        have HV1B := hide (bt (bt (unhide HV19) (unhide hb10') (Nat.le_refl _)) (unhide hc10') (Nat.le_refl _))
        have HV2B := hide (bt (bt (unhide HV29) (unhide hb10') (Nat.le_refl _)) (unhide hc10') (Nat.le_refl _))
        have HV3B := hide (bt (bt (unhide HV39) (unhide hb10') (Nat.le_refl _)) (unhide hc10') (Nat.le_refl _))
        have HGR11 := hide (((unhide HGR9).below (unhide hb10')).below (unhide hc10'))
        have HGO11 := hide (((unhide HGO9).below (unhide hb10')).below (unhide hc10'))
        have HXR11 := hide ((unhide HXR).below (unhide HV2B))
        have HXO11 := hide ((unhide HXO).below (unhide HV2B))
        have HYR11 := hide ((unhide HYR).below (unhide HV3B))
        have HYO11 := hide ((unhide HYO).below (unhide HV3B))
        clear f0 f1 f2 f3 f4 f5 f6 f7 c0 c1 c2 c3 d0 d1 d2 d3 g0 g1 g2 g3 g4 g5 g6 g7 HV19 HV29 HV39 HGR9 HGO9 HYO9 HLA9 hb10' hc10' HO10 HX10 HV2B HV3B
        obtain ⟨c0, c1, c2, c3⟩ := (unhide HXR11).facts
        go_wp2_with fail
        refine (unhide h9x op n s a4 len len _ _ (unhide HXO11) (unhide HND4)).mono ?_
        rintro e w12 ⟨rfl, _, o12⟩
        have HV1C := hide ((unhide HV1B).trans (o12.below (unhide HV1B).size (unhide HGE4)))
        have HYR12 := hide ((unhide HYR11).only o12 (fun hx => by have := unhide HLT4 _ hx; have := unhide HBY; have := unhide HGX; omega))
        have HYO12 := hide ((unhide HYO11).only o12 (fun x hx hx4 => by have := unhide HLT4 _ hx4; have := unhide HGE5 _ hx; have := unhide HGX; omega))
        have HGR12 := hide ((unhide HGR11).only o12 (fun hx => by have := unhide HLT4 _ hx; have := unhide HBG; have := unhide HBY; have := unhide HGX; have := unhide HGY; omega))
        have HGO12 := hide ((unhide HGO11).only o12 (fun x hx hx4 => by have := unhide HLT4 _ hx4; have := unhide HGE6 _ hx; have := unhide HBY; have := unhide HGX; have := unhide HGY; omega))
        clear o12 HV1B HGR11 HGO11 HXO11 HXR11 HYR11 HYO11 c0 c1 c2 c3
        obtain ⟨c0, c1, c2, c3⟩ := (unhide HYR12).facts
        go_wp2_with fail
        refine (unhide h9y op2 n2 s2 a5 len2 len2 _ _ (unhide HYO12) (unhide HND5)).mono ?_
        rintro e w13 ⟨rfl, _, o13⟩
        have HV1D := hide ((unhide HV1C).trans (o13.below (unhide HV1C).size (fun x hx => by have := unhide HGE5 _ hx; have := (unhide HV2).size; omega)))
        have HGR13 := hide ((unhide HGR12).only o13 (fun hx => by have := unhide HLT5 _ hx; have := unhide HBG; have := unhide HGY; omega))
        have HGO13 := hide ((unhide HGO12).only o13 (fun x hx hx5 => by have := unhide HLT5 _ hx5; have := unhide HGE6 _ hx; have := unhide HGY; omega))
        clear o13 HV1C HGR12 HGO12 HYR12 HYO12 c0 c1 c2 c3
        obtain ⟨c0, c1, c2, c3⟩ := (unhide HGR13).facts
        obtain ⟨d0, d1, d2, d3⟩ := ((unhide HVW).below (unhide HV1D)).facts
        go_wp2_with fail
        refine (unhide h8 T opG nG sG aG lenG capG opW nW sW aW lenW capW _ (unhide HGO13).lies0 ((unhide HVLW).below (unhide HV1D))).mono ?_
        rintro e w14 ⟨rfl, hb14⟩
        have HV1E := hide (bt (unhide HV1D) hb14 (Nat.le_refl _))
        have HGR14 := hide ((unhide HGR13).below hb14)
        have HGO14 := hide ((unhide HGO13).below hb14)
        clear hb14 HV1D HGR13 HGO13 c0 c1 c2 c3 d0 d1 d2 d3
        obtain ⟨c0, c1, c2, c3⟩ := (unhide HGR14).facts
        go_wp2_with fail
        refine (unhide h9g opG nG sG aG lenG capG _ _ (unhide HGO14) (unhide HND6)).mono ?_
        rintro e w20 ⟨rfl, k20, o20⟩
        have HV1F := hide ((unhide HV1E).trans (o20.below (unhide HV1E).size (fun x hx => by have := unhide HGE6 _ hx; have := (unhide HV3).size; omega)))
        have HGR20 := hide ((unhide HGR14).only o20 (fun hx => by have := unhide HLT6 _ hx; omega))
        have HGO20 := hide k20.lies0
        clear o20 k20 HV1E HGR14 HGO14 c0 c1 c2 c3
        obtain ⟨c0, c1, c2, c3⟩ := (unhide HGR20).facts
        go_wp2_with fail
        refine (unhide h10 opG nG sG aG lenG capG _ (unhide HGO20)).mono ?_
        rintro e w15 ⟨rfl, hb15⟩
        have HV15 := hide (bt (unhide HV1F) hb15 (Nat.le_refl _))
        have HGR15 := hide ((unhide HGR20).below hb15)
        have HGO15 := hide ((unhide HGO20).below hb15)
        have HER15 := hide ((unhide HER).on (bt (unhide HVB) (unhide HV15) (Nat.le_refl _)))
        have HLA15 := hide ((unhide HVLA).below (unhide HV15))
        have HLB15 := hide ((unhide HVLA').below (unhide HV15))
        clear hb15 HV1F HGR20 HGO20 c0 c1 c2 c3
        obtain ⟨c0, c1, c2, c3⟩ := ((unhide HVA).below (unhide HV15)).facts
        obtain ⟨d0, d1, d2, d3⟩ := ((unhide HVA').below (unhide HV15)).facts
        have hx0 := lt_of_cell c0
        have hx1 := lt_of_cell d0
        have hxn0 := Nat.ne_of_lt hx0
        have hxm0 := Ne.symm hxn0
        have hxn1 := Nat.ne_of_lt hx1
        have hxm1 := Ne.symm hxn1
        go_wp2_with fail
        go_cut [13] (fun p wx => PairCut T w15 p wx)
        case first =>
          go_region_held3 (fun x => x.cell? ⟨w.heap.size, 0, none⟩ = some (.int .i64 op) ∧ x.cell? ⟨w.heap.size, 1, none⟩ = some (.int .i64 n) ∧ x.cell? ⟨w.heap.size, 2, none⟩ = some (.string s) ∧ x.cell? ⟨w.heap.size, 3, none⟩ = some (.slice a len cap) ∧
              x.cell? ⟨w.heap.size + 1, 0, none⟩ = some (.int .i64 op2) ∧ x.cell? ⟨w.heap.size + 1, 1, none⟩ = some (.int .i64 n2) ∧ x.cell? ⟨w.heap.size + 1, 2, none⟩ = some (.string s2) ∧ x.cell? ⟨w.heap.size + 1, 3, none⟩ = some (.slice a2 len2 cap2)) (go_keep)
            (first
              | (go_at_call_of 9 op
                 refine (unhide h13 op n s a len cap _ ?_ (unhide HSZ)).mono ?_
                 first
                   | exact (unhide HLA15).below ((Below.refl _ _).drew)
                   | exact (unhide HLA15).below (((Below.refl _ _).alloc (Nat.le_refl _) _).drew)
                 rintro e w16 ⟨a16, fp3, rfl, hO3, _, hb3⟩
                 try have zz3 := hide ((ZBox.new w15).drew.below hb3)
                 have hb23 : Hid (Below w15.heap.size w15 w16) := by
                   first
                     | exact below_drew' hb3
                     | exact bt (ab _) (below_drew' hb3) (Nat.le_refl _)
                 have HO3 := hide hO3.lies0
                 have f0 := kpc (unhide hb23) c0
                 have f1 := kpc (unhide hb23) c1
                 have f2 := kpc (unhide hb23) c2
                 have f3 := kpc (unhide hb23) c3
                 have f4 := kpc (unhide hb23) d0
                 have f5 := kpc (unhide hb23) d1
                 have f6 := kpc (unhide hb23) d2
                 have f7 := kpc (unhide hb23) d3
                 have hy0 := lt_of_cell f0
                 have hy1 := lt_of_cell f4
                 have hyn0 := Nat.ne_of_lt hy0
                 have hym0 := Ne.symm hyn0
                 have hyn1 := Nat.ne_of_lt hy1
                 have hym1 := Ne.symm hyn1)
              | (go_at_call_of 9 op2
                 refine (unhide h13' op2 n2 s2 a2 len2 cap2 _ ?_ (unhide HSZ')).mono ?_
                 first
                   | exact (unhide HLB15).below (unhide hb23)
                   | exact ((unhide HLB15).below (unhide hb23)).below (ab _)
                 rintro e w17 ⟨a17, fp4, rfl, hO4, _, hb4⟩
                 try have zz4 := hide ((unhide zz3).below hb4)
                 try have zz4 := hide ((ZBox.new w16).below hb4)
                 have hb34 : Hid (Below w16.heap.size w16 w17) := by
                   first
                     | exact hb4
                     | exact bt (ab _) hb4 (Nat.le_refl _)
                 have HO4 := hide hO4.lies0
                 have HO34 := hide ((unhide HO3).below (unhide hb34))
                 have g0 := kpc (unhide hb34) f0
                 have g1 := kpc (unhide hb34) f1
                 have g2 := kpc (unhide hb34) f2
                 have g3 := kpc (unhide hb34) f3
                 have g4 := kpc (unhide hb34) f4
                 have g5 := kpc (unhide hb34) f5
                 have g6 := kpc (unhide hb34) f6
                 have g7 := kpc (unhide hb34) f7
                 have hz0 := lt_of_cell g0
                 have hz1 := lt_of_cell g4
                 have hzn0 := Nat.ne_of_lt hz0
                 have hzm0 := Ne.symm hzn0
                 have hzn1 := Nat.ne_of_lt hz1
                 have hzm1 := Ne.symm hzn1)
              | (go_at_call 10
                 refine (unhide h14 op n s a16 len len op2 n2 s2 a17 len2 len2 _ ?_ ?_ (unhide HSZ1) ?_).mono ?_
                 first
                   | exact unhide HO34
                   | exact (unhide HO34).below (ab _)
                 first
                   | exact unhide HO4
                   | exact (unhide HO4).below (ab _)
                 first
                   | exact (unhide HER15).on (bt (unhide hb23) (unhide hb34) (Nat.le_refl _))
                   | exact (unhide HER15).on (bt (bt (unhide hb23) (unhide hb34) (Nat.le_refl _)) (ab _) (Nat.le_refl _))
                 rintro e w18 ⟨opH, nH, sH, aH, lenH, capH, fH, rfl, hOH, ⟨_, hgeH⟩, hb5⟩
                 try have zz5 := hide ((unhide zz4).below hb5)
                 try have zz5 := hide ((ZBox.new w17).below hb5)
                 have hb45 : Hid (Below w17.heap.size w17 w18) := by
                   first
                     | exact hb5
                     | exact bt (ab _) hb5 (Nat.le_refl _)
                 have HL5 := hide (Own.lies _ _ _ hOH hgeH)
                 try obtain ⟨p0, p1, p2, p3, q0, q1, q2, q3⟩ := (unhide zz5).facts
                 have j0 := kpc (unhide hb45) g0
                 have j1 := kpc (unhide hb45) g1
                 have j2 := kpc (unhide hb45) g2
                 have j3 := kpc (unhide hb45) g3
                 have j4 := kpc (unhide hb45) g4
                 have j5 := kpc (unhide hb45) g5
                 have j6 := kpc (unhide hb45) g6
                 have j7 := kpc (unhide hb45) g7
                 have hv0 := lt_of_cell j0
                 have hv1 := lt_of_cell j4
                 have hvn0 := Nat.ne_of_lt hv0
                 have hvm0 := Ne.symm hvn0
                 have hvn1 := Nat.ne_of_lt hv1
                 have hvm1 := Ne.symm hvn1))
          all_goals
            go_wp2_with fail
            go_meet
            have s23 := (unhide hb23).size
            have s34 := (unhide hb34).size
            have hb25 := bt (bt (unhide hb23) (unhide hb34) (Nat.le_refl _)) (unhide hb45) (Nat.le_refl _)
            first
              | (with_reducible refine PairCut.late ?_ ?_
                 exact hb25
                 exact (unhide HL5).any (Nat.zero_le _))
              | (with_reducible refine PairCut.early ?_ ?_ ?_ (unhide HL5) ?_
                 exact hb25
                 exact unhide zz5
                 omega
                 first
                   | exact lt_of_heap (unhide zz4)
                   | (rw [heap_size_alloc]; omega))
        case rest =>
          obtain ⟨bH, opH, nH, sH, aH, lenH, capH, rfl, hRH, hLH, hbc⟩ := hcut
          have HV1H := hide (bt (unhide HV15) hbc (Nat.le_refl _))
          have HGR16 := hide ((unhide HGR15).below hbc)
          have HGO16 := hide ((unhide HGO15).below hbc)
          have HLH := hide hLH
          clear hbc hLH HV15 HGR15 HGO15 HLA15 HLB15 c0 c1 c2 c3 d0 d1 d2 d3 hx0 hx1 hxn0 hxn1 hxm0 hxm1
          obtain ⟨c0, c1, c2, c3⟩ := hRH.facts
          obtain ⟨d0, d1, d2, d3⟩ := ((unhide HVW).below (unhide HV1H)).facts
          clear hRH
          go_wp2_with fail
          refine (unhide h8 T opH nH sH aH lenH capH opW nW sW aW lenW capW _ (unhide HLH) ((unhide HVLW).below (unhide HV1H))).mono ?_
          rintro e w21 ⟨rfl, hb21⟩
          have HV1I := hide (bt (unhide HV1H) hb21 (Nat.le_refl _))
          have HGR21 := hide ((unhide HGR16).below hb21)
          have HGO21 := hide ((unhide HGO16).below hb21)
          clear hb21 HV1H HGR16 HGO16 HLH c0 c1 c2 c3 d0 d1 d2 d3
          obtain ⟨c0, c1, c2, c3⟩ := (unhide HGR21).facts
          go_wp2_with fail
          refine (unhide h10 opG nG sG aG lenG capG _ (unhide HGO21)).mono ?_
          rintro e w22 ⟨rfl, hb22⟩
          have HV1J := hide (bt (unhide HV1I) hb22 (Nat.le_refl _))
          clear hb22 c0 c1 c2 c3
          go_wp2_with fail
          go_ret
          exact ⟨rfl, (unhide HVB).trans ((unhide HV1J).mono (unhide HVB).size)⟩
    · go_enter Tryd.func3, Tryd.ntmps3
      have hwp : (0 : Int) ≤ t.wt := by omega
      go_wp2_with fail
      refine (unhide h11 op n s a len cap _ _ (unhide HL) (by omega) (by omega)).mono ?_
      rintro e w2 ⟨rfl, hb2⟩
      rw [szv_yes hw]
      generalize hgl : (1048576 : Int) - t.wt = left at *
      have hln : 0 ≤ left := by omega
      have hlb : left ≤ 1048576 := by omega
      have HA2' := hide ((unhide HA').below hb2)
      have HL2' := hide ((unhide HL').below hb2)
      have HB2 := hide (bt (unhide HB0) hb2 (Nat.le_refl _))
      obtain ⟨c0, c1, c2, c3⟩ := (unhide HA2').facts
      clear hgl hw hb2
      go_wp2_with fail
      refine (unhide h11' op2 n2 s2 a2 len2 cap2 _ _ (unhide HL2') (by omega) (by omega)).mono ?_
      rintro e w3 ⟨rfl, hb3⟩
      rw [szv_no (by omega)]
      go_wp2_with fail
      go_ret
      exact ⟨rfl, bt (unhide HB2) hb3 (Nat.le_refl _)⟩
  · go_enter Tryd.func3, Tryd.ntmps3
    go_wp2_with fail
    refine (unhide h11 op n s a len cap _ _ (unhide HL) (by omega) (by omega)).mono ?_
    rintro e w2 ⟨rfl, hb2⟩
    rw [szv_no (by omega)]
    go_wp2_with fail
    go_ret
    exact ⟨rfl, bt (unhide HB0) hb2 (Nat.le_refl _)⟩

end Go.Proofs.YtdmhfembmkappaaDoor
