/- The walks of spec.Pub and impl.Pub: of whatever term lies in memory they answer its open half where that is right, else the zero term; the second in new blocks of its own; nothing that was there is written. The walks of spec.l2Pub and spec.Signed, asked by the open half of the atom 1: what lies behind its signature, or zero and false; nothing that was there is written. -/
import Derived.Test.YtkjbhbhknnamjaaGreatDoorHs
import Derived.Test.YtkjbhbhknnamjaaGreatDoorWq
import Derived.Deep.RegionWith
namespace Go.Proofs.YtkjbhbhknnamjaaGreatDoor
open Go.RowKit Go.Deep

set_option maxRecDepth 100000 in
set_option maxHeartbeats 1000000 in
theorem pubS (t : Tm) (op n : Int) (s : ByteArray) (a : Option Addr) (len cap : Nat) (w : World) (hl : Lies w 0 t (tmCells op n s a len cap)) (hsz : t.size ≤ 2097151) :
    Calls Tryz.prog 44 #[.agg #[.int .i64 op, .int .i64 n, .string s, .slice a len cap]] w fun e w' => ∃ op' n' s' a' len' cap', e = .returned (.agg #[.int .i64 op', .int .i64 n', .string s', .slice a' len' cap']) ∧ Lies w' w.heap.size (madeT 4 [t]) (tmCells op' n' s' a' len' cap') ∧ Below w.heap.size w w' ∧ len' = cap' := by
  have h25 := hide (cz_calls t op n s a len cap)
  have h17 := hide (l3any (.node 4 0 ByteArray.empty [t]))
  have HZ : Hid ((Tm.node 4 0 ByteArray.empty [t]).size ≤ 2097152) := by show _ ≤ _; simp only [Tm.size, Tm.sizes]; omega
  have hB0 : Below w.heap.size w ((w.alloc (.cells #[.int .i64 op, .int .i64 n, .string s, .slice a len cap] 30)).alloc (.cells #[.int .i64 0, .int .i64 0, .string ByteArray.empty, .slice none 0 0] 30)) := bt (ab _) (ab _) (Nat.le_refl _)
  have HL := hide (hl.below hB0)
  have HB0 := hide hB0
  have HX : Hid (ZBox ((w.alloc (.cells #[.int .i64 op, .int .i64 n, .string s, .slice a len cap] 30)).alloc (.cells #[.int .i64 0, .int .i64 0, .string ByteArray.empty, .slice none 0 0] 30)) (w.heap.size + 1)) := by
    have := ZBox.new (w.alloc (.cells #[.int .i64 op, .int .i64 n, .string s, .slice a len cap] 30))
    rwa [heap_size_alloc] at this
  clear hl hB0
  go_enter Tryz.func44, Tryz.ntmps44
  go_wp2_with fail
  refine (unhide h25 _ (unhide HL) (by omega)).mono ?_
  rintro e w2 ⟨a2, cap2, f2, rfl, hO2, ⟨_, hge2⟩, hb2⟩
  have hB3 := bt (bt (unhide HB0) hb2 (Nat.le_refl _)) (ab (.cells #[.int .i64 op, .int .i64 n, .string s, .slice a2 len cap2] 30)) (Nat.le_refl _)
  have HB3 := hide hB3
  have HX3 := hide (((unhide HX).below hb2).below (ab (.cells #[.int .i64 op, .int .i64 n, .string s, .slice a2 len cap2] 30)))
  have HT3 := hide (lies_one (Own.lies _ _ _ hO2 hge2) hb2.size 4 (by decide))
  simp only [heap_size_alloc] at HT3
  clear hO2 hb2 hB3 HB0 HX HL hge2
  go_wp2_with fail
  refine (unhide h17 _ _ _ _ _ _ _ _ (unhide HT3) (unhide HZ)).mono ?_
  rintro e w4 ⟨op', n', s', a', len', cap', rfl, hL4, hb4, htt⟩
  have HTT := hide (htt rfl)
  have HB4 := hide (bt (unhide HB3) hb4 (Nat.le_refl _))
  have hX4 := (unhide HX3).below hb4
  have HL4 := hide hL4
  obtain ⟨d0, d1, d2, d3, e0, e1, e2, e3⟩ := hX4.facts
  clear hb4 hL4 hX4 HB3 HX3 HT3 htt
  go_wp2_with fail
  exact bodyPost_ret (v := .agg #[.int .i64 op', .int .i64 n', .string s', .slice a' len' cap']) (by simp [results, Tryz.results44, go_sem, d0, d1, d2, d3]) rfl ⟨op', n', s', a', len', cap', rfl, set4_lies (unhide HL4) (by omega) _ (by omega), set4_below (unhide HB4) (by omega), unhide HTT⟩

set_option maxRecDepth 100000 in
set_option maxHeartbeats 1000000 in
theorem l2pub33 (t : Tm) (op n : Int) (s : ByteArray) (a : Option Addr) (len cap : Nat) (w : World) (hl : Lies w 0 t (tmCells op n s a len cap)) :
    Calls Tryz.prog 69 #[.agg #[.int .i64 op, .int .i64 n, .string s, .slice a len cap]] w fun e w' => ∃ a', e = .returned (.agg #[.int .i64 4, .int .i64 0, .string ByteArray.empty, .slice a' 1 1]) ∧ Lies w' 0 (.node 4 0 ByteArray.empty [t]) (tmCells 4 0 ByteArray.empty a' 1 1) ∧ Below w.heap.size w w' := by
  have hB2 : Below w.heap.size w ((w.alloc (.cells #[.int .i64 op, .int .i64 n, .string s, .slice a len cap] 30)).alloc (.cells #[.int .i64 4, .int .i64 0, .string ⟨#[]⟩, .slice (some ⟨w.heap.size + 1 + 1, 0, none⟩) 1 1] 30)) := bt (ab _) (ab _) (Nat.le_refl _)
  have HO := lies_one (hl.below hB2) (Nat.zero_le _) 4 (by decide)
  simp only [heap_size_alloc, tmCells] at HO
  have HL := hide HO
  have HB := hide (bt hB2 (ab (.cells #[.int .i64 op, .int .i64 n, .string s, .slice a len cap] 30)) (Nat.le_refl _))
  clear hl HO hB2
  go_enter Tryz.func69, Tryz.ntmps69
  go_wp2_with fail
  have HR := RowT.new 30 (w.alloc (.cells #[.int .i64 op, .int .i64 n, .string s, .slice a len cap] 30)) 4 0 ⟨#[]⟩ (some ⟨w.heap.size + 1 + 1, 0, none⟩) 1 1
  rw [heap_size_alloc] at HR
  obtain ⟨p0, p1, p2, p3⟩ := (HR.below (ab (.cells #[.int .i64 op, .int .i64 n, .string s, .slice a len cap] 30))).facts
  exact bodyPost_ret (v := .agg #[.int .i64 4, .int .i64 0, .string ByteArray.empty, .slice (some ⟨w.heap.size + 1 + 1, 0, none⟩) 1 1]) (by simp [results, Tryz.results69, go_sem, p0, p1, p2, p3]; try rfl) rfl ⟨_, rfl, unhide HL, unhide HB⟩

/-- The open half of the atom that signs. -/
def halfT : Tm := .node 4 0 ByteArray.empty [oneT]
theorem half_same (k : Tm) : sameB halfT (.node 4 0 ByteArray.empty [k]) = sameB k oneT := by
  rw [Bool.eq_iff_iff, same_alike, same_alike]
  unfold halfT
  simp only [Tm.node.injEq, List.cons.injEq, and_true, true_and]
  exact eq_comm

set_option maxRecDepth 100000 in
set_option maxHeartbeats 2000000 in
theorem signed_no1 (t : Tm) (op n : Int) (s : ByteArray) (a : Option Addr) (len cap : Nat) (op2 n2 : Int) (s2 : ByteArray) (a2 : Option Addr) (len2 cap2 : Nat) (w : World) (hl : Lies w 0 t (tmCells op2 n2 s2 a2 len2 cap2)) (hsz : t.size ≤ 2097152) (hok : okT t = false) :
    Calls Tryz.prog 43 #[.agg #[.int .i64 op, .int .i64 n, .string s, .slice a len cap], .agg #[.int .i64 op2, .int .i64 n2, .string s2, .slice a2 len2 cap2]] w fun e w' => e = .returned (.tuple #[.agg #[.int .i64 0, .int .i64 0, .string ByteArray.empty, .slice none 0 0], .bool false]) ∧ Below w.heap.size w w' := by
  have h32 := hide (ok8 t op2 n2 s2 a2 len2 cap2)
  rw [hok] at h32
  have h3 := threeB w op n s a len cap op2 n2 s2 a2 len2 cap2
  go_enter Tryz.func43, Tryz.ntmps43
  go_wp2_with fail
  generalize hgw : (((w.alloc (.cells #[.int .i64 op, .int .i64 n, .string s, .slice a len cap] 30)).alloc (.cells #[.int .i64 op2, .int .i64 n2, .string s2, .slice a2 len2 cap2] 30)).alloc (.cells #[.int .i64 0, .int .i64 0, .string ByteArray.empty, .slice none 0 0] 30)) = W0 at *
  refine gw_world hgw ?_
  clear hgw
  have HB0 := hide h3.bel
  have HL := hide (hl.below h3.bel)
  have HR := hide h3.rz
  have HRA := hide h3.ra
  have HRB := hide h3.rb
  obtain ⟨c0, c1, c2, c3⟩ := h3.rb.facts
  clear h3 hl hok
  first
    | go_region_with (go_at_call 61; refine (unhide h32 _ ((unhide HL).below (Below.refl _ _).drew) hsz).mono ?_; rintro e w2 ⟨rfl, hb2⟩; have hb2' := below_drew' hb2; have HB := hide (bt (unhide HB0) hb2' (Nat.le_refl _)); obtain ⟨d0, d1, d2, d3⟩ := ((unhide HR).below hb2').facts; obtain ⟨e0, e1, e2, e3⟩ := ((unhide HR).below hb2').frozen; obtain ⟨k0, k1, k2, k3⟩ := ((unhide HRB).below hb2').facts; obtain ⟨j0, j1, j2, j3⟩ := ((unhide HRA).below hb2').facts)
    | fail
  all_goals go_wp2_with fail
  all_goals
    exact bodyPost_ret (v := .tuple #[.agg #[.int .i64 0, .int .i64 0, .string ByteArray.empty, .slice none 0 0], .bool false]) (by simp [results, Tryz.results43, go_sem, d0, d1, d2, d3]; try rfl) rfl ⟨rfl, set4_below (unhide HB) (by omega)⟩

set_option maxRecDepth 100000 in
set_option maxHeartbeats 2000000 in
theorem signed_no2 (t : Tm) (op n : Int) (s : ByteArray) (a : Option Addr) (len cap : Nat) (op2 n2 : Int) (s2 : ByteArray) (a2 : Option Addr) (len2 cap2 : Nat) (w : World) (hl : Lies w 0 t (tmCells op2 n2 s2 a2 len2 cap2)) (hsz : t.size ≤ 2097152) (hok : okT t = true) (h8 : op2 ≠ 8) :
    Calls Tryz.prog 43 #[.agg #[.int .i64 op, .int .i64 n, .string s, .slice a len cap], .agg #[.int .i64 op2, .int .i64 n2, .string s2, .slice a2 len2 cap2]] w fun e w' => e = .returned (.tuple #[.agg #[.int .i64 0, .int .i64 0, .string ByteArray.empty, .slice none 0 0], .bool false]) ∧ Below w.heap.size w w' := by
  have h32 := hide (ok8 t op2 n2 s2 a2 len2 cap2)
  rw [hok] at h32
  have q1 : (op2 != 8) = true := by simpa using h8
  have h3 := threeB w op n s a len cap op2 n2 s2 a2 len2 cap2
  go_enter Tryz.func43, Tryz.ntmps43
  go_wp2_with fail
  generalize hgw : (((w.alloc (.cells #[.int .i64 op, .int .i64 n, .string s, .slice a len cap] 30)).alloc (.cells #[.int .i64 op2, .int .i64 n2, .string s2, .slice a2 len2 cap2] 30)).alloc (.cells #[.int .i64 0, .int .i64 0, .string ByteArray.empty, .slice none 0 0] 30)) = W0 at *
  refine gw_world hgw ?_
  clear hgw
  have HB0 := hide h3.bel
  have HL := hide (hl.below h3.bel)
  have HR := hide h3.rz
  have HRA := hide h3.ra
  have HRB := hide h3.rb
  obtain ⟨c0, c1, c2, c3⟩ := h3.rb.facts
  clear h3 hl hok
  first
    | go_region_with (go_at_call 61; refine (unhide h32 _ ((unhide HL).below (Below.refl _ _).drew) hsz).mono ?_; rintro e w2 ⟨rfl, hb2⟩; have hb2' := below_drew' hb2; have HB := hide (bt (unhide HB0) hb2' (Nat.le_refl _)); obtain ⟨d0, d1, d2, d3⟩ := ((unhide HR).below hb2').facts; obtain ⟨e0, e1, e2, e3⟩ := ((unhide HR).below hb2').frozen; obtain ⟨k0, k1, k2, k3⟩ := ((unhide HRB).below hb2').facts; obtain ⟨j0, j1, j2, j3⟩ := ((unhide HRA).below hb2').facts)
    | fail
  all_goals go_wp2_with fail
  all_goals
    exact bodyPost_ret (v := .tuple #[.agg #[.int .i64 0, .int .i64 0, .string ByteArray.empty, .slice none 0 0], .bool false]) (by simp [results, Tryz.results43, go_sem, d0, d1, d2, d3]; try rfl) rfl ⟨rfl, set4_below (unhide HB) (by omega)⟩

set_option maxRecDepth 100000 in
set_option maxHeartbeats 4000000 in
theorem signed_no3 (k0 k1 : Tm) (op n : Int) (s : ByteArray) (a : Option Addr) (len cap : Nat) (n2 : Int) (s2 : ByteArray) (b q cap2 : Nat) (op3 n3 : Int) (s3 : ByteArray) (a3 : Option Addr) (len3 cap3 : Nat) (op4 n4 : Int) (s4 : ByteArray) (a4 : Option Addr) (len4 cap4 : Nat) (w : World)
    (hlf : Lies w 0 halfT (tmCells op n s a len cap)) (hl : Lies w 0 (.node 8 n2 s2 [k0, k1]) (tmCells 8 n2 s2 (some ⟨b, q, none⟩) 2 cap2)) (hsz : (Tm.node 8 n2 s2 [k0, k1]).size ≤ 2097152) (hok : okT (.node 8 n2 s2 [k0, k1]) = true)
    (r0 : w.cell? ⟨b, q, none⟩ = some (.int .i64 op3)) (r1 : w.cell? ⟨b, q + 1, none⟩ = some (.int .i64 n3)) (r2 : w.cell? ⟨b, q + 2, none⟩ = some (.string s3)) (r3 : w.cell? ⟨b, q + 3, none⟩ = some (.slice a3 len3 cap3)) (hk0 : Lies w 0 k0 (tmCells op3 n3 s3 a3 len3 cap3))
    (r4 : w.cell? ⟨b, q + 4, none⟩ = some (.int .i64 op4)) (r5 : w.cell? ⟨b, q + 5, none⟩ = some (.int .i64 n4)) (r6 : w.cell? ⟨b, q + 6, none⟩ = some (.string s4)) (r7 : w.cell? ⟨b, q + 7, none⟩ = some (.slice a4 len4 cap4)) (hk1 : Lies w 0 k1 (tmCells op4 n4 s4 a4 len4 cap4)) (hsm : sameB k0 oneT = false) :
    Calls Tryz.prog 43 #[.agg #[.int .i64 op, .int .i64 n, .string s, .slice a len cap], .agg #[.int .i64 8, .int .i64 n2, .string s2, .slice (some ⟨b, q, none⟩) 2 cap2]] w fun e w' => e = .returned (.tuple #[.agg #[.int .i64 0, .int .i64 0, .string ByteArray.empty, .slice none 0 0], .bool false]) ∧ Below w.heap.size w w' := by
  have h32 := hide (ok8 (.node 8 n2 s2 [k0, k1]) 8 n2 s2 (some ⟨b, q, none⟩) 2 cap2)
  rw [hok] at h32
  have h33 := hide (l2pub33 k0 op3 n3 s3 a3 len3 cap3)
  have h23 := hide (fun aH v hl1 hl2 => sa_calls halfT (.node 4 0 ByteArray.empty [k0]) op n s a len cap 4 0 ByteArray.empty aH 1 1 v hl1 hl2)
  rw [half_same, hsm] at h23
  have h3 := threeB w op n s a len cap 8 n2 s2 (some ⟨b, q, none⟩) 2 cap2
  go_enter Tryz.func43, Tryz.ntmps43
  go_wp2_with fail
  generalize hgw : (((w.alloc (.cells #[.int .i64 op, .int .i64 n, .string s, .slice a len cap] 30)).alloc (.cells #[.int .i64 8, .int .i64 n2, .string s2, .slice (some ⟨b, q, none⟩) 2 cap2] 30)).alloc (.cells #[.int .i64 0, .int .i64 0, .string ByteArray.empty, .slice none 0 0] 30)) = W0 at *
  refine gw_world hgw ?_
  clear hgw
  have HB0 := hide h3.bel
  have HL := hide (hl.below h3.bel)
  have HR := hide h3.rz
  have HRA := hide h3.ra
  have HRB := hide h3.rb
  obtain ⟨c0, c1, c2, c3⟩ := h3.rb.facts
  have HLF := hide (hlf.below h3.bel)
  have HLK := hide (hk0.below h3.bel)
  have HLK1 := hide (hk1.below h3.bel)
  have HK := hide (And.intro (kpc h3.bel r0) (And.intro (kpc h3.bel r1) (And.intro (kpc h3.bel r2) (kpc h3.bel r3))))
  have HK1 := hide (And.intro (kpc h3.bel r4) (And.intro (kpc h3.bel r5) (And.intro (kpc h3.bel r6) (kpc h3.bel r7))))
  obtain ⟨a0', a1', a2', a3'⟩ := h3.ra.facts
  obtain ⟨i0, i1, i2, i3⟩ := unhide HK
  clear h3 hl hlf hk0 hk1 hok r0 r1 r2 r3 r4 r5 r6 r7
  go_region_held3 (fun y => y.cell? ⟨w.heap.size, 0, none⟩ = some (.int .i64 op) ∧ y.cell? ⟨w.heap.size, 1, none⟩ = some (.int .i64 n) ∧ y.cell? ⟨w.heap.size, 2, none⟩ = some (.string s) ∧ y.cell? ⟨w.heap.size, 3, none⟩ = some (.slice a len cap) ∧
      y.cell? ⟨w.heap.size + 1, 0, none⟩ = some (.int .i64 8) ∧ y.cell? ⟨w.heap.size + 1, 1, none⟩ = some (.int .i64 n2) ∧ y.cell? ⟨w.heap.size + 1, 2, none⟩ = some (.string s2) ∧ y.cell? ⟨w.heap.size + 1, 3, none⟩ = some (.slice (some ⟨b, q, none⟩) 2 cap2) ∧
      y.cell? ⟨b, q, none⟩ = some (.int .i64 op3) ∧ y.cell? ⟨b, q + 1, none⟩ = some (.int .i64 n3) ∧ y.cell? ⟨b, q + 2, none⟩ = some (.string s3) ∧ y.cell? ⟨b, q + 3, none⟩ = some (.slice a3 len3 cap3)) (go_keep)
    (first
      | (go_at_call 61
         refine (unhide h32 _ ((unhide HL).below (Below.refl _ _).drew) hsz).mono ?_
         rintro e w2 ⟨rfl, hb2⟩
         have hb2' := hide (below_drew' hb2)
         obtain ⟨b0', b1', b2', b3'⟩ := ((unhide HRA).below (unhide hb2')).facts
         obtain ⟨k0', k1', k2', k3'⟩ := ((unhide HRB).below (unhide hb2')).facts
         have x0 := kpc (unhide hb2') (unhide HK).1
         have x1 := kpc (unhide hb2') (unhide HK).2.1
         have x2 := kpc (unhide hb2') (unhide HK).2.2.1
         have x3 := kpc (unhide hb2') (unhide HK).2.2.2)
      | (go_at_call 69
         refine (unhide h33 _ ((unhide HLK).below (unhide hb2'))).mono ?_
         rintro e w3 ⟨aH, rfl, hL3, hb3⟩
         have hb3' := hide hb3
         have HL3 := hide hL3
         obtain ⟨e0', e1', e2', e3'⟩ := (((unhide HRA).below (unhide hb2')).below hb3).facts
         obtain ⟨f0', f1', f2', f3'⟩ := (((unhide HRB).below (unhide hb2')).below hb3).facts
         have y0 := kpc hb3 x0
         have y1 := kpc hb3 x1
         have y2 := kpc hb3 x2
         have y3 := kpc hb3 x3)
      | (go_at_call 46
         refine (unhide h23 _ _ (((unhide HLF).below (unhide hb2')).below (unhide hb3')) (unhide HL3)).mono ?_
         rintro e w4 ⟨rfl, hb4⟩
         have hb4' := hide hb4
         have HB := hide (bt (bt (bt (unhide HB0) (unhide hb2') (Nat.le_refl _)) (unhide hb3') (Nat.le_refl _)) hb4 (Nat.le_refl _))
         have HRZ := hide ((((unhide HR).below (unhide hb2')).below (unhide hb3')).below hb4)
         obtain ⟨d0, d1, d2, d3⟩ := (unhide HRZ).facts
         obtain ⟨e0, e1, e2, e3⟩ := (unhide HRZ).frozen
         obtain ⟨g0', g1', g2', g3'⟩ := ((((unhide HRA).below (unhide hb2')).below (unhide hb3')).below hb4).facts
         obtain ⟨m0', m1', m2', m3'⟩ := ((((unhide HRB).below (unhide hb2')).below (unhide hb3')).below hb4).facts
         have z0 := kpc hb4 y0
         have z1 := kpc hb4 y1
         have z2 := kpc hb4 y2
         have z3 := kpc hb4 y3))
  all_goals go_wp2_with fail
  all_goals
    exact bodyPost_ret (v := .tuple #[.agg #[.int .i64 0, .int .i64 0, .string ByteArray.empty, .slice none 0 0], .bool false]) (by simp [results, Tryz.results43, go_sem, d0, d1, d2, d3]; try rfl) rfl ⟨rfl, set4_below (unhide HB) (by omega)⟩

set_option maxRecDepth 100000 in
set_option maxHeartbeats 4000000 in
theorem signed_yes (k0 k1 : Tm) (op n : Int) (s : ByteArray) (a : Option Addr) (len cap : Nat) (n2 : Int) (s2 : ByteArray) (b q cap2 : Nat) (op3 n3 : Int) (s3 : ByteArray) (a3 : Option Addr) (len3 cap3 : Nat) (op4 n4 : Int) (s4 : ByteArray) (a4 : Option Addr) (len4 cap4 : Nat) (w : World)
    (hlf : Lies w 0 halfT (tmCells op n s a len cap)) (hl : Lies w 0 (.node 8 n2 s2 [k0, k1]) (tmCells 8 n2 s2 (some ⟨b, q, none⟩) 2 cap2)) (hsz : (Tm.node 8 n2 s2 [k0, k1]).size ≤ 2097152) (hok : okT (.node 8 n2 s2 [k0, k1]) = true)
    (r0 : w.cell? ⟨b, q, none⟩ = some (.int .i64 op3)) (r1 : w.cell? ⟨b, q + 1, none⟩ = some (.int .i64 n3)) (r2 : w.cell? ⟨b, q + 2, none⟩ = some (.string s3)) (r3 : w.cell? ⟨b, q + 3, none⟩ = some (.slice a3 len3 cap3)) (hk0 : Lies w 0 k0 (tmCells op3 n3 s3 a3 len3 cap3))
    (r4 : w.cell? ⟨b, q + 4, none⟩ = some (.int .i64 op4)) (r5 : w.cell? ⟨b, q + 5, none⟩ = some (.int .i64 n4)) (r6 : w.cell? ⟨b, q + 6, none⟩ = some (.string s4)) (r7 : w.cell? ⟨b, q + 7, none⟩ = some (.slice a4 len4 cap4)) (hk1 : Lies w 0 k1 (tmCells op4 n4 s4 a4 len4 cap4)) (hsm : sameB k0 oneT = true) :
    Calls Tryz.prog 43 #[.agg #[.int .i64 op, .int .i64 n, .string s, .slice a len cap], .agg #[.int .i64 8, .int .i64 n2, .string s2, .slice (some ⟨b, q, none⟩) 2 cap2]] w fun e w' => ∃ a' cap', e = .returned (.tuple #[.agg #[.int .i64 op4, .int .i64 n4, .string s4, .slice a' len4 cap'], .bool true]) ∧ Lies w' w.heap.size k1 (tmCells op4 n4 s4 a' len4 cap') ∧ Below w.heap.size w w' := by
  have h32 := hide (ok8 (.node 8 n2 s2 [k0, k1]) 8 n2 s2 (some ⟨b, q, none⟩) 2 cap2)
  rw [hok] at h32
  have h33 := hide (l2pub33 k0 op3 n3 s3 a3 len3 cap3)
  have h23 := hide (fun aH v hl1 hl2 => sa_calls halfT (.node 4 0 ByteArray.empty [k0]) op n s a len cap 4 0 ByteArray.empty aH 1 1 v hl1 hl2)
  rw [half_same, hsm] at h23
  have hk1z : k1.size ≤ 2097152 := by simp only [Tm.size, Tm.sizes] at hsz; omega
  have h34 := hide (fun v hl => cz_calls k1 op4 n4 s4 a4 len4 cap4 v hl hk1z)
  have h3 := threeB w op n s a len cap 8 n2 s2 (some ⟨b, q, none⟩) 2 cap2
  go_enter Tryz.func43, Tryz.ntmps43
  go_wp2_with fail
  generalize hgw : (((w.alloc (.cells #[.int .i64 op, .int .i64 n, .string s, .slice a len cap] 30)).alloc (.cells #[.int .i64 8, .int .i64 n2, .string s2, .slice (some ⟨b, q, none⟩) 2 cap2] 30)).alloc (.cells #[.int .i64 0, .int .i64 0, .string ByteArray.empty, .slice none 0 0] 30)) = W0 at *
  refine gw_world hgw ?_
  clear hgw
  have HB0 := hide h3.bel
  have HL := hide (hl.below h3.bel)
  have HR := hide h3.rz
  have HRA := hide h3.ra
  have HRB := hide h3.rb
  obtain ⟨c0, c1, c2, c3⟩ := h3.rb.facts
  have HLF := hide (hlf.below h3.bel)
  have HLK := hide (hk0.below h3.bel)
  have HLK1 := hide (hk1.below h3.bel)
  have HK := hide (And.intro (kpc h3.bel r0) (And.intro (kpc h3.bel r1) (And.intro (kpc h3.bel r2) (kpc h3.bel r3))))
  have HK1 := hide (And.intro (kpc h3.bel r4) (And.intro (kpc h3.bel r5) (And.intro (kpc h3.bel r6) (kpc h3.bel r7))))
  obtain ⟨a0', a1', a2', a3'⟩ := h3.ra.facts
  obtain ⟨i0, i1, i2, i3⟩ := unhide HK
  clear h3 hl hlf hk0 hk1 hok r0 r1 r2 r3 r4 r5 r6 r7
  go_region_held3 (fun y => y.cell? ⟨w.heap.size, 0, none⟩ = some (.int .i64 op) ∧ y.cell? ⟨w.heap.size, 1, none⟩ = some (.int .i64 n) ∧ y.cell? ⟨w.heap.size, 2, none⟩ = some (.string s) ∧ y.cell? ⟨w.heap.size, 3, none⟩ = some (.slice a len cap) ∧
      y.cell? ⟨w.heap.size + 1, 0, none⟩ = some (.int .i64 8) ∧ y.cell? ⟨w.heap.size + 1, 1, none⟩ = some (.int .i64 n2) ∧ y.cell? ⟨w.heap.size + 1, 2, none⟩ = some (.string s2) ∧ y.cell? ⟨w.heap.size + 1, 3, none⟩ = some (.slice (some ⟨b, q, none⟩) 2 cap2) ∧
      y.cell? ⟨b, q, none⟩ = some (.int .i64 op3) ∧ y.cell? ⟨b, q + 1, none⟩ = some (.int .i64 n3) ∧ y.cell? ⟨b, q + 2, none⟩ = some (.string s3) ∧ y.cell? ⟨b, q + 3, none⟩ = some (.slice a3 len3 cap3)) (go_keep)
    (first
      | (go_at_call 61
         refine (unhide h32 _ ((unhide HL).below (Below.refl _ _).drew) hsz).mono ?_
         rintro e w2 ⟨rfl, hb2⟩
         have hb2' := hide (below_drew' hb2)
         obtain ⟨b0', b1', b2', b3'⟩ := ((unhide HRA).below (unhide hb2')).facts
         obtain ⟨k0', k1', k2', k3'⟩ := ((unhide HRB).below (unhide hb2')).facts
         have x0 := kpc (unhide hb2') (unhide HK).1
         have x1 := kpc (unhide hb2') (unhide HK).2.1
         have x2 := kpc (unhide hb2') (unhide HK).2.2.1
         have x3 := kpc (unhide hb2') (unhide HK).2.2.2)
      | (go_at_call 69
         refine (unhide h33 _ ((unhide HLK).below (unhide hb2'))).mono ?_
         rintro e w3 ⟨aH, rfl, hL3, hb3⟩
         have hb3' := hide hb3
         have HL3 := hide hL3
         obtain ⟨e0', e1', e2', e3'⟩ := (((unhide HRA).below (unhide hb2')).below hb3).facts
         obtain ⟨f0', f1', f2', f3'⟩ := (((unhide HRB).below (unhide hb2')).below hb3).facts
         have y0 := kpc hb3 x0
         have y1 := kpc hb3 x1
         have y2 := kpc hb3 x2
         have y3 := kpc hb3 x3)
      | (go_at_call 46
         refine (unhide h23 _ _ (((unhide HLF).below (unhide hb2')).below (unhide hb3')) (unhide HL3)).mono ?_
         rintro e w4 ⟨rfl, hb4⟩
         have hb4' := hide hb4
         have HB := hide (bt (bt (bt (unhide HB0) (unhide hb2') (Nat.le_refl _)) (unhide hb3') (Nat.le_refl _)) hb4 (Nat.le_refl _))
         have HRZ := hide ((((unhide HR).below (unhide hb2')).below (unhide hb3')).below hb4)
         obtain ⟨d0, d1, d2, d3⟩ := (unhide HRZ).facts
         obtain ⟨e0, e1, e2, e3⟩ := (unhide HRZ).frozen
         obtain ⟨g0', g1', g2', g3'⟩ := ((((unhide HRA).below (unhide hb2')).below (unhide hb3')).below hb4).facts
         obtain ⟨m0', m1', m2', m3'⟩ := ((((unhide HRB).below (unhide hb2')).below (unhide hb3')).below hb4).facts
         have z0 := kpc hb4 y0
         have z1 := kpc hb4 y1
         have z2 := kpc hb4 y2
         have z3 := kpc hb4 y3))
  have HLK4 := hide ((((unhide HLK1).below (unhide hb2')).below (unhide hb3')).below (unhide hb4'))
  obtain ⟨v4, v5, v6, v7⟩ := unhide HK1
  have v4 := kpc (unhide hb4') (kpc (unhide hb3') (kpc (unhide hb2') v4))
  have v5 := kpc (unhide hb4') (kpc (unhide hb3') (kpc (unhide hb2') v5))
  have v6 := kpc (unhide hb4') (kpc (unhide hb3') (kpc (unhide hb2') v6))
  have v7 := kpc (unhide hb4') (kpc (unhide hb3') (kpc (unhide hb2') v7))
  go_wp2_with fail
  refine (unhide h34 _ (unhide HLK4)).mono ?_
  rintro e w5 ⟨a', cap', fp, rfl, hO5, hfp, hb5⟩
  have HB5 := hide (bt (unhide HB) hb5 (Nat.le_refl _))
  have HFP := hide hfp.2
  have HO5 := hide hO5
  have HZ4 : Hid (w.heap.size + 1 + 1 < w4.heap.size) := (unhide HRZ).lt
  clear d0 d1 d2 d3 e0 e1 e2 e3
  obtain ⟨d0, d1, d2, d3⟩ := ((unhide HRZ).below hb5).facts
  obtain ⟨e0, e1, e2, e3⟩ := ((unhide HRZ).below hb5).frozen
  clear hO5 hb5 hfp
  go_wp2_with fail
  exact bodyPost_ret (v := .tuple #[.agg #[.int .i64 op4, .int .i64 n4, .string s4, .slice a' len4 cap'], .bool true]) (by simp [results, Tryz.results43, go_sem, d0, d1, d2, d3]; try rfl) rfl ⟨a', cap', rfl, Own.lies _ _ _ (Own.keep _ _ _ (unhide HO5) fun y hy => set4_heap _ _ _ _ _ _ y (by have := unhide HFP y hy; have := unhide HZ4; omega)) (fun y hy => by have := unhide HFP y hy; have := unhide HZ4; omega), set4_below (unhide HB5) (by omega)⟩

end Go.Proofs.YtkjbhbhknnamjaaGreatDoor
