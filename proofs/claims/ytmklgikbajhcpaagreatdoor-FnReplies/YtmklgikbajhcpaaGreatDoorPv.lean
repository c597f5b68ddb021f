/- The walk of spec.Signed by whatever open half that is right: the body and true, or zero and false; nothing that was there is written. The walks of spec.Proved and impl.Proved, given what CertGood and Signed answer: nothing that was there is written. -/
import Derived.Test.YtmklgikbajhcpaaGreatDoorRa
import Derived.Test.YtmklgikbajhcpaaGreatDoorG1
import Derived.Deep.RegionHeld3
import Derived.Deep.RegionWith
namespace Go.Proofs.YtmklgikbajhcpaaGreatDoor
open Go.RowKit Go.Deep

set_option maxRecDepth 100000 in
theorem half_sameK {k : Tm} (k0 : Tm) : sameB (.node 4 0 ByteArray.empty [k]) (.node 4 0 ByteArray.empty [k0]) = sameB k0 k := by
  rw [Bool.eq_iff_iff, same_alike, same_alike]
  simp only [Tm.node.injEq, List.cons.injEq, and_true, true_and]
  exact eq_comm

set_option maxRecDepth 100000 in
set_option maxHeartbeats 4000000 in
theorem signedK_no3 (k k0 k1 : Tm) (op n : Int) (s : ByteArray) (a : Option Addr) (len cap : Nat) (n2 : Int) (s2 : ByteArray) (b q cap2 : Nat) (op3 n3 : Int) (s3 : ByteArray) (a3 : Option Addr) (len3 cap3 : Nat) (op4 n4 : Int) (s4 : ByteArray) (a4 : Option Addr) (len4 cap4 : Nat) (w : World)
    (hlf : Lies w 0 (.node 4 0 ByteArray.empty [k]) (tmCells op n s a len cap)) (hl : Lies w 0 (.node 8 n2 s2 [k0, k1]) (tmCells 8 n2 s2 (some ⟨b, q, none⟩) 2 cap2)) (hsz : (Tm.node 8 n2 s2 [k0, k1]).size ≤ 2097152) (hok : okT (.node 8 n2 s2 [k0, k1]) = true)
    (r0 : w.cell? ⟨b, q, none⟩ = some (.int .i64 op3)) (r1 : w.cell? ⟨b, q + 1, none⟩ = some (.int .i64 n3)) (r2 : w.cell? ⟨b, q + 2, none⟩ = some (.string s3)) (r3 : w.cell? ⟨b, q + 3, none⟩ = some (.slice a3 len3 cap3)) (hk0 : Lies w 0 k0 (tmCells op3 n3 s3 a3 len3 cap3))
    (r4 : w.cell? ⟨b, q + 4, none⟩ = some (.int .i64 op4)) (r5 : w.cell? ⟨b, q + 5, none⟩ = some (.int .i64 n4)) (r6 : w.cell? ⟨b, q + 6, none⟩ = some (.string s4)) (r7 : w.cell? ⟨b, q + 7, none⟩ = some (.slice a4 len4 cap4)) (hk1 : Lies w 0 k1 (tmCells op4 n4 s4 a4 len4 cap4)) (hsm : sameB k0 k = false) :
    Calls Tryz.prog 59 #[.agg #[.int .i64 op, .int .i64 n, .string s, .slice a len cap], .agg #[.int .i64 8, .int .i64 n2, .string s2, .slice (some ⟨b, q, none⟩) 2 cap2]] w fun e w' => e = .returned (.tuple #[.agg #[.int .i64 0, .int .i64 0, .string ByteArray.empty, .slice none 0 0], .bool false]) ∧ Below w.heap.size w w' := by
  have h32 := hide (ok8 (.node 8 n2 s2 [k0, k1]) 8 n2 s2 (some ⟨b, q, none⟩) 2 cap2)
  rw [hok] at h32
  have h33 := hide (l2pub33 k0 op3 n3 s3 a3 len3 cap3)
  have h23 := hide (fun aH v hl1 hl2 => sa_calls (.node 4 0 ByteArray.empty [k]) (.node 4 0 ByteArray.empty [k0]) op n s a len cap 4 0 ByteArray.empty aH 1 1 v hl1 hl2)
  rw [half_sameK, hsm] at h23
  have h3 := threeB w op n s a len cap 8 n2 s2 (some ⟨b, q, none⟩) 2 cap2
  go_enter Tryz.func59, Tryz.ntmps59
  go_wp2_with fail
  generalize hgw : (((w.alloc (.cells #[.int .i64 op, .int .i64 n, .string s, .slice a len cap] 29)).alloc (.cells #[.int .i64 8, .int .i64 n2, .string s2, .slice (some ⟨b, q, none⟩) 2 cap2] 29)).alloc (.cells #[.int .i64 0, .int .i64 0, .string ByteArray.empty, .slice none 0 0] 29)) = W0 at *
  refine gw_world hgw ?_
  clear hgw
  have HB0 := hide h3.bel
  have HL := hide (hl.below h3.bel)
  have HR := hide h3.rz
  have HRA := hide h3.ra
  have HRB := hide h3.rb
  obtain ⟨c0, c1, c2, c3⟩ := h3.rb.facts
  have HLF := hide (hlf.below h3.bel)
  have HLK := hide (hk0.below h3.bel)
  have HLK1 := hide (hk1.below h3.bel)
  have HK := hide (And.intro (kpc h3.bel r0) (And.intro (kpc h3.bel r1) (And.intro (kpc h3.bel r2) (kpc h3.bel r3))))
  have HK1 := hide (And.intro (kpc h3.bel r4) (And.intro (kpc h3.bel r5) (And.intro (kpc h3.bel r6) (kpc h3.bel r7))))
  obtain ⟨a0', a1', a2', a3'⟩ := h3.ra.facts
  obtain ⟨i0, i1, i2, i3⟩ := unhide HK
  clear h3 hl hlf hk0 hk1 hok r0 r1 r2 r3 r4 r5 r6 r7
  go_region_held3 (fun y => y.cell? ⟨w.heap.size, 0, none⟩ = some (.int .i64 op) ∧ y.cell? ⟨w.heap.size, 1, none⟩ = some (.int .i64 n) ∧ y.cell? ⟨w.heap.size, 2, none⟩ = some (.string s) ∧ y.cell? ⟨w.heap.size, 3, none⟩ = some (.slice a len cap) ∧
      y.cell? ⟨w.heap.size + 1, 0, none⟩ = some (.int .i64 8) ∧ y.cell? ⟨w.heap.size + 1, 1, none⟩ = some (.int .i64 n2) ∧ y.cell? ⟨w.heap.size + 1, 2, none⟩ = some (.string s2) ∧ y.cell? ⟨w.heap.size + 1, 3, none⟩ = some (.slice (some ⟨b, q, none⟩) 2 cap2) ∧
      y.cell? ⟨b, q, none⟩ = some (.int .i64 op3) ∧ y.cell? ⟨b, q + 1, none⟩ = some (.int .i64 n3) ∧ y.cell? ⟨b, q + 2, none⟩ = some (.string s3) ∧ y.cell? ⟨b, q + 3, none⟩ = some (.slice a3 len3 cap3)) (go_keep)
    (first
      | (go_at_call 114
         refine (unhide h32 _ ((unhide HL).below (Below.refl _ _).drew) hsz).mono ?_
         rintro e w2 ⟨rfl, hb2⟩
         have hb2' := hide (below_drew' hb2)
         obtain ⟨b0', b1', b2', b3'⟩ := ((unhide HRA).below (unhide hb2')).facts
         obtain ⟨k0', k1', k2', k3'⟩ := ((unhide HRB).below (unhide hb2')).facts
         have x0 := kpc (unhide hb2') (unhide HK).1
         have x1 := kpc (unhide hb2') (unhide HK).2.1
         have x2 := kpc (unhide hb2') (unhide HK).2.2.1
         have x3 := kpc (unhide hb2') (unhide HK).2.2.2)
      | (go_at_call 116
         refine (unhide h33 _ ((unhide HLK).below (unhide hb2'))).mono ?_
         rintro e w3 ⟨aH, rfl, hL3, hb3⟩
         have hb3' := hide hb3
         have HL3 := hide hL3
         obtain ⟨e0', e1', e2', e3'⟩ := (((unhide HRA).below (unhide hb2')).below hb3).facts
         obtain ⟨f0', f1', f2', f3'⟩ := (((unhide HRB).below (unhide hb2')).below hb3).facts
         have y0 := kpc hb3 x0
         have y1 := kpc hb3 x1
         have y2 := kpc hb3 x2
         have y3 := kpc hb3 x3)
      | (go_at_call 60
         refine (unhide h23 _ _ (((unhide HLF).below (unhide hb2')).below (unhide hb3')) (unhide HL3)).mono ?_
         rintro e w4 ⟨rfl, hb4⟩
         have hb4' := hide hb4
         have HB := hide (bt (bt (bt (unhide HB0) (unhide hb2') (Nat.le_refl _)) (unhide hb3') (Nat.le_refl _)) hb4 (Nat.le_refl _))
         have HRZ := hide ((((unhide HR).below (unhide hb2')).below (unhide hb3')).below hb4)
         obtain ⟨d0, d1, d2, d3⟩ := (unhide HRZ).facts
         obtain ⟨e0, e1, e2, e3⟩ := (unhide HRZ).frozen
         obtain ⟨g0', g1', g2', g3'⟩ := ((((unhide HRA).below (unhide hb2')).below (unhide hb3')).below hb4).facts
         obtain ⟨m0', m1', m2', m3'⟩ := ((((unhide HRB).below (unhide hb2')).below (unhide hb3')).below hb4).facts
         have z0 := kpc hb4 y0
         have z1 := kpc hb4 y1
         have z2 := kpc hb4 y2
         have z3 := kpc hb4 y3))
  all_goals go_wp2_with fail
  all_goals
    exact bodyPost_ret (v := .tuple #[.agg #[.int .i64 0, .int .i64 0, .string ByteArray.empty, .slice none 0 0], .bool false]) (by simp [results, Tryz.results59, go_sem, d0, d1, d2, d3]; try rfl) rfl ⟨rfl, set4_below (unhide HB) (by omega)⟩

set_option maxRecDepth 100000 in
set_option maxHeartbeats 4000000 in
theorem signedK_yes (k k0 k1 : Tm) (op n : Int) (s : ByteArray) (a : Option Addr) (len cap : Nat) (n2 : Int) (s2 : ByteArray) (b q cap2 : Nat) (op3 n3 : Int) (s3 : ByteArray) (a3 : Option Addr) (len3 cap3 : Nat) (op4 n4 : Int) (s4 : ByteArray) (a4 : Option Addr) (len4 cap4 : Nat) (w : World)
    (hlf : Lies w 0 (.node 4 0 ByteArray.empty [k]) (tmCells op n s a len cap)) (hl : Lies w 0 (.node 8 n2 s2 [k0, k1]) (tmCells 8 n2 s2 (some ⟨b, q, none⟩) 2 cap2)) (hsz : (Tm.node 8 n2 s2 [k0, k1]).size ≤ 2097152) (hok : okT (.node 8 n2 s2 [k0, k1]) = true)
    (r0 : w.cell? ⟨b, q, none⟩ = some (.int .i64 op3)) (r1 : w.cell? ⟨b, q + 1, none⟩ = some (.int .i64 n3)) (r2 : w.cell? ⟨b, q + 2, none⟩ = some (.string s3)) (r3 : w.cell? ⟨b, q + 3, none⟩ = some (.slice a3 len3 cap3)) (hk0 : Lies w 0 k0 (tmCells op3 n3 s3 a3 len3 cap3))
    (r4 : w.cell? ⟨b, q + 4, none⟩ = some (.int .i64 op4)) (r5 : w.cell? ⟨b, q + 5, none⟩ = some (.int .i64 n4)) (r6 : w.cell? ⟨b, q + 6, none⟩ = some (.string s4)) (r7 : w.cell? ⟨b, q + 7, none⟩ = some (.slice a4 len4 cap4)) (hk1 : Lies w 0 k1 (tmCells op4 n4 s4 a4 len4 cap4)) (hsm : sameB k0 k = true) :
    Calls Tryz.prog 59 #[.agg #[.int .i64 op, .int .i64 n, .string s, .slice a len cap], .agg #[.int .i64 8, .int .i64 n2, .string s2, .slice (some ⟨b, q, none⟩) 2 cap2]] w fun e w' => ∃ a' cap', e = .returned (.tuple #[.agg #[.int .i64 op4, .int .i64 n4, .string s4, .slice a' len4 cap'], .bool true]) ∧ Lies w' w.heap.size k1 (tmCells op4 n4 s4 a' len4 cap') ∧ Below w.heap.size w w' := by
  have h32 := hide (ok8 (.node 8 n2 s2 [k0, k1]) 8 n2 s2 (some ⟨b, q, none⟩) 2 cap2)
  rw [hok] at h32
  have h33 := hide (l2pub33 k0 op3 n3 s3 a3 len3 cap3)
  have h23 := hide (fun aH v hl1 hl2 => sa_calls (.node 4 0 ByteArray.empty [k]) (.node 4 0 ByteArray.empty [k0]) op n s a len cap 4 0 ByteArray.empty aH 1 1 v hl1 hl2)
  rw [half_sameK, hsm] at h23
  have hk1z : k1.size ≤ 2097152 := by simp only [Tm.size, Tm.sizes] at hsz; omega
  have h34 := hide (fun v hl => cz_calls k1 op4 n4 s4 a4 len4 cap4 v hl hk1z)
  have h3 := threeB w op n s a len cap 8 n2 s2 (some ⟨b, q, none⟩) 2 cap2
  go_enter Tryz.func59, Tryz.ntmps59
  go_wp2_with fail
  generalize hgw : (((w.alloc (.cells #[.int .i64 op, .int .i64 n, .string s, .slice a len cap] 29)).alloc (.cells #[.int .i64 8, .int .i64 n2, .string s2, .slice (some ⟨b, q, none⟩) 2 cap2] 29)).alloc (.cells #[.int .i64 0, .int .i64 0, .string ByteArray.empty, .slice none 0 0] 29)) = W0 at *
  refine gw_world hgw ?_
  clear hgw
  have HB0 := hide h3.bel
  have HL := hide (hl.below h3.bel)
  have HR := hide h3.rz
  have HRA := hide h3.ra
  have HRB := hide h3.rb
  obtain ⟨c0, c1, c2, c3⟩ := h3.rb.facts
  have HLF := hide (hlf.below h3.bel)
  have HLK := hide (hk0.below h3.bel)
  have HLK1 := hide (hk1.below h3.bel)
  have HK := hide (And.intro (kpc h3.bel r0) (And.intro (kpc h3.bel r1) (And.intro (kpc h3.bel r2) (kpc h3.bel r3))))
  have HK1 := hide (And.intro (kpc h3.bel r4) (And.intro (kpc h3.bel r5) (And.intro (kpc h3.bel r6) (kpc h3.bel r7))))
  obtain ⟨a0', a1', a2', a3'⟩ := h3.ra.facts
  obtain ⟨i0, i1, i2, i3⟩ := unhide HK
  clear h3 hl hlf hk0 hk1 hok r0 r1 r2 r3 r4 r5 r6 r7
  go_region_held3 (fun y => y.cell? ⟨w.heap.size, 0, none⟩ = some (.int .i64 op) ∧ y.cell? ⟨w.heap.size, 1, none⟩ = some (.int .i64 n) ∧ y.cell? ⟨w.heap.size, 2, none⟩ = some (.string s) ∧ y.cell? ⟨w.heap.size, 3, none⟩ = some (.slice a len cap) ∧
      y.cell? ⟨w.heap.size + 1, 0, none⟩ = some (.int .i64 8) ∧ y.cell? ⟨w.heap.size + 1, 1, none⟩ = some (.int .i64 n2) ∧ y.cell? ⟨w.heap.size + 1, 2, none⟩ = some (.string s2) ∧ y.cell? ⟨w.heap.size + 1, 3, none⟩ = some (.slice (some ⟨b, q, none⟩) 2 cap2) ∧
      y.cell? ⟨b, q, none⟩ = some (.int .i64 op3) ∧ y.cell? ⟨b, q + 1, none⟩ = some (.int .i64 n3) ∧ y.cell? ⟨b, q + 2, none⟩ = some (.string s3) ∧ y.cell? ⟨b, q + 3, none⟩ = some (.slice a3 len3 cap3)) (go_keep)
    (first
      | (go_at_call 114
         refine (unhide h32 _ ((unhide HL).below (Below.refl _ _).drew) hsz).mono ?_
         rintro e w2 ⟨rfl, hb2⟩
         have hb2' := hide (below_drew' hb2)
         obtain ⟨b0', b1', b2', b3'⟩ := ((unhide HRA).below (unhide hb2')).facts
         obtain ⟨k0', k1', k2', k3'⟩ := ((unhide HRB).below (unhide hb2')).facts
         have x0 := kpc (unhide hb2') (unhide HK).1
         have x1 := kpc (unhide hb2') (unhide HK).2.1
         have x2 := kpc (unhide hb2') (unhide HK).2.2.1
         have x3 := kpc (unhide hb2') (unhide HK).2.2.2)
      | (go_at_call 116
         refine (unhide h33 _ ((unhide HLK).below (unhide hb2'))).mono ?_
         rintro e w3 ⟨aH, rfl, hL3, hb3⟩
         have hb3' := hide hb3
         have HL3 := hide hL3
         obtain ⟨e0', e1', e2', e3'⟩ := (((unhide HRA).below (unhide hb2')).below hb3).facts
         obtain ⟨f0', f1', f2', f3'⟩ := (((unhide HRB).below (unhide hb2')).below hb3).facts
         have y0 := kpc hb3 x0
         have y1 := kpc hb3 x1
         have y2 := kpc hb3 x2
         have y3 := kpc hb3 x3)
      | (go_at_call 60
         refine (unhide h23 _ _ (((unhide HLF).below (unhide hb2')).below (unhide hb3')) (unhide HL3)).mono ?_
         rintro e w4 ⟨rfl, hb4⟩
         have hb4' := hide hb4
         have HB := hide (bt (bt (bt (unhide HB0) (unhide hb2') (Nat.le_refl _)) (unhide hb3') (Nat.le_refl _)) hb4 (Nat.le_refl _))
         have HRZ := hide ((((unhide HR).below (unhide hb2')).below (unhide hb3')).below hb4)
         obtain ⟨d0, d1, d2, d3⟩ := (unhide HRZ).facts
         obtain ⟨e0, e1, e2, e3⟩ := (unhide HRZ).frozen
         obtain ⟨g0', g1', g2', g3'⟩ := ((((unhide HRA).below (unhide hb2')).below (unhide hb3')).below hb4).facts
         obtain ⟨m0', m1', m2', m3'⟩ := ((((unhide HRB).below (unhide hb2')).below (unhide hb3')).below hb4).facts
         have z0 := kpc hb4 y0
         have z1 := kpc hb4 y1
         have z2 := kpc hb4 y2
         have z3 := kpc hb4 y3))
  have HLK4 := hide ((((unhide HLK1).below (unhide hb2')).below (unhide hb3')).below (unhide hb4'))
  obtain ⟨v4, v5, v6, v7⟩ := unhide HK1
  have v4 := kpc (unhide hb4') (kpc (unhide hb3') (kpc (unhide hb2') v4))
  have v5 := kpc (unhide hb4') (kpc (unhide hb3') (kpc (unhide hb2') v5))
  have v6 := kpc (unhide hb4') (kpc (unhide hb3') (kpc (unhide hb2') v6))
  have v7 := kpc (unhide hb4') (kpc (unhide hb3') (kpc (unhide hb2') v7))
  go_wp2_with fail
  refine (unhide h34 _ (unhide HLK4)).mono ?_
  rintro e w5 ⟨a', cap', fp, rfl, hO5, hfp, hb5⟩
  have HB5 := hide (bt (unhide HB) hb5 (Nat.le_refl _))
  have HFP := hide hfp.2
  have HO5 := hide hO5
  have HZ4 : Hid (w.heap.size + 1 + 1 < w4.heap.size) := (unhide HRZ).lt
  clear d0 d1 d2 d3 e0 e1 e2 e3
  obtain ⟨d0, d1, d2, d3⟩ := ((unhide HRZ).below hb5).facts
  obtain ⟨e0, e1, e2, e3⟩ := ((unhide HRZ).below hb5).frozen
  clear hO5 hb5 hfp
  go_wp2_with fail
  exact bodyPost_ret (v := .tuple #[.agg #[.int .i64 op4, .int .i64 n4, .string s4, .slice a' len4 cap'], .bool true]) (by simp [results, Tryz.results59, go_sem, d0, d1, d2, d3]; try rfl) rfl ⟨a', cap', rfl, Own.lies _ _ _ (Own.keep _ _ _ (unhide HO5) fun y hy => set4_heap _ _ _ _ _ _ y (by have := unhide HFP y hy; have := unhide HZ4; omega)) (fun y hy => by have := unhide HFP y hy; have := unhide HZ4; omega), set4_below (unhide HB5) (by omega)⟩

set_option maxRecDepth 100000 in
theorem signedS_none (k t : Tm) (op n : Int) (s : ByteArray) (a : Option Addr) (len cap : Nat) (op2 n2 : Int) (s2 : ByteArray) (a2 : Option Addr) (len2 cap2 : Nat) (w : World) (hlf : Lies w 0 (.node 4 0 ByteArray.empty [k]) (tmCells op n s a len cap)) (hl : Lies w 0 t (tmCells op2 n2 s2 a2 len2 cap2)) (hsz : t.size ≤ 2097152) (hb : behO 8 k t = none) :
    Calls Tryz.prog 59 #[.agg #[.int .i64 op, .int .i64 n, .string s, .slice a len cap], .agg #[.int .i64 op2, .int .i64 n2, .string s2, .slice a2 len2 cap2]] w fun e w' => e = .returned (.tuple #[.agg #[.int .i64 0, .int .i64 0, .string ByteArray.empty, .slice none 0 0], .bool false]) ∧ Below w.heap.size w w' := by
  cases hok : okT t with
  | false => exact signed_no1 t op n s a len cap op2 n2 s2 a2 len2 cap2 w hl hsz hok
  | true =>
    by_cases h1 : op2 = 8
    · obtain ⟨opt, nt, st, ks⟩ := t
      have h2 : op2 = opt := by
        have hx := hl
        simp only [Lies, tmCells, List.cons.injEq, Value.int.injEq, true_and] at hx
        obtain ⟨_, _, ⟨h, _⟩, _⟩ := hx
        exact h
      subst h2
      subst h1
      obtain ⟨k0, k1, rfl⟩ := ok_two (by decide) hok
      obtain ⟨-, rfl, rfl, rfl, b, q, op3, n3, s3, a3, len3, cap3, op4, n4, s4, a4, len4, cap4, rfl, ⟨r0, r1, r2, r3, hk0⟩, r4, r5, r6, r7, hk1⟩ := lies_kids hl
      refine signedK_no3 k k0 k1 op n s a len cap n2 s2 b q cap2 op3 n3 s3 a3 len3 cap3 op4 n4 s4 a4 len4 cap4 w hlf hl hsz hok r0 r1 r2 r3 hk0 r4 r5 r6 r7 hk1 ?_
      simp only [behO, hok, decide_true, Bool.true_and] at hb
      cases hs : sameB k0 k with
      | false => rfl
      | true => rw [hs] at hb; simp at hb
    · exact signed_no2 t op n s a len cap op2 n2 s2 a2 len2 cap2 w hl hsz hok h1

set_option maxRecDepth 100000 in
theorem signedS_some (k t u : Tm) (op n : Int) (s : ByteArray) (a : Option Addr) (len cap : Nat) (op2 n2 : Int) (s2 : ByteArray) (a2 : Option Addr) (len2 cap2 : Nat) (w : World) (hlf : Lies w 0 (.node 4 0 ByteArray.empty [k]) (tmCells op n s a len cap)) (hl : Lies w 0 t (tmCells op2 n2 s2 a2 len2 cap2)) (hsz : t.size ≤ 2097152) (hb : behO 8 k t = some u) :
    Calls Tryz.prog 59 #[.agg #[.int .i64 op, .int .i64 n, .string s, .slice a len cap], .agg #[.int .i64 op2, .int .i64 n2, .string s2, .slice a2 len2 cap2]] w fun e w' => ∃ op' n' s' a' len' cap', e = .returned (.tuple #[.agg #[.int .i64 op', .int .i64 n', .string s', .slice a' len' cap'], .bool true]) ∧ Lies w' 0 u (tmCells op' n' s' a' len' cap') ∧ Below w.heap.size w w' := by
  obtain ⟨nt, st, k0, rfl, hok, hs⟩ := behO_some hb
  obtain ⟨rfl, rfl, rfl, rfl, b, q, op3, n3, s3, a3, len3, cap3, op4, n4, s4, a4, len4, cap4, rfl, ⟨r0, r1, r2, r3, hk0⟩, r4, r5, r6, r7, hk1⟩ := lies_kids hl
  refine (signedK_yes k k0 u op n s a len cap n2 s2 b q cap2 op3 n3 s3 a3 len3 cap3 op4 n4 s4 a4 len4 cap4 w hlf hl hsz hok r0 r1 r2 r3 hk0 r4 r5 r6 r7 hk1 hs).mono ?_
  rintro e w' ⟨a', cap', he, hL, hb'⟩
  exact ⟨_, _, _, _, _, _, he, hL.any (Nat.zero_le _), hb'⟩

set_option maxRecDepth 100000 in
set_option maxHeartbeats 2000000 in
theorem provedS0 (KT : Tm) (op n : Int) (s : ByteArray) (a : Option Addr) (len cap : Nat) (op2 n2 : Int) (s2 : ByteArray) (a2 : Option Addr) (len2 cap2 : Nat) (op5 n5 : Int) (s5 : ByteArray) (a5 : Option Addr) (len5 cap5 : Nat) (op6 n6 : Int) (s6 : ByteArray) (a6 : Option Addr) (len6 cap6 : Nat) (hs : ByteArray) (m : Int) (w : World)
    (hG : ∀ V, Below w.heap.size w V → Calls Tryz.prog 51 #[.agg #[.int .i64 op5, .int .i64 n5, .string s5, .slice a5 len5 cap5], .string hs, .int .i64 m] V fun e w' => ∃ op7 n7 s7 a7 len7 cap7, e = .returned (.tuple #[.agg #[.int .i64 op7, .int .i64 n7, .string s7, .slice a7 len7 cap7], .bool false]) ∧ Lies w' 0 KT (tmCells op7 n7 s7 a7 len7 cap7) ∧ Below V.heap.size V w')
    
      :
    Calls Tryz.prog 10 #[.agg #[.int .i64 op, .int .i64 n, .string s, .slice a len cap], .agg #[.int .i64 op2, .int .i64 n2, .string s2, .slice a2 len2 cap2], .agg #[.int .i64 op5, .int .i64 n5, .string s5, .slice a5 len5 cap5], .agg #[.int .i64 op6, .int .i64 n6, .string s6, .slice a6 len6 cap6], .string hs, .int .i64 m] w fun e w' => e = .returned (.bool false) ∧ Below w.heap.size w w' := by
  have hB0 : Below w.heap.size w ((((w.alloc (.cells #[.int .i64 op, .int .i64 n, .string s, .slice a len cap] 29)).alloc (.cells #[.int .i64 op2, .int .i64 n2, .string s2, .slice a2 len2 cap2] 29)).alloc (.cells #[.int .i64 op5, .int .i64 n5, .string s5, .slice a5 len5 cap5] 29)).alloc (.cells #[.int .i64 op6, .int .i64 n6, .string s6, .slice a6 len6 cap6] 29)) := bt (bt (bt (ab _) (ab _) (Nat.le_refl _)) (ab _) (Nat.le_refl _)) (ab _) (Nat.le_refl _)
  have HA0 : Hid (RowT 29 ((((w.alloc (.cells #[.int .i64 op, .int .i64 n, .string s, .slice a len cap] 29)).alloc (.cells #[.int .i64 op2, .int .i64 n2, .string s2, .slice a2 len2 cap2] 29)).alloc (.cells #[.int .i64 op5, .int .i64 n5, .string s5, .slice a5 len5 cap5] 29)).alloc (.cells #[.int .i64 op6, .int .i64 n6, .string s6, .slice a6 len6 cap6] 29)) (w.heap.size) op n s a len cap) := by
    have := ((((RowT.new 29 w op n s a len cap).below (ab (.cells #[.int .i64 op2, .int .i64 n2, .string s2, .slice a2 len2 cap2] 29))).below (ab (.cells #[.int .i64 op5, .int .i64 n5, .string s5, .slice a5 len5 cap5] 29))).below (ab (.cells #[.int .i64 op6, .int .i64 n6, .string s6, .slice a6 len6 cap6] 29)))
    exact this
  have HA1 : Hid (RowT 29 ((((w.alloc (.cells #[.int .i64 op, .int .i64 n, .string s, .slice a len cap] 29)).alloc (.cells #[.int .i64 op2, .int .i64 n2, .string s2, .slice a2 len2 cap2] 29)).alloc (.cells #[.int .i64 op5, .int .i64 n5, .string s5, .slice a5 len5 cap5] 29)).alloc (.cells #[.int .i64 op6, .int .i64 n6, .string s6, .slice a6 len6 cap6] 29)) (w.heap.size + 1) op2 n2 s2 a2 len2 cap2) := by
    have := (((RowT.new 29 (w.alloc (.cells #[.int .i64 op, .int .i64 n, .string s, .slice a len cap] 29)) op2 n2 s2 a2 len2 cap2).below (ab (.cells #[.int .i64 op5, .int .i64 n5, .string s5, .slice a5 len5 cap5] 29))).below (ab (.cells #[.int .i64 op6, .int .i64 n6, .string s6, .slice a6 len6 cap6] 29)))
    rwa [heap_size_alloc] at this
  have HA2 : Hid (RowT 29 ((((w.alloc (.cells #[.int .i64 op, .int .i64 n, .string s, .slice a len cap] 29)).alloc (.cells #[.int .i64 op2, .int .i64 n2, .string s2, .slice a2 len2 cap2] 29)).alloc (.cells #[.int .i64 op5, .int .i64 n5, .string s5, .slice a5 len5 cap5] 29)).alloc (.cells #[.int .i64 op6, .int .i64 n6, .string s6, .slice a6 len6 cap6] 29)) (w.heap.size + 1 + 1) op5 n5 s5 a5 len5 cap5) := by
    have := ((RowT.new 29 ((w.alloc (.cells #[.int .i64 op, .int .i64 n, .string s, .slice a len cap] 29)).alloc (.cells #[.int .i64 op2, .int .i64 n2, .string s2, .slice a2 len2 cap2] 29)) op5 n5 s5 a5 len5 cap5).below (ab (.cells #[.int .i64 op6, .int .i64 n6, .string s6, .slice a6 len6 cap6] 29)))
    rwa [heap_size_alloc, heap_size_alloc] at this
  have HA3 : Hid (RowT 29 ((((w.alloc (.cells #[.int .i64 op, .int .i64 n, .string s, .slice a len cap] 29)).alloc (.cells #[.int .i64 op2, .int .i64 n2, .string s2, .slice a2 len2 cap2] 29)).alloc (.cells #[.int .i64 op5, .int .i64 n5, .string s5, .slice a5 len5 cap5] 29)).alloc (.cells #[.int .i64 op6, .int .i64 n6, .string s6, .slice a6 len6 cap6] 29)) (w.heap.size + 1 + 1 + 1) op6 n6 s6 a6 len6 cap6) := by
    have := (RowT.new 29 (((w.alloc (.cells #[.int .i64 op, .int .i64 n, .string s, .slice a len cap] 29)).alloc (.cells #[.int .i64 op2, .int .i64 n2, .string s2, .slice a2 len2 cap2] 29)).alloc (.cells #[.int .i64 op5, .int .i64 n5, .string s5, .slice a5 len5 cap5] 29)) op6 n6 s6 a6 len6 cap6)
    rwa [heap_size_alloc, heap_size_alloc, heap_size_alloc] at this
  have HB0 := hide hB0
  have HG := hide hG
  clear hB0 hG
  obtain ⟨c0, c1, c2, c3⟩ := (unhide HA2).facts
  go_enter Tryz.func10, Tryz.ntmps10
  go_wp2_with fail
  generalize hgw : ((((w.alloc (.cells #[.int .i64 op, .int .i64 n, .string s, .slice a len cap] 29)).alloc (.cells #[.int .i64 op2, .int .i64 n2, .string s2, .slice a2 len2 cap2] 29)).alloc (.cells #[.int .i64 op5, .int .i64 n5, .string s5, .slice a5 len5 cap5] 29)).alloc (.cells #[.int .i64 op6, .int .i64 n6, .string s6, .slice a6 len6 cap6] 29)) = W1 at *
  clear hgw
  refine (unhide HG _ (unhide HB0)).mono ?_
  rintro e w2 ⟨op7, n7, s7, a7, len7, cap7, rfl, hL, hb⟩
  have hb2 := bt hb (ab (.cells #[.int .i64 op7, .int .i64 n7, .string s7, .slice a7 len7 cap7] 29)) (Nat.le_refl _)
  have HB2 := hide (bt (unhide HB0) hb2 (Nat.le_refl _))
  have HA0 := hide ((unhide HA0).below hb2)
  have HA1 := hide ((unhide HA1).below hb2)
  have HA3 := hide ((unhide HA3).below hb2)
  have HLK := hide (hL.below (ab (.cells #[.int .i64 op7, .int .i64 n7, .string s7, .slice a7 len7 cap7] 29)))
  have HK := hide (RowT.new 29 w2 op7 n7 s7 a7 len7 cap7)
  clear hb hb2 hL c0 c1 c2 c3 HB0
  go_wp2_with fail
  go_ret
  exact ⟨rfl, unhide HB2⟩

set_option maxRecDepth 100000 in
set_option maxHeartbeats 2000000 in
theorem provedS1 (KT BT : Tm) (op n : Int) (s : ByteArray) (a : Option Addr) (len cap : Nat) (op2 n2 : Int) (s2 : ByteArray) (a2 : Option Addr) (len2 cap2 : Nat) (op5 n5 : Int) (s5 : ByteArray) (a5 : Option Addr) (len5 cap5 : Nat) (op6 n6 : Int) (s6 : ByteArray) (a6 : Option Addr) (len6 cap6 : Nat) (hs : ByteArray) (m : Int) (w : World)
    (hG : ∀ V, Below w.heap.size w V → Calls Tryz.prog 51 #[.agg #[.int .i64 op5, .int .i64 n5, .string s5, .slice a5 len5 cap5], .string hs, .int .i64 m] V fun e w' => ∃ op7 n7 s7 a7 len7 cap7, e = .returned (.tuple #[.agg #[.int .i64 op7, .int .i64 n7, .string s7, .slice a7 len7 cap7], .bool true]) ∧ Lies w' 0 KT (tmCells op7 n7 s7 a7 len7 cap7) ∧ Below V.heap.size V w')
    (hS : ∀ (op7 n7 : Int) (s7 : ByteArray) (a7 : Option Addr) (len7 cap7 : Nat) V, Below w.heap.size w V → Lies V 0 KT (tmCells op7 n7 s7 a7 len7 cap7) → Calls Tryz.prog 59 #[.agg #[.int .i64 op7, .int .i64 n7, .string s7, .slice a7 len7 cap7], .agg #[.int .i64 op6, .int .i64 n6, .string s6, .slice a6 len6 cap6]] V fun e w' => ∃ op8 n8 s8 a8 len8 cap8, e = .returned (.tuple #[.agg #[.int .i64 op8, .int .i64 n8, .string s8, .slice a8 len8 cap8], .bool false]) ∧ Lies w' 0 BT (tmCells op8 n8 s8 a8 len8 cap8) ∧ Below V.heap.size V w')
      :
    Calls Tryz.prog 10 #[.agg #[.int .i64 op, .int .i64 n, .string s, .slice a len cap], .agg #[.int .i64 op2, .int .i64 n2, .string s2, .slice a2 len2 cap2], .agg #[.int .i64 op5, .int .i64 n5, .string s5, .slice a5 len5 cap5], .agg #[.int .i64 op6, .int .i64 n6, .string s6, .slice a6 len6 cap6], .string hs, .int .i64 m] w fun e w' => e = .returned (.bool false) ∧ Below w.heap.size w w' := by
  have hB0 : Below w.heap.size w ((((w.alloc (.cells #[.int .i64 op, .int .i64 n, .string s, .slice a len cap] 29)).alloc (.cells #[.int .i64 op2, .int .i64 n2, .string s2, .slice a2 len2 cap2] 29)).alloc (.cells #[.int .i64 op5, .int .i64 n5, .string s5, .slice a5 len5 cap5] 29)).alloc (.cells #[.int .i64 op6, .int .i64 n6, .string s6, .slice a6 len6 cap6] 29)) := bt (bt (bt (ab _) (ab _) (Nat.le_refl _)) (ab _) (Nat.le_refl _)) (ab _) (Nat.le_refl _)
  have HA0 : Hid (RowT 29 ((((w.alloc (.cells #[.int .i64 op, .int .i64 n, .string s, .slice a len cap] 29)).alloc (.cells #[.int .i64 op2, .int .i64 n2, .string s2, .slice a2 len2 cap2] 29)).alloc (.cells #[.int .i64 op5, .int .i64 n5, .string s5, .slice a5 len5 cap5] 29)).alloc (.cells #[.int .i64 op6, .int .i64 n6, .string s6, .slice a6 len6 cap6] 29)) (w.heap.size) op n s a len cap) := by
    have := ((((RowT.new 29 w op n s a len cap).below (ab (.cells #[.int .i64 op2, .int .i64 n2, .string s2, .slice a2 len2 cap2] 29))).below (ab (.cells #[.int .i64 op5, .int .i64 n5, .string s5, .slice a5 len5 cap5] 29))).below (ab (.cells #[.int .i64 op6, .int .i64 n6, .string s6, .slice a6 len6 cap6] 29)))
    exact this
  have HA1 : Hid (RowT 29 ((((w.alloc (.cells #[.int .i64 op, .int .i64 n, .string s, .slice a len cap] 29)).alloc (.cells #[.int .i64 op2, .int .i64 n2, .string s2, .slice a2 len2 cap2] 29)).alloc (.cells #[.int .i64 op5, .int .i64 n5, .string s5, .slice a5 len5 cap5] 29)).alloc (.cells #[.int .i64 op6, .int .i64 n6, .string s6, .slice a6 len6 cap6] 29)) (w.heap.size + 1) op2 n2 s2 a2 len2 cap2) := by
    have := (((RowT.new 29 (w.alloc (.cells #[.int .i64 op, .int .i64 n, .string s, .slice a len cap] 29)) op2 n2 s2 a2 len2 cap2).below (ab (.cells #[.int .i64 op5, .int .i64 n5, .string s5, .slice a5 len5 cap5] 29))).below (ab (.cells #[.int .i64 op6, .int .i64 n6, .string s6, .slice a6 len6 cap6] 29)))
    rwa [heap_size_alloc] at this
  have HA2 : Hid (RowT 29 ((((w.alloc (.cells #[.int .i64 op, .int .i64 n, .string s, .slice a len cap] 29)).alloc (.cells #[.int .i64 op2, .int .i64 n2, .string s2, .slice a2 len2 cap2] 29)).alloc (.cells #[.int .i64 op5, .int .i64 n5, .string s5, .slice a5 len5 cap5] 29)).alloc (.cells #[.int .i64 op6, .int .i64 n6, .string s6, .slice a6 len6 cap6] 29)) (w.heap.size + 1 + 1) op5 n5 s5 a5 len5 cap5) := by
    have := ((RowT.new 29 ((w.alloc (.cells #[.int .i64 op, .int .i64 n, .string s, .slice a len cap] 29)).alloc (.cells #[.int .i64 op2, .int .i64 n2, .string s2, .slice a2 len2 cap2] 29)) op5 n5 s5 a5 len5 cap5).below (ab (.cells #[.int .i64 op6, .int .i64 n6, .string s6, .slice a6 len6 cap6] 29)))
    rwa [heap_size_alloc, heap_size_alloc] at this
  have HA3 : Hid (RowT 29 ((((w.alloc (.cells #[.int .i64 op, .int .i64 n, .string s, .slice a len cap] 29)).alloc (.cells #[.int .i64 op2, .int .i64 n2, .string s2, .slice a2 len2 cap2] 29)).alloc (.cells #[.int .i64 op5, .int .i64 n5, .string s5, .slice a5 len5 cap5] 29)).alloc (.cells #[.int .i64 op6, .int .i64 n6, .string s6, .slice a6 len6 cap6] 29)) (w.heap.size + 1 + 1 + 1) op6 n6 s6 a6 len6 cap6) := by
    have := (RowT.new 29 (((w.alloc (.cells #[.int .i64 op, .int .i64 n, .string s, .slice a len cap] 29)).alloc (.cells #[.int .i64 op2, .int .i64 n2, .string s2, .slice a2 len2 cap2] 29)).alloc (.cells #[.int .i64 op5, .int .i64 n5, .string s5, .slice a5 len5 cap5] 29)) op6 n6 s6 a6 len6 cap6)
    rwa [heap_size_alloc, heap_size_alloc, heap_size_alloc] at this
  have HB0 := hide hB0
  have HG := hide hG
  have HS := hide hS
  clear hB0 hG hS
  obtain ⟨c0, c1, c2, c3⟩ := (unhide HA2).facts
  go_enter Tryz.func10, Tryz.ntmps10
  go_wp2_with fail
  generalize hgw : ((((w.alloc (.cells #[.int .i64 op, .int .i64 n, .string s, .slice a len cap] 29)).alloc (.cells #[.int .i64 op2, .int .i64 n2, .string s2, .slice a2 len2 cap2] 29)).alloc (.cells #[.int .i64 op5, .int .i64 n5, .string s5, .slice a5 len5 cap5] 29)).alloc (.cells #[.int .i64 op6, .int .i64 n6, .string s6, .slice a6 len6 cap6] 29)) = W1 at *
  clear hgw
  refine (unhide HG _ (unhide HB0)).mono ?_
  rintro e w2 ⟨op7, n7, s7, a7, len7, cap7, rfl, hL, hb⟩
  have hb2 := bt hb (ab (.cells #[.int .i64 op7, .int .i64 n7, .string s7, .slice a7 len7 cap7] 29)) (Nat.le_refl _)
  have HB2 := hide (bt (unhide HB0) hb2 (Nat.le_refl _))
  have HA0 := hide ((unhide HA0).below hb2)
  have HA1 := hide ((unhide HA1).below hb2)
  have HA3 := hide ((unhide HA3).below hb2)
  have HLK := hide (hL.below (ab (.cells #[.int .i64 op7, .int .i64 n7, .string s7, .slice a7 len7 cap7] 29)))
  have HK := hide (RowT.new 29 w2 op7 n7 s7 a7 len7 cap7)
  clear hb hb2 hL c0 c1 c2 c3 HB0
  obtain ⟨c0, c1, c2, c3⟩ := (unhide HK).facts
  obtain ⟨d0, d1, d2, d3⟩ := (unhide HA3).facts
  go_wp2_with fail
  generalize hgw : w2.alloc (.cells #[.int .i64 op7, .int .i64 n7, .string s7, .slice a7 len7 cap7] 29) = W2 at *
  clear hgw
  generalize w2.heap.size = bK at *
  refine (unhide HS op7 n7 s7 a7 len7 cap7 _ (unhide HB2) (unhide HLK)).mono ?_
  rintro e w3 ⟨op8, n8, s8, a8, len8, cap8, rfl, hL, hb⟩
  have hb2 := bt hb (ab (.cells #[.int .i64 op8, .int .i64 n8, .string s8, .slice a8 len8 cap8] 29)) (Nat.le_refl _)
  have HB3 := hide (bt (unhide HB2) hb2 (Nat.le_refl _))
  have HA0 := hide ((unhide HA0).below hb2)
  have HA1 := hide ((unhide HA1).below hb2)
  have HLB := hide (hL.below (ab (.cells #[.int .i64 op8, .int .i64 n8, .string s8, .slice a8 len8 cap8] 29)))
  have HBd := hide (RowT.new 29 w3 op8 n8 s8 a8 len8 cap8)
  clear hb hb2 hL c0 c1 c2 c3 d0 d1 d2 d3 HB2 HA3
  go_wp2_with fail
  generalize hgw : w3.alloc (.cells #[.int .i64 op8, .int .i64 n8, .string s8, .slice a8 len8 cap8] 29) = W3 at *
  clear hgw
  generalize w3.heap.size = bB at *
  obtain ⟨c0, c1, c2, c3⟩ := (unhide HBd).facts
  obtain ⟨d0, d1, d2, d3⟩ := (unhide HA0).facts
  obtain ⟨i0, i1, i2, i3⟩ := (unhide HA1).facts
  first
    | go_region_with fail
    | fail
  all_goals go_wp2_with fail
  all_goals go_ret
  all_goals exact ⟨rfl, (unhide HB3).drew⟩

set_option maxRecDepth 100000 in
set_option maxHeartbeats 2000000 in
theorem provedS2 (KT BT : Tm) (op n : Int) (s : ByteArray) (a : Option Addr) (len cap : Nat) (op2 n2 : Int) (s2 : ByteArray) (a2 : Option Addr) (len2 cap2 : Nat) (op5 n5 : Int) (s5 : ByteArray) (a5 : Option Addr) (len5 cap5 : Nat) (op6 n6 : Int) (s6 : ByteArray) (a6 : Option Addr) (len6 cap6 : Nat) (hs : ByteArray) (m : Int) (w : World)
    (hG : ∀ V, Below w.heap.size w V → Calls Tryz.prog 51 #[.agg #[.int .i64 op5, .int .i64 n5, .string s5, .slice a5 len5 cap5], .string hs, .int .i64 m] V fun e w' => ∃ op7 n7 s7 a7 len7 cap7, e = .returned (.tuple #[.agg #[.int .i64 op7, .int .i64 n7, .string s7, .slice a7 len7 cap7], .bool true]) ∧ Lies w' 0 KT (tmCells op7 n7 s7 a7 len7 cap7) ∧ Below V.heap.size V w')
    (hS : ∀ (op7 n7 : Int) (s7 : ByteArray) (a7 : Option Addr) (len7 cap7 : Nat) V, Below w.heap.size w V → Lies V 0 KT (tmCells op7 n7 s7 a7 len7 cap7) → Calls Tryz.prog 59 #[.agg #[.int .i64 op7, .int .i64 n7, .string s7, .slice a7 len7 cap7], .agg #[.int .i64 op6, .int .i64 n6, .string s6, .slice a6 len6 cap6]] V fun e w' => ∃ op8 n8 s8 a8 len8 cap8, e = .returned (.tuple #[.agg #[.int .i64 op8, .int .i64 n8, .string s8, .slice a8 len8 cap8], .bool true]) ∧ Lies w' 0 BT (tmCells op8 n8 s8 a8 len8 cap8) ∧ Below V.heap.size V w')
     (hop : ∀ (op8 n8 : Int) (s8 : ByteArray) (a8 : Option Addr) (len8 cap8 : Nat) (V : World), Lies V 0 BT (tmCells op8 n8 s8 a8 len8 cap8) → (op8 == 6) = false) :
    Calls Tryz.prog 10 #[.agg #[.int .i64 op, .int .i64 n, .string s, .slice a len cap], .agg #[.int .i64 op2, .int .i64 n2, .string s2, .slice a2 len2 cap2], .agg #[.int .i64 op5, .int .i64 n5, .string s5, .slice a5 len5 cap5], .agg #[.int .i64 op6, .int .i64 n6, .string s6, .slice a6 len6 cap6], .string hs, .int .i64 m] w fun e w' => e = .returned (.bool false) ∧ Below w.heap.size w w' := by
  have hB0 : Below w.heap.size w ((((w.alloc (.cells #[.int .i64 op, .int .i64 n, .string s, .slice a len cap] 29)).alloc (.cells #[.int .i64 op2, .int .i64 n2, .string s2, .slice a2 len2 cap2] 29)).alloc (.cells #[.int .i64 op5, .int .i64 n5, .string s5, .slice a5 len5 cap5] 29)).alloc (.cells #[.int .i64 op6, .int .i64 n6, .string s6, .slice a6 len6 cap6] 29)) := bt (bt (bt (ab _) (ab _) (Nat.le_refl _)) (ab _) (Nat.le_refl _)) (ab _) (Nat.le_refl _)
  have HA0 : Hid (RowT 29 ((((w.alloc (.cells #[.int .i64 op, .int .i64 n, .string s, .slice a len cap] 29)).alloc (.cells #[.int .i64 op2, .int .i64 n2, .string s2, .slice a2 len2 cap2] 29)).alloc (.cells #[.int .i64 op5, .int .i64 n5, .string s5, .slice a5 len5 cap5] 29)).alloc (.cells #[.int .i64 op6, .int .i64 n6, .string s6, .slice a6 len6 cap6] 29)) (w.heap.size) op n s a len cap) := by
    have := ((((RowT.new 29 w op n s a len cap).below (ab (.cells #[.int .i64 op2, .int .i64 n2, .string s2, .slice a2 len2 cap2] 29))).below (ab (.cells #[.int .i64 op5, .int .i64 n5, .string s5, .slice a5 len5 cap5] 29))).below (ab (.cells #[.int .i64 op6, .int .i64 n6, .string s6, .slice a6 len6 cap6] 29)))
    exact this
  have HA1 : Hid (RowT 29 ((((w.alloc (.cells #[.int .i64 op, .int .i64 n, .string s, .slice a len cap] 29)).alloc (.cells #[.int .i64 op2, .int .i64 n2, .string s2, .slice a2 len2 cap2] 29)).alloc (.cells #[.int .i64 op5, .int .i64 n5, .string s5, .slice a5 len5 cap5] 29)).alloc (.cells #[.int .i64 op6, .int .i64 n6, .string s6, .slice a6 len6 cap6] 29)) (w.heap.size + 1) op2 n2 s2 a2 len2 cap2) := by
    have := (((RowT.new 29 (w.alloc (.cells #[.int .i64 op, .int .i64 n, .string s, .slice a len cap] 29)) op2 n2 s2 a2 len2 cap2).below (ab (.cells #[.int .i64 op5, .int .i64 n5, .string s5, .slice a5 len5 cap5] 29))).below (ab (.cells #[.int .i64 op6, .int .i64 n6, .string s6, .slice a6 len6 cap6] 29)))
    rwa [heap_size_alloc] at this
  have HA2 : Hid (RowT 29 ((((w.alloc (.cells #[.int .i64 op, .int .i64 n, .string s, .slice a len cap] 29)).alloc (.cells #[.int .i64 op2, .int .i64 n2, .string s2, .slice a2 len2 cap2] 29)).alloc (.cells #[.int .i64 op5, .int .i64 n5, .string s5, .slice a5 len5 cap5] 29)).alloc (.cells #[.int .i64 op6, .int .i64 n6, .string s6, .slice a6 len6 cap6] 29)) (w.heap.size + 1 + 1) op5 n5 s5 a5 len5 cap5) := by
    have := ((RowT.new 29 ((w.alloc (.cells #[.int .i64 op, .int .i64 n, .string s, .slice a len cap] 29)).alloc (.cells #[.int .i64 op2, .int .i64 n2, .string s2, .slice a2 len2 cap2] 29)) op5 n5 s5 a5 len5 cap5).below (ab (.cells #[.int .i64 op6, .int .i64 n6, .string s6, .slice a6 len6 cap6] 29)))
    rwa [heap_size_alloc, heap_size_alloc] at this
  have HA3 : Hid (RowT 29 ((((w.alloc (.cells #[.int .i64 op, .int .i64 n, .string s, .slice a len cap] 29)).alloc (.cells #[.int .i64 op2, .int .i64 n2, .string s2, .slice a2 len2 cap2] 29)).alloc (.cells #[.int .i64 op5, .int .i64 n5, .string s5, .slice a5 len5 cap5] 29)).alloc (.cells #[.int .i64 op6, .int .i64 n6, .string s6, .slice a6 len6 cap6] 29)) (w.heap.size + 1 + 1 + 1) op6 n6 s6 a6 len6 cap6) := by
    have := (RowT.new 29 (((w.alloc (.cells #[.int .i64 op, .int .i64 n, .string s, .slice a len cap] 29)).alloc (.cells #[.int .i64 op2, .int .i64 n2, .string s2, .slice a2 len2 cap2] 29)).alloc (.cells #[.int .i64 op5, .int .i64 n5, .string s5, .slice a5 len5 cap5] 29)) op6 n6 s6 a6 len6 cap6)
    rwa [heap_size_alloc, heap_size_alloc, heap_size_alloc] at this
  have HB0 := hide hB0
  have HG := hide hG
  have HS := hide hS
  have HOP := hide hop
  clear hB0 hG hS hop
  obtain ⟨c0, c1, c2, c3⟩ := (unhide HA2).facts
  go_enter Tryz.func10, Tryz.ntmps10
  go_wp2_with fail
  generalize hgw : ((((w.alloc (.cells #[.int .i64 op, .int .i64 n, .string s, .slice a len cap] 29)).alloc (.cells #[.int .i64 op2, .int .i64 n2, .string s2, .slice a2 len2 cap2] 29)).alloc (.cells #[.int .i64 op5, .int .i64 n5, .string s5, .slice a5 len5 cap5] 29)).alloc (.cells #[.int .i64 op6, .int .i64 n6, .string s6, .slice a6 len6 cap6] 29)) = W1 at *
  clear hgw
  refine (unhide HG _ (unhide HB0)).mono ?_
  rintro e w2 ⟨op7, n7, s7, a7, len7, cap7, rfl, hL, hb⟩
  have hb2 := bt hb (ab (.cells #[.int .i64 op7, .int .i64 n7, .string s7, .slice a7 len7 cap7] 29)) (Nat.le_refl _)
  have HB2 := hide (bt (unhide HB0) hb2 (Nat.le_refl _))
  have HA0 := hide ((unhide HA0).below hb2)
  have HA1 := hide ((unhide HA1).below hb2)
  have HA3 := hide ((unhide HA3).below hb2)
  have HLK := hide (hL.below (ab (.cells #[.int .i64 op7, .int .i64 n7, .string s7, .slice a7 len7 cap7] 29)))
  have HK := hide (RowT.new 29 w2 op7 n7 s7 a7 len7 cap7)
  clear hb hb2 hL c0 c1 c2 c3 HB0
  obtain ⟨c0, c1, c2, c3⟩ := (unhide HK).facts
  obtain ⟨d0, d1, d2, d3⟩ := (unhide HA3).facts
  go_wp2_with fail
  generalize hgw : w2.alloc (.cells #[.int .i64 op7, .int .i64 n7, .string s7, .slice a7 len7 cap7] 29) = W2 at *
  clear hgw
  generalize w2.heap.size = bK at *
  refine (unhide HS op7 n7 s7 a7 len7 cap7 _ (unhide HB2) (unhide HLK)).mono ?_
  rintro e w3 ⟨op8, n8, s8, a8, len8, cap8, rfl, hL, hb⟩
  have hb2 := bt hb (ab (.cells #[.int .i64 op8, .int .i64 n8, .string s8, .slice a8 len8 cap8] 29)) (Nat.le_refl _)
  have HB3 := hide (bt (unhide HB2) hb2 (Nat.le_refl _))
  have HA0 := hide ((unhide HA0).below hb2)
  have HA1 := hide ((unhide HA1).below hb2)
  have HLB := hide (hL.below (ab (.cells #[.int .i64 op8, .int .i64 n8, .string s8, .slice a8 len8 cap8] 29)))
  have HBd := hide (RowT.new 29 w3 op8 n8 s8 a8 len8 cap8)
  have q6 := unhide HOP op8 n8 s8 a8 len8 cap8 _ hL
  clear hb hb2 hL c0 c1 c2 c3 d0 d1 d2 d3 HB2 HA3
  go_wp2_with fail
  generalize hgw : w3.alloc (.cells #[.int .i64 op8, .int .i64 n8, .string s8, .slice a8 len8 cap8] 29) = W3 at *
  clear hgw
  generalize w3.heap.size = bB at *
  obtain ⟨c0, c1, c2, c3⟩ := (unhide HBd).facts
  obtain ⟨d0, d1, d2, d3⟩ := (unhide HA0).facts
  obtain ⟨i0, i1, i2, i3⟩ := (unhide HA1).facts
  first
    | go_region_with fail
    | fail
  all_goals go_wp2_with fail
  all_goals go_ret
  all_goals exact ⟨rfl, (unhide HB3).drew⟩

set_option maxRecDepth 100000 in
set_option maxHeartbeats 2000000 in
theorem provedS3 (KT BT PT QT : Tm) (R : Bool) (op n : Int) (s : ByteArray) (a : Option Addr) (len cap : Nat) (op2 n2 : Int) (s2 : ByteArray) (a2 : Option Addr) (len2 cap2 : Nat) (op5 n5 : Int) (s5 : ByteArray) (a5 : Option Addr) (len5 cap5 : Nat) (op6 n6 : Int) (s6 : ByteArray) (a6 : Option Addr) (len6 cap6 : Nat) (hs : ByteArray) (m : Int) (w : World)
    (hG : ∀ V, Below w.heap.size w V → Calls Tryz.prog 51 #[.agg #[.int .i64 op5, .int .i64 n5, .string s5, .slice a5 len5 cap5], .string hs, .int .i64 m] V fun e w' => ∃ op7 n7 s7 a7 len7 cap7, e = .returned (.tuple #[.agg #[.int .i64 op7, .int .i64 n7, .string s7, .slice a7 len7 cap7], .bool true]) ∧ Lies w' 0 KT (tmCells op7 n7 s7 a7 len7 cap7) ∧ Below V.heap.size V w')
    (hS : ∀ (op7 n7 : Int) (s7 : ByteArray) (a7 : Option Addr) (len7 cap7 : Nat) V, Below w.heap.size w V → Lies V 0 KT (tmCells op7 n7 s7 a7 len7 cap7) → Calls Tryz.prog 59 #[.agg #[.int .i64 op7, .int .i64 n7, .string s7, .slice a7 len7 cap7], .agg #[.int .i64 op6, .int .i64 n6, .string s6, .slice a6 len6 cap6]] V fun e w' => ∃ op8 n8 s8 a8 len8 cap8, e = .returned (.tuple #[.agg #[.int .i64 op8, .int .i64 n8, .string s8, .slice a8 len8 cap8], .bool true]) ∧ Lies w' 0 BT (tmCells op8 n8 s8 a8 len8 cap8) ∧ Below V.heap.size V w')
    (hP : ∀ V, Below w.heap.size w V → Calls Tryz.prog 61 #[.agg #[.int .i64 op, .int .i64 n, .string s, .slice a len cap]] V fun e w' => ∃ op9 n9 s9 a9 len9 cap9, e = .returned (.agg #[.int .i64 op9, .int .i64 n9, .string s9, .slice a9 len9 cap9]) ∧ Lies w' 0 PT (tmCells op9 n9 s9 a9 len9 cap9) ∧ Below V.heap.size V w') (hQ : ∀ (op9 n9 : Int) (s9 : ByteArray) (a9 : Option Addr) (len9 cap9 : Nat) V, Below w.heap.size w V → Lies V 0 PT (tmCells op9 n9 s9 a9 len9 cap9) → Calls Tryz.prog 34 #[.agg #[.int .i64 op9, .int .i64 n9, .string s9, .slice a9 len9 cap9], .agg #[.int .i64 op2, .int .i64 n2, .string s2, .slice a2 len2 cap2]] V fun e w' => ∃ op10 n10 s10 a10 len10 cap10, e = .returned (.agg #[.int .i64 op10, .int .i64 n10, .string s10, .slice a10 len10 cap10]) ∧ Lies w' 0 QT (tmCells op10 n10 s10 a10 len10 cap10) ∧ Below V.heap.size V w') (hM : ∀ (op8 n8 : Int) (s8 : ByteArray) (a8 : Option Addr) (len8 cap8 : Nat) (op10 n10 : Int) (s10 : ByteArray) (a10 : Option Addr) (len10 cap10 : Nat) V, Lies V 0 BT (tmCells op8 n8 s8 a8 len8 cap8) → Lies V 0 QT (tmCells op10 n10 s10 a10 len10 cap10) → Calls Tryz.prog 60 #[.agg #[.int .i64 op8, .int .i64 n8, .string s8, .slice a8 len8 cap8], .agg #[.int .i64 op10, .int .i64 n10, .string s10, .slice a10 len10 cap10]] V fun e w' => e = .returned (.bool R) ∧ Below V.heap.size V w') (hop : ∀ (op8 n8 : Int) (s8 : ByteArray) (a8 : Option Addr) (len8 cap8 : Nat) (V : World), Lies V 0 BT (tmCells op8 n8 s8 a8 len8 cap8) → (op8 == 6) = true) :
    Calls Tryz.prog 10 #[.agg #[.int .i64 op, .int .i64 n, .string s, .slice a len cap], .agg #[.int .i64 op2, .int .i64 n2, .string s2, .slice a2 len2 cap2], .agg #[.int .i64 op5, .int .i64 n5, .string s5, .slice a5 len5 cap5], .agg #[.int .i64 op6, .int .i64 n6, .string s6, .slice a6 len6 cap6], .string hs, .int .i64 m] w fun e w' => e = .returned (.bool R) ∧ Below w.heap.size w w' := by
  have hB0 : Below w.heap.size w ((((w.alloc (.cells #[.int .i64 op, .int .i64 n, .string s, .slice a len cap] 29)).alloc (.cells #[.int .i64 op2, .int .i64 n2, .string s2, .slice a2 len2 cap2] 29)).alloc (.cells #[.int .i64 op5, .int .i64 n5, .string s5, .slice a5 len5 cap5] 29)).alloc (.cells #[.int .i64 op6, .int .i64 n6, .string s6, .slice a6 len6 cap6] 29)) := bt (bt (bt (ab _) (ab _) (Nat.le_refl _)) (ab _) (Nat.le_refl _)) (ab _) (Nat.le_refl _)
  have HA0 : Hid (RowT 29 ((((w.alloc (.cells #[.int .i64 op, .int .i64 n, .string s, .slice a len cap] 29)).alloc (.cells #[.int .i64 op2, .int .i64 n2, .string s2, .slice a2 len2 cap2] 29)).alloc (.cells #[.int .i64 op5, .int .i64 n5, .string s5, .slice a5 len5 cap5] 29)).alloc (.cells #[.int .i64 op6, .int .i64 n6, .string s6, .slice a6 len6 cap6] 29)) (w.heap.size) op n s a len cap) := by
    have := ((((RowT.new 29 w op n s a len cap).below (ab (.cells #[.int .i64 op2, .int .i64 n2, .string s2, .slice a2 len2 cap2] 29))).below (ab (.cells #[.int .i64 op5, .int .i64 n5, .string s5, .slice a5 len5 cap5] 29))).below (ab (.cells #[.int .i64 op6, .int .i64 n6, .string s6, .slice a6 len6 cap6] 29)))
    exact this
  have HA1 : Hid (RowT 29 ((((w.alloc (.cells #[.int .i64 op, .int .i64 n, .string s, .slice a len cap] 29)).alloc (.cells #[.int .i64 op2, .int .i64 n2, .string s2, .slice a2 len2 cap2] 29)).alloc (.cells #[.int .i64 op5, .int .i64 n5, .string s5, .slice a5 len5 cap5] 29)).alloc (.cells #[.int .i64 op6, .int .i64 n6, .string s6, .slice a6 len6 cap6] 29)) (w.heap.size + 1) op2 n2 s2 a2 len2 cap2) := by
    have := (((RowT.new 29 (w.alloc (.cells #[.int .i64 op, .int .i64 n, .string s, .slice a len cap] 29)) op2 n2 s2 a2 len2 cap2).below (ab (.cells #[.int .i64 op5, .int .i64 n5, .string s5, .slice a5 len5 cap5] 29))).below (ab (.cells #[.int .i64 op6, .int .i64 n6, .string s6, .slice a6 len6 cap6] 29)))
    rwa [heap_size_alloc] at this
  have HA2 : Hid (RowT 29 ((((w.alloc (.cells #[.int .i64 op, .int .i64 n, .string s, .slice a len cap] 29)).alloc (.cells #[.int .i64 op2, .int .i64 n2, .string s2, .slice a2 len2 cap2] 29)).alloc (.cells #[.int .i64 op5, .int .i64 n5, .string s5, .slice a5 len5 cap5] 29)).alloc (.cells #[.int .i64 op6, .int .i64 n6, .string s6, .slice a6 len6 cap6] 29)) (w.heap.size + 1 + 1) op5 n5 s5 a5 len5 cap5) := by
    have := ((RowT.new 29 ((w.alloc (.cells #[.int .i64 op, .int .i64 n, .string s, .slice a len cap] 29)).alloc (.cells #[.int .i64 op2, .int .i64 n2, .string s2, .slice a2 len2 cap2] 29)) op5 n5 s5 a5 len5 cap5).below (ab (.cells #[.int .i64 op6, .int .i64 n6, .string s6, .slice a6 len6 cap6] 29)))
    rwa [heap_size_alloc, heap_size_alloc] at this
  have HA3 : Hid (RowT 29 ((((w.alloc (.cells #[.int .i64 op, .int .i64 n, .string s, .slice a len cap] 29)).alloc (.cells #[.int .i64 op2, .int .i64 n2, .string s2, .slice a2 len2 cap2] 29)).alloc (.cells #[.int .i64 op5, .int .i64 n5, .string s5, .slice a5 len5 cap5] 29)).alloc (.cells #[.int .i64 op6, .int .i64 n6, .string s6, .slice a6 len6 cap6] 29)) (w.heap.size + 1 + 1 + 1) op6 n6 s6 a6 len6 cap6) := by
    have := (RowT.new 29 (((w.alloc (.cells #[.int .i64 op, .int .i64 n, .string s, .slice a len cap] 29)).alloc (.cells #[.int .i64 op2, .int .i64 n2, .string s2, .slice a2 len2 cap2] 29)).alloc (.cells #[.int .i64 op5, .int .i64 n5, .string s5, .slice a5 len5 cap5] 29)) op6 n6 s6 a6 len6 cap6)
    rwa [heap_size_alloc, heap_size_alloc, heap_size_alloc] at this
  have HB0 := hide hB0
  have HG := hide hG
  have HS := hide hS
  have HP := hide hP
  have HQ := hide hQ
  have HM := hide hM
  have HOP := hide hop
  clear hB0 hG hS hP hQ hM hop
  obtain ⟨c0, c1, c2, c3⟩ := (unhide HA2).facts
  go_enter Tryz.func10, Tryz.ntmps10
  go_wp2_with fail
  generalize hgw : ((((w.alloc (.cells #[.int .i64 op, .int .i64 n, .string s, .slice a len cap] 29)).alloc (.cells #[.int .i64 op2, .int .i64 n2, .string s2, .slice a2 len2 cap2] 29)).alloc (.cells #[.int .i64 op5, .int .i64 n5, .string s5, .slice a5 len5 cap5] 29)).alloc (.cells #[.int .i64 op6, .int .i64 n6, .string s6, .slice a6 len6 cap6] 29)) = W1 at *
  clear hgw
  refine (unhide HG _ (unhide HB0)).mono ?_
  rintro e w2 ⟨op7, n7, s7, a7, len7, cap7, rfl, hL, hb⟩
  have hb2 := bt hb (ab (.cells #[.int .i64 op7, .int .i64 n7, .string s7, .slice a7 len7 cap7] 29)) (Nat.le_refl _)
  have HB2 := hide (bt (unhide HB0) hb2 (Nat.le_refl _))
  have HA0 := hide ((unhide HA0).below hb2)
  have HA1 := hide ((unhide HA1).below hb2)
  have HA3 := hide ((unhide HA3).below hb2)
  have HLK := hide (hL.below (ab (.cells #[.int .i64 op7, .int .i64 n7, .string s7, .slice a7 len7 cap7] 29)))
  have HK := hide (RowT.new 29 w2 op7 n7 s7 a7 len7 cap7)
  clear hb hb2 hL c0 c1 c2 c3 HB0
  obtain ⟨c0, c1, c2, c3⟩ := (unhide HK).facts
  obtain ⟨d0, d1, d2, d3⟩ := (unhide HA3).facts
  go_wp2_with fail
  generalize hgw : w2.alloc (.cells #[.int .i64 op7, .int .i64 n7, .string s7, .slice a7 len7 cap7] 29) = W2 at *
  clear hgw
  generalize w2.heap.size = bK at *
  refine (unhide HS op7 n7 s7 a7 len7 cap7 _ (unhide HB2) (unhide HLK)).mono ?_
  rintro e w3 ⟨op8, n8, s8, a8, len8, cap8, rfl, hL, hb⟩
  have hb2 := bt hb (ab (.cells #[.int .i64 op8, .int .i64 n8, .string s8, .slice a8 len8 cap8] 29)) (Nat.le_refl _)
  have HB3 := hide (bt (unhide HB2) hb2 (Nat.le_refl _))
  have HA0 := hide ((unhide HA0).below hb2)
  have HA1 := hide ((unhide HA1).below hb2)
  have HLB := hide (hL.below (ab (.cells #[.int .i64 op8, .int .i64 n8, .string s8, .slice a8 len8 cap8] 29)))
  have HBd := hide (RowT.new 29 w3 op8 n8 s8 a8 len8 cap8)
  have q6 := unhide HOP op8 n8 s8 a8 len8 cap8 _ hL
  clear hb hb2 hL c0 c1 c2 c3 d0 d1 d2 d3 HB2 HA3
  go_wp2_with fail
  generalize hgw : w3.alloc (.cells #[.int .i64 op8, .int .i64 n8, .string s8, .slice a8 len8 cap8] 29) = W3 at *
  clear hgw
  generalize w3.heap.size = bB at *
  obtain ⟨c0, c1, c2, c3⟩ := (unhide HBd).facts
  obtain ⟨d0, d1, d2, d3⟩ := (unhide HA0).facts
  obtain ⟨i0, i1, i2, i3⟩ := (unhide HA1).facts
  go_region_held3 (fun x => x.cell? ⟨bB, 0, none⟩ = some (.int .i64 op8) ∧ x.cell? ⟨bB, 1, none⟩ = some (.int .i64 n8) ∧ x.cell? ⟨bB, 2, none⟩ = some (.string s8) ∧ x.cell? ⟨bB, 3, none⟩ = some (.slice a8 len8 cap8) ∧ x.cell? ⟨w.heap.size, 0, none⟩ = some (.int .i64 op) ∧ x.cell? ⟨w.heap.size, 1, none⟩ = some (.int .i64 n) ∧ x.cell? ⟨w.heap.size, 2, none⟩ = some (.string s) ∧ x.cell? ⟨w.heap.size, 3, none⟩ = some (.slice a len cap) ∧ x.cell? ⟨w.heap.size + 1, 0, none⟩ = some (.int .i64 op2) ∧ x.cell? ⟨w.heap.size + 1, 1, none⟩ = some (.int .i64 n2) ∧ x.cell? ⟨w.heap.size + 1, 2, none⟩ = some (.string s2) ∧ x.cell? ⟨w.heap.size + 1, 3, none⟩ = some (.slice a2 len2 cap2)) (go_keep)
    (first
      | (go_at_call 61
         refine (unhide HP _ (unhide HB3).drew).mono ?_
         rintro e y1 ⟨op9, n9, s9, a9, len9, cap9, rfl, hL, hb⟩
         have h01 := hide (below_drew' hb)
         have HR9 := hide hL
         clear c0 c1 c2 c3 d0 d1 d2 d3 i0 i1 i2 i3 hb hL
         obtain ⟨c0, c1, c2, c3⟩ := ((unhide HBd).below (unhide h01)).facts
         obtain ⟨d0, d1, d2, d3⟩ := ((unhide HA0).below (unhide h01)).facts
         obtain ⟨i0, i1, i2, i3⟩ := ((unhide HA1).below (unhide h01)).facts)
      | (go_at_call 34
         refine (unhide HQ op9 n9 s9 a9 len9 cap9 _ (bt (unhide HB3) (unhide h01) (Nat.le_refl _)) (unhide HR9)).mono ?_
         rintro e y2 ⟨op10, n10, s10, a10, len10, cap10, rfl, hL, hb⟩
         have h02 := hide (bt (unhide h01) hb (Nat.le_refl _))
         have HR10 := hide hL
         clear c0 c1 c2 c3 d0 d1 d2 d3 i0 i1 i2 i3 hb hL
         obtain ⟨c0, c1, c2, c3⟩ := ((unhide HBd).below (unhide h02)).facts
         obtain ⟨d0, d1, d2, d3⟩ := ((unhide HA0).below (unhide h02)).facts
         obtain ⟨i0, i1, i2, i3⟩ := ((unhide HA1).below (unhide h02)).facts)
      | (go_at_call 60
         refine (unhide HM op8 n8 s8 a8 len8 cap8 op10 n10 s10 a10 len10 cap10 _ ((unhide HLB).below (unhide h02)) (unhide HR10)).mono ?_
         rintro e y3 ⟨rfl, hb⟩
         have h03 := hide (bt (unhide h02) hb (Nat.le_refl _))
         clear c0 c1 c2 c3 d0 d1 d2 d3 i0 i1 i2 i3 hb
         obtain ⟨c0, c1, c2, c3⟩ := ((unhide HBd).below (unhide h03)).facts
         obtain ⟨d0, d1, d2, d3⟩ := ((unhide HA0).below (unhide h03)).facts
         obtain ⟨i0, i1, i2, i3⟩ := ((unhide HA1).below (unhide h03)).facts))
  have HB4 := hide (bt (unhide HB3) (unhide h03) (Nat.le_refl _))
  clear c0 c1 c2 c3 d0 d1 d2 d3 i0 i1 i2 i3
  go_wp2_with fail
  go_ret
  exact ⟨rfl, unhide HB4⟩

set_option maxRecDepth 100000 in
set_option maxHeartbeats 2000000 in
theorem provedI0 (KT BT : Tm) (op n : Int) (s : ByteArray) (a : Option Addr) (len cap : Nat) (op2 n2 : Int) (s2 : ByteArray) (a2 : Option Addr) (len2 cap2 : Nat) (op5 n5 : Int) (s5 : ByteArray) (a5 : Option Addr) (len5 cap5 : Nat) (op6 n6 : Int) (s6 : ByteArray) (a6 : Option Addr) (len6 cap6 : Nat) (hs : ByteArray) (m : Int) (w : World)
    (hG : ∀ V, Below w.heap.size w V → Calls Tryz.prog 35 #[.agg #[.int .i64 op5, .int .i64 n5, .string s5, .slice a5 len5 cap5], .string hs, .int .i64 m] V fun e w' => ∃ op7 n7 s7 a7 len7 cap7, e = .returned (.tuple #[.agg #[.int .i64 op7, .int .i64 n7, .string s7, .slice a7 len7 cap7], .bool false]) ∧ Lies w' 0 KT (tmCells op7 n7 s7 a7 len7 cap7) ∧ Below V.heap.size V w')
    (hS : ∀ (op7 n7 : Int) (s7 : ByteArray) (a7 : Option Addr) (len7 cap7 : Nat) V, Below w.heap.size w V → Lies V 0 KT (tmCells op7 n7 s7 a7 len7 cap7) → Calls Tryz.prog 63 #[.agg #[.int .i64 op7, .int .i64 n7, .string s7, .slice a7 len7 cap7], .agg #[.int .i64 op6, .int .i64 n6, .string s6, .slice a6 len6 cap6]] V fun e w' => ∃ op8 n8 s8 a8 len8 cap8, e = .returned (.tuple #[.agg #[.int .i64 op8, .int .i64 n8, .string s8, .slice a8 len8 cap8], .bool false]) ∧ Lies w' 0 BT (tmCells op8 n8 s8 a8 len8 cap8) ∧ Below V.heap.size V w')
      :
    Calls Tryz.prog 12 #[.agg #[.int .i64 op, .int .i64 n, .string s, .slice a len cap], .agg #[.int .i64 op2, .int .i64 n2, .string s2, .slice a2 len2 cap2], .agg #[.int .i64 op5, .int .i64 n5, .string s5, .slice a5 len5 cap5], .agg #[.int .i64 op6, .int .i64 n6, .string s6, .slice a6 len6 cap6], .string hs, .int .i64 m] w fun e w' => e = .returned (.bool false) ∧ Below w.heap.size w w' := by
  have hB0 : Below w.heap.size w ((((w.alloc (.cells #[.int .i64 op, .int .i64 n, .string s, .slice a len cap] 29)).alloc (.cells #[.int .i64 op2, .int .i64 n2, .string s2, .slice a2 len2 cap2] 29)).alloc (.cells #[.int .i64 op5, .int .i64 n5, .string s5, .slice a5 len5 cap5] 29)).alloc (.cells #[.int .i64 op6, .int .i64 n6, .string s6, .slice a6 len6 cap6] 29)) := bt (bt (bt (ab _) (ab _) (Nat.le_refl _)) (ab _) (Nat.le_refl _)) (ab _) (Nat.le_refl _)
  have HA0 : Hid (RowT 29 ((((w.alloc (.cells #[.int .i64 op, .int .i64 n, .string s, .slice a len cap] 29)).alloc (.cells #[.int .i64 op2, .int .i64 n2, .string s2, .slice a2 len2 cap2] 29)).alloc (.cells #[.int .i64 op5, .int .i64 n5, .string s5, .slice a5 len5 cap5] 29)).alloc (.cells #[.int .i64 op6, .int .i64 n6, .string s6, .slice a6 len6 cap6] 29)) (w.heap.size) op n s a len cap) := by
    have := ((((RowT.new 29 w op n s a len cap).below (ab (.cells #[.int .i64 op2, .int .i64 n2, .string s2, .slice a2 len2 cap2] 29))).below (ab (.cells #[.int .i64 op5, .int .i64 n5, .string s5, .slice a5 len5 cap5] 29))).below (ab (.cells #[.int .i64 op6, .int .i64 n6, .string s6, .slice a6 len6 cap6] 29)))
    exact this
  have HA1 : Hid (RowT 29 ((((w.alloc (.cells #[.int .i64 op, .int .i64 n, .string s, .slice a len cap] 29)).alloc (.cells #[.int .i64 op2, .int .i64 n2, .string s2, .slice a2 len2 cap2] 29)).alloc (.cells #[.int .i64 op5, .int .i64 n5, .string s5, .slice a5 len5 cap5] 29)).alloc (.cells #[.int .i64 op6, .int .i64 n6, .string s6, .slice a6 len6 cap6] 29)) (w.heap.size + 1) op2 n2 s2 a2 len2 cap2) := by
    have := (((RowT.new 29 (w.alloc (.cells #[.int .i64 op, .int .i64 n, .string s, .slice a len cap] 29)) op2 n2 s2 a2 len2 cap2).below (ab (.cells #[.int .i64 op5, .int .i64 n5, .string s5, .slice a5 len5 cap5] 29))).below (ab (.cells #[.int .i64 op6, .int .i64 n6, .string s6, .slice a6 len6 cap6] 29)))
    rwa [heap_size_alloc] at this
  have HA2 : Hid (RowT 29 ((((w.alloc (.cells #[.int .i64 op, .int .i64 n, .string s, .slice a len cap] 29)).alloc (.cells #[.int .i64 op2, .int .i64 n2, .string s2, .slice a2 len2 cap2] 29)).alloc (.cells #[.int .i64 op5, .int .i64 n5, .string s5, .slice a5 len5 cap5] 29)).alloc (.cells #[.int .i64 op6, .int .i64 n6, .string s6, .slice a6 len6 cap6] 29)) (w.heap.size + 1 + 1) op5 n5 s5 a5 len5 cap5) := by
    have := ((RowT.new 29 ((w.alloc (.cells #[.int .i64 op, .int .i64 n, .string s, .slice a len cap] 29)).alloc (.cells #[.int .i64 op2, .int .i64 n2, .string s2, .slice a2 len2 cap2] 29)) op5 n5 s5 a5 len5 cap5).below (ab (.cells #[.int .i64 op6, .int .i64 n6, .string s6, .slice a6 len6 cap6] 29)))
    rwa [heap_size_alloc, heap_size_alloc] at this
  have HA3 : Hid (RowT 29 ((((w.alloc (.cells #[.int .i64 op, .int .i64 n, .string s, .slice a len cap] 29)).alloc (.cells #[.int .i64 op2, .int .i64 n2, .string s2, .slice a2 len2 cap2] 29)).alloc (.cells #[.int .i64 op5, .int .i64 n5, .string s5, .slice a5 len5 cap5] 29)).alloc (.cells #[.int .i64 op6, .int .i64 n6, .string s6, .slice a6 len6 cap6] 29)) (w.heap.size + 1 + 1 + 1) op6 n6 s6 a6 len6 cap6) := by
    have := (RowT.new 29 (((w.alloc (.cells #[.int .i64 op, .int .i64 n, .string s, .slice a len cap] 29)).alloc (.cells #[.int .i64 op2, .int .i64 n2, .string s2, .slice a2 len2 cap2] 29)).alloc (.cells #[.int .i64 op5, .int .i64 n5, .string s5, .slice a5 len5 cap5] 29)) op6 n6 s6 a6 len6 cap6)
    rwa [heap_size_alloc, heap_size_alloc, heap_size_alloc] at this
  have HB0 := hide hB0
  have HG := hide hG
  have HS := hide hS
  clear hB0 hG hS
  obtain ⟨c0, c1, c2, c3⟩ := (unhide HA2).facts
  go_enter Tryz.func12, Tryz.ntmps12
  go_wp2_with fail
  generalize hgw : ((((w.alloc (.cells #[.int .i64 op, .int .i64 n, .string s, .slice a len cap] 29)).alloc (.cells #[.int .i64 op2, .int .i64 n2, .string s2, .slice a2 len2 cap2] 29)).alloc (.cells #[.int .i64 op5, .int .i64 n5, .string s5, .slice a5 len5 cap5] 29)).alloc (.cells #[.int .i64 op6, .int .i64 n6, .string s6, .slice a6 len6 cap6] 29)) = W1 at *
  clear hgw
  refine (unhide HG _ (unhide HB0)).mono ?_
  rintro e w2 ⟨op7, n7, s7, a7, len7, cap7, rfl, hL, hb⟩
  have hb2 := bt hb (ab (.cells #[.int .i64 op7, .int .i64 n7, .string s7, .slice a7 len7 cap7] 29)) (Nat.le_refl _)
  have HB2 := hide (bt (unhide HB0) hb2 (Nat.le_refl _))
  have HA0 := hide ((unhide HA0).below hb2)
  have HA1 := hide ((unhide HA1).below hb2)
  have HA3 := hide ((unhide HA3).below hb2)
  have HLK := hide (hL.below (ab (.cells #[.int .i64 op7, .int .i64 n7, .string s7, .slice a7 len7 cap7] 29)))
  have HK := hide (RowT.new 29 w2 op7 n7 s7 a7 len7 cap7)
  clear hb hb2 hL c0 c1 c2 c3 HB0
  obtain ⟨c0, c1, c2, c3⟩ := (unhide HK).facts
  obtain ⟨d0, d1, d2, d3⟩ := (unhide HA3).facts
  go_wp2_with fail
  generalize hgw : w2.alloc (.cells #[.int .i64 op7, .int .i64 n7, .string s7, .slice a7 len7 cap7] 29) = W2 at *
  clear hgw
  generalize w2.heap.size = bK at *
  refine (unhide HS op7 n7 s7 a7 len7 cap7 _ (unhide HB2) (unhide HLK)).mono ?_
  rintro e w3 ⟨op8, n8, s8, a8, len8, cap8, rfl, hL, hb⟩
  have hb2 := bt hb (ab (.cells #[.int .i64 op8, .int .i64 n8, .string s8, .slice a8 len8 cap8] 29)) (Nat.le_refl _)
  have HB3 := hide (bt (unhide HB2) hb2 (Nat.le_refl _))
  have HA0 := hide ((unhide HA0).below hb2)
  have HA1 := hide ((unhide HA1).below hb2)
  have HLB := hide (hL.below (ab (.cells #[.int .i64 op8, .int .i64 n8, .string s8, .slice a8 len8 cap8] 29)))
  have HBd := hide (RowT.new 29 w3 op8 n8 s8 a8 len8 cap8)
  clear hb hb2 hL c0 c1 c2 c3 d0 d1 d2 d3 HB2 HA3
  go_wp2_with fail
  generalize hgw : w3.alloc (.cells #[.int .i64 op8, .int .i64 n8, .string s8, .slice a8 len8 cap8] 29) = W3 at *
  clear hgw
  generalize w3.heap.size = bB at *
  obtain ⟨c0, c1, c2, c3⟩ := (unhide HBd).facts
  obtain ⟨d0, d1, d2, d3⟩ := (unhide HA0).facts
  obtain ⟨i0, i1, i2, i3⟩ := (unhide HA1).facts
  first
    | go_region_with fail
    | fail
  all_goals go_wp2_with fail
  all_goals go_ret
  all_goals exact ⟨rfl, (unhide HB3).drew⟩

set_option maxRecDepth 100000 in
set_option maxHeartbeats 2000000 in
theorem provedI1 (KT BT : Tm) (op n : Int) (s : ByteArray) (a : Option Addr) (len cap : Nat) (op2 n2 : Int) (s2 : ByteArray) (a2 : Option Addr) (len2 cap2 : Nat) (op5 n5 : Int) (s5 : ByteArray) (a5 : Option Addr) (len5 cap5 : Nat) (op6 n6 : Int) (s6 : ByteArray) (a6 : Option Addr) (len6 cap6 : Nat) (hs : ByteArray) (m : Int) (w : World)
    (hG : ∀ V, Below w.heap.size w V → Calls Tryz.prog 35 #[.agg #[.int .i64 op5, .int .i64 n5, .string s5, .slice a5 len5 cap5], .string hs, .int .i64 m] V fun e w' => ∃ op7 n7 s7 a7 len7 cap7, e = .returned (.tuple #[.agg #[.int .i64 op7, .int .i64 n7, .string s7, .slice a7 len7 cap7], .bool true]) ∧ Lies w' 0 KT (tmCells op7 n7 s7 a7 len7 cap7) ∧ Below V.heap.size V w')
    (hS : ∀ (op7 n7 : Int) (s7 : ByteArray) (a7 : Option Addr) (len7 cap7 : Nat) V, Below w.heap.size w V → Lies V 0 KT (tmCells op7 n7 s7 a7 len7 cap7) → Calls Tryz.prog 63 #[.agg #[.int .i64 op7, .int .i64 n7, .string s7, .slice a7 len7 cap7], .agg #[.int .i64 op6, .int .i64 n6, .string s6, .slice a6 len6 cap6]] V fun e w' => ∃ op8 n8 s8 a8 len8 cap8, e = .returned (.tuple #[.agg #[.int .i64 op8, .int .i64 n8, .string s8, .slice a8 len8 cap8], .bool false]) ∧ Lies w' 0 BT (tmCells op8 n8 s8 a8 len8 cap8) ∧ Below V.heap.size V w')
      :
    Calls Tryz.prog 12 #[.agg #[.int .i64 op, .int .i64 n, .string s, .slice a len cap], .agg #[.int .i64 op2, .int .i64 n2, .string s2, .slice a2 len2 cap2], .agg #[.int .i64 op5, .int .i64 n5, .string s5, .slice a5 len5 cap5], .agg #[.int .i64 op6, .int .i64 n6, .string s6, .slice a6 len6 cap6], .string hs, .int .i64 m] w fun e w' => e = .returned (.bool false) ∧ Below w.heap.size w w' := by
  have hB0 : Below w.heap.size w ((((w.alloc (.cells #[.int .i64 op, .int .i64 n, .string s, .slice a len cap] 29)).alloc (.cells #[.int .i64 op2, .int .i64 n2, .string s2, .slice a2 len2 cap2] 29)).alloc (.cells #[.int .i64 op5, .int .i64 n5, .string s5, .slice a5 len5 cap5] 29)).alloc (.cells #[.int .i64 op6, .int .i64 n6, .string s6, .slice a6 len6 cap6] 29)) := bt (bt (bt (ab _) (ab _) (Nat.le_refl _)) (ab _) (Nat.le_refl _)) (ab _) (Nat.le_refl _)
  have HA0 : Hid (RowT 29 ((((w.alloc (.cells #[.int .i64 op, .int .i64 n, .string s, .slice a len cap] 29)).alloc (.cells #[.int .i64 op2, .int .i64 n2, .string s2, .slice a2 len2 cap2] 29)).alloc (.cells #[.int .i64 op5, .int .i64 n5, .string s5, .slice a5 len5 cap5] 29)).alloc (.cells #[.int .i64 op6, .int .i64 n6, .string s6, .slice a6 len6 cap6] 29)) (w.heap.size) op n s a len cap) := by
    have := ((((RowT.new 29 w op n s a len cap).below (ab (.cells #[.int .i64 op2, .int .i64 n2, .string s2, .slice a2 len2 cap2] 29))).below (ab (.cells #[.int .i64 op5, .int .i64 n5, .string s5, .slice a5 len5 cap5] 29))).below (ab (.cells #[.int .i64 op6, .int .i64 n6, .string s6, .slice a6 len6 cap6] 29)))
    exact this
  have HA1 : Hid (RowT 29 ((((w.alloc (.cells #[.int .i64 op, .int .i64 n, .string s, .slice a len cap] 29)).alloc (.cells #[.int .i64 op2, .int .i64 n2, .string s2, .slice a2 len2 cap2] 29)).alloc (.cells #[.int .i64 op5, .int .i64 n5, .string s5, .slice a5 len5 cap5] 29)).alloc (.cells #[.int .i64 op6, .int .i64 n6, .string s6, .slice a6 len6 cap6] 29)) (w.heap.size + 1) op2 n2 s2 a2 len2 cap2) := by
    have := (((RowT.new 29 (w.alloc (.cells #[.int .i64 op, .int .i64 n, .string s, .slice a len cap] 29)) op2 n2 s2 a2 len2 cap2).below (ab (.cells #[.int .i64 op5, .int .i64 n5, .string s5, .slice a5 len5 cap5] 29))).below (ab (.cells #[.int .i64 op6, .int .i64 n6, .string s6, .slice a6 len6 cap6] 29)))
    rwa [heap_size_alloc] at this
  have HA2 : Hid (RowT 29 ((((w.alloc (.cells #[.int .i64 op, .int .i64 n, .string s, .slice a len cap] 29)).alloc (.cells #[.int .i64 op2, .int .i64 n2, .string s2, .slice a2 len2 cap2] 29)).alloc (.cells #[.int .i64 op5, .int .i64 n5, .string s5, .slice a5 len5 cap5] 29)).alloc (.cells #[.int .i64 op6, .int .i64 n6, .string s6, .slice a6 len6 cap6] 29)) (w.heap.size + 1 + 1) op5 n5 s5 a5 len5 cap5) := by
    have := ((RowT.new 29 ((w.alloc (.cells #[.int .i64 op, .int .i64 n, .string s, .slice a len cap] 29)).alloc (.cells #[.int .i64 op2, .int .i64 n2, .string s2, .slice a2 len2 cap2] 29)) op5 n5 s5 a5 len5 cap5).below (ab (.cells #[.int .i64 op6, .int .i64 n6, .string s6, .slice a6 len6 cap6] 29)))
    rwa [heap_size_alloc, heap_size_alloc] at this
  have HA3 : Hid (RowT 29 ((((w.alloc (.cells #[.int .i64 op, .int .i64 n, .string s, .slice a len cap] 29)).alloc (.cells #[.int .i64 op2, .int .i64 n2, .string s2, .slice a2 len2 cap2] 29)).alloc (.cells #[.int .i64 op5, .int .i64 n5, .string s5, .slice a5 len5 cap5] 29)).alloc (.cells #[.int .i64 op6, .int .i64 n6, .string s6, .slice a6 len6 cap6] 29)) (w.heap.size + 1 + 1 + 1) op6 n6 s6 a6 len6 cap6) := by
    have := (RowT.new 29 (((w.alloc (.cells #[.int .i64 op, .int .i64 n, .string s, .slice a len cap] 29)).alloc (.cells #[.int .i64 op2, .int .i64 n2, .string s2, .slice a2 len2 cap2] 29)).alloc (.cells #[.int .i64 op5, .int .i64 n5, .string s5, .slice a5 len5 cap5] 29)) op6 n6 s6 a6 len6 cap6)
    rwa [heap_size_alloc, heap_size_alloc, heap_size_alloc] at this
  have HB0 := hide hB0
  have HG := hide hG
  have HS := hide hS
  clear hB0 hG hS
  obtain ⟨c0, c1, c2, c3⟩ := (unhide HA2).facts
  go_enter Tryz.func12, Tryz.ntmps12
  go_wp2_with fail
  generalize hgw : ((((w.alloc (.cells #[.int .i64 op, .int .i64 n, .string s, .slice a len cap] 29)).alloc (.cells #[.int .i64 op2, .int .i64 n2, .string s2, .slice a2 len2 cap2] 29)).alloc (.cells #[.int .i64 op5, .int .i64 n5, .string s5, .slice a5 len5 cap5] 29)).alloc (.cells #[.int .i64 op6, .int .i64 n6, .string s6, .slice a6 len6 cap6] 29)) = W1 at *
  clear hgw
  refine (unhide HG _ (unhide HB0)).mono ?_
  rintro e w2 ⟨op7, n7, s7, a7, len7, cap7, rfl, hL, hb⟩
  have hb2 := bt hb (ab (.cells #[.int .i64 op7, .int .i64 n7, .string s7, .slice a7 len7 cap7] 29)) (Nat.le_refl _)
  have HB2 := hide (bt (unhide HB0) hb2 (Nat.le_refl _))
  have HA0 := hide ((unhide HA0).below hb2)
  have HA1 := hide ((unhide HA1).below hb2)
  have HA3 := hide ((unhide HA3).below hb2)
  have HLK := hide (hL.below (ab (.cells #[.int .i64 op7, .int .i64 n7, .string s7, .slice a7 len7 cap7] 29)))
  have HK := hide (RowT.new 29 w2 op7 n7 s7 a7 len7 cap7)
  clear hb hb2 hL c0 c1 c2 c3 HB0
  obtain ⟨c0, c1, c2, c3⟩ := (unhide HK).facts
  obtain ⟨d0, d1, d2, d3⟩ := (unhide HA3).facts
  go_wp2_with fail
  generalize hgw : w2.alloc (.cells #[.int .i64 op7, .int .i64 n7, .string s7, .slice a7 len7 cap7] 29) = W2 at *
  clear hgw
  generalize w2.heap.size = bK at *
  refine (unhide HS op7 n7 s7 a7 len7 cap7 _ (unhide HB2) (unhide HLK)).mono ?_
  rintro e w3 ⟨op8, n8, s8, a8, len8, cap8, rfl, hL, hb⟩
  have hb2 := bt hb (ab (.cells #[.int .i64 op8, .int .i64 n8, .string s8, .slice a8 len8 cap8] 29)) (Nat.le_refl _)
  have HB3 := hide (bt (unhide HB2) hb2 (Nat.le_refl _))
  have HA0 := hide ((unhide HA0).below hb2)
  have HA1 := hide ((unhide HA1).below hb2)
  have HLB := hide (hL.below (ab (.cells #[.int .i64 op8, .int .i64 n8, .string s8, .slice a8 len8 cap8] 29)))
  have HBd := hide (RowT.new 29 w3 op8 n8 s8 a8 len8 cap8)
  clear hb hb2 hL c0 c1 c2 c3 d0 d1 d2 d3 HB2 HA3
  go_wp2_with fail
  generalize hgw : w3.alloc (.cells #[.int .i64 op8, .int .i64 n8, .string s8, .slice a8 len8 cap8] 29) = W3 at *
  clear hgw
  generalize w3.heap.size = bB at *
  obtain ⟨c0, c1, c2, c3⟩ := (unhide HBd).facts
  obtain ⟨d0, d1, d2, d3⟩ := (unhide HA0).facts
  obtain ⟨i0, i1, i2, i3⟩ := (unhide HA1).facts
  first
    | go_region_with fail
    | fail
  all_goals go_wp2_with fail
  all_goals go_ret
  all_goals exact ⟨rfl, (unhide HB3).drew⟩

set_option maxRecDepth 100000 in
set_option maxHeartbeats 2000000 in
theorem provedI3 (KT BT PT QT : Tm) (R : Bool) (op n : Int) (s : ByteArray) (a : Option Addr) (len cap : Nat) (op2 n2 : Int) (s2 : ByteArray) (a2 : Option Addr) (len2 cap2 : Nat) (op5 n5 : Int) (s5 : ByteArray) (a5 : Option Addr) (len5 cap5 : Nat) (op6 n6 : Int) (s6 : ByteArray) (a6 : Option Addr) (len6 cap6 : Nat) (hs : ByteArray) (m : Int) (w : World)
    (hG : ∀ V, Below w.heap.size w V → Calls Tryz.prog 35 #[.agg #[.int .i64 op5, .int .i64 n5, .string s5, .slice a5 len5 cap5], .string hs, .int .i64 m] V fun e w' => ∃ op7 n7 s7 a7 len7 cap7, e = .returned (.tuple #[.agg #[.int .i64 op7, .int .i64 n7, .string s7, .slice a7 len7 cap7], .bool true]) ∧ Lies w' 0 KT (tmCells op7 n7 s7 a7 len7 cap7) ∧ Below V.heap.size V w')
    (hS : ∀ (op7 n7 : Int) (s7 : ByteArray) (a7 : Option Addr) (len7 cap7 : Nat) V, Below w.heap.size w V → Lies V 0 KT (tmCells op7 n7 s7 a7 len7 cap7) → Calls Tryz.prog 63 #[.agg #[.int .i64 op7, .int .i64 n7, .string s7, .slice a7 len7 cap7], .agg #[.int .i64 op6, .int .i64 n6, .string s6, .slice a6 len6 cap6]] V fun e w' => ∃ op8 n8 s8 a8 len8 cap8, e = .returned (.tuple #[.agg #[.int .i64 op8, .int .i64 n8, .string s8, .slice a8 len8 cap8], .bool true]) ∧ Lies w' 0 BT (tmCells op8 n8 s8 a8 len8 cap8) ∧ Below V.heap.size V w')
    (hP : ∀ V, Below w.heap.size w V → Calls Tryz.prog 38 #[.agg #[.int .i64 op, .int .i64 n, .string s, .slice a len cap]] V fun e w' => ∃ op9 n9 s9 a9 len9 cap9, e = .returned (.agg #[.int .i64 op9, .int .i64 n9, .string s9, .slice a9 len9 cap9]) ∧ Lies w' 0 PT (tmCells op9 n9 s9 a9 len9 cap9) ∧ Below V.heap.size V w') (hQ : ∀ (op9 n9 : Int) (s9 : ByteArray) (a9 : Option Addr) (len9 cap9 : Nat) V, Below w.heap.size w V → Lies V 0 PT (tmCells op9 n9 s9 a9 len9 cap9) → Calls Tryz.prog 33 #[.agg #[.int .i64 op9, .int .i64 n9, .string s9, .slice a9 len9 cap9], .agg #[.int .i64 op2, .int .i64 n2, .string s2, .slice a2 len2 cap2]] V fun e w' => ∃ op10 n10 s10 a10 len10 cap10, e = .returned (.agg #[.int .i64 op10, .int .i64 n10, .string s10, .slice a10 len10 cap10]) ∧ Lies w' 0 QT (tmCells op10 n10 s10 a10 len10 cap10) ∧ Below V.heap.size V w') (hM : ∀ (op8 n8 : Int) (s8 : ByteArray) (a8 : Option Addr) (len8 cap8 : Nat) (op10 n10 : Int) (s10 : ByteArray) (a10 : Option Addr) (len10 cap10 : Nat) V, Lies V 0 BT (tmCells op8 n8 s8 a8 len8 cap8) → Lies V 0 QT (tmCells op10 n10 s10 a10 len10 cap10) → Calls Tryz.prog 21 #[.agg #[.int .i64 op8, .int .i64 n8, .string s8, .slice a8 len8 cap8], .agg #[.int .i64 op10, .int .i64 n10, .string s10, .slice a10 len10 cap10]] V fun e w' => e = .returned (.bool R) ∧ Below V.heap.size V w')  :
    Calls Tryz.prog 12 #[.agg #[.int .i64 op, .int .i64 n, .string s, .slice a len cap], .agg #[.int .i64 op2, .int .i64 n2, .string s2, .slice a2 len2 cap2], .agg #[.int .i64 op5, .int .i64 n5, .string s5, .slice a5 len5 cap5], .agg #[.int .i64 op6, .int .i64 n6, .string s6, .slice a6 len6 cap6], .string hs, .int .i64 m] w fun e w' => e = .returned (.bool R) ∧ Below w.heap.size w w' := by
  have hB0 : Below w.heap.size w ((((w.alloc (.cells #[.int .i64 op, .int .i64 n, .string s, .slice a len cap] 29)).alloc (.cells #[.int .i64 op2, .int .i64 n2, .string s2, .slice a2 len2 cap2] 29)).alloc (.cells #[.int .i64 op5, .int .i64 n5, .string s5, .slice a5 len5 cap5] 29)).alloc (.cells #[.int .i64 op6, .int .i64 n6, .string s6, .slice a6 len6 cap6] 29)) := bt (bt (bt (ab _) (ab _) (Nat.le_refl _)) (ab _) (Nat.le_refl _)) (ab _) (Nat.le_refl _)
  have HA0 : Hid (RowT 29 ((((w.alloc (.cells #[.int .i64 op, .int .i64 n, .string s, .slice a len cap] 29)).alloc (.cells #[.int .i64 op2, .int .i64 n2, .string s2, .slice a2 len2 cap2] 29)).alloc (.cells #[.int .i64 op5, .int .i64 n5, .string s5, .slice a5 len5 cap5] 29)).alloc (.cells #[.int .i64 op6, .int .i64 n6, .string s6, .slice a6 len6 cap6] 29)) (w.heap.size) op n s a len cap) := by
    have := ((((RowT.new 29 w op n s a len cap).below (ab (.cells #[.int .i64 op2, .int .i64 n2, .string s2, .slice a2 len2 cap2] 29))).below (ab (.cells #[.int .i64 op5, .int .i64 n5, .string s5, .slice a5 len5 cap5] 29))).below (ab (.cells #[.int .i64 op6, .int .i64 n6, .string s6, .slice a6 len6 cap6] 29)))
    exact this
  have HA1 : Hid (RowT 29 ((((w.alloc (.cells #[.int .i64 op, .int .i64 n, .string s, .slice a len cap] 29)).alloc (.cells #[.int .i64 op2, .int .i64 n2, .string s2, .slice a2 len2 cap2] 29)).alloc (.cells #[.int .i64 op5, .int .i64 n5, .string s5, .slice a5 len5 cap5] 29)).alloc (.cells #[.int .i64 op6, .int .i64 n6, .string s6, .slice a6 len6 cap6] 29)) (w.heap.size + 1) op2 n2 s2 a2 len2 cap2) := by
    have := (((RowT.new 29 (w.alloc (.cells #[.int .i64 op, .int .i64 n, .string s, .slice a len cap] 29)) op2 n2 s2 a2 len2 cap2).below (ab (.cells #[.int .i64 op5, .int .i64 n5, .string s5, .slice a5 len5 cap5] 29))).below (ab (.cells #[.int .i64 op6, .int .i64 n6, .string s6, .slice a6 len6 cap6] 29)))
    rwa [heap_size_alloc] at this
  have HA2 : Hid (RowT 29 ((((w.alloc (.cells #[.int .i64 op, .int .i64 n, .string s, .slice a len cap] 29)).alloc (.cells #[.int .i64 op2, .int .i64 n2, .string s2, .slice a2 len2 cap2] 29)).alloc (.cells #[.int .i64 op5, .int .i64 n5, .string s5, .slice a5 len5 cap5] 29)).alloc (.cells #[.int .i64 op6, .int .i64 n6, .string s6, .slice a6 len6 cap6] 29)) (w.heap.size + 1 + 1) op5 n5 s5 a5 len5 cap5) := by
    have := ((RowT.new 29 ((w.alloc (.cells #[.int .i64 op, .int .i64 n, .string s, .slice a len cap] 29)).alloc (.cells #[.int .i64 op2, .int .i64 n2, .string s2, .slice a2 len2 cap2] 29)) op5 n5 s5 a5 len5 cap5).below (ab (.cells #[.int .i64 op6, .int .i64 n6, .string s6, .slice a6 len6 cap6] 29)))
    rwa [heap_size_alloc, heap_size_alloc] at this
  have HA3 : Hid (RowT 29 ((((w.alloc (.cells #[.int .i64 op, .int .i64 n, .string s, .slice a len cap] 29)).alloc (.cells #[.int .i64 op2, .int .i64 n2, .string s2, .slice a2 len2 cap2] 29)).alloc (.cells #[.int .i64 op5, .int .i64 n5, .string s5, .slice a5 len5 cap5] 29)).alloc (.cells #[.int .i64 op6, .int .i64 n6, .string s6, .slice a6 len6 cap6] 29)) (w.heap.size + 1 + 1 + 1) op6 n6 s6 a6 len6 cap6) := by
    have := (RowT.new 29 (((w.alloc (.cells #[.int .i64 op, .int .i64 n, .string s, .slice a len cap] 29)).alloc (.cells #[.int .i64 op2, .int .i64 n2, .string s2, .slice a2 len2 cap2] 29)).alloc (.cells #[.int .i64 op5, .int .i64 n5, .string s5, .slice a5 len5 cap5] 29)) op6 n6 s6 a6 len6 cap6)
    rwa [heap_size_alloc, heap_size_alloc, heap_size_alloc] at this
  have HB0 := hide hB0
  have HG := hide hG
  have HS := hide hS
  have HP := hide hP
  have HQ := hide hQ
  have HM := hide hM
  clear hB0 hG hS hP hQ hM
  obtain ⟨c0, c1, c2, c3⟩ := (unhide HA2).facts
  go_enter Tryz.func12, Tryz.ntmps12
  go_wp2_with fail
  generalize hgw : ((((w.alloc (.cells #[.int .i64 op, .int .i64 n, .string s, .slice a len cap] 29)).alloc (.cells #[.int .i64 op2, .int .i64 n2, .string s2, .slice a2 len2 cap2] 29)).alloc (.cells #[.int .i64 op5, .int .i64 n5, .string s5, .slice a5 len5 cap5] 29)).alloc (.cells #[.int .i64 op6, .int .i64 n6, .string s6, .slice a6 len6 cap6] 29)) = W1 at *
  clear hgw
  refine (unhide HG _ (unhide HB0)).mono ?_
  rintro e w2 ⟨op7, n7, s7, a7, len7, cap7, rfl, hL, hb⟩
  have hb2 := bt hb (ab (.cells #[.int .i64 op7, .int .i64 n7, .string s7, .slice a7 len7 cap7] 29)) (Nat.le_refl _)
  have HB2 := hide (bt (unhide HB0) hb2 (Nat.le_refl _))
  have HA0 := hide ((unhide HA0).below hb2)
  have HA1 := hide ((unhide HA1).below hb2)
  have HA3 := hide ((unhide HA3).below hb2)
  have HLK := hide (hL.below (ab (.cells #[.int .i64 op7, .int .i64 n7, .string s7, .slice a7 len7 cap7] 29)))
  have HK := hide (RowT.new 29 w2 op7 n7 s7 a7 len7 cap7)
  clear hb hb2 hL c0 c1 c2 c3 HB0
  obtain ⟨c0, c1, c2, c3⟩ := (unhide HK).facts
  obtain ⟨d0, d1, d2, d3⟩ := (unhide HA3).facts
  go_wp2_with fail
  generalize hgw : w2.alloc (.cells #[.int .i64 op7, .int .i64 n7, .string s7, .slice a7 len7 cap7] 29) = W2 at *
  clear hgw
  generalize w2.heap.size = bK at *
  refine (unhide HS op7 n7 s7 a7 len7 cap7 _ (unhide HB2) (unhide HLK)).mono ?_
  rintro e w3 ⟨op8, n8, s8, a8, len8, cap8, rfl, hL, hb⟩
  have hb2 := bt hb (ab (.cells #[.int .i64 op8, .int .i64 n8, .string s8, .slice a8 len8 cap8] 29)) (Nat.le_refl _)
  have HB3 := hide (bt (unhide HB2) hb2 (Nat.le_refl _))
  have HA0 := hide ((unhide HA0).below hb2)
  have HA1 := hide ((unhide HA1).below hb2)
  have HLB := hide (hL.below (ab (.cells #[.int .i64 op8, .int .i64 n8, .string s8, .slice a8 len8 cap8] 29)))
  have HBd := hide (RowT.new 29 w3 op8 n8 s8 a8 len8 cap8)
  clear hb hb2 hL c0 c1 c2 c3 d0 d1 d2 d3 HB2 HA3
  go_wp2_with fail
  generalize hgw : w3.alloc (.cells #[.int .i64 op8, .int .i64 n8, .string s8, .slice a8 len8 cap8] 29) = W3 at *
  clear hgw
  generalize w3.heap.size = bB at *
  obtain ⟨c0, c1, c2, c3⟩ := (unhide HBd).facts
  obtain ⟨d0, d1, d2, d3⟩ := (unhide HA0).facts
  obtain ⟨i0, i1, i2, i3⟩ := (unhide HA1).facts
  go_region_held3 (fun x => x.cell? ⟨bB, 0, none⟩ = some (.int .i64 op8) ∧ x.cell? ⟨bB, 1, none⟩ = some (.int .i64 n8) ∧ x.cell? ⟨bB, 2, none⟩ = some (.string s8) ∧ x.cell? ⟨bB, 3, none⟩ = some (.slice a8 len8 cap8) ∧ x.cell? ⟨w.heap.size, 0, none⟩ = some (.int .i64 op) ∧ x.cell? ⟨w.heap.size, 1, none⟩ = some (.int .i64 n) ∧ x.cell? ⟨w.heap.size, 2, none⟩ = some (.string s) ∧ x.cell? ⟨w.heap.size, 3, none⟩ = some (.slice a len cap) ∧ x.cell? ⟨w.heap.size + 1, 0, none⟩ = some (.int .i64 op2) ∧ x.cell? ⟨w.heap.size + 1, 1, none⟩ = some (.int .i64 n2) ∧ x.cell? ⟨w.heap.size + 1, 2, none⟩ = some (.string s2) ∧ x.cell? ⟨w.heap.size + 1, 3, none⟩ = some (.slice a2 len2 cap2)) (go_keep)
    (first
      | (go_at_call 38
         refine (unhide HP _ (unhide HB3).drew).mono ?_
         rintro e y1 ⟨op9, n9, s9, a9, len9, cap9, rfl, hL, hb⟩
         have h01 := hide (below_drew' hb)
         have HR9 := hide hL
         clear c0 c1 c2 c3 d0 d1 d2 d3 i0 i1 i2 i3 hb hL
         obtain ⟨c0, c1, c2, c3⟩ := ((unhide HBd).below (unhide h01)).facts
         obtain ⟨d0, d1, d2, d3⟩ := ((unhide HA0).below (unhide h01)).facts
         obtain ⟨i0, i1, i2, i3⟩ := ((unhide HA1).below (unhide h01)).facts)
      | (go_at_call 33
         refine (unhide HQ op9 n9 s9 a9 len9 cap9 _ (bt (unhide HB3) (unhide h01) (Nat.le_refl _)) (unhide HR9)).mono ?_
         rintro e y2 ⟨op10, n10, s10, a10, len10, cap10, rfl, hL, hb⟩
         have h02 := hide (bt (unhide h01) hb (Nat.le_refl _))
         have HR10 := hide hL
         clear c0 c1 c2 c3 d0 d1 d2 d3 i0 i1 i2 i3 hb hL
         obtain ⟨c0, c1, c2, c3⟩ := ((unhide HBd).below (unhide h02)).facts
         obtain ⟨d0, d1, d2, d3⟩ := ((unhide HA0).below (unhide h02)).facts
         obtain ⟨i0, i1, i2, i3⟩ := ((unhide HA1).below (unhide h02)).facts)
      | (go_at_call 21
         refine (unhide HM op8 n8 s8 a8 len8 cap8 op10 n10 s10 a10 len10 cap10 _ ((unhide HLB).below (unhide h02)) (unhide HR10)).mono ?_
         rintro e y3 ⟨rfl, hb⟩
         have h03 := hide (bt (unhide h02) hb (Nat.le_refl _))
         clear c0 c1 c2 c3 d0 d1 d2 d3 i0 i1 i2 i3 hb
         obtain ⟨c0, c1, c2, c3⟩ := ((unhide HBd).below (unhide h03)).facts
         obtain ⟨d0, d1, d2, d3⟩ := ((unhide HA0).below (unhide h03)).facts
         obtain ⟨i0, i1, i2, i3⟩ := ((unhide HA1).below (unhide h03)).facts))
  have HB4 := hide (bt (unhide HB3) (unhide h03) (Nat.le_refl _))
  clear c0 c1 c2 c3 d0 d1 d2 d3 i0 i1 i2 i3
  go_wp2_with fail
  go_ret
  exact ⟨rfl, unhide HB4⟩

end Go.Proofs.YtmklgikbajhcpaaGreatDoor
