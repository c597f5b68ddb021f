
/- What is drawn of a row of bytes: two terms, one term, a term for TermOk; each lies in new blocks; nothing that was there is written. And: of two terms that are not alike just one is before the other; two that are alike are one. -/
import Derived.Test.YtagondlfhdfcgaaDoorDv
import Derived.Deep.RegionHeld3
import Derived.Deep.DeepCutAuto
import Derived.Deep.LoopGhost
import Derived.Test.YtagondlfhdfcgaaDoorCr
namespace Go.Proofs.YtagondlfhdfcgaaDoor
open Go.RowKit Go.Deep


theorem Bytes.below {w w' : World} {c c' : Nat} {a : Option Addr} {len : Nat} (h : Bytes w c a len) (hb : Below w.heap.size w w') (hc : c ≤ c') : Bytes w' c' a len := fun k hk => by
  obtain ⟨b, o, z, h1, h2, h3, h4⟩ := h k hk
  exact ⟨b, o, z, h1, by omega, kpc hb h3, h4⟩
theorem Only.belowc {c B : Nat} {w w' : World} (h : Only [c] w w') (hB : B ≤ w.heap.size) (hc : B ≤ c) : Below B w w' := h.below hB (by simpa using hc)
theorem Held.drew {k L : Nat} {w : World} {v : Value} (h : Held k w L v) : Held k w.drew L v := by
  obtain ⟨t, op, n, s, a, len, cap, hv, hl, hz⟩ := h
  exact ⟨t, op, n, s, a, len, cap, hv, hl.below ((Below.refl _ _).drew), hz⟩
/-- Two boxes filled. -/
theorem two_held {X : World} {g h B : Nat} {t u : Tm} {op n op2 n2 : Int} {s s2 : ByteArray} {a a2 : Option Addr} {len cap len2 cap2 k : Nat} (ht : Lies X (B + 2) t (tmCells op n s a len cap)) (hu : Lies X (B + 2) u (tmCells op2 n2 s2 a2 len2 cap2)) (hz : t.size + t.wt ≤ k) (hy : u.size + u.wt ≤ k) (hg : B ≤ g ∧ g < B + 2) (hh : B ≤ h ∧ h < B + 2) {w : World} (hB : B = w.heap.size) (hb : Below B w X) (x0 x1 x2 x3 y0 y1 y2 y3 : Value) :
    let Y := ((((((((X.setCell ⟨g, 0, none⟩ x0).setCell ⟨g, 1, none⟩ x1).setCell ⟨g, 2, none⟩ x2).setCell ⟨g, 3, none⟩ x3).setCell ⟨h, 0, none⟩ y0).setCell ⟨h, 1, none⟩ y1).setCell ⟨h, 2, none⟩ y2).setCell ⟨h, 3, none⟩ y3)
    Held k Y w.heap.size (.agg #[.int .i64 op, .int .i64 n, .string s, .slice a len cap]) ∧ Held k Y w.heap.size (.agg #[.int .i64 op2, .int .i64 n2, .string s2, .slice a2 len2 cap2]) ∧ Below w.heap.size w Y := by
  subst hB
  intro Y
  exact ⟨⟨t, _, _, _, _, _, _, rfl, set4_lies (set4_lies ht hg.2 _ (Nat.le_refl _)) hh.2 _ (by omega), hz⟩, ⟨u, _, _, _, _, _, _, rfl, set4_lies (set4_lies hu hg.2 _ (Nat.le_refl _)) hh.2 _ (by omega), hy⟩, set4_below (set4_below hb hg.1) hh.1⟩

set_option maxRecDepth 100000 in
set_option maxHeartbeats 4000000 in
theorem twice_calls (ad : Option Addr) (ln cp : Nat) (w : World) (hB : Bytes w w.heap.size ad ln) (hl : ln ≤ 1048576) (hlc : ln ≤ cp) :
    Calls Tryd.prog 41 #[.slice ad ln cp] w fun e w' => ∃ v u, e = .returned (.tuple #[v, u]) ∧ Held 61010 w' w.heap.size v ∧ Held 61010 w' w.heap.size u ∧ Below w.heap.size w w' := by
  have hnew := hide (new_calls ad ln cp)
  have hdr := hide draw_calls
  have hon := hide once_calls
  have h38 := hide cz_calls
  have hB0 : Below w.heap.size w ((w.alloc (.cells #[.int .i64 0, .int .i64 0, .string ByteArray.empty, .slice none 0 0] 24)).alloc (.cells #[.int .i64 0, .int .i64 0, .string ByteArray.empty, .slice none 0 0] 24)) := bt (ab _) (ab _) (Nat.le_refl _)
  have HBY := hide (hB.below hB0 (show w.heap.size ≤ ((w.alloc (.cells #[.int .i64 0, .int .i64 0, .string ByteArray.empty, .slice none 0 0] 24)).alloc (.cells #[.int .i64 0, .int .i64 0, .string ByteArray.empty, .slice none 0 0] 24)).heap.size from hB0.size))
  have HS0 : Hid (((w.alloc (.cells #[.int .i64 0, .int .i64 0, .string ByteArray.empty, .slice none 0 0] 24)).alloc (.cells #[.int .i64 0, .int .i64 0, .string ByteArray.empty, .slice none 0 0] 24)).heap.size = w.heap.size + 1 + 1) := by show _ = _; simp
  have HXA : Hid (ZBox ((w.alloc (.cells #[.int .i64 0, .int .i64 0, .string ByteArray.empty, .slice none 0 0] 24)).alloc (.cells #[.int .i64 0, .int .i64 0, .string ByteArray.empty, .slice none 0 0] 24)) w.heap.size) := (ZBox.new w).below (ab _)
  have HXB : Hid (ZBox ((w.alloc (.cells #[.int .i64 0, .int .i64 0, .string ByteArray.empty, .slice none 0 0] 24)).alloc (.cells #[.int .i64 0, .int .i64 0, .string ByteArray.empty, .slice none 0 0] 24)) (w.heap.size + 1)) := by
    have := ZBox.new (w.alloc (.cells #[.int .i64 0, .int .i64 0, .string ByteArray.empty, .slice none 0 0] 24))
    rwa [heap_size_alloc] at this
  have HB0 := hide hB0
  have HL := hide hl
  have HLC := hide hlc
  clear hB hl hlc hB0
  go_enter Tryd.func41, Tryd.ntmps41
  go_wp2_with fail
  refine (unhide hnew _ (unhide HBY) (unhide HL) (unhide HLC)).mono ?_
  rintro e w1 ⟨rfl, hc1, hb1, hs1⟩
  have hb1 : Below ((w.alloc (.cells #[.int .i64 0, .int .i64 0, .string ByteArray.empty, .slice none 0 0] 24)).alloc (.cells #[.int .i64 0, .int .i64 0, .string ByteArray.empty, .slice none 0 0] 24)).heap.size ((w.alloc (.cells #[.int .i64 0, .int .i64 0, .string ByteArray.empty, .slice none 0 0] 24)).alloc (.cells #[.int .i64 0, .int .i64 0, .string ByteArray.empty, .slice none 0 0] 24)) w1 := hb1
  have hc1 : Cur w1 (w.heap.size + 1 + 1) := by simpa only [heap_size_alloc] using hc1
  clear hs1
  simp only [heap_size_alloc]
  generalize hcc : w.heap.size + 1 + 1 = c at *
  have hcw : w.heap.size + 1 < c := by omega
  have HXA1 := hide ((unhide HXA).below hb1)
  have HXB1 := hide ((unhide HXB).below hb1)
  have HB1 := hide (bt (unhide HB0) hb1 (Nat.le_refl _))
  have HC1 := hide hc1
  have hs1' : c < w1.heap.size := hc1.lt
  clear hc1 hb1 HXA HXB HB0 HBY hnew hcc HS0
  go_wp2_with fail
  refine (unhide hdr c _ (unhide HC1)).mono ?_
  rintro e w2 ⟨v, rfl, ⟨t, op, n, s, a, len, cap, rfl, hl2, hz2⟩, hc2, ho2⟩
  have HR2 := hide (RowT.new 24 w2 op n s a len cap)
  have HX2 := hide (((unhide HXA1).only ho2 (by omega)).below (ab (.cells #[.int .i64 op, .int .i64 n, .string s, .slice a len cap] 24)))
  have HY2 := hide (((unhide HXB1).only ho2 (by omega)).below (ab (.cells #[.int .i64 op, .int .i64 n, .string s, .slice a len cap] 24)))
  have HC2 := hide (hc2.below (ab (.cells #[.int .i64 op, .int .i64 n, .string s, .slice a len cap] 24)))
  have HT2 := hide (hl2.below (ab (.cells #[.int .i64 op, .int .i64 n, .string s, .slice a len cap] 24)))
  have HB2 := hide (bt ((unhide HB1).trans (ho2.belowc (unhide HB1).size (by omega))) (ab (.cells #[.int .i64 op, .int .i64 n, .string s, .slice a len cap] 24)) (by have := (unhide HB1).size; have := ho2.size; omega))
  have HZ := hide hz2
  have hg5 : c < w2.heap.size := by have := ho2.size; omega
  clear hl2 hz2 hc2 ho2 HXA1 HXB1 HC1 HB1
  go_wp2_with fail
  generalize hV : w2.alloc (.cells #[.int .i64 op, .int .i64 n, .string s, .slice a len cap] 24) = V at *
  generalize w2.heap.size = g5 at *
  clear hV
  refine (unhide hon c 3 _ (unhide HC2) (by omega)).mono ?_
  rintro e w3 ⟨b, rfl, hc3, ho3⟩
  have HR3 := hide ((unhide HR2).only ho3 (by simp; omega))
  have HX3 := hide ((unhide HX2).only ho3 (by omega))
  have HY3 := hide ((unhide HY2).only ho3 (by omega))
  have HC3 := hide hc3
  have HT3 := hide ((unhide HT2).only ho3 (by omega))
  have HB3 := hide ((unhide HB2).trans (ho3.belowc (unhide HB2).size (by omega)))
  clear hc3 ho3 HR2 HX2 HY2 HC2 HT2 HB2
  obtain ⟨c0, c1, c2, c3⟩ := (unhide HR3).facts
  have hne1 : (w.heap.size = g5) = False := by simp; omega
  have hne2 : (g5 = w.heap.size) = False := by simp; omega
  have hne3 : (w.heap.size + 1 = g5) = False := by simp; omega
  have hne4 : (g5 = w.heap.size + 1) = False := by simp; omega
  cases b with
  | true =>
    go_wp2_with fail
    go_region_held3 (fun x => x.cell? ⟨g5, 0, none⟩ = some (.int .i64 op) ∧ x.cell? ⟨g5, 1, none⟩ = some (.int .i64 n) ∧ x.cell? ⟨g5, 2, none⟩ = some (.string s) ∧ x.cell? ⟨g5, 3, none⟩ = some (.slice a len cap)) (go_keep)
      (first
        | (go_at_call 46
           refine (unhide h38 t op n s a len cap _ (((unhide HT3).any (Nat.zero_le _)).below ((Below.refl _ _).drew)) (by have := unhide HZ; omega)).mono ?_
           rintro e w4 ⟨a4, cap4, f4, rfl, hO4, ⟨_, hge4⟩, hb4⟩
           have hb34 := hide (below_drew' hb4)
           have HU4 := hide (Own.lies (L := w3.heap.size) _ _ _ hO4 hge4)
           obtain ⟨p0, p1, p2, p3, q0, q1, q2, q3⟩ := ((unhide HX3).below (unhide hb34)).facts
           obtain ⟨r0, r1, r2, r3, u0, u1, u2, u3⟩ := ((unhide HY3).below (unhide hb34)).facts
           have j0 := kpc (unhide hb34) c0
           have j1 := kpc (unhide hb34) c1
           have j2 := kpc (unhide hb34) c2
           have j3 := kpc (unhide hb34) c3
           clear hO4 hge4 hb4))
    have HT4 := hide (((unhide HT3).any (show w.heap.size + 2 ≤ w1.heap.size by omega)).below (unhide hb34))
    have HU5 := hide ((unhide HU4).any (show w.heap.size + 2 ≤ w3.heap.size by have := (unhide HR3).lt; omega))
    have HB4 := hide (bt (unhide HB3) (unhide hb34) (Nat.le_refl _))
    clear c0 c1 c2 c3 j0 j1 j2 j3
    go_wp2_with fail
    exact bodyPost_ret (v := .tuple #[.agg #[.int .i64 op, .int .i64 n, .string s, .slice a len cap], .agg #[.int .i64 op, .int .i64 n, .string s, .slice a4 len cap4]]) (by simp [results, Tryd.results41, go_sem, p0, p1, p2, p3, r0, r1, r2, r3]) rfl ⟨_, _, rfl, two_held (unhide HT4) (unhide HU5) (unhide HZ) (unhide HZ) ⟨Nat.le_refl _, by omega⟩ ⟨by omega, by omega⟩ rfl (unhide HB4) _ _ _ _ _ _ _ _⟩
  | false =>
    go_wp2_with fail
    go_region_held3 (fun x => x.cell? ⟨g5, 0, none⟩ = some (.int .i64 op) ∧ x.cell? ⟨g5, 1, none⟩ = some (.int .i64 n) ∧ x.cell? ⟨g5, 2, none⟩ = some (.string s) ∧ x.cell? ⟨g5, 3, none⟩ = some (.slice a len cap)) (go_keep)
      (first
        | (go_at_call 44
           refine (unhide hdr c _ (unhide HC3).drew).mono ?_
           rintro e w4 ⟨v, rfl, ⟨t2, op2, n2, s2, a2, len2, cap2, rfl, hl4, hz4⟩, hc4, ho4⟩
           have HO34 := hide ho4.drewl
           have HU4 := hide hl4
           have HZ4 := hide hz4
           have HR4 := hide ((unhide HR3).only ho4.drewl (by simp; omega))
           obtain ⟨p0, p1, p2, p3, q0, q1, q2, q3⟩ := ((unhide HX3).only ho4.drewl (by omega)).facts
           obtain ⟨r0, r1, r2, r3, u0, u1, u2, u3⟩ := ((unhide HY3).only ho4.drewl (by omega)).facts
           obtain ⟨j0, j1, j2, j3⟩ := (unhide HR4).facts
           clear hl4 hz4 hc4 ho4))
    have HT4 := hide (((unhide HT3).only (unhide HO34) (by omega)).any (show w.heap.size + 2 ≤ w1.heap.size by omega))
    have HU5 := hide ((unhide HU4).any (show w.heap.size + 2 ≤ w3.heap.size by have := (unhide HR3).lt; omega))
    have HB4 := hide ((unhide HB3).trans ((unhide HO34).belowc (unhide HB3).size (by omega)))
    clear c0 c1 c2 c3 j0 j1 j2 j3
    go_wp2_with fail
    exact bodyPost_ret (v := .tuple #[.agg #[.int .i64 op, .int .i64 n, .string s, .slice a len cap], .agg #[.int .i64 op2, .int .i64 n2, .string s2, .slice a2 len2 cap2]]) (by simp [results, Tryd.results41, go_sem, p0, p1, p2, p3, r0, r1, r2, r3]) rfl ⟨_, _, rfl, two_held (unhide HT4) (unhide HU5) (unhide HZ) (unhide HZ4) ⟨Nat.le_refl _, by omega⟩ ⟨by omega, by omega⟩ rfl (unhide HB4) _ _ _ _ _ _ _ _⟩
set_option maxRecDepth 100000 in
set_option maxHeartbeats 4000000 in
theorem drawPair (ad : Option Addr) (ln cp : Nat) (w : World) (hB : Bytes w w.heap.size ad ln) (hl : ln ≤ 1048576) (hlc : ln ≤ cp) :
    Calls Tryd.prog 22 #[.slice ad ln cp] w fun e w' => ∃ v u, e = .returned (.tuple #[v, u]) ∧ Held 61010 w' w.heap.size v ∧ Held 61010 w' w.heap.size u ∧ Below w.heap.size w w' := by
  have h24 := hide (twice_calls ad ln cp)
  have hB0 : Below w.heap.size w ((w.alloc (.cells #[.int .i64 0, .int .i64 0, .string ByteArray.empty, .slice none 0 0] 24)).alloc (.cells #[.int .i64 0, .int .i64 0, .string ByteArray.empty, .slice none 0 0] 24)) := bt (ab _) (ab _) (Nat.le_refl _)
  have HBY := hide (hB.below hB0 (show w.heap.size ≤ ((w.alloc (.cells #[.int .i64 0, .int .i64 0, .string ByteArray.empty, .slice none 0 0] 24)).alloc (.cells #[.int .i64 0, .int .i64 0, .string ByteArray.empty, .slice none 0 0] 24)).heap.size from hB0.size))
  have HXA : Hid (ZBox ((w.alloc (.cells #[.int .i64 0, .int .i64 0, .string ByteArray.empty, .slice none 0 0] 24)).alloc (.cells #[.int .i64 0, .int .i64 0, .string ByteArray.empty, .slice none 0 0] 24)) w.heap.size) := (ZBox.new w).below (ab _)
  have HXB : Hid (ZBox ((w.alloc (.cells #[.int .i64 0, .int .i64 0, .string ByteArray.empty, .slice none 0 0] 24)).alloc (.cells #[.int .i64 0, .int .i64 0, .string ByteArray.empty, .slice none 0 0] 24)) (w.heap.size + 1)) := by
    have := ZBox.new (w.alloc (.cells #[.int .i64 0, .int .i64 0, .string ByteArray.empty, .slice none 0 0] 24))
    rwa [heap_size_alloc] at this
  have HB0 := hide hB0
  have HL := hide hl
  have HLC := hide hlc
  clear hB hl hlc hB0
  go_enter Tryd.func22, Tryd.ntmps22
  go_wp2_with fail
  refine (unhide h24 _ (unhide HBY) (unhide HL) (unhide HLC)).mono ?_
  rintro e w1 ⟨v, u, rfl, ⟨t, op, n, s, a, len, cap, rfl, ht, hz⟩, ⟨t2, op2, n2, s2, a2, len2, cap2, rfl, hu, hy⟩, hb1⟩
  have hb1 : Below ((w.alloc (.cells #[.int .i64 0, .int .i64 0, .string ByteArray.empty, .slice none 0 0] 24)).alloc (.cells #[.int .i64 0, .int .i64 0, .string ByteArray.empty, .slice none 0 0] 24)).heap.size ((w.alloc (.cells #[.int .i64 0, .int .i64 0, .string ByteArray.empty, .slice none 0 0] 24)).alloc (.cells #[.int .i64 0, .int .i64 0, .string ByteArray.empty, .slice none 0 0] 24)) w1 := hb1
  simp only [heap_size_alloc] at ht hu
  have hX1 := (unhide HXA).below hb1
  have hY1 := (unhide HXB).below hb1
  have hs1 := lt_of_heap hX1
  have hs2 := lt_of_heap hY1
  have hb13 : Below w1.heap.size w1 ((w1.alloc (.cells #[.int .i64 op, .int .i64 n, .string s, .slice a len cap] 24)).alloc (.cells #[.int .i64 op2, .int .i64 n2, .string s2, .slice a2 len2 cap2] 24)) := bt (ab _) (ab _) (Nat.le_refl _)
  obtain ⟨p0, p1, p2, p3, q0, q1, q2, q3⟩ := (hX1.below hb13).facts
  obtain ⟨r0, r1, r2, r3, u0, u1, u2, u3⟩ := (hY1.below hb13).facts
  obtain ⟨c0, c1, c2, c3⟩ := ((RowT.new 24 w1 op n s a len cap).below (ab (.cells #[.int .i64 op2, .int .i64 n2, .string s2, .slice a2 len2 cap2] 24))).facts
  have hd := (RowT.new 24 (w1.alloc (.cells #[.int .i64 op, .int .i64 n, .string s, .slice a len cap] 24)) op2 n2 s2 a2 len2 cap2).facts
  rw [heap_size_alloc] at hd
  obtain ⟨d0, d1, d2, d3⟩ := hd
  have HT := hide (ht.below hb13)
  have HU := hide (hu.below hb13)
  have HZ := hide hz
  have HY := hide hy
  have HB3 := hide (bt (bt (unhide HB0) hb1 (Nat.le_refl _)) hb13 (Nat.le_refl _))
  have m1 : (w1.heap.size = w.heap.size) = False := by simp; omega
  have m2 : (w.heap.size = w1.heap.size) = False := by simp; omega
  have m3 : (w1.heap.size = w.heap.size + 1) = False := by simp; omega
  have m4 : (w.heap.size + 1 = w1.heap.size) = False := by simp; omega
  have m5 : (w1.heap.size + 1 = w.heap.size) = False := by simp; omega
  have m6 : (w.heap.size = w1.heap.size + 1) = False := by simp; omega
  have m7 : (w1.heap.size + 1 = w.heap.size + 1) = False := by simp; omega
  have m8 : (w.heap.size + 1 = w1.heap.size + 1) = False := by simp; omega
  clear ht hu hz hy hb1 hX1 hY1 hb13
  go_wp2_with fail
  generalize hV : ((w1.alloc (.cells #[.int .i64 op, .int .i64 n, .string s, .slice a len cap] 24)).alloc (.cells #[.int .i64 op2, .int .i64 n2, .string s2, .slice a2 len2 cap2] 24)) = V at *
  clear hV
  go_region
  go_wp2_with fail
  obtain ⟨f1, f2, f3⟩ := two_held (k := 61010) (unhide HT) (unhide HU) (unhide HZ) (unhide HY) (g := w.heap.size) (h := w.heap.size + 1) ⟨Nat.le_refl _, by omega⟩ ⟨by omega, by omega⟩ rfl (unhide HB3) (.int .i64 op) (.int .i64 n) (.string s) (.slice a len cap) (.int .i64 op2) (.int .i64 n2) (.string s2) (.slice a2 len2 cap2)
  exact bodyPost_ret (v := .tuple #[.agg #[.int .i64 op, .int .i64 n, .string s, .slice a len cap], .agg #[.int .i64 op2, .int .i64 n2, .string s2, .slice a2 len2 cap2]]) (by simp [results, Tryd.results22, go_sem, p0, p1, p2, p3, r0, r1, r2, r3]) rfl ⟨_, _, rfl, f1.drew, f2.drew, f3.drew⟩

set_option maxRecDepth 100000 in
set_option maxHeartbeats 4000000 in
theorem drawPub (ad : Option Addr) (ln cp : Nat) (w : World) (hB : Bytes w w.heap.size ad ln) (hl : ln ≤ 1048576) (hlc : ln ≤ cp) :
    Calls Tryd.prog 24 #[.slice ad ln cp] w fun e w' => ∃ v, e = .returned v ∧ Held 61010 w' w.heap.size v ∧ Below w.heap.size w w' := by
  have hnew := hide (new_calls ad ln cp)
  have hdr := hide draw_calls
  have HBY := hide (hB.below (ab (.cells #[.int .i64 0, .int .i64 0, .string ByteArray.empty, .slice none 0 0] 24)) (show w.heap.size ≤ (w.alloc (.cells #[.int .i64 0, .int .i64 0, .string ByteArray.empty, .slice none 0 0] 24)).heap.size from (ab _).size))
  have HX := hide (ZBox.new w)
  have HL := hide hl
  have HLC := hide hlc
  clear hB hl hlc
  go_enter Tryd.func24, Tryd.ntmps24
  go_wp2_with fail
  refine (unhide hnew _ (unhide HBY) (unhide HL) (unhide HLC)).mono ?_
  rintro e w1 ⟨rfl, hc1, hb1, _⟩
  have hb1 : Below (w.alloc (.cells #[.int .i64 0, .int .i64 0, .string ByteArray.empty, .slice none 0 0] 24)).heap.size (w.alloc (.cells #[.int .i64 0, .int .i64 0, .string ByteArray.empty, .slice none 0 0] 24)) w1 := hb1
  simp only [heap_size_alloc] at hc1 ⊢
  have HX1 := hide ((unhide HX).below hb1)
  have HB1 := hide (bt (ab (w := w) (.cells #[.int .i64 0, .int .i64 0, .string ByteArray.empty, .slice none 0 0] 24)) hb1 (Nat.le_refl _))
  have HC1 := hide hc1
  have hs1 := hc1.lt
  clear hc1 hb1
  go_wp2_with fail
  refine (unhide hdr _ _ (unhide HC1)).mono ?_
  rintro e w2 ⟨v, rfl, ⟨t, op, n, s, a, len, cap, rfl, hl2, hz2⟩, hc2, ho2⟩
  obtain ⟨p0, p1, p2, p3, q0, q1, q2, q3⟩ := ((unhide HX1).only ho2 (by omega)).facts
  have HT := hide hl2
  have HZ := hide hz2
  have HB2 := hide ((unhide HB1).trans (ho2.belowc (unhide HB1).size (by omega)))
  clear hl2 hz2 hc2 ho2
  go_wp2_with fail
  exact bodyPost_ret (v := .agg #[.int .i64 op, .int .i64 n, .string s, .slice a len cap]) (by simp [results, Tryd.results24, go_sem, p0, p1, p2, p3]) rfl ⟨_, rfl, ⟨t, _, _, _, _, _, _, rfl, set4_lies (unhide HT) (by omega) _ (by omega), unhide HZ⟩, set4_below (unhide HB2) (Nat.le_refl _)⟩

set_option maxRecDepth 100000 in
set_option maxHeartbeats 4000000 in
theorem drawHash (ad : Option Addr) (ln cp : Nat) (w : World) (hB : Bytes w w.heap.size ad ln) (hl : ln ≤ 1048576) (hlc : ln ≤ cp) :
    Calls Tryd.prog 25 #[.slice ad ln cp] w fun e w' => ∃ v, e = .returned v ∧ Held 61010 w' w.heap.size v ∧ Below w.heap.size w w' := by
  have hnew := hide (new_calls ad ln cp)
  have hdr := hide draw_calls
  have HBY := hide (hB.below (ab (.cells #[.int .i64 0, .int .i64 0, .string ByteArray.empty, .slice none 0 0] 24)) (show w.heap.size ≤ (w.alloc (.cells #[.int .i64 0, .int .i64 0, .string ByteArray.empty, .slice none 0 0] 24)).heap.size from (ab _).size))
  have HX := hide (ZBox.new w)
  have HL := hide hl
  have HLC := hide hlc
  clear hB hl hlc
  go_enter Tryd.func25, Tryd.ntmps25
  go_wp2_with fail
  refine (unhide hnew _ (unhide HBY) (unhide HL) (unhide HLC)).mono ?_
  rintro e w1 ⟨rfl, hc1, hb1, _⟩
  have hb1 : Below (w.alloc (.cells #[.int .i64 0, .int .i64 0, .string ByteArray.empty, .slice none 0 0] 24)).heap.size (w.alloc (.cells #[.int .i64 0, .int .i64 0, .string ByteArray.empty, .slice none 0 0] 24)) w1 := hb1
  simp only [heap_size_alloc] at hc1 ⊢
  have HX1 := hide ((unhide HX).below hb1)
  have HB1 := hide (bt (ab (w := w) (.cells #[.int .i64 0, .int .i64 0, .string ByteArray.empty, .slice none 0 0] 24)) hb1 (Nat.le_refl _))
  have HC1 := hide hc1
  have hs1 := hc1.lt
  clear hc1 hb1
  go_wp2_with fail
  refine (unhide hdr _ _ (unhide HC1)).mono ?_
  rintro e w2 ⟨v, rfl, ⟨t, op, n, s, a, len, cap, rfl, hl2, hz2⟩, hc2, ho2⟩
  obtain ⟨p0, p1, p2, p3, q0, q1, q2, q3⟩ := ((unhide HX1).only ho2 (by omega)).facts
  have HT := hide hl2
  have HZ := hide hz2
  have HB2 := hide ((unhide HB1).trans (ho2.belowc (unhide HB1).size (by omega)))
  clear hl2 hz2 hc2 ho2
  go_wp2_with fail
  exact bodyPost_ret (v := .agg #[.int .i64 op, .int .i64 n, .string s, .slice a len cap]) (by simp [results, Tryd.results25, go_sem, p0, p1, p2, p3]) rfl ⟨_, rfl, ⟨t, _, _, _, _, _, _, rfl, set4_lies (unhide HT) (by omega) _ (by omega), unhide HZ⟩, set4_below (unhide HB2) (Nat.le_refl _)⟩



mutual
theorem Lies.grow {w w' : World} {L L' : Nat} (hL : L' ≤ L) (hc : ∀ b o v, L ≤ b → w.cell? ⟨b, o, none⟩ = some v → w'.cell? ⟨b, o, none⟩ = some v) : ∀ (t : Tm) (cs : List Value), Lies w L t cs → Lies w' L' t cs
  | .node op n s ks, cs, h => by
    simp only [Lies] at h ⊢
    obtain ⟨a, cap, rfl, h1, h2, h4⟩ := h
    exact ⟨a, cap, rfl, h1, h2, LiesAll.grow hL hc a 0 ks h4⟩
theorem LiesAll.grow {w w' : World} {L L' : Nat} (hL : L' ≤ L) (hc : ∀ b o v, L ≤ b → w.cell? ⟨b, o, none⟩ = some v → w'.cell? ⟨b, o, none⟩ = some v) (a : Option Addr) : ∀ (i : Nat) (ks : List Tm), LiesAll w L a i ks → LiesAll w' L' a i ks
  | i, [], _ => by simp [LiesAll]
  | i, t :: r, h => by
    simp only [LiesAll] at h ⊢
    obtain ⟨⟨b, o, cs, ha, hb, hr, ht⟩, h2⟩ := h
    exact ⟨⟨b, o, cs, ha, by omega, fun j v hj => hc b _ v hb (hr j v hj), Lies.grow hL hc t cs ht⟩, LiesAll.grow hL hc a (i + 1) r h2⟩
end

/-- The world without a block. -/
def gone (w : World) (g : Nat) : World := { w with heap := w.heap.modify g fun _ => .cells #[] 24 }
theorem gone_other (w : World) (g b : Nat) (h : b ≠ g) : (gone w g).heap[b]? = w.heap[b]? := by
  simp only [gone, Array.getElem?_modify]
  rw [if_neg (fun e => h e.symm)]
theorem gone_cell {w : World} {g b o : Nat} {v : Value} (h : (gone w g).cell? ⟨b, o, none⟩ = some v) : b ≠ g ∧ w.cell? ⟨b, o, none⟩ = some v := by
  by_cases hb : b = g
  · subst hb
    exfalso
    by_cases hlt : b < w.heap.size
    · have : (gone w b).heap[b]? = some (.cells #[] 24 (0, 0)) := by
        simp only [gone, Array.getElem?_modify]
        simp [hlt]
      simp [World.cell?, this] at h
    · have : (gone w b).heap[b]? = none := by simp [gone]; omega
      simp [World.cell?, this] at h
  · exact ⟨hb, (World.cell?_of_block (gone_other w g b hb)).symm.trans h⟩
theorem gone_keep {w : World} {g b o : Nat} {v : Value} (hb : b ≠ g) (h : w.cell? ⟨b, o, none⟩ = some v) : (gone w g).cell? ⟨b, o, none⟩ = some v := (World.cell?_of_block (gone_other w g b hb)).trans h

/-- The term in a box that is written again and again: nothing of it lies in that box. -/
def Boxed (t : Tm) (w : World) (g L : Nat) : Prop := ∃ (op n : Int) (s : ByteArray) (a : Option Addr) (len cap : Nat), RowT 24 w g op n s a len cap ∧ Lies (gone w g) L t (tmCells op n s a len cap)

theorem lies_gone {w : World} {g L : Nat} {t : Tm} {cs : List Value} (h : Lies (gone w g) L t cs) : Lies w L t cs := Lies.grow (Nat.le_refl _) (fun _ _ _ _ hv => (gone_cell hv).2) t cs h
theorem gone_only {w w' : World} {g L c : Nat} {t : Tm} {cs : List Value} (h : Lies (gone w g) L t cs) (ho : Only [c] w w') (hc : c < L) : Lies (gone w' g) L t cs :=
  Lies.grow (Nat.le_refl _) (fun b o v hb hv => by
    obtain ⟨h1, h2⟩ := gone_cell hv
    exact gone_keep h1 ((World.cell?_of_block (ho.block b (lt_of_cell h2) (by simp; omega))).trans h2)) t cs h
theorem lies_rowL {W : World} {t u : Tm} {op1 n1 op2 n2 : Int} {s1 s2 : ByteArray} {a1 a2 : Option Addr} {l1 c1 l2 c2 b L : Nat} (hLb : L ≤ b) (h1 : Lies W L t (tmCells op1 n1 s1 a1 l1 c1)) (h2 : Lies W L u (tmCells op2 n2 s2 a2 l2 c2)) (hr : ∀ j v, (#[.int .i64 op1, .int .i64 n1, .string s1, .slice a1 l1 c1, .int .i64 op2, .int .i64 n2, .string s2, .slice a2 l2 c2] : Array Value)[j]? = some v → W.cell? ⟨b, j, none⟩ = some v) (op : Int) (hop : (Lit.int .i64 op).wf = true) :
    Lies W L (.node op 0 ByteArray.empty [t, u]) (tmCells op 0 ByteArray.empty (some ⟨b, 0, none⟩) 2 2) := by
  simp only [Lies, LiesAll]
  refine ⟨_, _, rfl, ⟨by simp [maxLen], by simp, by simp [maxLen]⟩, ⟨hop, by decide⟩, ⟨b, 0, _, rfl, hLb, fun j v hj => ?_, h1⟩, ⟨b, 0, _, rfl, hLb, fun j v hj => ?_, h2⟩, trivial⟩
  · rw [Nat.zero_mul, Nat.zero_add]
    refine hr j v ?_
    match j, hj with
    | 0, hj => simpa [tmCells] using hj
    | 1, hj => simpa [tmCells] using hj
    | 2, hj => simpa [tmCells] using hj
    | 3, hj => simpa [tmCells] using hj
    | j + 4, hj => simp [tmCells] at hj
  · rw [show 0 + (0 + 1) * 4 + j = 4 + j by omega]
    refine hr (4 + j) v ?_
    match j, hj with
    | 0, hj => simpa [tmCells] using hj
    | 1, hj => simpa [tmCells] using hj
    | 2, hj => simpa [tmCells] using hj
    | 3, hj => simpa [tmCells] using hj
    | j + 4, hj => simp [tmCells] at hj

/-- The box, written anew with the pair of what was in it and its copy. -/
theorem Boxed.next {t : Tm} {wr w5 w6 Y : World} {g L c : Nat} {op n : Int} {s : ByteArray} {a a6 : Option Addr} {len cap cap6 : Nat} (hl : Lies (gone wr g) L t (tmCells op n s a len cap)) (h15 : Only [c] wr w5) (hcL : c < L) (hL : L ≤ w5.heap.size) (hg : g < w5.heap.size) (h56 : Below w5.heap.size w5 w6) (hR : RowT 24 w6 g op n s a len cap) (hc6 : Lies w6 w5.heap.size t (tmCells op n s a6 len cap6))
    (hY : Y = ((((w6.setCell ⟨g, 0, none⟩ (.int .i64 3)).setCell ⟨g, 1, none⟩ (.int .i64 0)).setCell ⟨g, 2, none⟩ (.string ⟨#[]⟩)).setCell ⟨g, 3, none⟩ (.slice (some ⟨w6.heap.size, 0, none⟩) 2 2))) :
    Boxed (.node 3 0 ByteArray.empty [t, t]) (Y.alloc (.cells #[.int .i64 op, .int .i64 n, .string s, .slice a len cap, .int .i64 op, .int .i64 n, .string s, .slice a6 len cap6] 24)) g L := by
  have hs : Y.heap.size = w6.heap.size := by rw [hY]; simp
  have h56s := h56.size
  have hYo : ∀ b, b ≠ g → Y.heap[b]? = w6.heap[b]? := fun b hb => by rw [hY]; exact set4_heap _ _ _ _ _ _ b hb
  have hrow : RowT 24 Y g 3 0 ByteArray.empty (some ⟨w6.heap.size, 0, none⟩) 2 2 := by
    rw [hY]
    unfold RowT at hR ⊢
    exact set_row (o := 3) (.slice (some ⟨w6.heap.size, 0, none⟩) 2 2) (set_row (o := 2) (.string ⟨#[]⟩) (set_row (o := 1) (.int .i64 0) (set_row (o := 0) (.int .i64 3) hR)))
  have hold : ∀ b o v, b ≠ g → w6.cell? ⟨b, o, none⟩ = some v → (gone (Y.alloc (.cells #[.int .i64 op, .int .i64 n, .string s, .slice a len cap, .int .i64 op, .int .i64 n, .string s, .slice a6 len cap6] 24)) g).cell? ⟨b, o, none⟩ = some v := fun b o v hb hv =>
    gone_keep hb (kpc (ab _) ((World.cell?_of_block (hYo b hb)).trans hv))
  refine ⟨3, 0, ByteArray.empty, some ⟨w6.heap.size, 0, none⟩, 2, 2, hrow.below (ab _), ?_⟩
  refine lies_rowL (by omega) (Lies.grow (Nat.le_refl _) (fun b o v hb hv => ?_) _ _ hl) (Lies.grow hL (fun b o v hb hv => hold b o v (by omega) hv) _ _ hc6) (fun j v hj => gone_keep (by omega) ?_) 3 (by decide)
  · obtain ⟨h1, h2⟩ := gone_cell hv
    exact hold b o v h1 (kpc h56 ((World.cell?_of_block (h15.block b (lt_of_cell h2) (by simp; omega))).trans h2))
  · have := box_cell Y _ 24 j v hj
    rwa [hs] at this

theorem bytesLess_flip : ∀ (x y : List UInt8), x ≠ y → Op.bytesLess y x = !Op.bytesLess x y
  | [], [], h => absurd rfl h
  | [], _ :: _, _ => rfl
  | _ :: _, [], _ => rfl
  | a :: x, b :: y, h => by
    simp only [Op.bytesLess]
    by_cases hab : a = b
    · subst hab
      have hxy : x ≠ y := fun e => h (by rw [e])
      have := bytesLess_flip x y hxy
      simp [this]
    · have hba : ¬ b = a := fun e => hab e.symm
      have hlt : (b < a) ↔ ¬ (a < b) := by
        constructor
        · intro h1 h2
          exact absurd (UInt8.lt_trans h1 h2) (UInt8.lt_irrefl b)
        · intro h1
          rcases UInt8.lt_or_lt_of_ne hab with h2 | h2
          · exact absurd h2 h1
          · exact h2
      by_cases h1 : a < b
      · have h2 : ¬ b < a := fun h2 => (hlt.1 h2) h1
        simp [h1, h2, hba]
      · have h2 : b < a := hlt.2 h1
        simp [h1, h2, hab]

theorem cmpI_flip (a b : Int) : cmpI b a = -cmpI a b := by unfold cmpI; split <;> split <;> (try split) <;> omega
theorem cmpS_flip (x y : ByteArray) : cmpS y x = -cmpS x y := by
  unfold cmpS
  by_cases h : x = y
  · subst h; simp
  · have hl : x.toList ≠ y.toList := fun e => h (toList_inj e)
    rw [if_neg h, if_neg (fun e => h e.symm), bytesLess_flip _ _ hl]
    cases Op.bytesLess x.toList y.toList <;> simp
theorem orI_flip (a b : Int) : orI (-a) (-b) = -orI a b := by unfold orI; split <;> split <;> omega

mutual
theorem cmpT_flip : ∀ (t u : Tm), cmpT u t = -cmpT t u
  | .node op n s ks, .node op' n' s' ks' => by
    simp only [cmpT, headC]
    rw [cmpI_flip op op', cmpI_flip n n', cmpS_flip s s', cmpI_flip (ks.length : Int) (ks'.length : Int), cmpL_flip ks ks', orI_flip, orI_flip, orI_flip, orI_flip]
theorem cmpL_flip : ∀ (ks ks' : List Tm), cmpL ks' ks = -cmpL ks ks'
  | [], [] => by simp [cmpL]
  | [], _ :: _ => by simp [cmpL]
  | _ :: _, [] => by simp [cmpL]
  | t :: r, u :: r' => by
    simp only [cmpL]
    rw [cmpT_flip t u, cmpL_flip r r', orI_flip]
end

mutual
theorem cmpT_eq : ∀ (t u : Tm), cmpT t u = 0 → t = u
  | .node op n s ks, .node op' n' s' ks', h => by
    simp only [cmpT] at h
    obtain ⟨h1, h2⟩ := orI_eq_zero.1 h
    obtain ⟨rfl, rfl, rfl, h3⟩ := headC_zero.1 h1
    rw [cmpL_eq ks ks' h3 h2]
theorem cmpL_eq : ∀ (ks ks' : List Tm), ks.length = ks'.length → cmpL ks ks' = 0 → ks = ks'
  | [], [], _, _ => rfl
  | [], _ :: _, h, _ => by simp at h
  | _ :: _, [], h, _ => by simp at h
  | t :: r, u :: r', h, h0 => by
    simp only [cmpL] at h0
    obtain ⟨h1, h2⟩ := orI_eq_zero.1 h0
    rw [cmpT_eq t u h1, cmpL_eq r r' (by simpa using h) h2]
end

theorem same_eq {t u : Tm} (h : sameB t u = true) : t = u := cmpT_eq t u (by simpa [sameB] using h)
theorem same_before {t u : Tm} (h : sameB t u = true) : beforeB t u = false ∧ beforeB u t = false := by
  have h0 : cmpT t u = 0 := by simpa [sameB] using h
  have h1 := cmpT_flip t u
  unfold beforeB
  rw [h1, h0]
  simp
theorem other_before {t u : Tm} (h : sameB t u = false) : beforeB u t = !beforeB t u := by
  have h0 : cmpT t u ≠ 0 := by simpa [sameB] using h
  have h1 := cmpT_flip t u
  unfold beforeB
  rw [h1]
  by_cases h2 : cmpT t u < 0
  · simp [h2]; omega
  · simp [h2]; omega


end Go.Proofs.YtagondlfhdfcgaaDoor
