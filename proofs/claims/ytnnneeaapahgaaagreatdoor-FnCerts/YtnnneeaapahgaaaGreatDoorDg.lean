
/- Draws of chapter 4 out of a code: nothing that was there is written. A drawn term, a host and a time: nothing that was there is written. -/
import Derived.Test.YtnnneeaapahgaaaGreatDoorDe
import Derived.Test.YtnnneeaapahgaaaGreatDoorSw
namespace Go.Proofs.YtnnneeaapahgaaaGreatDoor
open Go.RowKit Go.Deep

theorem Bytes.below {w w' : World} {c c' : Nat} {a : Option Addr} {len : Nat} (h : Bytes w c a len) (hb : Below w.heap.size w w') (hc : c ≤ c') : Bytes w' c' a len := fun k hk => by
  obtain ⟨b, o, z, h1, h2, h3, h4⟩ := h k hk
  exact ⟨b, o, z, h1, by omega, kpc hb h3, h4⟩
theorem Only.belowc {c B : Nat} {w w' : World} (h : Only [c] w w') (hB : B ≤ w.heap.size) (hc : B ≤ c) : Below B w w' := h.below hB (by simpa using hc)
theorem set6_lies {w : World} {g L : Nat} {p : Tm} {cs : List Value} (hl : Lies w L p cs) (hg : g < L) (x0 x1 x2 x3 x4 x5 : Value) : Lies ((((((w.setCell ⟨g, 0, none⟩ x0).setCell ⟨g, 1, none⟩ x1).setCell ⟨g, 2, none⟩ x2).setCell ⟨g, 3, none⟩ x3).setCell ⟨g, 4, none⟩ x4).setCell ⟨g, 5, none⟩ x5) 0 p cs :=
  Lies.set (L := L) (Lies.set (Lies.set (Lies.set (Lies.set (Lies.set hl hg (Nat.le_refl _)) hg (Nat.le_refl _)) hg (Nat.le_refl _)) hg (Nat.le_refl _)) hg (Nat.le_refl _)) hg (Nat.zero_le _)

set_option maxRecDepth 100000 in
set_option maxHeartbeats 4000000 in
theorem draw5 (ad : Option Addr) (ln cp : Nat) (w : World) (hB : Bytes w w.heap.size ad ln) (hl : ln ≤ 1048576) (hlc : ln ≤ cp) :
    Calls Tryz.prog 24 #[.slice ad ln cp] w fun e w' => ∃ h p v op n s a len cap, e = .returned (.agg #[.string h, .int .i64 op, .int .i64 n, .string s, .slice a len cap, .int .i64 v]) ∧ CertD h p v ∧ Lies w' 0 p (tmCells op n s a len cap) ∧ Below w.heap.size w w' := by
  have hnew := hide (new_calls ad ln cp)
  have hdr := hide cert_draw
  have HBY := hide (hB.below (ab (.cells #[.string ⟨#[]⟩, .int .i64 0, .int .i64 0, .string ⟨#[]⟩, .slice none 0 0, .int .i64 0] 33)) (show w.heap.size ≤ (w.alloc (.cells #[.string ⟨#[]⟩, .int .i64 0, .int .i64 0, .string ⟨#[]⟩, .slice none 0 0, .int .i64 0] 33)).heap.size from (ab _).size))
  have HX := hide (RowC.new 33 w ⟨#[]⟩ 0 0 ⟨#[]⟩ none 0 0 0)
  have HL := hide hl
  have HLC := hide hlc
  clear hB hl hlc
  go_enter Tryz.func24, Tryz.ntmps24
  go_wp2_with fail
  refine (unhide hnew _ (unhide HBY) (unhide HL) (unhide HLC)).mono ?_
  rintro e w1 ⟨rfl, hc1, hb1, _⟩
  have hb1 : Below (w.alloc (.cells #[.string ⟨#[]⟩, .int .i64 0, .int .i64 0, .string ⟨#[]⟩, .slice none 0 0, .int .i64 0] 33)).heap.size (w.alloc (.cells #[.string ⟨#[]⟩, .int .i64 0, .int .i64 0, .string ⟨#[]⟩, .slice none 0 0, .int .i64 0] 33)) w1 := hb1
  simp only [heap_size_alloc] at hc1 ⊢
  have HX1 := hide ((unhide HX).below hb1)
  have HB1 := hide (bt (ab (w := w) (.cells #[.string ⟨#[]⟩, .int .i64 0, .int .i64 0, .string ⟨#[]⟩, .slice none 0 0, .int .i64 0] 33)) hb1 (Nat.le_refl _))
  have HC1 := hide hc1
  have hs1 := hc1.lt
  clear hc1 hb1
  go_wp2_with fail
  refine (unhide hdr _ _ (unhide HC1)).mono ?_
  rintro e w2 ⟨h, p, v, op, n, s, a, len, cap, rfl, hd, hl2, hc2, ho2⟩
  have HR2 := hide ((unhide HX1).one ho2 (by omega))
  obtain ⟨p0, p1, p2, p3, p4, p5⟩ := (unhide HR2).facts
  obtain ⟨q0, q1, q2, q3, q4, q5⟩ := (unhide HR2).frozen
  have HT := hide hl2
  have HD := hide hd
  have HB2 := hide ((unhide HB1).trans (ho2.belowc (unhide HB1).size (by omega)))
  clear hl2 hd hc2 ho2
  go_wp2_with fail
  have HF := hide (fillR (unhide HR2) h op n s a len cap v)
  obtain ⟨f0, f1, f2, f3, f4, f5⟩ := (unhide HF).facts
  exact bodyPost_ret (v := .agg #[.string h, .int .i64 op, .int .i64 n, .string s, .slice a len cap, .int .i64 v]) (by simp [results, Tryz.results24, go_sem, f0, f1, f2, f3, f4, f5]; try rfl) rfl ⟨h, p, v, op, n, s, a, len, cap, rfl, unhide HD, set6_lies (unhide HT) (by omega) _ _ _ _ _ _, set6_below (unhide HB2) (Nat.le_refl _)⟩

set_option maxRecDepth 100000 in
set_option maxHeartbeats 4000000 in
theorem draw13 (ad : Option Addr) (ln cp : Nat) (w : World) (hB : Bytes w w.heap.size ad ln) (hl : ln ≤ 1048576) (hlc : ln ≤ cp) :
    Calls Tryz.prog 27 #[.slice ad ln cp] w fun e w' => ∃ h p v op n s a len cap, e = .returned (.agg #[.string h, .int .i64 op, .int .i64 n, .string s, .slice a len cap, .int .i64 v]) ∧ CertD h p v ∧ Lies w' 0 p (tmCells op n s a len cap) ∧ Below w.heap.size w w' := by
  have hnew := hide (new_calls ad ln cp)
  have hdr := hide cert_draw
  have HBY := hide (hB.below (ab (.cells #[.string ⟨#[]⟩, .int .i64 0, .int .i64 0, .string ⟨#[]⟩, .slice none 0 0, .int .i64 0] 33)) (show w.heap.size ≤ (w.alloc (.cells #[.string ⟨#[]⟩, .int .i64 0, .int .i64 0, .string ⟨#[]⟩, .slice none 0 0, .int .i64 0] 33)).heap.size from (ab _).size))
  have HX := hide (RowC.new 33 w ⟨#[]⟩ 0 0 ⟨#[]⟩ none 0 0 0)
  have HL := hide hl
  have HLC := hide hlc
  clear hB hl hlc
  go_enter Tryz.func27, Tryz.ntmps27
  go_wp2_with fail
  refine (unhide hnew _ (unhide HBY) (unhide HL) (unhide HLC)).mono ?_
  rintro e w1 ⟨rfl, hc1, hb1, _⟩
  have hb1 : Below (w.alloc (.cells #[.string ⟨#[]⟩, .int .i64 0, .int .i64 0, .string ⟨#[]⟩, .slice none 0 0, .int .i64 0] 33)).heap.size (w.alloc (.cells #[.string ⟨#[]⟩, .int .i64 0, .int .i64 0, .string ⟨#[]⟩, .slice none 0 0, .int .i64 0] 33)) w1 := hb1
  simp only [heap_size_alloc] at hc1 ⊢
  have HX1 := hide ((unhide HX).below hb1)
  have HB1 := hide (bt (ab (w := w) (.cells #[.string ⟨#[]⟩, .int .i64 0, .int .i64 0, .string ⟨#[]⟩, .slice none 0 0, .int .i64 0] 33)) hb1 (Nat.le_refl _))
  have HC1 := hide hc1
  have hs1 := hc1.lt
  clear hc1 hb1
  go_wp2_with fail
  refine (unhide hdr _ _ (unhide HC1)).mono ?_
  rintro e w2 ⟨h, p, v, op, n, s, a, len, cap, rfl, hd, hl2, hc2, ho2⟩
  have HR2 := hide ((unhide HX1).one ho2 (by omega))
  obtain ⟨p0, p1, p2, p3, p4, p5⟩ := (unhide HR2).facts
  obtain ⟨q0, q1, q2, q3, q4, q5⟩ := (unhide HR2).frozen
  have HT := hide hl2
  have HD := hide hd
  have HB2 := hide ((unhide HB1).trans (ho2.belowc (unhide HB1).size (by omega)))
  clear hl2 hd hc2 ho2
  go_wp2_with fail
  have HF := hide (fillR (unhide HR2) h op n s a len cap v)
  obtain ⟨f0, f1, f2, f3, f4, f5⟩ := (unhide HF).facts
  exact bodyPost_ret (v := .agg #[.string h, .int .i64 op, .int .i64 n, .string s, .slice a len cap, .int .i64 v]) (by simp [results, Tryz.results27, go_sem, f0, f1, f2, f3, f4, f5]; try rfl) rfl ⟨h, p, v, op, n, s, a, len, cap, rfl, unhide HD, set6_lies (unhide HT) (by omega) _ _ _ _ _ _, set6_below (unhide HB2) (Nat.le_refl _)⟩

set_option maxRecDepth 100000 in
set_option maxHeartbeats 4000000 in
theorem draw7 (ad : Option Addr) (ln cp : Nat) (w : World) (hB : Bytes w w.heap.size ad ln) (hl : ln ≤ 1048576) (hlc : ln ≤ cp) :
    Calls Tryz.prog 25 #[.slice ad ln cp] w fun e w' => ∃ T op n s a len cap, e = .returned (.agg #[.int .i64 op, .int .i64 n, .string s, .slice a len cap]) ∧ (Lies w' 0 T (tmCells op n s a len cap) ∧ T.size ≤ 61010) ∧ Below w.heap.size w w' := by
  have hnew := hide (new_calls ad ln cp)
  have hdr := hide term_draw
  have HBY := hide (hB.below (ab (.cells #[.int .i64 0, .int .i64 0, .string ByteArray.empty, .slice none 0 0] 30)) (show w.heap.size ≤ (w.alloc (.cells #[.int .i64 0, .int .i64 0, .string ByteArray.empty, .slice none 0 0] 30)).heap.size from (ab _).size))
  have HX := hide (ZBox.new w)
  have HL := hide hl
  have HLC := hide hlc
  clear hB hl hlc
  go_enter Tryz.func25, Tryz.ntmps25
  go_wp2_with fail
  refine (unhide hnew _ (unhide HBY) (unhide HL) (unhide HLC)).mono ?_
  rintro e w1 ⟨rfl, hc1, hb1, _⟩
  have hb1 : Below (w.alloc (.cells #[.int .i64 0, .int .i64 0, .string ByteArray.empty, .slice none 0 0] 30)).heap.size (w.alloc (.cells #[.int .i64 0, .int .i64 0, .string ByteArray.empty, .slice none 0 0] 30)) w1 := hb1
  simp only [heap_size_alloc] at hc1 ⊢
  have HX1 := hide ((unhide HX).below hb1)
  have HB1 := hide (bt (ab (w := w) (.cells #[.int .i64 0, .int .i64 0, .string ByteArray.empty, .slice none 0 0] 30)) hb1 (Nat.le_refl _))
  have HC1 := hide hc1
  have hs1 := hc1.lt
  clear hc1 hb1
  go_wp2_with fail
  refine (unhide hdr _ _ (unhide HC1)).mono ?_
  rintro e w2 ⟨T, op, n, s, a, len, cap, rfl, ⟨hl2, hz2⟩, hc2, ho2⟩
  obtain ⟨p0, p1, p2, p3, q0, q1, q2, q3⟩ := ((unhide HX1).only ho2 (by omega)).facts
  have HT := hide hl2
  have HZ := hide hz2
  have HB2 := hide ((unhide HB1).trans (ho2.belowc (unhide HB1).size (by omega)))
  clear hl2 hz2 hc2 ho2
  go_wp2_with fail
  exact bodyPost_ret (v := .agg #[.int .i64 op, .int .i64 n, .string s, .slice a len cap]) (by simp [results, Tryz.results25, go_sem, p0, p1, p2, p3]; try rfl) rfl ⟨T, op, n, s, a, len, cap, rfl, ⟨set4_lies (unhide HT) (by omega) _ (by omega), unhide HZ⟩, set4_below (unhide HB2) (Nat.le_refl _)⟩

theorem times_at (w : World) : ∀ k, k < 5 → ∃ z, (w.alloc (.cells #[.int .i64 0, .int .i64 5, .int .i64 6, .int .i64 51, .int .i64 (-1)] 3)).cell? ⟨w.heap.size, k, none⟩ = some (.int .i64 z) ∧ True
  | 0, _ => ⟨_, box_cell w _ 3 0 _ rfl, trivial⟩
  | 1, _ => ⟨_, box_cell w _ 3 1 _ rfl, trivial⟩
  | 2, _ => ⟨_, box_cell w _ 3 2 _ rfl, trivial⟩
  | 3, _ => ⟨_, box_cell w _ 3 3 _ rfl, trivial⟩
  | 4, _ => ⟨_, box_cell w _ 3 4 _ rfl, trivial⟩
  | k + 5, h => absurd h (by omega)

set_option maxRecDepth 100000 in
set_option maxHeartbeats 4000000 in
theorem draw10 (ad : Option Addr) (ln cp : Nat) (w : World) (hB : Bytes w w.heap.size ad ln) (hl : ln ≤ 1048576) (hlc : ln ≤ cp) :
    Calls Tryz.prog 26 #[.slice ad ln cp] w fun e w' => ∃ T op n s a len cap hs m, e = .returned (.tuple #[.agg #[.int .i64 op, .int .i64 n, .string s, .slice a len cap], .string hs, .int .i64 m]) ∧ (Lies w' 0 T (tmCells op n s a len cap) ∧ T.size ≤ 61010) ∧ Below w.heap.size w w' := by
  have hnew := hide (new_calls ad ln cp)
  have h24 := hide term_draw
  have h32 := hide host_draw
  have h33 := hide once_calls
  have h34 := hide (pickInt_of (fun _ => True))
  have h9 := hide ofS6
  have HBY := hide (hB.below (ab (.cells #[.int .i64 0, .int .i64 0, .string ByteArray.empty, .slice none 0 0] 30)) (show w.heap.size ≤ (w.alloc (.cells #[.int .i64 0, .int .i64 0, .string ByteArray.empty, .slice none 0 0] 30)).heap.size from (ab _).size))
  have HX := hide (ZBox.new w)
  have HL := hide hl
  have HLC := hide hlc
  clear hB hl hlc
  go_enter Tryz.func26, Tryz.ntmps26
  go_wp2_with fail
  refine (unhide hnew _ (unhide HBY) (unhide HL) (unhide HLC)).mono ?_
  rintro e w1 ⟨rfl, hc1, hb1, _⟩
  have hb1 : Below (w.alloc (.cells #[.int .i64 0, .int .i64 0, .string ByteArray.empty, .slice none 0 0] 30)).heap.size (w.alloc (.cells #[.int .i64 0, .int .i64 0, .string ByteArray.empty, .slice none 0 0] 30)) w1 := hb1
  simp only [heap_size_alloc] at hc1 ⊢
  have HX1 := hide ((unhide HX).below hb1)
  have HB1 := hide (bt (ab (w := w) (.cells #[.int .i64 0, .int .i64 0, .string ByteArray.empty, .slice none 0 0] 30)) hb1 (Nat.le_refl _))
  have HC1 := hide hc1
  have hs1 := hc1.lt
  clear hc1 hb1 HX HBY
  go_wp2_with fail
  refine (unhide h24 _ _ (unhide HC1)).mono ?_
  rintro e w2 ⟨T, op, n, s, a, len, cap, rfl, ⟨hl2, hz2⟩, hc2, ho2⟩
  have HX2 := hide (((unhide HX1).only ho2 (by omega)).below (ab (.cells #[.int .i64 op, .int .i64 n, .string s, .slice a len cap] 30)))
  have HB2 := hide (((unhide HB1).trans (ho2.belowc (unhide HB1).size (by omega))))
  have HB2' := hide (bt (unhide HB2) (ab (.cells #[.int .i64 op, .int .i64 n, .string s, .slice a len cap] 30)) (Nat.le_refl _))
  have HC2 := hide (hc2.below (ab (.cells #[.int .i64 op, .int .i64 n, .string s, .slice a len cap] 30)))
  have HT2 := hide (hl2.below (ab (.cells #[.int .i64 op, .int .i64 n, .string s, .slice a len cap] 30)))
  have HR2 := hide (RowT.new 30 w2 op n s a len cap)
  have HZ := hide hz2
  have HG2 : Hid (w1.heap.size ≤ w2.heap.size) := ho2.size
  have hs2 := hc2.lt
  clear hl2 hz2 hc2 ho2 HX1 HB1 HC1 HB2
  go_wp2_with fail
  generalize hV2 : w2.alloc (.cells #[.int .i64 op, .int .i64 n, .string s, .slice a len cap] 30) = V2 at *
  generalize w2.heap.size = g at *
  clear hV2
  refine (unhide h32 _ _ (unhide HC2)).mono ?_
  rintro e w3 ⟨h3, rfl, -, hc3, ho3⟩
  have HX3 := hide ((unhide HX2).only ho3 (by omega))
  have HB3 := hide ((unhide HB2').trans (ho3.belowc (unhide HB2').size (by omega)))
  have HC3 := hide hc3
  have HT3 := hide ((unhide HT2).only ho3 (by omega))
  have HR3 := hide ((unhide HR2).only ho3 (by simp; omega))
  clear hc3 ho3 HX2 HB2' HC2 HT2 HR2
  obtain ⟨c0, c1, c2, c3⟩ := (unhide HR3).facts
  go_wp2_with fail
  refine (unhide h9 T op n s a len cap _ ((unhide HT3).any (Nat.zero_le _)) (by have := unhide HZ; omega)).mono ?_
  rintro e w4 ⟨hb4, ⟨h, p, v, op4, n4, s4, a4, len4, cap4, -, rfl, -⟩ | ⟨-, rfl⟩⟩
  · have hb4' := bt hb4 (ab (.cells #[.string h, .int .i64 op4, .int .i64 n4, .string s4, .slice a4 len4 cap4, .int .i64 v] 33)) (Nat.le_refl _)
    have HX4 := hide ((unhide HX3).below hb4')
    have HB4 := hide (bt (unhide HB3) hb4' (Nat.le_refl _))
    have HC4 := hide ((unhide HC3).below hb4')
    have HT4 := hide ((unhide HT3).below hb4')
    have HR4 := hide ((unhide HR3).below hb4')
    have HC := hide (RowC.new 33 w4 h op4 n4 s4 a4 len4 cap4 v)
    have HG4 : Hid (w3.heap.size ≤ w4.heap.size) := hb4.size
    have hs3 := (unhide HC3).lt
    clear hb4 hb4' HX3 HB3 HC3 HT3 HR3 c0 c1 c2 c3
    go_wp2_with fail
    generalize hV4 : w4.alloc (.cells #[.string h, .int .i64 op4, .int .i64 n4, .string s4, .slice a4 len4 cap4, .int .i64 v] 33) = V4 at *
    generalize w4.heap.size = gx at *
    clear hV4
    refine (unhide h33 _ 4 _ (unhide HC4) (by omega)).mono ?_
    rintro e w5 ⟨bb, rfl, hc5, ho5⟩
    have HX5 := hide ((unhide HX4).only ho5 (by omega))
    have HB5 := hide ((unhide HB4).trans (ho5.belowc (unhide HB4).size (by omega)))
    have HC5 := hide hc5
    have HT5 := hide ((unhide HT4).only ho5 (by omega))
    have HR5 := hide ((unhide HR4).only ho5 (by simp; omega))
    obtain ⟨x0, x1, x2, x3, x4, x5⟩ := ((unhide HC).one ho5 (by have := unhide HG4; omega)).facts
    clear hc5 ho5 HX4 HB4 HC4 HT4 HR4 HC
    obtain ⟨c0, c1, c2, c3⟩ := (unhide HR5).facts
    cases bb with
    | true =>
      have hs5 : w.heap.size + 1 < w5.heap.size := (unhide HC5).lt
      have hne : (w.heap.size = g) = False := eq_false (by have := unhide HG2; omega)
      have hne' : (g = w.heap.size) = False := eq_false (by have := unhide HG2; omega)
      have hx0 := lt_of_cell c0
      have hxn0 := Nat.ne_of_lt hx0
      have hxm0 := Ne.symm hxn0
      go_wp2_with fail
      go_region_held3 (fun x => x.cell? ⟨g, 0, none⟩ = some (.int .i64 op) ∧ x.cell? ⟨g, 1, none⟩ = some (.int .i64 n) ∧ x.cell? ⟨g, 2, none⟩ = some (.string s) ∧ x.cell? ⟨g, 3, none⟩ = some (.slice a len cap)) (go_keep)
        (first
          | (go_at_call 56
             refine (unhide h34 (w.heap.size + 1) w5.heap.size 5 5 _ ((unhide HC5).drew.below (ab (.cells #[.int .i64 0, .int .i64 5, .int .i64 6, .int .i64 51, .int .i64 (-1)] 3))) (by omega) (by omega) (by omega) (by omega) (by omega) (times_at w5.drew)).mono ?_
             rintro e w6 ⟨z, rfl, -, -, ho6⟩
             have ho6' := hide (only_alloc _ ho6).drewl
             have HR6 := hide ((unhide HR5).only (unhide ho6') (by simp; omega))
             obtain ⟨f0, f1, f2, f3⟩ := (unhide HR6).facts
             obtain ⟨p0, p1, p2, p3, q0, q1, q2, q3⟩ := ((unhide HX5).only (unhide ho6') (by omega)).facts
             clear ho6))
      have HTZ := hide ((unhide HT5).only (unhide ho6') (by omega))
      have HBZ := hide ((unhide HB5).trans ((unhide ho6').belowc (unhide HB5).size (by omega)))
      clear c0 c1 c2 c3 f0 f1 f2 f3
      go_wp2_with fail
      exact bodyPost_ret (v := .tuple #[.agg #[.int .i64 op, .int .i64 n, .string s, .slice a len cap], .string h3, .int .i64 z]) (by simp [results, Tryz.results26, go_sem, p0, p1, p2, p3]; try rfl) rfl ⟨T, op, n, s, a, len, cap, h3, z, rfl, ⟨set4_lies (unhide HTZ) (by omega) _ (by omega), unhide HZ⟩, set4_below (unhide HBZ) (Nat.le_refl _)⟩
    | false =>
      have hs5 : w.heap.size + 1 < w5.heap.size := (unhide HC5).lt
      have hne : (w.heap.size = g) = False := eq_false (by have := unhide HG2; omega)
      have hne' : (g = w.heap.size) = False := eq_false (by have := unhide HG2; omega)
      have hx0 := lt_of_cell c0
      have hxn0 := Nat.ne_of_lt hx0
      have hxm0 := Ne.symm hxn0
      go_wp2_with fail
      go_region_held3 (fun x => x.cell? ⟨g, 0, none⟩ = some (.int .i64 op) ∧ x.cell? ⟨g, 1, none⟩ = some (.int .i64 n) ∧ x.cell? ⟨g, 2, none⟩ = some (.string s) ∧ x.cell? ⟨g, 3, none⟩ = some (.slice a len cap)) (go_keep)
        (first
          | (go_at_call 56
             refine (unhide h34 (w.heap.size + 1) w5.heap.size 5 5 _ ((unhide HC5).drew.below (ab (.cells #[.int .i64 0, .int .i64 5, .int .i64 6, .int .i64 51, .int .i64 (-1)] 3))) (by omega) (by omega) (by omega) (by omega) (by omega) (times_at w5.drew)).mono ?_
             rintro e w6 ⟨z, rfl, -, -, ho6⟩
             have ho6' := hide (only_alloc _ ho6).drewl
             have HR6 := hide ((unhide HR5).only (unhide ho6') (by simp; omega))
             obtain ⟨f0, f1, f2, f3⟩ := (unhide HR6).facts
             obtain ⟨p0, p1, p2, p3, q0, q1, q2, q3⟩ := ((unhide HX5).only (unhide ho6') (by omega)).facts
             clear ho6))
      have HTZ := hide ((unhide HT5).only (unhide ho6') (by omega))
      have HBZ := hide ((unhide HB5).trans ((unhide ho6').belowc (unhide HB5).size (by omega)))
      clear c0 c1 c2 c3 f0 f1 f2 f3
      go_wp2_with fail
      exact bodyPost_ret (v := .tuple #[.agg #[.int .i64 op, .int .i64 n, .string s, .slice a len cap], .string h, .int .i64 z]) (by simp [results, Tryz.results26, go_sem, p0, p1, p2, p3]; try rfl) rfl ⟨T, op, n, s, a, len, cap, h, z, rfl, ⟨set4_lies (unhide HTZ) (by omega) _ (by omega), unhide HZ⟩, set4_below (unhide HBZ) (Nat.le_refl _)⟩
  · unfold zeroC
    have hb4' := bt hb4 (ab (.cells #[.string ByteArray.empty, .int .i64 0, .int .i64 0, .string ByteArray.empty, .slice none 0 0, .int .i64 0] 33)) (Nat.le_refl _)
    have HX4 := hide ((unhide HX3).below hb4')
    have HB4 := hide (bt (unhide HB3) hb4' (Nat.le_refl _))
    have HC4 := hide ((unhide HC3).below hb4')
    have HT4 := hide ((unhide HT3).below hb4')
    have HR4 := hide ((unhide HR3).below hb4')
    clear hb4 hb4' HX3 HB3 HC3 HT3 HR3 c0 c1 c2 c3
    go_wp2_with fail
    generalize hV4 : w4.alloc (.cells #[.string ByteArray.empty, .int .i64 0, .int .i64 0, .string ByteArray.empty, .slice none 0 0, .int .i64 0] 33) = V4 at *
    clear hV4
    have HX5 := HX4
    have HB5 := HB4
    have HC5 := HC4
    have HT5 := HT4
    have HR5 := HR4
    obtain ⟨c0, c1, c2, c3⟩ := (unhide HR5).facts
    have hs5 : w.heap.size + 1 < V4.heap.size := (unhide HC5).lt
    have hne : (w.heap.size = g) = False := eq_false (by have := unhide HG2; omega)
    have hne' : (g = w.heap.size) = False := eq_false (by have := unhide HG2; omega)
    have hx0 := lt_of_cell c0
    have hxn0 := Nat.ne_of_lt hx0
    have hxm0 := Ne.symm hxn0
    go_region_held3 (fun x => x.cell? ⟨g, 0, none⟩ = some (.int .i64 op) ∧ x.cell? ⟨g, 1, none⟩ = some (.int .i64 n) ∧ x.cell? ⟨g, 2, none⟩ = some (.string s) ∧ x.cell? ⟨g, 3, none⟩ = some (.slice a len cap)) (go_keep)
      (first
        | (go_at_call 56
           refine (unhide h34 (w.heap.size + 1) V4.heap.size 5 5 _ ((unhide HC5).drew.below (ab (.cells #[.int .i64 0, .int .i64 5, .int .i64 6, .int .i64 51, .int .i64 (-1)] 3))) (by omega) (by omega) (by omega) (by omega) (by omega) (times_at V4.drew)).mono ?_
           rintro e w6 ⟨z, rfl, -, -, ho6⟩
           have ho6' := hide (only_alloc _ ho6).drewl
           have HR6 := hide ((unhide HR5).only (unhide ho6') (by simp; omega))
           obtain ⟨f0, f1, f2, f3⟩ := (unhide HR6).facts
           obtain ⟨p0, p1, p2, p3, q0, q1, q2, q3⟩ := ((unhide HX5).only (unhide ho6') (by omega)).facts
           clear ho6))
    have HTZ := hide ((unhide HT5).only (unhide ho6') (by omega))
    have HBZ := hide ((unhide HB5).trans ((unhide ho6').belowc (unhide HB5).size (by omega)))
    clear c0 c1 c2 c3 f0 f1 f2 f3
    go_wp2_with fail
    exact bodyPost_ret (v := .tuple #[.agg #[.int .i64 op, .int .i64 n, .string s, .slice a len cap], .string h3, .int .i64 z]) (by simp [results, Tryz.results26, go_sem, p0, p1, p2, p3]; try rfl) rfl ⟨T, op, n, s, a, len, cap, h3, z, rfl, ⟨set4_lies (unhide HTZ) (by omega) _ (by omega), unhide HZ⟩, set4_below (unhide HBZ) (Nat.le_refl _)⟩

end Go.Proofs.YtnnneeaapahgaaaGreatDoor
