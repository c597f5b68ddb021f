/- Draws of chapter 11: letters whose domain has at most 300 bytes; nothing that was there is written but the cursor. -/
import Derived.Test.YtpemiphhmihfoaaYe
import Derived.Test.YtpemiphhmihfoaaDr
import Derived.Deep.RegionHeld3
namespace Go.Proofs.Ytpemiphhmihfoaa
open Go.RowKit Go.Deep

theorem RowL.only {ty : TypeId} {w w' : World} {p c : Nat} {d : ByteArray} {b s t n : Int} (hr : RowL ty w p d b s t n) (ho : Only [c] w w') (hp : p ≠ c) : RowL ty w' p d b s t n := (ho.block p hr.lt (by simpa using hp)).trans hr
theorem RowL.put {ty : TypeId} {w : World} {p : Nat} {d : ByteArray} {b s t n : Int} (hr : RowL ty w p d b s t n) (d' : ByteArray) (b' s' t' n' : Int) : RowL ty (((((w.setCell ⟨p, 0, none⟩ (.string d')).setCell ⟨p, 1, none⟩ (.int .i64 b')).setCell ⟨p, 2, none⟩ (.int .i64 s')).setCell ⟨p, 3, none⟩ (.int .i64 t')).setCell ⟨p, 4, none⟩ (.int .i64 n')) p d' b' s' t' n' :=
  row_setL (row_setL (row_setL (row_setL (row_setL hr _) _) _) _) _
theorem RowL.apart {ty : TypeId} {w : World} {p q j : Nat} {d : ByteArray} {b s t n : Int} (hr : RowL ty w p d b s t n) (hn : p ≠ q) (v : Value) : RowL ty (w.setCell ⟨q, j, none⟩ v) p d b s t n := by
  unfold RowL
  rw [Below.heap_setCell _ _ _ _ hn]
  exact hr
theorem Cur.keep {w w' : World} {c : Nat} (h : Cur w c) (hk : ∀ b, b ≤ c → w'.heap[b]? = w.heap[b]?) : Cur w' c := by
  obtain ⟨a, len, cap, i, z, hc, hr, hB⟩ := h
  refine ⟨a, len, cap, i, z, (hk c (Nat.le_refl _)).trans hc, hr, fun k hlt => ?_⟩
  obtain ⟨b, o, y, h1, h2, h3, h4⟩ := hB k hlt
  exact ⟨b, o, y, h1, h2, (World.cell?_of_block (hk b (by omega))).trans h3, h4⟩
theorem Cur.apart {w : World} {c q j : Nat} {v : Value} (h : Cur w c) (hq : c < q) : Cur (w.setCell ⟨q, j, none⟩ v) c := h.keep fun b hb => Below.heap_setCell _ _ _ _ (by simp only; omega)
theorem Cur.drew {w : World} {c : Nat} (h : Cur w c) : Cur w.drew c := h
theorem Only.drewl {g : List Nat} {w v : World} (h : Only g w.drew v) : Only g w v := ⟨h.os, h.tape, h.output, h.size, h.block⟩
theorem Only.apart {w v : World} {c q j : Nat} {x : Value} (h : Only [c] w v) (hq : w.heap.size ≤ q) : Only [c] w (v.setCell ⟨q, j, none⟩ x) :=
  ⟨h.os, h.tape, h.output, by simpa using h.size, fun k hk hf => by rw [Below.heap_setCell _ _ _ _ (by simp only; omega)]; exact h.block k hk hf⟩
theorem RowL.apart5 {ty : TypeId} {w : World} {p q : Nat} {x0 x1 x2 x3 x4 : Value} {d : ByteArray} {b s t n : Int} (hr : RowL ty w p d b s t n) (hn : p ≠ q) : RowL ty (((((w.setCell ⟨q, 0, none⟩ x0).setCell ⟨q, 1, none⟩ x1).setCell ⟨q, 2, none⟩ x2).setCell ⟨q, 3, none⟩ x3).setCell ⟨q, 4, none⟩ x4) p d b s t n := ((((hr.apart hn _).apart hn _).apart hn _).apart hn _).apart hn _
theorem Cur.apart5 {w : World} {c q : Nat} {x0 x1 x2 x3 x4 : Value} (h : Cur w c) (hq : c < q) : Cur (((((w.setCell ⟨q, 0, none⟩ x0).setCell ⟨q, 1, none⟩ x1).setCell ⟨q, 2, none⟩ x2).setCell ⟨q, 3, none⟩ x3).setCell ⟨q, 4, none⟩ x4) c := ((((h.apart hq).apart hq).apart hq).apart hq).apart hq
theorem Only.apart5 {w v : World} {c q : Nat} {x0 x1 x2 x3 x4 : Value} (h : Only [c] w v) (hq : w.heap.size ≤ q) : Only [c] w (((((v.setCell ⟨q, 0, none⟩ x0).setCell ⟨q, 1, none⟩ x1).setCell ⟨q, 2, none⟩ x2).setCell ⟨q, 3, none⟩ x3).setCell ⟨q, 4, none⟩ x4) := ((((h.apart hq).apart hq).apart hq).apart hq).apart hq
theorem only_allocL {c : Nat} {w w1 : World} (x : Obj) (h : Only [c] (w.alloc x) w1) : Only [c] w w1 := (Only.of_below (abP x)).trans h
theorem below_only {c : Nat} {w a b : World} (h : Below w.heap.size w a) (ho : Only [c] a b) (hc : w.heap.size ≤ c) : Below w.heap.size w b :=
  h.trans ⟨ho.os, ho.tape, ho.output, ho.size, fun k hk => ho.block k (by have := h.size; omega) (by simp; omega)⟩

set_option maxRecDepth 100000 in
set_option maxHeartbeats 4000000 in
theorem pickInt_any (c b n cap : Nat) (w : World) (hc : Cur w c) (hb : b ≠ c) (hn : 0 < n) (_hn1 : n ≤ 1000) (_hcap : n ≤ cap) (_hcap1 : cap ≤ 1000) (hi : ∀ k, k < n → ∃ z, w.cell? ⟨b, k, none⟩ = some (.int .i64 z)) :
    Calls Try.prog 19 #[.pointer (some ⟨c, 0, none⟩), .slice (some ⟨b, 0, none⟩) n cap] w fun e w' => ∃ z, e = .returned (.int .i64 z) ∧ Cur w' c ∧ Only [c] w w' := by
  have hB := hide (below_calls c n)
  have HC := hide hc
  have hn' : (n : Int) ≤ 1000 := by omega
  clear hc
  go_enter Try.func19, Try.ntmps19
  go_wp2_with fail
  refine (unhide hB _ (unhide HC) (by omega)).mono ?_
  rintro e w1 ⟨x, rfl, ⟨_, hx⟩, hc1, ho1⟩
  obtain ⟨hx0, hx1⟩ := hx (by omega)
  obtain ⟨z, hz⟩ := hi x.toNat (by omega)
  have hz1 : w1.cell? ⟨b, x.toNat, none⟩ = some (.int .i64 z) := (World.cell?_of_block (ho1.block b (lt_of_cell hz) (by simpa using hb))).trans hz
  have HC1 := hide hc1
  have HO1 := hide ho1
  clear hc1 ho1 hi hz
  go_wp2_with fail
  go_ret
  exact ⟨_, rfl, unhide HC1, unhide HO1⟩

theorem doms_at (w : World) : ∀ k, k < 3 → ∃ s, (w.alloc (.cells #[.string ⟨#[97]⟩, .string ⟨#[98]⟩, .string ⟨#[101]⟩] 9)).cell? ⟨w.heap.size, k, none⟩ = some (.string s) ∧ s.size ≤ 300
  | 0, _ => ⟨_, box_cell w _ 9 0 _ rfl, by decide⟩
  | 1, _ => ⟨_, box_cell w _ 9 1 _ rfl, by decide⟩
  | 2, _ => ⟨_, box_cell w _ 9 2 _ rfl, by decide⟩
  | k + 3, h => absurd h (by omega)
theorem three_at (x y z : Int) (w : World) : ∀ k, k < 3 → ∃ v, (w.alloc (.cells #[.int .i64 x, .int .i64 y, .int .i64 z] 3)).cell? ⟨w.heap.size, k, none⟩ = some (.int .i64 v)
  | 0, _ => ⟨_, box_cell w _ 3 0 _ rfl⟩
  | 1, _ => ⟨_, box_cell w _ 3 1 _ rfl⟩
  | 2, _ => ⟨_, box_cell w _ 3 2 _ rfl⟩
  | k + 3, h => absurd h (by omega)
theorem six_at (x y z u v q : Int) (w : World) : ∀ k, k < 6 → ∃ r, (w.alloc (.cells #[.int .i64 x, .int .i64 y, .int .i64 z, .int .i64 u, .int .i64 v, .int .i64 q] 3)).cell? ⟨w.heap.size, k, none⟩ = some (.int .i64 r)
  | 0, _ => ⟨_, box_cell w _ 3 0 _ rfl⟩
  | 1, _ => ⟨_, box_cell w _ 3 1 _ rfl⟩
  | 2, _ => ⟨_, box_cell w _ 3 2 _ rfl⟩
  | 3, _ => ⟨_, box_cell w _ 3 3 _ rfl⟩
  | 4, _ => ⟨_, box_cell w _ 3 4 _ rfl⟩
  | 5, _ => ⟨_, box_cell w _ 3 5 _ rfl⟩
  | k + 6, h => absurd h (by omega)

set_option maxRecDepth 100000 in
set_option maxHeartbeats 4000000 in
theorem dom_draw (c : Nat) (w : World) (hc : Cur w c) :
    Calls Try.prog 37 #[.pointer (some ⟨c, 0, none⟩)] w fun e w' => ∃ h, e = .returned (.string h) ∧ h.size ≤ 300 ∧ Cur w' c ∧ Only [c] w w' := by
  have hpk := hide (pick_calls c)
  have hcl := hc.lt
  have HC := hide hc
  clear hc
  go_enter Try.func37, Try.ntmps37
  go_wp2_with fail
  refine (unhide hpk w.heap.size 3 3 _ ((unhide HC).below (abP (.cells #[.string ⟨#[97]⟩, .string ⟨#[98]⟩, .string ⟨#[101]⟩] 9))) (by omega) (by omega) (by omega) (by omega) (by omega) (doms_at w)).mono ?_
  rintro e w3 ⟨s, rfl, hs, hc3, ho3⟩
  have HO3 := hide (only_allocL _ ho3)
  have HC3 := hide hc3
  clear ho3 hc3
  go_wp2_with fail
  go_ret
  exact ⟨_, rfl, hs, unhide HC3, unhide HO3⟩

set_option maxRecDepth 100000 in
set_option maxHeartbeats 4000000 in
theorem right_draw (c : Nat) (w : World) (hc : Cur w c) :
    Calls Try.prog 33 #[.pointer (some ⟨c, 0, none⟩)] w fun e w' => ∃ d b s t n, e = .returned (.agg #[.string d, .int .i64 b, .int .i64 s, .int .i64 t, .int .i64 n]) ∧ d.size ≤ 300 ∧ Cur w' c ∧ Only [c] w w' := by
  have hdm := hide (dom_draw c)
  have hbl := hide (below_calls c)
  have hon := hide (once_calls c)
  have hcl := hc.lt
  have HC := hide hc
  clear hc
  go_enter Try.func33, Try.ntmps33
  go_wp2_with fail
  refine (unhide hdm _ ((unhide HC).below (abP (.cells #[.string ⟨#[]⟩, .int .i64 0, .int .i64 0, .int .i64 0, .int .i64 0] 25)))).mono ?_
  rintro e w1 ⟨d, rfl, hd, hc1, ho1⟩
  have HY1 := hide ((RowL.new 25 w ⟨#[]⟩ 0 0 0 0).only ho1 (by omega))
  have HO1 := hide (only_allocL _ ho1)
  have HC1 := hide hc1
  have HD := hide hd
  clear hc1 ho1 hd
  go_wp2_with fail
  refine (unhide hbl 3 _ (unhide HC1) (by omega)).mono ?_
  rintro e w2 ⟨x, rfl, ⟨_, hx⟩, hc2, ho2⟩
  obtain ⟨hx0, hx1⟩ := hx (by omega)
  have q1 : wrap64 (30 + x) = 30 + x := by unfold wrap64; omega
  have HY2 := hide ((unhide HY1).only ho2 (by omega))
  have HO2 := hide ((unhide HO1).trans ho2)
  have HC2 := hide hc2
  clear hc2 ho2 hx
  have hg : w.heap.size < w2.heap.size := (unhide HY2).lt
  go_wp2_with fail
  obtain ⟨W3, hW3⟩ : ∃ W3, w2.alloc (.cells #[.string d, .int .i64 (30 + x), .int .i64 1, .int .i64 0, .int .i64 0] 25) = W3 := ⟨_, rfl⟩
  have HA : Hid (RowL 25 W3 w2.heap.size d (30 + x) 1 0 0 ∧ RowL 25 W3 w.heap.size ⟨#[]⟩ 0 0 0 0 ∧ Cur W3 c ∧ Only [c] w W3) := by
    rw [← hW3]
    exact ⟨RowL.new 25 w2 d (30 + x) 1 0 0, (unhide HY2).below (abP _), (unhide HC2).below (abP _), (unhide HO2).trans (Only.of_below (abP _))⟩
  try rw [hW3]
  generalize w2.heap.size = g at *
  clear hW3 HY2 HO2 HC2 HY1 HO1 HC1 q1 hx0 hx1
  go_loopw [4] (fun v w' => ∃ k : Nat, v = .int .i64 k ∧ k ≤ 6 ∧ ∃ d b s t n, d.size ≤ 300 ∧ RowL 25 w' g d b s t n ∧ RowL 25 w' w.heap.size ⟨#[]⟩ 0 0 0 0 ∧ Cur w' c ∧ Only [c] w w') (fun v _ => 6 - (intOf v).toNat)
  case atStart => exact ⟨0, rfl, by omega, _, _, _, _, _, unhide HD, unhide HA⟩
  case round =>
    obtain ⟨k, rfl, hk, d, b, s, t, n, hd, hr0, hy0, hc0, ho0⟩ := hrel
    have HR0 := hide hr0
    have HY0 := hide hy0
    have HC0 := hide hc0
    have HO0 := hide ho0
    have HD0 := hide hd
    clear hr0 hy0 hc0 ho0 hd HD HA
    go_wp2_with fail
    refine (unhide hbl 6 _ (unhide HC0) (by omega)).mono ?_
    rintro e w3 ⟨y, rfl, ⟨_, hy⟩, hc3, ho3⟩
    obtain ⟨hy0, hy1⟩ := hy (by omega)
    have HR3 := hide ((unhide HR0).only ho3 (by omega))
    have HY3 := hide ((unhide HY0).only ho3 (by omega))
    have HO3 := hide ((unhide HO0).trans ho3)
    have HC3 := hide hc3
    clear hc3 ho3 hy
    obtain ⟨c0, c1, c2, c3, c4⟩ := (unhide HR3).facts
    by_cases hlt : (k : Int) < y
    · have w1 : wrap64 ((k : Int) + 1) = ((k + 1 : Nat) : Int) := by unfold wrap64; omega
      have hT := hide (fun now v => tryS d b s t n now v (by have := unhide HD0; omega))
      go_wp2_with fail
      go_region_with (first
          | (go_at_call 34
             refine (unhide hbl 2 _ (unhide HC3).drew (by omega)).mono ?_
             rintro e w4 ⟨z, rfl, -, hc4, ho4⟩
             have HR4 := hide ((unhide HR3).only ho4.drewl (by omega))
             have HY4 := hide ((unhide HY3).only ho4.drewl (by omega))
             have HO4 := hide ((unhide HO3).trans ho4.drewl)
             have HC4 := hide hc4
             clear hc4 ho4
             obtain ⟨f0, f1, f2, f3, f4⟩ := (unhide HR4).facts)
          | (go_at_call 7
             refine (unhide hT _ _).mono ?_
             rintro e w5 ⟨rfl, hb5⟩
             have HR5 := hide ((unhide HR4).below hb5)
             have HY5 := hide ((unhide HY4).below hb5)
             have HO5 := hide ((unhide HO4).trans (Only.of_below hb5))
             have HC5 := hide ((unhide HC4).below hb5)
             clear hb5
             obtain ⟨p0, p1, p2, p3, p4⟩ := (unhide HR5).facts
             have g0 := (unhide HR5).free 0
             have g1 := (unhide HR5).free 1
             have g2 := (unhide HR5).free 2
             have g3 := (unhide HR5).free 3
             have g4 := (unhide HR5).free 4))
      all_goals
        go_wp2_with fail
        go_roundw
        case rel => exact ⟨k + 1, rfl, by omega, _, _, _, _, _, unhide HD0, (unhide HR5).put _ _ _ _ _, (unhide HY5).apart5 (by omega), (unhide HC5).apart5 (by omega), (unhide HO5).apart5 (by omega)⟩
        case measure => simp only [intOf]; omega
    · go_wp2_with fail
      refine (unhide hon 4 _ (unhide HC3) (by omega)).mono ?_
      rintro e w4 ⟨q, rfl, hc4, ho4⟩
      have HR4 := hide ((unhide HR3).only ho4 (by omega))
      have HY4 := hide ((unhide HY3).only ho4 (by omega))
      have HO4 := hide ((unhide HO3).trans ho4)
      have HC4 := hide hc4
      clear hc4 ho4
      obtain ⟨f0, f1, f2, f3, f4⟩ := (unhide HR4).facts
      cases q with
      | false =>
        obtain ⟨d0, d1, d2, d3, d4⟩ := (unhide HY4).facts
        have g0 := (unhide HY4).free 0
        have g1 := (unhide HY4).free 1
        have g2 := (unhide HY4).free 2
        have g3 := (unhide HY4).free 3
        have g4 := (unhide HY4).free 4
        go_wp2_with fail
        refine bodyPost_ret (v := .agg #[.string d, .int .i64 b, .int .i64 s, .int .i64 t, .int .i64 n]) (by simp [results, Try.results33, go_sem, d0, d1, d2, d3, d4]) rfl ⟨_, _, _, _, _, rfl, unhide HD0, (unhide HC4).apart5 (by omega), (unhide HO4).apart5 (by omega)⟩
      | true =>
        have hE := hide (fun g v => endS d b s t n g v)
        go_wp2_with fail
        go_region_with (first
          | (go_at_call 24
             refine (unhide hon 2 _ (unhide HC4).drew (by omega)).mono ?_
             rintro e w5 ⟨z, rfl, hc5, ho5⟩
             have HR5 := hide ((unhide HR4).only ho5.drewl (by omega))
             have HY5 := hide ((unhide HY4).only ho5.drewl (by omega))
             have HO5 := hide ((unhide HO4).trans ho5.drewl)
             have HC5 := hide hc5
             clear hc5 ho5
             obtain ⟨p0, p1, p2, p3, p4⟩ := (unhide HR5).facts)
          | (go_at_call 12
             refine (unhide hE _ _).mono ?_
             rintro e w6 ⟨rfl, hb6⟩
             have HY6 := hide ((unhide HY5).below hb6)
             have HO6 := hide ((unhide HO5).trans (Only.of_below hb6))
             have HC6 := hide ((unhide HC5).below hb6)
             clear hb6
             obtain ⟨d0, d1, d2, d3, d4⟩ := (unhide HY6).facts
             have g0 := (unhide HY6).free 0
             have g1 := (unhide HY6).free 1
             have g2 := (unhide HY6).free 2
             have g3 := (unhide HY6).free 3
             have g4 := (unhide HY6).free 4))
        all_goals
          go_wp2_with fail
          refine bodyPost_ret (v := .agg #[.string d, .int .i64 b, .int .i64 (endX s z), .int .i64 t, .int .i64 n]) (by simp [results, Try.results33, go_sem, d0, d1, d2, d3, d4]) rfl ⟨_, _, _, _, _, rfl, unhide HD0, (unhide HC6).apart5 (by omega), (unhide HO6).apart5 (by omega)⟩


end Go.Proofs.Ytpemiphhmihfoaa
