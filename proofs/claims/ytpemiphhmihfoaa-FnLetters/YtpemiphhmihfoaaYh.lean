/- The draws of letters by a code: DrawLetterOk, DrawLetterTry, DrawLetterEnd, DrawSpent. -/
import Derived.Test.YtpemiphhmihfoaaYg
namespace Go.Proofs.Ytpemiphhmihfoaa
open Go.RowKit Go.Deep

theorem bytes_alloc {w : World} {a : Option Addr} {len : Nat} (hB : Bytes w w.heap.size a len) (x : Obj) : Bytes (w.alloc x) (w.alloc x).heap.size a len := fun k hk => by
  obtain ⟨b, o, z, h1, h2, h3, h4⟩ := hB k hk
  exact ⟨b, o, z, h1, by rw [heap_size_alloc]; omega, (World.cell?_of_block ((abP x).block b h2)).trans h3, h4⟩

set_option maxRecDepth 100000 in
set_option maxHeartbeats 4000000 in
theorem drawOk (a : Option Addr) (len cap : Nat) (w : World) (hB : Bytes w w.heap.size a len) (hl : len ≤ 1048576) (hlc : len ≤ cap) :
    Calls Try.prog 11 #[.slice a len cap] w fun e w' => ∃ d b s t n, e = .returned (.agg #[.string d, .int .i64 b, .int .i64 s, .int .i64 t, .int .i64 n]) ∧ d.size ≤ 300 ∧ Below w.heap.size w w' := by
  have hn := hide (fun v (hv : Bytes v v.heap.size a len) => new_calls a len cap v hv hl hlc)
  have hdw := hide (fun c v h => letter_draw c v h)
  have HBY := hide (bytes_alloc hB (.cells #[.string ⟨#[]⟩, .int .i64 0, .int .i64 0, .int .i64 0, .int .i64 0] 25))
  clear hB
  go_enter Try.func11, Try.ntmps11
  go_wp2_with fail
  refine (unhide hn _ (unhide HBY)).mono ?_
  rintro e w1 ⟨rfl, hc1, hb1, hz1⟩
  simp only [heap_size_alloc] at hz1 hc1
  have HB1 := hide (btP (abP (.cells #[.string ⟨#[]⟩, .int .i64 0, .int .i64 0, .int .i64 0, .int .i64 0] 25)) hb1)
  have HY1 := hide ((RowL.new 25 w ⟨#[]⟩ 0 0 0 0).below hb1)
  have HC1 := hide hc1
  clear hc1 hb1
  go_wp2_with fail
  refine (unhide hdw _ _ (unhide HC1)).mono ?_
  rintro e w2 ⟨d, b, s, t, n, rfl, hd, hc2, ho2⟩
  have HB2 := hide (below_only (unhide HB1) ho2 (by omega))
  obtain ⟨d0, d1, d2, d3, d4⟩ := ((unhide HY1).only ho2 (by omega)).facts
  have HY2 := hide ((unhide HY1).only ho2 (by omega))
  have g0 := (unhide HY2).free 0
  have g1 := (unhide HY2).free 1
  have g2 := (unhide HY2).free 2
  have g3 := (unhide HY2).free 3
  have g4 := (unhide HY2).free 4
  clear hc2 ho2
  go_wp2_with fail
  refine bodyPost_ret (v := .agg #[.string d, .int .i64 b, .int .i64 s, .int .i64 t, .int .i64 n]) (by simp [results, Try.results11, go_sem, d0, d1, d2, d3, d4]) rfl ⟨_, _, _, _, _, rfl, hd, ?_⟩
  repeat refine setB ?_ (by omega)
  exact unhide HB2

set_option maxRecDepth 100000 in
set_option maxHeartbeats 4000000 in
theorem drawEnd (a : Option Addr) (len cap : Nat) (w : World) (hB : Bytes w w.heap.size a len) (hl : len ≤ 1048576) (hlc : len ≤ cap) :
    Calls Try.prog 8 #[.slice a len cap] w fun e w' => ∃ d b s t n g, e = .returned (.tuple #[.agg #[.string d, .int .i64 b, .int .i64 s, .int .i64 t, .int .i64 n], .bool g]) ∧ d.size ≤ 300 ∧ Below w.heap.size w w' := by
  have hn := hide (fun v (hv : Bytes v v.heap.size a len) => new_calls a len cap v hv hl hlc)
  have hdw := hide (fun c v h => letter_draw c v h)
  have hon := hide (fun c v h => once_calls c 2 v h (by omega))
  have HBY := hide (bytes_alloc hB (.cells #[.string ⟨#[]⟩, .int .i64 0, .int .i64 0, .int .i64 0, .int .i64 0] 25))
  clear hB
  go_enter Try.func8, Try.ntmps8
  go_wp2_with fail
  refine (unhide hn _ (unhide HBY)).mono ?_
  rintro e w1 ⟨rfl, hc1, hb1, hz1⟩
  simp only [heap_size_alloc] at hz1 hc1
  have HB1 := hide (btP (abP (.cells #[.string ⟨#[]⟩, .int .i64 0, .int .i64 0, .int .i64 0, .int .i64 0] 25)) hb1)
  have HY1 := hide ((RowL.new 25 w ⟨#[]⟩ 0 0 0 0).below hb1)
  have HC1 := hide hc1
  clear hc1 hb1
  go_wp2_with fail
  refine (unhide hdw _ _ (unhide HC1)).mono ?_
  rintro e w2 ⟨d, b, s, t, n, rfl, hd, hc2, ho2⟩
  have hb2 : Below w2.heap.size w2 (w2.alloc (.cells #[.string d, .int .i64 b, .int .i64 s, .int .i64 t, .int .i64 n] 25)) := abP _
  have HB2 := hide (btP (below_only (unhide HB1) ho2 (by omega)) hb2)
  have HY2 := hide (((unhide HY1).only ho2 (by omega)).below hb2)
  have HR2 := hide (RowL.new 25 w2 d b s t n)
  have HC2 := hide (hc2.below hb2)
  have hg : w.heap.size + 1 < w2.heap.size := Nat.lt_of_lt_of_le hz1 ho2.size
  clear hc2 ho2 hb2
  go_wp2_with fail
  generalize w2.alloc (.cells #[.string d, .int .i64 b, .int .i64 s, .int .i64 t, .int .i64 n] 25) = w3 at *
  generalize w2.heap.size = g at *
  obtain ⟨c0, c1, c2, c3, c4⟩ := (unhide HR2).facts
  go_region_with (first
    | (go_at_call 24
       refine (unhide hon _ _ (unhide HC2).drew).mono ?_
       rintro e w4 ⟨z, rfl, hc4, ho4⟩
       have HR4 := hide ((unhide HR2).only ho4.drewl (by omega))
       have HY4 := hide ((unhide HY2).only ho4.drewl (by omega))
       have HB4 := hide (below_only (unhide HB2) ho4.drewl (by omega))
       clear hc4 ho4
       obtain ⟨f0, f1, f2, f3, f4⟩ := (unhide HR4).facts
       obtain ⟨d0, d1, d2, d3, d4⟩ := (unhide HY4).facts
       have g0 := (unhide HY4).free 0
       have g1 := (unhide HY4).free 1
       have g2 := (unhide HY4).free 2
       have g3 := (unhide HY4).free 3
       have g4 := (unhide HY4).free 4))
  all_goals
    go_wp2_with fail
    refine bodyPost_ret (v := .tuple #[.agg #[.string d, .int .i64 b, .int .i64 s, .int .i64 t, .int .i64 n], .bool z]) (by simp [results, Try.results8, go_sem, d0, d1, d2, d3, d4]) rfl ⟨_, _, _, _, _, _, rfl, hd, ?_⟩
    repeat refine setB ?_ (by omega)
    exact unhide HB4

set_option maxRecDepth 100000 in
set_option maxHeartbeats 4000000 in
theorem drawTry (a : Option Addr) (len cap : Nat) (w : World) (hB : Bytes w w.heap.size a len) (hl : len ≤ 1048576) (hlc : len ≤ cap) :
    Calls Try.prog 5 #[.slice a len cap] w fun e w' => ∃ d b s t n now, e = .returned (.tuple #[.agg #[.string d, .int .i64 b, .int .i64 s, .int .i64 t, .int .i64 n], .int .i64 now]) ∧ d.size ≤ 300 ∧ Below w.heap.size w w' := by
  have hn := hide (fun v (hv : Bytes v v.heap.size a len) => new_calls a len cap v hv hl hlc)
  have hdw := hide (fun c v h => letter_draw c v h)
  have hpi := hide (fun c => pickInt_any c)
  have HBY := hide (bytes_alloc hB (.cells #[.string ⟨#[]⟩, .int .i64 0, .int .i64 0, .int .i64 0, .int .i64 0] 25))
  clear hB
  go_enter Try.func5, Try.ntmps5
  go_wp2_with fail
  refine (unhide hn _ (unhide HBY)).mono ?_
  rintro e w1 ⟨rfl, hc1, hb1, hz1⟩
  simp only [heap_size_alloc] at hz1 hc1
  have HB1 := hide (btP (abP (.cells #[.string ⟨#[]⟩, .int .i64 0, .int .i64 0, .int .i64 0, .int .i64 0] 25)) hb1)
  have HY1 := hide ((RowL.new 25 w ⟨#[]⟩ 0 0 0 0).below hb1)
  have HC1 := hide hc1
  clear hc1 hb1
  go_wp2_with fail
  refine (unhide hdw _ _ (unhide HC1)).mono ?_
  rintro e w2 ⟨d, b, s, t, n, rfl, hd, hc2, ho2⟩
  have hb2 : Below w2.heap.size w2 (w2.alloc (.cells #[.string d, .int .i64 b, .int .i64 s, .int .i64 t, .int .i64 n] 25)) := abP _
  have HB2 := hide (btP (below_only (unhide HB1) ho2 (by omega)) hb2)
  have HY2 := hide (((unhide HY1).only ho2 (by omega)).below hb2)
  have HR2 := hide (RowL.new 25 w2 d b s t n)
  have HC2 := hide (hc2.below hb2)
  have hg : w.heap.size + 1 < w2.heap.size := Nat.lt_of_lt_of_le hz1 ho2.size
  clear hc2 ho2 hb2
  go_wp2_with fail
  generalize w2.alloc (.cells #[.string d, .int .i64 b, .int .i64 s, .int .i64 t, .int .i64 n] 25) = w3 at *
  generalize w2.heap.size = g at *
  have hgl := (unhide HR2).lt
  obtain ⟨c0, c1, c2, c3, c4⟩ := (unhide HR2).facts
  have hbs : Below w3.heap.size w3 (w3.alloc (.cells #[.int .i64 0, .int .i64 n, .int .i64 500, .int .i64 100000, .int .i64 100001, .int .i64 (-1)] 3)) := abP _
  obtain ⟨k0, k1, k2, k3, k4⟩ := ((unhide HR2).below hbs).facts
  have HBS := hide hbs
  clear hbs
  go_region_with (first
    | (go_at_call 19
       refine (unhide hpi _ w3.heap.size 6 6 _ ((unhide HC2).below (unhide HBS)).drew (by omega) (by omega) (by omega) (by omega) (by omega) (six_at 0 n 500 100000 100001 (-1) w3)).mono ?_
       rintro e w4 ⟨z, rfl, hc4, ho4⟩
       have HR4 := hide (((unhide HR2).below (unhide HBS)).only ho4.drewl (by omega))
       have HY4 := hide (((unhide HY2).below (unhide HBS)).only ho4.drewl (by omega))
       have HB4 := hide (below_only (btP (unhide HB2) (unhide HBS)) ho4.drewl (by omega))
       clear hc4 ho4
       obtain ⟨f0, f1, f2, f3, f4⟩ := (unhide HR4).facts
       obtain ⟨d0, d1, d2, d3, d4⟩ := (unhide HY4).facts
       have g0 := (unhide HY4).free 0
       have g1 := (unhide HY4).free 1
       have g2 := (unhide HY4).free 2
       have g3 := (unhide HY4).free 3
       have g4 := (unhide HY4).free 4))
  all_goals
    go_wp2_with fail
    refine bodyPost_ret (v := .tuple #[.agg #[.string d, .int .i64 b, .int .i64 s, .int .i64 t, .int .i64 n], .int .i64 z]) (by simp [results, Try.results5, go_sem, d0, d1, d2, d3, d4]) rfl ⟨_, _, _, _, _, _, rfl, hd, ?_⟩
    repeat refine setB ?_ (by omega)
    exact unhide HB4

set_option maxRecDepth 100000 in
set_option maxHeartbeats 4000000 in
theorem drawSp (a : Option Addr) (len cap : Nat) (w : World) (hB : Bytes w w.heap.size a len) (hl : len ≤ 1048576) (hlc : len ≤ cap) :
    Calls Try.prog 10 #[.slice a len cap] w fun e w' => ∃ d b s t n now, e = .returned (.tuple #[.agg #[.string d, .int .i64 b, .int .i64 s, .int .i64 t, .int .i64 n], .int .i64 now]) ∧ d.size ≤ 300 ∧ Below w.heap.size w w' := by
  have hdt := hide (fun v (hv : Bytes v v.heap.size a len) => drawTry a len cap v hv hl hlc)
  have HBY := hide (bytes_alloc hB (.cells #[.string ⟨#[]⟩, .int .i64 0, .int .i64 0, .int .i64 0, .int .i64 0] 25))
  clear hB
  go_enter Try.func10, Try.ntmps10
  go_wp2_with fail
  refine (unhide hdt _ (unhide HBY)).mono ?_
  rintro e w1 ⟨d, b, s, t, n, now, rfl, hd, hb1⟩
  have hb2 : Below w1.heap.size w1 (w1.alloc (.cells #[.string d, .int .i64 b, .int .i64 s, .int .i64 t, .int .i64 n] 25)) := abP _
  have HB2 := hide (btP (btP (abP (.cells #[.string ⟨#[]⟩, .int .i64 0, .int .i64 0, .int .i64 0, .int .i64 0] 25)) hb1) hb2)
  have HY2 := hide (((RowL.new 25 w ⟨#[]⟩ 0 0 0 0).below hb1).below hb2)
  obtain ⟨c0, c1, c2, c3, c4⟩ := (RowL.new 25 w1 d b s t n).facts
  obtain ⟨d0, d1, d2, d3, d4⟩ := (unhide HY2).facts
  have g0 := (unhide HY2).free 0
  have g1 := (unhide HY2).free 1
  have g2 := (unhide HY2).free 2
  have g3 := (unhide HY2).free 3
  have g4 := (unhide HY2).free 4
  clear hb1 hb2
  go_wp2_with fail
  refine bodyPost_ret (v := .tuple #[.agg #[.string d, .int .i64 b, .int .i64 s, .int .i64 t, .int .i64 n], .int .i64 now]) (by simp [results, Try.results10, go_sem, d0, d1, d2, d3, d4]) rfl ⟨_, _, _, _, _, _, rfl, hd, ?_⟩
  repeat refine setB ?_ (by omega)
  exact unhide HB2

end Go.Proofs.Ytpemiphhmihfoaa
