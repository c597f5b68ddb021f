/- Draws of chapter 11, the rest: l11Draw, DrawLetterOk, DrawLetterTry, DrawLetterEnd, DrawSpent. -/
import Derived.Test.YtpemiphhmihfoaaYd
namespace Go.Proofs.Ytpemiphhmihfoaa
open Go.RowKit Go.Deep

set_option maxRecDepth 100000 in
set_option maxHeartbeats 4000000 in
theorem letter_draw (c : Nat) (w : World) (hc : Cur w c) :
    Calls Try.prog 18 #[.pointer (some ⟨c, 0, none⟩)] w fun e w' => ∃ d b s t n, e = .returned (.agg #[.string d, .int .i64 b, .int .i64 s, .int .i64 t, .int .i64 n]) ∧ d.size ≤ 300 ∧ Cur w' c ∧ Only [c] w w' := by
  have hrd := hide (right_draw c)
  have hbl := hide (below_calls c)
  have hpi := hide (pickInt_any c)
  have hcl := hc.lt
  have HC := hide hc
  clear hc
  go_enter Try.func18, Try.ntmps18
  go_wp2_with fail
  refine (unhide hrd _ ((unhide HC).below (abP (.cells #[.string ⟨#[]⟩, .int .i64 0, .int .i64 0, .int .i64 0, .int .i64 0] 25)))).mono ?_
  rintro e w1 ⟨d, b, s, t, n, rfl, hd, hc1, ho1⟩
  have HY1 := hide (((RowL.new 25 w ⟨#[]⟩ 0 0 0 0).only ho1 (by omega)).below (abP (.cells #[.string d, .int .i64 b, .int .i64 s, .int .i64 t, .int .i64 n] 25)))
  have HO1 := hide ((only_allocL _ ho1).trans (Only.of_below (abP (.cells #[.string d, .int .i64 b, .int .i64 s, .int .i64 t, .int .i64 n] 25))))
  have HC1 := hide (hc1.below (abP (.cells #[.string d, .int .i64 b, .int .i64 s, .int .i64 t, .int .i64 n] 25)))
  have HR1 := hide (RowL.new 25 w1 d b s t n)
  have HD := hide hd
  have hg : w.heap.size < w1.heap.size := ((RowL.new 25 w ⟨#[]⟩ 0 0 0 0).only ho1 (by omega)).lt
  clear hc1 ho1 hd
  go_wp2_with fail
  refine (unhide hbl 12 _ (unhide HC1) (by omega)).mono ?_
  rintro e w3 ⟨y, rfl, -, hc3, ho3⟩
  have HR3 := hide ((unhide HR1).only ho3 (by omega))
  have HY3 := hide ((unhide HY1).only ho3 (by omega))
  have HO3 := hide ((unhide HO1).trans ho3)
  have HC3 := hide hc3
  clear hc3 ho3
  generalize w1.heap.size = g at *
  by_cases h0 : y = 0
  · subst h0
    go_wp2_with fail
    refine (unhide hbl 5 _ (unhide HC3) (by omega)).mono ?_
    rintro e w4 ⟨z, rfl, -, hc4, ho4⟩
    have HR4 := hide ((unhide HR3).only ho4 (by omega))
    have HY4 := hide ((unhide HY3).only ho4 (by omega))
    have HO4 := hide ((unhide HO3).trans ho4)
    have HC4 := hide hc4
    clear hc4 ho4
    obtain ⟨f0, f1, f2, f3, f4⟩ := (unhide HR4).facts
    have x2 := (unhide HR4).free 2
    obtain ⟨d0, d1, d2, d3, d4⟩ := (unhide HY4).facts
    have g0 := (unhide HY4).free 0
    have g1 := (unhide HY4).free 1
    have g2 := (unhide HY4).free 2
    have g3 := (unhide HY4).free 3
    have g4 := (unhide HY4).free 4
    go_wp2_with fail
    exact bodyPost_ret (v := .agg #[.string d, .int .i64 b, .int .i64 z, .int .i64 t, .int .i64 n]) (by simp [results, Try.results18, go_sem, d0, d1, d2, d3, d4]) rfl ⟨_, _, _, _, _, rfl, unhide HD, ((unhide HC4).apart (by omega)).apart5 (by omega), ((unhide HO4).apart (by omega)).apart5 (by omega)⟩
  · by_cases h1 : y = 1
    · subst h1
      go_wp2_with fail
      refine (unhide hpi w3.heap.size 3 3 _ ((unhide HC3).below (abP (.cells #[.int .i64 (-1), .int .i64 4, .int .i64 5] 3))) (by have := (unhide HC3).lt; omega) (by omega) (by omega) (by omega) (by omega) (three_at (-1) 4 5 w3)).mono ?_
      rintro e w4 ⟨z, rfl, hc4, ho4'⟩
      have ho4 := only_allocL _ ho4'
      clear ho4'
      have HR4 := hide ((unhide HR3).only ho4 (by omega))
      have HY4 := hide ((unhide HY3).only ho4 (by omega))
      have HO4 := hide ((unhide HO3).trans ho4)
      have HC4 := hide hc4
      clear hc4 ho4
      obtain ⟨f0, f1, f2, f3, f4⟩ := (unhide HR4).facts
      have x3 := (unhide HR4).free 3
      obtain ⟨d0, d1, d2, d3, d4⟩ := (unhide HY4).facts
      have g0 := (unhide HY4).free 0
      have g1 := (unhide HY4).free 1
      have g2 := (unhide HY4).free 2
      have g3 := (unhide HY4).free 3
      have g4 := (unhide HY4).free 4
      go_wp2_with fail
      exact bodyPost_ret (v := .agg #[.string d, .int .i64 b, .int .i64 s, .int .i64 z, .int .i64 n]) (by simp [results, Try.results18, go_sem, d0, d1, d2, d3, d4]) rfl ⟨_, _, _, _, _, rfl, unhide HD, ((unhide HC4).apart (by omega)).apart5 (by omega), ((unhide HO4).apart (by omega)).apart5 (by omega)⟩
    · by_cases h2 : y = 2
      · subst h2
        go_wp2_with fail
        refine (unhide hpi w3.heap.size 3 3 _ ((unhide HC3).below (abP (.cells #[.int .i64 (-1), .int .i64 100000, .int .i64 100001] 3))) (by have := (unhide HC3).lt; omega) (by omega) (by omega) (by omega) (by omega) (three_at (-1) 100000 100001 w3)).mono ?_
        rintro e w4 ⟨z, rfl, hc4, ho4'⟩
        have ho4 := only_allocL _ ho4'
        clear ho4'
        have HR4 := hide ((unhide HR3).only ho4 (by omega))
        have HY4 := hide ((unhide HY3).only ho4 (by omega))
        have HO4 := hide ((unhide HO3).trans ho4)
        have HC4 := hide hc4
        clear hc4 ho4
        obtain ⟨f0, f1, f2, f3, f4⟩ := (unhide HR4).facts
        have x4 := (unhide HR4).free 4
        obtain ⟨d0, d1, d2, d3, d4⟩ := (unhide HY4).facts
        have g0 := (unhide HY4).free 0
        have g1 := (unhide HY4).free 1
        have g2 := (unhide HY4).free 2
        have g3 := (unhide HY4).free 3
        have g4 := (unhide HY4).free 4
        go_wp2_with fail
        exact bodyPost_ret (v := .agg #[.string d, .int .i64 b, .int .i64 s, .int .i64 t, .int .i64 z]) (by simp [results, Try.results18, go_sem, d0, d1, d2, d3, d4]) rfl ⟨_, _, _, _, _, rfl, unhide HD, ((unhide HC4).apart (by omega)).apart5 (by omega), ((unhide HO4).apart (by omega)).apart5 (by omega)⟩
      · obtain ⟨f0, f1, f2, f3, f4⟩ := (unhide HR3).facts
        obtain ⟨d0, d1, d2, d3, d4⟩ := (unhide HY3).facts
        have g0 := (unhide HY3).free 0
        have g1 := (unhide HY3).free 1
        have g2 := (unhide HY3).free 2
        have g3 := (unhide HY3).free 3
        have g4 := (unhide HY3).free 4
        go_wp2_with fail
        exact bodyPost_ret (v := .agg #[.string d, .int .i64 b, .int .i64 s, .int .i64 t, .int .i64 n]) (by simp [results, Try.results18, go_sem, d0, d1, d2, d3, d4]) rfl ⟨_, _, _, _, _, rfl, unhide HD, (unhide HC3).apart5 (by omega), (unhide HO3).apart5 (by omega)⟩


end Go.Proofs.Ytpemiphhmihfoaa
