
/- A try of a letter: the walks of spec.LetterTry, impl.LetterTry and what they call. -/
import Derived.Test.YtfbillhfbdconaaYk
namespace Go.Proofs.Ytfbillhfbdconaa
open Go.RowKit Go.Deep

/-- Whether it is tried, and what becomes of it. -/
noncomputable def tryB (d : ByteArray) (b s t n : Int) (now : Int) : Bool := letB d b s t n && decide (s = 1 ∧ n ≤ now ∧ now ≤ 100000 ∧ ¬ t = 4)
def pauseZ (t : Int) : Int := if t = 0 then 20 else if t = 1 then 40 else if t = 2 then 80 else 160
noncomputable def tryT (d : ByteArray) (b s t n : Int) (now : Int) : Int := if tryB d b s t n now = true then t + 1 else t
noncomputable def tryN (d : ByteArray) (b s t n : Int) (now : Int) : Int := if tryB d b s t n now = true then (if 100000 < now + pauseZ t then 100000 else now + pauseZ t) else n
theorem tryB_iff {d : ByteArray} {b s t n : Int} {now : Int} : tryB d b s t n now = true ↔ letB d b s t n = true ∧ (s = 1 ∧ n ≤ now ∧ now ≤ 100000 ∧ ¬ t = 4) := by
  unfold tryB
  rw [Bool.and_eq_true, decide_eq_true_iff]
theorem try_no {d : ByteArray} {b s t n : Int} {now : Int} (h : ¬ tryB d b s t n now = true) : tryB d b s t n now = false ∧ tryT d b s t n now = t ∧ tryN d b s t n now = n := by
  refine ⟨by simpa using h, ?_, ?_⟩
  · unfold tryT; rw [if_neg h]
  · unfold tryN; rw [if_neg h]
theorem try_yes {d : ByteArray} {b s t n : Int} {now : Int} (h : tryB d b s t n now = true) : tryT d b s t n now = t + 1 ∧ tryN d b s t n now = (if 100000 < now + pauseZ t then 100000 else now + pauseZ t) := by
  refine ⟨?_, ?_⟩
  · unfold tryT; rw [if_pos h]
  · unfold tryN; rw [if_pos h]

set_option maxRecDepth 100000 in
theorem waitsI (d : ByteArray) (b s t n : Int) (p : Nat) (w : World) (hr : RowL 44 w p d b s t n) : Calls Try.prog 41 #[.pointer (some ⟨p, 0, none⟩)] w fun e w' => e = .returned (.bool (decide (s = 1))) ∧ w' = w := by
  obtain ⟨c0, c1, c2, c3, c4⟩ := hr.facts
  clear hr
  go_enter Try.func41, Try.ntmps41
  go_wp2_with fail
  go_ret
  exact ⟨retB (by by_cases h : s = 1 <;> simp [h]), rfl⟩

set_option maxRecDepth 100000 in
theorem dueI (d : ByteArray) (b s t n : Int) (now : Int) (p : Nat) (w : World) (hr : RowL 44 w p d b s t n) : Calls Try.prog 40 #[.pointer (some ⟨p, 0, none⟩), .int .i64 now] w fun e w' => e = .returned (.bool (decide (s = 1 ∧ n ≤ now))) ∧ w' = w := by
  obtain ⟨c0, c1, c2, c3, c4⟩ := hr.facts
  have H := hide (waitsI d b s t n p w hr)
  clear hr
  by_cases h1 : s = 1
  · rw [show decide (s = 1) = true from decide_eq_true h1] at H
    by_cases h2 : n ≤ now
    · rw [show decide (s = 1 ∧ n ≤ now) = true from decide_eq_true ⟨h1, h2⟩]
      clear h1
      go_enter Try.func40, Try.ntmps40
      go_wp2_with fail
      refine (unhide H).mono ?_
      rintro e w1 ⟨rfl, rfl⟩
      go_wp2_with fail
      go_ret
      exact ⟨retB (by simp), rfl⟩
    · rw [show decide (s = 1 ∧ n ≤ now) = false from decide_eq_false fun h => h2 h.2]
      clear h1
      go_enter Try.func40, Try.ntmps40
      go_wp2_with fail
      refine (unhide H).mono ?_
      rintro e w1 ⟨rfl, rfl⟩
      go_wp2_with fail
      go_ret
      exact ⟨retB (by simp; omega), rfl⟩
  · rw [show decide (s = 1) = false from decide_eq_false h1] at H
    rw [show decide (s = 1 ∧ n ≤ now) = false from decide_eq_false fun h => h1 h.1]
    clear h1
    go_enter Try.func40, Try.ntmps40
    go_wp2_with fail
    refine (unhide H).mono ?_
    rintro e w1 ⟨rfl, rfl⟩
    go_wp2_with fail
    go_ret
    exact ⟨rfl, rfl⟩

set_option maxRecDepth 100000 in
set_option maxHeartbeats 2000000 in
theorem ownI (d : ByteArray) (b s t n : Int) (w : World) (hd : d.size ≤ 2097152) : Calls Try.prog 36 #[.agg #[.string d, .int .i64 b, .int .i64 s, .int .i64 t, .int .i64 n]] w fun e w' => e = .returned (.pointer (some ⟨w.heap.size, 0, none⟩)) ∧ RowL 44 w' w.heap.size d b s t n ∧ Below w.heap.size w w' := by
  have HB0 := hide (abP (w := w) (.cells #[.string d, .int .i64 b, .int .i64 s, .int .i64 t, .int .i64 n] 44))
  have HX := hide (RowL.new 44 w d b s t n)
  have HC := hide (fun v => clone36 d v hd)
  clear hd
  go_enter Try.func36, Try.ntmps36
  go_wp2_with fail
  refine (unhide HC _).mono ?_
  rintro e w1 ⟨rfl, hb1⟩
  have HB1 := hide (btP (unhide HB0) hb1)
  have HX1 := hide ((unhide HX).below hb1)
  obtain ⟨c0, c1, c2, c3, c4⟩ := (unhide HX1).facts
  have g0 := (unhide HX1).free 0
  clear hb1
  go_wp2_with fail
  go_ret
  exact ⟨rfl, (unhide HX1).set0 d, setB (unhide HB1) (Nat.le_refl _)⟩

set_option maxRecDepth 100000 in
theorem minS (x y : Int) (w : World) : Calls Try.prog 32 #[.int .i64 x, .int .i64 y] w fun e w' => e = .returned (.int .i64 (if x < y then x else y)) ∧ w' = w := by
  by_cases h : x < y
  · rw [if_pos h]
    go_enter Try.func32, Try.ntmps32
    go_wp2_with fail
    go_ret
    exact ⟨rfl, rfl⟩
  · rw [if_neg h]
    go_enter Try.func32, Try.ntmps32
    go_wp2_with fail
    go_ret
    exact ⟨rfl, rfl⟩

set_option maxRecDepth 100000 in
set_option maxHeartbeats 2000000 in
theorem tryS (d : ByteArray) (b s t n : Int) (now : Int) (w : World) (hd : d.size ≤ 2097152) :
    Calls Try.prog 21 #[.agg #[.string d, .int .i64 b, .int .i64 s, .int .i64 t, .int .i64 n], .int .i64 now] w fun e w' => e = .returned (.tuple #[.agg #[.string d, .int .i64 b, .int .i64 s, .int .i64 (tryT d b s t n now), .int .i64 (tryN d b s t n now)], .bool (tryB d b s t n now)]) ∧ Below w.heap.size w w' := by
  have HB0 := hide (btP (abP (w := w) (.cells #[.string d, .int .i64 b, .int .i64 s, .int .i64 t, .int .i64 n] 44)) (abP (.cells #[.string ⟨#[]⟩, .int .i64 0, .int .i64 0, .int .i64 0, .int .i64 0] 44)))
  have HX := hide ((RowL.new 44 w d b s t n).below (abP (.cells #[.string ⟨#[]⟩, .int .i64 0, .int .i64 0, .int .i64 0, .int .i64 0] 44)))
  have HY : Hid (RowL 44 ((w.alloc (.cells #[.string d, .int .i64 b, .int .i64 s, .int .i64 t, .int .i64 n] 44)).alloc (.cells #[.string ⟨#[]⟩, .int .i64 0, .int .i64 0, .int .i64 0, .int .i64 0] 44)) (w.heap.size + 1) ⟨#[]⟩ 0 0 0 0) := by
    have := RowL.new 44 (w.alloc (.cells #[.string d, .int .i64 b, .int .i64 s, .int .i64 t, .int .i64 n] 44)) ⟨#[]⟩ 0 0 0 0
    rwa [heap_size_alloc] at this
  have hL := hide (fun v => okS d b s t n v hd)
  have hI := hide (fun v => inS now n 100000 v)
  have hM := hide (fun x v => minS 100000 x v)
  cases h0 : letB d b s t n with
  | false =>
    have HN := hide (try_no (d := d) (b := b) (s := s) (t := t) (n := n) (now := now) fun h => by rw [(tryB_iff.1 h).1] at h0; cases h0)
    rw [h0] at hL
    clear h0 hd
    go_enter Try.func21, Try.ntmps21
    go_wp2_with fail
    refine (unhide hL _).mono ?_
    rintro e w1 ⟨rfl, hb1⟩
    have HB1 := hide (btP (unhide HB0) hb1)
    have HX1 := hide ((unhide HX).below hb1)
    have HY1 := hide ((unhide HY).below hb1)
    obtain ⟨c0, c1, c2, c3, c4⟩ := (unhide HX1).facts
    obtain ⟨d0, d1, d2, d3, d4⟩ := (unhide HY1).facts
    have g0 := (unhide HY1).free 0
    have g1 := (unhide HY1).free 1
    have g2 := (unhide HY1).free 2
    have g3 := (unhide HY1).free 3
    have g4 := (unhide HY1).free 4
    clear hb1
    go_wp2_with fail
    rw [(unhide HN).1, (unhide HN).2.1, (unhide HN).2.2]
    refine bodyPost_ret (v := .tuple #[.agg #[.string d, .int .i64 b, .int .i64 s, .int .i64 t, .int .i64 n], .bool false]) (by simp [results, Try.results21, go_sem, d0, d1, d2, d3, d4]) rfl ⟨rfl, ?_⟩
    repeat refine setB ?_ (by omega)
    exact unhide HB1
  | true =>
    rw [h0] at hL
    by_cases h1 : s = 1
    · subst h1
      by_cases h2 : n ≤ now ∧ now ≤ 100000
      · rw [show decide (n ≤ now ∧ now ≤ 100000) = true from decide_eq_true h2] at hI
        by_cases h3 : t = 4
        · have HN := hide (try_no (d := d) (b := b) (s := 1) (t := t) (n := n) (now := now) fun h => (tryB_iff.1 h).2.2.2.2 h3)
          subst h3
          clear h0 hd h2
          go_enter Try.func21, Try.ntmps21
          go_wp2_with fail
          refine (unhide hL _).mono ?_
          rintro e w1 ⟨rfl, hb1⟩
          have HB1 := hide (btP (unhide HB0) hb1)
          have HX1 := hide ((unhide HX).below hb1)
          have HY1 := hide ((unhide HY).below hb1)
          obtain ⟨c0, c1, c2, c3, c4⟩ := (unhide HX1).facts
          obtain ⟨d0, d1, d2, d3, d4⟩ := (unhide HY1).facts
          have g0 := (unhide HY1).free 0
          have g1 := (unhide HY1).free 1
          have g2 := (unhide HY1).free 2
          have g3 := (unhide HY1).free 3
          have g4 := (unhide HY1).free 4
          clear hb1
          go_wp2_with fail
          refine (unhide hI _).mono ?_
          rintro e w2 ⟨rfl, rfl⟩
          go_wp2_with fail
          rw [(unhide HN).1, (unhide HN).2.1, (unhide HN).2.2]
          refine bodyPost_ret (v := .tuple #[.agg #[.string d, .int .i64 b, .int .i64 1, .int .i64 4, .int .i64 n], .bool false]) (by simp [results, Try.results21, go_sem, d0, d1, d2, d3, d4]) rfl ⟨rfl, ?_⟩
          repeat refine setB ?_ (by omega)
          exact unhide HB1
        · have HT := hide (try_yes (tryB_iff.2 ⟨h0, rfl, h2.1, h2.2, h3⟩))
          have HTB := hide (tryB_iff.2 ⟨h0, rfl, h2.1, h2.2, h3⟩)
          obtain ⟨-, -, -, ht, hn⟩ := letB_iff.1 h0
          have hnow : 0 ≤ now := by omega
          clear h0 hd
          rcases (by omega : t = 0 ∨ t = 1 ∨ t = 2 ∨ t = 3) with rfl | rfl | rfl | rfl
          · by_cases h4 : (100000 : Int) < now + 20
            · have HM := hide (fun v => minS 100000 (now + 20) v)
              rw [if_pos h4] at HM
              have q1 : wrap64 (now + 20) = now + 20 := by unfold wrap64; omega
              have HQ : Hid (tryT d b 1 0 n now = 1 ∧ tryN d b 1 0 n now = 100000) := by
                refine ⟨(unhide HT).1, ?_⟩
                rw [(unhide HT).2, show pauseZ 0 = 20 from rfl, if_pos h4]
              clear h2 h3 h4 ht hn hnow HT hM
              go_enter Try.func21, Try.ntmps21
              go_wp2_with fail
              refine (unhide hL _).mono ?_
              rintro e w1 ⟨rfl, hb1⟩
              have HB1 := hide (btP (unhide HB0) hb1)
              have HX1 := hide ((unhide HX).below hb1)
              have HY1 := hide ((unhide HY).below hb1)
              obtain ⟨c0, c1, c2, c3, c4⟩ := (unhide HX1).facts
              obtain ⟨d0, d1, d2, d3, d4⟩ := (unhide HY1).facts
              have g0 := (unhide HY1).free 0
              have g1 := (unhide HY1).free 1
              have g2 := (unhide HY1).free 2
              have g3 := (unhide HY1).free 3
              have g4 := (unhide HY1).free 4
              clear hb1
              have x3 := (unhide HX1).free 3
              have x4 := (unhide HX1).free 4
              go_wp2_with fail
              refine (unhide hI _).mono ?_
              rintro e w2 ⟨rfl, rfl⟩
              go_wp2_with fail

              refine (unhide HM _).mono ?_
              rintro e w3 ⟨rfl, rfl⟩
              go_wp2_with fail
              rw [unhide HTB, (unhide HQ).1, (unhide HQ).2]
              refine bodyPost_ret (v := .tuple #[.agg #[.string d, .int .i64 b, .int .i64 1, .int .i64 1, .int .i64 100000], .bool true]) (by simp [results, Try.results21, go_sem, d0, d1, d2, d3, d4]) rfl ⟨rfl, ?_⟩
              repeat refine setB ?_ (by omega)
              exact unhide HB1
            · have HM := hide (fun v => minS 100000 (now + 20) v)
              rw [if_neg h4] at HM
              have q1 : wrap64 (now + 20) = now + 20 := by unfold wrap64; omega
              have HQ : Hid (tryT d b 1 0 n now = 1 ∧ tryN d b 1 0 n now = now + 20) := by
                refine ⟨(unhide HT).1, ?_⟩
                rw [(unhide HT).2, show pauseZ 0 = 20 from rfl, if_neg h4]
              clear h2 h3 h4 ht hn hnow HT hM
              go_enter Try.func21, Try.ntmps21
              go_wp2_with fail
              refine (unhide hL _).mono ?_
              rintro e w1 ⟨rfl, hb1⟩
              have HB1 := hide (btP (unhide HB0) hb1)
              have HX1 := hide ((unhide HX).below hb1)
              have HY1 := hide ((unhide HY).below hb1)
              obtain ⟨c0, c1, c2, c3, c4⟩ := (unhide HX1).facts
              obtain ⟨d0, d1, d2, d3, d4⟩ := (unhide HY1).facts
              have g0 := (unhide HY1).free 0
              have g1 := (unhide HY1).free 1
              have g2 := (unhide HY1).free 2
              have g3 := (unhide HY1).free 3
              have g4 := (unhide HY1).free 4
              clear hb1
              have x3 := (unhide HX1).free 3
              have x4 := (unhide HX1).free 4
              go_wp2_with fail
              refine (unhide hI _).mono ?_
              rintro e w2 ⟨rfl, rfl⟩
              go_wp2_with fail

              refine (unhide HM _).mono ?_
              rintro e w3 ⟨rfl, rfl⟩
              go_wp2_with fail
              rw [unhide HTB, (unhide HQ).1, (unhide HQ).2]
              refine bodyPost_ret (v := .tuple #[.agg #[.string d, .int .i64 b, .int .i64 1, .int .i64 1, .int .i64 (now + 20)], .bool true]) (by simp [results, Try.results21, go_sem, d0, d1, d2, d3, d4]) rfl ⟨rfl, ?_⟩
              repeat refine setB ?_ (by omega)
              exact unhide HB1
          · by_cases h4 : (100000 : Int) < now + 40
            · have HM := hide (fun v => minS 100000 (now + 40) v)
              rw [if_pos h4] at HM
              have q1 : wrap64 (now + 40) = now + 40 := by unfold wrap64; omega
              have HQ : Hid (tryT d b 1 1 n now = 2 ∧ tryN d b 1 1 n now = 100000) := by
                refine ⟨(unhide HT).1, ?_⟩
                rw [(unhide HT).2, show pauseZ 1 = 40 from rfl, if_pos h4]
              clear h2 h3 h4 ht hn hnow HT hM
              go_enter Try.func21, Try.ntmps21
              go_wp2_with fail
              refine (unhide hL _).mono ?_
              rintro e w1 ⟨rfl, hb1⟩
              have HB1 := hide (btP (unhide HB0) hb1)
              have HX1 := hide ((unhide HX).below hb1)
              have HY1 := hide ((unhide HY).below hb1)
              obtain ⟨c0, c1, c2, c3, c4⟩ := (unhide HX1).facts
              obtain ⟨d0, d1, d2, d3, d4⟩ := (unhide HY1).facts
              have g0 := (unhide HY1).free 0
              have g1 := (unhide HY1).free 1
              have g2 := (unhide HY1).free 2
              have g3 := (unhide HY1).free 3
              have g4 := (unhide HY1).free 4
              clear hb1
              have x3 := (unhide HX1).free 3
              have x4 := (unhide HX1).free 4
              go_wp2_with fail
              refine (unhide hI _).mono ?_
              rintro e w2 ⟨rfl, rfl⟩
              go_wp2_with fail

              refine (unhide HM _).mono ?_
              rintro e w3 ⟨rfl, rfl⟩
              go_wp2_with fail
              rw [unhide HTB, (unhide HQ).1, (unhide HQ).2]
              refine bodyPost_ret (v := .tuple #[.agg #[.string d, .int .i64 b, .int .i64 1, .int .i64 2, .int .i64 100000], .bool true]) (by simp [results, Try.results21, go_sem, d0, d1, d2, d3, d4]) rfl ⟨rfl, ?_⟩
              repeat refine setB ?_ (by omega)
              exact unhide HB1
            · have HM := hide (fun v => minS 100000 (now + 40) v)
              rw [if_neg h4] at HM
              have q1 : wrap64 (now + 40) = now + 40 := by unfold wrap64; omega
              have HQ : Hid (tryT d b 1 1 n now = 2 ∧ tryN d b 1 1 n now = now + 40) := by
                refine ⟨(unhide HT).1, ?_⟩
                rw [(unhide HT).2, show pauseZ 1 = 40 from rfl, if_neg h4]
              clear h2 h3 h4 ht hn hnow HT hM
              go_enter Try.func21, Try.ntmps21
              go_wp2_with fail
              refine (unhide hL _).mono ?_
              rintro e w1 ⟨rfl, hb1⟩
              have HB1 := hide (btP (unhide HB0) hb1)
              have HX1 := hide ((unhide HX).below hb1)
              have HY1 := hide ((unhide HY).below hb1)
              obtain ⟨c0, c1, c2, c3, c4⟩ := (unhide HX1).facts
              obtain ⟨d0, d1, d2, d3, d4⟩ := (unhide HY1).facts
              have g0 := (unhide HY1).free 0
              have g1 := (unhide HY1).free 1
              have g2 := (unhide HY1).free 2
              have g3 := (unhide HY1).free 3
              have g4 := (unhide HY1).free 4
              clear hb1
              have x3 := (unhide HX1).free 3
              have x4 := (unhide HX1).free 4
              go_wp2_with fail
              refine (unhide hI _).mono ?_
              rintro e w2 ⟨rfl, rfl⟩
              go_wp2_with fail

              refine (unhide HM _).mono ?_
              rintro e w3 ⟨rfl, rfl⟩
              go_wp2_with fail
              rw [unhide HTB, (unhide HQ).1, (unhide HQ).2]
              refine bodyPost_ret (v := .tuple #[.agg #[.string d, .int .i64 b, .int .i64 1, .int .i64 2, .int .i64 (now + 40)], .bool true]) (by simp [results, Try.results21, go_sem, d0, d1, d2, d3, d4]) rfl ⟨rfl, ?_⟩
              repeat refine setB ?_ (by omega)
              exact unhide HB1
          · by_cases h4 : (100000 : Int) < now + 80
            · have HM := hide (fun v => minS 100000 (now + 80) v)
              rw [if_pos h4] at HM
              have q1 : wrap64 (now + 80) = now + 80 := by unfold wrap64; omega
              have HQ : Hid (tryT d b 1 2 n now = 3 ∧ tryN d b 1 2 n now = 100000) := by
                refine ⟨(unhide HT).1, ?_⟩
                rw [(unhide HT).2, show pauseZ 2 = 80 from rfl, if_pos h4]
              clear h2 h3 h4 ht hn hnow HT hM
              go_enter Try.func21, Try.ntmps21
              go_wp2_with fail
              refine (unhide hL _).mono ?_
              rintro e w1 ⟨rfl, hb1⟩
              have HB1 := hide (btP (unhide HB0) hb1)
              have HX1 := hide ((unhide HX).below hb1)
              have HY1 := hide ((unhide HY).below hb1)
              obtain ⟨c0, c1, c2, c3, c4⟩ := (unhide HX1).facts
              obtain ⟨d0, d1, d2, d3, d4⟩ := (unhide HY1).facts
              have g0 := (unhide HY1).free 0
              have g1 := (unhide HY1).free 1
              have g2 := (unhide HY1).free 2
              have g3 := (unhide HY1).free 3
              have g4 := (unhide HY1).free 4
              clear hb1
              have x3 := (unhide HX1).free 3
              have x4 := (unhide HX1).free 4
              go_wp2_with fail
              refine (unhide hI _).mono ?_
              rintro e w2 ⟨rfl, rfl⟩
              go_wp2_with fail

              refine (unhide HM _).mono ?_
              rintro e w3 ⟨rfl, rfl⟩
              go_wp2_with fail
              rw [unhide HTB, (unhide HQ).1, (unhide HQ).2]
              refine bodyPost_ret (v := .tuple #[.agg #[.string d, .int .i64 b, .int .i64 1, .int .i64 3, .int .i64 100000], .bool true]) (by simp [results, Try.results21, go_sem, d0, d1, d2, d3, d4]) rfl ⟨rfl, ?_⟩
              repeat refine setB ?_ (by omega)
              exact unhide HB1
            · have HM := hide (fun v => minS 100000 (now + 80) v)
              rw [if_neg h4] at HM
              have q1 : wrap64 (now + 80) = now + 80 := by unfold wrap64; omega
              have HQ : Hid (tryT d b 1 2 n now = 3 ∧ tryN d b 1 2 n now = now + 80) := by
                refine ⟨(unhide HT).1, ?_⟩
                rw [(unhide HT).2, show pauseZ 2 = 80 from rfl, if_neg h4]
              clear h2 h3 h4 ht hn hnow HT hM
              go_enter Try.func21, Try.ntmps21
              go_wp2_with fail
              refine (unhide hL _).mono ?_
              rintro e w1 ⟨rfl, hb1⟩
              have HB1 := hide (btP (unhide HB0) hb1)
              have HX1 := hide ((unhide HX).below hb1)
              have HY1 := hide ((unhide HY).below hb1)
              obtain ⟨c0, c1, c2, c3, c4⟩ := (unhide HX1).facts
              obtain ⟨d0, d1, d2, d3, d4⟩ := (unhide HY1).facts
              have g0 := (unhide HY1).free 0
              have g1 := (unhide HY1).free 1
              have g2 := (unhide HY1).free 2
              have g3 := (unhide HY1).free 3
              have g4 := (unhide HY1).free 4
              clear hb1
              have x3 := (unhide HX1).free 3
              have x4 := (unhide HX1).free 4
              go_wp2_with fail
              refine (unhide hI _).mono ?_
              rintro e w2 ⟨rfl, rfl⟩
              go_wp2_with fail

              refine (unhide HM _).mono ?_
              rintro e w3 ⟨rfl, rfl⟩
              go_wp2_with fail
              rw [unhide HTB, (unhide HQ).1, (unhide HQ).2]
              refine bodyPost_ret (v := .tuple #[.agg #[.string d, .int .i64 b, .int .i64 1, .int .i64 3, .int .i64 (now + 80)], .bool true]) (by simp [results, Try.results21, go_sem, d0, d1, d2, d3, d4]) rfl ⟨rfl, ?_⟩
              repeat refine setB ?_ (by omega)
              exact unhide HB1
          · by_cases h4 : (100000 : Int) < now + 160
            · have HM := hide (fun v => minS 100000 (now + 160) v)
              rw [if_pos h4] at HM
              have q1 : wrap64 (now + 160) = now + 160 := by unfold wrap64; omega
              have HQ : Hid (tryT d b 1 3 n now = 4 ∧ tryN d b 1 3 n now = 100000) := by
                refine ⟨(unhide HT).1, ?_⟩
                rw [(unhide HT).2, show pauseZ 3 = 160 from rfl, if_pos h4]
              clear h2 h3 h4 ht hn hnow HT hM
              go_enter Try.func21, Try.ntmps21
              go_wp2_with fail
              refine (unhide hL _).mono ?_
              rintro e w1 ⟨rfl, hb1⟩
              have HB1 := hide (btP (unhide HB0) hb1)
              have HX1 := hide ((unhide HX).below hb1)
              have HY1 := hide ((unhide HY).below hb1)
              obtain ⟨c0, c1, c2, c3, c4⟩ := (unhide HX1).facts
              obtain ⟨d0, d1, d2, d3, d4⟩ := (unhide HY1).facts
              have g0 := (unhide HY1).free 0
              have g1 := (unhide HY1).free 1
              have g2 := (unhide HY1).free 2
              have g3 := (unhide HY1).free 3
              have g4 := (unhide HY1).free 4
              clear hb1
              have x3 := (unhide HX1).free 3
              have x4 := (unhide HX1).free 4
              go_wp2_with fail
              refine (unhide hI _).mono ?_
              rintro e w2 ⟨rfl, rfl⟩
              go_wp2_with fail

              refine (unhide HM _).mono ?_
              rintro e w3 ⟨rfl, rfl⟩
              go_wp2_with fail
              rw [unhide HTB, (unhide HQ).1, (unhide HQ).2]
              refine bodyPost_ret (v := .tuple #[.agg #[.string d, .int .i64 b, .int .i64 1, .int .i64 4, .int .i64 100000], .bool true]) (by simp [results, Try.results21, go_sem, d0, d1, d2, d3, d4]) rfl ⟨rfl, ?_⟩
              repeat refine setB ?_ (by omega)
              exact unhide HB1
            · have HM := hide (fun v => minS 100000 (now + 160) v)
              rw [if_neg h4] at HM
              have q1 : wrap64 (now + 160) = now + 160 := by unfold wrap64; omega
              have HQ : Hid (tryT d b 1 3 n now = 4 ∧ tryN d b 1 3 n now = now + 160) := by
                refine ⟨(unhide HT).1, ?_⟩
                rw [(unhide HT).2, show pauseZ 3 = 160 from rfl, if_neg h4]
              clear h2 h3 h4 ht hn hnow HT hM
              go_enter Try.func21, Try.ntmps21
              go_wp2_with fail
              refine (unhide hL _).mono ?_
              rintro e w1 ⟨rfl, hb1⟩
              have HB1 := hide (btP (unhide HB0) hb1)
              have HX1 := hide ((unhide HX).below hb1)
              have HY1 := hide ((unhide HY).below hb1)
              obtain ⟨c0, c1, c2, c3, c4⟩ := (unhide HX1).facts
              obtain ⟨d0, d1, d2, d3, d4⟩ := (unhide HY1).facts
              have g0 := (unhide HY1).free 0
              have g1 := (unhide HY1).free 1
              have g2 := (unhide HY1).free 2
              have g3 := (unhide HY1).free 3
              have g4 := (unhide HY1).free 4
              clear hb1
              have x3 := (unhide HX1).free 3
              have x4 := (unhide HX1).free 4
              go_wp2_with fail
              refine (unhide hI _).mono ?_
              rintro e w2 ⟨rfl, rfl⟩
              go_wp2_with fail

              refine (unhide HM _).mono ?_
              rintro e w3 ⟨rfl, rfl⟩
              go_wp2_with fail
              rw [unhide HTB, (unhide HQ).1, (unhide HQ).2]
              refine bodyPost_ret (v := .tuple #[.agg #[.string d, .int .i64 b, .int .i64 1, .int .i64 4, .int .i64 (now + 160)], .bool true]) (by simp [results, Try.results21, go_sem, d0, d1, d2, d3, d4]) rfl ⟨rfl, ?_⟩
              repeat refine setB ?_ (by omega)
              exact unhide HB1
      · rw [show decide (n ≤ now ∧ now ≤ 100000) = false from decide_eq_false h2] at hI
        have HN := hide (try_no (d := d) (b := b) (s := 1) (t := t) (n := n) (now := now) fun h => h2 ⟨(tryB_iff.1 h).2.2.1, (tryB_iff.1 h).2.2.2.1⟩)
        clear h0 hd h2
        go_enter Try.func21, Try.ntmps21
        go_wp2_with fail
        refine (unhide hL _).mono ?_
        rintro e w1 ⟨rfl, hb1⟩
        have HB1 := hide (btP (unhide HB0) hb1)
        have HX1 := hide ((unhide HX).below hb1)
        have HY1 := hide ((unhide HY).below hb1)
        obtain ⟨c0, c1, c2, c3, c4⟩ := (unhide HX1).facts
        obtain ⟨d0, d1, d2, d3, d4⟩ := (unhide HY1).facts
        have g0 := (unhide HY1).free 0
        have g1 := (unhide HY1).free 1
        have g2 := (unhide HY1).free 2
        have g3 := (unhide HY1).free 3
        have g4 := (unhide HY1).free 4
        clear hb1
        go_wp2_with fail
        refine (unhide hI _).mono ?_
        rintro e w2 ⟨rfl, rfl⟩
        go_wp2_with fail
        rw [(unhide HN).1, (unhide HN).2.1, (unhide HN).2.2]
        refine bodyPost_ret (v := .tuple #[.agg #[.string d, .int .i64 b, .int .i64 1, .int .i64 t, .int .i64 n], .bool false]) (by simp [results, Try.results21, go_sem, d0, d1, d2, d3, d4]) rfl ⟨rfl, ?_⟩
        repeat refine setB ?_ (by omega)
        exact unhide HB1
    · have HN := hide (try_no (d := d) (b := b) (s := s) (t := t) (n := n) (now := now) fun h => h1 (tryB_iff.1 h).2.1)
      clear h0 hd
      go_enter Try.func21, Try.ntmps21
      go_wp2_with fail
      refine (unhide hL _).mono ?_
      rintro e w1 ⟨rfl, hb1⟩
      have HB1 := hide (btP (unhide HB0) hb1)
      have HX1 := hide ((unhide HX).below hb1)
      have HY1 := hide ((unhide HY).below hb1)
      obtain ⟨c0, c1, c2, c3, c4⟩ := (unhide HX1).facts
      obtain ⟨d0, d1, d2, d3, d4⟩ := (unhide HY1).facts
      have g0 := (unhide HY1).free 0
      have g1 := (unhide HY1).free 1
      have g2 := (unhide HY1).free 2
      have g3 := (unhide HY1).free 3
      have g4 := (unhide HY1).free 4
      clear hb1
      go_wp2_with fail
      rw [(unhide HN).1, (unhide HN).2.1, (unhide HN).2.2]
      refine bodyPost_ret (v := .tuple #[.agg #[.string d, .int .i64 b, .int .i64 s, .int .i64 t, .int .i64 n], .bool false]) (by simp [results, Try.results21, go_sem, d0, d1, d2, d3, d4]) rfl ⟨rfl, ?_⟩
      repeat refine setB ?_ (by omega)
      exact unhide HB1

end Go.Proofs.Ytfbillhfbdconaa
