
/- The walk of impl.LetterTry and of its method that turns the letter where it stands. -/
import Derived.Test.YtfbillhfbdconaaYt
namespace Go.Proofs.Ytfbillhfbdconaa
open Go.RowKit Go.Deep

set_option maxRecDepth 100000 in
set_option maxHeartbeats 2000000 in
theorem tryP (d : ByteArray) (b s t n : Int) (now : Int) (p : Nat) (w : World) (hd : d.size ≤ 2097152) (hr : RowL 44 w p d b s t n) :
    Calls Try.prog 37 #[.pointer (some ⟨p, 0, none⟩), .int .i64 now] w fun e w' => e = .returned (.bool (tryB d b s t n now)) ∧ RowL 44 w' p d b s (tryT d b s t n now) (tryN d b s t n now) ∧ Below p w w' := by
  have HX := hide hr
  have hL := hide (fun v => okI d b s t n v hd)
  have hI := hide (fun v => inTime now v)
  have hD := hide (fun v hv => dueI d b s t n now p v hv)
  obtain ⟨c0, c1, c2, c3, c4⟩ := hr.facts
  clear hr hd
  cases h0 : letB d b s t n with
  | false =>
    have HN := hide (try_no (d := d) (b := b) (s := s) (t := t) (n := n) (now := now) fun h => by rw [(tryB_iff.1 h).1] at h0; cases h0)
    rw [h0] at hL
    clear h0
    go_enter Try.func37, Try.ntmps37
    go_wp2_with fail
    refine (unhide hL _).mono ?_
    rintro e w1 ⟨rfl, hb1⟩
    have HB1 := hide (hb1.mono (Nat.le_of_lt (unhide HX).lt))
    have HX1 := hide ((unhide HX).below hb1)
    obtain ⟨c0, c1, c2, c3, c4⟩ := (unhide HX1).facts
    have x3 := (unhide HX1).free 3
    have x4 := (unhide HX1).free 4
    clear hb1
    go_wp2_with fail
    rw [(unhide HN).1, (unhide HN).2.1, (unhide HN).2.2]
    go_ret
    exact ⟨rfl, unhide HX1, unhide HB1⟩
  | true =>
    rw [h0] at hL
    obtain ⟨-, -, -, ht, hn⟩ := letB_iff.1 h0
    by_cases h1 : 0 ≤ now ∧ now ≤ 100000
    · rw [show decide (0 ≤ now ∧ now ≤ 100000) = true from decide_eq_true h1] at hI
      by_cases h2 : s = 1 ∧ n ≤ now
      · rw [show decide (s = 1 ∧ n ≤ now) = true from decide_eq_true h2] at hD
        by_cases h3 : t = 4
        · have HN := hide (try_no (d := d) (b := b) (s := s) (t := t) (n := n) (now := now) fun h => (tryB_iff.1 h).2.2.2.2 h3)
          subst h3
          clear h0 h1 h2 ht hn
          go_enter Try.func37, Try.ntmps37
          go_wp2_with fail
          refine (unhide hL _).mono ?_
          rintro e w1 ⟨rfl, hb1⟩
          have HB1 := hide (hb1.mono (Nat.le_of_lt (unhide HX).lt))
          have HX1 := hide ((unhide HX).below hb1)
          obtain ⟨c0, c1, c2, c3, c4⟩ := (unhide HX1).facts
          have x3 := (unhide HX1).free 3
          have x4 := (unhide HX1).free 4
          clear hb1
          go_wp2_with fail
          refine (unhide hI _).mono ?_
          rintro e w2 ⟨rfl, rfl⟩
          go_wp2_with fail
          refine (unhide hD _ (unhide HX1)).mono ?_
          rintro e w3 ⟨rfl, rfl⟩
          go_wp2_with fail
          rw [(unhide HN).1, (unhide HN).2.1, (unhide HN).2.2]
          go_ret
          exact ⟨rfl, unhide HX1, unhide HB1⟩
        · have HTB := hide (tryB_iff.2 ⟨h0, h2.1, h2.2, h1.2, h3⟩)
          have HT := hide (try_yes (unhide HTB))
          obtain ⟨rfl, -⟩ := h2
          clear h0
          rcases (by omega : t = 0 ∨ t = 1 ∨ t = 2 ∨ t = 3) with rfl | rfl | rfl | rfl
          · by_cases h4 : (100000 : Int) < now + 20
            · have q1 : wrap64 (now + 20) = now + 20 := by unfold wrap64; omega
              have HQ : Hid (tryT d b 1 0 n now = 1 ∧ tryN d b 1 0 n now = 100000) := by
                refine ⟨(unhide HT).1, ?_⟩
                rw [(unhide HT).2, show pauseZ 0 = 20 from rfl, if_pos h4]
              clear h1 h3 ht hn HT
              go_enter Try.func37, Try.ntmps37
              go_wp2_with fail
              refine (unhide hL _).mono ?_
              rintro e w1 ⟨rfl, hb1⟩
              have HB1 := hide (hb1.mono (Nat.le_of_lt (unhide HX).lt))
              have HX1 := hide ((unhide HX).below hb1)
              obtain ⟨c0, c1, c2, c3, c4⟩ := (unhide HX1).facts
              have x3 := (unhide HX1).free 3
              have x4 := (unhide HX1).free 4
              clear hb1
              go_wp2_with fail
              refine (unhide hI _).mono ?_
              rintro e w2 ⟨rfl, rfl⟩
              go_wp2_with fail
              refine (unhide hD _ (unhide HX1)).mono ?_
              rintro e w3 ⟨rfl, rfl⟩
              go_wp2_with fail
              rw [unhide HTB, (unhide HQ).1, (unhide HQ).2]
              go_ret
              refine ⟨rfl, ?_, setB (setB (unhide HB1) (Nat.le_refl _)) (Nat.le_refl _)⟩
              rw [show min (now + 20) 100000 = 100000 by omega]
              exact ((unhide HX1).set3 _).set4 _
            · have q1 : wrap64 (now + 20) = now + 20 := by unfold wrap64; omega
              have HQ : Hid (tryT d b 1 0 n now = 1 ∧ tryN d b 1 0 n now = now + 20) := by
                refine ⟨(unhide HT).1, ?_⟩
                rw [(unhide HT).2, show pauseZ 0 = 20 from rfl, if_neg h4]
              clear h1 h3 ht hn HT
              go_enter Try.func37, Try.ntmps37
              go_wp2_with fail
              refine (unhide hL _).mono ?_
              rintro e w1 ⟨rfl, hb1⟩
              have HB1 := hide (hb1.mono (Nat.le_of_lt (unhide HX).lt))
              have HX1 := hide ((unhide HX).below hb1)
              obtain ⟨c0, c1, c2, c3, c4⟩ := (unhide HX1).facts
              have x3 := (unhide HX1).free 3
              have x4 := (unhide HX1).free 4
              clear hb1
              go_wp2_with fail
              refine (unhide hI _).mono ?_
              rintro e w2 ⟨rfl, rfl⟩
              go_wp2_with fail
              refine (unhide hD _ (unhide HX1)).mono ?_
              rintro e w3 ⟨rfl, rfl⟩
              go_wp2_with fail
              rw [unhide HTB, (unhide HQ).1, (unhide HQ).2]
              go_ret
              refine ⟨rfl, ?_, setB (setB (unhide HB1) (Nat.le_refl _)) (Nat.le_refl _)⟩
              rw [show min (now + 20) 100000 = now + 20 by omega]
              exact ((unhide HX1).set3 _).set4 _
          · by_cases h4 : (100000 : Int) < now + 40
            · have q1 : wrap64 (now + 40) = now + 40 := by unfold wrap64; omega
              have HQ : Hid (tryT d b 1 1 n now = 2 ∧ tryN d b 1 1 n now = 100000) := by
                refine ⟨(unhide HT).1, ?_⟩
                rw [(unhide HT).2, show pauseZ 1 = 40 from rfl, if_pos h4]
              clear h1 h3 ht hn HT
              go_enter Try.func37, Try.ntmps37
              go_wp2_with fail
              refine (unhide hL _).mono ?_
              rintro e w1 ⟨rfl, hb1⟩
              have HB1 := hide (hb1.mono (Nat.le_of_lt (unhide HX).lt))
              have HX1 := hide ((unhide HX).below hb1)
              obtain ⟨c0, c1, c2, c3, c4⟩ := (unhide HX1).facts
              have x3 := (unhide HX1).free 3
              have x4 := (unhide HX1).free 4
              clear hb1
              go_wp2_with fail
              refine (unhide hI _).mono ?_
              rintro e w2 ⟨rfl, rfl⟩
              go_wp2_with fail
              refine (unhide hD _ (unhide HX1)).mono ?_
              rintro e w3 ⟨rfl, rfl⟩
              go_wp2_with fail
              rw [unhide HTB, (unhide HQ).1, (unhide HQ).2]
              go_ret
              refine ⟨rfl, ?_, setB (setB (unhide HB1) (Nat.le_refl _)) (Nat.le_refl _)⟩
              rw [show min (now + 40) 100000 = 100000 by omega]
              exact ((unhide HX1).set3 _).set4 _
            · have q1 : wrap64 (now + 40) = now + 40 := by unfold wrap64; omega
              have HQ : Hid (tryT d b 1 1 n now = 2 ∧ tryN d b 1 1 n now = now + 40) := by
                refine ⟨(unhide HT).1, ?_⟩
                rw [(unhide HT).2, show pauseZ 1 = 40 from rfl, if_neg h4]
              clear h1 h3 ht hn HT
              go_enter Try.func37, Try.ntmps37
              go_wp2_with fail
              refine (unhide hL _).mono ?_
              rintro e w1 ⟨rfl, hb1⟩
              have HB1 := hide (hb1.mono (Nat.le_of_lt (unhide HX).lt))
              have HX1 := hide ((unhide HX).below hb1)
              obtain ⟨c0, c1, c2, c3, c4⟩ := (unhide HX1).facts
              have x3 := (unhide HX1).free 3
              have x4 := (unhide HX1).free 4
              clear hb1
              go_wp2_with fail
              refine (unhide hI _).mono ?_
              rintro e w2 ⟨rfl, rfl⟩
              go_wp2_with fail
              refine (unhide hD _ (unhide HX1)).mono ?_
              rintro e w3 ⟨rfl, rfl⟩
              go_wp2_with fail
              rw [unhide HTB, (unhide HQ).1, (unhide HQ).2]
              go_ret
              refine ⟨rfl, ?_, setB (setB (unhide HB1) (Nat.le_refl _)) (Nat.le_refl _)⟩
              rw [show min (now + 40) 100000 = now + 40 by omega]
              exact ((unhide HX1).set3 _).set4 _
          · by_cases h4 : (100000 : Int) < now + 80
            · have q1 : wrap64 (now + 80) = now + 80 := by unfold wrap64; omega
              have HQ : Hid (tryT d b 1 2 n now = 3 ∧ tryN d b 1 2 n now = 100000) := by
                refine ⟨(unhide HT).1, ?_⟩
                rw [(unhide HT).2, show pauseZ 2 = 80 from rfl, if_pos h4]
              clear h1 h3 ht hn HT
              go_enter Try.func37, Try.ntmps37
              go_wp2_with fail
              refine (unhide hL _).mono ?_
              rintro e w1 ⟨rfl, hb1⟩
              have HB1 := hide (hb1.mono (Nat.le_of_lt (unhide HX).lt))
              have HX1 := hide ((unhide HX).below hb1)
              obtain ⟨c0, c1, c2, c3, c4⟩ := (unhide HX1).facts
              have x3 := (unhide HX1).free 3
              have x4 := (unhide HX1).free 4
              clear hb1
              go_wp2_with fail
              refine (unhide hI _).mono ?_
              rintro e w2 ⟨rfl, rfl⟩
              go_wp2_with fail
              refine (unhide hD _ (unhide HX1)).mono ?_
              rintro e w3 ⟨rfl, rfl⟩
              go_wp2_with fail
              rw [unhide HTB, (unhide HQ).1, (unhide HQ).2]
              go_ret
              refine ⟨rfl, ?_, setB (setB (unhide HB1) (Nat.le_refl _)) (Nat.le_refl _)⟩
              rw [show min (now + 80) 100000 = 100000 by omega]
              exact ((unhide HX1).set3 _).set4 _
            · have q1 : wrap64 (now + 80) = now + 80 := by unfold wrap64; omega
              have HQ : Hid (tryT d b 1 2 n now = 3 ∧ tryN d b 1 2 n now = now + 80) := by
                refine ⟨(unhide HT).1, ?_⟩
                rw [(unhide HT).2, show pauseZ 2 = 80 from rfl, if_neg h4]
              clear h1 h3 ht hn HT
              go_enter Try.func37, Try.ntmps37
              go_wp2_with fail
              refine (unhide hL _).mono ?_
              rintro e w1 ⟨rfl, hb1⟩
              have HB1 := hide (hb1.mono (Nat.le_of_lt (unhide HX).lt))
              have HX1 := hide ((unhide HX).below hb1)
              obtain ⟨c0, c1, c2, c3, c4⟩ := (unhide HX1).facts
              have x3 := (unhide HX1).free 3
              have x4 := (unhide HX1).free 4
              clear hb1
              go_wp2_with fail
              refine (unhide hI _).mono ?_
              rintro e w2 ⟨rfl, rfl⟩
              go_wp2_with fail
              refine (unhide hD _ (unhide HX1)).mono ?_
              rintro e w3 ⟨rfl, rfl⟩
              go_wp2_with fail
              rw [unhide HTB, (unhide HQ).1, (unhide HQ).2]
              go_ret
              refine ⟨rfl, ?_, setB (setB (unhide HB1) (Nat.le_refl _)) (Nat.le_refl _)⟩
              rw [show min (now + 80) 100000 = now + 80 by omega]
              exact ((unhide HX1).set3 _).set4 _
          · by_cases h4 : (100000 : Int) < now + 160
            · have q1 : wrap64 (now + 160) = now + 160 := by unfold wrap64; omega
              have HQ : Hid (tryT d b 1 3 n now = 4 ∧ tryN d b 1 3 n now = 100000) := by
                refine ⟨(unhide HT).1, ?_⟩
                rw [(unhide HT).2, show pauseZ 3 = 160 from rfl, if_pos h4]
              clear h1 h3 ht hn HT
              go_enter Try.func37, Try.ntmps37
              go_wp2_with fail
              refine (unhide hL _).mono ?_
              rintro e w1 ⟨rfl, hb1⟩
              have HB1 := hide (hb1.mono (Nat.le_of_lt (unhide HX).lt))
              have HX1 := hide ((unhide HX).below hb1)
              obtain ⟨c0, c1, c2, c3, c4⟩ := (unhide HX1).facts
              have x3 := (unhide HX1).free 3
              have x4 := (unhide HX1).free 4
              clear hb1
              go_wp2_with fail
              refine (unhide hI _).mono ?_
              rintro e w2 ⟨rfl, rfl⟩
              go_wp2_with fail
              refine (unhide hD _ (unhide HX1)).mono ?_
              rintro e w3 ⟨rfl, rfl⟩
              go_wp2_with fail
              rw [unhide HTB, (unhide HQ).1, (unhide HQ).2]
              go_ret
              refine ⟨rfl, ?_, setB (setB (unhide HB1) (Nat.le_refl _)) (Nat.le_refl _)⟩
              rw [show min (now + 160) 100000 = 100000 by omega]
              exact ((unhide HX1).set3 _).set4 _
            · have q1 : wrap64 (now + 160) = now + 160 := by unfold wrap64; omega
              have HQ : Hid (tryT d b 1 3 n now = 4 ∧ tryN d b 1 3 n now = now + 160) := by
                refine ⟨(unhide HT).1, ?_⟩
                rw [(unhide HT).2, show pauseZ 3 = 160 from rfl, if_neg h4]
              clear h1 h3 ht hn HT
              go_enter Try.func37, Try.ntmps37
              go_wp2_with fail
              refine (unhide hL _).mono ?_
              rintro e w1 ⟨rfl, hb1⟩
              have HB1 := hide (hb1.mono (Nat.le_of_lt (unhide HX).lt))
              have HX1 := hide ((unhide HX).below hb1)
              obtain ⟨c0, c1, c2, c3, c4⟩ := (unhide HX1).facts
              have x3 := (unhide HX1).free 3
              have x4 := (unhide HX1).free 4
              clear hb1
              go_wp2_with fail
              refine (unhide hI _).mono ?_
              rintro e w2 ⟨rfl, rfl⟩
              go_wp2_with fail
              refine (unhide hD _ (unhide HX1)).mono ?_
              rintro e w3 ⟨rfl, rfl⟩
              go_wp2_with fail
              rw [unhide HTB, (unhide HQ).1, (unhide HQ).2]
              go_ret
              refine ⟨rfl, ?_, setB (setB (unhide HB1) (Nat.le_refl _)) (Nat.le_refl _)⟩
              rw [show min (now + 160) 100000 = now + 160 by omega]
              exact ((unhide HX1).set3 _).set4 _
      · rw [show decide (s = 1 ∧ n ≤ now) = false from decide_eq_false h2] at hD
        have HN := hide (try_no (d := d) (b := b) (s := s) (t := t) (n := n) (now := now) fun h => h2 ⟨(tryB_iff.1 h).2.1, (tryB_iff.1 h).2.2.1⟩)
        clear h0 h1 h2 ht hn
        go_enter Try.func37, Try.ntmps37
        go_wp2_with fail
        refine (unhide hL _).mono ?_
        rintro e w1 ⟨rfl, hb1⟩
        have HB1 := hide (hb1.mono (Nat.le_of_lt (unhide HX).lt))
        have HX1 := hide ((unhide HX).below hb1)
        obtain ⟨c0, c1, c2, c3, c4⟩ := (unhide HX1).facts
        have x3 := (unhide HX1).free 3
        have x4 := (unhide HX1).free 4
        clear hb1
        go_wp2_with fail
        refine (unhide hI _).mono ?_
        rintro e w2 ⟨rfl, rfl⟩
        go_wp2_with fail
        refine (unhide hD _ (unhide HX1)).mono ?_
        rintro e w3 ⟨rfl, rfl⟩
        go_wp2_with fail
        rw [(unhide HN).1, (unhide HN).2.1, (unhide HN).2.2]
        go_ret
        exact ⟨rfl, unhide HX1, unhide HB1⟩
    · rw [show decide (0 ≤ now ∧ now ≤ 100000) = false from decide_eq_false h1] at hI
      have HN := hide (try_no (d := d) (b := b) (s := s) (t := t) (n := n) (now := now) fun h => h1 (by have := (tryB_iff.1 h).2; omega))
      clear h0 h1 ht hn
      go_enter Try.func37, Try.ntmps37
      go_wp2_with fail
      refine (unhide hL _).mono ?_
      rintro e w1 ⟨rfl, hb1⟩
      have HB1 := hide (hb1.mono (Nat.le_of_lt (unhide HX).lt))
      have HX1 := hide ((unhide HX).below hb1)
      obtain ⟨c0, c1, c2, c3, c4⟩ := (unhide HX1).facts
      have x3 := (unhide HX1).free 3
      have x4 := (unhide HX1).free 4
      clear hb1
      go_wp2_with fail
      refine (unhide hI _).mono ?_
      rintro e w2 ⟨rfl, rfl⟩
      go_wp2_with fail
      rw [(unhide HN).1, (unhide HN).2.1, (unhide HN).2.2]
      go_ret
      exact ⟨rfl, unhide HX1, unhide HB1⟩

set_option maxRecDepth 100000 in
set_option maxHeartbeats 2000000 in
theorem tryI (d : ByteArray) (b s t n : Int) (now : Int) (w : World) (hd : d.size ≤ 2097152) :
    Calls Try.prog 34 #[.agg #[.string d, .int .i64 b, .int .i64 s, .int .i64 t, .int .i64 n], .int .i64 now] w fun e w' => e = .returned (.tuple #[.agg #[.string d, .int .i64 b, .int .i64 s, .int .i64 (tryT d b s t n now), .int .i64 (tryN d b s t n now)], .bool (tryB d b s t n now)]) ∧ Below w.heap.size w w' := by
  have HB0 := hide (btP (abP (w := w) (.cells #[.string d, .int .i64 b, .int .i64 s, .int .i64 t, .int .i64 n] 44)) (abP (.cells #[.string ⟨#[]⟩, .int .i64 0, .int .i64 0, .int .i64 0, .int .i64 0] 44)))
  have HX := hide ((RowL.new 44 w d b s t n).below (abP (.cells #[.string ⟨#[]⟩, .int .i64 0, .int .i64 0, .int .i64 0, .int .i64 0] 44)))
  have HY : Hid (RowL 44 ((w.alloc (.cells #[.string d, .int .i64 b, .int .i64 s, .int .i64 t, .int .i64 n] 44)).alloc (.cells #[.string ⟨#[]⟩, .int .i64 0, .int .i64 0, .int .i64 0, .int .i64 0] 44)) (w.heap.size + 1) ⟨#[]⟩ 0 0 0 0) := by
    have := RowL.new 44 (w.alloc (.cells #[.string d, .int .i64 b, .int .i64 s, .int .i64 t, .int .i64 n] 44)) ⟨#[]⟩ 0 0 0 0
    rwa [heap_size_alloc] at this
  have hO := hide (fun v => ownI d b s t n v hd)
  have hT := hide (fun p v hv => tryP d b s t n now p v hd hv)
  clear hd
  generalize tryB d b s t n now = tb at *
  generalize tryT d b s t n now = tt at *
  generalize tryN d b s t n now = tn at *
  go_enter Try.func34, Try.ntmps34
  go_wp2_with fail
  refine (unhide hO _).mono ?_
  rintro e w2 ⟨rfl, hr2, hb2⟩
  simp only [heap_size_alloc] at hr2
  have HR2 := hide hr2
  have HB2 := hide (btP (unhide HB0) hb2)
  have HY2 := hide ((unhide HY).below hb2)
  clear hr2 hb2
  go_wp2_with fail
  refine (unhide hT _ _ (unhide HR2)).mono ?_
  rintro e w1 ⟨rfl, hr1, hb1⟩
  have HR1 := hide hr1
  have HB1 : Hid (Below w.heap.size w w1) := (unhide HB2).trans (hb1.mono (by omega))
  have HX1 := HR1
  have HY1 := hide ((unhide HY2).under hb1 (by omega))
  obtain ⟨c0, c1, c2, c3, c4⟩ := (unhide HX1).facts
  obtain ⟨d0, d1, d2, d3, d4⟩ := (unhide HY1).facts
  have g0 := (unhide HY1).free 0
  have g1 := (unhide HY1).free 1
  have g2 := (unhide HY1).free 2
  have g3 := (unhide HY1).free 3
  have g4 := (unhide HY1).free 4
  clear hr1 hb1
  go_wp2_with fail
  refine bodyPost_ret (v := .tuple #[.agg #[.string d, .int .i64 b, .int .i64 s, .int .i64 tt, .int .i64 tn], .bool tb]) (by simp [results, Try.results34, go_sem, d0, d1, d2, d3, d4]) rfl ⟨rfl, ?_⟩
  repeat refine setB ?_ (by omega)
  exact unhide HB1

end Go.Proofs.Ytfbillhfbdconaa
