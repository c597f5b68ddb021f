
/- Right letters, and the walks of spec.LetterOk, impl.LetterOk and its small pieces; nothing that was there is written. -/
import Derived.Test.YtfbillhfbdconaaYr
namespace Go.Proofs.Ytfbillhfbdconaa
open Go.RowKit Go.Deep

theorem isAtomL (x : Int) (w : World) : Calls Try.prog 29 #[.int .i64 x] w fun e w' => e = .returned (.bool (decide (0 ≤ x ∧ x ≤ 1000000))) ∧ w' = w := by
  by_cases h1 : 0 ≤ x
  · by_cases h2 : x ≤ 1000000
    · rw [show decide (0 ≤ x ∧ x ≤ 1000000) = true from decide_eq_true ⟨h1, h2⟩]
      go_enter Try.func29, Try.ntmps29
      go_wp2_with fail
      go_ret
      exact ⟨retB (by simp), rfl⟩
    · rw [show decide (0 ≤ x ∧ x ≤ 1000000) = false from decide_eq_false (by omega)]
      go_enter Try.func29, Try.ntmps29
      go_wp2_with fail
      go_ret
      exact ⟨retB (by simp), rfl⟩
  · rw [show decide (0 ≤ x ∧ x ≤ 1000000) = false from decide_eq_false (by omega)]
    go_enter Try.func29, Try.ntmps29
    go_wp2_with fail
    go_ret
    exact ⟨rfl, rfl⟩

set_option maxRecDepth 100000 in
theorem stateI (d : ByteArray) (b s t n : Int) (p : Nat) (w : World) (hr : RowL 44 w p d b s t n) : Calls Try.prog 42 #[.pointer (some ⟨p, 0, none⟩)] w fun e w' => e = .returned (.bool (decide (1 ≤ s ∧ s ≤ 3))) ∧ w' = w := by
  obtain ⟨c0, c1, c2, c3, c4⟩ := hr.facts
  clear hr
  by_cases h1 : 1 ≤ s
  · by_cases h2 : s ≤ 3
    · rw [show decide (1 ≤ s ∧ s ≤ 3) = true from decide_eq_true ⟨h1, h2⟩]
      go_enter Try.func42, Try.ntmps42
      go_wp2_with fail
      go_ret
      exact ⟨retB (by simp), rfl⟩
    · rw [show decide (1 ≤ s ∧ s ≤ 3) = false from decide_eq_false (by omega)]
      go_enter Try.func42, Try.ntmps42
      go_wp2_with fail
      go_ret
      exact ⟨retB (by simp), rfl⟩
  · rw [show decide (1 ≤ s ∧ s ≤ 3) = false from decide_eq_false (by omega)]
    go_enter Try.func42, Try.ntmps42
    go_wp2_with fail
    go_ret
    exact ⟨rfl, rfl⟩

set_option maxRecDepth 100000 in
theorem triesI (d : ByteArray) (b s t n : Int) (p : Nat) (w : World) (hr : RowL 44 w p d b s t n) : Calls Try.prog 43 #[.pointer (some ⟨p, 0, none⟩)] w fun e w' => e = .returned (.bool (decide (0 ≤ t ∧ t ≤ 4))) ∧ w' = w := by
  obtain ⟨c0, c1, c2, c3, c4⟩ := hr.facts
  clear hr
  by_cases h1 : 0 ≤ t
  · by_cases h2 : t ≤ 4
    · rw [show decide (0 ≤ t ∧ t ≤ 4) = true from decide_eq_true ⟨h1, h2⟩]
      go_enter Try.func43, Try.ntmps43
      go_wp2_with fail
      go_ret
      exact ⟨retB (by simp), rfl⟩
    · rw [show decide (0 ≤ t ∧ t ≤ 4) = false from decide_eq_false (by omega)]
      go_enter Try.func43, Try.ntmps43
      go_wp2_with fail
      go_ret
      exact ⟨retB (by simp), rfl⟩
  · rw [show decide (0 ≤ t ∧ t ≤ 4) = false from decide_eq_false (by omega)]
    go_enter Try.func43, Try.ntmps43
    go_wp2_with fail
    go_ret
    exact ⟨rfl, rfl⟩

/-- A right letter. -/
noncomputable def letB (d : ByteArray) (b s t n : Int) : Bool := domB d && (decide (0 ≤ b ∧ b ≤ 1000000) && (decide (1 ≤ s ∧ s ≤ 3) && (decide (0 ≤ t ∧ t ≤ 4) && decide (0 ≤ n ∧ n ≤ 100000))))
theorem letB_iff {d : ByteArray} {b s t n : Int} : letB d b s t n = true ↔ domB d = true ∧ (0 ≤ b ∧ b ≤ 1000000) ∧ (1 ≤ s ∧ s ≤ 3) ∧ (0 ≤ t ∧ t ≤ 4) ∧ (0 ≤ n ∧ n ≤ 100000) := by
  unfold letB
  rw [Bool.and_eq_true, Bool.and_eq_true, Bool.and_eq_true, Bool.and_eq_true, decide_eq_true_iff, decide_eq_true_iff, decide_eq_true_iff, decide_eq_true_iff]

set_option maxRecDepth 100000 in
set_option maxHeartbeats 2000000 in
theorem okS (d : ByteArray) (b s t n : Int) (w : World) (hd : d.size ≤ 2097152) :
    Calls Try.prog 31 #[.agg #[.string d, .int .i64 b, .int .i64 s, .int .i64 t, .int .i64 n]] w fun e w' => e = .returned (.bool (letB d b s t n)) ∧ Below w.heap.size w w' := by
  have HB0 := hide (abP (w := w) (.cells #[.string d, .int .i64 b, .int .i64 s, .int .i64 t, .int .i64 n] 44))
  have HX := hide (RowL.new 44 w d b s t n)
  have hD := hide (fun v => domS d v hd)
  have hc0 := hide (fun v => inS b 0 1000000 v)
  have hc1 := hide (fun v => inS s 1 3 v)
  have hc2 := hide (fun v => inS t 0 4 v)
  have hc3 := hide (fun v => inS n 0 100000 v)
  clear hd
  cases h0 : domB d with
  | false =>
    have HE : Hid (letB d b s t n = false) := by show _ = _; unfold letB; rw [h0]; rfl
    rw [h0] at hD
    clear h0
    go_enter Try.func31, Try.ntmps31
    go_wp2_with fail
    refine (unhide hD _).mono ?_
    rintro e w1 ⟨rfl, rfl⟩
    have HB1 := HB0
    have HX1 := HX
    obtain ⟨c0, c1, c2, c3, c4⟩ := (unhide HX1).facts
    go_wp2_with fail
    go_ret
    exact ⟨retB (unhide HE), unhide HB1⟩
  | true =>
    rw [h0] at hD
    cases h1 : decide (0 ≤ b ∧ b ≤ 1000000) with
    | false =>
      have HE : Hid (letB d b s t n = false) := by show _ = _; unfold letB; rw [h0, h1]; rfl
      rw [h1] at hc0
      clear h0 h1
      go_enter Try.func31, Try.ntmps31
      go_wp2_with fail
      refine (unhide hD _).mono ?_
      rintro e w1 ⟨rfl, rfl⟩
      have HB1 := HB0
      have HX1 := HX
      obtain ⟨c0, c1, c2, c3, c4⟩ := (unhide HX1).facts
      go_wp2_with fail
      refine (unhide hc0 _).mono ?_
      rintro e v0 ⟨rfl, rfl⟩
      go_wp2_with fail
      go_ret
      exact ⟨retB (unhide HE), unhide HB1⟩
    | true =>
      rw [h1] at hc0
      cases h2 : decide (1 ≤ s ∧ s ≤ 3) with
      | false =>
        have HE : Hid (letB d b s t n = false) := by show _ = _; unfold letB; rw [h0, h1, h2]; rfl
        rw [h2] at hc1
        clear h0 h1 h2
        go_enter Try.func31, Try.ntmps31
        go_wp2_with fail
        refine (unhide hD _).mono ?_
        rintro e w1 ⟨rfl, rfl⟩
        have HB1 := HB0
        have HX1 := HX
        obtain ⟨c0, c1, c2, c3, c4⟩ := (unhide HX1).facts
        go_wp2_with fail
        refine (unhide hc0 _).mono ?_
        rintro e v0 ⟨rfl, rfl⟩
        go_wp2_with fail
        refine (unhide hc1 _).mono ?_
        rintro e v1 ⟨rfl, rfl⟩
        go_wp2_with fail
        go_ret
        exact ⟨retB (unhide HE), unhide HB1⟩
      | true =>
        rw [h2] at hc1
        cases h3 : decide (0 ≤ t ∧ t ≤ 4) with
        | false =>
          have HE : Hid (letB d b s t n = false) := by show _ = _; unfold letB; rw [h0, h1, h2, h3]; rfl
          rw [h3] at hc2
          clear h0 h1 h2 h3
          go_enter Try.func31, Try.ntmps31
          go_wp2_with fail
          refine (unhide hD _).mono ?_
          rintro e w1 ⟨rfl, rfl⟩
          have HB1 := HB0
          have HX1 := HX
          obtain ⟨c0, c1, c2, c3, c4⟩ := (unhide HX1).facts
          go_wp2_with fail
          refine (unhide hc0 _).mono ?_
          rintro e v0 ⟨rfl, rfl⟩
          go_wp2_with fail
          refine (unhide hc1 _).mono ?_
          rintro e v1 ⟨rfl, rfl⟩
          go_wp2_with fail
          refine (unhide hc2 _).mono ?_
          rintro e v2 ⟨rfl, rfl⟩
          go_wp2_with fail
          go_ret
          exact ⟨retB (unhide HE), unhide HB1⟩
        | true =>
          rw [h3] at hc2
          have HE : Hid (letB d b s t n = decide (0 ≤ n ∧ n ≤ 100000)) := by show _ = _; unfold letB; rw [h0, h1, h2, h3]; rfl
          clear h0 h1 h2 h3
          generalize decide (0 ≤ n ∧ n ≤ 100000) = B4 at *
          go_enter Try.func31, Try.ntmps31
          go_wp2_with fail
          refine (unhide hD _).mono ?_
          rintro e w1 ⟨rfl, rfl⟩
          have HB1 := HB0
          have HX1 := HX
          obtain ⟨c0, c1, c2, c3, c4⟩ := (unhide HX1).facts
          go_wp2_with fail
          refine (unhide hc0 _).mono ?_
          rintro e v0 ⟨rfl, rfl⟩
          go_wp2_with fail
          refine (unhide hc1 _).mono ?_
          rintro e v1 ⟨rfl, rfl⟩
          go_wp2_with fail
          refine (unhide hc2 _).mono ?_
          rintro e v2 ⟨rfl, rfl⟩
          go_wp2_with fail
          refine (unhide hc3 _).mono ?_
          rintro e v3 ⟨rfl, rfl⟩
          go_wp2_with fail
          go_ret
          exact ⟨retB (unhide HE), unhide HB1⟩

set_option maxRecDepth 100000 in
set_option maxHeartbeats 2000000 in
theorem okI (d : ByteArray) (b s t n : Int) (w : World) (hd : d.size ≤ 2097152) :
    Calls Try.prog 39 #[.agg #[.string d, .int .i64 b, .int .i64 s, .int .i64 t, .int .i64 n]] w fun e w' => e = .returned (.bool (letB d b s t n)) ∧ Below w.heap.size w w' := by
  have HB0 := hide (abP (w := w) (.cells #[.string d, .int .i64 b, .int .i64 s, .int .i64 t, .int .i64 n] 44))
  have HX := hide (RowL.new 44 w d b s t n)
  have hD := hide (fun v => domI d v hd)
  have hc0 := hide (fun v => isAtomL b v)
  have hc1 := hide (fun v (hv : RowL 44 v w.heap.size d b s t n) => stateI d b s t n w.heap.size v hv)
  have hc2 := hide (fun v (hv : RowL 44 v w.heap.size d b s t n) => triesI d b s t n w.heap.size v hv)
  have hc3 := hide (fun v => inTime n v)
  clear hd
  cases h0 : domB d with
  | false =>
    have HE : Hid (letB d b s t n = false) := by show _ = _; unfold letB; rw [h0]; rfl
    rw [h0] at hD
    clear h0
    go_enter Try.func39, Try.ntmps39
    go_wp2_with fail
    refine (unhide hD _).mono ?_
    rintro e w1 ⟨rfl, hb1⟩
    have HB1 := hide (btP (unhide HB0) hb1)
    have HX1 := hide ((unhide HX).below hb1)
    obtain ⟨c0, c1, c2, c3, c4⟩ := (unhide HX1).facts
    clear hb1
    go_wp2_with fail
    go_ret
    exact ⟨retB (unhide HE), unhide HB1⟩
  | true =>
    rw [h0] at hD
    cases h1 : decide (0 ≤ b ∧ b ≤ 1000000) with
    | false =>
      have HE : Hid (letB d b s t n = false) := by show _ = _; unfold letB; rw [h0, h1]; rfl
      rw [h1] at hc0
      clear h0 h1
      go_enter Try.func39, Try.ntmps39
      go_wp2_with fail
      refine (unhide hD _).mono ?_
      rintro e w1 ⟨rfl, hb1⟩
      have HB1 := hide (btP (unhide HB0) hb1)
      have HX1 := hide ((unhide HX).below hb1)
      obtain ⟨c0, c1, c2, c3, c4⟩ := (unhide HX1).facts
      clear hb1
      go_wp2_with fail
      refine (unhide hc0 _).mono ?_
      rintro e v0 ⟨rfl, rfl⟩
      go_wp2_with fail
      go_ret
      exact ⟨retB (unhide HE), unhide HB1⟩
    | true =>
      rw [h1] at hc0
      cases h2 : decide (1 ≤ s ∧ s ≤ 3) with
      | false =>
        have HE : Hid (letB d b s t n = false) := by show _ = _; unfold letB; rw [h0, h1, h2]; rfl
        rw [h2] at hc1
        clear h0 h1 h2
        go_enter Try.func39, Try.ntmps39
        go_wp2_with fail
        refine (unhide hD _).mono ?_
        rintro e w1 ⟨rfl, hb1⟩
        have HB1 := hide (btP (unhide HB0) hb1)
        have HX1 := hide ((unhide HX).below hb1)
        obtain ⟨c0, c1, c2, c3, c4⟩ := (unhide HX1).facts
        clear hb1
        go_wp2_with fail
        refine (unhide hc0 _).mono ?_
        rintro e v0 ⟨rfl, rfl⟩
        go_wp2_with fail
        refine (unhide hc1 _ (unhide HX1)).mono ?_
        rintro e v1 ⟨rfl, rfl⟩
        go_wp2_with fail
        go_ret
        exact ⟨retB (unhide HE), unhide HB1⟩
      | true =>
        rw [h2] at hc1
        cases h3 : decide (0 ≤ t ∧ t ≤ 4) with
        | false =>
          have HE : Hid (letB d b s t n = false) := by show _ = _; unfold letB; rw [h0, h1, h2, h3]; rfl
          rw [h3] at hc2
          clear h0 h1 h2 h3
          go_enter Try.func39, Try.ntmps39
          go_wp2_with fail
          refine (unhide hD _).mono ?_
          rintro e w1 ⟨rfl, hb1⟩
          have HB1 := hide (btP (unhide HB0) hb1)
          have HX1 := hide ((unhide HX).below hb1)
          obtain ⟨c0, c1, c2, c3, c4⟩ := (unhide HX1).facts
          clear hb1
          go_wp2_with fail
          refine (unhide hc0 _).mono ?_
          rintro e v0 ⟨rfl, rfl⟩
          go_wp2_with fail
          refine (unhide hc1 _ (unhide HX1)).mono ?_
          rintro e v1 ⟨rfl, rfl⟩
          go_wp2_with fail
          refine (unhide hc2 _ (unhide HX1)).mono ?_
          rintro e v2 ⟨rfl, rfl⟩
          go_wp2_with fail
          go_ret
          exact ⟨retB (unhide HE), unhide HB1⟩
        | true =>
          rw [h3] at hc2
          have HE : Hid (letB d b s t n = decide (0 ≤ n ∧ n ≤ 100000)) := by show _ = _; unfold letB; rw [h0, h1, h2, h3]; rfl
          clear h0 h1 h2 h3
          generalize decide (0 ≤ n ∧ n ≤ 100000) = B4 at *
          go_enter Try.func39, Try.ntmps39
          go_wp2_with fail
          refine (unhide hD _).mono ?_
          rintro e w1 ⟨rfl, hb1⟩
          have HB1 := hide (btP (unhide HB0) hb1)
          have HX1 := hide ((unhide HX).below hb1)
          obtain ⟨c0, c1, c2, c3, c4⟩ := (unhide HX1).facts
          clear hb1
          go_wp2_with fail
          refine (unhide hc0 _).mono ?_
          rintro e v0 ⟨rfl, rfl⟩
          go_wp2_with fail
          refine (unhide hc1 _ (unhide HX1)).mono ?_
          rintro e v1 ⟨rfl, rfl⟩
          go_wp2_with fail
          refine (unhide hc2 _ (unhide HX1)).mono ?_
          rintro e v2 ⟨rfl, rfl⟩
          go_wp2_with fail
          refine (unhide hc3 _).mono ?_
          rintro e v3 ⟨rfl, rfl⟩
          go_wp2_with fail
          go_ret
          exact ⟨retB (unhide HE), unhide HB1⟩


end Go.Proofs.Ytfbillhfbdconaa
