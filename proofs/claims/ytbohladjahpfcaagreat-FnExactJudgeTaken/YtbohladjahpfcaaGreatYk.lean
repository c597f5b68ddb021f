
/- A letter as plain data: its five cells in a block of their own; the walks of laws.szLetter, toLetter, eqLetter. Right letters, and the walks of spec.LetterOk, impl.LetterOk and its small pieces; nothing that was there is written. -/
import Derived.Test.YtbohladjahpfcaaGreatQl
namespace Go.Proofs.YtbohladjahpfcaaGreat
open Go.RowKit Go.Deep

/-- The cells of a letter in a block of its own. -/
def RowL (ty : TypeId) (w : World) (p : Nat) (d : ByteArray) (b s t n : Int) : Prop := w.heap[p]? = some (.cells #[.string d, .int .i64 b, .int .i64 s, .int .i64 t, .int .i64 n] ty (0, 0))
theorem RowL.new (ty : TypeId) (w : World) (d : ByteArray) (b s t n : Int) : RowL ty (w.alloc (.cells #[.string d, .int .i64 b, .int .i64 s, .int .i64 t, .int .i64 n] ty)) w.heap.size d b s t n := heap_alloc_new w _
theorem RowL.lt {ty : TypeId} {w : World} {p : Nat} {d : ByteArray} {b s t n : Int} (hr : RowL ty w p d b s t n) : p < w.heap.size := (Array.getElem?_eq_some_iff.1 hr).1
theorem RowL.below {ty : TypeId} {w w' : World} {p : Nat} {d : ByteArray} {b s t n : Int} (hr : RowL ty w p d b s t n) (hb : Below w.heap.size w w') : RowL ty w' p d b s t n := (hb.block p hr.lt).trans hr
theorem RowL.under {ty : TypeId} {w w' : World} {p q : Nat} {d : ByteArray} {b s t n : Int} (hr : RowL ty w p d b s t n) (hb : Below q w w') (hq : p < q) : RowL ty w' p d b s t n := (hb.block p hq).trans hr
theorem RowL.facts {ty : TypeId} {w : World} {p : Nat} {d : ByteArray} {b s t n : Int} (hr : RowL ty w p d b s t n) :
    w.cell? ⟨p, 0, none⟩ = some (.string d) ∧ w.cell? ⟨p, 1, none⟩ = some (.int .i64 b) ∧ w.cell? ⟨p, 2, none⟩ = some (.int .i64 s) ∧ w.cell? ⟨p, 3, none⟩ = some (.int .i64 t) ∧ w.cell? ⟨p, 4, none⟩ = some (.int .i64 n) :=
  ⟨cell_of_row hr (by simp), cell_of_row hr (by simp), cell_of_row hr (by simp), cell_of_row hr (by simp), cell_of_row hr (by simp)⟩
theorem RowL.free {ty : TypeId} {w : World} {p : Nat} {d : ByteArray} {b s t n : Int} (hr : RowL ty w p d b s t n) (j : Nat) : w.frozen? ⟨p, j, none⟩ = false := frozen_of_row hr
theorem row_setL {w : World} {p j : Nat} {X : Array Value} {ty : TypeId} (h : w.heap[p]? = some (.cells X ty (0, 0))) (v : Value) : (w.setCell ⟨p, j, none⟩ v).heap[p]? = some (.cells (X.setIfInBounds j v) ty (0, 0)) := by
  simp only [World.setCell, Array.getElem?_modify]
  simp [h]
theorem RowL.set2 {ty : TypeId} {w : World} {p : Nat} {d : ByteArray} {b s t n : Int} (hr : RowL ty w p d b s t n) (x : Int) : RowL ty (w.setCell ⟨p, 2, none⟩ (.int .i64 x)) p d b x t n := row_setL hr _
theorem RowL.set3 {ty : TypeId} {w : World} {p : Nat} {d : ByteArray} {b s t n : Int} (hr : RowL ty w p d b s t n) (x : Int) : RowL ty (w.setCell ⟨p, 3, none⟩ (.int .i64 x)) p d b s x n := row_setL hr _
theorem RowL.set4 {ty : TypeId} {w : World} {p : Nat} {d : ByteArray} {b s t n : Int} (hr : RowL ty w p d b s t n) (x : Int) : RowL ty (w.setCell ⟨p, 4, none⟩ (.int .i64 x)) p d b s t x := row_setL hr _
theorem RowL.set0 {ty : TypeId} {w : World} {p : Nat} {d : ByteArray} {b s t n : Int} (hr : RowL ty w p d b s t n) (x : ByteArray) : RowL ty (w.setCell ⟨p, 0, none⟩ (.string x)) p x b s t n := row_setL hr _
theorem setBL {w v : World} {q p j : Nat} {x : Value} (h : Below q w v) (hb : q ≤ p) : Below q w (v.setCell ⟨p, j, none⟩ x) := h.setCell hb _

set_option maxRecDepth 100000 in
set_option maxHeartbeats 2000000 in
theorem szL (d : ByteArray) (b s t n : Int) (w : World) (hd : d.size ≤ maxLen) :
    Calls Tryz.prog 42 #[.agg #[.string d, .int .i64 b, .int .i64 s, .int .i64 t, .int .i64 n], .int .i64 1048576] w fun e w' => e = .returned (.int .i64 (szv 1048576 d.size)) ∧ Below w.heap.size w w' := by
  have hmm : d.size ≤ 9223372036854775807 := by unfold maxLen at hd; omega
  obtain ⟨left, hleft⟩ : ∃ left : Int, left = 1048576 - (d.size : Int) := ⟨_, rfl⟩
  have w1 : wrap64 (1048576 - (d.size : Int)) = left := by unfold wrap64; omega
  by_cases h1 : left < 0
  · have HE : Hid (szv 1048576 d.size = -1) := szv_no (by omega)
    clear hleft hd hmm
    go_enter Tryz.func42, Tryz.ntmps42
    go_wp2_with fail
    go_ret
    exact ⟨ret_int (unhide HE).symm, abP _⟩
  · have HE : Hid (szv 1048576 d.size = left) := by show _ = _; rw [szv_yes (by omega)]; omega
    clear hleft hd hmm
    go_enter Tryz.func42, Tryz.ntmps42
    go_wp2_with fail
    go_ret
    exact ⟨ret_int (unhide HE).symm, abP _⟩

set_option maxRecDepth 100000 in
set_option maxHeartbeats 2000000 in
theorem toL (d : ByteArray) (b s t n : Int) (w : World) :
    Calls Tryz.prog 53 #[.agg #[.string d, .int .i64 b, .int .i64 s, .int .i64 t, .int .i64 n]] w fun e w' => e = .returned (.agg #[.string d, .int .i64 b, .int .i64 s, .int .i64 t, .int .i64 n]) ∧ Below w.heap.size w w' := by
  have HB := hide (btP (btP (abP (w := w) (.cells #[.string d, .int .i64 b, .int .i64 s, .int .i64 t, .int .i64 n] 88)) (abP (.cells #[.string d, .int .i64 b, .int .i64 s, .int .i64 t, .int .i64 n] 103))) (abP (.cells #[.string d, .int .i64 b, .int .i64 s, .int .i64 t, .int .i64 n] 103)))
  go_enter Tryz.func53, Tryz.ntmps53
  go_wp2_with fail
  refine bodyPost_ret (v := .agg #[.string d, .int .i64 b, .int .i64 s, .int .i64 t, .int .i64 n]) (by simp [results, Tryz.results53, go_sem]) rfl ⟨rfl, unhide HB⟩

set_option maxRecDepth 100000 in
set_option maxHeartbeats 2000000 in
theorem eqL (d : ByteArray) (b s t n : Int) (w : World) :
    Calls Tryz.prog 64 #[.agg #[.string d, .int .i64 b, .int .i64 s, .int .i64 t, .int .i64 n], .agg #[.string d, .int .i64 b, .int .i64 s, .int .i64 t, .int .i64 n]] w fun e w' => e = .returned (.bool true) ∧ Below w.heap.size w w' := by
  have HB := hide (btP (abP (w := w) (.cells #[.string d, .int .i64 b, .int .i64 s, .int .i64 t, .int .i64 n] 103)) (abP (.cells #[.string d, .int .i64 b, .int .i64 s, .int .i64 t, .int .i64 n] 103)))
  go_enter Tryz.func64, Tryz.ntmps64
  go_wp2_with fail
  go_ret
  exact ⟨rfl, unhide HB⟩

theorem isAtomL (x : Int) (w : World) : Calls Tryz.prog 114 #[.int .i64 x] w fun e w' => e = .returned (.bool (decide (0 ≤ x ∧ x ≤ 1000000))) ∧ w' = w := by
  by_cases h1 : 0 ≤ x
  · by_cases h2 : x ≤ 1000000
    · rw [show decide (0 ≤ x ∧ x ≤ 1000000) = true from decide_eq_true ⟨h1, h2⟩]
      go_enter Tryz.func114, Tryz.ntmps114
      go_wp2_with fail
      go_ret
      exact ⟨retB (by simp), rfl⟩
    · rw [show decide (0 ≤ x ∧ x ≤ 1000000) = false from decide_eq_false (by omega)]
      go_enter Tryz.func114, Tryz.ntmps114
      go_wp2_with fail
      go_ret
      exact ⟨retB (by simp), rfl⟩
  · rw [show decide (0 ≤ x ∧ x ≤ 1000000) = false from decide_eq_false (by omega)]
    go_enter Tryz.func114, Tryz.ntmps114
    go_wp2_with fail
    go_ret
    exact ⟨rfl, rfl⟩

set_option maxRecDepth 100000 in
theorem stateI (d : ByteArray) (b s t n : Int) (p : Nat) (w : World) (hr : RowL 103 w p d b s t n) : Calls Tryz.prog 115 #[.pointer (some ⟨p, 0, none⟩)] w fun e w' => e = .returned (.bool (decide (1 ≤ s ∧ s ≤ 3))) ∧ w' = w := by
  obtain ⟨c0, c1, c2, c3, c4⟩ := hr.facts
  clear hr
  by_cases h1 : 1 ≤ s
  · by_cases h2 : s ≤ 3
    · rw [show decide (1 ≤ s ∧ s ≤ 3) = true from decide_eq_true ⟨h1, h2⟩]
      go_enter Tryz.func115, Tryz.ntmps115
      go_wp2_with fail
      go_ret
      exact ⟨retB (by simp), rfl⟩
    · rw [show decide (1 ≤ s ∧ s ≤ 3) = false from decide_eq_false (by omega)]
      go_enter Tryz.func115, Tryz.ntmps115
      go_wp2_with fail
      go_ret
      exact ⟨retB (by simp), rfl⟩
  · rw [show decide (1 ≤ s ∧ s ≤ 3) = false from decide_eq_false (by omega)]
    go_enter Tryz.func115, Tryz.ntmps115
    go_wp2_with fail
    go_ret
    exact ⟨rfl, rfl⟩

set_option maxRecDepth 100000 in
theorem triesI (d : ByteArray) (b s t n : Int) (p : Nat) (w : World) (hr : RowL 103 w p d b s t n) : Calls Tryz.prog 116 #[.pointer (some ⟨p, 0, none⟩)] w fun e w' => e = .returned (.bool (decide (0 ≤ t ∧ t ≤ 4))) ∧ w' = w := by
  obtain ⟨c0, c1, c2, c3, c4⟩ := hr.facts
  clear hr
  by_cases h1 : 0 ≤ t
  · by_cases h2 : t ≤ 4
    · rw [show decide (0 ≤ t ∧ t ≤ 4) = true from decide_eq_true ⟨h1, h2⟩]
      go_enter Tryz.func116, Tryz.ntmps116
      go_wp2_with fail
      go_ret
      exact ⟨retB (by simp), rfl⟩
    · rw [show decide (0 ≤ t ∧ t ≤ 4) = false from decide_eq_false (by omega)]
      go_enter Tryz.func116, Tryz.ntmps116
      go_wp2_with fail
      go_ret
      exact ⟨retB (by simp), rfl⟩
  · rw [show decide (0 ≤ t ∧ t ≤ 4) = false from decide_eq_false (by omega)]
    go_enter Tryz.func116, Tryz.ntmps116
    go_wp2_with fail
    go_ret
    exact ⟨rfl, rfl⟩

/-- A right letter. -/
noncomputable def letB (d : ByteArray) (b s t n : Int) : Bool := domB d && (decide (0 ≤ b ∧ b ≤ 1000000) && (decide (1 ≤ s ∧ s ≤ 3) && (decide (0 ≤ t ∧ t ≤ 4) && decide (0 ≤ n ∧ n ≤ 100000))))
theorem letB_iff {d : ByteArray} {b s t n : Int} : letB d b s t n = true ↔ domB d = true ∧ (0 ≤ b ∧ b ≤ 1000000) ∧ (1 ≤ s ∧ s ≤ 3) ∧ (0 ≤ t ∧ t ≤ 4) ∧ (0 ≤ n ∧ n ≤ 100000) := by
  unfold letB
  rw [Bool.and_eq_true, Bool.and_eq_true, Bool.and_eq_true, Bool.and_eq_true, decide_eq_true_iff, decide_eq_true_iff, decide_eq_true_iff, decide_eq_true_iff]

set_option maxRecDepth 100000 in
set_option maxHeartbeats 2000000 in
theorem okS (d : ByteArray) (b s t n : Int) (w : World) (hd : d.size ≤ 2097152) :
    Calls Tryz.prog 48 #[.agg #[.string d, .int .i64 b, .int .i64 s, .int .i64 t, .int .i64 n]] w fun e w' => e = .returned (.bool (letB d b s t n)) ∧ Below w.heap.size w w' := by
  have HB0 := hide (abP (w := w) (.cells #[.string d, .int .i64 b, .int .i64 s, .int .i64 t, .int .i64 n] 103))
  have HX := hide (RowL.new 103 w d b s t n)
  have hD := hide (fun v => domS d v hd)
  have hc0 := hide (fun v => inS b 0 1000000 v)
  have hc1 := hide (fun v => inS s 1 3 v)
  have hc2 := hide (fun v => inS t 0 4 v)
  have hc3 := hide (fun v => inS n 0 100000 v)
  clear hd
  cases h0 : domB d with
  | false =>
    have HE : Hid (letB d b s t n = false) := by show _ = _; unfold letB; rw [h0]; rfl
    rw [h0] at hD
    clear h0
    go_enter Tryz.func48, Tryz.ntmps48
    go_wp2_with fail
    refine (unhide hD _).mono ?_
    rintro e w1 ⟨rfl, rfl⟩
    have HB1 := HB0
    have HX1 := HX
    obtain ⟨c0, c1, c2, c3, c4⟩ := (unhide HX1).facts
    go_wp2_with fail
    go_ret
    exact ⟨retB (unhide HE), unhide HB1⟩
  | true =>
    rw [h0] at hD
    cases h1 : decide (0 ≤ b ∧ b ≤ 1000000) with
    | false =>
      have HE : Hid (letB d b s t n = false) := by show _ = _; unfold letB; rw [h0, h1]; rfl
      rw [h1] at hc0
      clear h0 h1
      go_enter Tryz.func48, Tryz.ntmps48
      go_wp2_with fail
      refine (unhide hD _).mono ?_
      rintro e w1 ⟨rfl, rfl⟩
      have HB1 := HB0
      have HX1 := HX
      obtain ⟨c0, c1, c2, c3, c4⟩ := (unhide HX1).facts
      go_wp2_with fail
      refine (unhide hc0 _).mono ?_
      rintro e v0 ⟨rfl, rfl⟩
      go_wp2_with fail
      go_ret
      exact ⟨retB (unhide HE), unhide HB1⟩
    | true =>
      rw [h1] at hc0
      cases h2 : decide (1 ≤ s ∧ s ≤ 3) with
      | false =>
        have HE : Hid (letB d b s t n = false) := by show _ = _; unfold letB; rw [h0, h1, h2]; rfl
        rw [h2] at hc1
        clear h0 h1 h2
        go_enter Tryz.func48, Tryz.ntmps48
        go_wp2_with fail
        refine (unhide hD _).mono ?_
        rintro e w1 ⟨rfl, rfl⟩
        have HB1 := HB0
        have HX1 := HX
        obtain ⟨c0, c1, c2, c3, c4⟩ := (unhide HX1).facts
        go_wp2_with fail
        refine (unhide hc0 _).mono ?_
        rintro e v0 ⟨rfl, rfl⟩
        go_wp2_with fail
        refine (unhide hc1 _).mono ?_
        rintro e v1 ⟨rfl, rfl⟩
        go_wp2_with fail
        go_ret
        exact ⟨retB (unhide HE), unhide HB1⟩
      | true =>
        rw [h2] at hc1
        cases h3 : decide (0 ≤ t ∧ t ≤ 4) with
        | false =>
          have HE : Hid (letB d b s t n = false) := by show _ = _; unfold letB; rw [h0, h1, h2, h3]; rfl
          rw [h3] at hc2
          clear h0 h1 h2 h3
          go_enter Tryz.func48, Tryz.ntmps48
          go_wp2_with fail
          refine (unhide hD _).mono ?_
          rintro e w1 ⟨rfl, rfl⟩
          have HB1 := HB0
          have HX1 := HX
          obtain ⟨c0, c1, c2, c3, c4⟩ := (unhide HX1).facts
          go_wp2_with fail
          refine (unhide hc0 _).mono ?_
          rintro e v0 ⟨rfl, rfl⟩
          go_wp2_with fail
          refine (unhide hc1 _).mono ?_
          rintro e v1 ⟨rfl, rfl⟩
          go_wp2_with fail
          refine (unhide hc2 _).mono ?_
          rintro e v2 ⟨rfl, rfl⟩
          go_wp2_with fail
          go_ret
          exact ⟨retB (unhide HE), unhide HB1⟩
        | true =>
          rw [h3] at hc2
          have HE : Hid (letB d b s t n = decide (0 ≤ n ∧ n ≤ 100000)) := by show _ = _; unfold letB; rw [h0, h1, h2, h3]; rfl
          clear h0 h1 h2 h3
          generalize decide (0 ≤ n ∧ n ≤ 100000) = B4 at *
          go_enter Tryz.func48, Tryz.ntmps48
          go_wp2_with fail
          refine (unhide hD _).mono ?_
          rintro e w1 ⟨rfl, rfl⟩
          have HB1 := HB0
          have HX1 := HX
          obtain ⟨c0, c1, c2, c3, c4⟩ := (unhide HX1).facts
          go_wp2_with fail
          refine (unhide hc0 _).mono ?_
          rintro e v0 ⟨rfl, rfl⟩
          go_wp2_with fail
          refine (unhide hc1 _).mono ?_
          rintro e v1 ⟨rfl, rfl⟩
          go_wp2_with fail
          refine (unhide hc2 _).mono ?_
          rintro e v2 ⟨rfl, rfl⟩
          go_wp2_with fail
          refine (unhide hc3 _).mono ?_
          rintro e v3 ⟨rfl, rfl⟩
          go_wp2_with fail
          go_ret
          exact ⟨retB (unhide HE), unhide HB1⟩

set_option maxRecDepth 100000 in
set_option maxHeartbeats 2000000 in
theorem okI (d : ByteArray) (b s t n : Int) (w : World) (hd : d.size ≤ 2097152) :
    Calls Tryz.prog 91 #[.agg #[.string d, .int .i64 b, .int .i64 s, .int .i64 t, .int .i64 n]] w fun e w' => e = .returned (.bool (letB d b s t n)) ∧ Below w.heap.size w w' := by
  have HB0 := hide (abP (w := w) (.cells #[.string d, .int .i64 b, .int .i64 s, .int .i64 t, .int .i64 n] 103))
  have HX := hide (RowL.new 103 w d b s t n)
  have hD := hide (fun v => domI d v hd)
  have hc0 := hide (fun v => isAtomL b v)
  have hc1 := hide (fun v (hv : RowL 103 v w.heap.size d b s t n) => stateI d b s t n w.heap.size v hv)
  have hc2 := hide (fun v (hv : RowL 103 v w.heap.size d b s t n) => triesI d b s t n w.heap.size v hv)
  have hc3 := hide (fun v => inTime n v)
  clear hd
  cases h0 : domB d with
  | false =>
    have HE : Hid (letB d b s t n = false) := by show _ = _; unfold letB; rw [h0]; rfl
    rw [h0] at hD
    clear h0
    go_enter Tryz.func91, Tryz.ntmps91
    go_wp2_with fail
    refine (unhide hD _).mono ?_
    rintro e w1 ⟨rfl, hb1⟩
    have HB1 := hide (btP (unhide HB0) hb1)
    have HX1 := hide ((unhide HX).below hb1)
    obtain ⟨c0, c1, c2, c3, c4⟩ := (unhide HX1).facts
    clear hb1
    go_wp2_with fail
    go_ret
    exact ⟨retB (unhide HE), unhide HB1⟩
  | true =>
    rw [h0] at hD
    cases h1 : decide (0 ≤ b ∧ b ≤ 1000000) with
    | false =>
      have HE : Hid (letB d b s t n = false) := by show _ = _; unfold letB; rw [h0, h1]; rfl
      rw [h1] at hc0
      clear h0 h1
      go_enter Tryz.func91, Tryz.ntmps91
      go_wp2_with fail
      refine (unhide hD _).mono ?_
      rintro e w1 ⟨rfl, hb1⟩
      have HB1 := hide (btP (unhide HB0) hb1)
      have HX1 := hide ((unhide HX).below hb1)
      obtain ⟨c0, c1, c2, c3, c4⟩ := (unhide HX1).facts
      clear hb1
      go_wp2_with fail
      refine (unhide hc0 _).mono ?_
      rintro e v0 ⟨rfl, rfl⟩
      go_wp2_with fail
      go_ret
      exact ⟨retB (unhide HE), unhide HB1⟩
    | true =>
      rw [h1] at hc0
      cases h2 : decide (1 ≤ s ∧ s ≤ 3) with
      | false =>
        have HE : Hid (letB d b s t n = false) := by show _ = _; unfold letB; rw [h0, h1, h2]; rfl
        rw [h2] at hc1
        clear h0 h1 h2
        go_enter Tryz.func91, Tryz.ntmps91
        go_wp2_with fail
        refine (unhide hD _).mono ?_
        rintro e w1 ⟨rfl, hb1⟩
        have HB1 := hide (btP (unhide HB0) hb1)
        have HX1 := hide ((unhide HX).below hb1)
        obtain ⟨c0, c1, c2, c3, c4⟩ := (unhide HX1).facts
        clear hb1
        go_wp2_with fail
        refine (unhide hc0 _).mono ?_
        rintro e v0 ⟨rfl, rfl⟩
        go_wp2_with fail
        refine (unhide hc1 _ (unhide HX1)).mono ?_
        rintro e v1 ⟨rfl, rfl⟩
        go_wp2_with fail
        go_ret
        exact ⟨retB (unhide HE), unhide HB1⟩
      | true =>
        rw [h2] at hc1
        cases h3 : decide (0 ≤ t ∧ t ≤ 4) with
        | false =>
          have HE : Hid (letB d b s t n = false) := by show _ = _; unfold letB; rw [h0, h1, h2, h3]; rfl
          rw [h3] at hc2
          clear h0 h1 h2 h3
          go_enter Tryz.func91, Tryz.ntmps91
          go_wp2_with fail
          refine (unhide hD _).mono ?_
          rintro e w1 ⟨rfl, hb1⟩
          have HB1 := hide (btP (unhide HB0) hb1)
          have HX1 := hide ((unhide HX).below hb1)
          obtain ⟨c0, c1, c2, c3, c4⟩ := (unhide HX1).facts
          clear hb1
          go_wp2_with fail
          refine (unhide hc0 _).mono ?_
          rintro e v0 ⟨rfl, rfl⟩
          go_wp2_with fail
          refine (unhide hc1 _ (unhide HX1)).mono ?_
          rintro e v1 ⟨rfl, rfl⟩
          go_wp2_with fail
          refine (unhide hc2 _ (unhide HX1)).mono ?_
          rintro e v2 ⟨rfl, rfl⟩
          go_wp2_with fail
          go_ret
          exact ⟨retB (unhide HE), unhide HB1⟩
        | true =>
          rw [h3] at hc2
          have HE : Hid (letB d b s t n = decide (0 ≤ n ∧ n ≤ 100000)) := by show _ = _; unfold letB; rw [h0, h1, h2, h3]; rfl
          clear h0 h1 h2 h3
          generalize decide (0 ≤ n ∧ n ≤ 100000) = B4 at *
          go_enter Tryz.func91, Tryz.ntmps91
          go_wp2_with fail
          refine (unhide hD _).mono ?_
          rintro e w1 ⟨rfl, hb1⟩
          have HB1 := hide (btP (unhide HB0) hb1)
          have HX1 := hide ((unhide HX).below hb1)
          obtain ⟨c0, c1, c2, c3, c4⟩ := (unhide HX1).facts
          clear hb1
          go_wp2_with fail
          refine (unhide hc0 _).mono ?_
          rintro e v0 ⟨rfl, rfl⟩
          go_wp2_with fail
          refine (unhide hc1 _ (unhide HX1)).mono ?_
          rintro e v1 ⟨rfl, rfl⟩
          go_wp2_with fail
          refine (unhide hc2 _ (unhide HX1)).mono ?_
          rintro e v2 ⟨rfl, rfl⟩
          go_wp2_with fail
          refine (unhide hc3 _).mono ?_
          rintro e v3 ⟨rfl, rfl⟩
          go_wp2_with fail
          go_ret
          exact ⟨retB (unhide HE), unhide HB1⟩

end Go.Proofs.YtbohladjahpfcaaGreat
