/- A note as plain data: the walks of laws.szNote, toNote, eqNote; right notes, and the walks of spec.NoteOk, impl.NoteOk: nothing that was there is written. -/
import Derived.Test.YtjckdepcgjfomaaDoorYk
namespace Go.Proofs.YtjckdepcgjfomaaDoor
open Go.RowKit Go.Deep

set_option maxRecDepth 100000 in
set_option maxHeartbeats 2000000 in
theorem szN (k h : Int) (d : ByteArray) (b t : Int) (l0 : Int) (hl0 : 0 ≤ l0) (hl1 : l0 ≤ 1048576) (w : World) (hd : d.size ≤ maxLen) :
    Calls Tryd.prog 6 #[.agg #[.int .i64 k, .int .i64 h, .string d, .int .i64 b, .int .i64 t], .int .i64 l0] w fun e w' => e = .returned (.int .i64 (szv l0 d.size)) ∧ Below w.heap.size w w' := by
  have hmm : d.size ≤ 9223372036854775807 := by unfold maxLen at hd; omega
  obtain ⟨left, hleft⟩ : ∃ left : Int, left = l0 - (d.size : Int) := ⟨_, rfl⟩
  have w1 : wrap64 (l0 - (d.size : Int)) = left := by unfold wrap64; omega
  by_cases h1 : left < 0
  · have HE : Hid (szv l0 d.size = -1) := szv_no (by omega)
    clear hleft hd hmm
    go_enter Tryd.func6, Tryd.ntmps6
    go_wp2_with fail
    go_ret
    exact ⟨ret_int (unhide HE).symm, abP _⟩
  · have HE : Hid (szv l0 d.size = left) := by show _ = _; rw [szv_yes (by omega)]; omega
    clear hleft hd hmm
    go_enter Tryd.func6, Tryd.ntmps6
    go_wp2_with fail
    go_ret
    exact ⟨ret_int (unhide HE).symm, abP _⟩

set_option maxRecDepth 100000 in
set_option maxHeartbeats 2000000 in
theorem toN (k h : Int) (d : ByteArray) (b t : Int) (w : World) :
    Calls Tryd.prog 8 #[.agg #[.int .i64 k, .int .i64 h, .string d, .int .i64 b, .int .i64 t]] w fun e w' => e = .returned (.agg #[.int .i64 k, .int .i64 h, .string d, .int .i64 b, .int .i64 t]) ∧ Below w.heap.size w w' := by
  have HB := hide (btP (btP (abP (w := w) (.cells #[.int .i64 k, .int .i64 h, .string d, .int .i64 b, .int .i64 t] 23)) (abP (.cells #[.int .i64 k, .int .i64 h, .string d, .int .i64 b, .int .i64 t] 26))) (abP (.cells #[.int .i64 k, .int .i64 h, .string d, .int .i64 b, .int .i64 t] 26)))
  go_enter Tryd.func8, Tryd.ntmps8
  go_wp2_with fail
  refine bodyPost_ret (v := .agg #[.int .i64 k, .int .i64 h, .string d, .int .i64 b, .int .i64 t]) (by simp [results, Tryd.results8, go_sem]) rfl ⟨rfl, unhide HB⟩

set_option maxRecDepth 100000 in
set_option maxHeartbeats 2000000 in
theorem eqN (k h : Int) (d : ByteArray) (b t : Int) (w : World) :
    Calls Tryd.prog 12 #[.agg #[.int .i64 k, .int .i64 h, .string d, .int .i64 b, .int .i64 t], .agg #[.int .i64 k, .int .i64 h, .string d, .int .i64 b, .int .i64 t]] w fun e w' => e = .returned (.bool true) ∧ Below w.heap.size w w' := by
  have HB := hide (btP (abP (w := w) (.cells #[.int .i64 k, .int .i64 h, .string d, .int .i64 b, .int .i64 t] 26)) (abP (.cells #[.int .i64 k, .int .i64 h, .string d, .int .i64 b, .int .i64 t] 26)))
  go_enter Tryd.func12, Tryd.ntmps12
  go_wp2_with fail
  go_ret
  exact ⟨rfl, unhide HB⟩

/-- What its kind names is so, and the rest zero or empty. -/
noncomputable def namedB (k : Int) (d : ByteArray) (b t : Int) : Bool :=
  if k = 1 then domB d && (decide (0 ≤ b ∧ b ≤ 1000000) && decide (t = 0)) else if k = 2 then decide (d.size = 0) && (decide (b = 0) && decide (0 ≤ t ∧ t ≤ 100000)) else if k = 3 ∨ k = 4 then decide (d.size = 0) && (decide (b = 0) && decide (t = 0)) else false
/-- A right note. -/
noncomputable def noteB (k h : Int) (d : ByteArray) (b t : Int) : Bool := decide (0 ≤ h ∧ h ≤ 29) && namedB k d b t
theorem named1 {d : ByteArray} {b t : Int} : namedB 1 d b t = (domB d && (decide (0 ≤ b ∧ b ≤ 1000000) && decide (t = 0))) := by unfold namedB; rw [if_pos rfl]
theorem named2 {d : ByteArray} {b t : Int} : namedB 2 d b t = (decide (d.size = 0) && (decide (b = 0) && decide (0 ≤ t ∧ t ≤ 100000))) := by unfold namedB; rw [if_neg (by omega), if_pos rfl]
theorem named34 {k : Int} {d : ByteArray} {b t : Int} (hk : k = 3 ∨ k = 4) : namedB k d b t = (decide (d.size = 0) && (decide (b = 0) && decide (t = 0))) := by unfold namedB; rw [if_neg (by omega), if_neg (by omega), if_pos hk]
theorem named_no {k : Int} {d : ByteArray} {b t : Int} (hk : ¬ (1 ≤ k ∧ k ≤ 4)) : namedB k d b t = false := by unfold namedB; rw [if_neg (by omega), if_neg (by omega), if_neg (by omega)]
theorem empty_of_size {d : ByteArray} (h : d.size = 0) : d = ⟨#[]⟩ := by
  obtain ⟨l⟩ := d
  simp [ByteArray.size] at h
  subst h
  rfl
theorem ne_empty {d : ByteArray} (h : ¬ d.size = 0) : (d.toList = []) = False := eq_false fun e => h (by
  have : d = ⟨#[]⟩ := Go.WideShapes.bytes_inj ((ByteArray.toList_eq d).symm.trans e)
  rw [this]; rfl)
theorem is_empty : ((({ data := #[] } : ByteArray)) = ByteArray.empty) = True := eq_true rfl

set_option maxRecDepth 100000 in
set_option maxHeartbeats 2000000 in
theorem noteS (k h : Int) (d : ByteArray) (b t : Int) (w : World) (hd : d.size ≤ 2097152) :
    Calls Tryd.prog 18 #[.agg #[.int .i64 k, .int .i64 h, .string d, .int .i64 b, .int .i64 t]] w fun e w' => e = .returned (.bool (noteB k h d b t)) ∧ Below w.heap.size w w' := by
  have HB := hide (abP (w := w) (.cells #[.int .i64 k, .int .i64 h, .string d, .int .i64 b, .int .i64 t] 26))
  have hK := hide (fun v => inS k 1 4 v)
  have hH := hide (fun v => inS h 0 29 v)
  have hB := hide (fun v => inS b 0 1000000 v)
  have hT := hide (fun v => inS t 0 100000 v)
  have hD := hide (fun v => domS d v hd)
  have hN := fun (x : ¬ d.size = 0) => ne_empty x
  have hY := is_empty
  by_cases qK : 1 ≤ k ∧ k ≤ 4
  · rw [show decide (1 ≤ k ∧ k ≤ 4) = true from decide_eq_true qK] at hK
    by_cases qH : 0 ≤ h ∧ h ≤ 29
    · rw [show decide (0 ≤ h ∧ h ≤ 29) = true from decide_eq_true qH] at hH
      by_cases q1 : k = 1
      · subst q1
        cases hd1 : domB d with
        | false =>
          rw [hd1] at hD
          have HE : Hid (noteB 1 h d b t = false) := by show _ = _; unfold noteB; rw [named1, hd1]; simp
          clear hd hN hd1 qK qH
          go_enter Tryd.func18, Tryd.ntmps18
          go_wp2_with fail
          refine (unhide hK _).mono ?_
          rintro e w91 ⟨rfl, rfl⟩
          go_wp2_with fail
          refine (unhide hH _).mono ?_
          rintro e w92 ⟨rfl, rfl⟩
          go_wp2_with fail
          refine (unhide hD _).mono ?_
          rintro e w93 ⟨rfl, rfl⟩
          go_wp2_with fail
          go_ret
          exact ⟨retB ((unhide HE).trans (by first | rfl | (simp; done) | (simp; omega) | (simp [q1, qt]; done))), unhide HB⟩
        | true =>
          rw [hd1] at hD
          by_cases qB : 0 ≤ b ∧ b ≤ 1000000
          · rw [show decide (0 ≤ b ∧ b ≤ 1000000) = true from decide_eq_true qB] at hB
            by_cases qt : t = 0
            · subst qt
              have HE : Hid (noteB 1 h d b 0 = true) := by show _ = _; unfold noteB; rw [named1, hd1, show decide (0 ≤ b ∧ b ≤ 1000000) = true from decide_eq_true qB, show decide (0 ≤ h ∧ h ≤ 29) = true from decide_eq_true qH]; rfl
              clear hd hN hd1 qK qH qB
              go_enter Tryd.func18, Tryd.ntmps18
              go_wp2_with fail
              refine (unhide hK _).mono ?_
              rintro e w94 ⟨rfl, rfl⟩
              go_wp2_with fail
              refine (unhide hH _).mono ?_
              rintro e w95 ⟨rfl, rfl⟩
              go_wp2_with fail
              refine (unhide hD _).mono ?_
              rintro e w96 ⟨rfl, rfl⟩
              go_wp2_with fail
              refine (unhide hB _).mono ?_
              rintro e w97 ⟨rfl, rfl⟩
              go_wp2_with fail
              go_ret
              exact ⟨retB ((unhide HE).trans (by first | rfl | (simp; done) | (simp; omega) | (simp [q1, qt]; done))), unhide HB⟩
            · have HE : Hid (noteB 1 h d b t = false) := by show _ = _; unfold noteB; rw [named1, show decide (t = 0) = false from decide_eq_false qt]; simp
              clear hd hN hd1 qK qH qB
              go_enter Tryd.func18, Tryd.ntmps18
              go_wp2_with fail
              refine (unhide hK _).mono ?_
              rintro e w98 ⟨rfl, rfl⟩
              go_wp2_with fail
              refine (unhide hH _).mono ?_
              rintro e w99 ⟨rfl, rfl⟩
              go_wp2_with fail
              refine (unhide hD _).mono ?_
              rintro e w100 ⟨rfl, rfl⟩
              go_wp2_with fail
              refine (unhide hB _).mono ?_
              rintro e w101 ⟨rfl, rfl⟩
              go_wp2_with fail
              go_ret
              exact ⟨retB ((unhide HE).trans (by first | rfl | (simp; done) | (simp; omega) | (simp [q1, qt]; done))), unhide HB⟩
          · rw [show decide (0 ≤ b ∧ b ≤ 1000000) = false from decide_eq_false qB] at hB
            have HE : Hid (noteB 1 h d b t = false) := by show _ = _; unfold noteB; rw [named1, show decide (0 ≤ b ∧ b ≤ 1000000) = false from decide_eq_false qB]; simp
            clear hd hN hd1 qK qH qB
            go_enter Tryd.func18, Tryd.ntmps18
            go_wp2_with fail
            refine (unhide hK _).mono ?_
            rintro e w102 ⟨rfl, rfl⟩
            go_wp2_with fail
            refine (unhide hH _).mono ?_
            rintro e w103 ⟨rfl, rfl⟩
            go_wp2_with fail
            refine (unhide hD _).mono ?_
            rintro e w104 ⟨rfl, rfl⟩
            go_wp2_with fail
            refine (unhide hB _).mono ?_
            rintro e w105 ⟨rfl, rfl⟩
            go_wp2_with fail
            go_ret
            exact ⟨retB ((unhide HE).trans (by first | rfl | (simp; done) | (simp; omega) | (simp [q1, qt]; done))), unhide HB⟩
      · by_cases qd : d.size = 0
        · obtain rfl := empty_of_size qd
          by_cases qb : b = 0
          · subst qb
            by_cases q2 : k = 2
            · subst q2
              by_cases qT : 0 ≤ t ∧ t ≤ 100000
              · rw [show decide (0 ≤ t ∧ t ≤ 100000) = true from decide_eq_true qT] at hT
                have HE : Hid (noteB 2 h ⟨#[]⟩ 0 t = true) := by show _ = _; unfold noteB; rw [named2, show decide (0 ≤ t ∧ t ≤ 100000) = true from decide_eq_true qT, show decide (0 ≤ h ∧ h ≤ 29) = true from decide_eq_true qH]; rfl
                clear hd hN qK qH qT qd
                go_enter Tryd.func18, Tryd.ntmps18
                go_wp2_with fail
                refine (unhide hK _).mono ?_
                rintro e w106 ⟨rfl, rfl⟩
                go_wp2_with fail
                refine (unhide hH _).mono ?_
                rintro e w107 ⟨rfl, rfl⟩
                go_wp2_with fail
                refine (unhide hT _).mono ?_
                rintro e w108 ⟨rfl, rfl⟩
                go_wp2_with fail
                go_ret
                exact ⟨retB ((unhide HE).trans (by first | rfl | (simp; done) | (simp; omega) | (simp [q1, qt]; done))), unhide HB⟩
              · rw [show decide (0 ≤ t ∧ t ≤ 100000) = false from decide_eq_false qT] at hT
                have q0 : ¬ t = 0 := by omega
                have HE : Hid (noteB 2 h ⟨#[]⟩ 0 t = false) := by show _ = _; unfold noteB; rw [named2, show decide (0 ≤ t ∧ t ≤ 100000) = false from decide_eq_false qT]; simp
                clear hd hN qK qH qT qd
                go_enter Tryd.func18, Tryd.ntmps18
                go_wp2_with fail
                refine (unhide hK _).mono ?_
                rintro e w109 ⟨rfl, rfl⟩
                go_wp2_with fail
                refine (unhide hH _).mono ?_
                rintro e w110 ⟨rfl, rfl⟩
                go_wp2_with fail
                refine (unhide hT _).mono ?_
                rintro e w111 ⟨rfl, rfl⟩
                go_wp2_with fail
                go_ret
                exact ⟨retB ((unhide HE).trans (by first | rfl | (simp; done) | (simp; omega) | (simp [q1, qt]; done))), unhide HB⟩
            · have q34 : k = 3 ∨ k = 4 := by omega
              by_cases qt : t = 0
              · subst qt
                have HE : Hid (noteB k h ⟨#[]⟩ 0 0 = true) := by show _ = _; unfold noteB; rw [named34 q34, show decide (0 ≤ h ∧ h ≤ 29) = true from decide_eq_true qH]; rfl
                clear hd hN qK qH qd q34
                go_enter Tryd.func18, Tryd.ntmps18
                go_wp2_with fail
                refine (unhide hK _).mono ?_
                rintro e w112 ⟨rfl, rfl⟩
                go_wp2_with fail
                refine (unhide hH _).mono ?_
                rintro e w113 ⟨rfl, rfl⟩
                go_wp2_with fail
                go_ret
                exact ⟨retB ((unhide HE).trans (by first | rfl | (simp; done) | (simp; omega) | (simp [q1, qt]; done))), unhide HB⟩
              · have HE : Hid (noteB k h ⟨#[]⟩ 0 t = false) := by show _ = _; unfold noteB; rw [named34 q34, show decide (t = 0) = false from decide_eq_false qt]; simp
                clear hd hN qK qH qd q34
                go_enter Tryd.func18, Tryd.ntmps18
                go_wp2_with fail
                refine (unhide hK _).mono ?_
                rintro e w114 ⟨rfl, rfl⟩
                go_wp2_with fail
                refine (unhide hH _).mono ?_
                rintro e w115 ⟨rfl, rfl⟩
                go_wp2_with fail
                go_ret
                exact ⟨retB ((unhide HE).trans (by first | rfl | (simp; done) | (simp; omega) | (simp [q1, qt]; done))), unhide HB⟩
          · have HE : Hid (noteB k h ⟨#[]⟩ b t = false) := by
              show _ = _
              unfold noteB
              by_cases q2 : k = 2
              · subst q2; rw [named2, show decide (b = 0) = false from decide_eq_false qb]; simp
              · rw [named34 (by omega), show decide (b = 0) = false from decide_eq_false qb]; simp
            clear hd hN qK qH qd
            go_enter Tryd.func18, Tryd.ntmps18
            go_wp2_with fail
            refine (unhide hK _).mono ?_
            rintro e w116 ⟨rfl, rfl⟩
            go_wp2_with fail
            refine (unhide hH _).mono ?_
            rintro e w117 ⟨rfl, rfl⟩
            go_wp2_with fail
            go_ret
            exact ⟨retB ((unhide HE).trans (by first | rfl | (simp; done) | (simp; omega) | (simp [q1, qt]; done))), unhide HB⟩
        · have HE : Hid (noteB k h d b t = false) := by
            show _ = _
            unfold noteB
            by_cases q2 : k = 2
            · subst q2; rw [named2, show decide (d.size = 0) = false from decide_eq_false qd]; simp
            · rw [named34 (by omega), show decide (d.size = 0) = false from decide_eq_false qd]; simp
          replace hN := hN qd
          clear hd qK qH qd
          go_enter Tryd.func18, Tryd.ntmps18
          go_wp2_with fail
          refine (unhide hK _).mono ?_
          rintro e w118 ⟨rfl, rfl⟩
          go_wp2_with fail
          refine (unhide hH _).mono ?_
          rintro e w119 ⟨rfl, rfl⟩
          go_wp2_with fail
          go_ret
          exact ⟨retB ((unhide HE).trans (by first | rfl | (simp; done) | (simp; omega) | (simp [q1, qt]; done))), unhide HB⟩
    · rw [show decide (0 ≤ h ∧ h ≤ 29) = false from decide_eq_false qH] at hH
      have HE : Hid (noteB k h d b t = false) := by show _ = _; unfold noteB; rw [show decide (0 ≤ h ∧ h ≤ 29) = false from decide_eq_false qH]; simp
      clear hd hN qK qH
      go_enter Tryd.func18, Tryd.ntmps18
      go_wp2_with fail
      refine (unhide hK _).mono ?_
      rintro e w120 ⟨rfl, rfl⟩
      go_wp2_with fail
      refine (unhide hH _).mono ?_
      rintro e w121 ⟨rfl, rfl⟩
      go_wp2_with fail
      go_ret
      exact ⟨retB ((unhide HE).trans (by first | rfl | (simp; done) | (simp; omega) | (simp [q1, qt]; done))), unhide HB⟩
  · rw [show decide (1 ≤ k ∧ k ≤ 4) = false from decide_eq_false qK] at hK
    have HE : Hid (noteB k h d b t = false) := by show _ = _; unfold noteB; rw [named_no qK]; simp
    clear hd hN qK
    go_enter Tryd.func18, Tryd.ntmps18
    go_wp2_with fail
    refine (unhide hK _).mono ?_
    rintro e w122 ⟨rfl, rfl⟩
    go_wp2_with fail
    go_ret
    exact ⟨retB ((unhide HE).trans (by first | rfl | (simp; done) | (simp; omega) | (simp [q1, qt]; done))), unhide HB⟩

set_option maxRecDepth 100000 in
set_option maxHeartbeats 2000000 in
theorem namedI (k h : Int) (d : ByteArray) (b t : Int) (w : World) (hd : d.size ≤ 2097152) :
    Calls Tryd.prog 31 #[.agg #[.int .i64 k, .int .i64 h, .string d, .int .i64 b, .int .i64 t]] w fun e w' => e = .returned (.bool (namedB k d b t)) ∧ Below w.heap.size w w' := by
  have HB := hide (abP (w := w) (.cells #[.int .i64 k, .int .i64 h, .string d, .int .i64 b, .int .i64 t] 26))
  have HX := hide (heap_alloc_new w (.cells #[.int .i64 k, .int .i64 h, .string d, .int .i64 b, .int .i64 t] 26))
  have hB := hide (fun v => isAtomL b v)
  have hT := hide (fun v => inTime t v)
  have hD := hide (fun v => domI d v hd)
  have hN := fun (x : ¬ d.size = 0) => ne_empty x
  have hY := is_empty
  by_cases q1 : k = 1
  · subst q1
    rw [named1]
    cases hd1 : domB d with
    | false =>
      rw [hd1] at hD
      clear hd hN hd1
      go_enter Tryd.func31, Tryd.ntmps31
      go_wp2_with fail
      refine (unhide hD _).mono ?_
      rintro e w1 ⟨rfl, hb1⟩
      have hX1 := (hb1.block _ (by simp)).trans (unhide HX)
      have c3 : w1.cell? ⟨w.heap.size, 3, none⟩ = some (.int .i64 b) := cell_of_row hX1 (by simp)
      have c4 : w1.cell? ⟨w.heap.size, 4, none⟩ = some (.int .i64 t) := cell_of_row hX1 (by simp)
      have HB1 := hide (btP (unhide HB) hb1)
      clear hb1 hX1
      go_wp2_with fail
      go_ret
      exact ⟨retB (rfl), unhide HB1⟩
    | true =>
      rw [hd1] at hD
      clear hd hN hd1
      by_cases qB : 0 ≤ b ∧ b ≤ 1000000
      · rw [show decide (0 ≤ b ∧ b ≤ 1000000) = true from decide_eq_true qB] at hB ⊢
        clear qB
        by_cases qt : t = 0
        · subst qt
          go_enter Tryd.func31, Tryd.ntmps31
          go_wp2_with fail
          refine (unhide hD _).mono ?_
          rintro e w1 ⟨rfl, hb1⟩
          have hX1 := (hb1.block _ (by simp)).trans (unhide HX)
          have c3 : w1.cell? ⟨w.heap.size, 3, none⟩ = some (.int .i64 b) := cell_of_row hX1 (by simp)
          have c4 : w1.cell? ⟨w.heap.size, 4, none⟩ = some (.int .i64 0) := cell_of_row hX1 (by simp)
          have HB1 := hide (btP (unhide HB) hb1)
          clear hb1 hX1
          go_wp2_with fail
          refine (unhide hB _).mono ?_
          rintro e w123 ⟨rfl, rfl⟩
          go_wp2_with fail
          go_ret
          exact ⟨retB (by first | rfl | (simp; done) | (simp; omega)), unhide HB1⟩
        · rw [show decide (t = 0) = false from decide_eq_false qt]
          go_enter Tryd.func31, Tryd.ntmps31
          go_wp2_with fail
          refine (unhide hD _).mono ?_
          rintro e w1 ⟨rfl, hb1⟩
          have hX1 := (hb1.block _ (by simp)).trans (unhide HX)
          have c3 : w1.cell? ⟨w.heap.size, 3, none⟩ = some (.int .i64 b) := cell_of_row hX1 (by simp)
          have c4 : w1.cell? ⟨w.heap.size, 4, none⟩ = some (.int .i64 t) := cell_of_row hX1 (by simp)
          have HB1 := hide (btP (unhide HB) hb1)
          clear hb1 hX1
          go_wp2_with fail
          refine (unhide hB _).mono ?_
          rintro e w124 ⟨rfl, rfl⟩
          go_wp2_with fail
          go_ret
          exact ⟨retB (by first | rfl | (simp; done) | (simp; omega)), unhide HB1⟩
      · rw [show decide (0 ≤ b ∧ b ≤ 1000000) = false from decide_eq_false qB] at hB ⊢
        clear qB
        go_enter Tryd.func31, Tryd.ntmps31
        go_wp2_with fail
        refine (unhide hD _).mono ?_
        rintro e w1 ⟨rfl, hb1⟩
        have hX1 := (hb1.block _ (by simp)).trans (unhide HX)
        have c3 : w1.cell? ⟨w.heap.size, 3, none⟩ = some (.int .i64 b) := cell_of_row hX1 (by simp)
        have c4 : w1.cell? ⟨w.heap.size, 4, none⟩ = some (.int .i64 t) := cell_of_row hX1 (by simp)
        have HB1 := hide (btP (unhide HB) hb1)
        clear hb1 hX1
        go_wp2_with fail
        refine (unhide hB _).mono ?_
        rintro e w125 ⟨rfl, rfl⟩
        go_wp2_with fail
        go_ret
        exact ⟨retB (by first | rfl | (simp; done) | (simp; omega)), unhide HB1⟩
  · by_cases q2 : k = 2
    · subst q2
      rw [named2]
      by_cases qd : d.size = 0
      · obtain rfl := empty_of_size qd
        by_cases qb : b = 0
        · subst qb
          generalize decide (0 ≤ t ∧ t ≤ 100000) = I at *
          clear hd hN qd
          go_enter Tryd.func31, Tryd.ntmps31
          go_wp2_with fail
          refine (unhide hT _).mono ?_
          rintro e w126 ⟨rfl, rfl⟩
          go_wp2_with fail
          go_ret
          exact ⟨retB (by first | rfl | (simp; done) | (simp; omega)), unhide HB⟩
        · rw [show decide (b = 0) = false from decide_eq_false qb]
          clear hd hN qd
          go_enter Tryd.func31, Tryd.ntmps31
          go_wp2_with fail
          go_ret
          exact ⟨retB (by first | rfl | (simp; done) | (simp; omega)), unhide HB⟩
      · rw [show decide (d.size = 0) = false from decide_eq_false qd]
        replace hN := hN qd
        clear hd qd
        go_enter Tryd.func31, Tryd.ntmps31
        go_wp2_with fail
        go_ret
        exact ⟨retB (by first | rfl | (simp; done) | (simp; omega)), unhide HB⟩
    · by_cases q34 : k = 3 ∨ k = 4
      · rw [named34 q34]
        rcases q34 with rfl | rfl
        · by_cases qd : d.size = 0
          · obtain rfl := empty_of_size qd
            by_cases qb : b = 0
            · subst qb
              by_cases qt : t = 0
              · subst qt
                clear hd hN qd q1 q2
                go_enter Tryd.func31, Tryd.ntmps31
                go_wp2_with fail
                go_ret
                exact ⟨retB (by first | rfl | (simp; done) | (simp; omega)), unhide HB⟩
              · rw [show decide (t = 0) = false from decide_eq_false qt]
                clear hd hN qd q1 q2
                go_enter Tryd.func31, Tryd.ntmps31
                go_wp2_with fail
                go_ret
                exact ⟨retB (by first | rfl | (simp; done) | (simp; omega)), unhide HB⟩
            · rw [show decide (b = 0) = false from decide_eq_false qb]
              clear hd hN qd q1 q2
              go_enter Tryd.func31, Tryd.ntmps31
              go_wp2_with fail
              go_ret
              exact ⟨retB (by first | rfl | (simp; done) | (simp; omega)), unhide HB⟩
          · rw [show decide (d.size = 0) = false from decide_eq_false qd]
            replace hN := hN qd
            clear hd qd q1 q2
            go_enter Tryd.func31, Tryd.ntmps31
            go_wp2_with fail
            go_ret
            exact ⟨retB (by first | rfl | (simp; done) | (simp; omega)), unhide HB⟩
        · by_cases qd : d.size = 0
          · obtain rfl := empty_of_size qd
            by_cases qb : b = 0
            · subst qb
              by_cases qt : t = 0
              · subst qt
                clear hd hN qd q1 q2
                go_enter Tryd.func31, Tryd.ntmps31
                go_wp2_with fail
                go_ret
                exact ⟨retB (by first | rfl | (simp; done) | (simp; omega)), unhide HB⟩
              · rw [show decide (t = 0) = false from decide_eq_false qt]
                clear hd hN qd q1 q2
                go_enter Tryd.func31, Tryd.ntmps31
                go_wp2_with fail
                go_ret
                exact ⟨retB (by first | rfl | (simp; done) | (simp; omega)), unhide HB⟩
            · rw [show decide (b = 0) = false from decide_eq_false qb]
              clear hd hN qd q1 q2
              go_enter Tryd.func31, Tryd.ntmps31
              go_wp2_with fail
              go_ret
              exact ⟨retB (by first | rfl | (simp; done) | (simp; omega)), unhide HB⟩
          · rw [show decide (d.size = 0) = false from decide_eq_false qd]
            replace hN := hN qd
            clear hd qd q1 q2
            go_enter Tryd.func31, Tryd.ntmps31
            go_wp2_with fail
            go_ret
            exact ⟨retB (by first | rfl | (simp; done) | (simp; omega)), unhide HB⟩
      · rw [named_no (by omega)]
        have q3 : ¬ k = 3 := fun e => q34 (Or.inl e)
        have q4 : ¬ k = 4 := fun e => q34 (Or.inr e)
        clear hd hN q34
        go_enter Tryd.func31, Tryd.ntmps31
        go_wp2_with fail
        go_ret
        exact ⟨retB (rfl), unhide HB⟩

set_option maxRecDepth 100000 in
set_option maxHeartbeats 2000000 in
theorem noteI (k h : Int) (d : ByteArray) (b t : Int) (w : World) (hd : d.size ≤ 2097152) :
    Calls Tryd.prog 20 #[.agg #[.int .i64 k, .int .i64 h, .string d, .int .i64 b, .int .i64 t]] w fun e w' => e = .returned (.bool (noteB k h d b t)) ∧ Below w.heap.size w w' := by
  have HB := hide (abP (w := w) (.cells #[.int .i64 k, .int .i64 h, .string d, .int .i64 b, .int .i64 t] 26))
  have hK := hide (fun v => namedI k h d b t v hd)
  unfold noteB
  generalize namedB k d b t = Z at *
  by_cases q1 : 0 ≤ h
  · by_cases q2 : h < 30
    · rw [show decide (0 ≤ h ∧ h ≤ 29) = true from decide_eq_true (by omega)]
      go_enter Tryd.func20, Tryd.ntmps20
      go_wp2_with fail
      refine (unhide hK _).mono ?_
      rintro e w1 ⟨rfl, hb1⟩
      have HB1 := hide (btP (unhide HB) hb1)
      clear hb1
      go_wp2_with fail
      go_ret
      exact ⟨retB (by first | rfl | (simp; done) | (simp; omega)), unhide HB1⟩
    · rw [show decide (0 ≤ h ∧ h ≤ 29) = false from decide_eq_false (by omega)]
      go_enter Tryd.func20, Tryd.ntmps20
      go_wp2_with fail
      go_ret
      exact ⟨retB (rfl), unhide HB⟩
  · rw [show decide (0 ≤ h ∧ h ≤ 29) = false from decide_eq_false (by omega)]
    go_enter Tryd.func20, Tryd.ntmps20
    go_wp2_with fail
    go_ret
    exact ⟨retB (rfl), unhide HB⟩

end Go.Proofs.YtjckdepcgjfomaaDoor
