/- The walks of laws.FnExactLetterOk, FnExactLetterTry, FnExactLetterEnd and FnExactSpent: whatever the letter, each answers true; nothing that was there is written. -/
import Derived.Test.YthlihaanopedmaaYe
namespace Go.Proofs.Ythlihaanopedmaa
open Go.RowKit Go.Deep

set_option maxRecDepth 100000 in
set_option maxHeartbeats 2000000 in
theorem lawLetterOk (d : ByteArray) (b s t n : Int) (w : World) (hd : d.size ≤ maxLen) :
    Calls Try.prog 3 #[.agg #[.string d, .int .i64 b, .int .i64 s, .int .i64 t, .int .i64 n]] w fun e w' => e = .returned (.bool true) ∧ Below w.heap.size w w' := by
  have HB0 := hide (abP (w := w) (.cells #[.string d, .int .i64 b, .int .i64 s, .int .i64 t, .int .i64 n] 23))
  have HX := hide (RowL.new 23 w d b s t n)
  have h7 := hide (fun v => szL d b s t n v hd)
  by_cases hw : ((d.size : Nat) : Int) ≤ 1048576
  · have hdz : d.size ≤ 2097152 := by omega
    rw [szv_yes hw] at h7
    obtain ⟨left, hleft⟩ : ∃ left : Int, left = 1048576 - ((d.size : Nat) : Int) := ⟨_, rfl⟩
    rw [← hleft] at h7
    have hln : ¬ left < 0 := by omega
    have h9 := hide (fun v => toL d b s t n v)
    have hS := hide (fun v => okS d b s t n v hdz)
    have hI := hide (fun v => okI d b s t n v hdz)
    generalize letB d b s t n = ok at *
    have hne : (ok != ok) = false := by simp
    clear hleft hw hd hdz
    go_enter Try.func3, Try.ntmps3
    go_wp2_with fail
    refine (unhide h7 _).mono ?_
    rintro e w2 ⟨rfl, hb2⟩
    have HB2 := hide (btP (unhide HB0) hb2)
    have HX2 := hide ((unhide HX).below hb2)
    clear hb2
    obtain ⟨c0, c1, c2, c3, c4⟩ := (unhide HX2).facts
    go_wp2_with fail
    refine (unhide h9 _).mono ?_
    rintro e w3 ⟨rfl, hb3⟩
    have HB3 := hide (btP (unhide HB2) hb3)
    have HX3 := hide ((unhide HX2).below hb3)
    clear hb3 c0 c1 c2 c3 c4
    obtain ⟨c0, c1, c2, c3, c4⟩ := (unhide HX3).facts
    go_wp2_with fail
    refine (unhide hS _).mono ?_
    rintro e w4 ⟨rfl, hb4⟩
    have HB4 := hide (btP (unhide HB3) hb4)
    have HX4 := hide ((unhide HX3).below hb4)
    clear hb4 c0 c1 c2 c3 c4
    obtain ⟨c0, c1, c2, c3, c4⟩ := (unhide HX4).facts
    go_wp2_with fail
    refine (unhide h9 _).mono ?_
    rintro e w5 ⟨rfl, hb5⟩
    have HB5 := hide (btP (unhide HB4) hb5)
    clear hb5 c0 c1 c2 c3 c4
    go_wp2_with fail
    refine (unhide hI _).mono ?_
    rintro e w6 ⟨rfl, hb6⟩
    have HB6 := hide (btP (unhide HB5) hb6)
    clear hb6
    go_wp2_with fail
    go_ret
    exact ⟨rfl, unhide HB6⟩
  · rw [szv_no (by omega)] at h7
    clear hw hd
    go_enter Try.func3, Try.ntmps3
    go_wp2_with fail
    refine (unhide h7 _).mono ?_
    rintro e w2 ⟨rfl, hb2⟩
    have HB2 := hide (btP (unhide HB0) hb2)
    clear hb2
    go_wp2_with fail
    go_ret
    exact ⟨rfl, unhide HB2⟩

set_option maxRecDepth 100000 in
set_option maxHeartbeats 2000000 in
theorem lawSpent (d : ByteArray) (b s t n : Int) (now : Int) (w : World) (hd : d.size ≤ maxLen) :
    Calls Try.prog 6 #[.agg #[.string d, .int .i64 b, .int .i64 s, .int .i64 t, .int .i64 n], .int .i64 now] w fun e w' => e = .returned (.bool true) ∧ Below w.heap.size w w' := by
  have HB0 := hide (abP (w := w) (.cells #[.string d, .int .i64 b, .int .i64 s, .int .i64 t, .int .i64 n] 23))
  have HX := hide (RowL.new 23 w d b s t n)
  have h7 := hide (fun v => szL d b s t n v hd)
  by_cases hw : ((d.size : Nat) : Int) ≤ 1048576
  · have hdz : d.size ≤ 2097152 := by omega
    rw [szv_yes hw] at h7
    obtain ⟨left, hleft⟩ : ∃ left : Int, left = 1048576 - ((d.size : Nat) : Int) := ⟨_, rfl⟩
    rw [← hleft] at h7
    have hln : ¬ left < 0 := by omega
    have h9 := hide (fun v => toL d b s t n v)
    have hS := hide (fun v => spentS d b s t n now v)
    have hI := hide (fun v => spentI d b s t n now v)
    generalize spentB s t n now = ok at *
    have hne : (ok != ok) = false := by simp
    clear hleft hw hd hdz
    go_enter Try.func6, Try.ntmps6
    go_wp2_with fail
    refine (unhide h7 _).mono ?_
    rintro e w2 ⟨rfl, hb2⟩
    have HB2 := hide (btP (unhide HB0) hb2)
    have HX2 := hide ((unhide HX).below hb2)
    clear hb2
    obtain ⟨c0, c1, c2, c3, c4⟩ := (unhide HX2).facts
    go_wp2_with fail
    refine (unhide h9 _).mono ?_
    rintro e w3 ⟨rfl, hb3⟩
    have HB3 := hide (btP (unhide HB2) hb3)
    have HX3 := hide ((unhide HX2).below hb3)
    clear hb3 c0 c1 c2 c3 c4
    obtain ⟨c0, c1, c2, c3, c4⟩ := (unhide HX3).facts
    go_wp2_with fail
    refine (unhide hS _).mono ?_
    rintro e w4 ⟨rfl, hb4⟩
    have HB4 := hide (btP (unhide HB3) hb4)
    have HX4 := hide ((unhide HX3).below hb4)
    clear hb4 c0 c1 c2 c3 c4
    obtain ⟨c0, c1, c2, c3, c4⟩ := (unhide HX4).facts
    go_wp2_with fail
    refine (unhide h9 _).mono ?_
    rintro e w5 ⟨rfl, hb5⟩
    have HB5 := hide (btP (unhide HB4) hb5)
    clear hb5 c0 c1 c2 c3 c4
    go_wp2_with fail
    refine (unhide hI _).mono ?_
    rintro e w6 ⟨rfl, hb6⟩
    have HB6 := hide (btP (unhide HB5) hb6)
    clear hb6
    go_wp2_with fail
    go_ret
    exact ⟨rfl, unhide HB6⟩
  · rw [szv_no (by omega)] at h7
    clear hw hd
    go_enter Try.func6, Try.ntmps6
    go_wp2_with fail
    refine (unhide h7 _).mono ?_
    rintro e w2 ⟨rfl, hb2⟩
    have HB2 := hide (btP (unhide HB0) hb2)
    clear hb2
    go_wp2_with fail
    go_ret
    exact ⟨rfl, unhide HB2⟩

set_option maxRecDepth 100000 in
set_option maxHeartbeats 2000000 in
theorem lawLetterEnd (d : ByteArray) (b s t n : Int) (g : Bool) (w : World) (hd : d.size ≤ maxLen) :
    Calls Try.prog 5 #[.agg #[.string d, .int .i64 b, .int .i64 s, .int .i64 t, .int .i64 n], .bool g] w fun e w' => e = .returned (.bool true) ∧ Below w.heap.size w w' := by
  have HB0 := hide (abP (w := w) (.cells #[.string d, .int .i64 b, .int .i64 s, .int .i64 t, .int .i64 n] 23))
  have HX := hide (RowL.new 23 w d b s t n)
  have h7 := hide (fun v => szL d b s t n v hd)
  by_cases hw : ((d.size : Nat) : Int) ≤ 1048576
  · have hdz : d.size ≤ 2097152 := by omega
    rw [szv_yes hw] at h7
    obtain ⟨left, hleft⟩ : ∃ left : Int, left = 1048576 - ((d.size : Nat) : Int) := ⟨_, rfl⟩
    rw [← hleft] at h7
    have hln : ¬ left < 0 := by omega
    have h9 := hide (fun v => toL d b s t n v)
    have hS := hide (fun v => endS d b s t n g v)
    have hI := hide (fun v => endI d b s t n g v hdz)
    generalize endX s g = ts at *
    have hE := hide (fun v => eqL d b ts t n v)
    clear hleft hw hd hdz
    go_enter Try.func5, Try.ntmps5
    go_wp2_with fail
    refine (unhide h7 _).mono ?_
    rintro e w2 ⟨rfl, hb2⟩
    have HB2 := hide (btP (unhide HB0) hb2)
    have HX2 := hide ((unhide HX).below hb2)
    clear hb2
    obtain ⟨c0, c1, c2, c3, c4⟩ := (unhide HX2).facts
    go_wp2_with fail
    refine (unhide h9 _).mono ?_
    rintro e w3 ⟨rfl, hb3⟩
    have HB3 := hide (btP (unhide HB2) hb3)
    have HX3 := hide ((unhide HX2).below hb3)
    clear hb3 c0 c1 c2 c3 c4
    obtain ⟨c0, c1, c2, c3, c4⟩ := (unhide HX3).facts
    go_wp2_with fail
    refine (unhide hS _).mono ?_
    rintro e w4 ⟨rfl, hb4⟩
    have HB4 := hide (btP (unhide HB3) hb4)
    have HX4 := hide ((unhide HX3).below hb4)
    clear hb4 c0 c1 c2 c3 c4
    obtain ⟨c0, c1, c2, c3, c4⟩ := ((unhide HX4).below (abP (.cells #[.string d, .int .i64 b, .int .i64 ts, .int .i64 t, .int .i64 n] 26))).facts
    go_wp2_with fail
    refine (unhide h9 _).mono ?_
    rintro e w5 ⟨rfl, hb5⟩
    have hbx : Below w4.heap.size w4 (w4.alloc (.cells #[.string d, .int .i64 b, .int .i64 ts, .int .i64 t, .int .i64 n] 26)) := abP _
    have HB5 := hide (btP (btP (unhide HB4) hbx) hb5)
    have HY5 := hide ((RowL.new 26 w4 d b ts t n).below hb5)
    clear hb5 hbx c0 c1 c2 c3 c4
    go_wp2_with fail
    refine (unhide hI _).mono ?_
    rintro e w6 ⟨rfl, hb6⟩
    have hby : Below w6.heap.size w6 (w6.alloc (.cells #[.string d, .int .i64 b, .int .i64 ts, .int .i64 t, .int .i64 n] 26)) := abP _
    have HB6 := hide (btP (btP (unhide HB5) hb6) hby)
    obtain ⟨d0, d1, d2, d3, d4⟩ := (((unhide HY5).below hb6).below hby).facts
    have hlt : w4.heap.size < w6.heap.size := ((unhide HY5).below hb6).lt
    clear hb6 hby
    go_wp2_with fail
    refine (unhide hE _).mono ?_
    rintro e w7 ⟨rfl, hb7⟩
    have HB7 := hide (btP (unhide HB6) hb7)
    clear hb7
    go_wp2_with fail
    go_ret
    exact ⟨rfl, unhide HB7⟩
  · rw [szv_no (by omega)] at h7
    clear hw hd
    go_enter Try.func5, Try.ntmps5
    go_wp2_with fail
    refine (unhide h7 _).mono ?_
    rintro e w2 ⟨rfl, hb2⟩
    have HB2 := hide (btP (unhide HB0) hb2)
    clear hb2
    go_wp2_with fail
    go_ret
    exact ⟨rfl, unhide HB2⟩

set_option maxRecDepth 100000 in
set_option maxHeartbeats 2000000 in
theorem lawLetterTry (d : ByteArray) (b s t n : Int) (now : Int) (w : World) (hd : d.size ≤ maxLen) :
    Calls Try.prog 4 #[.agg #[.string d, .int .i64 b, .int .i64 s, .int .i64 t, .int .i64 n], .int .i64 now] w fun e w' => e = .returned (.bool true) ∧ Below w.heap.size w w' := by
  have HB0 := hide (abP (w := w) (.cells #[.string d, .int .i64 b, .int .i64 s, .int .i64 t, .int .i64 n] 23))
  have HX := hide (RowL.new 23 w d b s t n)
  have h7 := hide (fun v => szL d b s t n v hd)
  by_cases hw : ((d.size : Nat) : Int) ≤ 1048576
  · have hdz : d.size ≤ 2097152 := by omega
    rw [szv_yes hw] at h7
    obtain ⟨left, hleft⟩ : ∃ left : Int, left = 1048576 - ((d.size : Nat) : Int) := ⟨_, rfl⟩
    rw [← hleft] at h7
    have hln : ¬ left < 0 := by omega
    have h9 := hide (fun v => toL d b s t n v)
    have hS := hide (fun v => tryS d b s t n now v hdz)
    have hI := hide (fun v => tryI d b s t n now v hdz)
    generalize tryB d b s t n now = ok at *
    generalize tryT d b s t n now = tt at *
    generalize tryN d b s t n now = tn at *
    have hne : (ok != ok) = false := by simp
    have hE := hide (fun v => eqL d b s tt tn v)
    clear hleft hw hd hdz
    go_enter Try.func4, Try.ntmps4
    go_wp2_with fail
    refine (unhide h7 _).mono ?_
    rintro e w2 ⟨rfl, hb2⟩
    have HB2 := hide (btP (unhide HB0) hb2)
    have HX2 := hide ((unhide HX).below hb2)
    clear hb2
    obtain ⟨c0, c1, c2, c3, c4⟩ := (unhide HX2).facts
    go_wp2_with fail
    refine (unhide h9 _).mono ?_
    rintro e w3 ⟨rfl, hb3⟩
    have HB3 := hide (btP (unhide HB2) hb3)
    have HX3 := hide ((unhide HX2).below hb3)
    clear hb3 c0 c1 c2 c3 c4
    obtain ⟨c0, c1, c2, c3, c4⟩ := (unhide HX3).facts
    go_wp2_with fail
    refine (unhide hS _).mono ?_
    rintro e w4 ⟨rfl, hb4⟩
    have HB4 := hide (btP (unhide HB3) hb4)
    have HX4 := hide ((unhide HX3).below hb4)
    clear hb4 c0 c1 c2 c3 c4
    obtain ⟨c0, c1, c2, c3, c4⟩ := ((unhide HX4).below (abP (.cells #[.string d, .int .i64 b, .int .i64 s, .int .i64 tt, .int .i64 tn] 26))).facts
    go_wp2_with fail
    refine (unhide h9 _).mono ?_
    rintro e w5 ⟨rfl, hb5⟩
    have hbx : Below w4.heap.size w4 (w4.alloc (.cells #[.string d, .int .i64 b, .int .i64 s, .int .i64 tt, .int .i64 tn] 26)) := abP _
    have HB5 := hide (btP (btP (unhide HB4) hbx) hb5)
    have HY5 := hide ((RowL.new 26 w4 d b s tt tn).below hb5)
    clear hb5 hbx c0 c1 c2 c3 c4
    go_wp2_with fail
    refine (unhide hI _).mono ?_
    rintro e w6 ⟨rfl, hb6⟩
    have hby : Below w6.heap.size w6 (w6.alloc (.cells #[.string d, .int .i64 b, .int .i64 s, .int .i64 tt, .int .i64 tn] 26)) := abP _
    have HB6 := hide (btP (btP (unhide HB5) hb6) hby)
    obtain ⟨d0, d1, d2, d3, d4⟩ := (((unhide HY5).below hb6).below hby).facts
    have hlt : w4.heap.size < w6.heap.size := ((unhide HY5).below hb6).lt
    clear hb6 hby
    go_wp2_with fail
    refine (unhide hE _).mono ?_
    rintro e w7 ⟨rfl, hb7⟩
    have HB7 := hide (btP (unhide HB6) hb7)
    clear hb7
    go_wp2_with fail
    go_ret
    exact ⟨rfl, unhide HB7⟩
  · rw [szv_no (by omega)] at h7
    clear hw hd
    go_enter Try.func4, Try.ntmps4
    go_wp2_with fail
    refine (unhide h7 _).mono ?_
    rintro e w2 ⟨rfl, hb2⟩
    have HB2 := hide (btP (unhide HB0) hb2)
    clear hb2
    go_wp2_with fail
    go_ret
    exact ⟨rfl, unhide HB2⟩


end Go.Proofs.Ythlihaanopedmaa
