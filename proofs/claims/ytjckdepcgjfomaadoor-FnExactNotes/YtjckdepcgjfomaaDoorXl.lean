/- The walk of laws.FnExactNoteText: whatever the note, it answers true; nothing that was there is written. -/
import Derived.Test.YtjckdepcgjfomaaDoorXs1
import Derived.Test.YtjckdepcgjfomaaDoorXs2
import Derived.Test.YtjckdepcgjfomaaDoorXs3
import Derived.Test.YtjckdepcgjfomaaDoorXs4
import Derived.Test.YtjckdepcgjfomaaDoorXi
namespace Go.Proofs.YtjckdepcgjfomaaDoor
open Go.RowKit Go.Deep

set_option maxRecDepth 100000 in
set_option maxHeartbeats 2000000 in
theorem textS_no (k h : Int) (d : ByteArray) (b t : Int) (w : World) (hd : d.size ≤ 2097152) (ok : noteB k h d b t = false) :
    Calls Tryd.prog 7 #[.agg #[.int .i64 k, .int .i64 h, .string d, .int .i64 b, .int .i64 t]] w fun e w' => e = .returned (.string ⟨#[]⟩) ∧ Below w.heap.size w w' := by
  have hO := hide (fun v => noteS k h d b t v hd)
  rw [ok] at hO
  have HB0 := hide (abP (w := w) (.cells #[.int .i64 k, .int .i64 h, .string d, .int .i64 b, .int .i64 t] 26))
  clear ok hd
  go_enter Tryd.func7, Tryd.ntmps7
  go_wp2_with fail
  refine (unhide hO _).mono ?_
  rintro e w2 ⟨rfl, hb2⟩
  have HB2 := hide (btP (unhide HB0) hb2)
  clear hb2
  go_wp2_with fail
  go_ret
  exact ⟨rfl, unhide HB2⟩
theorem textS_any (k h : Int) (d : ByteArray) (b t : Int) (w : World) (hd : d.size ≤ 2097152) :
    Calls Tryd.prog 7 #[.agg #[.int .i64 k, .int .i64 h, .string d, .int .i64 b, .int .i64 t]] w fun e w' => e = .returned (.string (textN k h d b t)) ∧ Below w.heap.size w w' := by
  cases ok : noteB k h d b t with
  | false =>
    rw [show textN k h d b t = ⟨#[]⟩ by unfold textN; rw [ok]; rfl]
    exact textS_no k h d b t w hd ok
  | true =>
    rw [show textN k h d b t = lineT (wordsN k h d b t) by unfold textN; rw [if_pos ok]]
    obtain ⟨hh, ⟨rfl, hd1, hb, rfl⟩ | ⟨rfl, rfl, rfl, ht⟩ | ⟨rfl, rfl, rfl, rfl⟩ | ⟨rfl, rfl, rfl, rfl⟩⟩ := note_cases ok
    · exact textS1 h d b w hh hd1 hb ok
    · exact textS2 h t w hh ht ok
    · exact textS3 h w hh ok
    · exact textS4 h w hh ok

set_option maxRecDepth 100000 in
set_option maxHeartbeats 2000000 in
theorem textI_no (k h : Int) (d : ByteArray) (b t : Int) (w : World) (hd : d.size ≤ 2097152) (ok : noteB k h d b t = false) :
    Calls Tryd.prog 9 #[.agg #[.int .i64 k, .int .i64 h, .string d, .int .i64 b, .int .i64 t]] w fun e w' => e = .returned (.string ⟨#[]⟩) ∧ Below w.heap.size w w' := by
  have hO := hide (fun v => noteI k h d b t v hd)
  rw [ok] at hO
  have HB0 := hide (abP (w := w) (.cells #[.int .i64 k, .int .i64 h, .string d, .int .i64 b, .int .i64 t] 26))
  clear ok hd
  go_enter Tryd.func9, Tryd.ntmps9
  go_wp2_with fail
  refine (unhide hO _).mono ?_
  rintro e w2 ⟨rfl, hb2⟩
  have HB2 := hide (btP (unhide HB0) hb2)
  clear hb2
  go_wp2_with fail
  go_ret
  exact ⟨rfl, unhide HB2⟩
theorem textI_any (k h : Int) (d : ByteArray) (b t : Int) (w : World) (hd : d.size ≤ 2097152) (htab : Tab w) :
    Calls Tryd.prog 9 #[.agg #[.int .i64 k, .int .i64 h, .string d, .int .i64 b, .int .i64 t]] w fun e w' => e = .returned (.string (textN k h d b t)) ∧ Below w.heap.size w w' := by
  cases ok : noteB k h d b t with
  | false =>
    rw [show textN k h d b t = ⟨#[]⟩ by unfold textN; rw [ok]; rfl]
    exact textI_no k h d b t w hd ok
  | true =>
    rw [show textN k h d b t = lineT (wordsN k h d b t) by unfold textN; rw [if_pos ok]]
    obtain ⟨hh, ⟨rfl, hd1, hb, rfl⟩ | ⟨rfl, rfl, rfl, ht⟩ | ⟨rfl, rfl, rfl, rfl⟩ | ⟨rfl, rfl, rfl, rfl⟩⟩ := note_cases ok
    · exact textI1 h d b w hh hd1 hb ok htab
    · exact textI2 h t w hh ht ok htab
    · exact textI3 h w hh ok htab
    · exact textI4 h w hh ok htab

/-- The cells of a note in a block of its own. -/
def RowN (ty : TypeId) (w : World) (p : Nat) (k h : Int) (d : ByteArray) (b t : Int) : Prop := w.heap[p]? = some (.cells #[.int .i64 k, .int .i64 h, .string d, .int .i64 b, .int .i64 t] ty (0, 0))
theorem RowN.new (ty : TypeId) (w : World) (k h : Int) (d : ByteArray) (b t : Int) : RowN ty (w.alloc (.cells #[.int .i64 k, .int .i64 h, .string d, .int .i64 b, .int .i64 t] ty)) w.heap.size k h d b t := heap_alloc_new w _
theorem RowN.below {ty : TypeId} {w w' : World} {p : Nat} {k h : Int} {d : ByteArray} {b t : Int} (hr : RowN ty w p k h d b t) (hb : Below w.heap.size w w') : RowN ty w' p k h d b t := (hb.block p (Array.getElem?_eq_some_iff.1 hr).1).trans hr
theorem RowN.facts {ty : TypeId} {w : World} {p : Nat} {k h : Int} {d : ByteArray} {b t : Int} (hr : RowN ty w p k h d b t) :
    w.cell? ⟨p, 0, none⟩ = some (.int .i64 k) ∧ w.cell? ⟨p, 1, none⟩ = some (.int .i64 h) ∧ w.cell? ⟨p, 2, none⟩ = some (.string d) ∧ w.cell? ⟨p, 3, none⟩ = some (.int .i64 b) ∧ w.cell? ⟨p, 4, none⟩ = some (.int .i64 t) :=
  ⟨cell_of_row hr (by simp), cell_of_row hr (by simp), cell_of_row hr (by simp), cell_of_row hr (by simp), cell_of_row hr (by simp)⟩

set_option maxRecDepth 100000 in
set_option maxHeartbeats 2000000 in
theorem lawNoteText (k h : Int) (d : ByteArray) (b t : Int) (w : World) (hd : d.size ≤ maxLen) (htab : Tab w) :
    Calls Tryd.prog 3 #[.agg #[.int .i64 k, .int .i64 h, .string d, .int .i64 b, .int .i64 t]] w fun e w' => e = .returned (.bool true) ∧ Below w.heap.size w w' := by
  have HB0 := hide (abP (w := w) (.cells #[.int .i64 k, .int .i64 h, .string d, .int .i64 b, .int .i64 t] 23))
  have HX := hide (RowN.new 23 w k h d b t)
  have HTB := hide (fun v (hb : Below w.heap.size w v) => htab.on hb)
  have h7 := hide (fun v => szN k h d b t 1048576 (by omega) (by omega) v hd)
  by_cases hw : ((d.size : Nat) : Int) ≤ 1048576
  · have hdz : d.size ≤ 2097152 := by omega
    rw [szv_yes hw] at h7
    obtain ⟨left, hleft⟩ : ∃ left : Int, left = 1048576 - ((d.size : Nat) : Int) := ⟨_, rfl⟩
    rw [← hleft] at h7
    have hln : ¬ left < 0 := by omega
    have h9 := hide (fun v => toN k h d b t v)
    have hS := hide (fun v => textS_any k h d b t v hdz)
    have hI := hide (fun v hv => textI_any k h d b t v hdz hv)
    generalize textN k h d b t = ok at *
    clear hleft hw hd hdz htab
    go_enter Tryd.func3, Tryd.ntmps3
    go_wp2_with fail
    refine (unhide h7 _).mono ?_
    rintro e w2 ⟨rfl, hb2⟩
    have HB2 := hide (btP (unhide HB0) hb2)
    have HX2 := hide ((unhide HX).below hb2)
    clear hb2
    obtain ⟨c0, c1, c2, c3, c4⟩ := (unhide HX2).facts
    go_wp2_with fail
    refine (unhide h9 _).mono ?_
    rintro e w3 ⟨rfl, hb3⟩
    have HB3 := hide (btP (unhide HB2) hb3)
    have HX3 := hide ((unhide HX2).below hb3)
    clear hb3 c0 c1 c2 c3 c4
    obtain ⟨c0, c1, c2, c3, c4⟩ := (unhide HX3).facts
    go_wp2_with fail
    refine (unhide hS _).mono ?_
    rintro e w4 ⟨rfl, hb4⟩
    have HB4 := hide (btP (unhide HB3) hb4)
    have HX4 := hide ((unhide HX3).below hb4)
    clear hb4 c0 c1 c2 c3 c4
    obtain ⟨c0, c1, c2, c3, c4⟩ := (unhide HX4).facts
    go_wp2_with fail
    refine (unhide h9 _).mono ?_
    rintro e w5 ⟨rfl, hb5⟩
    have HB5 := hide (btP (unhide HB4) hb5)
    clear hb5 c0 c1 c2 c3 c4
    go_wp2_with fail
    refine (unhide hI _ (unhide HTB _ (unhide HB5))).mono ?_
    rintro e w6 ⟨rfl, hb6⟩
    have HB6 := hide (btP (unhide HB5) hb6)
    clear hb6
    go_wp2_with fail
    go_ret
    exact ⟨rfl, unhide HB6⟩
  · rw [szv_no (by omega)] at h7
    clear hw hd htab
    go_enter Tryd.func3, Tryd.ntmps3
    go_wp2_with fail
    refine (unhide h7 _).mono ?_
    rintro e w2 ⟨rfl, hb2⟩
    have HB2 := hide (btP (unhide HB0) hb2)
    clear hb2
    go_wp2_with fail
    go_ret
    exact ⟨rfl, unhide HB2⟩

end Go.Proofs.YtjckdepcgjfomaaDoor
