/- The walk of laws.FnExactNoteOf: whatever the text, it answers true; nothing that was there is written. -/
import Derived.Test.YtjckdepcgjfomaaDoorWx
namespace Go.Proofs.YtjckdepcgjfomaaDoor
open Go.RowKit Go.Deep

set_option maxRecDepth 100000 in
set_option maxHeartbeats 2000000 in
theorem lawNoteOf_some (s : ByteArray) (te : TypeId) (pe : Value) (w : World) (hs : s.size ≤ 1048576) (hv : Wd w te pe) (n : NoteR) (hn : noteO s = some n) :
    Calls Tryd.prog 4 #[.string s] w fun e w' => e = .returned (.bool true) ∧ Below w.heap.size w w' := by
  have hS := hide (fun v => noteOfS s v (by omega))
  have hI := hide (fun v hv => noteOfI s te pe v (by omega) hv)
  rw [hn] at hS hI
  obtain ⟨K, H, D, B, T⟩ := n
  unfold ansO at hS hI
  have hE := hide (fun v => eqN K H D B T v)
  have HV := hide (fun v (hb : Below w.heap.size w v) => hv.on hb)
  have c1 : ¬ (1048576 : Int) < (s.size : Int) := by omega
  clear hs hv hn
  go_enter Tryd.func4, Tryd.ntmps4
  go_wp2_with fail
  refine (unhide hS _).mono ?_
  rintro e w2 ⟨rfl, hb2⟩
  have HB2 := hide hb2
  clear hb2
  go_wp2_with fail
  have HX := hide (heap_alloc_new w2 (.cells #[.int .i64 K, .int .i64 H, .string D, .int .i64 B, .int .i64 T] 26))
  have HB3 := hide (btP (unhide HB2) (abP (w := w2) (.cells #[.int .i64 K, .int .i64 H, .string D, .int .i64 B, .int .i64 T] 26)))
  refine (unhide hI _ (unhide HV _ (unhide HB3))).mono ?_
  rintro e w4 ⟨rfl, hb4⟩
  have HB4 := hide (btP (unhide HB3) hb4)
  have hX4 := (hb4.block w2.heap.size (by simp)).trans (unhide HX)
  have c10 : w4.cell? ⟨w2.heap.size, 0, none⟩ = some (.int .i64 K) := cell_of_row hX4 (by simp)
  have c11 : w4.cell? ⟨w2.heap.size, 1, none⟩ = some (.int .i64 H) := cell_of_row hX4 (by simp)
  have c12 : w4.cell? ⟨w2.heap.size, 2, none⟩ = some (.string D) := cell_of_row hX4 (by simp)
  have c13 : w4.cell? ⟨w2.heap.size, 3, none⟩ = some (.int .i64 B) := cell_of_row hX4 (by simp)
  have c14 : w4.cell? ⟨w2.heap.size, 4, none⟩ = some (.int .i64 T) := cell_of_row hX4 (by simp)
  have c20 := below_some (abP (w := w4) (.cells #[.int .i64 K, .int .i64 H, .string D, .int .i64 B, .int .i64 T] 26)) c10
  have c21 := below_some (abP (w := w4) (.cells #[.int .i64 K, .int .i64 H, .string D, .int .i64 B, .int .i64 T] 26)) c11
  have c22 := below_some (abP (w := w4) (.cells #[.int .i64 K, .int .i64 H, .string D, .int .i64 B, .int .i64 T] 26)) c12
  have c23 := below_some (abP (w := w4) (.cells #[.int .i64 K, .int .i64 H, .string D, .int .i64 B, .int .i64 T] 26)) c13
  have c24 := below_some (abP (w := w4) (.cells #[.int .i64 K, .int .i64 H, .string D, .int .i64 B, .int .i64 T] 26)) c14
  clear hb4 hX4
  go_wp2_with fail
  refine (unhide hE _).mono ?_
  rintro e w6 ⟨rfl, hb6⟩
  have HB6 := hide (btP (btP (unhide HB4) (abP _)) hb6)
  clear hb6
  go_wp2_with fail
  go_ret
  exact ⟨rfl, unhide HB6⟩

set_option maxRecDepth 100000 in
set_option maxHeartbeats 2000000 in
theorem lawNoteOf_none (s : ByteArray) (te : TypeId) (pe : Value) (w : World) (hs : s.size ≤ 1048576) (hv : Wd w te pe) (hn : noteO s = none) :
    Calls Tryd.prog 4 #[.string s] w fun e w' => e = .returned (.bool true) ∧ Below w.heap.size w w' := by
  have hS := hide (fun v => noteOfS s v (by omega))
  have hI := hide (fun v hv => noteOfI s te pe v (by omega) hv)
  rw [hn] at hS hI
  unfold ansO at hS hI
  have hE := hide (fun v => eqN 0 0 ⟨#[]⟩ 0 0 v)
  have HV := hide (fun v (hb : Below w.heap.size w v) => hv.on hb)
  have c1 : ¬ (1048576 : Int) < (s.size : Int) := by omega
  clear hs hv hn
  go_enter Tryd.func4, Tryd.ntmps4
  go_wp2_with fail
  refine (unhide hS _).mono ?_
  rintro e w2 ⟨rfl, hb2⟩
  have HB2 := hide hb2
  clear hb2
  go_wp2_with fail
  have HX := hide (heap_alloc_new w2 (.cells #[.int .i64 0, .int .i64 0, .string ⟨#[]⟩, .int .i64 0, .int .i64 0] 26))
  have HB3 := hide (btP (unhide HB2) (abP (w := w2) (.cells #[.int .i64 0, .int .i64 0, .string ⟨#[]⟩, .int .i64 0, .int .i64 0] 26)))
  refine (unhide hI _ (unhide HV _ (unhide HB3))).mono ?_
  rintro e w4 ⟨rfl, hb4⟩
  have HB4 := hide (btP (unhide HB3) hb4)
  have hX4 := (hb4.block w2.heap.size (by simp)).trans (unhide HX)
  have c10 : w4.cell? ⟨w2.heap.size, 0, none⟩ = some (.int .i64 0) := cell_of_row hX4 (by simp)
  have c11 : w4.cell? ⟨w2.heap.size, 1, none⟩ = some (.int .i64 0) := cell_of_row hX4 (by simp)
  have c12 : w4.cell? ⟨w2.heap.size, 2, none⟩ = some (.string ⟨#[]⟩) := cell_of_row hX4 (by simp)
  have c13 : w4.cell? ⟨w2.heap.size, 3, none⟩ = some (.int .i64 0) := cell_of_row hX4 (by simp)
  have c14 : w4.cell? ⟨w2.heap.size, 4, none⟩ = some (.int .i64 0) := cell_of_row hX4 (by simp)
  have c20 := below_some (abP (w := w4) (.cells #[.int .i64 0, .int .i64 0, .string ⟨#[]⟩, .int .i64 0, .int .i64 0] 26)) c10
  have c21 := below_some (abP (w := w4) (.cells #[.int .i64 0, .int .i64 0, .string ⟨#[]⟩, .int .i64 0, .int .i64 0] 26)) c11
  have c22 := below_some (abP (w := w4) (.cells #[.int .i64 0, .int .i64 0, .string ⟨#[]⟩, .int .i64 0, .int .i64 0] 26)) c12
  have c23 := below_some (abP (w := w4) (.cells #[.int .i64 0, .int .i64 0, .string ⟨#[]⟩, .int .i64 0, .int .i64 0] 26)) c13
  have c24 := below_some (abP (w := w4) (.cells #[.int .i64 0, .int .i64 0, .string ⟨#[]⟩, .int .i64 0, .int .i64 0] 26)) c14
  clear hb4 hX4
  go_wp2_with fail
  refine (unhide hE _).mono ?_
  rintro e w6 ⟨rfl, hb6⟩
  have HB6 := hide (btP (btP (unhide HB4) (abP _)) hb6)
  clear hb6
  go_wp2_with fail
  go_ret
  exact ⟨rfl, unhide HB6⟩

set_option maxRecDepth 100000 in
set_option maxHeartbeats 2000000 in
theorem lawNoteOf_long (s : ByteArray) (w : World) (hs : ¬ s.size ≤ 1048576) :
    Calls Tryd.prog 4 #[.string s] w fun e w' => e = .returned (.bool true) ∧ Below w.heap.size w w' := by
  have c1 : (1048576 : Int) < (s.size : Int) := by omega
  clear hs
  go_enter Tryd.func4, Tryd.ntmps4
  go_wp2_with fail
  go_ret
  exact ⟨rfl, Below.refl _ _⟩

theorem lawNoteOf (s : ByteArray) (te : TypeId) (pe : Value) (w : World) (hv : Wd w te pe) :
    Calls Tryd.prog 4 #[.string s] w fun e w' => e = .returned (.bool true) ∧ Below w.heap.size w w' := by
  by_cases hs : s.size ≤ 1048576
  · cases hn : noteO s with
    | none => exact lawNoteOf_none s te pe w hs hv hn
    | some n => exact lawNoteOf_some s te pe w hs hv n hn
  · exact lawNoteOf_long s w hs

end Go.Proofs.YtjckdepcgjfomaaDoor
