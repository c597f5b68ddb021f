/- The text of a note: the walk of spec.NoteText at kind 2; nothing that was there is written. -/
import Derived.Test.YtjckdepcgjfomaaDoorXs
import Derived.Deep.Cut
import Derived.Deep.DeepCutAuto
namespace Go.Proofs.YtjckdepcgjfomaaDoor
open Go.RowKit Go.Deep

set_option maxRecDepth 100000 in
set_option maxHeartbeats 2000000 in
theorem textS2 (h t : Int) (w : World) (hh : 0 ≤ h ∧ h ≤ 29) (ht : 0 ≤ t ∧ t ≤ 100000) (ok : noteB 2 h ⟨#[]⟩ 0 t = true) :
    Calls Tryd.prog 7 #[.agg #[.int .i64 2, .int .i64 h, .string ⟨#[]⟩, .int .i64 0, .int .i64 t]] w fun e w' => e = .returned (.string (lineT [⟨#[116, 114, 121]⟩, dig h, dig t])) ∧ Below w.heap.size w w' := by
  obtain ⟨A1, A2, A3, A4, A5, rA1, rA2, rA3, rA4, rA5, HE⟩ := chain3 (⟨#[116, 114, 121]⟩) (dig h) (dig t) (by decide) (Nat.le_trans (dig_size hh.1 (by omega)) (by omega)) (Nat.le_trans (dig_size ht.1 (by omega)) (by omega))
  have hO := hide (fun v => noteS 2 h ⟨#[]⟩ 0 t v (by decide))
  rw [ok] at hO
  have hH := hide (fun v => digS h v hh.1 (by omega))
  have hT := hide (fun v => digS t v ht.1 (by omega))
  have HB0 := hide (abP (w := w) (.cells #[.int .i64 2, .int .i64 h, .string ⟨#[]⟩, .int .i64 0, .int .i64 t] 26))
  have HX := hide (heap_alloc_new w (.cells #[.int .i64 2, .int .i64 h, .string ⟨#[]⟩, .int .i64 0, .int .i64 t] 26))
  clear ok hh ht
  generalize lineT [⟨#[116, 114, 121]⟩, dig h, dig t] = R at *
  generalize dig h = DH at *
  generalize dig t = DT at *
  go_enter Tryd.func7, Tryd.ntmps7
  go_wp2_with fail
  refine (unhide hO _).mono ?_
  rintro e w2 ⟨rfl, hb2⟩
  have HB2 := hide (btP (unhide HB0) hb2)
  have hX2 := (hb2.block _ (by simp)).trans (unhide HX)
  have x0 : w2.cell? ⟨w.heap.size, 0, none⟩ = some (.int .i64 2) := cell_of_row hX2 (by simp)
  have x1 : w2.cell? ⟨w.heap.size, 1, none⟩ = some (.int .i64 h) := cell_of_row hX2 (by simp)
  have x2 : w2.cell? ⟨w.heap.size, 2, none⟩ = some (.string ⟨#[]⟩) := cell_of_row hX2 (by simp)
  have x3 : w2.cell? ⟨w.heap.size, 3, none⟩ = some (.int .i64 0) := cell_of_row hX2 (by simp)
  have x4 : w2.cell? ⟨w.heap.size, 4, none⟩ = some (.int .i64 t) := cell_of_row hX2 (by simp)
  have xa0 := below_some (abP (w := w2) (.cells #[.string ⟨#[]⟩, .string ⟨#[116, 97, 107, 101]⟩, .string ⟨#[116, 114, 121]⟩, .string ⟨#[103, 111, 110, 101]⟩, .string ⟨#[98, 97, 99, 107]⟩] 9)) x0
  have xa1 := below_some (abP (w := w2) (.cells #[.string ⟨#[]⟩, .string ⟨#[116, 97, 107, 101]⟩, .string ⟨#[116, 114, 121]⟩, .string ⟨#[103, 111, 110, 101]⟩, .string ⟨#[98, 97, 99, 107]⟩] 9)) x1
  have xa2 := below_some (abP (w := w2) (.cells #[.string ⟨#[]⟩, .string ⟨#[116, 97, 107, 101]⟩, .string ⟨#[116, 114, 121]⟩, .string ⟨#[103, 111, 110, 101]⟩, .string ⟨#[98, 97, 99, 107]⟩] 9)) x2
  have xa3 := below_some (abP (w := w2) (.cells #[.string ⟨#[]⟩, .string ⟨#[116, 97, 107, 101]⟩, .string ⟨#[116, 114, 121]⟩, .string ⟨#[103, 111, 110, 101]⟩, .string ⟨#[98, 97, 99, 107]⟩] 9)) x3
  have xa4 := below_some (abP (w := w2) (.cells #[.string ⟨#[]⟩, .string ⟨#[116, 97, 107, 101]⟩, .string ⟨#[116, 114, 121]⟩, .string ⟨#[103, 111, 110, 101]⟩, .string ⟨#[98, 97, 99, 107]⟩] 9)) x4
  have hn1 : w.heap.size ≠ w2.heap.size := Nat.ne_of_lt (lt_of_cell x0)
  have hn2 : w2.heap.size ≠ w.heap.size := Nat.ne_of_gt (lt_of_cell x0)
  clear hb2 hX2
  go_wp2_with fail
  go_cut [3] (fun p wx => p = .string A2 ∧ Below w2.heap.size w2 wx)
  case first =>
    go_region_with (first | (go_at_call 19; refine (unhide hH _).mono ?_; rintro e w3 ⟨rfl, hb3⟩; have HB3 : Hid (Below w2.heap.size w2 w3) := by { first | exact drewB hb3 | exact drewA hb3 | exact btP (abP _) (drewB hb3) }; (try have zw := below_some (drewB hb3) (box_cell w2 #[.string ⟨#[]⟩, .string ⟨#[116, 97, 107, 101]⟩, .string ⟨#[116, 114, 121]⟩, .string ⟨#[103, 111, 110, 101]⟩, .string ⟨#[98, 97, 99, 107]⟩] 9 2 _ rfl)); have z0 := below_some (unhide HB3) x0; have z1 := below_some (unhide HB3) x1; have z2 := below_some (unhide HB3) x2; have z3 := below_some (unhide HB3) x3; have z4 := below_some (unhide HB3) x4; have za0 := below_some (abP (w := w3) (.cells #[.string ⟨#[]⟩, .string ⟨#[116, 97, 107, 101]⟩, .string ⟨#[116, 114, 121]⟩, .string ⟨#[103, 111, 110, 101]⟩, .string ⟨#[98, 97, 99, 107]⟩] 9)) z0; have za1 := below_some (abP (w := w3) (.cells #[.string ⟨#[]⟩, .string ⟨#[116, 97, 107, 101]⟩, .string ⟨#[116, 114, 121]⟩, .string ⟨#[103, 111, 110, 101]⟩, .string ⟨#[98, 97, 99, 107]⟩] 9)) z1; have za2 := below_some (abP (w := w3) (.cells #[.string ⟨#[]⟩, .string ⟨#[116, 97, 107, 101]⟩, .string ⟨#[116, 114, 121]⟩, .string ⟨#[103, 111, 110, 101]⟩, .string ⟨#[98, 97, 99, 107]⟩] 9)) z2; have za3 := below_some (abP (w := w3) (.cells #[.string ⟨#[]⟩, .string ⟨#[116, 97, 107, 101]⟩, .string ⟨#[116, 114, 121]⟩, .string ⟨#[103, 111, 110, 101]⟩, .string ⟨#[98, 97, 99, 107]⟩] 9)) z3; have za4 := below_some (abP (w := w3) (.cells #[.string ⟨#[]⟩, .string ⟨#[116, 97, 107, 101]⟩, .string ⟨#[116, 114, 121]⟩, .string ⟨#[103, 111, 110, 101]⟩, .string ⟨#[98, 97, 99, 107]⟩] 9)) z4; have hn3 : w.heap.size ≠ w3.heap.size := Nat.ne_of_lt (lt_of_cell z0); have hn4 : w3.heap.size ≠ w.heap.size := Nat.ne_of_gt (lt_of_cell z0); clear hb3))
    all_goals
      go_wp2_with fail
      go_meet
      refine ⟨rfl, ?_⟩
      first | exact unhide HB3 | exact btP (unhide HB3) (abP _)
  case rest =>
    obtain ⟨rfl, hbc⟩ := hcut
    have HB3 := hide hbc
    have z0 := below_some (unhide HB3) x0
    have z1 := below_some (unhide HB3) x1
    have z2 := below_some (unhide HB3) x2
    have z3 := below_some (unhide HB3) x3
    have z4 := below_some (unhide HB3) x4
    clear hbc xa0 xa1 xa2 xa3 xa4 x0 x1 x2 x3 x4
    go_wp2_with fail
    refine (unhide hT _).mono ?_
    rintro e w5 ⟨rfl, hb5⟩
    have HB5 : Hid (Below w.heap.size w w5) := btP (btP (unhide HB2) (unhide HB3)) hb5
    clear hb5
    go_wp2_with fail
    go_ret
    exact ⟨ret_str (unhide HE), unhide HB5⟩


end Go.Proofs.YtjckdepcgjfomaaDoor
