/- The text of a note: the walk of impl.NoteText, a theorem for each kind; nothing that was there is written. -/
import Derived.Test.YtjckdepcgjfomaaDoorXs
namespace Go.Proofs.YtjckdepcgjfomaaDoor
open Go.RowKit Go.Deep

theorem lineA4 (a0 a1 a2 a3 : ByteArray) (s0 : a0.size ≤ 64) (s1 : a1.size ≤ 64) (s2 : a2.size ≤ 64) (s3 : a3.size ≤ 64) (V : World) :
    Calls Tryd.prog 22 #[.slice (some ⟨V.heap.size, 0, none⟩) 4 4] (V.alloc (.cells #[.string a0, .string a1, .string a2, .string a3] 9)) fun e w' => e = .returned (.string (lineT [a0, a1, a2, a3])) ∧ Below (V.alloc (.cells #[.string a0, .string a1, .string a2, .string a3] 9)).heap.size (V.alloc (.cells #[.string a0, .string a1, .string a2, .string a3] 9)) w' := by
  refine lineI [a0, a1, a2, a3] V.heap.size 4 4 _ rfl (fun j x hj => ?_) (by simp) (by simp) (by simp) ?_
  · refine box_cell V _ 9 j _ ?_
    match j, hj with
    | 0, hj => simpa using hj
    | 1, hj => simpa using hj
    | 2, hj => simpa using hj
    | 3, hj => simpa using hj
    | j + 4, hj => simp at hj
  · simp [joinW, Lib.join, List.intercalate, List.intersperse]
    omega

theorem lineA3 (a0 a1 a2 : ByteArray) (s0 : a0.size ≤ 64) (s1 : a1.size ≤ 64) (s2 : a2.size ≤ 64) (V : World) :
    Calls Tryd.prog 22 #[.slice (some ⟨V.heap.size, 0, none⟩) 3 3] (V.alloc (.cells #[.string a0, .string a1, .string a2] 9)) fun e w' => e = .returned (.string (lineT [a0, a1, a2])) ∧ Below (V.alloc (.cells #[.string a0, .string a1, .string a2] 9)).heap.size (V.alloc (.cells #[.string a0, .string a1, .string a2] 9)) w' := by
  refine lineI [a0, a1, a2] V.heap.size 3 3 _ rfl (fun j x hj => ?_) (by simp) (by simp) (by simp) ?_
  · refine box_cell V _ 9 j _ ?_
    match j, hj with
    | 0, hj => simpa using hj
    | 1, hj => simpa using hj
    | 2, hj => simpa using hj
    | j + 3, hj => simp at hj
  · simp [joinW, Lib.join, List.intercalate, List.intersperse]
    omega

theorem lineA2 (a0 a1 : ByteArray) (s0 : a0.size ≤ 64) (s1 : a1.size ≤ 64) (V : World) :
    Calls Tryd.prog 22 #[.slice (some ⟨V.heap.size, 0, none⟩) 2 2] (V.alloc (.cells #[.string a0, .string a1] 9)) fun e w' => e = .returned (.string (lineT [a0, a1])) ∧ Below (V.alloc (.cells #[.string a0, .string a1] 9)).heap.size (V.alloc (.cells #[.string a0, .string a1] 9)) w' := by
  refine lineI [a0, a1] V.heap.size 2 2 _ rfl (fun j x hj => ?_) (by simp) (by simp) (by simp) ?_
  · refine box_cell V _ 9 j _ ?_
    match j, hj with
    | 0, hj => simpa using hj
    | 1, hj => simpa using hj
    | j + 2, hj => simp at hj
  · simp [joinW, Lib.join, List.intercalate, List.intersperse]
    omega

set_option maxRecDepth 100000 in
set_option maxHeartbeats 2000000 in
theorem textI1 (h : Int) (d : ByteArray) (b : Int) (w : World) (hh : 0 ≤ h ∧ h ≤ 29) (hd : d.size ≤ 10) (hb : 0 ≤ b ∧ b ≤ 1000000) (ok : noteB 1 h d b 0 = true) (htab : Tab w) :
    Calls Tryd.prog 9 #[.agg #[.int .i64 1, .int .i64 h, .string d, .int .i64 b, .int .i64 0]] w fun e w' => e = .returned (.string (lineT [⟨#[116, 97, 107, 101]⟩, dig h, d, dig b])) ∧ Below w.heap.size w w' := by
  have hO := hide (fun v => noteI 1 h d b 0 v (by omega))
  rw [ok] at hO
  have HTB := hide (fun v (hb : Below w.heap.size w v) => htab.on hb)
  have hH := hide (fun v hv => itoaP h v hh.1 (by omega) hv)
  have hL := hide (fun V => lineA4 (⟨#[116, 97, 107, 101]⟩) (dig h) (d) (dig b) (by decide) (Nat.le_trans (dig_size hh.1 (by omega)) (by omega)) (Nat.le_trans hd (by omega)) (Nat.le_trans (dig_size hb.1 hb.2) (by omega)) V)
  have hB := hide (fun v hv => itoaP b v hb.1 hb.2 hv)
  have HB0 := hide (abP (w := w) (.cells #[.int .i64 1, .int .i64 h, .string d, .int .i64 b, .int .i64 0] 26))
  have HX := hide (heap_alloc_new w (.cells #[.int .i64 1, .int .i64 h, .string d, .int .i64 b, .int .i64 0] 26))
  clear ok htab hh hd hb
  generalize lineT [⟨#[116, 97, 107, 101]⟩, dig h, d, dig b] = R at *
  generalize dig h = DH at *
  generalize dig b = DB at *
  go_enter Tryd.func9, Tryd.ntmps9
  go_wp2_with fail
  refine (unhide hO _).mono ?_
  rintro e w2 ⟨rfl, hb2⟩
  have HB2 := hide (btP (unhide HB0) hb2)
  have hX2 := (hb2.block _ (by simp)).trans (unhide HX)
  have x0 : w2.cell? ⟨w.heap.size, 0, none⟩ = some (.int .i64 1) := cell_of_row hX2 (by simp)
  have x1 : w2.cell? ⟨w.heap.size, 1, none⟩ = some (.int .i64 h) := cell_of_row hX2 (by simp)
  have x2 : w2.cell? ⟨w.heap.size, 2, none⟩ = some (.string d) := cell_of_row hX2 (by simp)
  have x3 : w2.cell? ⟨w.heap.size, 3, none⟩ = some (.int .i64 b) := cell_of_row hX2 (by simp)
  have x4 : w2.cell? ⟨w.heap.size, 4, none⟩ = some (.int .i64 0) := cell_of_row hX2 (by simp)
  clear hb2 hX2
  go_wp2_with fail
  refine (unhide hH _ (unhide HTB _ (unhide HB2))).mono ?_
  rintro e w3 ⟨rfl, hb3⟩
  have HB3 := hide (btP (unhide HB2) hb3)
  have z0 := below_some hb3 x0
  have z1 := below_some hb3 x1
  have z2 := below_some hb3 x2
  have z3 := below_some hb3 x3
  have z4 := below_some hb3 x4
  clear hb3 x0 x1 x2 x3 x4
  go_wp2_with fail
  go_region_with (first | (go_at_call 21; refine (unhide hB _ (unhide HTB _ (btP (unhide HB3) ((Below.refl _ _).drew)))).mono ?_; rintro e w5 ⟨rfl, hb5⟩; have HB5 := hide (btP (unhide HB3) (drewB hb5)); have y2 := below_some (drewB hb5) z2; have y3 := below_some (drewB hb5) z3; clear hb5) | (go_at_call 22; refine (unhide hL _).mono ?_; rintro e w7 ⟨rfl, hb7⟩; have HB7 := hide (btP (btP (unhide HB5) (abP _)) hb7); clear hb7) | fail)
  all_goals
    go_wp2_with fail
    go_ret
    exact ⟨rfl, unhide HB7⟩

set_option maxRecDepth 100000 in
set_option maxHeartbeats 2000000 in
theorem textI2 (h t : Int) (w : World) (hh : 0 ≤ h ∧ h ≤ 29) (ht : 0 ≤ t ∧ t ≤ 100000) (ok : noteB 2 h ⟨#[]⟩ 0 t = true) (htab : Tab w) :
    Calls Tryd.prog 9 #[.agg #[.int .i64 2, .int .i64 h, .string ⟨#[]⟩, .int .i64 0, .int .i64 t]] w fun e w' => e = .returned (.string (lineT [⟨#[116, 114, 121]⟩, dig h, dig t])) ∧ Below w.heap.size w w' := by
  have hO := hide (fun v => noteI 2 h ⟨#[]⟩ 0 t v (by decide))
  rw [ok] at hO
  have HTB := hide (fun v (hb : Below w.heap.size w v) => htab.on hb)
  have hH := hide (fun v hv => itoaP h v hh.1 (by omega) hv)
  have hL := hide (fun V => lineA3 (⟨#[116, 114, 121]⟩) (dig h) (dig t) (by decide) (Nat.le_trans (dig_size hh.1 (by omega)) (by omega)) (Nat.le_trans (dig_size ht.1 (by omega)) (by omega)) V)
  have hT := hide (fun v hv => itoaP t v ht.1 (by omega) hv)
  have HB0 := hide (abP (w := w) (.cells #[.int .i64 2, .int .i64 h, .string ⟨#[]⟩, .int .i64 0, .int .i64 t] 26))
  have HX := hide (heap_alloc_new w (.cells #[.int .i64 2, .int .i64 h, .string ⟨#[]⟩, .int .i64 0, .int .i64 t] 26))
  clear ok htab hh ht
  generalize lineT [⟨#[116, 114, 121]⟩, dig h, dig t] = R at *
  generalize dig h = DH at *
  generalize dig t = DT at *
  go_enter Tryd.func9, Tryd.ntmps9
  go_wp2_with fail
  refine (unhide hO _).mono ?_
  rintro e w2 ⟨rfl, hb2⟩
  have HB2 := hide (btP (unhide HB0) hb2)
  have hX2 := (hb2.block _ (by simp)).trans (unhide HX)
  have x0 : w2.cell? ⟨w.heap.size, 0, none⟩ = some (.int .i64 2) := cell_of_row hX2 (by simp)
  have x1 : w2.cell? ⟨w.heap.size, 1, none⟩ = some (.int .i64 h) := cell_of_row hX2 (by simp)
  have x2 : w2.cell? ⟨w.heap.size, 2, none⟩ = some (.string ⟨#[]⟩) := cell_of_row hX2 (by simp)
  have x3 : w2.cell? ⟨w.heap.size, 3, none⟩ = some (.int .i64 0) := cell_of_row hX2 (by simp)
  have x4 : w2.cell? ⟨w.heap.size, 4, none⟩ = some (.int .i64 t) := cell_of_row hX2 (by simp)
  clear hb2 hX2
  go_wp2_with fail
  refine (unhide hH _ (unhide HTB _ (unhide HB2))).mono ?_
  rintro e w3 ⟨rfl, hb3⟩
  have HB3 := hide (btP (unhide HB2) hb3)
  have z0 := below_some hb3 x0
  have z1 := below_some hb3 x1
  have z2 := below_some hb3 x2
  have z3 := below_some hb3 x3
  have z4 := below_some hb3 x4
  clear hb3 x0 x1 x2 x3 x4
  go_wp2_with fail
  refine (unhide hT _ (unhide HTB _ (unhide HB3))).mono ?_
  rintro e w5 ⟨rfl, hb5⟩
  have HB5 := hide (btP (unhide HB3) hb5)
  clear hb5
  go_wp2_with fail
  refine (unhide hL _).mono ?_
  rintro e w7 ⟨rfl, hb7⟩
  have HB7 := hide (btP (btP (unhide HB5) (abP _)) hb7)
  clear hb7
  go_wp2_with fail
  go_ret
  exact ⟨rfl, unhide HB7⟩

set_option maxRecDepth 100000 in
set_option maxHeartbeats 2000000 in
theorem textI3 (h : Int) (w : World) (hh : 0 ≤ h ∧ h ≤ 29) (ok : noteB 3 h ⟨#[]⟩ 0 0 = true) (htab : Tab w) :
    Calls Tryd.prog 9 #[.agg #[.int .i64 3, .int .i64 h, .string ⟨#[]⟩, .int .i64 0, .int .i64 0]] w fun e w' => e = .returned (.string (lineT [⟨#[103, 111, 110, 101]⟩, dig h])) ∧ Below w.heap.size w w' := by
  have hO := hide (fun v => noteI 3 h ⟨#[]⟩ 0 0 v (by decide))
  rw [ok] at hO
  have HTB := hide (fun v (hb : Below w.heap.size w v) => htab.on hb)
  have hH := hide (fun v hv => itoaP h v hh.1 (by omega) hv)
  have hL := hide (fun V => lineA2 (⟨#[103, 111, 110, 101]⟩) (dig h) (by decide) (Nat.le_trans (dig_size hh.1 (by omega)) (by omega)) V)
  have HB0 := hide (abP (w := w) (.cells #[.int .i64 3, .int .i64 h, .string ⟨#[]⟩, .int .i64 0, .int .i64 0] 26))
  have HX := hide (heap_alloc_new w (.cells #[.int .i64 3, .int .i64 h, .string ⟨#[]⟩, .int .i64 0, .int .i64 0] 26))
  clear ok htab hh
  generalize lineT [⟨#[103, 111, 110, 101]⟩, dig h] = R at *
  generalize dig h = DH at *
  go_enter Tryd.func9, Tryd.ntmps9
  go_wp2_with fail
  refine (unhide hO _).mono ?_
  rintro e w2 ⟨rfl, hb2⟩
  have HB2 := hide (btP (unhide HB0) hb2)
  have hX2 := (hb2.block _ (by simp)).trans (unhide HX)
  have x0 : w2.cell? ⟨w.heap.size, 0, none⟩ = some (.int .i64 3) := cell_of_row hX2 (by simp)
  have x1 : w2.cell? ⟨w.heap.size, 1, none⟩ = some (.int .i64 h) := cell_of_row hX2 (by simp)
  have x2 : w2.cell? ⟨w.heap.size, 2, none⟩ = some (.string ⟨#[]⟩) := cell_of_row hX2 (by simp)
  have x3 : w2.cell? ⟨w.heap.size, 3, none⟩ = some (.int .i64 0) := cell_of_row hX2 (by simp)
  have x4 : w2.cell? ⟨w.heap.size, 4, none⟩ = some (.int .i64 0) := cell_of_row hX2 (by simp)
  clear hb2 hX2
  go_wp2_with fail
  refine (unhide hH _ (unhide HTB _ (unhide HB2))).mono ?_
  rintro e w3 ⟨rfl, hb3⟩
  have HB3 := hide (btP (unhide HB2) hb3)
  have z0 := below_some hb3 x0
  have z1 := below_some hb3 x1
  have z2 := below_some hb3 x2
  have z3 := below_some hb3 x3
  have z4 := below_some hb3 x4
  clear hb3 x0 x1 x2 x3 x4
  go_wp2_with fail
  refine (unhide hL _).mono ?_
  rintro e w7 ⟨rfl, hb7⟩
  have HB7 := hide (btP (btP (unhide HB3) (abP _)) hb7)
  clear hb7
  go_wp2_with fail
  go_ret
  exact ⟨rfl, unhide HB7⟩

set_option maxRecDepth 100000 in
set_option maxHeartbeats 2000000 in
theorem textI4 (h : Int) (w : World) (hh : 0 ≤ h ∧ h ≤ 29) (ok : noteB 4 h ⟨#[]⟩ 0 0 = true) (htab : Tab w) :
    Calls Tryd.prog 9 #[.agg #[.int .i64 4, .int .i64 h, .string ⟨#[]⟩, .int .i64 0, .int .i64 0]] w fun e w' => e = .returned (.string (lineT [⟨#[98, 97, 99, 107]⟩, dig h])) ∧ Below w.heap.size w w' := by
  have hO := hide (fun v => noteI 4 h ⟨#[]⟩ 0 0 v (by decide))
  rw [ok] at hO
  have HTB := hide (fun v (hb : Below w.heap.size w v) => htab.on hb)
  have hH := hide (fun v hv => itoaP h v hh.1 (by omega) hv)
  have hL := hide (fun V => lineA2 (⟨#[98, 97, 99, 107]⟩) (dig h) (by decide) (Nat.le_trans (dig_size hh.1 (by omega)) (by omega)) V)
  have HB0 := hide (abP (w := w) (.cells #[.int .i64 4, .int .i64 h, .string ⟨#[]⟩, .int .i64 0, .int .i64 0] 26))
  have HX := hide (heap_alloc_new w (.cells #[.int .i64 4, .int .i64 h, .string ⟨#[]⟩, .int .i64 0, .int .i64 0] 26))
  clear ok htab hh
  generalize lineT [⟨#[98, 97, 99, 107]⟩, dig h] = R at *
  generalize dig h = DH at *
  go_enter Tryd.func9, Tryd.ntmps9
  go_wp2_with fail
  refine (unhide hO _).mono ?_
  rintro e w2 ⟨rfl, hb2⟩
  have HB2 := hide (btP (unhide HB0) hb2)
  have hX2 := (hb2.block _ (by simp)).trans (unhide HX)
  have x0 : w2.cell? ⟨w.heap.size, 0, none⟩ = some (.int .i64 4) := cell_of_row hX2 (by simp)
  have x1 : w2.cell? ⟨w.heap.size, 1, none⟩ = some (.int .i64 h) := cell_of_row hX2 (by simp)
  have x2 : w2.cell? ⟨w.heap.size, 2, none⟩ = some (.string ⟨#[]⟩) := cell_of_row hX2 (by simp)
  have x3 : w2.cell? ⟨w.heap.size, 3, none⟩ = some (.int .i64 0) := cell_of_row hX2 (by simp)
  have x4 : w2.cell? ⟨w.heap.size, 4, none⟩ = some (.int .i64 0) := cell_of_row hX2 (by simp)
  clear hb2 hX2
  go_wp2_with fail
  refine (unhide hH _ (unhide HTB _ (unhide HB2))).mono ?_
  rintro e w3 ⟨rfl, hb3⟩
  have HB3 := hide (btP (unhide HB2) hb3)
  have z0 := below_some hb3 x0
  have z1 := below_some hb3 x1
  have z2 := below_some hb3 x2
  have z3 := below_some hb3 x3
  have z4 := below_some hb3 x4
  clear hb3 x0 x1 x2 x3 x4
  go_wp2_with fail
  refine (unhide hL _).mono ?_
  rintro e w7 ⟨rfl, hb7⟩
  have HB7 := hide (btP (btP (unhide HB3) (abP _)) hb7)
  clear hb7
  go_wp2_with fail
  go_ret
  exact ⟨rfl, unhide HB7⟩


end Go.Proofs.YtjckdepcgjfomaaDoor
