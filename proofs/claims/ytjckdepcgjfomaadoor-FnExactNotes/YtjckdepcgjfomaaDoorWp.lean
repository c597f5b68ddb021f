/- The walk of impl.wordsNote: the note of so many words, or a panic. -/
import Derived.Test.YtjckdepcgjfomaaDoorOw
import Derived.Test.YtjckdepcgjfomaaDoorWt
namespace Go.Proofs.YtjckdepcgjfomaaDoor
open Go.RowKit Go.Deep

theorem clone_any (s : ByteArray) (w : World) (hs : s.size ≤ 2097152) : Calls Tryd.prog 48 #[.string s] w fun e w' => e = .returned (.string s) ∧ Below w.heap.size w w' := clone36 s w hs
theorem number_any (s : ByteArray) (te : TypeId) (pe : Value) (w : World) (hs : s.size ≤ 2097152) (hv : NV w te pe) :
    Calls Tryd.prog 47 #[.string s] w fun e w' => Below w.heap.size w w' ∧ ((∃ v, numW s = some v ∧ e = .returned (.int .i64 v)) ∨ (numW s = none ∧ e = .panicked [{ v := .iface te pe, recovered := false }])) := by
  cases h : numW s with
  | some v => exact (number_yes s v w hs h).mono fun e w' ⟨he, hb⟩ => ⟨hb, Or.inl ⟨v, rfl, he⟩⟩
  | none => exact (number_no s te pe w hs h hv).mono fun e w' ⟨he, hb⟩ => ⟨hb, Or.inr ⟨rfl, he⟩⟩

set_option maxRecDepth 100000 in
set_option maxHeartbeats 2000000 in
theorem words4_a (W1 W2 W3 : ByteArray)  (te : TypeId) (pe : Value) (g cap : Nat) (w : World) (s1 : W1.size ≤ 2097152) (h1 : numW W1 = none) (k0 : w.cell? ⟨g, 0, none⟩ = some (.string ⟨#[116, 97, 107, 101]⟩)) (k1 : w.cell? ⟨g, 1, none⟩ = some (.string W1)) (k2 : w.cell? ⟨g, 2, none⟩ = some (.string W2)) (k3 : w.cell? ⟨g, 3, none⟩ = some (.string W3)) (hv : NV w te pe) :
    Calls Tryd.prog 35 #[.slice (some ⟨g, 0, none⟩) 4 cap] w fun e w' => e = .panicked [{ v := .iface te pe, recovered := false }] ∧ Below w.heap.size w w' := by
  have hF := hide (fun u hu => number_no W1 te pe u s1 h1 hu)
  have HV := hide (hv.on (abP (w := w) (.cells #[.int .i64 0, .int .i64 0, .string ⟨#[]⟩, .int .i64 0, .int .i64 0] 26)))
  have HB0 := hide (abP (w := w) (.cells #[.int .i64 0, .int .i64 0, .string ⟨#[]⟩, .int .i64 0, .int .i64 0] 26))
  have j0 := below_some (abP (w := w) (.cells #[.int .i64 0, .int .i64 0, .string ⟨#[]⟩, .int .i64 0, .int .i64 0] 26)) k0
  have j1 := below_some (abP (w := w) (.cells #[.int .i64 0, .int .i64 0, .string ⟨#[]⟩, .int .i64 0, .int .i64 0] 26)) k1
  have j2 := below_some (abP (w := w) (.cells #[.int .i64 0, .int .i64 0, .string ⟨#[]⟩, .int .i64 0, .int .i64 0] 26)) k2
  have j3 := below_some (abP (w := w) (.cells #[.int .i64 0, .int .i64 0, .string ⟨#[]⟩, .int .i64 0, .int .i64 0] 26)) k3
  clear s1 h1 k0 k1 k2 k3 hv
  go_enter Tryd.func35, Tryd.ntmps35
  go_wp2_with fail
  generalize w.alloc (.cells #[.int .i64 0, .int .i64 0, .string ⟨#[]⟩, .int .i64 0, .int .i64 0] 26) = V at *
  refine wp_region_held (S := fun y => y.cell? ⟨g, 1, none⟩ = some (.string W1) ∧ y.cell? ⟨g, 2, none⟩ = some (.string W2) ∧ y.cell? ⟨g, 3, none⟩ = some (.string W3)) (by kernel_rfl) ?_
  have hS : (fun y : World => y.cell? ⟨g, 1, none⟩ = some (.string W1) ∧ y.cell? ⟨g, 2, none⟩ = some (.string W2) ∧ y.cell? ⟨g, 3, none⟩ = some (.string W3)) V.drew := ⟨j1, j2, j3⟩
  show wpAnyH _ _ _ _ _ _ _ _ V.drew
  have HD : Hid (Below V.heap.size V V.drew) := (Below.refl _ _).drew
  refine take_move (i := 0) rfl rfl (by kernel_rfl) (by kernel_rfl) (by kernel_rfl) (fun _ _ _ _ h => h) hS ?_
  simp only [Act.put, List.setIfInBounds_toArray, List.set_cons_succ, List.set_cons_zero]
  refine take_idx1 (i := 1) (n := 4) rfl rfl (by decide) (by kernel_rfl) (by kernel_rfl) (by kernel_rfl) (fun _ _ _ _ h => h) hS ?_
  simp only [Act.put, List.setIfInBounds_toArray, List.set_cons_succ, List.set_cons_zero]
  refine take_load9 (i := 2) (s := W1) rfl rfl (fun y h => h.1) (by kernel_rfl) (by kernel_rfl) (by kernel_rfl) (fun _ _ _ _ h => h) hS ?_
  simp only [Act.put, List.setIfInBounds_toArray, List.set_cons_succ, List.set_cons_zero]
  refine take_move (i := 4) rfl rfl (by kernel_rfl) (by kernel_rfl) (by kernel_rfl) (fun _ _ _ _ h => h) hS ?_
  simp only [Act.put, List.setIfInBounds_toArray, List.set_cons_succ, List.set_cons_zero]
  refine take_idx2 (i := 5) (n := 4) rfl rfl (by decide) (by kernel_rfl) (by kernel_rfl) (by kernel_rfl) (fun _ _ _ _ h => h) hS ?_
  simp only [Act.put, List.setIfInBounds_toArray, List.set_cons_succ, List.set_cons_zero]
  refine take_load9 (i := 6) (s := W2) rfl rfl (fun y h => h.2.1) (by kernel_rfl) (by kernel_rfl) (by kernel_rfl) (fun _ _ _ _ h => h) hS ?_
  simp only [Act.put, List.setIfInBounds_toArray, List.set_cons_succ, List.set_cons_zero]
  refine take_move (i := 8) rfl rfl (by kernel_rfl) (by kernel_rfl) (by kernel_rfl) (fun _ _ _ _ h => h) hS ?_
  simp only [Act.put, List.setIfInBounds_toArray, List.set_cons_succ, List.set_cons_zero]
  refine take_idx3 (i := 9) (n := 4) rfl rfl (by decide) (by kernel_rfl) (by kernel_rfl) (by kernel_rfl) (fun _ _ _ _ h => h) hS ?_
  simp only [Act.put, List.setIfInBounds_toArray, List.set_cons_succ, List.set_cons_zero]
  refine take_load9 (i := 10) (s := W3) rfl rfl (fun y h => h.2.2) (by kernel_rfl) (by kernel_rfl) (by kernel_rfl) (fun _ _ _ _ h => h) hS ?_
  simp only [Act.put, List.setIfInBounds_toArray, List.set_cons_succ, List.set_cons_zero]
  refine all_callP (i := 3) (by kernel_rfl) rfl Tryd.func47 (by kernel_rfl) (by kernel_rfl) rfl ?_
  refine (unhide hF _ ((unhide HV).on (unhide HD))).mono ?_
  rintro e z ⟨rfl, hbz⟩
  refine Or.inr ⟨_, rfl, ?_⟩
  exact ⟨rfl, rfl, btP (btP (unhide HB0) (unhide HD)) hbz⟩

set_option maxRecDepth 100000 in
set_option maxHeartbeats 2000000 in
theorem words4_b (W1 W2 W3 : ByteArray) (n1 : Int) (te : TypeId) (pe : Value) (g cap : Nat) (w : World) (s1 : W1.size ≤ 2097152) (s2 : W2.size ≤ 2097152) (s3 : W3.size ≤ 2097152) (h1 : numW W1 = some n1) (h3 : numW W3 = none) (k0 : w.cell? ⟨g, 0, none⟩ = some (.string ⟨#[116, 97, 107, 101]⟩)) (k1 : w.cell? ⟨g, 1, none⟩ = some (.string W1)) (k2 : w.cell? ⟨g, 2, none⟩ = some (.string W2)) (k3 : w.cell? ⟨g, 3, none⟩ = some (.string W3)) (hv : NV w te pe) :
    Calls Tryd.prog 35 #[.slice (some ⟨g, 0, none⟩) 4 cap] w fun e w' => e = .panicked [{ v := .iface te pe, recovered := false }] ∧ Below w.heap.size w w' := by
  have hA1 := hide (fun u => number_yes W1 n1 u s1 h1)
  have hC := hide (fun u => clone_any W2 u s2)
  have hF := hide (fun u hu => number_no W3 te pe u s3 h3 hu)
  have HV := hide (hv.on (abP (w := w) (.cells #[.int .i64 0, .int .i64 0, .string ⟨#[]⟩, .int .i64 0, .int .i64 0] 26)))
  have HB0 := hide (abP (w := w) (.cells #[.int .i64 0, .int .i64 0, .string ⟨#[]⟩, .int .i64 0, .int .i64 0] 26))
  have j0 := below_some (abP (w := w) (.cells #[.int .i64 0, .int .i64 0, .string ⟨#[]⟩, .int .i64 0, .int .i64 0] 26)) k0
  have j1 := below_some (abP (w := w) (.cells #[.int .i64 0, .int .i64 0, .string ⟨#[]⟩, .int .i64 0, .int .i64 0] 26)) k1
  have j2 := below_some (abP (w := w) (.cells #[.int .i64 0, .int .i64 0, .string ⟨#[]⟩, .int .i64 0, .int .i64 0] 26)) k2
  have j3 := below_some (abP (w := w) (.cells #[.int .i64 0, .int .i64 0, .string ⟨#[]⟩, .int .i64 0, .int .i64 0] 26)) k3
  clear s1 s2 s3 h1 h3 k0 k1 k2 k3 hv
  go_enter Tryd.func35, Tryd.ntmps35
  go_wp2_with fail
  generalize w.alloc (.cells #[.int .i64 0, .int .i64 0, .string ⟨#[]⟩, .int .i64 0, .int .i64 0] 26) = V at *
  refine wp_region_held (S := fun y => y.cell? ⟨g, 1, none⟩ = some (.string W1) ∧ y.cell? ⟨g, 2, none⟩ = some (.string W2) ∧ y.cell? ⟨g, 3, none⟩ = some (.string W3)) (by kernel_rfl) ?_
  have hS : (fun y : World => y.cell? ⟨g, 1, none⟩ = some (.string W1) ∧ y.cell? ⟨g, 2, none⟩ = some (.string W2) ∧ y.cell? ⟨g, 3, none⟩ = some (.string W3)) V.drew := ⟨j1, j2, j3⟩
  show wpAnyH _ _ _ _ _ _ _ _ V.drew
  have HD : Hid (Below V.heap.size V V.drew) := (Below.refl _ _).drew
  refine take_move (i := 0) rfl rfl (by kernel_rfl) (by kernel_rfl) (by kernel_rfl) (fun _ _ _ _ h => h) hS ?_
  simp only [Act.put, List.setIfInBounds_toArray, List.set_cons_succ, List.set_cons_zero]
  refine take_idx1 (i := 1) (n := 4) rfl rfl (by decide) (by kernel_rfl) (by kernel_rfl) (by kernel_rfl) (fun _ _ _ _ h => h) hS ?_
  simp only [Act.put, List.setIfInBounds_toArray, List.set_cons_succ, List.set_cons_zero]
  refine take_load9 (i := 2) (s := W1) rfl rfl (fun y h => h.1) (by kernel_rfl) (by kernel_rfl) (by kernel_rfl) (fun _ _ _ _ h => h) hS ?_
  simp only [Act.put, List.setIfInBounds_toArray, List.set_cons_succ, List.set_cons_zero]
  refine take_move (i := 4) rfl rfl (by kernel_rfl) (by kernel_rfl) (by kernel_rfl) (fun _ _ _ _ h => h) hS ?_
  simp only [Act.put, List.setIfInBounds_toArray, List.set_cons_succ, List.set_cons_zero]
  refine take_idx2 (i := 5) (n := 4) rfl rfl (by decide) (by kernel_rfl) (by kernel_rfl) (by kernel_rfl) (fun _ _ _ _ h => h) hS ?_
  simp only [Act.put, List.setIfInBounds_toArray, List.set_cons_succ, List.set_cons_zero]
  refine take_load9 (i := 6) (s := W2) rfl rfl (fun y h => h.2.1) (by kernel_rfl) (by kernel_rfl) (by kernel_rfl) (fun _ _ _ _ h => h) hS ?_
  simp only [Act.put, List.setIfInBounds_toArray, List.set_cons_succ, List.set_cons_zero]
  refine take_move (i := 8) rfl rfl (by kernel_rfl) (by kernel_rfl) (by kernel_rfl) (fun _ _ _ _ h => h) hS ?_
  simp only [Act.put, List.setIfInBounds_toArray, List.set_cons_succ, List.set_cons_zero]
  refine take_idx3 (i := 9) (n := 4) rfl rfl (by decide) (by kernel_rfl) (by kernel_rfl) (by kernel_rfl) (fun _ _ _ _ h => h) hS ?_
  simp only [Act.put, List.setIfInBounds_toArray, List.set_cons_succ, List.set_cons_zero]
  refine take_load9 (i := 10) (s := W3) rfl rfl (fun y h => h.2.2) (by kernel_rfl) (by kernel_rfl) (by kernel_rfl) (fun _ _ _ _ h => h) hS ?_
  simp only [Act.put, List.setIfInBounds_toArray, List.set_cons_succ, List.set_cons_zero]
  refine all_callP (i := 3) (by kernel_rfl) rfl Tryd.func47 (by kernel_rfl) (by kernel_rfl) rfl ?_
  refine (unhide hA1 _).mono ?_
  rintro e y1 ⟨rfl, hb1⟩
  have HD1 := hide (btP (unhide HD) hb1)
  refine Or.inl ⟨_, rfl, ⟨below_some (unhide HD1) j1, below_some (unhide HD1) j2, below_some (unhide HD1) j3⟩, fun hS => ?_⟩
  simp only [Act.put, List.setIfInBounds_toArray, List.set_cons_succ, List.set_cons_zero]
  clear hb1
  refine all_callP (i := 7) (by kernel_rfl) rfl Tryd.func48 (by kernel_rfl) (by kernel_rfl) rfl ?_
  refine (unhide hC _).mono ?_
  rintro e y2 ⟨rfl, hb2⟩
  have HD2 := hide (btP (unhide HD1) hb2)
  refine Or.inl ⟨_, rfl, ⟨below_some (unhide HD2) j1, below_some (unhide HD2) j2, below_some (unhide HD2) j3⟩, fun hS => ?_⟩
  simp only [Act.put, List.setIfInBounds_toArray, List.set_cons_succ, List.set_cons_zero]
  clear hb2
  refine all_callP (i := 11) (by kernel_rfl) rfl Tryd.func47 (by kernel_rfl) (by kernel_rfl) rfl ?_
  refine (unhide hF _ ((unhide HV).on (unhide HD2))).mono ?_
  rintro e z ⟨rfl, hbz⟩
  refine Or.inr ⟨_, rfl, ?_⟩
  exact ⟨rfl, rfl, btP (btP (unhide HB0) (unhide HD2)) hbz⟩

set_option maxRecDepth 100000 in
set_option maxHeartbeats 2000000 in
theorem words3_a (W1 W2 : ByteArray)  (te : TypeId) (pe : Value) (g cap : Nat) (w : World) (s1 : W1.size ≤ 2097152) (h1 : numW W1 = none) (k0 : w.cell? ⟨g, 0, none⟩ = some (.string ⟨#[116, 114, 121]⟩)) (k1 : w.cell? ⟨g, 1, none⟩ = some (.string W1)) (k2 : w.cell? ⟨g, 2, none⟩ = some (.string W2)) (hv : NV w te pe) :
    Calls Tryd.prog 35 #[.slice (some ⟨g, 0, none⟩) 3 cap] w fun e w' => e = .panicked [{ v := .iface te pe, recovered := false }] ∧ Below w.heap.size w w' := by
  have hF := hide (fun u hu => number_no W1 te pe u s1 h1 hu)
  have HV := hide (hv.on (abP (w := w) (.cells #[.int .i64 0, .int .i64 0, .string ⟨#[]⟩, .int .i64 0, .int .i64 0] 26)))
  have HB0 := hide (abP (w := w) (.cells #[.int .i64 0, .int .i64 0, .string ⟨#[]⟩, .int .i64 0, .int .i64 0] 26))
  have j0 := below_some (abP (w := w) (.cells #[.int .i64 0, .int .i64 0, .string ⟨#[]⟩, .int .i64 0, .int .i64 0] 26)) k0
  have j1 := below_some (abP (w := w) (.cells #[.int .i64 0, .int .i64 0, .string ⟨#[]⟩, .int .i64 0, .int .i64 0] 26)) k1
  have j2 := below_some (abP (w := w) (.cells #[.int .i64 0, .int .i64 0, .string ⟨#[]⟩, .int .i64 0, .int .i64 0] 26)) k2
  clear s1 h1 k0 k1 k2 hv
  go_enter Tryd.func35, Tryd.ntmps35
  go_wp2_with fail
  generalize w.alloc (.cells #[.int .i64 0, .int .i64 0, .string ⟨#[]⟩, .int .i64 0, .int .i64 0] 26) = V at *
  refine wp_region_held (S := fun y => y.cell? ⟨g, 1, none⟩ = some (.string W1) ∧ y.cell? ⟨g, 2, none⟩ = some (.string W2)) (by kernel_rfl) ?_
  have hS : (fun y : World => y.cell? ⟨g, 1, none⟩ = some (.string W1) ∧ y.cell? ⟨g, 2, none⟩ = some (.string W2)) V.drew := ⟨j1, j2⟩
  show wpAnyH _ _ _ _ _ _ _ _ V.drew
  have HD : Hid (Below V.heap.size V V.drew) := (Below.refl _ _).drew
  refine take_move (i := 0) rfl rfl (by kernel_rfl) (by kernel_rfl) (by kernel_rfl) (fun _ _ _ _ h => h) hS ?_
  simp only [Act.put, List.setIfInBounds_toArray, List.set_cons_succ, List.set_cons_zero]
  refine take_idx1 (i := 1) (n := 3) rfl rfl (by decide) (by kernel_rfl) (by kernel_rfl) (by kernel_rfl) (fun _ _ _ _ h => h) hS ?_
  simp only [Act.put, List.setIfInBounds_toArray, List.set_cons_succ, List.set_cons_zero]
  refine take_load9 (i := 2) (s := W1) rfl rfl (fun y h => h.1) (by kernel_rfl) (by kernel_rfl) (by kernel_rfl) (fun _ _ _ _ h => h) hS ?_
  simp only [Act.put, List.setIfInBounds_toArray, List.set_cons_succ, List.set_cons_zero]
  refine take_move (i := 4) rfl rfl (by kernel_rfl) (by kernel_rfl) (by kernel_rfl) (fun _ _ _ _ h => h) hS ?_
  simp only [Act.put, List.setIfInBounds_toArray, List.set_cons_succ, List.set_cons_zero]
  refine take_idx2 (i := 5) (n := 3) rfl rfl (by decide) (by kernel_rfl) (by kernel_rfl) (by kernel_rfl) (fun _ _ _ _ h => h) hS ?_
  simp only [Act.put, List.setIfInBounds_toArray, List.set_cons_succ, List.set_cons_zero]
  refine take_load9 (i := 6) (s := W2) rfl rfl (fun y h => h.2) (by kernel_rfl) (by kernel_rfl) (by kernel_rfl) (fun _ _ _ _ h => h) hS ?_
  simp only [Act.put, List.setIfInBounds_toArray, List.set_cons_succ, List.set_cons_zero]
  refine all_callP (i := 3) (by kernel_rfl) rfl Tryd.func47 (by kernel_rfl) (by kernel_rfl) rfl ?_
  refine (unhide hF _ ((unhide HV).on (unhide HD))).mono ?_
  rintro e z ⟨rfl, hbz⟩
  refine Or.inr ⟨_, rfl, ?_⟩
  exact ⟨rfl, rfl, btP (btP (unhide HB0) (unhide HD)) hbz⟩

set_option maxRecDepth 100000 in
set_option maxHeartbeats 2000000 in
theorem words3_b (W1 W2 : ByteArray) (n1 : Int) (te : TypeId) (pe : Value) (g cap : Nat) (w : World) (s1 : W1.size ≤ 2097152) (s2 : W2.size ≤ 2097152) (h1 : numW W1 = some n1) (h2 : numW W2 = none) (k0 : w.cell? ⟨g, 0, none⟩ = some (.string ⟨#[116, 114, 121]⟩)) (k1 : w.cell? ⟨g, 1, none⟩ = some (.string W1)) (k2 : w.cell? ⟨g, 2, none⟩ = some (.string W2)) (hv : NV w te pe) :
    Calls Tryd.prog 35 #[.slice (some ⟨g, 0, none⟩) 3 cap] w fun e w' => e = .panicked [{ v := .iface te pe, recovered := false }] ∧ Below w.heap.size w w' := by
  have hA1 := hide (fun u => number_yes W1 n1 u s1 h1)
  have hF := hide (fun u hu => number_no W2 te pe u s2 h2 hu)
  have HV := hide (hv.on (abP (w := w) (.cells #[.int .i64 0, .int .i64 0, .string ⟨#[]⟩, .int .i64 0, .int .i64 0] 26)))
  have HB0 := hide (abP (w := w) (.cells #[.int .i64 0, .int .i64 0, .string ⟨#[]⟩, .int .i64 0, .int .i64 0] 26))
  have j0 := below_some (abP (w := w) (.cells #[.int .i64 0, .int .i64 0, .string ⟨#[]⟩, .int .i64 0, .int .i64 0] 26)) k0
  have j1 := below_some (abP (w := w) (.cells #[.int .i64 0, .int .i64 0, .string ⟨#[]⟩, .int .i64 0, .int .i64 0] 26)) k1
  have j2 := below_some (abP (w := w) (.cells #[.int .i64 0, .int .i64 0, .string ⟨#[]⟩, .int .i64 0, .int .i64 0] 26)) k2
  clear s1 s2 h1 h2 k0 k1 k2 hv
  go_enter Tryd.func35, Tryd.ntmps35
  go_wp2_with fail
  generalize w.alloc (.cells #[.int .i64 0, .int .i64 0, .string ⟨#[]⟩, .int .i64 0, .int .i64 0] 26) = V at *
  refine wp_region_held (S := fun y => y.cell? ⟨g, 1, none⟩ = some (.string W1) ∧ y.cell? ⟨g, 2, none⟩ = some (.string W2)) (by kernel_rfl) ?_
  have hS : (fun y : World => y.cell? ⟨g, 1, none⟩ = some (.string W1) ∧ y.cell? ⟨g, 2, none⟩ = some (.string W2)) V.drew := ⟨j1, j2⟩
  show wpAnyH _ _ _ _ _ _ _ _ V.drew
  have HD : Hid (Below V.heap.size V V.drew) := (Below.refl _ _).drew
  refine take_move (i := 0) rfl rfl (by kernel_rfl) (by kernel_rfl) (by kernel_rfl) (fun _ _ _ _ h => h) hS ?_
  simp only [Act.put, List.setIfInBounds_toArray, List.set_cons_succ, List.set_cons_zero]
  refine take_idx1 (i := 1) (n := 3) rfl rfl (by decide) (by kernel_rfl) (by kernel_rfl) (by kernel_rfl) (fun _ _ _ _ h => h) hS ?_
  simp only [Act.put, List.setIfInBounds_toArray, List.set_cons_succ, List.set_cons_zero]
  refine take_load9 (i := 2) (s := W1) rfl rfl (fun y h => h.1) (by kernel_rfl) (by kernel_rfl) (by kernel_rfl) (fun _ _ _ _ h => h) hS ?_
  simp only [Act.put, List.setIfInBounds_toArray, List.set_cons_succ, List.set_cons_zero]
  refine take_move (i := 4) rfl rfl (by kernel_rfl) (by kernel_rfl) (by kernel_rfl) (fun _ _ _ _ h => h) hS ?_
  simp only [Act.put, List.setIfInBounds_toArray, List.set_cons_succ, List.set_cons_zero]
  refine take_idx2 (i := 5) (n := 3) rfl rfl (by decide) (by kernel_rfl) (by kernel_rfl) (by kernel_rfl) (fun _ _ _ _ h => h) hS ?_
  simp only [Act.put, List.setIfInBounds_toArray, List.set_cons_succ, List.set_cons_zero]
  refine take_load9 (i := 6) (s := W2) rfl rfl (fun y h => h.2) (by kernel_rfl) (by kernel_rfl) (by kernel_rfl) (fun _ _ _ _ h => h) hS ?_
  simp only [Act.put, List.setIfInBounds_toArray, List.set_cons_succ, List.set_cons_zero]
  refine all_callP (i := 3) (by kernel_rfl) rfl Tryd.func47 (by kernel_rfl) (by kernel_rfl) rfl ?_
  refine (unhide hA1 _).mono ?_
  rintro e y1 ⟨rfl, hb1⟩
  have HD1 := hide (btP (unhide HD) hb1)
  refine Or.inl ⟨_, rfl, ⟨below_some (unhide HD1) j1, below_some (unhide HD1) j2⟩, fun hS => ?_⟩
  simp only [Act.put, List.setIfInBounds_toArray, List.set_cons_succ, List.set_cons_zero]
  clear hb1
  refine all_callP (i := 7) (by kernel_rfl) rfl Tryd.func47 (by kernel_rfl) (by kernel_rfl) rfl ?_
  refine (unhide hF _ ((unhide HV).on (unhide HD1))).mono ?_
  rintro e z ⟨rfl, hbz⟩
  refine Or.inr ⟨_, rfl, ?_⟩
  exact ⟨rfl, rfl, btP (btP (unhide HB0) (unhide HD1)) hbz⟩

set_option maxRecDepth 100000 in
set_option maxHeartbeats 2000000 in
theorem words4_c (W1 W2 W3 : ByteArray) (n1 n3 : Int) (g cap : Nat) (w : World) (s1 : W1.size ≤ 2097152) (s2 : W2.size ≤ 2097152) (s3 : W3.size ≤ 2097152) (h1 : numW W1 = some n1) (h3 : numW W3 = some n3)
    (k0 : w.cell? ⟨g, 0, none⟩ = some (.string ⟨#[116, 97, 107, 101]⟩)) (k1 : w.cell? ⟨g, 1, none⟩ = some (.string W1)) (k2 : w.cell? ⟨g, 2, none⟩ = some (.string W2)) (k3 : w.cell? ⟨g, 3, none⟩ = some (.string W3)) :
    Calls Tryd.prog 35 #[.slice (some ⟨g, 0, none⟩) 4 cap] w fun e w' => e = .returned (.agg #[.int .i64 1, .int .i64 n1, .string W2, .int .i64 n3, .int .i64 0]) ∧ Below w.heap.size w w' := by
  have hA := hide (fun u => number_yes W1 n1 u s1 h1)
  have hB := hide (fun u => clone_any W2 u s2)
  have hC := hide (fun u => number_yes W3 n3 u s3 h3)
  have HB0 := hide (abP (w := w) (.cells #[.int .i64 0, .int .i64 0, .string ⟨#[]⟩, .int .i64 0, .int .i64 0] 26))
  have HX := hide (heap_alloc_new w (.cells #[.int .i64 0, .int .i64 0, .string ⟨#[]⟩, .int .i64 0, .int .i64 0] 26))
  have j0 := below_some (abP (w := w) (.cells #[.int .i64 0, .int .i64 0, .string ⟨#[]⟩, .int .i64 0, .int .i64 0] 26)) k0
  have j1 := below_some (abP (w := w) (.cells #[.int .i64 0, .int .i64 0, .string ⟨#[]⟩, .int .i64 0, .int .i64 0] 26)) k1
  have j2 := below_some (abP (w := w) (.cells #[.int .i64 0, .int .i64 0, .string ⟨#[]⟩, .int .i64 0, .int .i64 0] 26)) k2
  have j3 := below_some (abP (w := w) (.cells #[.int .i64 0, .int .i64 0, .string ⟨#[]⟩, .int .i64 0, .int .i64 0] 26)) k3
  have hg1 : g ≠ w.heap.size := Nat.ne_of_lt (lt_of_cell k0)
  have hg2 : w.heap.size ≠ g := hg1.symm
  clear s1 s2 s3 h1 h3 k0 k1 k2 k3
  go_enter Tryd.func35, Tryd.ntmps35
  go_wp2_with fail
  generalize w.alloc (.cells #[.int .i64 0, .int .i64 0, .string ⟨#[]⟩, .int .i64 0, .int .i64 0] 26) = V at *
  go_region_held3 (fun y => y.cell? ⟨g, 1, none⟩ = some (.string W1) ∧ y.cell? ⟨g, 2, none⟩ = some (.string W2) ∧ y.cell? ⟨g, 3, none⟩ = some (.string W3)) (go_keep)
    (first
      | (go_at_call_of 47 W1
         refine (unhide hA _).mono ?_
         rintro e y1 ⟨rfl, hb⟩
         have HY1 : Hid (Below V.heap.size V y1) := drewB hb
         have z1 := below_some (unhide HY1) j1
         have z2 := below_some (unhide HY1) j2
         have z3 := below_some (unhide HY1) j3
         clear hb)
      | (go_at_call_of 48 W2
         refine (unhide hB _).mono ?_
         rintro e y2 ⟨rfl, hb⟩
         have HY2 := hide (btP (unhide HY1) hb)
         clear z1 z2 z3
         have z1 := below_some (unhide HY2) j1
         have z2 := below_some (unhide HY2) j2
         have z3 := below_some (unhide HY2) j3
         clear hb)
      | (go_at_call_of 47 W3
         refine (unhide hC _).mono ?_
         rintro e y3 ⟨rfl, hb⟩
         have HY3 := hide (btP (unhide HY2) hb)
         have hX3 := ((unhide HY3).block w.heap.size (Array.getElem?_eq_some_iff.1 (unhide HX)).1).trans (unhide HX)
         have c0 : y3.cell? ⟨w.heap.size, 0, none⟩ = some (.int .i64 0) := cell_of_row hX3 (by simp)
         have c1 : y3.cell? ⟨w.heap.size, 1, none⟩ = some (.int .i64 0) := cell_of_row hX3 (by simp)
         have c2 : y3.cell? ⟨w.heap.size, 2, none⟩ = some (.string ⟨#[]⟩) := cell_of_row hX3 (by simp)
         have c3 : y3.cell? ⟨w.heap.size, 3, none⟩ = some (.int .i64 0) := cell_of_row hX3 (by simp)
         have c4 : y3.cell? ⟨w.heap.size, 4, none⟩ = some (.int .i64 0) := cell_of_row hX3 (by simp)
         have f0 : y3.frozen? ⟨w.heap.size, 0, none⟩ = false := frozen_of_row hX3
         have f1 : y3.frozen? ⟨w.heap.size, 1, none⟩ = false := frozen_of_row hX3
         have f2 : y3.frozen? ⟨w.heap.size, 2, none⟩ = false := frozen_of_row hX3
         have f3 : y3.frozen? ⟨w.heap.size, 3, none⟩ = false := frozen_of_row hX3
         have f4 : y3.frozen? ⟨w.heap.size, 4, none⟩ = false := frozen_of_row hX3
         clear z1 z2 z3
         have z1 := below_some (unhide HY3) j1
         have z2 := below_some (unhide HY3) j2
         have z3 := below_some (unhide HY3) j3
         clear hb hX3)
      | fail)
  all_goals
    go_wp2_with fail
    refine bodyPost_ret (v := .agg #[.int .i64 1, .int .i64 n1, .string W2, .int .i64 n3, .int .i64 0]) (by simp [results, Tryd.results35, go_sem, c0, c1, c2, c3, c4]) rfl ⟨rfl, ?_⟩
    iterate 5 refine setB ?_ (Nat.le_refl _)
    exact btP (unhide HB0) (unhide HY3)

set_option maxRecDepth 100000 in
set_option maxHeartbeats 2000000 in
theorem gone_yes (W1 : ByteArray) (n1 : Int) (te : TypeId) (pe : Value) (g cap : Nat) (w : World) (s1 : W1.size ≤ 2097152) (h1 : numW W1 = some n1) (k0 : w.cell? ⟨g, 0, none⟩ = some (.string ⟨#[103, 111, 110, 101]⟩)) (k1 : w.cell? ⟨g, 1, none⟩ = some (.string W1)) (hv : NV w te pe) :
    Calls Tryd.prog 35 #[.slice (some ⟨g, 0, none⟩) 2 cap] w fun e w' => e = .returned (.agg #[.int .i64 3, .int .i64 n1, .string ⟨#[]⟩, .int .i64 0, .int .i64 0]) ∧ Below w.heap.size w w' := by
  have hA := hide (fun u => number_yes W1 n1 u s1 h1)
  have HB0 := hide (abP (w := w) (.cells #[.int .i64 0, .int .i64 0, .string ⟨#[]⟩, .int .i64 0, .int .i64 0] 26))
  have HV := hide (hv.on (abP (w := w) (.cells #[.int .i64 0, .int .i64 0, .string ⟨#[]⟩, .int .i64 0, .int .i64 0] 26)))
  have HX := hide (heap_alloc_new w (.cells #[.int .i64 0, .int .i64 0, .string ⟨#[]⟩, .int .i64 0, .int .i64 0] 26))
  have j0 := below_some (abP (w := w) (.cells #[.int .i64 0, .int .i64 0, .string ⟨#[]⟩, .int .i64 0, .int .i64 0] 26)) k0
  have j1 := below_some (abP (w := w) (.cells #[.int .i64 0, .int .i64 0, .string ⟨#[]⟩, .int .i64 0, .int .i64 0] 26)) k1
  clear s1 h1 k0 k1 hv
  go_enter Tryd.func35, Tryd.ntmps35
  go_wp2_with fail
  refine (unhide hA _).mono ?_
  rintro e y3 ⟨rfl, hb⟩
  have HY3 := hide (btP (unhide HB0) hb)
  have hX3 := (hb.block w.heap.size (Array.getElem?_eq_some_iff.1 (unhide HX)).1).trans (unhide HX)
  have c0 : y3.cell? ⟨w.heap.size, 0, none⟩ = some (.int .i64 0) := cell_of_row hX3 (by simp)
  have c1 : y3.cell? ⟨w.heap.size, 1, none⟩ = some (.int .i64 0) := cell_of_row hX3 (by simp)
  have c2 : y3.cell? ⟨w.heap.size, 2, none⟩ = some (.string ⟨#[]⟩) := cell_of_row hX3 (by simp)
  have c3 : y3.cell? ⟨w.heap.size, 3, none⟩ = some (.int .i64 0) := cell_of_row hX3 (by simp)
  have c4 : y3.cell? ⟨w.heap.size, 4, none⟩ = some (.int .i64 0) := cell_of_row hX3 (by simp)
  have f0 : y3.frozen? ⟨w.heap.size, 0, none⟩ = false := frozen_of_row hX3
  have f1 : y3.frozen? ⟨w.heap.size, 1, none⟩ = false := frozen_of_row hX3
  have f2 : y3.frozen? ⟨w.heap.size, 2, none⟩ = false := frozen_of_row hX3
  have f3 : y3.frozen? ⟨w.heap.size, 3, none⟩ = false := frozen_of_row hX3
  have f4 : y3.frozen? ⟨w.heap.size, 4, none⟩ = false := frozen_of_row hX3
  clear hb hX3
  go_wp2_with fail
  refine bodyPost_ret (v := .agg #[.int .i64 3, .int .i64 n1, .string ⟨#[]⟩, .int .i64 0, .int .i64 0]) (by simp [results, Tryd.results35, go_sem, c0, c1, c2, c3, c4]) rfl ⟨rfl, ?_⟩
  iterate 5 refine setB ?_ (Nat.le_refl _)
  exact unhide HY3

set_option maxRecDepth 100000 in
set_option maxHeartbeats 2000000 in
theorem gone_no (W1 : ByteArray)  (te : TypeId) (pe : Value) (g cap : Nat) (w : World) (s1 : W1.size ≤ 2097152) (h1 : numW W1 = none) (k0 : w.cell? ⟨g, 0, none⟩ = some (.string ⟨#[103, 111, 110, 101]⟩)) (k1 : w.cell? ⟨g, 1, none⟩ = some (.string W1)) (hv : NV w te pe) :
    Calls Tryd.prog 35 #[.slice (some ⟨g, 0, none⟩) 2 cap] w fun e w' => e = .panicked [{ v := .iface te pe, recovered := false }] ∧ Below w.heap.size w w' := by
  have hA := hide (fun u hu => number_no W1 te pe u s1 h1 hu)
  have HB0 := hide (abP (w := w) (.cells #[.int .i64 0, .int .i64 0, .string ⟨#[]⟩, .int .i64 0, .int .i64 0] 26))
  have HV := hide (hv.on (abP (w := w) (.cells #[.int .i64 0, .int .i64 0, .string ⟨#[]⟩, .int .i64 0, .int .i64 0] 26)))
  have HX := hide (heap_alloc_new w (.cells #[.int .i64 0, .int .i64 0, .string ⟨#[]⟩, .int .i64 0, .int .i64 0] 26))
  have j0 := below_some (abP (w := w) (.cells #[.int .i64 0, .int .i64 0, .string ⟨#[]⟩, .int .i64 0, .int .i64 0] 26)) k0
  have j1 := below_some (abP (w := w) (.cells #[.int .i64 0, .int .i64 0, .string ⟨#[]⟩, .int .i64 0, .int .i64 0] 26)) k1
  clear s1 h1 k0 k1 hv
  go_enter Tryd.func35, Tryd.ntmps35
  go_wp2_with fail
  refine (unhide hA _ (unhide HV)).mono ?_
  rintro e y3 ⟨rfl, hb⟩
  have HY3 := hide (btP (unhide HB0) hb)
  clear hb
  go_wp2_with fail
  exact ⟨rfl, rfl, unhide HY3⟩

set_option maxRecDepth 100000 in
set_option maxHeartbeats 2000000 in
theorem back_yes (W1 : ByteArray) (n1 : Int) (te : TypeId) (pe : Value) (g cap : Nat) (w : World) (s1 : W1.size ≤ 2097152) (h1 : numW W1 = some n1) (k0 : w.cell? ⟨g, 0, none⟩ = some (.string ⟨#[98, 97, 99, 107]⟩)) (k1 : w.cell? ⟨g, 1, none⟩ = some (.string W1)) (hv : NV w te pe) :
    Calls Tryd.prog 35 #[.slice (some ⟨g, 0, none⟩) 2 cap] w fun e w' => e = .returned (.agg #[.int .i64 4, .int .i64 n1, .string ⟨#[]⟩, .int .i64 0, .int .i64 0]) ∧ Below w.heap.size w w' := by
  have hA := hide (fun u => number_yes W1 n1 u s1 h1)
  have HB0 := hide (abP (w := w) (.cells #[.int .i64 0, .int .i64 0, .string ⟨#[]⟩, .int .i64 0, .int .i64 0] 26))
  have HV := hide (hv.on (abP (w := w) (.cells #[.int .i64 0, .int .i64 0, .string ⟨#[]⟩, .int .i64 0, .int .i64 0] 26)))
  have HX := hide (heap_alloc_new w (.cells #[.int .i64 0, .int .i64 0, .string ⟨#[]⟩, .int .i64 0, .int .i64 0] 26))
  have j0 := below_some (abP (w := w) (.cells #[.int .i64 0, .int .i64 0, .string ⟨#[]⟩, .int .i64 0, .int .i64 0] 26)) k0
  have j1 := below_some (abP (w := w) (.cells #[.int .i64 0, .int .i64 0, .string ⟨#[]⟩, .int .i64 0, .int .i64 0] 26)) k1
  clear s1 h1 k0 k1 hv
  go_enter Tryd.func35, Tryd.ntmps35
  go_wp2_with fail
  refine (unhide hA _).mono ?_
  rintro e y3 ⟨rfl, hb⟩
  have HY3 := hide (btP (unhide HB0) hb)
  have hX3 := (hb.block w.heap.size (Array.getElem?_eq_some_iff.1 (unhide HX)).1).trans (unhide HX)
  have c0 : y3.cell? ⟨w.heap.size, 0, none⟩ = some (.int .i64 0) := cell_of_row hX3 (by simp)
  have c1 : y3.cell? ⟨w.heap.size, 1, none⟩ = some (.int .i64 0) := cell_of_row hX3 (by simp)
  have c2 : y3.cell? ⟨w.heap.size, 2, none⟩ = some (.string ⟨#[]⟩) := cell_of_row hX3 (by simp)
  have c3 : y3.cell? ⟨w.heap.size, 3, none⟩ = some (.int .i64 0) := cell_of_row hX3 (by simp)
  have c4 : y3.cell? ⟨w.heap.size, 4, none⟩ = some (.int .i64 0) := cell_of_row hX3 (by simp)
  have f0 : y3.frozen? ⟨w.heap.size, 0, none⟩ = false := frozen_of_row hX3
  have f1 : y3.frozen? ⟨w.heap.size, 1, none⟩ = false := frozen_of_row hX3
  have f2 : y3.frozen? ⟨w.heap.size, 2, none⟩ = false := frozen_of_row hX3
  have f3 : y3.frozen? ⟨w.heap.size, 3, none⟩ = false := frozen_of_row hX3
  have f4 : y3.frozen? ⟨w.heap.size, 4, none⟩ = false := frozen_of_row hX3
  clear hb hX3
  go_wp2_with fail
  refine bodyPost_ret (v := .agg #[.int .i64 4, .int .i64 n1, .string ⟨#[]⟩, .int .i64 0, .int .i64 0]) (by simp [results, Tryd.results35, go_sem, c0, c1, c2, c3, c4]) rfl ⟨rfl, ?_⟩
  iterate 5 refine setB ?_ (Nat.le_refl _)
  exact unhide HY3

set_option maxRecDepth 100000 in
set_option maxHeartbeats 2000000 in
theorem back_no (W1 : ByteArray)  (te : TypeId) (pe : Value) (g cap : Nat) (w : World) (s1 : W1.size ≤ 2097152) (h1 : numW W1 = none) (k0 : w.cell? ⟨g, 0, none⟩ = some (.string ⟨#[98, 97, 99, 107]⟩)) (k1 : w.cell? ⟨g, 1, none⟩ = some (.string W1)) (hv : NV w te pe) :
    Calls Tryd.prog 35 #[.slice (some ⟨g, 0, none⟩) 2 cap] w fun e w' => e = .panicked [{ v := .iface te pe, recovered := false }] ∧ Below w.heap.size w w' := by
  have hA := hide (fun u hu => number_no W1 te pe u s1 h1 hu)
  have HB0 := hide (abP (w := w) (.cells #[.int .i64 0, .int .i64 0, .string ⟨#[]⟩, .int .i64 0, .int .i64 0] 26))
  have HV := hide (hv.on (abP (w := w) (.cells #[.int .i64 0, .int .i64 0, .string ⟨#[]⟩, .int .i64 0, .int .i64 0] 26)))
  have HX := hide (heap_alloc_new w (.cells #[.int .i64 0, .int .i64 0, .string ⟨#[]⟩, .int .i64 0, .int .i64 0] 26))
  have j0 := below_some (abP (w := w) (.cells #[.int .i64 0, .int .i64 0, .string ⟨#[]⟩, .int .i64 0, .int .i64 0] 26)) k0
  have j1 := below_some (abP (w := w) (.cells #[.int .i64 0, .int .i64 0, .string ⟨#[]⟩, .int .i64 0, .int .i64 0] 26)) k1
  clear s1 h1 k0 k1 hv
  go_enter Tryd.func35, Tryd.ntmps35
  go_wp2_with fail
  refine (unhide hA _ (unhide HV)).mono ?_
  rintro e y3 ⟨rfl, hb⟩
  have HY3 := hide (btP (unhide HB0) hb)
  clear hb
  go_wp2_with fail
  exact ⟨rfl, rfl, unhide HY3⟩

set_option maxRecDepth 100000 in
set_option maxHeartbeats 2000000 in
theorem none1 (te : TypeId) (pe : Value) (g cap : Nat) (w : World)   (hv : NV w te pe) :
    Calls Tryd.prog 35 #[.slice (some ⟨g, 0, none⟩) 1 cap] w fun e w' => e = .panicked [{ v := .iface te pe, recovered := false }] ∧ Below w.heap.size w w' := by
  have HB0 := hide (abP (w := w) (.cells #[.int .i64 0, .int .i64 0, .string ⟨#[]⟩, .int .i64 0, .int .i64 0] 26))
  have hv0 := (hv.on (abP (w := w) (.cells #[.int .i64 0, .int .i64 0, .string ⟨#[]⟩, .int .i64 0, .int .i64 0] 26))).1
  clear hv 
  go_enter Tryd.func35, Tryd.ntmps35
  go_wp2_with fail
  exact ⟨rfl, rfl, unhide HB0⟩

set_option maxRecDepth 100000 in
set_option maxHeartbeats 2000000 in
theorem none2 (W0 : ByteArray) (te : TypeId) (pe : Value) (g cap : Nat) (w : World) (q0 : (W0.toList == [103, 111, 110, 101]) = false) (q1 : (W0.toList == [98, 97, 99, 107]) = false) (k0 : w.cell? ⟨g, 0, none⟩ = some (.string W0)) (hv : NV w te pe) :
    Calls Tryd.prog 35 #[.slice (some ⟨g, 0, none⟩) 2 cap] w fun e w' => e = .panicked [{ v := .iface te pe, recovered := false }] ∧ Below w.heap.size w w' := by
  have HB0 := hide (abP (w := w) (.cells #[.int .i64 0, .int .i64 0, .string ⟨#[]⟩, .int .i64 0, .int .i64 0] 26))
  have hv0 := (hv.on (abP (w := w) (.cells #[.int .i64 0, .int .i64 0, .string ⟨#[]⟩, .int .i64 0, .int .i64 0] 26))).1
  have j0 := below_some (abP (w := w) (.cells #[.int .i64 0, .int .i64 0, .string ⟨#[]⟩, .int .i64 0, .int .i64 0] 26)) k0
  clear hv k0
  go_enter Tryd.func35, Tryd.ntmps35
  go_wp2_with fail
  exact ⟨rfl, rfl, unhide HB0⟩

set_option maxRecDepth 100000 in
set_option maxHeartbeats 2000000 in
theorem none3 (W0 : ByteArray) (te : TypeId) (pe : Value) (g cap : Nat) (w : World) (q0 : (W0.toList == [116, 114, 121]) = false) (k0 : w.cell? ⟨g, 0, none⟩ = some (.string W0)) (hv : NV w te pe) :
    Calls Tryd.prog 35 #[.slice (some ⟨g, 0, none⟩) 3 cap] w fun e w' => e = .panicked [{ v := .iface te pe, recovered := false }] ∧ Below w.heap.size w w' := by
  have HB0 := hide (abP (w := w) (.cells #[.int .i64 0, .int .i64 0, .string ⟨#[]⟩, .int .i64 0, .int .i64 0] 26))
  have hv0 := (hv.on (abP (w := w) (.cells #[.int .i64 0, .int .i64 0, .string ⟨#[]⟩, .int .i64 0, .int .i64 0] 26))).1
  have j0 := below_some (abP (w := w) (.cells #[.int .i64 0, .int .i64 0, .string ⟨#[]⟩, .int .i64 0, .int .i64 0] 26)) k0
  clear hv k0
  go_enter Tryd.func35, Tryd.ntmps35
  go_wp2_with fail
  exact ⟨rfl, rfl, unhide HB0⟩

set_option maxRecDepth 100000 in
set_option maxHeartbeats 2000000 in
theorem none4 (W0 : ByteArray) (te : TypeId) (pe : Value) (g cap : Nat) (w : World) (q0 : (W0.toList == [116, 97, 107, 101]) = false) (k0 : w.cell? ⟨g, 0, none⟩ = some (.string W0)) (hv : NV w te pe) :
    Calls Tryd.prog 35 #[.slice (some ⟨g, 0, none⟩) 4 cap] w fun e w' => e = .panicked [{ v := .iface te pe, recovered := false }] ∧ Below w.heap.size w w' := by
  have HB0 := hide (abP (w := w) (.cells #[.int .i64 0, .int .i64 0, .string ⟨#[]⟩, .int .i64 0, .int .i64 0] 26))
  have hv0 := (hv.on (abP (w := w) (.cells #[.int .i64 0, .int .i64 0, .string ⟨#[]⟩, .int .i64 0, .int .i64 0] 26))).1
  have j0 := below_some (abP (w := w) (.cells #[.int .i64 0, .int .i64 0, .string ⟨#[]⟩, .int .i64 0, .int .i64 0] 26)) k0
  clear hv k0
  go_enter Tryd.func35, Tryd.ntmps35
  go_wp2_with fail
  exact ⟨rfl, rfl, unhide HB0⟩

end Go.Proofs.YtjckdepcgjfomaaDoor
