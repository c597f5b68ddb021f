/- The walk of impl.wordNumber: the number of a word, or a panic with the variable that the program holds. -/
import Derived.Test.YtjckdepcgjfomaaDoorXl
import Derived.Test.YtjckdepcgjfomaaDoorShelg
import Derived.WalkLawsBesides
namespace Go.Proofs.YtjckdepcgjfomaaDoor
open Go.RowKit Go.Deep

/-- What the program panics with, and that the two errors of strconv hold what an error may hold. -/
def NV (w : World) (te : TypeId) (pe : Value) : Prop := w.cell? ⟨0, 0, none⟩ = some (.iface te pe) ∧ (∃ ev, w.cell? ⟨5, 0, none⟩ = some ev ∧ (ev = .nilIface ∨ ∃ te pe, ev = .iface te pe)) ∧ (∃ ev, w.cell? ⟨6, 0, none⟩ = some ev ∧ (ev = .nilIface ∨ ∃ te pe, ev = .iface te pe))
theorem NV.on {w w' : World} {te : TypeId} {pe : Value} (h : NV w te pe) (hb : Below w.heap.size w w') : NV w' te pe := by
  obtain ⟨h0, ⟨e1, h1, k1⟩, e2, h2, k2⟩ := h
  exact ⟨below_some hb h0, ⟨e1, below_some hb h1, k1⟩, e2, below_some hb h2, k2⟩

/-- The number of a word, if it has one. -/
def numW (s : ByteArray) : Option Int := match Lib.atoiAll s.data.toList with
  | .ok v => some v
  | _ => none

theorem atoi_yes (s : ByteArray) (v : Int) (w : World) (hs : s.size ≤ 2097152) (h : numW s = some v) :
    Calls Tryd.prog 58 #[.string s] w fun e w' => e = .returned (.tuple #[.int .i64 v, .nilIface]) ∧ Below w.heap.size w w' := by
  unfold numW at h
  cases h2 : Lib.atoiAll s.data.toList with
  | ok u =>
    rw [h2] at h
    cases h
    refine (Tryd.strconv_Atoi_ok s (by omega) v h2 w).mono ?_
    rintro e w' ⟨he, hw⟩
    refine ⟨he, ?_⟩
    rcases hw with rfl | ⟨t, rfl⟩
    · exact Below.refl _ _
    · exact ⟨rfl, rfl, rfl, by rw [Lib.bytesWorld_size]; omega, fun j hj => Lib.bytesWorld_at_old w 5 t j hj⟩
  | «syntax» => rw [h2] at h; cases h
  | range => rw [h2] at h; cases h
theorem atoi_no (s : ByteArray) (te : TypeId) (pe : Value) (w : World) (hs : s.size ≤ 2097152) (h : numW s = none) (hv : NV w te pe) :
    Calls Tryd.prog 58 #[.string s] w fun e w' => ∃ v N, e = .returned (.tuple #[.int .i64 v, .iface 96 (.pointer (some ⟨N, 0, none⟩))]) ∧ Below w.heap.size w w' := by
  obtain ⟨h0, ⟨e1, h1, k1⟩, e2, h2', k2⟩ := hv
  unfold numW at h
  cases h2 : Lib.atoiAll s.data.toList with
  | ok u => rw [h2] at h; cases h
  | «syntax» =>
    refine (Tryd.strconv_Atoi_syntax s (by omega) h2 e1 w h1 k1).mono ?_
    rintro e w' ⟨N, he, _, _, hb⟩
    exact ⟨0, N, he, hb⟩
  | range =>
    refine (Tryd.strconv_Atoi_range s (by omega) h2 e2 w h2' k2).mono ?_
    rintro e w' ⟨N, he, _, _, hb⟩
    exact ⟨_, N, he, hb⟩

set_option maxRecDepth 100000 in
set_option maxHeartbeats 2000000 in
theorem number_yes (s : ByteArray) (v : Int) (w : World) (hs : s.size ≤ 2097152) (h : numW s = some v) :
    Calls Tryd.prog 47 #[.string s] w fun e w' => e = .returned (.int .i64 v) ∧ Below w.heap.size w w' := by
  have hA := hide (fun u => atoi_yes s v u hs h)
  clear hs h
  go_enter Tryd.func47, Tryd.ntmps47
  go_wp2_with fail
  refine (unhide hA _).mono ?_
  rintro e w2 ⟨rfl, hb2⟩
  have HB2 := hide hb2
  clear hb2
  go_wp2_with fail
  go_ret
  exact ⟨rfl, unhide HB2⟩

set_option maxRecDepth 100000 in
set_option maxHeartbeats 2000000 in
theorem number_no (s : ByteArray) (te : TypeId) (pe : Value) (w : World) (hs : s.size ≤ 2097152) (h : numW s = none) (hv : NV w te pe) :
    Calls Tryd.prog 47 #[.string s] w fun e w' => e = .panicked [{ v := .iface te pe, recovered := false }] ∧ Below w.heap.size w w' := by
  have hA := hide (fun u hu => atoi_no s te pe u hs h hu)
  have HV := hide hv
  clear hs h hv
  go_enter Tryd.func47, Tryd.ntmps47
  go_wp2_with fail
  refine (unhide hA _ (unhide HV)).mono ?_
  rintro e w2 ⟨v, n, rfl, hb2⟩
  have HB2 := hide hb2
  have c0 := ((unhide HV).on hb2).1
  clear hb2
  go_wp2_with fail
  exact ⟨rfl, rfl, unhide HB2⟩

end Go.Proofs.YtjckdepcgjfomaaDoor
