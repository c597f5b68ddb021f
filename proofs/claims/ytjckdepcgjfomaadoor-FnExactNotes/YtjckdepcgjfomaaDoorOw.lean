/- The walk of impl.wordsNote at three words of a try. -/
import Derived.Test.YtjckdepcgjfomaaDoorOn
namespace Go.Proofs.YtjckdepcgjfomaaDoor
open Go.RowKit Go.Deep

set_option maxRecDepth 100000 in
set_option maxHeartbeats 2000000 in
theorem words2_yes (W1 W2 : ByteArray) (n1 n2 : Int) (g cap : Nat) (w : World) (s1 : W1.size ≤ 2097152) (s2 : W2.size ≤ 2097152) (h1 : numW W1 = some n1) (h2 : numW W2 = some n2)
    (k0 : w.cell? ⟨g, 0, none⟩ = some (.string ⟨#[116, 114, 121]⟩)) (k1 : w.cell? ⟨g, 1, none⟩ = some (.string W1)) (k2 : w.cell? ⟨g, 2, none⟩ = some (.string W2)) :
    Calls Tryd.prog 35 #[.slice (some ⟨g, 0, none⟩) 3 cap] w fun e w' => e = .returned (.agg #[.int .i64 2, .int .i64 n1, .string ⟨#[]⟩, .int .i64 0, .int .i64 n2]) ∧ Below w.heap.size w w' := by
  have hA := hide (fun u => number_yes W1 n1 u s1 h1)
  have hB := hide (fun u => number_yes W2 n2 u s2 h2)
  have HB0 := hide (abP (w := w) (.cells #[.int .i64 0, .int .i64 0, .string ⟨#[]⟩, .int .i64 0, .int .i64 0] 26))
  have HX := hide (heap_alloc_new w (.cells #[.int .i64 0, .int .i64 0, .string ⟨#[]⟩, .int .i64 0, .int .i64 0] 26))
  have j0 := below_some (abP (w := w) (.cells #[.int .i64 0, .int .i64 0, .string ⟨#[]⟩, .int .i64 0, .int .i64 0] 26)) k0
  have j1 := below_some (abP (w := w) (.cells #[.int .i64 0, .int .i64 0, .string ⟨#[]⟩, .int .i64 0, .int .i64 0] 26)) k1
  have j2 := below_some (abP (w := w) (.cells #[.int .i64 0, .int .i64 0, .string ⟨#[]⟩, .int .i64 0, .int .i64 0] 26)) k2
  have hg1 : g ≠ w.heap.size := Nat.ne_of_lt (lt_of_cell k0)
  have hg2 : w.heap.size ≠ g := hg1.symm
  clear s1 s2 h1 h2 k0 k1 k2
  go_enter Tryd.func35, Tryd.ntmps35
  go_wp2_with fail
  generalize w.alloc (.cells #[.int .i64 0, .int .i64 0, .string ⟨#[]⟩, .int .i64 0, .int .i64 0] 26) = V at *
  go_region_held3 (fun y => y.cell? ⟨g, 1, none⟩ = some (.string W1) ∧ y.cell? ⟨g, 2, none⟩ = some (.string W2)) (go_keep)
    (first
      | (go_at_call_of 47 W1
         refine (unhide hA _).mono ?_
         rintro e y1 ⟨rfl, hb⟩
         have HY1 : Hid (Below V.heap.size V y1) := drewB hb
         have z1 := below_some (unhide HY1) j1
         have z2 := below_some (unhide HY1) j2
         clear hb)
      | (go_at_call_of 47 W2
         refine (unhide hB _).mono ?_
         rintro e y2 ⟨rfl, hb⟩
         have HY2 := hide (btP (unhide HY1) hb)
         have hX2 := ((unhide HY2).block w.heap.size (Array.getElem?_eq_some_iff.1 (unhide HX)).1).trans (unhide HX)
         have c0 : y2.cell? ⟨w.heap.size, 0, none⟩ = some (.int .i64 0) := cell_of_row hX2 (by simp)
         have c1 : y2.cell? ⟨w.heap.size, 1, none⟩ = some (.int .i64 0) := cell_of_row hX2 (by simp)
         have c2 : y2.cell? ⟨w.heap.size, 2, none⟩ = some (.string ⟨#[]⟩) := cell_of_row hX2 (by simp)
         have c3 : y2.cell? ⟨w.heap.size, 3, none⟩ = some (.int .i64 0) := cell_of_row hX2 (by simp)
         have c4 : y2.cell? ⟨w.heap.size, 4, none⟩ = some (.int .i64 0) := cell_of_row hX2 (by simp)
         have f0 : y2.frozen? ⟨w.heap.size, 0, none⟩ = false := frozen_of_row hX2
         have f1 : y2.frozen? ⟨w.heap.size, 1, none⟩ = false := frozen_of_row hX2
         have f2 : y2.frozen? ⟨w.heap.size, 2, none⟩ = false := frozen_of_row hX2
         have f3 : y2.frozen? ⟨w.heap.size, 3, none⟩ = false := frozen_of_row hX2
         have f4 : y2.frozen? ⟨w.heap.size, 4, none⟩ = false := frozen_of_row hX2
         have z1 := below_some (unhide HY2) j1
         have z2 := below_some (unhide HY2) j2
         clear hb hX2)
      | fail)
  all_goals
    go_wp2_with fail
    refine bodyPost_ret (v := .agg #[.int .i64 2, .int .i64 n1, .string ⟨#[]⟩, .int .i64 0, .int .i64 n2]) (by simp [results, Tryd.results35, go_sem, c0, c1, c2, c3, c4]) rfl ⟨rfl, ?_⟩
    iterate 5 refine setB ?_ (Nat.le_refl _)
    exact btP (unhide HB0) (unhide HY2)

end Go.Proofs.YtjckdepcgjfomaaDoor
