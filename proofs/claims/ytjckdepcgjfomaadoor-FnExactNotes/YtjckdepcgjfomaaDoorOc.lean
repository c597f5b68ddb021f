/- The deferred closure of impl.NoteOf: of a frame that panics it takes the panic and lays zero and false; of one that returns it turns nothing. -/
import Derived.Test.YtjckdepcgjfomaaDoorXl
namespace Go.Proofs.YtjckdepcgjfomaaDoor
open Go.RowKit Go.Deep

set_option maxRecDepth 100000 in
set_option maxHeartbeats 2000000 in
theorem catch_idle (p q : Addr) (w : World) :
    CallsD Tryd.prog 25 #[.pointer (some p), .pointer (some q)] .returning w fun e u' w' => e = .returned (.tuple #[]) ∧ u' = .returning ∧ w' = w := by
  refine callsD_of_wpS Tryd.func25 rfl fun c₀ cs hu => ?_
  apply wpS_seq
  apply wpS_region
  simp [wpOpsS, go_sem, recoverD, hu, Tryd.ntmps25, Exit.thenS]
  refine wpS_cond (t := false) (by simp [Act.eval, Array.replicate]) ?_
  simp only [Bool.false_eq_true, if_false]
  refine wpS_of_wp (wp_skip ?_)
  cases c₀
  simp_all [bodyPostS, results, Tryd.results25]

set_option maxRecDepth 100000 in
set_option maxHeartbeats 2000000 in
theorem catch_panicking (g k : Nat) (u : TypeId) (pv : Value) (older : List PanicEntry) (a0 a1 a2 a3 a4 d0 : Value) (w : World)
    (c0 : w.cell? ⟨g, 0, none⟩ = some a0) (c1 : w.cell? ⟨g, 1, none⟩ = some a1) (c2 : w.cell? ⟨g, 2, none⟩ = some a2) (c3 : w.cell? ⟨g, 3, none⟩ = some a3) (c4 : w.cell? ⟨g, 4, none⟩ = some a4) (e0 : w.cell? ⟨k, 0, none⟩ = some d0)
    (f0 : ∀ j, w.frozen? ⟨g, j, none⟩ = false) (h0 : w.frozen? ⟨k, 0, none⟩ = false) (hne : k ≠ g) :
    CallsD Tryd.prog 25 #[.pointer (some ⟨g, 0, none⟩), .pointer (some ⟨k, 0, none⟩)] (.panicking ({ v := .iface u pv, recovered := false } :: older)) w fun e u' w' =>
      e = .returned (.tuple #[]) ∧ u' = .panicking ({ v := .iface u pv, recovered := true } :: older) ∧ w' = (w.setCells g 0 [.int .i64 0, .int .i64 0, .string ⟨#[]⟩, .int .i64 0, .int .i64 0]).setCell ⟨k, 0, none⟩ (.bool false) := by
  have f0' := f0 0
  have f1' := f0 1
  have f2' := f0 2
  have f3' := f0 3
  have f4' := f0 4
  have hne' := hne.symm
  refine callsD_of_wpS Tryd.func25 rfl fun c₀ cs hu => ?_
  apply wpS_seq
  apply wpS_region
  simp [wpOpsS, go_sem, recoverD, hu, Tryd.ntmps25, Exit.thenS]
  refine wpS_cond (t := true) (by simp [Act.eval, Array.replicate]) ?_
  simp only [if_true]
  apply wpS_region
  simp [wpOpsS, go_sem, c0, c1, c2, c3, c4, e0, f0', f1', f2', f3', f4', h0, bodyPostS, results, Tryd.results25, World.setCells]

set_option maxRecDepth 100000 in
set_option maxHeartbeats 2000000 in
theorem noteOf_yes (s : ByteArray) (k h : Int) (d : ByteArray) (b t : Int) (w : World)
    (hR : ∀ v, Below w.heap.size w v → Calls Tryd.prog 26 #[.string s] v fun e w' => e = .returned (.agg #[.int .i64 k, .int .i64 h, .string d, .int .i64 b, .int .i64 t]) ∧ Below v.heap.size v w') :
    Calls Tryd.prog 11 #[.string s] w fun e w' => e = .returned (.tuple #[.agg #[.int .i64 k, .int .i64 h, .string d, .int .i64 b, .int .i64 t], .bool true]) ∧ Below w.heap.size w w' := by
  have hmf : ∀ (fn : Fn) (first cap : Array Value) (w : World), (Instr.makeFunc fn first cap).run Tryd.prog w = .ok (.func fn first cap) w := fun _ _ _ _ => rfl
  have HR := hide hR
  have HB0 := hide (btP (abP (w := w) (.cells #[.int .i64 0, .int .i64 0, .string ⟨#[]⟩, .int .i64 0, .int .i64 0] 26)) (abP (.cells #[.bool false] 4)))
  have HX := hide ((abP (w := w.alloc (.cells #[.int .i64 0, .int .i64 0, .string ⟨#[]⟩, .int .i64 0, .int .i64 0] 26)) (.cells #[.bool false] 4)).block w.heap.size (by simp) |>.trans (heap_alloc_new w (.cells #[.int .i64 0, .int .i64 0, .string ⟨#[]⟩, .int .i64 0, .int .i64 0] 26)))
  have HY : Hid (((w.alloc (.cells #[.int .i64 0, .int .i64 0, .string ⟨#[]⟩, .int .i64 0, .int .i64 0] 26)).alloc (.cells #[.bool false] 4)).heap[w.heap.size + 1]? = some (.cells #[.bool false] 4)) := by
    have := heap_alloc_new (w.alloc (.cells #[.int .i64 0, .int .i64 0, .string ⟨#[]⟩, .int .i64 0, .int .i64 0] 26)) (.cells #[.bool false] 4)
    rwa [heap_size_alloc] at this
  clear hR
  go_enter_defers Tryd.func11, Tryd.ntmps11
  go_wp2_with fail
  refine (unhide HR _ (unhide HB0)).mono ?_
  rintro e w2 ⟨rfl, hb2⟩
  have HB2 := hide (btP (unhide HB0) hb2)
  have hX2 := (hb2.block _ (by simp; omega)).trans (unhide HX)
  have hY2 := (hb2.block _ (by simp)).trans (unhide HY)
  have c0 : w2.cell? ⟨w.heap.size, 0, none⟩ = some (.int .i64 0) := cell_of_row hX2 (by simp)
  have c1 : w2.cell? ⟨w.heap.size, 1, none⟩ = some (.int .i64 0) := cell_of_row hX2 (by simp)
  have c2 : w2.cell? ⟨w.heap.size, 2, none⟩ = some (.string ⟨#[]⟩) := cell_of_row hX2 (by simp)
  have c3 : w2.cell? ⟨w.heap.size, 3, none⟩ = some (.int .i64 0) := cell_of_row hX2 (by simp)
  have c4 : w2.cell? ⟨w.heap.size, 4, none⟩ = some (.int .i64 0) := cell_of_row hX2 (by simp)
  have e0 : w2.cell? ⟨w.heap.size + 1, 0, none⟩ = some (.bool false) := cell_of_row hY2 (by simp)
  have f0 : w2.frozen? ⟨w.heap.size, 0, none⟩ = false := frozen_of_row hX2
  have f1 : w2.frozen? ⟨w.heap.size, 1, none⟩ = false := frozen_of_row hX2
  have f2 : w2.frozen? ⟨w.heap.size, 2, none⟩ = false := frozen_of_row hX2
  have f3 : w2.frozen? ⟨w.heap.size, 3, none⟩ = false := frozen_of_row hX2
  have f4 : w2.frozen? ⟨w.heap.size, 4, none⟩ = false := frozen_of_row hX2
  have g0 : w2.frozen? ⟨w.heap.size + 1, 0, none⟩ = false := frozen_of_row hY2
  clear hb2 hX2 hY2
  go_wp2_with fail
  refine leaves_cons (f := 25) (args := #[.pointer (some ⟨w.heap.size, 0, none⟩), .pointer (some ⟨w.heap.size + 1, 0, none⟩)]) (by simp) (by simp [go_sem]) ?_
  refine (catch_idle ⟨w.heap.size, 0, none⟩ ⟨w.heap.size + 1, 0, none⟩ _).mono ?_
  rintro e u' w'' ⟨rfl, rfl, rfl⟩
  simp [Leaves, settle, results, Tryd.results11, go_sem, c0, c1, c2, c3, c4, e0]
  iterate 6 refine setB ?_ (by omega)
  exact unhide HB2

set_option maxRecDepth 100000 in
set_option maxHeartbeats 2000000 in
theorem noteOf_no (s : ByteArray) (u : TypeId) (pv : Value) (w : World)
    (hR : ∀ v, Below w.heap.size w v → Calls Tryd.prog 26 #[.string s] v fun e w' => e = .panicked [{ v := .iface u pv, recovered := false }] ∧ Below v.heap.size v w') :
    Calls Tryd.prog 11 #[.string s] w fun e w' => e = .returned (.tuple #[.agg #[.int .i64 0, .int .i64 0, .string ⟨#[]⟩, .int .i64 0, .int .i64 0], .bool false]) ∧ Below w.heap.size w w' := by
  have hmf : ∀ (fn : Fn) (first cap : Array Value) (w : World), (Instr.makeFunc fn first cap).run Tryd.prog w = .ok (.func fn first cap) w := fun _ _ _ _ => rfl
  have HR := hide hR
  have HB0 := hide (btP (abP (w := w) (.cells #[.int .i64 0, .int .i64 0, .string ⟨#[]⟩, .int .i64 0, .int .i64 0] 26)) (abP (.cells #[.bool false] 4)))
  have HX := hide ((abP (w := w.alloc (.cells #[.int .i64 0, .int .i64 0, .string ⟨#[]⟩, .int .i64 0, .int .i64 0] 26)) (.cells #[.bool false] 4)).block w.heap.size (by simp) |>.trans (heap_alloc_new w (.cells #[.int .i64 0, .int .i64 0, .string ⟨#[]⟩, .int .i64 0, .int .i64 0] 26)))
  have HY : Hid (((w.alloc (.cells #[.int .i64 0, .int .i64 0, .string ⟨#[]⟩, .int .i64 0, .int .i64 0] 26)).alloc (.cells #[.bool false] 4)).heap[w.heap.size + 1]? = some (.cells #[.bool false] 4)) := by
    have := heap_alloc_new (w.alloc (.cells #[.int .i64 0, .int .i64 0, .string ⟨#[]⟩, .int .i64 0, .int .i64 0] 26)) (.cells #[.bool false] 4)
    rwa [heap_size_alloc] at this
  clear hR
  go_enter_defers Tryd.func11, Tryd.ntmps11
  go_wp2_with fail
  refine (unhide HR _ (unhide HB0)).mono ?_
  rintro e w2 ⟨rfl, hb2⟩
  have HB2 := hide (btP (unhide HB0) hb2)
  have hX2 := (hb2.block _ (by simp; omega)).trans (unhide HX)
  have hY2 := (hb2.block _ (by simp)).trans (unhide HY)
  have c0 : w2.cell? ⟨w.heap.size, 0, none⟩ = some (.int .i64 0) := cell_of_row hX2 (by simp)
  have c1 : w2.cell? ⟨w.heap.size, 1, none⟩ = some (.int .i64 0) := cell_of_row hX2 (by simp)
  have c2 : w2.cell? ⟨w.heap.size, 2, none⟩ = some (.string ⟨#[]⟩) := cell_of_row hX2 (by simp)
  have c3 : w2.cell? ⟨w.heap.size, 3, none⟩ = some (.int .i64 0) := cell_of_row hX2 (by simp)
  have c4 : w2.cell? ⟨w.heap.size, 4, none⟩ = some (.int .i64 0) := cell_of_row hX2 (by simp)
  have e0 : w2.cell? ⟨w.heap.size + 1, 0, none⟩ = some (.bool false) := cell_of_row hY2 (by simp)
  have f0 : w2.frozen? ⟨w.heap.size, 0, none⟩ = false := frozen_of_row hX2
  have f1 : w2.frozen? ⟨w.heap.size, 1, none⟩ = false := frozen_of_row hX2
  have f2 : w2.frozen? ⟨w.heap.size, 2, none⟩ = false := frozen_of_row hX2
  have f3 : w2.frozen? ⟨w.heap.size, 3, none⟩ = false := frozen_of_row hX2
  have f4 : w2.frozen? ⟨w.heap.size, 4, none⟩ = false := frozen_of_row hX2
  have g0 : w2.frozen? ⟨w.heap.size + 1, 0, none⟩ = false := frozen_of_row hY2
  have hf : ∀ j, w2.frozen? ⟨w.heap.size, j, none⟩ = false := fun j => frozen_of_row hX2
  clear hb2 hX2 hY2
  go_wp2_with fail
  refine leaves_cons (f := 25) (args := #[.pointer (some ⟨w.heap.size, 0, none⟩), .pointer (some ⟨w.heap.size + 1, 0, none⟩)]) (by simp) (by simp [go_sem]) ?_
  refine (catch_panicking w.heap.size (w.heap.size + 1) u pv [] _ _ _ _ _ _ _ c0 c1 c2 c3 c4 e0 hf g0 (by omega)).mono ?_
  rintro e u' w'' ⟨rfl, rfl, rfl⟩
  simp [Leaves, settle, results, Tryd.results11, go_sem, World.setCells, c0, c1, c2, c3, c4, e0]
  iterate 6 refine setB ?_ (by omega)
  exact unhide HB2

end Go.Proofs.YtjckdepcgjfomaaDoor
