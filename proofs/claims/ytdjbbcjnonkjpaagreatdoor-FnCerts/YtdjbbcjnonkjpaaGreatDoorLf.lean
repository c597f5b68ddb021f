
/- The walks at a term with no kids: impl.copyTerm, laws.markTerm, laws.heldTerm; nothing that was there is written. -/
import Derived.Test.YtdjbbcjnonkjpaaGreatDoorEq
import Derived.Test.YtdjbbcjnonkjpaaGreatDoorCy
import Derived.Deep.RegionHeld3
namespace Go.Proofs.YtdjbbcjnonkjpaaGreatDoor
open Go.RowKit Go.Deep

set_option maxRecDepth 100000 in
set_option maxHeartbeats 1000000 in
theorem copy_leaf (op n : Int) (s : ByteArray) (a : Option Addr) (cap : Nat) (w : World) (hs : s.size ≤ 4194304) :
    Calls Tryz.prog 123 #[.agg #[.int .i64 op, .int .i64 n, .string s, .slice a 0 cap]] w fun e w' => e = .returned (.agg #[.int .i64 op, .int .i64 n, .string s, .slice none 0 0]) ∧ Below w.heap.size w w' := by
  have HCL := hide (fun v => cloneS s v hs)
  go_enter Tryz.func123, Tryz.ntmps123
  go_wp2_with fail
  generalize hgw : ((w.alloc (.cells #[.int .i64 op, .int .i64 n, .string s, .slice a 0 cap] 29)).alloc (.cells #[.int .i64 0, .int .i64 0, .string ByteArray.empty, .slice none 0 0] 29)) = W0 at *
  go_loopw [3, 9] (fun v i wr => v = .slice none 0 0 ∧ i = .int .i64 0 ∧ wr = W0) (fun _ _ _ => 0)
  case atStart => exact ⟨rfl, rfl, hgw⟩
  case round =>
    obtain ⟨rfl, rfl, hwr⟩ := hrel
    have HB0 : Hid (Below w.heap.size w W0) := by
      rw [← hgw]
      exact ((Below.refl _ _).alloc (Nat.le_refl _) _).alloc (by simp) _
    obtain ⟨⟨p0, p1, p2, p3⟩, ⟨q0, q1, q2, q3⟩, e0, e1, e2, e3⟩ := boxes2 hgw (Below.refl W0.heap.size W0)
    subst hwr
    have HQ := hide (And.intro q0 (And.intro q1 (And.intro q2 q3)))
    have HEE := hide (And.intro e0 (And.intro e1 (And.intro e2 e3)))
    have HLT := hide (lt_of_cell q0)
    clear p3 q0 q1 q2 q3 e0 e1 e2 e3 hgw
    go_wp2_with fail
    go_region_held3 (fun x => x.cell? ⟨w.heap.size, 0, none⟩ = some (.int .i64 op) ∧ x.cell? ⟨w.heap.size, 1, none⟩ = some (.int .i64 n) ∧ x.cell? ⟨w.heap.size, 2, none⟩ = some (.string s)) (go_keep)
      (first | (go_at_call 109
                refine (unhide HCL _).mono ?_
                rintro e w2 ⟨rfl, hb2⟩
                have hb2' := hide (below_drew' hb2)
                have f0 := kpc (unhide hb2') p0
                have f1 := kpc (unhide hb2') p1
                have f2 := kpc (unhide hb2') p2
                have q0 := kpc (unhide hb2') (unhide HQ).1
                have q1 := kpc (unhide hb2') (unhide HQ).2.1
                have q2 := kpc (unhide hb2') (unhide HQ).2.2.1
                have q3 := kpc (unhide hb2') (unhide HQ).2.2.2
                have e0 := keepfY (unhide hb2') (unhide HLT) (unhide HEE).1
                have e1 := keepfY (unhide hb2') (unhide HLT) (unhide HEE).2.1
                have e2 := keepfY (unhide hb2') (unhide HLT) (unhide HEE).2.2.1
                have e3 := keepfY (unhide hb2') (unhide HLT) (unhide HEE).2.2.2))
    have HMM := hide (bt0 (unhide HB0) (unhide hb2'))
    clear p0 p1 p2 f0 f1 f2 hb2 hb2'
    go_wp2_with fail
    refine bodyPost_ret (v := .agg #[.int .i64 op, .int .i64 n, .string s, .slice none 0 0]) (by simp [results, Tryz.results123, go_sem, q0, q1, q2, q3]) rfl ⟨rfl, ?_⟩
    exact ((((unhide HMM).setCell (by show w.heap.size ≤ w.heap.size + 1; omega) _).setCell (by show w.heap.size ≤ w.heap.size + 1; omega) _).setCell (by show w.heap.size ≤ w.heap.size + 1; omega) _).setCell (by show w.heap.size ≤ w.heap.size + 1; omega) _

theorem marks_nil (a : Option Addr) (cap : Nat) (k : Int) (w : World) :
    Calls Tryz.prog 105 #[.slice a 0 cap, .int .i64 k] w fun e w' => e = .returned (.int .i64 k) ∧ Below w.heap.size w w' := by
  go_enter Tryz.func105, Tryz.ntmps105
  go_wp2_with fail
  go_loop [1, 5] (fun x i => x = .int .i64 k ∧ i = .int .i64 0) (fun _ _ => 0)
  case atStart => exact ⟨rfl, rfl⟩
  case round =>
    obtain ⟨rfl, rfl⟩ := hrel
    go_wp2_with fail
    go_ret
    exact ⟨rfl, Below.refl _ _⟩

theorem helds_nil (a : Option Addr) (cap : Nat) (k : Int) (w : World) :
    Calls Tryz.prog 106 #[.slice a 0 cap, .int .i64 k] w fun e w' => e = .returned (.int .i64 k) ∧ Below w.heap.size w w' := by
  go_enter Tryz.func106, Tryz.ntmps106
  go_wp2_with fail
  go_loop [1, 5] (fun x i => x = .int .i64 k ∧ i = .int .i64 0) (fun _ _ => 0)
  case atStart => exact ⟨rfl, rfl⟩
  case round =>
    obtain ⟨rfl, rfl⟩ := hrel
    go_wp2_with fail
    go_ret
    exact ⟨rfl, Below.refl _ _⟩

theorem mark_leaf (op n : Int) (s : ByteArray) (a : Option Addr) (cap : Nat) (k : Int) (w : World) :
    Calls Tryz.prog 46 #[.agg #[.int .i64 op, .int .i64 n, .string s, .slice a 0 cap], .int .i64 k] w fun e w' => e = .returned (.int .i64 k) ∧ Below w.heap.size w w' := by
  go_enter Tryz.func46, Tryz.ntmps46
  go_wp2_with fail
  refine (marks_nil a cap k _).mono ?_
  rintro e w2 ⟨rfl, hb2⟩
  go_wp2_with fail
  go_ret
  exact ⟨rfl, ((Below.refl _ _).alloc (Nat.le_refl _) _).trans (hb2.mono (by simp))⟩

theorem held_leaf (op n : Int) (s : ByteArray) (a : Option Addr) (cap : Nat) (k : Int) (w : World) (hk : 0 ≤ k) :
    Calls Tryz.prog 47 #[.agg #[.int .i64 op, .int .i64 n, .string s, .slice a 0 cap], .int .i64 k] w fun e w' => e = .returned (.int .i64 k) ∧ Below w.heap.size w w' := by
  go_enter Tryz.func47, Tryz.ntmps47
  go_wp2_with fail
  refine (helds_nil a cap k _).mono ?_
  rintro e w2 ⟨rfl, hb2⟩
  go_wp2_with fail
  go_ret
  exact ⟨rfl, ((Below.refl _ _).alloc (Nat.le_refl _) _).trans (hb2.mono (by simp))⟩

end Go.Proofs.YtdjbbcjnonkjpaaGreatDoor
