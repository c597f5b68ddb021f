/- laws.markClient and laws.heldClient of a client whose share is zero. -/
import Derived.Test.YtfeolcefgciflaaCl
namespace Go.Proofs.Ytfeolcefgciflaa
open Go.RowKit Go.Deep

set_option maxRecDepth 100000 in
set_option maxHeartbeats 2000000 in
theorem markS (k : Int) (w : World) : Calls Try.prog 40 #[.slice none 0 0, .int .i64 k] w fun e w' => e = .returned (.int .i64 k) ∧ w' = w := by
  go_enter Try.func40, Try.ntmps40
  go_wp2_with fail
  go_loopw [1, 5] (fun x i wr => x = .int .i64 k ∧ i = .int .i64 0 ∧ wr = w) (fun _ _ _ => 0)
  case atStart => exact ⟨rfl, rfl, rfl⟩
  case round =>
    obtain ⟨rfl, rfl, rfl⟩ := hrel
    go_wp2_with fail
    go_ret
    exact ⟨rfl, rfl⟩

set_option maxRecDepth 100000 in
set_option maxHeartbeats 2000000 in
theorem heldS (k : Int) (w : World) : Calls Try.prog 41 #[.slice none 0 0, .int .i64 k] w fun e w' => e = .returned (.int .i64 k) ∧ w' = w := by
  go_enter Try.func41, Try.ntmps41
  go_wp2_with fail
  go_loopw [1, 5] (fun x i wr => x = .int .i64 k ∧ i = .int .i64 0 ∧ wr = w) (fun _ _ _ => 0)
  case atStart => exact ⟨rfl, rfl, rfl⟩
  case round =>
    obtain ⟨rfl, rfl, rfl⟩ := hrel
    go_wp2_with fail
    go_ret
    exact ⟨rfl, rfl⟩

set_option maxRecDepth 100000 in
set_option maxHeartbeats 2000000 in
theorem markT (k : Int) (hk : 0 ≤ k) (w : World) : Calls Try.prog 27 #[.agg #[.int .i64 0, .int .i64 0, .string ⟨#[]⟩, .slice none 0 0], .int .i64 k] w fun e w' => e = .returned (.int .i64 k) ∧ Below w.heap.size w w' := by
  have hS := hide (fun v => markS k v)
  have hn : ¬ k < 0 := by omega
  clear hk
  go_enter Try.func27, Try.ntmps27
  go_wp2_with fail
  refine (unhide hS _).mono ?_
  rintro e w2 ⟨rfl, rfl⟩
  go_wp2_with fail
  go_ret
  exact ⟨rfl, abC _⟩

set_option maxRecDepth 100000 in
set_option maxHeartbeats 2000000 in
theorem heldT (k : Int) (hk : 0 ≤ k) (w : World) : Calls Try.prog 28 #[.agg #[.int .i64 0, .int .i64 0, .string ⟨#[]⟩, .slice none 0 0], .int .i64 k] w fun e w' => e = .returned (.int .i64 k) ∧ Below w.heap.size w w' := by
  have hS := hide (fun v => heldS k v)
  have hn : ¬ k < 0 := by omega
  clear hk
  go_enter Try.func28, Try.ntmps28
  go_wp2_with fail
  refine (unhide hS _).mono ?_
  rintro e w2 ⟨rfl, rfl⟩
  go_wp2_with fail
  go_ret
  exact ⟨rfl, abC _⟩

set_option maxRecDepth 100000 in
set_option maxHeartbeats 2000000 in
theorem markK (st : Int) (h : ByteArray) (mu : Bool) (ep bo : Int) (i o : Int) (tl pr : Bool) (k : Int) (hk : 0 ≤ k) (w : World) : Calls Try.prog 12 #[.agg #[.int .i64 st, .string h, .bool mu, .int .i64 ep, .int .i64 bo, .int .i64 0, .int .i64 0, .string ⟨#[]⟩, .slice none 0 0, .int .i64 i, .int .i64 o, .bool tl, .bool pr], .int .i64 k] w fun e w' => e = .returned (.int .i64 k) ∧ Below w.heap.size w w' := by
  have hS := hide (fun v => markT k hk v)
  have hn : ¬ k < 0 := by omega
  clear hk
  go_enter Try.func12, Try.ntmps12
  go_wp2_with fail
  refine (unhide hS _).mono ?_
  rintro e w2 ⟨rfl, hb2⟩
  go_wp2_with fail
  go_ret
  exact ⟨rfl, btC (abC _) hb2⟩

set_option maxRecDepth 100000 in
set_option maxHeartbeats 2000000 in
theorem heldK (st : Int) (h : ByteArray) (mu : Bool) (ep bo : Int) (i o : Int) (tl pr : Bool) (k : Int) (hk : 0 ≤ k) (w : World) : Calls Try.prog 13 #[.agg #[.int .i64 st, .string h, .bool mu, .int .i64 ep, .int .i64 bo, .int .i64 0, .int .i64 0, .string ⟨#[]⟩, .slice none 0 0, .int .i64 i, .int .i64 o, .bool tl, .bool pr], .int .i64 k] w fun e w' => e = .returned (.int .i64 k) ∧ Below w.heap.size w w' := by
  have hS := hide (fun v => heldT k hk v)
  have hn : ¬ k < 0 := by omega
  clear hk
  go_enter Try.func13, Try.ntmps13
  go_wp2_with fail
  refine (unhide hS _).mono ?_
  rintro e w2 ⟨rfl, hb2⟩
  go_wp2_with fail
  go_ret
  exact ⟨rfl, btC (abC _) hb2⟩


end Go.Proofs.Ytfeolcefgciflaa
