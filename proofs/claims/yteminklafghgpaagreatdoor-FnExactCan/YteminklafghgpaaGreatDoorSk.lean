
/- The walk of the share's method shaped. -/
import Derived.Test.YteminklafghgpaaGreatDoorSh
import Derived.Deep.RegionWith
namespace Go.Proofs.YteminklafghgpaaGreatDoor
open Go.RowKit Go.Deep

set_option maxHeartbeats 4000000 in
theorem sh54_no (op n : Int) (s : ByteArray) (a : Option Addr) (len cap : Nat) (w : World) (h : onlyB n s len 2 = false) :
    Calls Tryz.prog 115 #[.agg #[.int .i64 op, .int .i64 n, .string s, .slice a len cap]] w fun e w' => e = .returned (.bool false) ∧ Below w.heap.size w w' := by
  have h52 := only52 op n s a len cap 2
  rw [h] at h52
  have H := hide h52
  clear h h52
  go_enter Tryz.func115, Tryz.ntmps115
  go_wp2_with fail
  first
    | go_region_with (go_at_call 113; refine (unhide H _).mono ?_; rintro e w2 ⟨rfl, hb2⟩; have HB := hide (((Below.refl _ _).alloc (Nat.le_refl _) _).trans ((below_drw hb2).mono (by simp))))
    | fail
  all_goals go_wp2_with fail
  all_goals go_ret
  all_goals exact ⟨rfl, unhide HB⟩

end Go.Proofs.YteminklafghgpaaGreatDoor
