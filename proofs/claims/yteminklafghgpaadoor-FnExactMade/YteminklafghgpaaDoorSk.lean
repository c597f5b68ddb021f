
/- The walk of the share's method shaped. -/
import Derived.Test.YteminklafghgpaaDoorSh
import Derived.Deep.RegionWith
namespace Go.Proofs.YteminklafghgpaaDoor
open Go.RowKit Go.Deep

set_option maxHeartbeats 4000000 in
theorem sh54_no (op n : Int) (s : ByteArray) (a : Option Addr) (len cap : Nat) (w : World) (h : onlyB n s len 2 = false) :
    Calls Tryd.prog 82 #[.agg #[.int .i64 op, .int .i64 n, .string s, .slice a len cap]] w fun e w' => e = .returned (.bool false) ∧ Below w.heap.size w w' := by
  have h52 := only52 op n s a len cap 2
  rw [h] at h52
  have H := hide h52
  clear h h52
  go_enter Tryd.func82, Tryd.ntmps82
  go_wp2_with fail
  first
    | go_region_with (go_at_call 80; refine (unhide H _).mono ?_; rintro e w2 ⟨rfl, hb2⟩; have HB := hide (((Below.refl _ _).alloc (Nat.le_refl _) _).trans ((below_drw hb2).mono (by simp))))
    | fail
  all_goals go_wp2_with fail
  all_goals go_ret
  all_goals exact ⟨rfl, unhide HB⟩

end Go.Proofs.YteminklafghgpaaDoor
