/- The walk of laws.FnExactHostOk: at every text the two agree; nothing that was there is written. -/
import Derived.Test.YtpliknegohjepaaHj
namespace Go.Proofs.Ytpliknegohjepaa
open Go.RowKit Go.Deep

set_option maxRecDepth 100000 in
theorem lawHost (s : ByteArray) (w : World) :
    Calls Try.prog 3 #[.string s] w fun e w' => e = .returned (.bool true) ∧ Below w.heap.size w w' := by
  by_cases hs : s.size ≤ 1048576
  · have h10 := hide (fun v => hostS s v (by omega))
    have h11 := hide (fun v => hostI s v (by omega))
    have c1 : ¬ (1048576 : Int) < (s.size : Int) := by omega
    generalize hostB s = B at *
    go_enter Try.func3, Try.ntmps3
    go_wp2_with fail
    refine (unhide h10 _).mono ?_
    rintro e w2 ⟨rfl, hb2⟩
    go_wp2_with fail
    refine (unhide h11 _).mono ?_
    rintro e w3 ⟨rfl, hb3⟩
    go_wp2_with fail
    go_ret
    exact ⟨rfl, hb2.trans (hb3.mono hb2.size)⟩
  · have c1 : (1048576 : Int) < (s.size : Int) := by omega
    go_enter Try.func3, Try.ntmps3
    go_wp2_with fail
    go_ret
    exact ⟨rfl, Below.refl _ _⟩

end Go.Proofs.Ytpliknegohjepaa
