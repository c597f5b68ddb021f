/- The draw of a number for FnMaking. -/
import Derived.Test.YtdecdbahpkoamaaDoorDn
namespace Go.Proofs.YtdecdbahpkoamaaDoor
open Go.RowKit Go.Deep

set_option maxRecDepth 100000 in
set_option maxHeartbeats 1000000 in
theorem drawAtom (ad : Option Addr) (ln cp : Nat) (w : World) (hB : Bytes w w.heap.size ad ln) (hl : ln ≤ 1048576) (hlc : ln ≤ cp) :
    Calls Tryd.prog 17 #[.slice ad ln cp] w fun e w' => ∃ z, e = .returned (.int .i64 z) ∧ (Lit.int .i64 z).wf = true ∧ Below w.heap.size w w' := by
  have hnew := hide (new_calls ad ln cp)
  have hpk := hide pickInt_calls
  have HBY := hide hB
  have HL := hide hl
  have HLC := hide hlc
  clear hB hl hlc
  go_enter Tryd.func17, Tryd.ntmps17
  go_wp2_with fail
  refine (unhide hnew _ (unhide HBY) (unhide HL) (unhide HLC)).mono ?_
  rintro e w1 ⟨rfl, hc1, hb1, hs1⟩
  have HC1 := hide hc1
  have HB1 := hide hb1
  clear hc1 hb1
  go_wp2_with fail
  refine (unhide hpk w.heap.size w1.heap.size 6 6 _ ?_ (by omega) (by omega) (by omega) (by omega) (by omega) ?_).mono ?_
  · exact (unhide HC1).below (ab _)
  · intro k hk
    obtain rfl | rfl | rfl | rfl | rfl | rfl : k = 0 ∨ k = 1 ∨ k = 2 ∨ k = 3 ∨ k = 4 ∨ k = 5 := by omega
    · exact ⟨0, box_cell _ _ _ _ _ rfl, by decide⟩
    · exact ⟨1, box_cell _ _ _ _ _ rfl, by decide⟩
    · exact ⟨77, box_cell _ _ _ _ _ rfl, by decide⟩
    · exact ⟨1000000, box_cell _ _ _ _ _ rfl, by decide⟩
    · exact ⟨1000001, box_cell _ _ _ _ _ rfl, by decide⟩
    · exact ⟨-1, box_cell _ _ _ _ _ rfl, by decide⟩
  rintro e w2 ⟨z, rfl, hz, hc2, ho2⟩
  go_wp2_with fail
  go_ret
  have hb := bt (unhide HB1) (ab (.cells #[.int .i64 0, .int .i64 1, .int .i64 77, .int .i64 1000000, .int .i64 1000001, .int .i64 (-1)] 3)) (Nat.le_refl _)
  exact ⟨z, rfl, hz, hb.trans (ho2.belowc hb.size (Nat.le_refl _))⟩

end Go.Proofs.YtdecdbahpkoamaaDoor
