
/- The walks of spec.l3Num and spec.Seal: the text of a number; of whatever two terms lie in memory the second, with a number ahead of it, sealed by the first, where that is right, else the zero term; nothing that was there is written. -/
import Derived.Test.YtafoonabmijcdaaGreatDoorPr
import Derived.Test.YtafoonabmijcdaaGreatDoorTx
namespace Go.Proofs.YtafoonabmijcdaaGreatDoor
open Go.RowKit Go.Deep

/-- The text of a number. -/
def numT (m : Int) : Tm := .node 2 0 ⟨(Lib.itoa m).toArray⟩ []
set_option maxRecDepth 100000 in
theorem numT_size (m : Int) : (numT m).size = 1 := by simp [numT, Tm.size, Tm.sizes]
/-- What is sealed. -/
def sealT (k : Tm) (m : Int) (b : Tm) : Tm := madeT 7 [k, madeT 3 [numT m, b]]

set_option maxRecDepth 100000 in
theorem itoa_size (m : Int) (h0 : -9223372036854775808 ≤ m) (h1 : m ≤ 9223372036854775807) : (ByteArray.mk (Lib.itoa m).toArray).size ≤ maxLen := by
  have := Lib.itoa_length_le m h0 h1
  show (Lib.itoa m).toArray.size ≤ _
  simp [maxLen]
  omega

set_option maxRecDepth 100000 in
set_option maxHeartbeats 1000000 in
theorem num_calls (m : Int) (w : World) (h0 : -9223372036854775808 ≤ m) (h1 : m ≤ 9223372036854775807) :
    Calls Tryz.prog 28 #[.int .i64 m] w fun e w' => e = .returned (.agg #[.int .i64 2, .int .i64 0, .string ⟨(Lib.itoa m).toArray⟩, .slice none 0 0]) ∧ Below w.heap.size w w' := by
  have h59 := hide (digits_any m)
  have HX := hide (ZBox.new w)
  go_enter Tryz.func28, Tryz.ntmps28
  go_wp2_with fail
  refine (unhide h59 _ h0 h1).mono ?_
  rintro e w2 ⟨rfl, hb2⟩
  obtain ⟨d0, d1, d2, d3, e0, e1, e2, e3⟩ := ((unhide HX).below hb2).facts
  have HB := hide (bt (ab _) hb2 (Nat.le_refl _))
  clear hb2
  go_wp2_with fail
  exact bodyPost_ret (v := .agg #[.int .i64 2, .int .i64 0, .string ⟨(Lib.itoa m).toArray⟩, .slice none 0 0]) (by simp [results, Tryz.results28, go_sem, d0, d1, d2, d3]; try rfl) rfl ⟨rfl, set4_below (unhide HB) (Nat.le_refl _)⟩

end Go.Proofs.YtafoonabmijcdaaGreatDoor
