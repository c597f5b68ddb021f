/- Hosts: the walks of laws.szHost, toHost, eqHost and  nothing that was there is written. -/
import Derived.Test.YtepmgjklonhkgaaWk
import Derived.Deep.MidRow
import Derived.Deep.RegionHeld3
namespace Go.Proofs.Ytepmgjklonhkgaa
open Go.RowKit Go.Deep

def how (x : Ho) : Nat := x.name.size
theorem infoLHo : (Try.prog.info? 76).map (·.size) = some 3 := by kernel_rfl
theorem infoIHo : (Try.prog.info? 52).map (·.size) = some 3 := by kernel_rfl

set_option maxRecDepth 100000 in
set_option maxHeartbeats 2000000 in
theorem szHo (x : Ho) (cs : List Value) (l0 : Int) (w : World) (h : hoAt w 0 x cs) (hl0 : 0 ≤ l0) (hl1 : l0 ≤ 1048576) :
    Calls Try.prog 33 #[.agg cs.toArray, .int .i64 l0] w fun e w' => e = .returned (.int .i64 (szv l0 (how x))) ∧ Below w.heap.size w w' := by
  obtain ⟨name, key, lost⟩ := x
  obtain ⟨rfl, hd⟩ := h
  replace hd : name.size ≤ maxLen := hd
  have hmm : name.size ≤ 9223372036854775807 := by unfold maxLen at hd; omega
  show Calls Try.prog 33 #[.agg #[.string name, .int .i64 key, .bool lost], .int .i64 l0] w fun e w' => e = .returned (.int .i64 (szv l0 name.size)) ∧ Below w.heap.size w w'
  obtain ⟨left, hleft⟩ : ∃ left : Int, left = l0 - (name.size : Int) := ⟨_, rfl⟩
  have w1 : wrap64 (l0 - (name.size : Int)) = left := by unfold wrap64; omega
  by_cases h1 : left < 0
  · have HE : Hid (szv l0 name.size = -1) := szv_no (by omega)
    clear hleft hd hmm
    go_enter Try.func33, Try.ntmps33
    go_wp2_with fail
    go_ret
    exact ⟨ret_int (unhide HE).symm, abG _⟩
  · have HE : Hid (szv l0 name.size = left) := by show _ = _; rw [szv_yes (by omega)]; omega
    clear hleft hd hmm
    go_enter Try.func33, Try.ntmps33
    go_wp2_with fail
    go_ret
    exact ⟨ret_int (unhide HE).symm, abG _⟩

set_option maxRecDepth 100000 in
set_option maxHeartbeats 2000000 in
theorem toHo (x : Ho) (cs : List Value) (w : World) (h : hoAt w 0 x cs) (_ : how x ≤ 1048576) :
    Calls Try.prog 39 #[.agg cs.toArray] w fun e w' => ∃ ct, e = .returned (.agg ct.toArray) ∧ hoAt w' w.heap.size x ct ∧ Below w.heap.size w w' := by
  obtain ⟨name, key, lost⟩ := x
  obtain ⟨rfl, hd⟩ := h
  replace hd : name.size ≤ maxLen := hd
  have HD := hide hd
  clear hd
  show Calls Try.prog 39 #[.agg #[.string name, .int .i64 key, .bool lost]] w _
  have HB := hide (btG (btG (abG (w := w) (.cells #[.string name, .int .i64 key, .bool lost] 76)) (abG (.cells #[.string name, .int .i64 key, .bool lost] 52))) (abG (.cells #[.string name, .int .i64 key, .bool lost] 52)))
  go_enter Try.func39, Try.ntmps39
  go_wp2_with fail
  refine bodyPost_ret (v := .agg #[.string name, .int .i64 key, .bool lost]) (by simp [results, Try.results39, go_sem]) rfl ⟨[.string name, .int .i64 key, .bool lost], rfl, ⟨rfl, unhide HD⟩, unhide HB⟩

set_option maxRecDepth 100000 in
set_option maxHeartbeats 2000000 in
theorem eqHo (x : Ho) (cs cs' : List Value) (w : World) (h : hoAt w 0 x cs) (h' : hoAt w 0 x cs') (_ : how x ≤ 1048576) :
    Calls Try.prog 47 #[.agg cs.toArray, .agg cs'.toArray] w fun e w' => e = .returned (.bool true) ∧ Below w.heap.size w w' := by
  obtain ⟨name, key, lost⟩ := x
  obtain ⟨rfl, -⟩ := h
  obtain ⟨rfl, -⟩ := h'
  show Calls Try.prog 47 #[.agg #[.string name, .int .i64 key, .bool lost], .agg #[.string name, .int .i64 key, .bool lost]] w _
  have HB := hide (btG (abG (w := w) (.cells #[.string name, .int .i64 key, .bool lost] 52)) (abG (.cells #[.string name, .int .i64 key, .bool lost] 52)))
  go_enter Try.func47, Try.ntmps47
  cases lost
  all_goals
    go_wp2_with fail
    go_ret
    exact ⟨rfl, unhide HB⟩


end Go.Proofs.Ytepmgjklonhkgaa
