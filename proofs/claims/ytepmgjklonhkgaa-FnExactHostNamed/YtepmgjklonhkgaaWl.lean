/- Letters: the walks of laws.szLetter, toLetter, eqLetter and of the lists' szLetterS, toLetterS, eqLetterS; nothing that was there is written. -/
import Derived.Test.YtepmgjklonhkgaaWk
import Derived.Deep.MidRow
import Derived.Deep.RegionHeld3
namespace Go.Proofs.Ytepmgjklonhkgaa
open Go.RowKit Go.Deep

def lew (x : Le) : Nat := x.d.size
theorem infoLLe : (Try.prog.info? 79).map (·.size) = some 5 := by kernel_rfl
theorem infoILe : (Try.prog.info? 96).map (·.size) = some 5 := by kernel_rfl

set_option maxRecDepth 100000 in
set_option maxHeartbeats 2000000 in
theorem szLe (x : Le) (cs : List Value) (l0 : Int) (w : World) (h : leAt w 0 x cs) (hl0 : 0 ≤ l0) (hl1 : l0 ≤ 1048576) :
    Calls Try.prog 34 #[.agg cs.toArray, .int .i64 l0] w fun e w' => e = .returned (.int .i64 (szv l0 (lew x))) ∧ Below w.heap.size w w' := by
  obtain ⟨d, b, s, t, n⟩ := x
  obtain ⟨rfl, hd⟩ := h
  replace hd : d.size ≤ maxLen := hd
  have hmm : d.size ≤ 9223372036854775807 := by unfold maxLen at hd; omega
  show Calls Try.prog 34 #[.agg #[.string d, .int .i64 b, .int .i64 s, .int .i64 t, .int .i64 n], .int .i64 l0] w fun e w' => e = .returned (.int .i64 (szv l0 d.size)) ∧ Below w.heap.size w w'
  obtain ⟨left, hleft⟩ : ∃ left : Int, left = l0 - (d.size : Int) := ⟨_, rfl⟩
  have w1 : wrap64 (l0 - (d.size : Int)) = left := by unfold wrap64; omega
  by_cases h1 : left < 0
  · have HE : Hid (szv l0 d.size = -1) := szv_no (by omega)
    clear hleft hd hmm
    go_enter Try.func34, Try.ntmps34
    go_wp2_with fail
    go_ret
    exact ⟨ret_int (unhide HE).symm, abG _⟩
  · have HE : Hid (szv l0 d.size = left) := by show _ = _; rw [szv_yes (by omega)]; omega
    clear hleft hd hmm
    go_enter Try.func34, Try.ntmps34
    go_wp2_with fail
    go_ret
    exact ⟨ret_int (unhide HE).symm, abG _⟩

set_option maxRecDepth 100000 in
set_option maxHeartbeats 2000000 in
theorem toLe (x : Le) (cs : List Value) (w : World) (h : leAt w 0 x cs) (_ : lew x ≤ 1048576) :
    Calls Try.prog 40 #[.agg cs.toArray] w fun e w' => ∃ ct, e = .returned (.agg ct.toArray) ∧ leAt w' w.heap.size x ct ∧ Below w.heap.size w w' := by
  obtain ⟨d, b, s, t, n⟩ := x
  obtain ⟨rfl, hd⟩ := h
  replace hd : d.size ≤ maxLen := hd
  have HD := hide hd
  clear hd
  show Calls Try.prog 40 #[.agg #[.string d, .int .i64 b, .int .i64 s, .int .i64 t, .int .i64 n]] w _
  have HB := hide (btG (btG (abG (w := w) (.cells #[.string d, .int .i64 b, .int .i64 s, .int .i64 t, .int .i64 n] 79)) (abG (.cells #[.string d, .int .i64 b, .int .i64 s, .int .i64 t, .int .i64 n] 96))) (abG (.cells #[.string d, .int .i64 b, .int .i64 s, .int .i64 t, .int .i64 n] 96)))
  go_enter Try.func40, Try.ntmps40
  go_wp2_with fail
  refine bodyPost_ret (v := .agg #[.string d, .int .i64 b, .int .i64 s, .int .i64 t, .int .i64 n]) (by simp [results, Try.results40, go_sem]) rfl ⟨[.string d, .int .i64 b, .int .i64 s, .int .i64 t, .int .i64 n], rfl, ⟨rfl, unhide HD⟩, unhide HB⟩

set_option maxRecDepth 100000 in
set_option maxHeartbeats 2000000 in
theorem eqLe (x : Le) (cs cs' : List Value) (w : World) (h : leAt w 0 x cs) (h' : leAt w 0 x cs') (_ : lew x ≤ 1048576) :
    Calls Try.prog 48 #[.agg cs.toArray, .agg cs'.toArray] w fun e w' => e = .returned (.bool true) ∧ Below w.heap.size w w' := by
  obtain ⟨d, b, s, t, n⟩ := x
  obtain ⟨rfl, -⟩ := h
  obtain ⟨rfl, -⟩ := h'
  show Calls Try.prog 48 #[.agg #[.string d, .int .i64 b, .int .i64 s, .int .i64 t, .int .i64 n], .agg #[.string d, .int .i64 b, .int .i64 s, .int .i64 t, .int .i64 n]] w _
  have HB := hide (btG (abG (w := w) (.cells #[.string d, .int .i64 b, .int .i64 s, .int .i64 t, .int .i64 n] 96)) (abG (.cells #[.string d, .int .i64 b, .int .i64 s, .int .i64 t, .int .i64 n] 96)))
  go_enter Try.func48, Try.ntmps48

  all_goals
    go_wp2_with fail
    go_ret
    exact ⟨rfl, unhide HB⟩


end Go.Proofs.Ytepmgjklonhkgaa
