
/- The draw of a number for FnMaking. What the walk of laws.FnMaking needs. -/
import Derived.Test.YtagondlfhdfcgaaDoorDn
import Derived.Test.YtagondlfhdfcgaaDoorOr
import Derived.Test.YtagondlfhdfcgaaDoorBh
import Derived.Deep.RegionHeld3
namespace Go.Proofs.YtagondlfhdfcgaaDoor
open Go.RowKit Go.Deep

set_option maxRecDepth 100000 in
set_option maxHeartbeats 1000000 in
theorem drawAtom (ad : Option Addr) (ln cp : Nat) (w : World) (hB : Bytes w w.heap.size ad ln) (hl : ln ≤ 1048576) (hlc : ln ≤ cp) :
    Calls Tryd.prog 23 #[.slice ad ln cp] w fun e w' => ∃ z, e = .returned (.int .i64 z) ∧ (Lit.int .i64 z).wf = true ∧ Below w.heap.size w w' := by
  have hnew := hide (new_calls ad ln cp)
  have hpk := hide pickInt_calls
  have HBY := hide hB
  have HL := hide hl
  have HLC := hide hlc
  clear hB hl hlc
  go_enter Tryd.func23, Tryd.ntmps23
  go_wp2_with fail
  refine (unhide hnew _ (unhide HBY) (unhide HL) (unhide HLC)).mono ?_
  rintro e w1 ⟨rfl, hc1, hb1, hs1⟩
  have HC1 := hide hc1
  have HB1 := hide hb1
  clear hc1 hb1
  go_wp2_with fail
  refine (unhide hpk w.heap.size w1.heap.size 6 6 _ ?_ (by omega) (by omega) (by omega) (by omega) (by omega) ?_).mono ?_
  · exact (unhide HC1).below (ab _)
  · intro k hk
    obtain rfl | rfl | rfl | rfl | rfl | rfl : k = 0 ∨ k = 1 ∨ k = 2 ∨ k = 3 ∨ k = 4 ∨ k = 5 := by omega
    · exact ⟨0, box_cell _ _ _ _ _ rfl, by decide⟩
    · exact ⟨1, box_cell _ _ _ _ _ rfl, by decide⟩
    · exact ⟨77, box_cell _ _ _ _ _ rfl, by decide⟩
    · exact ⟨1000000, box_cell _ _ _ _ _ rfl, by decide⟩
    · exact ⟨1000001, box_cell _ _ _ _ _ rfl, by decide⟩
    · exact ⟨-1, box_cell _ _ _ _ _ rfl, by decide⟩
  rintro e w2 ⟨z, rfl, hz, hc2, ho2⟩
  go_wp2_with fail
  go_ret
  have hb := bt (unhide HB1) (ab (.cells #[.int .i64 0, .int .i64 1, .int .i64 77, .int .i64 1000000, .int .i64 1000001, .int .i64 (-1)] 3)) (Nat.le_refl _)
  exact ⟨z, rfl, hz, hb.trans (ho2.belowc hb.size (Nat.le_refl _))⟩

theorem big_calls (ad : Option Addr) (ln cp : Nat) (w : World) : Calls Tryd.prog 21 #[.slice ad ln cp] w fun e w' => e = .returned (.bool (decide ((1048576 : Int) < ln))) ∧ w' = w := by
  go_enter Tryd.func21, Tryd.ntmps21
  go_wp2_with fail
  go_ret
  exact ⟨rfl, rfl⟩

theorem same_self (t : Tm) : sameB t t = true := by
  have h := cmpT_flip t t
  have h0 : cmpT t t = 0 := by omega
  simp [sameB, h0]

theorem same_yes (t : Tm) (op n : Int) (s : ByteArray) (a : Option Addr) (len cap : Nat) (op' n' : Int) (s' : ByteArray) (a' : Option Addr) (len' cap' : Nat) (w : World) (hl : Lies w 0 t (tmCells op n s a len cap)) (hl' : Lies w 0 t (tmCells op' n' s' a' len' cap')) (hsz : t.size ≤ 2097152) :
    Calls Tryd.prog 28 #[.agg #[.int .i64 op, .int .i64 n, .string s, .slice a len cap], .agg #[.int .i64 op', .int .i64 n', .string s', .slice a' len' cap']] w fun e w' => e = .returned (.bool true) ∧ Below w.heap.size w w' := by
  have h := same15 t t op n s a len cap op' n' s' a' len' cap' w hl hl' hsz
  rw [same_self] at h
  exact h

theorem made_cases {w : World} {o : Int} {ks : List Tm} {op n : Int} {s : ByteArray} {a : Option Addr} {len cap : Nat} (h : Lies w 0 (madeT o ks) (tmCells op n s a len cap)) : op = 0 ∨ (op = o ∧ okT (madeT o ks) = true) := by
  unfold madeT pickT at h ⊢
  split at h
  · rename_i hk
    right
    rw [if_pos hk]
    simp only [Lies, tmCells, List.cons.injEq, Value.int.injEq] at h
    obtain ⟨_, _, ⟨⟨_, h1⟩, _⟩, _⟩ := h
    exact ⟨h1, hk⟩
  · left
    simp only [Lies, tmCells, List.cons.injEq, Value.int.injEq] at h
    obtain ⟨_, _, ⟨⟨_, h1⟩, _⟩, _⟩ := h
    exact h1

theorem at_cases {w : World} {vn op n : Int} {s : ByteArray} {a : Option Addr} {len cap : Nat} (h : Lies w 0 (.node (atOp vn) (atN vn) ByteArray.empty []) (tmCells op n s a len cap)) : op = 0 ∨ (op = 1 ∧ okT (.node (atOp vn) (atN vn) ByteArray.empty []) = true) := by
  simp only [Lies, tmCells, List.cons.injEq, Value.int.injEq] at h
  obtain ⟨_, _, ⟨⟨_, h1⟩, _⟩, _⟩ := h
  subst h1
  by_cases hk : okT (.node 1 vn ByteArray.empty []) = true
  · right
    rw [show atOp vn = 1 from by unfold atOp; rw [if_pos hk], show atN vn = vn from by unfold atN; rw [if_pos hk]]
    exact ⟨rfl, hk⟩
  · left
    unfold atOp
    rw [if_neg hk]

end Go.Proofs.YtagondlfhdfcgaaDoor
