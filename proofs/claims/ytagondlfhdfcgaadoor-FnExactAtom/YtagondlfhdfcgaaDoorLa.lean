
/- The walk of laws.FnExactAtom: whatever the int it answers true; nothing that was there is written. -/
import Derived.Test.YtagondlfhdfcgaaDoorLg
namespace Go.Proofs.YtagondlfhdfcgaaDoor
open Go.RowKit Go.Deep

theorem Box4 (w : World) (cs : Array Value) (c0 c1 c2 c3 : Value) (h : cs = #[c0, c1, c2, c3]) (t : TypeId) : (w.alloc (.cells cs t)).cell? ⟨w.heap.size, 0, none⟩ = some c0 ∧ (w.alloc (.cells cs t)).cell? ⟨w.heap.size, 1, none⟩ = some c1 ∧ (w.alloc (.cells cs t)).cell? ⟨w.heap.size, 2, none⟩ = some c2 ∧ (w.alloc (.cells cs t)).cell? ⟨w.heap.size, 3, none⟩ = some c3 := by
  subst h
  exact ⟨box_cell _ _ _ 0 _ rfl, box_cell _ _ _ 1 _ rfl, box_cell _ _ _ 2 _ rfl, box_cell _ _ _ 3 _ rfl⟩

set_option maxRecDepth 100000 in
set_option maxHeartbeats 1000000 in
theorem lawAtom (n : Int) (w : World) (hw : (Lit.int .i64 n).wf = true) (herr : Err w) :
    Calls Tryd.prog 3 #[.int .i64 n] w fun e w' => e = .returned (.bool true) ∧ Below w.heap.size w w' := by
  have HER := hide herr
  clear herr
  have h6 := hide (fun v => atom6 n v hw)
  have h7 := hide (fun v he => atom7 n v hw he)
  obtain ⟨hw1, hw2⟩ := at_wf hw
  have HL : Hid (∀ v, Lies v 0 (.node (atOp n) (atN n) ByteArray.empty []) (tmCells (atOp n) (atN n) ByteArray.empty none 0 0)) := fun v => lies_leaf v _ _ _ (by simp [maxLen]) hw1 hw2
  have h8 := hide (eq_calls (.node (atOp n) (atN n) ByteArray.empty []))
  have h9 := hide mark_leaf
  have h10 := hide held_leaf
  generalize atOp n = o at *
  generalize atN n = m at *
  clear hw1 hw2
  go_enter Tryd.func3, Tryd.ntmps3
  go_wp2_with fail
  refine (unhide h6 _).mono ?_
  rintro e w1 ⟨rfl, hb1⟩
  have HW1 := hide (hb1.alloc hb1.size (.cells #[.int .i64 o, .int .i64 m, .string ByteArray.empty, .slice none 0 0] 24))
  obtain ⟨a0, a1, a2, a3⟩ := Box4 w1 #[.int .i64 o, .int .i64 m, .string ByteArray.empty, .slice none 0 0] _ _ _ _ rfl 24
  clear hb1
  go_wp2_with fail
  refine (unhide h7 _ ((unhide HER).on (unhide HW1))).mono ?_
  rintro e w2 ⟨rfl, hb2⟩
  have hg2 := (Below.refl w2.heap.size w2).alloc (Nat.le_refl _) (.cells #[.int .i64 o, .int .i64 m, .string ByteArray.empty, .slice none 0 0] 24)
  have HW2 := hide (((unhide HW1).trans (hb2.mono (unhide HW1).size)).trans (hg2.mono (Nat.le_trans (unhide HW1).size hb2.size)))
  have a0 := keepc hg2 (keepc hb2 a0)
  have a1 := keepc hg2 (keepc hb2 a1)
  have a2 := keepc hg2 (keepc hb2 a2)
  have a3 := keepc hg2 (keepc hb2 a3)
  obtain ⟨b0, b1, b2, b3⟩ := Box4 w2 #[.int .i64 o, .int .i64 m, .string ByteArray.empty, .slice none 0 0] _ _ _ _ rfl 24
  clear hb2 hg2 HW1
  go_wp2_with fail
  refine (unhide h8 o m ByteArray.empty none 0 0 o m ByteArray.empty none 0 0 _ (unhide HL _) (unhide HL _)).mono ?_
  rintro e w3 ⟨rfl, hb3⟩
  have HW3 := hide ((unhide HW2).trans (hb3.mono (unhide HW2).size))
  have a0 := keepc hb3 a0
  have a1 := keepc hb3 a1
  have a2 := keepc hb3 a2
  have a3 := keepc hb3 a3
  have b0 := keepc hb3 b0
  have b1 := keepc hb3 b1
  have b2 := keepc hb3 b2
  have b3 := keepc hb3 b3
  clear hb3 HW2
  go_wp2_with fail
  refine (unhide h9 o m ByteArray.empty none 0 1 _).mono ?_
  rintro e w4 ⟨rfl, hb4⟩
  have HW4 := hide ((unhide HW3).trans (hb4.mono (unhide HW3).size))
  have a0 := keepc hb4 a0
  have a1 := keepc hb4 a1
  have a2 := keepc hb4 a2
  have a3 := keepc hb4 a3
  have b0 := keepc hb4 b0
  have b1 := keepc hb4 b1
  have b2 := keepc hb4 b2
  have b3 := keepc hb4 b3
  clear hb4 HW3
  go_wp2_with fail
  refine (unhide h10 o m ByteArray.empty none 0 1 _ (by omega)).mono ?_
  rintro e w5 ⟨rfl, hb5⟩
  have HW5 := hide ((unhide HW4).trans (hb5.mono (unhide HW4).size))
  have a0 := keepc hb5 a0
  have a1 := keepc hb5 a1
  have a2 := keepc hb5 a2
  have a3 := keepc hb5 a3
  have b0 := keepc hb5 b0
  have b1 := keepc hb5 b1
  have b2 := keepc hb5 b2
  have b3 := keepc hb5 b3
  clear hb5 HW4
  go_wp2_with fail
  refine (unhide h7 _ ((unhide HER).on (unhide HW5))).mono ?_
  rintro e w6 ⟨rfl, hb6⟩
  have hg6 := (Below.refl w6.heap.size w6).alloc (Nat.le_refl _) (.cells #[.int .i64 o, .int .i64 m, .string ByteArray.empty, .slice none 0 0] 24)
  have HW6 := hide (((unhide HW5).trans (hb6.mono (unhide HW5).size)).trans (hg6.mono (Nat.le_trans (unhide HW5).size hb6.size)))
  have a0 := keepc hb6 a0
  have a1 := keepc hb6 a1
  have a2 := keepc hb6 a2
  have a3 := keepc hb6 a3
  have b0 := keepc hb6 b0
  have b1 := keepc hb6 b1
  have b2 := keepc hb6 b2
  have b3 := keepc hb6 b3
  have a0 := keepc hg6 a0
  have a1 := keepc hg6 a1
  have a2 := keepc hg6 a2
  have a3 := keepc hg6 a3
  have b0 := keepc hg6 b0
  have b1 := keepc hg6 b1
  have b2 := keepc hg6 b2
  have b3 := keepc hg6 b3
  obtain ⟨c0, c1, c2, c3⟩ := Box4 w6 #[.int .i64 o, .int .i64 m, .string ByteArray.empty, .slice none 0 0] _ _ _ _ rfl 24
  clear hb6 hg6 HW5
  go_wp2_with fail
  refine (unhide h8 o m ByteArray.empty none 0 0 o m ByteArray.empty none 0 0 _ (unhide HL _) (unhide HL _)).mono ?_
  rintro e w7 ⟨rfl, hb7⟩
  have HW7 := hide ((unhide HW6).trans (hb7.mono (unhide HW6).size))
  have a0 := keepc hb7 a0
  have a1 := keepc hb7 a1
  have a2 := keepc hb7 a2
  have a3 := keepc hb7 a3
  have b0 := keepc hb7 b0
  have b1 := keepc hb7 b1
  have b2 := keepc hb7 b2
  have b3 := keepc hb7 b3
  clear hb7 HW6
  go_wp2_with fail
  refine (unhide h10 o m ByteArray.empty none 0 1 _ (by omega)).mono ?_
  rintro e w8 ⟨rfl, hb8⟩
  have HW8 := hide ((unhide HW7).trans (hb8.mono (unhide HW7).size))
  clear hb8 HW7
  go_wp2_with fail
  go_ret
  exact ⟨rfl, unhide HW8⟩

end Go.Proofs.YtagondlfhdfcgaaDoor
