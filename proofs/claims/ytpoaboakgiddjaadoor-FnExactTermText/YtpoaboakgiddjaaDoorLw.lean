/- The walk of laws.FnExactTermText: whatever term lies in memory it answers true; nothing that was there is written. -/
import Derived.Test.YtpoaboakgiddjaaDoorIt
namespace Go.Proofs.YtpoaboakgiddjaaDoor
open Go.RowKit Go.Deep

/-- The four cells of a term in a block of its own. -/
structure Box (w : World) (b : Nat) (op n : Int) (s : ByteArray) (a : Option Addr) (len cap : Nat) : Prop where
  lt : b < w.heap.size
  c0 : w.cell? ⟨b, 0, none⟩ = some (.int .i64 op)
  c1 : w.cell? ⟨b, 1, none⟩ = some (.int .i64 n)
  c2 : w.cell? ⟨b, 2, none⟩ = some (.string s)
  c3 : w.cell? ⟨b, 3, none⟩ = some (.slice a len cap)

theorem Box.new (w : World) (op n : Int) (s : ByteArray) (a : Option Addr) (len cap : Nat) (t : TypeId) : Box (w.alloc (.cells #[.int .i64 op, .int .i64 n, .string s, .slice a len cap] t)) w.heap.size op n s a len cap :=
  ⟨by simp, box_cell _ _ _ 0 _ rfl, box_cell _ _ _ 1 _ rfl, box_cell _ _ _ 2 _ rfl, box_cell _ _ _ 3 _ rfl⟩

theorem Box.below {w w' : World} {b : Nat} {op n : Int} {s : ByteArray} {a : Option Addr} {len cap : Nat} (h : Box w b op n s a len cap) (hb : Below w.heap.size w w') : Box w' b op n s a len cap :=
  ⟨Nat.lt_of_lt_of_le h.lt hb.size, (hb.cell (p := ⟨b, 0, none⟩) h.lt).trans h.c0, (hb.cell (p := ⟨b, 1, none⟩) h.lt).trans h.c1, (hb.cell (p := ⟨b, 2, none⟩) h.lt).trans h.c2, (hb.cell (p := ⟨b, 3, none⟩) h.lt).trans h.c3⟩

theorem below_all {B : Nat} {w v v' : World} (h : Below B w v) (hb : Below v.heap.size v v') (hB : B ≤ v.heap.size) : Below B w v' := h.trans (hb.mono hB)

theorem below_drew {v v' : World} (h : Below v.drew.heap.size v.drew v') : Below v.heap.size v v' :=
  ((Below.refl _ _).drew).trans h

set_option maxHeartbeats 1000000 in
theorem law4 (t : Tm) (op n : Int) (s : ByteArray) (a : Option Addr) (len cap : Nat) (w : World) (hl : Lies w 0 t (tmCells op n s a len cap)) (htab : Tab w) :
    Calls Tryd.prog 4 #[.agg #[.int .i64 op, .int .i64 n, .string s, .slice a len cap]] w fun e w' => e = .returned (.bool true) ∧ Below w.heap.size w w' := by
  have h7 := sz_calls t
  have h9 := to_calls t
  have h12 := tx_calls t
  unfold TxOk at h12
  have h13 := itx19 t
  have h11 := eq_calls t
  have H13 := hide h13
  clear h13
  have HZ := hide t.size_le
  have HL : Hid (Lies (w.alloc (.cells #[.int .i64 op, .int .i64 n, .string s, .slice a len cap] 36)) 0 t (tmCells op n s a len cap)) := hl.below ((Below.refl _ _).alloc (Nat.le_refl _) _)
  have HX := hide (Box.new w op n s a len cap 36)
  have HB : Hid (Below w.heap.size w (w.alloc (.cells #[.int .i64 op, .int .i64 n, .string s, .slice a len cap] 36))) := (Below.refl _ _).alloc (Nat.le_refl _) _
  have HTab := hide htab
  clear hl htab
  by_cases hw : (t.wt : Int) ≤ 1048576
  · have hsz : t.size ≤ 2097152 := by have := unhide HZ; omega
    have HSZ := hide hsz
    have HWT : Hid (t.wt ≤ 2097152) := by
      show _ ≤ _
      omega
    generalize (⟨(textT t).toArray⟩ : ByteArray) = tx at *
    have hnn : ((1048576 : Int) - t.wt < 0) = False := by simp; omega
    have hwp : (0 : Int) ≤ t.wt := by omega
    go_enter Tryd.func4, Tryd.ntmps4
    go_wp2_with fail
    refine (h7 op n s a len cap _ _ HL.out (by omega) (by omega)).mono ?_
    rintro e w2 ⟨rfl, hb2⟩
    rw [szv_yes hw]
    have hL2 := hide (HL.out.below hb2)
    have hX2 := HX.out.below hb2
    have hB2 := hide (below_all HB.out hb2 HB.out.size)
    clear hb2 HL HX HB HZ hsz
    obtain ⟨x2, p20, p21, p22, p23⟩ := hX2
    generalize hgl : (1048576 : Int) - t.wt = left at *
    have hln : 0 ≤ left := by omega
    clear hgl hnn hw
    go_wp2_with fail
    refine (h9 op n s a len cap _ hL2.out HSZ.out).mono ?_
    rintro e w3 ⟨a3, rfl, hL3, hb3⟩
    have hX3 : Box w3 w.heap.size op n s a len cap := Box.below ⟨x2, p20, p21, p22, p23⟩ hb3
    have hB3 := hide (below_all hB2.out hb3 hB2.out.size)
    have hO3 := hide (hL2.out.below hb3)
    have hL3 := hide (hL3.any (Nat.zero_le _))
    clear hb3 hL2 hB2 p20 p21 p22 p23
    obtain ⟨x3, p30, p31, p32, p33⟩ := hX3
    go_wp2_with fail
    refine (h12 op n s a3 len len _ hL3.out HSZ.out HWT.out).mono ?_
    rintro e w4 ⟨rfl, hb4⟩
    have hX4 : Box w4 w.heap.size op n s a len cap := Box.below ⟨x3, p30, p31, p32, p33⟩ hb4
    have hB4 := hide (below_all hB3.out hb4 hB3.out.size)
    have hO4 := hide (hO3.out.below hb4)
    clear hb4 hL3 hB3 hO3 p30 p31 p32 p33 x2 x3
    obtain ⟨x4, p40, p41, p42, p43⟩ := hX4
    go_wp2_with fail
    refine (h9 op n s a len cap _ hO4.out HSZ.out).mono ?_
    rintro e w5 ⟨a5, rfl, hL5, hb5⟩
    have hX5 : Box w5 w.heap.size op n s a len cap := Box.below ⟨x4, p40, p41, p42, p43⟩ hb5
    have hB5 := hide (below_all hB4.out hb5 hB4.out.size)
    have hO5 := hide (hO4.out.below hb5)
    have hL5 := hide (hL5.any (Nat.zero_le _))
    clear hb5 hB4 hO4 p40 p41 p42 p43 x4
    obtain ⟨x5, p50, p51, p52, p53⟩ := hX5
    have hb6 : Below w5.heap.size w5 (w5.alloc (.cells #[.int .i64 op, .int .i64 n, .string s, .slice a5 len len] 26)) := (Below.refl _ _).alloc (Nat.le_refl _) _
    have hX6 := hide (Box.below ⟨x5, p50, p51, p52, p53⟩ hb6)
    have hY6 := hide (Box.new w5 op n s a5 len len 26)
    have hB6 := hide (below_all hB5.out hb6 hB5.out.size)
    have hO6 := hide (hO5.out.below hb6)
    have hL6 := hide (hL5.out.below hb6)
    go_wp2_with fail
    refine (H13.out op n s a5 len len _ hL6.out HSZ.out HWT.out (HTab.out.on hB6.out)).mono ?_
    rintro e w7 ⟨rfl, hb7⟩
    have hX7 := hX6.out.below hb7
    have hY7 := hY6.out.below hb7
    have hB7 := hide (below_all hB6.out hb7 hB6.out.size)
    have hO7 := hide (hO6.out.below (hb7.drew))
    have hL7 := hide (hL6.out.below (hb7.drew))
    clear hb6 hb7 hX6 hY6 hB6 hO6 hL6 hB5 hO5 hL5 p50 p51 p52 p53 x5 H13 h12 h7
    obtain ⟨x7, p70, p71, p72, p73⟩ := hX7
    obtain ⟨y7, q70, q71, q72, q73⟩ := hY7
    go_wp2_with fail
    go_region_with (first
      | (go_at_call 22
         refine (h9 op n s a len cap _ hO7.out HSZ.out).mono ?_
         rintro e w8 ⟨a8, rfl, hL8, hb8⟩
         have hY8 := Box.below ⟨y7, q70, q71, q72, q73⟩ (below_drew hb8)
         have hB8 := hide (below_all hB7.out (below_drew hb8) hB7.out.size)
         have hL8' := hide (hL8.any (Nat.zero_le _))
         have hL7' := hide (hL7.out.below hb8)
         obtain ⟨y8, q80, q81, q82, q83⟩ := hY8)
      | (go_at_call 23
         refine (h11 op n s a5 len len op n s a8 len len _ hL7'.out hL8'.out).mono ?_
         rintro e w9 ⟨rfl, hb9⟩
         have hB9 := hide (below_all hB8.out hb9 hB8.out.size)))
    all_goals
      go_wp2_with fail
      go_ret
      exact ⟨rfl, hB9.out⟩
  · go_enter Tryd.func4, Tryd.ntmps4
    go_wp2_with fail
    refine (h7 op n s a len cap _ _ HL.out (by omega) (by omega)).mono ?_
    rintro e w2 ⟨rfl, hb2⟩
    rw [szv_no (by omega)]
    go_wp2_with fail
    go_ret
    exact ⟨rfl, ((Below.refl _ _).alloc (Nat.le_refl _) _).trans (hb2.mono (by simp))⟩

end Go.Proofs.YtpoaboakgiddjaaDoor
