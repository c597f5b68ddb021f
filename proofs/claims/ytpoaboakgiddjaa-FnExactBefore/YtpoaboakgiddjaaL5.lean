/- What two arguments are like in every world that the two-argument laws come to; and the walk of laws.FnExactSame: whatever two terms lie in memory it answers true; nothing that was there is written. -/
import Derived.Test.YtpoaboakgiddjaaSa
import Derived.Test.YtpoaboakgiddjaaL4
namespace Go.Proofs.Ytpoaboakgiddjaa
open Go.RowKit Go.Deep

/-- A term in a block of its own, and what it is. -/
structure At (v : World) (b : Nat) (t : Tm) (op n : Int) (s : ByteArray) (a : Option Addr) (len cap : Nat) : Prop where
  box : Box v b op n s a len cap
  lies : Lies v 0 t (tmCells op n s a len cap)

theorem At.on {v v' : World} {b : Nat} {t : Tm} {op n : Int} {s : ByteArray} {a : Option Addr} {len cap : Nat} (h : At v b t op n s a len cap) (hb : Below v.heap.size v v') : At v' b t op n s a len cap := ⟨h.box.below hb, h.lies.below hb⟩

theorem At.drew {v : World} {b : Nat} {t : Tm} {op n : Int} {s : ByteArray} {a : Option Addr} {len cap : Nat} (h : At v b t op n s a len cap) : At v.drew b t op n s a len cap := h.on (Below.refl _ _).drew

theorem At.new (v : World) {t : Tm} {op n : Int} {s : ByteArray} {a : Option Addr} {len cap : Nat} (ty : TypeId) (h : Lies v 0 t (tmCells op n s a len cap)) : At (v.alloc (.cells #[.int .i64 op, .int .i64 n, .string s, .slice a len cap] ty)) v.heap.size t op n s a len cap :=
  ⟨Box.new v op n s a len cap ty, h.below ((Below.refl _ _).alloc (Nat.le_refl _) _)⟩

theorem grew (v : World) (x : Obj) : Below v.heap.size v (v.alloc x) := (Below.refl _ _).alloc (Nat.le_refl _) _

set_option maxHeartbeats 4000000 in
theorem law5 (t t' : Tm) (op n : Int) (s : ByteArray) (a : Option Addr) (len cap : Nat) (op' n' : Int) (s' : ByteArray) (a' : Option Addr) (len' cap' : Nat) (w : World) (hl : Lies w 0 t (tmCells op n s a len cap)) (hl' : Lies w 0 t' (tmCells op' n' s' a' len' cap')) :
    Calls Try.prog 5 #[.agg #[.int .i64 op, .int .i64 n, .string s, .slice a len cap], .agg #[.int .i64 op', .int .i64 n', .string s', .slice a' len' cap']] w fun e w' => e = .returned (.bool true) ∧ Below w.heap.size w w' := by
  have HA : Hid (At ((w.alloc (.cells #[.int .i64 op, .int .i64 n, .string s, .slice a len cap] 24)).alloc (.cells #[.int .i64 op', .int .i64 n', .string s', .slice a' len' cap'] 24)) w.heap.size t op n s a len cap) := (At.new w 24 hl).on (grew _ _)
  have HB : Hid (At ((w.alloc (.cells #[.int .i64 op, .int .i64 n, .string s, .slice a len cap] 24)).alloc (.cells #[.int .i64 op', .int .i64 n', .string s', .slice a' len' cap'] 24)) (w.heap.size + 1) t' op' n' s' a' len' cap') := by
    have := At.new (w.alloc (.cells #[.int .i64 op, .int .i64 n, .string s, .slice a len cap] 24)) 24 (hl'.below (grew _ _))
    rw [heap_size_alloc] at this
    exact this
  have HW : Hid (Below w.heap.size w ((w.alloc (.cells #[.int .i64 op, .int .i64 n, .string s, .slice a len cap] 24)).alloc (.cells #[.int .i64 op', .int .i64 n', .string s', .slice a' len' cap'] 24))) := below_two _ _ _
  have HZ := hide t.size_le
  have HZ' := hide t'.size_le
  have h7 := sz_calls t
  have h7' := sz_calls t'
  have h9 := to_calls t
  have h9' := to_calls t'
  have h14 := sa_calls t
  have h15 := hide (same15 t t')
  have h11 := eq_calls t
  have h11' := eq_calls t'
  clear hl hl'
  by_cases hw : (t.wt : Int) ≤ 1048576
  case neg =>
    go_enter Try.func5, Try.ntmps5
    go_wp2_with fail
    refine (h7 op n s a len cap _ _ (unhide HA).lies (by omega) (by omega)).mono ?_
    rintro e w2 ⟨rfl, hb2⟩
    rw [szv_no (by omega)]
    go_wp2_with fail
    go_ret
    exact ⟨rfl, below_all (unhide HW) hb2 (unhide HW).size⟩
  by_cases hw' : (t'.wt : Int) ≤ 1048576 - t.wt
  case neg =>
    have hnn : 0 ≤ (1048576 : Int) - t.wt := by omega
    have hnp : (0 : Int) ≤ t.wt := by omega
    generalize hg : (1048576 : Int) - t.wt = left at *
    go_enter Try.func5, Try.ntmps5
    go_wp2_with fail
    refine (h7 op n s a len cap _ _ (unhide HA).lies (by omega) (by omega)).mono ?_
    rintro e w2 ⟨rfl, hb2⟩
    rw [szv_yes hw, hg]
    have hlb : left ≤ 1048576 := by omega
    have HA2 := hide ((unhide HA).on hb2)
    have HB2 := (unhide HB).on hb2
    have HW2 := hide (below_all (unhide HW) hb2 (unhide HW).size)
    obtain ⟨⟨x2, r0, r1, r2, r3⟩, L2⟩ := HB2
    have HL2 := hide L2
    clear hg hb2 HA HB HW L2 hw
    go_wp2_with fail
    refine (h7' op' n' s' a' len' cap' _ _ (unhide HL2) (by omega) (by omega)).mono ?_
    rintro e w3 ⟨rfl, hb3⟩
    rw [szv_no (by omega)]
    go_wp2_with fail
    go_ret
    exact ⟨rfl, below_all (unhide HW2) hb3 (unhide HW2).size⟩
  have hsz : t.size ≤ 2097152 := by have := unhide HZ; omega
  have hsz' : t'.size ≤ 2097152 := by have := unhide HZ'; omega
  have HSZ := hide hsz
  have HSZ' := hide hsz'
  have hnn : 0 ≤ (1048576 : Int) - t.wt := by omega
  have hnp : (0 : Int) ≤ t.wt := by omega
  have hnp' : (0 : Int) ≤ t'.wt := by omega
  clear HZ HZ' hsz hsz'
  generalize hg : (1048576 : Int) - t.wt = left at *
  go_enter Try.func5, Try.ntmps5
  go_wp2_with fail
  refine (h7 op n s a len cap _ _ (unhide HA).lies (by omega) (by omega)).mono ?_
  rintro e w2 ⟨rfl, hb2⟩
  rw [szv_yes hw, hg]
  have hlb : left ≤ 1048576 := by omega
  have HA2 := hide ((unhide HA).on hb2)
  have HB2 := (unhide HB).on hb2
  have HW2 := hide (below_all (unhide HW) hb2 (unhide HW).size)
  obtain ⟨⟨x2, r0, r1, r2, r3⟩, L2⟩ := HB2
  have HL2 := hide L2
  clear hg hb2 HA HB HW L2 hw
  go_wp2_with fail
  refine (h7' op' n' s' a' len' cap' _ _ (unhide HL2) (by omega) (by omega)).mono ?_
  rintro e w3 ⟨rfl, hb3⟩
  rw [szv_yes hw']
  have hnn3 : 0 ≤ left - t'.wt := by omega
  generalize left - (t'.wt : Int) = left3 at *
  have HA3 := (unhide HA2).on hb3
  have HB3 := At.on ⟨⟨x2, r0, r1, r2, r3⟩, unhide HL2⟩ hb3
  have HW3 := hide (below_all (unhide HW2) hb3 (unhide HW2).size)
  clear hb3 HA2 HL2 HW2 x2 r0 r1 r2 r3 hw' hlb hnn hnp hnp' h7 h7'
  have HA3' := hide HA3.drew
  have HB3' := hide HB3.drew
  obtain ⟨⟨_, p0, p1, p2, p3⟩, _⟩ := HA3
  obtain ⟨⟨_, q0, q1, q2, q3⟩, _⟩ := HB3
  go_wp2_with fail
  go_region_held3 (fun x => x.cell? ⟨w.heap.size, 0, none⟩ = some (.int .i64 op) ∧ x.cell? ⟨w.heap.size, 1, none⟩ = some (.int .i64 n) ∧ x.cell? ⟨w.heap.size, 2, none⟩ = some (.string s) ∧ x.cell? ⟨w.heap.size, 3, none⟩ = some (.slice a len cap) ∧
      x.cell? ⟨w.heap.size + 1, 0, none⟩ = some (.int .i64 op') ∧ x.cell? ⟨w.heap.size + 1, 1, none⟩ = some (.int .i64 n') ∧ x.cell? ⟨w.heap.size + 1, 2, none⟩ = some (.string s') ∧ x.cell? ⟨w.heap.size + 1, 3, none⟩ = some (.slice a' len' cap')) (go_keep)
    (first
      | (go_at_call_of 9 (Value.slice a len cap)
         refine (h9 op n s a len cap _ (unhide HA3').lies (unhide HSZ)).mono ?_
         rintro e w4 ⟨a4, rfl, hL4, hb4⟩
         have HA4 := hide ((unhide HA3').on hb4)
         have HB4 := hide ((unhide HB3').on hb4)
         have HL4 := hide (hL4.any (Nat.zero_le _))
         have HW4 := hide (below_all (unhide HW3) (below_drw hb4) (unhide HW3).size)
         clear hL4 hb4
         obtain ⟨⟨_, p40, p41, p42, p43⟩, _⟩ := unhide HA4
         obtain ⟨⟨_, q40, q41, q42, q43⟩, _⟩ := unhide HB4)
      | (go_at_call_of 9 (Value.slice a' len' cap')
         refine (h9' op' n' s' a' len' cap' _ (unhide HB4).lies (unhide HSZ')).mono ?_
         rintro e w5 ⟨a5, rfl, hL5, hb5⟩
         have HA5 := hide ((unhide HA4).on hb5)
         have HB5 := hide ((unhide HB4).on hb5)
         have HL5 := hide (hL5.any (Nat.zero_le _))
         have HM5 := hide ((unhide HL4).below hb5)
         have HW5 := hide (below_all (unhide HW4) hb5 (unhide HW4).size)
         clear hL5 hb5
         obtain ⟨⟨_, p50, p51, p52, p53⟩, _⟩ := unhide HA5
         obtain ⟨⟨_, q50, q51, q52, q53⟩, _⟩ := unhide HB5)
      | (go_at_call 14
         refine (h14 t' op n s a4 len len op' n' s' a5 len' len' _ (unhide HM5) (unhide HL5)).mono ?_
         rintro e w6 ⟨rfl, hb6⟩
         have HA6 := hide ((unhide HA5).on hb6)
         have HB6 := hide ((unhide HB5).on hb6)
         have HW6 := hide (below_all (unhide HW5) hb6 (unhide HW5).size)
         clear hb6
         obtain ⟨⟨_, p60, p61, p62, p63⟩, _⟩ := unhide HA6
         obtain ⟨⟨_, q60, q61, q62, q63⟩, _⟩ := unhide HB6))
  clear HA3' HB3' HA4 HB4 HA5 HB5 HL4 HL5 HM5 HW3 HW4 HW5 h14 p0 p1 p2 p3 q0 q1 q2 q3 p40 p41 p42 p43 q40 q41 q42 q43 p50 p51 p52 p53 q50 q51 q52 q53
  generalize hbb : sameB t t' = bb at *
  clear hbb
  go_wp2_with fail
  refine (h9 op n s a len cap _ (unhide HA6).lies (unhide HSZ)).mono ?_
  rintro e w7 ⟨a7, rfl, hL7, hb7⟩
  have HA7 := hide (((unhide HA6).on hb7).on (grew w7 (.cells #[.int .i64 op, .int .i64 n, .string s, .slice a7 len len] 29)))
  have HB7 := ((unhide HB6).on hb7).on (grew w7 (.cells #[.int .i64 op, .int .i64 n, .string s, .slice a7 len len] 29))
  have HX7 := hide (At.new w7 29 (hL7.any (Nat.zero_le _)))
  have HW7 := hide (below_all (below_all (unhide HW6) hb7 (unhide HW6).size) (grew w7 (.cells #[.int .i64 op, .int .i64 n, .string s, .slice a7 len len] 29)) (Nat.le_trans (unhide HW6).size hb7.size))
  clear hL7 hb7 HA6 HB6 HW6 p60 p61 p62 p63 q60 q61 q62 q63
  obtain ⟨⟨_, q70, q71, q72, q73⟩, L7⟩ := HB7
  have HB7' := hide (At.mk (Box.mk ‹_› q70 q71 q72 q73) L7)
  clear L7
  go_wp2_with fail
  refine (h9' op' n' s' a' len' cap' _ (unhide HB7').lies (unhide HSZ')).mono ?_
  rintro e w8 ⟨a8, rfl, hL8, hb8⟩
  have hg8 := grew w8 (.cells #[.int .i64 op', .int .i64 n', .string s', .slice a8 len' len'] 29)
  have HA8 := hide (((unhide HA7).on hb8).on hg8)
  have HB8 := hide (((unhide HB7').on hb8).on hg8)
  have HX8 := hide (((unhide HX7).on hb8).on hg8)
  have HXx := (unhide HX7).on hb8
  have HY8 := hide (At.new w8 29 (hL8.any (Nat.zero_le _)))
  have HW8 := hide (below_all (below_all (unhide HW7) hb8 (unhide HW7).size) hg8 (Nat.le_trans (unhide HW7).size hb8.size))
  clear hL8 hb8 hg8 HA7 HB7' HX7 HW7 q70 q71 q72 q73
  obtain ⟨⟨_, m0, m1, m2, m3⟩, _⟩ := HXx
  have hx7 : w7.heap.size < w8.heap.size := ‹_›
  go_wp2_with fail
  refine (unhide h15 op n s a7 len len op' n' s' a8 len' len' _ (unhide HX8).lies (unhide HY8).lies (unhide HSZ)).mono ?_
  rintro e w9 ⟨rfl, hb9⟩
  have HA9 := (unhide HA8).on hb9
  have HB9 := hide ((unhide HB8).on hb9)
  have HX9 := (unhide HX8).on hb9
  have HY9 := hide ((unhide HY8).on hb9)
  have HW9 := hide (below_all (unhide HW8) hb9 (unhide HW8).size)
  clear hb9 HA8 HB8 HX8 HY8 HW8 m0 m1 m2 m3 hx7 h15
  have HA9' := hide HA9
  have HX9' := hide HX9
  obtain ⟨⟨_, p0, p1, p2, p3⟩, _⟩ := HA9
  obtain ⟨⟨_, q0, q1, q2, q3⟩, _⟩ := HX9
  have hbb : (bb != bb) = false := by simp
  go_wp2_with fail
  go_region_held3 (fun x => x.cell? ⟨w.heap.size, 0, none⟩ = some (.int .i64 op) ∧ x.cell? ⟨w.heap.size, 1, none⟩ = some (.int .i64 n) ∧ x.cell? ⟨w.heap.size, 2, none⟩ = some (.string s) ∧ x.cell? ⟨w.heap.size, 3, none⟩ = some (.slice a len cap) ∧
      x.cell? ⟨w7.heap.size, 0, none⟩ = some (.int .i64 op) ∧ x.cell? ⟨w7.heap.size, 1, none⟩ = some (.int .i64 n) ∧ x.cell? ⟨w7.heap.size, 2, none⟩ = some (.string s) ∧ x.cell? ⟨w7.heap.size, 3, none⟩ = some (.slice a7 len len)) (go_keep)
    (first
      | (go_at_call 9
         refine (h9 op n s a len cap _ (unhide HA9').drew.lies (unhide HSZ)).mono ?_
         rintro e w10 ⟨a10, rfl, hL10, hb10⟩
         have HA10 := hide ((unhide HA9').on (below_drw hb10))
         have HX10 := hide ((unhide HX9').on (below_drw hb10))
         have HB10 := hide ((unhide HB9).on (below_drw hb10))
         have HY10 := hide ((unhide HY9).on (below_drw hb10))
         have HL10 := hide (hL10.any (Nat.zero_le _))
         have HW10 := hide (below_all (unhide HW9) (below_drw hb10) (unhide HW9).size)
         clear hL10 hb10
         obtain ⟨⟨_, p10, p11, p12, p13⟩, _⟩ := unhide HA10
         obtain ⟨⟨_, q10, q11, q12, q13⟩, _⟩ := unhide HX10)
      | (go_at_call 11
         refine (h11 op n s a7 len len op n s a10 len len _ (unhide HX10).lies (unhide HL10)).mono ?_
         rintro e w11 ⟨rfl, hb11⟩
         have HA11 := hide ((unhide HA10).on hb11)
         have HX11 := hide ((unhide HX10).on hb11)
         have HB11 := (unhide HB10).on hb11
         have HY11 := (unhide HY10).on hb11
         have HW11 := hide (below_all (unhide HW10) hb11 (unhide HW10).size)
         clear hb11
         obtain ⟨⟨_, p20, p21, p22, p23⟩, _⟩ := unhide HA11
         obtain ⟨⟨_, q20, q21, q22, q23⟩, _⟩ := unhide HX11))
  clear p0 p1 p2 p3 q0 q1 q2 q3 p10 p11 p12 p13 q10 q11 q12 q13 p20 p21 p22 p23 q20 q21 q22 q23 HA9' HX9' HA10 HX10 HB10 HY10 HL10 HW10 HA11 HX11 HB9 HY9 HW9
  have HB11' := hide HB11
  have HY11' := hide HY11
  obtain ⟨⟨_, p0, p1, p2, p3⟩, _⟩ := HB11
  obtain ⟨⟨_, q0, q1, q2, q3⟩, _⟩ := HY11
  go_wp2_with fail
  go_region_held3 (fun x => x.cell? ⟨w.heap.size + 1, 0, none⟩ = some (.int .i64 op') ∧ x.cell? ⟨w.heap.size + 1, 1, none⟩ = some (.int .i64 n') ∧ x.cell? ⟨w.heap.size + 1, 2, none⟩ = some (.string s') ∧ x.cell? ⟨w.heap.size + 1, 3, none⟩ = some (.slice a' len' cap') ∧
      x.cell? ⟨w8.heap.size, 0, none⟩ = some (.int .i64 op') ∧ x.cell? ⟨w8.heap.size, 1, none⟩ = some (.int .i64 n') ∧ x.cell? ⟨w8.heap.size, 2, none⟩ = some (.string s') ∧ x.cell? ⟨w8.heap.size, 3, none⟩ = some (.slice a8 len' len')) (go_keep)
    (first
      | (go_at_call 9
         refine (h9' op' n' s' a' len' cap' _ (unhide HB11').drew.lies (unhide HSZ')).mono ?_
         rintro e w12 ⟨a12, rfl, hL12, hb12⟩
         have HB12 := hide ((unhide HB11').on (below_drw hb12))
         have HY12 := hide ((unhide HY11').on (below_drw hb12))
         have HL12 := hide (hL12.any (Nat.zero_le _))
         have HW12 := hide (below_all (unhide HW11) (below_drw hb12) (unhide HW11).size)
         clear hL12 hb12
         obtain ⟨⟨_, p10, p11, p12, p13⟩, _⟩ := unhide HB12
         obtain ⟨⟨_, q10, q11, q12, q13⟩, _⟩ := unhide HY12)
      | (go_at_call 11
         refine (h11' op' n' s' a8 len' len' op' n' s' a12 len' len' _ (unhide HY12).lies (unhide HL12)).mono ?_
         rintro e w13 ⟨rfl, hb13⟩
         have HB13 := hide ((unhide HB12).on hb13)
         have HY13 := hide ((unhide HY12).on hb13)
         have HW13 := hide (below_all (unhide HW12) hb13 (unhide HW12).size)
         clear hb13
         obtain ⟨⟨_, p20, p21, p22, p23⟩, _⟩ := unhide HB13
         obtain ⟨⟨_, q20, q21, q22, q23⟩, _⟩ := unhide HY13))
  go_wp2_with fail
  go_ret
  exact ⟨rfl, unhide HW13⟩

end Go.Proofs.Ytpoaboakgiddjaa
