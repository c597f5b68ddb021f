
/- The walks of spec.l1Right at whatever term, and of spec.TermOk: of whatever term lies in memory, of at most 2^21 within it, it answers whether it is right and at most 200 are within it; nothing that was there is written. -/
import Derived.Test.YteminklafghgpaaGreatDoorRk
namespace Go.Proofs.YteminklafghgpaaGreatDoor
open Go.RowKit Go.Deep

theorem kidsOf_le (op : Int) : kidsOf op ≤ 2 := by unfold kidsOf; split <;> (try split) <;> (try split) <;> omega

theorem headB_len {op n : Int} {s : ByteArray} {len : Nat} (h : headB op n s len = true) : kidsOf op = len := by
  unfold headB at h
  exact (of_decide_eq_true h).1

theorem two_of {ks : List Tm} (h : ks.length = 2) : ∃ x y, ks = [x, y] := by
  match ks, h with
  | [x, y], _ => exact ⟨x, y, rfl⟩

theorem shareB_not {op : Int} (ks : List Tm) (h : op ≠ 5) : shareB op ks = true := by
  unfold shareB
  split
  · simp [h]
  · rfl

theorem ri_step (t : Tm) (h : ∀ x ∈ t.kids, RiOk x) : RiOk t := by
  intro op n s a len cap w hl
  cases t with
  | node op' n' s' ks =>
    simp only [Lies, tmCells] at hl
    obtain ⟨a', cap', he, _, _, hk⟩ := hl
    simp only [List.cons.injEq, Value.int.injEq, Value.string.injEq, Value.slice.injEq, true_and, and_true] at he
    obtain ⟨rfl, rfl, rfl, rfl, rfl, rfl⟩ := he
    have hkids : ∀ x ∈ ks, RiOk x := h
    simp only [rightT]
    cases hh : headB op n s ks.length with
    | false =>
      rw [Bool.false_and, Bool.false_and]
      exact ri_bad op n s a ks.length cap w hh
    | true =>
      have hlen := headB_len hh
      by_cases h5 : op = 5
      · subst h5
        have h2 : ks.length = 2 := by
          have e : kidsOf 5 = 2 := by decide
          omega
        obtain ⟨x, y, rfl⟩ := two_of h2
        have hs : shareB 5 [x, y] = !beforeB y x := by simp [shareB]
        rw [Bool.true_and, hs]
        exact ri_share x y hkids n s a cap w hk hh
      · rw [shareB_not ks h5, Bool.true_and, Bool.true_and]
        exact ri_good ks hkids op n s a cap w hk hh (by have := kidsOf_le op; omega) (by simpa using h5)

theorem ri_any : ∀ (k : Nat) (t : Tm), t.size ≤ k → RiOk t
  | 0, t, h => by have := t.size_pos; omega
  | k + 1, t, h => ri_step t fun x hx => ri_any k x (by
      cases t with
      | node op n s ks =>
        have := Tm.size_mem (ks := ks) hx
        simp only [Tm.size] at h
        omega)

theorem ri_calls (t : Tm) : RiOk t := ri_any t.size t (Nat.le_refl _)

def okT (t : Tm) : Bool := decide (t.size ≤ 200) && rightT t

set_option maxHeartbeats 400000 in
theorem ok8 (t : Tm) (op n : Int) (s : ByteArray) (a : Option Addr) (len cap : Nat) (w : World) (hl : Lies w 0 t (tmCells op n s a len cap)) (hsz : t.size ≤ 2097152) :
    Calls Tryz.prog 17 #[.agg #[.int .i64 op, .int .i64 n, .string s, .slice a len cap]] w fun e w' => e = .returned (.bool (okT t)) ∧ Below w.heap.size w w' := by
  have h12 := ts_calls t
  have h19 := ri_calls t
  have HL : Hid (Lies (w.alloc (.cells #[.int .i64 op, .int .i64 n, .string s, .slice a len cap] 35)) 0 t (tmCells op n s a len cap)) := hl.below ((Below.refl _ _).alloc (Nat.le_refl _) _)
  have HB0 := hide (box_cell w #[.int .i64 op, .int .i64 n, .string s, .slice a len cap] 35 0 _ rfl)
  have HB1 := hide (box_cell w #[.int .i64 op, .int .i64 n, .string s, .slice a len cap] 35 1 _ rfl)
  have HB2 := hide (box_cell w #[.int .i64 op, .int .i64 n, .string s, .slice a len cap] 35 2 _ rfl)
  have HB3 := hide (box_cell w #[.int .i64 op, .int .i64 n, .string s, .slice a len cap] 35 3 _ rfl)
  clear hl
  have HSZ := hide hsz
  by_cases hz : t.size ≤ 200
  · have HE : Hid (okT t = rightT t) := by show _ = _; unfold okT; simp [hz]
    have hz' : (t.size : Int) ≤ 200 := by omega
    clear hsz hz
    go_enter Tryz.func17, Tryz.ntmps17
    go_wp2_with fail
    refine (h12 op n s a len cap _ (unhide HL) (unhide HSZ)).mono ?_
    rintro e w2 ⟨rfl, hb2⟩
    have c0 := keepc hb2 (unhide HB0)
    have c1 := keepc hb2 (unhide HB1)
    have c2 := keepc hb2 (unhide HB2)
    have c3 := keepc hb2 (unhide HB3)
    have HL2 := hide ((unhide HL).below hb2)
    have HW2 := hide (((Below.refl w.heap.size w).alloc (Nat.le_refl _) _).trans (hb2.mono (by simp)))
    clear hb2
    go_wp2_with fail
    refine (h19 op n s a len cap _ (unhide HL2)).mono ?_
    rintro e w3 ⟨rfl, hb3⟩
    go_wp2_with fail
    go_ret
    exact ⟨ret_bool (unhide HE).symm, (unhide HW2).trans (hb3.mono (unhide HW2).size)⟩
  · have HE : Hid (okT t = false) := by show _ = _; unfold okT; simp [hz]
    have hz' : decide ((t.size : Int) ≤ 200) = false := by simp only [decide_eq_false_iff_not]; omega
    clear hsz hz
    generalize okT t = rt at *
    go_enter Tryz.func17, Tryz.ntmps17
    go_wp2_with fail
    refine (h12 op n s a len cap _ (unhide HL) (unhide HSZ)).mono ?_
    rintro e w2 ⟨rfl, hb2⟩
    go_wp2_with fail
    go_ret
    exact ⟨ret_bool (unhide HE).symm, ((Below.refl w.heap.size w).alloc (Nat.le_refl _) _).trans (hb2.mono (by simp))⟩

end Go.Proofs.YteminklafghgpaaGreatDoor
