
/- The walks of impl.allShaped at whatever term, and of impl.TermOk: of whatever term lies in memory, of at most 2^21 within it, it answers whether it is right and at most 200 are within it; nothing that was there is written. -/
import Derived.Test.YteminklafghgpaaGreatDoorAu
import Derived.Test.YteminklafghgpaaGreatDoorSu
namespace Go.Proofs.YteminklafghgpaaGreatDoor
open Go.RowKit Go.Deep

set_option maxRecDepth 100000 in
theorem as_step (t : Tm) (h : ∀ x ∈ t.kids, AsOk x) : AsOk t := by
  intro op n s a len cap w hl hsz
  cases t with
  | node op' n' s' ks =>
    simp only [Lies, tmCells] at hl
    obtain ⟨a', cap', he, _, _, hk⟩ := hl
    simp only [List.cons.injEq, Value.int.injEq, Value.string.injEq, Value.slice.injEq, true_and, and_true] at he
    obtain ⟨rfl, rfl, rfl, rfl, rfl, rfl⟩ := he
    have hkids : ∀ x ∈ ks, AsOk x := h
    have hzs : Tm.sizes ks ≤ 2097152 := by simp only [Tm.size] at hsz; omega
    simp only [rightT]
    by_cases e1 : op = 1
    · subst e1
      rw [shareB_not ks (by decide), Bool.and_true]
      cases hh : headB 1 n s ks.length with
      | false =>
        rw [Bool.false_and]
        have e := headB_atom n s ks.length
        rw [hh] at e
        exact as_no1 n s a ks.length cap w fun v _ => by have := sh49 1 n s a ks.length cap v; rwa [← e] at this
      | true =>
        rw [Bool.true_and]
        have e := headB_atom n s ks.length
        rw [hh] at e
        exact as_yes1 ks hkids n s a ks.length cap w hk rfl hzs fun v _ => by have := sh49 1 n s a ks.length cap v; rwa [← e] at this
    by_cases e2 : op = 2
    · subst e2
      rw [shareB_not ks (by decide), Bool.and_true]
      cases hh : headB 2 n s ks.length with
      | false =>
        rw [Bool.false_and]
        have e := headB_text n s ks.length
        rw [hh] at e
        exact as_no2 n s a ks.length cap w fun v _ => by have := sh50 2 n s a ks.length cap v; rwa [← e] at this
      | true =>
        rw [Bool.true_and]
        have e := headB_text n s ks.length
        rw [hh] at e
        exact as_yes2 ks hkids n s a ks.length cap w hk rfl hzs fun v _ => by have := sh50 2 n s a ks.length cap v; rwa [← e] at this
    by_cases e3 : op = 3
    · subst e3
      rw [shareB_not ks (by decide), Bool.and_true]
      cases hh : headB 3 n s ks.length with
      | false =>
        rw [Bool.false_and]
        have e := headB_only (op := 3) (by decide) (by decide) n s ks.length
        rw [show kidsOf 3 = 2 from by decide] at e
        rw [hh] at e
        exact as_no3 n s a ks.length cap w fun v _ => by have := sh51 3 n s a ks.length cap v; rwa [← e] at this
      | true =>
        rw [Bool.true_and]
        have e := headB_only (op := 3) (by decide) (by decide) n s ks.length
        rw [show kidsOf 3 = 2 from by decide] at e
        rw [hh] at e
        exact as_yes3 ks hkids n s a ks.length cap w hk rfl hzs fun v _ => by have := sh51 3 n s a ks.length cap v; rwa [← e] at this
    by_cases e4 : op = 4
    · subst e4
      rw [shareB_not ks (by decide), Bool.and_true]
      cases hh : headB 4 n s ks.length with
      | false =>
        rw [Bool.false_and]
        have e := headB_only (op := 4) (by decide) (by decide) n s ks.length
        rw [show kidsOf 4 = 1 from by decide] at e
        rw [hh] at e
        exact as_no4 n s a ks.length cap w fun v _ => by have := sh53 4 n s a ks.length cap v; rwa [← e] at this
      | true =>
        rw [Bool.true_and]
        have e := headB_only (op := 4) (by decide) (by decide) n s ks.length
        rw [show kidsOf 4 = 1 from by decide] at e
        rw [hh] at e
        exact as_yes4 ks hkids n s a ks.length cap w hk rfl hzs fun v _ => by have := sh53 4 n s a ks.length cap v; rwa [← e] at this
    by_cases e6 : op = 6
    · subst e6
      rw [shareB_not ks (by decide), Bool.and_true]
      cases hh : headB 6 n s ks.length with
      | false =>
        rw [Bool.false_and]
        have e := headB_only (op := 6) (by decide) (by decide) n s ks.length
        rw [show kidsOf 6 = 1 from by decide] at e
        rw [hh] at e
        exact as_no6 n s a ks.length cap w fun v _ => by have := sh55 6 n s a ks.length cap v; rwa [← e] at this
      | true =>
        rw [Bool.true_and]
        have e := headB_only (op := 6) (by decide) (by decide) n s ks.length
        rw [show kidsOf 6 = 1 from by decide] at e
        rw [hh] at e
        exact as_yes6 ks hkids n s a ks.length cap w hk rfl hzs fun v _ => by have := sh55 6 n s a ks.length cap v; rwa [← e] at this
    by_cases e7 : op = 7
    · subst e7
      rw [shareB_not ks (by decide), Bool.and_true]
      cases hh : headB 7 n s ks.length with
      | false =>
        rw [Bool.false_and]
        have e := headB_only (op := 7) (by decide) (by decide) n s ks.length
        rw [show kidsOf 7 = 2 from by decide] at e
        rw [hh] at e
        exact as_no7 n s a ks.length cap w fun v _ => by have := sh56 7 n s a ks.length cap v; rwa [← e] at this
      | true =>
        rw [Bool.true_and]
        have e := headB_only (op := 7) (by decide) (by decide) n s ks.length
        rw [show kidsOf 7 = 2 from by decide] at e
        rw [hh] at e
        exact as_yes7 ks hkids n s a ks.length cap w hk rfl hzs fun v _ => by have := sh56 7 n s a ks.length cap v; rwa [← e] at this
    by_cases e8 : op = 8
    · subst e8
      rw [shareB_not ks (by decide), Bool.and_true]
      cases hh : headB 8 n s ks.length with
      | false =>
        rw [Bool.false_and]
        have e := headB_only (op := 8) (by decide) (by decide) n s ks.length
        rw [show kidsOf 8 = 2 from by decide] at e
        rw [hh] at e
        exact as_no8 n s a ks.length cap w fun v _ => by have := sh57 8 n s a ks.length cap v; rwa [← e] at this
      | true =>
        rw [Bool.true_and]
        have e := headB_only (op := 8) (by decide) (by decide) n s ks.length
        rw [show kidsOf 8 = 2 from by decide] at e
        rw [hh] at e
        exact as_yes8 ks hkids n s a ks.length cap w hk rfl hzs fun v _ => by have := sh57 8 n s a ks.length cap v; rwa [← e] at this
    by_cases e5 : op = 5
    · subst e5
      have e := headB_only (op := 5) (by decide) (by decide) n s ks.length
      rw [show kidsOf 5 = 2 from by decide] at e
      cases hh : headB 5 n s ks.length with
      | false =>
        rw [Bool.false_and, Bool.false_and]
        rw [hh] at e
        exact as_no5 n s a ks.length cap w fun v _ => sh54_no 5 n s a ks.length cap v e.symm
      | true =>
        have h2 : ks.length = 2 := by
          have := headB_len hh
          have e : kidsOf 5 = 2 := by decide
          omega
        obtain ⟨x, y, rfl⟩ := two_of h2
        have hs : shareB 5 [x, y] = !beforeB y x := by simp [shareB]
        rw [Bool.true_and, hs]
        rw [hh] at e
        have hy : y.size ≤ 2097152 := by have := Tm.size_mem (t := y) (ks := [x, y]) (by simp); omega
        have hsh : ∀ v : World, Below w.heap.size w v → Calls Tryz.prog 115 #[.agg #[.int .i64 5, .int .i64 n, .string s, .slice a 2 cap]] v fun e w' => e = .returned (.bool (!beforeB y x)) ∧ Below v.heap.size v w' :=
          fun v hv => sh54_yes x y 5 n s a cap v e.symm (hk.below hv) hy
        cases hbf : beforeB y x with
        | true =>
          rw [hbf] at hsh
          rw [Bool.not_true, Bool.false_and]
          exact as_no5 n s a 2 cap w hsh
        | false =>
          rw [hbf] at hsh
          rw [Bool.not_false, Bool.true_and]
          exact as_yes5 [x, y] hkids n s a 2 cap w hk rfl hzs hsh
    have hkn : kidsOf op = -1 := by
      unfold kidsOf
      rw [if_neg (by omega), if_neg (by omega), if_neg (by omega)]
    rw [headB_none hkn, Bool.false_and, Bool.false_and]
    exact as_no0 op n s a ks.length cap w (by simpa using e1) (by simpa using e2) (by simpa using e3) (by simpa using e4) (by simpa using e5) (by simpa using e6) (by simpa using e7) (by simpa using e8) fun v _ => sh58 op n s a ks.length cap v

set_option maxRecDepth 100000 in
theorem as_any : ∀ (k : Nat) (t : Tm), t.size ≤ k → AsOk t
  | 0, t, h => by have := t.size_pos; omega
  | k + 1, t, h => as_step t fun x hx => as_any k x (by
      cases t with
      | node op n s ks =>
        have := Tm.size_mem (ks := ks) hx
        simp only [Tm.size] at h
        omega)

set_option maxRecDepth 100000 in
theorem as_calls (t : Tm) : AsOk t := as_any t.size t (Nat.le_refl _)

set_option maxRecDepth 100000 in
set_option maxHeartbeats 400000 in
theorem ok10 (t : Tm) (op n : Int) (s : ByteArray) (a : Option Addr) (len cap : Nat) (w : World) (hl : Lies w 0 t (tmCells op n s a len cap)) (hsz : t.size ≤ 2097152) :
    Calls Tryz.prog 20 #[.agg #[.int .i64 op, .int .i64 n, .string s, .slice a len cap]] w fun e w' => e = .returned (.bool (okT t)) ∧ Below w.heap.size w w' := by
  have h21 := hide (su_any t op n s a len cap 201)
  have h22 := as_calls t
  have HL : Hid (Lies (w.alloc (.cells #[.int .i64 op, .int .i64 n, .string s, .slice a len cap] 35)) 0 t (tmCells op n s a len cap)) := hl.below ((Below.refl _ _).alloc (Nat.le_refl _) _)
  have HB0 := hide (box_cell w #[.int .i64 op, .int .i64 n, .string s, .slice a len cap] 35 0 _ rfl)
  have HB1 := hide (box_cell w #[.int .i64 op, .int .i64 n, .string s, .slice a len cap] 35 1 _ rfl)
  have HB2 := hide (box_cell w #[.int .i64 op, .int .i64 n, .string s, .slice a len cap] 35 2 _ rfl)
  have HB3 := hide (box_cell w #[.int .i64 op, .int .i64 n, .string s, .slice a len cap] 35 3 _ rfl)
  clear hl
  have HSZ := hide hsz
  by_cases hz : t.size ≤ 200
  · have HE : Hid (okT t = rightT t) := by show _ = _; unfold okT; simp [hz]
    have hz' : (t.size : Int) ≤ 200 := by omega
    have hcp : capAt (t.size : Int) 201 = (t.size : Int) := capAt_le (by omega)
    rw [hcp] at h21
    clear hsz hz hcp
    go_enter Tryz.func20, Tryz.ntmps20
    go_wp2_with fail
    refine (unhide h21 _ (unhide HL) (unhide HSZ)).mono ?_
    rintro e w2 ⟨rfl, hb2⟩
    have c0 := keepc hb2 (unhide HB0)
    have c1 := keepc hb2 (unhide HB1)
    have c2 := keepc hb2 (unhide HB2)
    have c3 := keepc hb2 (unhide HB3)
    have HL2 := hide ((unhide HL).below hb2)
    have HW2 := hide (((Below.refl w.heap.size w).alloc (Nat.le_refl _) _).trans (hb2.mono (by simp)))
    clear hb2
    go_wp2_with fail
    refine (h22 op n s a len cap _ (unhide HL2) (unhide HSZ)).mono ?_
    rintro e w3 ⟨rfl, hb3⟩
    go_wp2_with fail
    go_ret
    exact ⟨ret_bool (unhide HE).symm, (unhide HW2).trans (hb3.mono (unhide HW2).size)⟩
  · have HE : Hid (okT t = false) := by show _ = _; unfold okT; simp [hz]
    have hcp : capAt (t.size : Int) 201 = 201 := capAt_ge (by omega)
    rw [hcp] at h21
    clear hsz hz hcp
    generalize okT t = rt at *
    go_enter Tryz.func20, Tryz.ntmps20
    go_wp2_with fail
    refine (unhide h21 _ (unhide HL) (unhide HSZ)).mono ?_
    rintro e w2 ⟨rfl, hb2⟩
    go_wp2_with fail
    go_ret
    exact ⟨ret_bool (unhide HE).symm, ((Below.refl w.heap.size w).alloc (Nat.le_refl _) _).trans (hb2.mono (by simp))⟩

end Go.Proofs.YteminklafghgpaaGreatDoor
