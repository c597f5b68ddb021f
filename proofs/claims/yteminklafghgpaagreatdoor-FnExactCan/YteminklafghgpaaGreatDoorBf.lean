
/- The walk of spec.Before: of whatever two terms lie in memory it answers whether the first is before the second; nothing that was there is written. -/
import Derived.Test.YteminklafghgpaaGreatDoorSa
namespace Go.Proofs.YteminklafghgpaaGreatDoor
open Go.RowKit Go.Deep

theorem cmpI_neg {a b : Int} : cmpI a b < 0 ↔ a < b := by unfold cmpI; split <;> (try split) <;> omega
theorem cmpS_neg {x y : ByteArray} (h : x ≠ y) : cmpS x y < 0 ↔ Op.bytesLess x.toList y.toList = true := by
  cases hb : Op.bytesLess x.toList y.toList with
  | true => rw [cmpS_lt hb]; simp
  | false => rw [cmpS_gt h hb]; simp

section
variable {op n : Int} {s : ByteArray} {ks : List Tm} {op' n' : Int} {s' : ByteArray} {ks' : List Tm}
theorem bf_iff : beforeB (.node op n s ks) (.node op' n' s' ks') = true ↔ orI (headC op n s ks.length op' n' s' ks'.length) (cmpL ks ks') < 0 := by
  unfold beforeB
  rw [decide_eq_true_iff]
  simp only [cmpT]
theorem bf_op (h : op ≠ op') : beforeB (.node op n s ks) (.node op' n' s' ks') = decide (op < op') := by
  rw [Bool.eq_iff_iff, bf_iff, decide_eq_true_iff, ← cmpI_neg (a := op) (b := op')]
  have h1 : cmpI op op' ≠ 0 := fun e => h (cmpI_zero.1 e)
  unfold headC
  rw [orI_not (a := cmpI op op') h1, orI_not h1]
theorem bf_n (h : n ≠ n') : beforeB (.node op n s ks) (.node op n' s' ks') = decide (n < n') := by
  rw [Bool.eq_iff_iff, bf_iff, decide_eq_true_iff, ← cmpI_neg (a := n) (b := n')]
  have h1 : cmpI n n' ≠ 0 := fun e => h (cmpI_zero.1 e)
  unfold headC
  rw [orI_zero (a := cmpI op op) (cmpI_eq rfl), orI_not (a := cmpI n n') h1, orI_not h1]
theorem bf_s (h : s ≠ s') : beforeB (.node op n s ks) (.node op n s' ks') = Op.bytesLess s.toList s'.toList := by
  rw [Bool.eq_iff_iff, bf_iff, ← cmpS_neg h]
  have h1 : cmpS s s' ≠ 0 := fun e => h (cmpS_zero.1 e)
  unfold headC
  rw [orI_zero (a := cmpI op op) (cmpI_eq rfl), orI_zero (a := cmpI n n) (cmpI_eq rfl), orI_not (a := cmpS s s') h1, orI_not h1]
theorem bf_len (h : ks.length ≠ ks'.length) : beforeB (.node op n s ks) (.node op n s ks') = decide ((ks.length : Int) < (ks'.length : Int)) := by
  rw [Bool.eq_iff_iff, bf_iff, decide_eq_true_iff, ← cmpI_neg (a := (ks.length : Int)) (b := (ks'.length : Int))]
  have h1 : cmpI (ks.length : Int) (ks'.length : Int) ≠ 0 := fun e => h (by have := cmpI_zero.1 e; omega)
  unfold headC
  rw [orI_zero (a := cmpI op op) (cmpI_eq rfl), orI_zero (a := cmpI n n) (cmpI_eq rfl), orI_zero (a := cmpS s s) (cmpS_eq rfl), orI_not h1]
theorem bf_kids (h : ks.length = ks'.length) : beforeB (.node op n s ks) (.node op n s ks') = decide (cmpL ks ks' < 0) := by
  rw [Bool.eq_iff_iff, bf_iff, decide_eq_true_iff, orI_zero (headC_zero.2 ⟨rfl, rfl, rfl, h⟩)]
end

theorem drew_both {v v' : World} (h : Below v.heap.size v v') : Below v.drew.heap.size v.drew v'.drew := ⟨h.os, h.tape, h.output, h.size, h.block⟩

def BfOk (t : Tm) : Prop := ∀ (t' : Tm) (op n : Int) (s : ByteArray) (a : Option Addr) (len cap : Nat) (op' n' : Int) (s' : ByteArray) (a' : Option Addr) (len' cap' : Nat) (w : World), Lies w 0 t (tmCells op n s a len cap) → Lies w 0 t' (tmCells op' n' s' a' len' cap') →
  Calls Tryz.prog 44 #[.agg #[.int .i64 op, .int .i64 n, .string s, .slice a len cap], .agg #[.int .i64 op', .int .i64 n', .string s', .slice a' len' cap']] w fun e w' => e = .returned (.bool (beforeB t t')) ∧ Below w.heap.size w w'

set_option maxHeartbeats 4000000 in
theorem bf_step (t : Tm) (h : ∀ x ∈ t.kids, BfOk x) : BfOk t := by
  intro t' op n s a len cap op' n' s' a' len' cap' w hl hl'
  cases t with
  | node op1 n1 s1 ks =>
  cases t' with
  | node op2 n2 s2 ks' =>
    simp only [Lies, tmCells] at hl hl'
    obtain ⟨a1, cap1, he, ⟨_, hlc, hcm⟩, _, hk⟩ := hl
    simp only [List.cons.injEq, Value.int.injEq, Value.string.injEq, Value.slice.injEq, true_and, and_true] at he
    obtain ⟨rfl, rfl, rfl, rfl, rfl, rfl⟩ := he
    obtain ⟨a2, cap2, he, ⟨_, hlc', hcm'⟩, _, hk'⟩ := hl'
    simp only [List.cons.injEq, Value.int.injEq, Value.string.injEq, Value.slice.injEq, true_and, and_true] at he
    obtain ⟨rfl, rfl, rfl, rfl, rfl, rfl⟩ := he
    have hkids : ∀ x ∈ ks, BfOk x := h
    have hb1 : ks.length ≤ 9223372036854775807 := by unfold maxLen at hcm; omega
    have hb2 : ks'.length ≤ 9223372036854775807 := by unfold maxLen at hcm'; omega
    have HK := hide hk
    have HK' := hide hk'
    clear h hk hk' hlc hcm hlc' hcm'
    by_cases e1 : op = op'
    case neg =>
      have q1 : (op != op') = true := by simpa using e1
      have HR := hide (bf_op (n := n) (s := s) (ks := ks) (n' := n') (s' := s') (ks' := ks') e1)
      clear e1
      generalize beforeB (.node op n s ks) (.node op' n' s' ks') = bb at *
      go_enter Tryz.func44, Tryz.ntmps44
      go_wp2_with fail
      go_ret
      exact ⟨ret_bool (unhide HR).symm, below_two _ _ _⟩
    subst e1
    have q1 : (op != op) = false := by simp
    by_cases e2 : n = n'
    case neg =>
      have q2 : (n != n') = true := by simpa using e2
      have HR := hide (bf_n (op := op) (s := s) (ks := ks) (s' := s') (ks' := ks') e2)
      clear e2
      generalize beforeB (.node op n s ks) (.node op n' s' ks') = bb at *
      go_enter Tryz.func44, Tryz.ntmps44
      go_wp2_with fail
      go_ret
      exact ⟨ret_bool (unhide HR).symm, below_two _ _ _⟩
    subst e2
    have q2 : (n != n) = false := by simp
    by_cases e3 : s = s'
    case neg =>
      have q3 : (s.toList == s'.toList) = false := by simpa using fun e => e3 (toList_inj e)
      have HR := hide (bf_s (op := op) (n := n) (ks := ks) (ks' := ks') e3)
      clear e3
      generalize beforeB (.node op n s ks) (.node op n s' ks') = bb at *
      go_enter Tryz.func44, Tryz.ntmps44
      go_wp2_with fail
      go_ret
      exact ⟨ret_bool (unhide HR).symm, below_two _ _ _⟩
    subst e3
    have q3 : (s.toList == s.toList) = true := by simp
    by_cases e4 : ks.length = ks'.length
    case neg =>
      have q4 : ((ks.length : Int) != (ks'.length : Int)) = true := by rw [bne_iff_ne]; omega
      have HR := hide (bf_len (op := op) (n := n) (s := s) e4)
      clear e4
      generalize beforeB (.node op n s ks) (.node op n s ks') = bb at *
      go_enter Tryz.func44, Tryz.ntmps44
      go_wp2_with fail
      go_ret
      exact ⟨ret_bool (by rw [unhide HR]; simp), below_two _ _ _⟩
    have HR := hide (bf_kids (op := op) (n := n) (s := s) e4)
    generalize beforeB (.node op n s ks) (.node op n s ks') = bb at *
    generalize hlen' : ks'.length = len' at *
    have HL' := hide hlen'
    subst e4
    generalize hlen : ks.length = len at *
    have HL := hide hlen
    clear hlen hlen'
    have q4 : ((len : Int) != (len : Int)) = false := by simp
    go_enter Tryz.func44, Tryz.ntmps44
    go_wp2_with fail
    go_loopw [5] (fun i wr => ∃ k : Nat, k ≤ len ∧ i = .int .i64 k ∧ cmpL ks ks' = cmpL (ks.drop k) (ks'.drop k) ∧ Below (w.heap.size + 1 + 1) ((w.alloc (.cells #[.int .i64 op, .int .i64 n, .string s, .slice a len cap] 35)).alloc (.cells #[.int .i64 op, .int .i64 n, .string s, .slice a' len cap'] 35)) wr) (fun i _ => len - (intOf i).toNat)
    case atStart => exact ⟨0, Nat.zero_le _, rfl, rfl, Below.refl _ _⟩
    case round =>
      obtain ⟨k, hkl, rfl, hC, hb⟩ := hrel
      have b3 : wr.cell? ⟨w.heap.size, 3, none⟩ = some (.slice a len cap) := (hb.cell (p := ⟨w.heap.size, 3, none⟩) (by show w.heap.size < _; omega)).trans (keepc ((Below.refl _ _).alloc (Nat.le_refl _) _) (box_cell _ _ _ 3 _ rfl))
      have b4 : wr.cell? ⟨w.heap.size + 1, 3, none⟩ = some (.slice a' len cap') := by
        have := box_cell (w.alloc (.cells #[.int .i64 op, .int .i64 n, .string s, .slice a len cap] 35)) #[.int .i64 op, .int .i64 n, .string s, .slice a' len cap'] 35 3 _ rfl
        rw [heap_size_alloc] at this
        exact (hb.cell (p := ⟨w.heap.size + 1, 3, none⟩) (by show w.heap.size + 1 < _; omega)).trans this
      have hbw : Below w.heap.size w wr := (below_two _ _ _).trans (hb.mono (by omega))
      have HC := hide hC
      clear hC
      by_cases hlt : k < len
      · have g1 : k < ks.length := by have := unhide HL; omega
        have g2 : k < ks'.length := by have := unhide HL'; omega
        have HD := hide (cmpL_drop g1 g2)
        obtain ⟨b, o, y0, y1, y2, y3, y4, y5, rfl, _, _, c0, c1, c2, c3, hT⟩ := (unhide HK).elem (k := k) g1
        obtain ⟨b', o', y0', y1', y2', y3', y4', y5', rfl, _, _, d0, d1, d2, d3, hT'⟩ := (unhide HK').elem (k := k) g2
        have c0 := keepc hbw c0
        have c1 := keepc hbw c1
        have c2 := keepc hbw c2
        have c3 := keepc hbw c3
        have d0 := keepc hbw d0
        have d1 := keepc hbw d1
        have d2 := keepc hbw d2
        have d3 := keepc hbw d3
        have HCT := hide (sa_calls ks[k] ks'[k] y0 y1 y2 y3 y4 y5 y0' y1' y2' y3' y4' y5')
        have HCB := hide (hkids ks[k] (List.getElem_mem g1) ks'[k] y0 y1 y2 y3 y4 y5 y0' y1' y2' y3' y4' y5')
        have HT := hide (hT.below hbw.drew)
        have HT' := hide (hT'.below hbw.drew)
        have hsb : sameB ks[k] ks'[k] = decide (cmpT ks[k] ks'[k] = 0) := rfl
        have HSB := hide hsb
        have hbv : beforeB ks[k] ks'[k] = decide (cmpT ks[k] ks'[k] < 0) := rfl
        have HBV := hide hbv
        have HB := hide hb
        clear hT hT' hsb hbv hb hbw HK HK' hkids
        generalize ks[k] = tk at *
        generalize ks'[k] = tk' at *
        clear g1 g2
        have hml : (k : Int) < (len : Int) := by omega
        cases hsv : sameB tk tk' with
        | true =>
          rw [hsv] at HCT HSB
          clear hsv
          go_wp2_with fail
          go_region_held3 (fun x => x.cell? ⟨w.heap.size, 3, none⟩ = some (.slice (some ⟨b, o, none⟩) len cap) ∧ x.cell? ⟨w.heap.size + 1, 3, none⟩ = some (.slice (some ⟨b', o', none⟩) len cap') ∧
              x.cell? ⟨b, o + k * 4, none⟩ = some (.int .i64 y0) ∧ x.cell? ⟨b, o + k * 4 + 1, none⟩ = some (.int .i64 y1) ∧ x.cell? ⟨b, o + k * 4 + 2, none⟩ = some (.string y2) ∧ x.cell? ⟨b, o + k * 4 + 3, none⟩ = some (.slice y3 y4 y5) ∧
              x.cell? ⟨b', o' + k * 4, none⟩ = some (.int .i64 y0') ∧ x.cell? ⟨b', o' + k * 4 + 1, none⟩ = some (.int .i64 y1') ∧ x.cell? ⟨b', o' + k * 4 + 2, none⟩ = some (.string y2') ∧ x.cell? ⟨b', o' + k * 4 + 3, none⟩ = some (.slice y3' y4' y5')) (go_keep)
            (first
              | (go_at_call 45
                 refine (unhide HCT _ (unhide HT) (unhide HT')).mono ?_
                 rintro e w2 ⟨rfl, hb2⟩
                 have hb2' := hide (below_drw hb2)
                 have f0 := keepc (unhide hb2') c0
                 have f1 := keepc (unhide hb2') c1
                 have f2 := keepc (unhide hb2') c2
                 have f3 := keepc (unhide hb2') c3
                 have f4 := keepc (unhide hb2') d0
                 have f5 := keepc (unhide hb2') d1
                 have f6 := keepc (unhide hb2') d2
                 have f7 := keepc (unhide hb2') d3
                 have f8 := keepc (unhide hb2') b3
                 have f9 := keepc (unhide hb2') b4))
          go_wp2_with fail
          go_roundw
          case rel => exact ⟨k + 1, by omega, by go_num, by rw [unhide HC, unhide HD, orI_zero (by simpa using (unhide HSB).symm)], (unhide HB).trans ((unhide hb2').mono (by have := (unhide HB).size; simp at this; omega))⟩
          case measure => simp [intOf]; omega
        | false =>
          rw [hsv] at HCT HSB
          clear hsv
          go_wp2_with fail
          go_region_held3 (fun x => x.cell? ⟨w.heap.size, 3, none⟩ = some (.slice (some ⟨b, o, none⟩) len cap) ∧ x.cell? ⟨w.heap.size + 1, 3, none⟩ = some (.slice (some ⟨b', o', none⟩) len cap') ∧
              x.cell? ⟨b, o + k * 4, none⟩ = some (.int .i64 y0) ∧ x.cell? ⟨b, o + k * 4 + 1, none⟩ = some (.int .i64 y1) ∧ x.cell? ⟨b, o + k * 4 + 2, none⟩ = some (.string y2) ∧ x.cell? ⟨b, o + k * 4 + 3, none⟩ = some (.slice y3 y4 y5) ∧
              x.cell? ⟨b', o' + k * 4, none⟩ = some (.int .i64 y0') ∧ x.cell? ⟨b', o' + k * 4 + 1, none⟩ = some (.int .i64 y1') ∧ x.cell? ⟨b', o' + k * 4 + 2, none⟩ = some (.string y2') ∧ x.cell? ⟨b', o' + k * 4 + 3, none⟩ = some (.slice y3' y4' y5')) (go_keep)
            (first
              | (go_at_call 45
                 refine (unhide HCT _ (unhide HT) (unhide HT')).mono ?_
                 rintro e w2 ⟨rfl, hb2⟩
                 have hb2' := hide (below_drw hb2)
                 have f0 := keepc (unhide hb2') c0
                 have f1 := keepc (unhide hb2') c1
                 have f2 := keepc (unhide hb2') c2
                 have f3 := keepc (unhide hb2') c3
                 have f4 := keepc (unhide hb2') d0
                 have f5 := keepc (unhide hb2') d1
                 have f6 := keepc (unhide hb2') d2
                 have f7 := keepc (unhide hb2') d3
                 have f8 := keepc (unhide hb2') b3
                 have f9 := keepc (unhide hb2') b4))
          have HT2 := hide ((unhide HT).below (drew_both (unhide hb2')))
          have HT2' := hide ((unhide HT').below (drew_both (unhide hb2')))
          clear c0 c1 c2 c3 d0 d1 d2 d3 b3 b4
          generalize beforeB tk tk' = bv at *
          go_wp2_with fail
          go_region_held3 (fun x => x.cell? ⟨w.heap.size, 3, none⟩ = some (.slice (some ⟨b, o, none⟩) len cap) ∧ x.cell? ⟨w.heap.size + 1, 3, none⟩ = some (.slice (some ⟨b', o', none⟩) len cap') ∧
              x.cell? ⟨b, o + k * 4, none⟩ = some (.int .i64 y0) ∧ x.cell? ⟨b, o + k * 4 + 1, none⟩ = some (.int .i64 y1) ∧ x.cell? ⟨b, o + k * 4 + 2, none⟩ = some (.string y2) ∧ x.cell? ⟨b, o + k * 4 + 3, none⟩ = some (.slice y3 y4 y5) ∧
              x.cell? ⟨b', o' + k * 4, none⟩ = some (.int .i64 y0') ∧ x.cell? ⟨b', o' + k * 4 + 1, none⟩ = some (.int .i64 y1') ∧ x.cell? ⟨b', o' + k * 4 + 2, none⟩ = some (.string y2') ∧ x.cell? ⟨b', o' + k * 4 + 3, none⟩ = some (.slice y3' y4' y5')) (go_keep)
            (first
              | (go_at_call 44
                 refine (unhide HCB _ (unhide HT2) (unhide HT2')).mono ?_
                 rintro e w3 ⟨rfl, hb3⟩
                 have hb3' := hide (below_drw hb3)
                 have g0 := keepc (unhide hb3') f0
                 have g1 := keepc (unhide hb3') f1
                 have g2 := keepc (unhide hb3') f2
                 have g3 := keepc (unhide hb3') f3
                 have g4 := keepc (unhide hb3') f4
                 have g5 := keepc (unhide hb3') f5
                 have g6 := keepc (unhide hb3') f6
                 have g7 := keepc (unhide hb3') f7
                 have g8 := keepc (unhide hb3') f8
                 have g9 := keepc (unhide hb3') f9))
          go_wp2_with fail
          go_ret
          have hne : cmpT tk tk' ≠ 0 := by simpa using (unhide HSB).symm
          have hbb : bb = bv := by rw [unhide HR, unhide HBV, unhide HC, unhide HD, orI_not hne]
          exact ⟨ret_bool hbb.symm, (((below_two _ _ _).trans ((unhide HB).mono (by omega))).trans ((unhide hb2').mono (by have := (unhide HB).size; simp at this; omega))).trans ((unhide hb3').mono (by have := (unhide HB).size; have := (unhide hb2').size; simp at *; omega))⟩
      · go_wp2_with fail
        go_ret
        have h0 : cmpL ks ks' = 0 := by rw [unhide HC, List.drop_of_length_le (by have := unhide HL; omega)]; simp [cmpL]
        exact ⟨ret_bool (by rw [unhide HR, h0]; rfl), hbw⟩

theorem bf_any : ∀ (k : Nat) (t : Tm), t.size ≤ k → BfOk t
  | 0, t, h => by have := t.size_pos; omega
  | k + 1, t, h => bf_step t fun x hx => bf_any k x (by
      cases t with
      | node op n s ks =>
        have := Tm.size_mem (ks := ks) hx
        simp only [Tm.size] at h
        omega)

theorem bf_calls (t : Tm) : BfOk t := bf_any t.size t (Nat.le_refl _)

end Go.Proofs.YteminklafghgpaaGreatDoor
