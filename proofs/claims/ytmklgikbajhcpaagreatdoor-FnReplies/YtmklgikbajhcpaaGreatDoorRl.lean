/- The walk of spec.l1Right: of whatever term lies in memory it answers whether it is right; nothing that was there is written. The walk of spec.l1Right where a term's own fields are right: its kids are asked, and of a share their order. The walk of spec.l1Right at a share whose own fields are right: its two kids are asked, and then their order; and at whatever term. The walks of spec.l1Right at whatever term, and of spec.TermOk: of whatever term lies in memory, of at most 2^21 within it, it answers whether it is right and at most 200 are within it; nothing that was there is written. -/
import Derived.Test.YtmklgikbajhcpaaGreatDoorOk
namespace Go.Proofs.YtmklgikbajhcpaaGreatDoor
open Go.RowKit Go.Deep

def RiOk (t : Tm) : Prop := ∀ (op n : Int) (s : ByteArray) (a : Option Addr) (len cap : Nat) (w : World), Lies w 0 t (tmCells op n s a len cap) →
  Calls Tryz.prog 147 #[.agg #[.int .i64 op, .int .i64 n, .string s, .slice a len cap]] w fun e w' => e = .returned (.bool (rightT t)) ∧ Below w.heap.size w w'

theorem below_one_drewN (w : World) (x : Obj) (k : Nat) : Below w.heap.size w ((w.alloc x).drewN k) := below_drewN ((Below.refl _ _).alloc (Nat.le_refl _) _) k

theorem empty_iff {s : ByteArray} : s.size = 0 ↔ s.toList = [] := by
  rw [ByteArray.toList_eq]
  constructor
  · intro h
    exact List.eq_nil_of_length_eq_zero (by rw [Array.length_toList]; exact h)
  · intro h
    have : s.data.toList.length = 0 := by rw [h]; rfl
    rw [Array.length_toList] at this
    exact this

set_option maxHeartbeats 4000000 in
theorem ri_b1 (op n : Int) (s : ByteArray) (a : Option Addr) (len cap : Nat) (w : World) (q1 : (kidsOf op != (len : Int)) = true) :
    Calls Tryz.prog 147 #[.agg #[.int .i64 op, .int .i64 n, .string s, .slice a len cap]] w fun e w' => e = .returned (.bool false) ∧ Below w.heap.size w w' := by
  go_enter Tryz.func147, Tryz.ntmps147
  go_wp2_with fail
  go_quiet (first
    | (go_at_call 160; exact Calls.quiet_of_same (kids25 _ _))
    | (go_at_call 115; exact Calls.quiet_of_same (in26 _ _ _ _)))
  go_wp2_with fail
  go_ret
  exact ⟨rfl, below_one_drewN _ _ _⟩

set_option maxHeartbeats 4000000 in
theorem ri_b2 (op n : Int) (s : ByteArray) (a : Option Addr) (len cap : Nat) (w : World) (q1 : (kidsOf op != (len : Int)) = false) (q2 : (op != 1) = true) (q3 : (n != 0) = true) :
    Calls Tryz.prog 147 #[.agg #[.int .i64 op, .int .i64 n, .string s, .slice a len cap]] w fun e w' => e = .returned (.bool false) ∧ Below w.heap.size w w' := by
  go_enter Tryz.func147, Tryz.ntmps147
  go_wp2_with fail
  go_quiet (first
    | (go_at_call 160; exact Calls.quiet_of_same (kids25 _ _))
    | (go_at_call 115; exact Calls.quiet_of_same (in26 _ _ _ _)))
  go_wp2_with fail
  go_ret
  exact ⟨rfl, below_one_drewN _ _ _⟩

set_option maxHeartbeats 4000000 in
theorem ri_b3 (op n : Int) (s : ByteArray) (a : Option Addr) (len cap : Nat) (w : World) (q1 : (kidsOf op != (len : Int)) = false) (q2 : (op != 1) = false) (q3 : (op != 2) = true) (q4 : (s.toList == []) = false) :
    Calls Tryz.prog 147 #[.agg #[.int .i64 op, .int .i64 n, .string s, .slice a len cap]] w fun e w' => e = .returned (.bool false) ∧ Below w.heap.size w w' := by
  go_enter Tryz.func147, Tryz.ntmps147
  go_wp2_with fail
  go_quiet (first
    | (go_at_call 160; exact Calls.quiet_of_same (kids25 _ _))
    | (go_at_call 115; exact Calls.quiet_of_same (in26 _ _ _ _)))
  go_wp2_with fail
  go_ret
  exact ⟨rfl, below_one_drewN _ _ _⟩

set_option maxHeartbeats 4000000 in
theorem ri_b4 (op n : Int) (s : ByteArray) (a : Option Addr) (len cap : Nat) (w : World) (q1 : (kidsOf op != (len : Int)) = false) (q2 : (op != 1) = true) (q2' : (n != 0) = false) (q3 : (op != 2) = true) (q4 : (s.toList == []) = false) :
    Calls Tryz.prog 147 #[.agg #[.int .i64 op, .int .i64 n, .string s, .slice a len cap]] w fun e w' => e = .returned (.bool false) ∧ Below w.heap.size w w' := by
  go_enter Tryz.func147, Tryz.ntmps147
  go_wp2_with fail
  go_quiet (first
    | (go_at_call 160; exact Calls.quiet_of_same (kids25 _ _))
    | (go_at_call 115; exact Calls.quiet_of_same (in26 _ _ _ _)))
  go_wp2_with fail
  go_ret
  exact ⟨rfl, below_one_drewN _ _ _⟩

set_option maxHeartbeats 4000000 in
theorem ri_b5 (op n : Int) (s : ByteArray) (a : Option Addr) (len cap : Nat) (w : World) (q1 : (kidsOf op != (len : Int)) = false) (q2 : (op != 1) = false) (q3 : (op != 2) = true) (q4 : (s.toList == []) = true) (q5 : inB n 0 1000000 = false) :
    Calls Tryz.prog 147 #[.agg #[.int .i64 op, .int .i64 n, .string s, .slice a len cap]] w fun e w' => e = .returned (.bool false) ∧ Below w.heap.size w w' := by
  go_enter Tryz.func147, Tryz.ntmps147
  go_wp2_with fail
  go_quiet (first
    | (go_at_call 160; exact Calls.quiet_of_same (kids25 _ _))
    | (go_at_call 115; exact Calls.quiet_of_same (in26 _ _ _ _)))
  go_wp2_with fail
  go_ret
  exact ⟨rfl, below_one_drewN _ _ _⟩

set_option maxHeartbeats 4000000 in
theorem ri_b6 (op n : Int) (s : ByteArray) (a : Option Addr) (len cap : Nat) (w : World) (q1 : (kidsOf op != (len : Int)) = false) (q2 : (op != 1) = true) (q2' : (n != 0) = false) (q3 : (op != 2) = false) (q5 : inB n 0 1000000 = true) (q6 : (300 : Int) < (s.size : Int)) :
    Calls Tryz.prog 147 #[.agg #[.int .i64 op, .int .i64 n, .string s, .slice a len cap]] w fun e w' => e = .returned (.bool false) ∧ Below w.heap.size w w' := by
  go_enter Tryz.func147, Tryz.ntmps147
  go_wp2_with fail
  go_quiet (first
    | (go_at_call 160; exact Calls.quiet_of_same (kids25 _ _))
    | (go_at_call 115; exact Calls.quiet_of_same (in26 _ _ _ _)))
  go_wp2_with fail
  go_ret
  exact ⟨rfl, below_one_drewN _ _ _⟩

theorem ri_bad (op n : Int) (s : ByteArray) (a : Option Addr) (len cap : Nat) (w : World) (h : headB op n s len = false) :
    Calls Tryz.prog 147 #[.agg #[.int .i64 op, .int .i64 n, .string s, .slice a len cap]] w fun e w' => e = .returned (.bool false) ∧ Below w.heap.size w w' := by
  unfold headB at h
  have hd : ¬ (kidsOf op = len ∧ (op = 1 ∨ n = 0) ∧ (op = 2 ∨ s.size = 0) ∧ (0 ≤ n ∧ n ≤ 1000000) ∧ s.size ≤ 300) := by simpa using h
  clear h
  by_cases h1 : kidsOf op = len
  case neg => exact ri_b1 _ _ _ _ _ _ _ (by simpa using h1)
  have q1 : (kidsOf op != (len : Int)) = false := by simpa using h1
  by_cases h2 : op = 1
  · have q2 : (op != 1) = false := by simpa using h2
    have q3 : (op != 2) = true := by rw [h2]; rfl
    by_cases h4 : s.size = 0
    · have q4 : (s.toList == []) = true := by simpa using empty_iff.1 h4
      exact ri_b5 _ _ _ _ _ _ _ q1 q2 q3 q4 (by unfold inB; simp only [decide_eq_false_iff_not]; omega)
    · exact ri_b3 _ _ _ _ _ _ _ q1 q2 q3 (by simpa using fun e => h4 (empty_iff.2 e))
  · have q2 : (op != 1) = true := by simpa using h2
    by_cases h3 : n = 0
    case neg => exact ri_b2 _ _ _ _ _ _ _ q1 q2 (by simpa using h3)
    have q2' : (n != 0) = false := by simpa using h3
    by_cases h5 : op = 2
    · have q3 : (op != 2) = false := by simpa using h5
      exact ri_b6 _ _ _ _ _ _ _ q1 q2 q2' q3 (by unfold inB; simp only [decide_eq_true_iff]; omega) (by omega)
    · have q3 : (op != 2) = true := by simpa using h5
      exact ri_b4 _ _ _ _ _ _ _ q1 q2 q2' q3 (by
        have : s.size ≠ 0 := by omega
        simpa using fun e => this (empty_iff.2 e))

/-- The three ways in which a term's own fields are right. -/
def Ways (op n : Int) (s : ByteArray) : Prop :=
  ((op != 1) = false ∧ (op != 2) = true ∧ (s.toList == []) = true) ∨ ((op != 1) = true ∧ (n != 0) = false ∧ (op != 2) = false) ∨ ((op != 1) = true ∧ (n != 0) = false ∧ (op != 2) = true ∧ (s.toList == []) = true)

theorem ways {op n : Int} {s : ByteArray} {len : Nat} (h : headB op n s len = true) : (kidsOf op != (len : Int)) = false ∧ inB n 0 1000000 = true ∧ (s.size : Int) ≤ 300 ∧ Ways op n s := by
  unfold headB at h
  obtain ⟨h1, h2, h3, h4, h5⟩ := of_decide_eq_true h
  refine ⟨by simpa using h1, by unfold inB; simpa using h4, by omega, ?_⟩
  by_cases e1 : op = 1
  · left
    refine ⟨by simpa using e1, by rw [e1]; rfl, ?_⟩
    have : s.size = 0 := by omega
    simpa using empty_iff.1 this
  · have hn : n = 0 := by omega
    by_cases e2 : op = 2
    · right; left
      exact ⟨by simpa using e1, by simpa using hn, by simpa using e2⟩
    · right; right
      have : s.size = 0 := by omega
      exact ⟨by simpa using e1, by simpa using hn, by simpa using e2, by simpa using empty_iff.1 this⟩

theorem in26_yes (x lo hi : Int) (w : World) (h : inB x lo hi = true) : Calls Tryz.prog 115 #[.int .i64 x, .int .i64 lo, .int .i64 hi] w fun e w' => e = .returned (.bool true) ∧ w' = w := by
  have := in26 x lo hi w
  rwa [h] at this

set_option maxHeartbeats 4000000 in
theorem ri_good (ks : List Tm) (hkids : ∀ x ∈ ks, RiOk x) (op n : Int) (s : ByteArray) (a : Option Addr) (cap : Nat) (w : World) (hk : LiesAll w 0 a 0 ks) (hh : headB op n s ks.length = true) (hlb : ks.length ≤ 2) (h5 : (op != 5) = true) :
    Calls Tryz.prog 147 #[.agg #[.int .i64 op, .int .i64 n, .string s, .slice a ks.length cap]] w fun e w' => e = .returned (.bool (rightL ks)) ∧ Below w.heap.size w w' := by
  obtain ⟨q1, q2, q3, q4⟩ := ways hh
  have q8 : decide ((300 : Int) < (s.size : Int)) = false := by simp only [decide_eq_false_iff_not]; omega
  have HK := hide hk
  have HKI := hide hkids
  clear hk hh hkids
  have HRL : Hid (∀ k, rightL ks = rightL (ks.drop k) → ks.length ≤ k → rightL ks = true) := fun k e hl => by
    rw [e, List.drop_of_length_le hl]
    rfl
  generalize hlen : ks.length = len at *
  have HL := hide hlen
  clear hlen
  generalize hbb : rightL ks = bb at *
  have HBB := hide hbb
  clear hbb
  rcases q4 with ⟨q4, q5, q6⟩ | ⟨q4, q5, q6⟩ | ⟨q4, q5, q6, q7⟩
  all_goals
    go_enter Tryz.func147, Tryz.ntmps147
    go_wp2_with fail
    go_quiet (first
      | (go_at_call 160; exact Calls.quiet_of_same (kids25 _ _))
      | (go_at_call 115; exact Calls.quiet_of_same (in26_yes _ _ _ _ q2)))
    go_wp2_with fail
    go_loopw [3] (fun i wr => ∃ k : Nat, k ≤ len ∧ i = .int .i64 k ∧ bb = rightL (ks.drop k) ∧ Below (w.heap.size + 1) (w.alloc (.cells #[.int .i64 op, .int .i64 n, .string s, .slice a len cap] 29)) wr) (fun i _ => len - (intOf i).toNat)
    case atStart => exact ⟨0, Nat.zero_le _, rfl, by rw [List.drop_zero]; exact (unhide HBB).symm, below_drewN (Below.refl _ _) _⟩
    case round =>
      obtain ⟨k, hkl, rfl, hC, hb⟩ := hrel
      have b3 : wr.cell? ⟨w.heap.size, 3, none⟩ = some (.slice a len cap) := (hb.cell (p := ⟨w.heap.size, 3, none⟩) (by show w.heap.size < _; omega)).trans (box_cell _ _ _ 3 _ rfl)
      have b0 : wr.cell? ⟨w.heap.size, 0, none⟩ = some (.int .i64 op) := (hb.cell (p := ⟨w.heap.size, 0, none⟩) (by show w.heap.size < _; omega)).trans (box_cell _ _ _ 0 _ rfl)
      have hbw : Below w.heap.size w wr := ((Below.refl _ _).alloc (Nat.le_refl _) _).trans (hb.mono (by omega))
      have HC := hide hC
      have HB := hide hb
      clear hC hb
      by_cases hlt : k < len
      · have g1 : k < ks.length := by have := unhide HL; omega
        have HD := hide (rightL_drop g1)
        obtain ⟨b, o, y0, y1, y2, y3, y4, y5, rfl, _, _, c0, c1, c2, c3, hT⟩ := (unhide HK).elem (k := k) g1
        have c0 := keepc hbw c0
        have c1 := keepc hbw c1
        have c2 := keepc hbw c2
        have c3 := keepc hbw c3
        have HCT := hide (unhide HKI ks[k] (List.getElem_mem g1) y0 y1 y2 y3 y4 y5)
        have HT := hide (hT.below hbw)
        clear hT HK HKI
        generalize ks[k] = tk at *
        clear g1
        have hml : (k : Int) < (len : Int) := by omega
        cases hsv : rightT tk with
        | true =>
          rw [hsv] at HCT HD
          clear hsv
          go_wp2_with fail
          refine (unhide HCT _ (unhide HT)).mono ?_
          rintro e w2 ⟨rfl, hb2⟩
          go_wp2_with fail
          go_roundw
          case rel => exact ⟨k + 1, by omega, by go_num, by rw [unhide HC, unhide HD, Bool.true_and], (unhide HB).trans (hb2.mono (by have := (unhide HB).size; simp at this; omega))⟩
          case measure => simp [intOf]; omega
        | false =>
          rw [hsv] at HCT HD
          clear hsv
          go_wp2_with fail
          refine (unhide HCT _ (unhide HT)).mono ?_
          rintro e w2 ⟨rfl, hb2⟩
          go_wp2_with fail
          go_ret
          exact ⟨ret_bool (by rw [unhide HC, unhide HD, Bool.false_and]), hbw.trans (hb2.mono hbw.size)⟩
      · have HE : Hid (bb = true) := unhide HRL k (unhide HC) (by omega)
        go_wp2_with fail
        go_quiet (fail)
        go_wp2_with fail
        go_ret
        exact ⟨ret_bool (unhide HE).symm, below_drewN hbw _⟩

set_option maxHeartbeats 4000000 in
theorem ri_share (x y : Tm) (hkids : ∀ z ∈ [x, y], RiOk z) (n : Int) (s : ByteArray) (a : Option Addr) (cap : Nat) (w : World) (hk : LiesAll w 0 a 0 [x, y]) (hh : headB 5 n s 2 = true) :
    Calls Tryz.prog 147 #[.agg #[.int .i64 5, .int .i64 n, .string s, .slice a 2 cap]] w fun e w' => e = .returned (.bool (!beforeB y x && rightL [x, y])) ∧ Below w.heap.size w w' := by
  obtain ⟨_, q2, q3, q4⟩ := ways hh
  have q1 : (kidsOf 5 != (2 : Int)) = false := by decide
  have hks : ∃ ks, ks = [x, y] := ⟨_, rfl⟩
  obtain ⟨ks, hks⟩ := hks
  have HXY := hide hks
  rw [← hks] at hkids hk ⊢
  obtain ⟨b, o, z0, z1, z2, z3, z4, z5, rfl, _, _, uu0, uu1, uu2, uu3, hX⟩ := hk.elem (k := 0) (by rw [hks]; simp)
  obtain ⟨b', o', z0', z1', z2', z3', z4', z5', hab, _, _, vv0, vv1, vv2, vv3, hY⟩ := hk.elem (k := 1) (by rw [hks]; simp)
  cases hab
  have HBF := hide (bf_calls y x z0' z1' z2' z3' z4' z5' z0 z1 z2 z3 z4 z5)
  have HX : Hid (Lies w 0 x (tmCells z0 z1 z2 z3 z4 z5)) := by subst hks; exact hX
  have HY : Hid (Lies w 0 y (tmCells z0' z1' z2' z3' z4' z5')) := by subst hks; exact hY
  rw [Nat.zero_mul, Nat.add_zero] at uu0 uu1 uu2 uu3
  rw [Nat.one_mul] at vv0 vv1 vv2 vv3
  have hl2 : ks.length = 2 := by rw [hks]; rfl
  clear hX hY hks
  have q8 : decide ((300 : Int) < (s.size : Int)) = false := by simp only [decide_eq_false_iff_not]; omega
  have HK := hide hk
  have HKI := hide hkids
  clear hk hh hkids
  have HRL : Hid (∀ k, rightL ks = rightL (ks.drop k) → ks.length ≤ k → rightL ks = true) := fun k e hl => by
    rw [e, List.drop_of_length_le hl]
    rfl
  have HL := hide hl2
  generalize hbb : rightL ks = bb at *
  have HBB := hide hbb
  clear hbb
  generalize hbf : beforeB y x = bf at *
  clear hbf
  rcases q4 with ⟨q4, q5, q6⟩ | ⟨q4, q5, q6⟩ | ⟨q4, q5, q6, q7⟩
  · cases q4
  · cases q6
  · 
    go_enter Tryz.func147, Tryz.ntmps147
    go_wp2_with fail
    go_quiet (first
      | (go_at_call 160; exact Calls.quiet_of_same (kids25 _ _))
      | (go_at_call 115; exact Calls.quiet_of_same (in26_yes _ _ _ _ q2)))
    go_wp2_with fail
    go_loopw [3] (fun i wr => ∃ k : Nat, k ≤ 2 ∧ i = .int .i64 k ∧ bb = rightL (ks.drop k) ∧ Below (w.heap.size + 1) (w.alloc (.cells #[.int .i64 5, .int .i64 n, .string s, .slice (some ⟨b, o, none⟩) 2 cap] 29)) wr) (fun i _ => 2 - (intOf i).toNat)
    case atStart => exact ⟨0, Nat.zero_le _, rfl, by rw [List.drop_zero]; exact (unhide HBB).symm, below_drewN (Below.refl _ _) _⟩
    case round =>
      obtain ⟨k, hkl, rfl, hC, hb⟩ := hrel
      have b3 : wr.cell? ⟨w.heap.size, 3, none⟩ = some (.slice (some ⟨b, o, none⟩) 2 cap) := (hb.cell (p := ⟨w.heap.size, 3, none⟩) (by show w.heap.size < _; omega)).trans (box_cell _ _ _ 3 _ rfl)
      have b0 : wr.cell? ⟨w.heap.size, 0, none⟩ = some (.int .i64 5) := (hb.cell (p := ⟨w.heap.size, 0, none⟩) (by show w.heap.size < _; omega)).trans (box_cell _ _ _ 0 _ rfl)
      have hbw : Below w.heap.size w wr := ((Below.refl _ _).alloc (Nat.le_refl _) _).trans (hb.mono (by omega))
      have HC := hide hC
      have HB := hide hb
      clear hC hb
      by_cases hlt : k < 2
      · have g1 : k < ks.length := by have := unhide HL; omega
        have HD := hide (rightL_drop g1)
        obtain ⟨b', o', y0, y1, y2, y3, y4, y5, hab, _, _, c0, c1, c2, c3, hT⟩ := (unhide HK).elem (k := k) g1
        cases hab
        have c0 := keepc hbw c0
        have c1 := keepc hbw c1
        have c2 := keepc hbw c2
        have c3 := keepc hbw c3
        have HCT := hide (unhide HKI ks[k] (List.getElem_mem g1) y0 y1 y2 y3 y4 y5)
        have HT := hide (hT.below hbw)
        clear hT HK HKI HXY HX HY HBF uu0 uu1 uu2 uu3 vv0 vv1 vv2 vv3
        generalize ks[k] = tk at *
        clear g1
        have hml : (k : Int) < 2 := by omega
        cases hsv : rightT tk with
        | true =>
          rw [hsv] at HCT HD
          clear hsv
          go_wp2_with fail
          refine (unhide HCT _ (unhide HT)).mono ?_
          rintro e w2 ⟨rfl, hb2⟩
          go_wp2_with fail
          go_roundw
          case rel => exact ⟨k + 1, by omega, by go_num, by rw [unhide HC, unhide HD, Bool.true_and], (unhide HB).trans (hb2.mono (by have := (unhide HB).size; simp at this; omega))⟩
          case measure => simp [intOf]; omega
        | false =>
          rw [hsv] at HCT HD
          clear hsv
          go_wp2_with fail
          refine (unhide HCT _ (unhide HT)).mono ?_
          rintro e w2 ⟨rfl, hb2⟩
          go_wp2_with fail
          go_ret
          exact ⟨ret_bool (by rw [unhide HC, unhide HD, Bool.false_and, Bool.and_false]), hbw.trans (hb2.mono hbw.size)⟩
      · have HE : Hid (bb = true) := unhide HRL k (unhide HC) (by have := unhide HL; omega)
        have uu0 := keepc hbw uu0
        have uu1 := keepc hbw uu1
        have uu2 := keepc hbw uu2
        have uu3 := keepc hbw uu3
        have vv0 := keepc hbw vv0
        have vv1 := keepc hbw vv1
        have vv2 := keepc hbw vv2
        have vv3 := keepc hbw vv3
        have HX' := hide ((unhide HX).below hbw.drew)
        have HY' := hide ((unhide HY).below hbw.drew)
        clear HK HKI HXY HX HY
        go_wp2_with fail
        go_region_held3 (fun v => v.cell? ⟨w.heap.size, 0, none⟩ = some (.int .i64 5) ∧ v.cell? ⟨w.heap.size, 3, none⟩ = some (.slice (some ⟨b, o, none⟩) 2 cap) ∧
            v.cell? ⟨b, o, none⟩ = some (.int .i64 z0) ∧ v.cell? ⟨b, o + 1, none⟩ = some (.int .i64 z1) ∧ v.cell? ⟨b, o + 2, none⟩ = some (.string z2) ∧ v.cell? ⟨b, o + 3, none⟩ = some (.slice z3 z4 z5) ∧
            v.cell? ⟨b, o + 4, none⟩ = some (.int .i64 z0') ∧ v.cell? ⟨b, o + 4 + 1, none⟩ = some (.int .i64 z1') ∧ v.cell? ⟨b, o + 4 + 2, none⟩ = some (.string z2') ∧ v.cell? ⟨b, o + 4 + 3, none⟩ = some (.slice z3' z4' z5')) (go_keep)
          (first
            | (go_at_call 125
               refine (unhide HBF _ (unhide HY') (unhide HX')).mono ?_
               rintro e w2 ⟨rfl, hb2⟩
               have hb2' := hide (below_drw hb2)
               have f0 := keepc (unhide hb2') uu0
               have f1 := keepc (unhide hb2') uu1
               have f2 := keepc (unhide hb2') uu2
               have f3 := keepc (unhide hb2') uu3
               have f4 := keepc (unhide hb2') vv0
               have f5 := keepc (unhide hb2') vv1
               have f6 := keepc (unhide hb2') vv2
               have f7 := keepc (unhide hb2') vv3
               have f8 := keepc (unhide hb2') b3
               have f9 := keepc (unhide hb2') b0))
        go_wp2_with fail
        go_ret
        exact ⟨ret_bool (by rw [unhide HE, Bool.and_true]), hbw.trans ((unhide hb2').mono hbw.size)⟩

theorem kidsOf_le (op : Int) : kidsOf op ≤ 2 := by unfold kidsOf; split <;> (try split) <;> (try split) <;> omega

theorem headB_len {op n : Int} {s : ByteArray} {len : Nat} (h : headB op n s len = true) : kidsOf op = len := by
  unfold headB at h
  exact (of_decide_eq_true h).1

theorem two_of {ks : List Tm} (h : ks.length = 2) : ∃ x y, ks = [x, y] := by
  match ks, h with
  | [x, y], _ => exact ⟨x, y, rfl⟩

theorem shareB_not {op : Int} (ks : List Tm) (h : op ≠ 5) : shareB op ks = true := by
  unfold shareB
  split
  · simp [h]
  · rfl

theorem ri_step (t : Tm) (h : ∀ x ∈ t.kids, RiOk x) : RiOk t := by
  intro op n s a len cap w hl
  cases t with
  | node op' n' s' ks =>
    simp only [Lies, tmCells] at hl
    obtain ⟨a', cap', he, _, _, hk⟩ := hl
    simp only [List.cons.injEq, Value.int.injEq, Value.string.injEq, Value.slice.injEq, true_and, and_true] at he
    obtain ⟨rfl, rfl, rfl, rfl, rfl, rfl⟩ := he
    have hkids : ∀ x ∈ ks, RiOk x := h
    simp only [rightT]
    cases hh : headB op n s ks.length with
    | false =>
      rw [Bool.false_and, Bool.false_and]
      exact ri_bad op n s a ks.length cap w hh
    | true =>
      have hlen := headB_len hh
      by_cases h5 : op = 5
      · subst h5
        have h2 : ks.length = 2 := by
          have e : kidsOf 5 = 2 := by decide
          omega
        obtain ⟨x, y, rfl⟩ := two_of h2
        have hs : shareB 5 [x, y] = !beforeB y x := by simp [shareB]
        rw [Bool.true_and, hs]
        exact ri_share x y hkids n s a cap w hk hh
      · rw [shareB_not ks h5, Bool.true_and, Bool.true_and]
        exact ri_good ks hkids op n s a cap w hk hh (by have := kidsOf_le op; omega) (by simpa using h5)

theorem ri_any : ∀ (k : Nat) (t : Tm), t.size ≤ k → RiOk t
  | 0, t, h => by have := t.size_pos; omega
  | k + 1, t, h => ri_step t fun x hx => ri_any k x (by
      cases t with
      | node op n s ks =>
        have := Tm.size_mem (ks := ks) hx
        simp only [Tm.size] at h
        omega)

theorem ri_calls (t : Tm) : RiOk t := ri_any t.size t (Nat.le_refl _)

def okT (t : Tm) : Bool := decide (t.size ≤ 200) && rightT t

set_option maxHeartbeats 400000 in
theorem ok8 (t : Tm) (op n : Int) (s : ByteArray) (a : Option Addr) (len cap : Nat) (w : World) (hl : Lies w 0 t (tmCells op n s a len cap)) (hsz : t.size ≤ 2097152) :
    Calls Tryz.prog 114 #[.agg #[.int .i64 op, .int .i64 n, .string s, .slice a len cap]] w fun e w' => e = .returned (.bool (okT t)) ∧ Below w.heap.size w w' := by
  have h12 := ts_calls t
  have h19 := ri_calls t
  have HL : Hid (Lies (w.alloc (.cells #[.int .i64 op, .int .i64 n, .string s, .slice a len cap] 29)) 0 t (tmCells op n s a len cap)) := hl.below ((Below.refl _ _).alloc (Nat.le_refl _) _)
  have HB0 := hide (box_cell w #[.int .i64 op, .int .i64 n, .string s, .slice a len cap] 29 0 _ rfl)
  have HB1 := hide (box_cell w #[.int .i64 op, .int .i64 n, .string s, .slice a len cap] 29 1 _ rfl)
  have HB2 := hide (box_cell w #[.int .i64 op, .int .i64 n, .string s, .slice a len cap] 29 2 _ rfl)
  have HB3 := hide (box_cell w #[.int .i64 op, .int .i64 n, .string s, .slice a len cap] 29 3 _ rfl)
  clear hl
  have HSZ := hide hsz
  by_cases hz : t.size ≤ 200
  · have HE : Hid (okT t = rightT t) := by show _ = _; unfold okT; simp [hz]
    have hz' : (t.size : Int) ≤ 200 := by omega
    clear hsz hz
    go_enter Tryz.func114, Tryz.ntmps114
    go_wp2_with fail
    refine (h12 op n s a len cap _ (unhide HL) (unhide HSZ)).mono ?_
    rintro e w2 ⟨rfl, hb2⟩
    have c0 := keepc hb2 (unhide HB0)
    have c1 := keepc hb2 (unhide HB1)
    have c2 := keepc hb2 (unhide HB2)
    have c3 := keepc hb2 (unhide HB3)
    have HL2 := hide ((unhide HL).below hb2)
    have HW2 := hide (((Below.refl w.heap.size w).alloc (Nat.le_refl _) _).trans (hb2.mono (by simp)))
    clear hb2
    go_wp2_with fail
    refine (h19 op n s a len cap _ (unhide HL2)).mono ?_
    rintro e w3 ⟨rfl, hb3⟩
    go_wp2_with fail
    go_ret
    exact ⟨ret_bool (unhide HE).symm, (unhide HW2).trans (hb3.mono (unhide HW2).size)⟩
  · have HE : Hid (okT t = false) := by show _ = _; unfold okT; simp [hz]
    have hz' : decide ((t.size : Int) ≤ 200) = false := by simp only [decide_eq_false_iff_not]; omega
    clear hsz hz
    generalize okT t = rt at *
    go_enter Tryz.func114, Tryz.ntmps114
    go_wp2_with fail
    refine (h12 op n s a len cap _ (unhide HL) (unhide HSZ)).mono ?_
    rintro e w2 ⟨rfl, hb2⟩
    go_wp2_with fail
    go_ret
    exact ⟨ret_bool (unhide HE).symm, ((Below.refl w.heap.size w).alloc (Nat.le_refl _) _).trans (hb2.mono (by simp))⟩

end Go.Proofs.YtmklgikbajhcpaaGreatDoor
