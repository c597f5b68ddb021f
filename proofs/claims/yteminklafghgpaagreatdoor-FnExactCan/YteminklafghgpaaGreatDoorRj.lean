
/- The walk of spec.l1Right where a term's own fields are right: its kids are asked, and of a share their order. -/
import Derived.Test.YteminklafghgpaaGreatDoorRi
namespace Go.Proofs.YteminklafghgpaaGreatDoor
open Go.RowKit Go.Deep

/-- The three ways in which a term's own fields are right. -/
def Ways (op n : Int) (s : ByteArray) : Prop :=
  ((op != 1) = false ∧ (op != 2) = true ∧ (s.toList == []) = true) ∨ ((op != 1) = true ∧ (n != 0) = false ∧ (op != 2) = false) ∨ ((op != 1) = true ∧ (n != 0) = false ∧ (op != 2) = true ∧ (s.toList == []) = true)

theorem ways {op n : Int} {s : ByteArray} {len : Nat} (h : headB op n s len = true) : (kidsOf op != (len : Int)) = false ∧ inB n 0 1000000 = true ∧ (s.size : Int) ≤ 300 ∧ Ways op n s := by
  unfold headB at h
  obtain ⟨h1, h2, h3, h4, h5⟩ := of_decide_eq_true h
  refine ⟨by simpa using h1, by unfold inB; simpa using h4, by omega, ?_⟩
  by_cases e1 : op = 1
  · left
    refine ⟨by simpa using e1, by rw [e1]; rfl, ?_⟩
    have : s.size = 0 := by omega
    simpa using empty_iff.1 this
  · have hn : n = 0 := by omega
    by_cases e2 : op = 2
    · right; left
      exact ⟨by simpa using e1, by simpa using hn, by simpa using e2⟩
    · right; right
      have : s.size = 0 := by omega
      exact ⟨by simpa using e1, by simpa using hn, by simpa using e2, by simpa using empty_iff.1 this⟩

theorem in26_yes (x lo hi : Int) (w : World) (h : inB x lo hi = true) : Calls Tryz.prog 43 #[.int .i64 x, .int .i64 lo, .int .i64 hi] w fun e w' => e = .returned (.bool true) ∧ w' = w := by
  have := in26 x lo hi w
  rwa [h] at this

set_option maxHeartbeats 4000000 in
theorem ri_good (ks : List Tm) (hkids : ∀ x ∈ ks, RiOk x) (op n : Int) (s : ByteArray) (a : Option Addr) (cap : Nat) (w : World) (hk : LiesAll w 0 a 0 ks) (hh : headB op n s ks.length = true) (hlb : ks.length ≤ 2) (h5 : (op != 5) = true) :
    Calls Tryz.prog 28 #[.agg #[.int .i64 op, .int .i64 n, .string s, .slice a ks.length cap]] w fun e w' => e = .returned (.bool (rightL ks)) ∧ Below w.heap.size w w' := by
  obtain ⟨q1, q2, q3, q4⟩ := ways hh
  have q8 : decide ((300 : Int) < (s.size : Int)) = false := by simp only [decide_eq_false_iff_not]; omega
  have HK := hide hk
  have HKI := hide hkids
  clear hk hh hkids
  have HRL : Hid (∀ k, rightL ks = rightL (ks.drop k) → ks.length ≤ k → rightL ks = true) := fun k e hl => by
    rw [e, List.drop_of_length_le hl]
    rfl
  generalize hlen : ks.length = len at *
  have HL := hide hlen
  clear hlen
  generalize hbb : rightL ks = bb at *
  have HBB := hide hbb
  clear hbb
  rcases q4 with ⟨q4, q5, q6⟩ | ⟨q4, q5, q6⟩ | ⟨q4, q5, q6, q7⟩
  all_goals
    go_enter Tryz.func28, Tryz.ntmps28
    go_wp2_with fail
    go_quiet (first
      | (go_at_call 42; exact Calls.quiet_of_same (kids25 _ _))
      | (go_at_call 43; exact Calls.quiet_of_same (in26_yes _ _ _ _ q2)))
    go_wp2_with fail
    go_loopw [3] (fun i wr => ∃ k : Nat, k ≤ len ∧ i = .int .i64 k ∧ bb = rightL (ks.drop k) ∧ Below (w.heap.size + 1) (w.alloc (.cells #[.int .i64 op, .int .i64 n, .string s, .slice a len cap] 35)) wr) (fun i _ => len - (intOf i).toNat)
    case atStart => exact ⟨0, Nat.zero_le _, rfl, by rw [List.drop_zero]; exact (unhide HBB).symm, below_drewN (Below.refl _ _) _⟩
    case round =>
      obtain ⟨k, hkl, rfl, hC, hb⟩ := hrel
      have b3 : wr.cell? ⟨w.heap.size, 3, none⟩ = some (.slice a len cap) := (hb.cell (p := ⟨w.heap.size, 3, none⟩) (by show w.heap.size < _; omega)).trans (box_cell _ _ _ 3 _ rfl)
      have b0 : wr.cell? ⟨w.heap.size, 0, none⟩ = some (.int .i64 op) := (hb.cell (p := ⟨w.heap.size, 0, none⟩) (by show w.heap.size < _; omega)).trans (box_cell _ _ _ 0 _ rfl)
      have hbw : Below w.heap.size w wr := ((Below.refl _ _).alloc (Nat.le_refl _) _).trans (hb.mono (by omega))
      have HC := hide hC
      have HB := hide hb
      clear hC hb
      by_cases hlt : k < len
      · have g1 : k < ks.length := by have := unhide HL; omega
        have HD := hide (rightL_drop g1)
        obtain ⟨b, o, y0, y1, y2, y3, y4, y5, rfl, _, _, c0, c1, c2, c3, hT⟩ := (unhide HK).elem (k := k) g1
        have c0 := keepc hbw c0
        have c1 := keepc hbw c1
        have c2 := keepc hbw c2
        have c3 := keepc hbw c3
        have HCT := hide (unhide HKI ks[k] (List.getElem_mem g1) y0 y1 y2 y3 y4 y5)
        have HT := hide (hT.below hbw)
        clear hT HK HKI
        generalize ks[k] = tk at *
        clear g1
        have hml : (k : Int) < (len : Int) := by omega
        cases hsv : rightT tk with
        | true =>
          rw [hsv] at HCT HD
          clear hsv
          go_wp2_with fail
          refine (unhide HCT _ (unhide HT)).mono ?_
          rintro e w2 ⟨rfl, hb2⟩
          go_wp2_with fail
          go_roundw
          case rel => exact ⟨k + 1, by omega, by go_num, by rw [unhide HC, unhide HD, Bool.true_and], (unhide HB).trans (hb2.mono (by have := (unhide HB).size; simp at this; omega))⟩
          case measure => simp [intOf]; omega
        | false =>
          rw [hsv] at HCT HD
          clear hsv
          go_wp2_with fail
          refine (unhide HCT _ (unhide HT)).mono ?_
          rintro e w2 ⟨rfl, hb2⟩
          go_wp2_with fail
          go_ret
          exact ⟨ret_bool (by rw [unhide HC, unhide HD, Bool.false_and]), hbw.trans (hb2.mono hbw.size)⟩
      · have HE : Hid (bb = true) := unhide HRL k (unhide HC) (by omega)
        go_wp2_with fail
        go_quiet (fail)
        go_wp2_with fail
        go_ret
        exact ⟨ret_bool (unhide HE).symm, below_drewN hbw _⟩

end Go.Proofs.YteminklafghgpaaGreatDoor
