
/- The walks of laws.eqTerm and laws.eqTermS: of two that are one and the same term, wherever the two lie in memory, they answer true; nothing that was there is written. -/
import Derived.Test.YteminklafghgpaaGreatDoorTo
import Derived.Deep.RegionWith
namespace Go.Proofs.YteminklafghgpaaGreatDoor
open Go.RowKit Go.Deep

theorem below_alloc2 (w : World) (x y : Obj) : Below w.heap.size w ((w.alloc x).alloc y) :=
  ((Below.refl _ _).alloc (Nat.le_refl _) _).alloc (by simp) _

def EqOk (t : Tm) : Prop := ∀ (op n : Int) (s : ByteArray) (a : Option Addr) (len cap : Nat) (op' n' : Int) (s' : ByteArray) (a' : Option Addr) (len' cap' : Nat) (w : World), Lies w 0 t (tmCells op n s a len cap) → Lies w 0 t (tmCells op' n' s' a' len' cap') →
  Calls Tryz.prog 16 #[.agg #[.int .i64 op, .int .i64 n, .string s, .slice a len cap], .agg #[.int .i64 op', .int .i64 n', .string s', .slice a' len' cap']] w fun e w' => e = .returned (.bool true) ∧ Below w.heap.size w w'

set_option maxHeartbeats 400000 in
theorem eqS_any (ks : List Tm) (hks : ∀ t ∈ ks, EqOk t) (a a' : Option Addr) (cap cap' : Nat) (w : World) (hl : LiesAll w 0 a 0 ks) (hl' : LiesAll w 0 a' 0 ks) (hm : ks.length ≤ maxLen) :
    Calls Tryz.prog 9 #[.slice a ks.length cap, .slice a' ks.length cap'] w fun e w' => e = .returned (.bool true) ∧ Below w.heap.size w w' := by
  unfold maxLen at hm
  generalize hlen : ks.length = len at *
  have HL : Hid (ks.length = len) := hlen
  clear hlen
  have hne : ((len : Int) != (len : Int)) = false := by simp
  go_enter Tryz.func9, Tryz.ntmps9
  go_wp2_with fail
  go_loopw [5] (fun i wr => ∃ k : Nat, k ≤ len ∧ i = .int .i64 k ∧ Below w.heap.size w wr) (fun i _ => len - (intOf i).toNat)
  case atStart => exact ⟨0, Nat.zero_le _, rfl, Below.refl _ _⟩
  case round =>
    obtain ⟨k, hkl, rfl, hb⟩ := hrel
    by_cases hlt : k < len
    · have hlt' : k < ks.length := by have := HL.out; omega
      obtain ⟨b, o, op1, n1, s1, a1, len1, cap1, rfl, _, hbs, c0, c1, c2, c3, hT⟩ := hl.elem (k := k) hlt'
      obtain ⟨b', o', op2, n2, s2, a2, len2, cap2, rfl, _, hbs', d0, d1, d2, d3, hT'⟩ := hl'.elem (k := k) hlt'
      have c0' := (hb.cell (p := ⟨b, o + k * 4, none⟩) hbs).trans c0
      have c1' := (hb.cell (p := ⟨b, o + k * 4 + 1, none⟩) hbs).trans c1
      have c2' := (hb.cell (p := ⟨b, o + k * 4 + 2, none⟩) hbs).trans c2
      have c3' := (hb.cell (p := ⟨b, o + k * 4 + 3, none⟩) hbs).trans c3
      have d0' := (hb.cell (p := ⟨b', o' + k * 4, none⟩) hbs').trans d0
      have d1' := (hb.cell (p := ⟨b', o' + k * 4 + 1, none⟩) hbs').trans d1
      have d2' := (hb.cell (p := ⟨b', o' + k * 4 + 2, none⟩) hbs').trans d2
      have d3' := (hb.cell (p := ⟨b', o' + k * 4 + 3, none⟩) hbs').trans d3
      have HT : Hid (Lies wr.drew 0 ks[k] (tmCells op1 n1 s1 a1 len1 cap1)) := hT.below hb.drew
      have HT' : Hid (Lies wr.drew 0 ks[k] (tmCells op2 n2 s2 a2 len2 cap2)) := hT'.below hb.drew
      have hct := hks ks[k] (List.getElem_mem hlt')
      clear c0 c1 c2 c3 hT d0 d1 d2 d3 hT' hl hl' hks
      generalize ks[k] = tk at *
      go_wp2_with fail
      go_region_with (go_at_call 16; refine (hct op1 n1 s1 a1 len1 cap1 op2 n2 s2 a2 len2 cap2 _ HT.out HT'.out).mono ?_; rintro e w2 ⟨rfl, hb2⟩)
      all_goals
        go_wp2_with fail
        go_roundw
        case rel => exact ⟨k + 1, by omega, by go_num, hb.trans ((Below.drew (Below.refl _ _)).trans (hb2.mono (by have := hb.size; simpa using this)))⟩
        case measure => simp [intOf]; omega
    · go_wp2_with fail
      go_ret
      exact ⟨rfl, hb⟩

set_option maxHeartbeats 400000 in
theorem eq_step (t : Tm) (h : ∀ x ∈ t.kids, EqOk x) : EqOk t := by
  intro op n s a len cap op' n' s' a' len' cap' w hl hl'
  cases t with
  | node op1 n1 s1 ks =>
    simp only [Lies, tmCells] at hl hl'
    obtain ⟨a1, cap1, he, ⟨hs, hlc, hcm⟩, _, hk⟩ := hl
    simp only [List.cons.injEq, Value.int.injEq, Value.string.injEq, Value.slice.injEq, true_and, and_true] at he
    obtain ⟨rfl, rfl, rfl, rfl, rfl, rfl⟩ := he
    obtain ⟨a2, cap2, he, ⟨_, hlc', hcm'⟩, _, hk'⟩ := hl'
    simp only [List.cons.injEq, Value.int.injEq, Value.string.injEq, Value.slice.injEq, true_and, and_true] at he
    obtain ⟨rfl, rfl, rfl, rfl, rfl, rfl⟩ := he
    have hS := eqS_any ks h
    have HK : Hid (LiesAll w 0 a 0 ks) := hk
    have HK' : Hid (LiesAll w 0 a' 0 ks) := hk'
    have hm : ks.length ≤ maxLen := by omega
    have HM : Hid (ks.length ≤ maxLen) := hm
    clear h hk hk' hs hlc hcm hlc' hcm' hm
    have e1 : (op' != op') = false := by simp
    have e2 : (n' != n') = false := by simp
    go_enter Tryz.func16, Tryz.ntmps16
    go_wp2_with fail
    refine (hS a a' cap cap' _ (HK.out.below (below_alloc2 _ _ _)) (HK'.out.below (below_alloc2 _ _ _)) HM.out).mono ?_
    rintro e w2 ⟨rfl, hb2⟩
    go_wp2_with fail
    go_ret
    exact ⟨rfl, (below_alloc2 _ _ _).trans (hb2.mono (by simp; omega))⟩

theorem eq_any : ∀ (k : Nat) (t : Tm), t.size ≤ k → EqOk t
  | 0, t, h => by have := t.size_pos; omega
  | k + 1, t, h => eq_step t fun x hx => eq_any k x (by
      cases t with
      | node op n s ks =>
        have := Tm.size_mem (ks := ks) hx
        simp only [Tm.size] at h
        omega)

theorem eq_calls (t : Tm) : EqOk t := eq_any t.size t (Nat.le_refl _)

end Go.Proofs.YteminklafghgpaaGreatDoor
