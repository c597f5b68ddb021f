
/- The walks of laws.szTerm and laws.szTermS: whatever term lies in memory, and a room between 0 and 2^20, they answer the room that is left when the term's weight is taken, or -1; nothing that was there is written. -/
import Derived.Test.YteminklafghgpaaGreatDoorRows
import Derived.Test.YteminklafghgpaaGreatDoorTm
namespace Go.Proofs.YteminklafghgpaaGreatDoor
open Go.RowKit Go.Deep

def szv (left : Int) (wt : Nat) : Int := if (wt : Int) ≤ left then left - wt else -1

theorem szv_yes {left : Int} {wt : Nat} (h : (wt : Int) ≤ left) : szv left wt = left - wt := by unfold szv; rw [if_pos h]
theorem szv_no {left : Int} {wt : Nat} (h : left < (wt : Int)) : szv left wt = -1 := by unfold szv; rw [if_neg (by omega)]
theorem ret_int {k : IntKind} {a b : Int} (h : a = b) : Ending.returned (.int k a) = .returned (.int k b) := by rw [h]

def SzOk (t : Tm) : Prop := ∀ (op n : Int) (s : ByteArray) (a : Option Addr) (len cap : Nat) (left : Int) (w : World), Lies w 0 t (tmCells op n s a len cap) → 0 ≤ left → left ≤ 1048576 →
  Calls Tryz.prog 12 #[.agg #[.int .i64 op, .int .i64 n, .string s, .slice a len cap], .int .i64 left] w fun e w' => e = .returned (.int .i64 (szv left t.wt)) ∧ Below w.heap.size w w'

theorem bcell {W w1 : World} (hb : Below W.heap.size W w1) : (∀ b o, b < W.heap.size → w1.cell? ⟨b, o, none⟩ = W.cell? ⟨b, o, none⟩) ∧ (∀ b o, b < W.heap.size → w1.frozen? ⟨b, o, none⟩ = W.frozen? ⟨b, o, none⟩) :=
  ⟨fun b o h => hb.cell (p := ⟨b, o, none⟩) h, fun b o h => hb.frozen (p := ⟨b, o, none⟩) h⟩

set_option maxHeartbeats 400000 in
theorem szS_any (ks : List Tm) (hks : ∀ t ∈ ks, SzOk t) (a : Option Addr) (cap : Nat) (left : Int) (w : World) (hl : LiesAll w 0 a 0 ks) (hm : ks.length ≤ maxLen) (h0 : 0 ≤ left) (h1 : left ≤ 1048576) :
    Calls Tryz.prog 5 #[.slice a ks.length cap, .int .i64 left] w fun e w' => e = .returned (.int .i64 (szv left (ks.length + Tm.wts ks))) ∧ Below w.heap.size w w' := by
  unfold maxLen at hm
  generalize hlen : ks.length = len at *
  have HL : Hid (ks.length = len) := hlen
  clear hlen
  by_cases hlt : left - len < 0
  · go_enter Tryz.func5, Tryz.ntmps5
    go_wp2_with fail
    go_ret
    exact ⟨ret_int (by rw [szv_no (by omega)]), Below.refl _ _⟩
  · have hge : 0 ≤ left - len := by omega
    go_enter Tryz.func5, Tryz.ntmps5
    go_wp2_with fail
    go_loopw [1, 5] (fun l i wr => ∃ k : Nat, k ≤ len ∧ i = .int .i64 k ∧ (len : Int) + (Tm.wts (ks.take k) : Int) ≤ left ∧ l = .int .i64 (left - len - (Tm.wts (ks.take k) : Int)) ∧ Below w.heap.size w wr) (fun _ i _ => len - (intOf i).toNat)
    case atStart => exact ⟨0, Nat.zero_le _, rfl, by simp [Tm.wts]; omega, by simp [Tm.wts], Below.refl _ _⟩
    case round =>
      obtain ⟨k, hk, rfl, hle, rfl, hb⟩ := hrel
      by_cases hkl : k < len
      · have hkl' : k < ks.length := by have := HL.out; omega
        obtain ⟨b, o, op, n, s, a', len', cap', rfl, _, hbs, c0, c1, c2, c3, hT⟩ := hl.elem (k := k) hkl'
        have ht : ks.take (k + 1) = ks.take k ++ [ks[k]] := Tm.take_succ_get (by simp [hkl'])
        have hwt : Tm.wts (ks.take (k + 1)) = Tm.wts (ks.take k) + ks[k].wt := by rw [ht, Tm.wts_append]; simp [Tm.wts]
        have HW : Hid (Tm.wts (ks.take (k + 1)) = Tm.wts (ks.take k) + ks[k].wt) := hwt
        have HA : Hid (Tm.wts (ks.take (k + 1)) ≤ Tm.wts ks) := by
          have := Tm.wts_append (ks.take (k + 1)) (ks.drop (k + 1))
          rw [List.take_append_drop] at this
          show _ ≤ _
          omega
        clear ht hwt
        have c0' := (hb.cell (p := ⟨b, o + k * 4, none⟩) hbs).trans c0
        have c1' := (hb.cell (p := ⟨b, o + k * 4 + 1, none⟩) hbs).trans c1
        have c2' := (hb.cell (p := ⟨b, o + k * 4 + 2, none⟩) hbs).trans c2
        have c3' := (hb.cell (p := ⟨b, o + k * 4 + 3, none⟩) hbs).trans c3
        clear c0 c1 c2 c3
        have HT : Hid (Lies wr 0 ks[k] (tmCells op n s a' len' cap')) := hT.below hb
        have hct := hks ks[k] (List.getElem_mem hkl')
        generalize hwl : Tm.wts (ks.take k) = wl at *
        generalize hwk : Tm.wts (ks.take (k + 1)) = wk at *
        generalize hq : ks[k] = tk at *
        generalize hqw : tk.wt = qw at *
        have Hqw : Hid (tk.wt = qw) := hqw
        have Hwk : Hid (Tm.wts (ks.take (k + 1)) = wk) := hwk
        clear hwl hwk hq hqw hks hl hT
        by_cases hw : (qw : Int) ≤ left - len - wl
        · have hsv : 0 ≤ left - len - wl - qw := by omega
          go_wp2_with fail
          refine (hct op n s a' len' cap' _ _ HT.out (by omega) (by omega)).mono ?_
          rintro e w2 ⟨rfl, hb2⟩
          rw [Hqw.out, szv_yes hw]
          go_wp2_with fail
          go_roundw
          case rel => exact ⟨k + 1, by omega, by go_num, by rw [Hwk.out, HW.out]; omega, by rw [Hwk.out, HW.out]; go_num, hb.trans (hb2.mono hb.size)⟩
          case measure => simp [intOf]; omega
        · go_wp2_with fail
          refine (hct op n s a' len' cap' _ _ HT.out (by omega) (by omega)).mono ?_
          rintro e w2 ⟨rfl, hb2⟩
          rw [Hqw.out, szv_no (by omega)]
          go_wp2_with fail
          go_ret
          exact ⟨ret_int (by rw [szv_no (by have := HW.out; have := HA.out; omega)]), hb.trans (hb2.mono hb.size)⟩
      · go_wp2_with fail
        go_ret
        have hkk : k = len := by omega
        exact ⟨ret_int (by rw [List.take_of_length_le (by have := HL.out; omega)] at hle ⊢; rw [szv_yes (by omega)]; omega), hb⟩

theorem sz_step (t : Tm) (h : ∀ x ∈ t.kids, SzOk x) : SzOk t := by
  intro op n s a len cap left w hl h0 h1
  cases t with
  | node op' n' s' ks =>
    simp only [Lies, tmCells] at hl
    obtain ⟨a', cap', he, ⟨hs, hlc, hcm⟩, _, hk⟩ := hl
    simp only [List.cons.injEq, Value.int.injEq, Value.string.injEq, Value.slice.injEq, true_and, and_true] at he
    obtain ⟨rfl, rfl, rfl, rfl, rfl, rfl⟩ := he
    have hm : ks.length ≤ maxLen := by omega
    have hS := szS_any ks h
    have HW : Hid ((Tm.node op n s ks).wt = s.size + (ks.length + Tm.wts ks)) := by show _ = _; simp only [Tm.wt]
    generalize (Tm.node op n s ks).wt = wt at *
    generalize ks.length + Tm.wts ks = r at *
    clear h
    unfold maxLen at hs hcm
    by_cases hlt : left - s.size < 0
    · go_enter Tryz.func12, Tryz.ntmps12
      go_wp2_with fail
      go_ret
      exact ⟨ret_int (by rw [szv_no (by have := HW.out; omega)]), (Below.refl _ _).alloc (Nat.le_refl _) _⟩
    · have hge : 0 ≤ left - s.size := by omega
      go_enter Tryz.func12, Tryz.ntmps12
      go_wp2_with fail
      refine (hS a cap _ _ (hk.below ((Below.refl _ _).alloc (Nat.le_refl _) _)) hm (by omega) (by omega)).mono ?_
      rintro e w2 ⟨rfl, hb2⟩
      by_cases hw : (r : Int) ≤ left - s.size
      · rw [szv_yes hw]
        have hp : 0 ≤ left - s.size - r := by omega
        go_wp2_with fail
        go_ret
        exact ⟨ret_int (by rw [szv_yes (by have := HW.out; omega)]; have := HW.out; omega), ((Below.refl _ _).alloc (Nat.le_refl _) _).trans (hb2.mono (by simp))⟩
      · rw [szv_no (by omega)]
        go_wp2_with fail
        go_ret
        exact ⟨ret_int (by rw [szv_no (by have := HW.out; omega)]), ((Below.refl _ _).alloc (Nat.le_refl _) _).trans (hb2.mono (by simp))⟩

theorem sz_any : ∀ (k : Nat) (t : Tm), t.size ≤ k → SzOk t
  | 0, t, h => by have := t.size_pos; omega
  | k + 1, t, h => sz_step t fun x hx => sz_any k x (by
      cases t with
      | node op n s ks =>
        have := Tm.size_mem (ks := ks) hx
        simp only [Tm.size] at h
        omega)

theorem sz_calls (t : Tm) : SzOk t := sz_any t.size t (Nat.le_refl _)

end Go.Proofs.YteminklafghgpaaGreatDoor
