
/- The walks of impl.inLabel and impl.labelOk: whether a text is a label; nothing that was there is written. -/
import Derived.Test.YtbbidjckplpaiaaGreatDoorHp
import Derived.Test.YtbbidjckplpaiaaGreatDoorStk
import Derived.Test.YtbbidjckplpaiaaGreatDoorProg
import Derived.LoopTactic
import Derived.WalkSpells
import Derived.Lib.OthersKept
namespace Go.Proofs.YtbbidjckplpaiaaGreatDoor
open Go.RowKit Go.Deep

theorem inLabel_yes (r : Int) (w : World) (h : (97 ≤ r ∧ r ≤ 122) ∨ (48 ≤ r ∧ r ≤ 57) ∨ r = 45) :
    Calls Tryz.prog 160 #[.int .i32 r] w fun e w' => e = .returned (.bool true) ∧ w' = w := by
  go_enter Tryz.func160, Tryz.ntmps160
  go_wp2
  all_goals go_ret
  all_goals first
    | (exfalso; omega)
    | (refine ⟨?_, rfl⟩; congr 2 <;> simp <;> omega)
theorem inLabel_no (r : Int) (w : World) (h : ¬ ((97 ≤ r ∧ r ≤ 122) ∨ (48 ≤ r ∧ r ≤ 57) ∨ r = 45)) :
    Calls Tryz.prog 160 #[.int .i32 r] w fun e w' => e = .returned (.bool false) ∧ w' = w := by
  go_enter Tryz.func160, Tryz.ntmps160
  go_wp2
  all_goals go_ret
  all_goals first
    | (exfalso; omega)
    | (refine ⟨?_, rfl⟩; congr 2 <;> simp <;> omega)


theorem retB {b c : Bool} (h : c = b) : Ending.returned (.bool b) = .returned (.bool c) := by rw [h]
theorem iterBelow {w v : World} {s : ByteArray} {pos : Nat} (h : Below w.heap.size w v) : Below w.heap.size w (v.iter s pos) := h.alloc h.size _
theorem width_pos (s : ByteArray) (pos : Nat) (h : pos < s.size) : 1 ≤ (Utf8.decode s pos).2 := by
  by_cases ha : (s[pos]'h).toNat < 128
  · rw [decode_ascii s pos h ha]
    exact Nat.le_refl _
  · exact (decode_high s pos h (by omega)).2
theorem decode_byte {s : ByteArray} {pos : Nat} (h : pos < s.size) (ha : byteAt s pos < 128) : Utf8.decode s pos = (byteAt s pos, 1) := by
  rw [← byteAt_lt h] at ha ⊢
  exact decode_ascii s pos h ha
theorem decode_not {s : ByteArray} {pos : Nat} (h : pos < s.size) (ha : 128 ≤ byteAt s pos) : 128 ≤ (Utf8.decode s pos).1 := by
  rw [← byteAt_lt h] at ha
  exact (decode_high s pos h ha).1

set_option maxRecDepth 100000 in
theorem labelOk_empty (s : ByteArray) (w : World) (hs : s.size = 0) :
    Calls Tryz.prog 148 #[.string s] w fun e w' => e = .returned (.bool false) ∧ Below w.heap.size w w' := by
  have hwr : wrap64 ((s.size : Int) - 1) = -1 := by unfold wrap64; omega
  go_enter Tryz.func148, Tryz.ntmps148
  go_wp2
  go_ret
  exact ⟨rfl, Below.refl _ _⟩

set_option maxRecDepth 100000 in
theorem labelOk_long (s : ByteArray) (w : World) (m : Nat) (hm : s.size = m + 1) (hs : s.size ≤ 2097152) (h : 10 ≤ m) :
    Calls Tryz.prog 148 #[.string s] w fun e w' => e = .returned (.bool false) ∧ Below w.heap.size w w' := by
  have hwr : wrap64 ((s.size : Int) - 1) = (m : Int) := by unfold wrap64; omega
  have h1 : ¬ ((m : Int) < 0) := by omega
  have h2 : (10 : Int) ≤ (m : Int) := by omega
  go_enter Tryz.func148, Tryz.ntmps148
  go_wp2
  go_ret
  exact ⟨rfl, Below.refl _ _⟩

set_option maxRecDepth 100000 in
theorem labelOk_first (s : ByteArray) (w : World) (m : Nat) (hm : s.size = m + 1) (h : m < 10) (hb : byteAt s 0 = 45) :
    Calls Tryz.prog 148 #[.string s] w fun e w' => e = .returned (.bool false) ∧ Below w.heap.size w w' := by
  have hwr : wrap64 ((s.size : Int) - 1) = (m : Int) := by unfold wrap64; omega
  have h1 : ¬ ((m : Int) < 0) := by omega
  have h2 : ¬ (10 : Int) ≤ (m : Int) := by omega
  have h3 : 0 < s.size := by omega
  have h4 : (((s[0]'h3).toNat : Int) == 45) = true := by rw [byteAt_lt h3, hb]; rfl
  go_enter Tryz.func148, Tryz.ntmps148
  go_wp2
  go_ret
  exact ⟨rfl, Below.refl _ _⟩

set_option maxRecDepth 100000 in
theorem labelOk_last (s : ByteArray) (w : World) (m : Nat) (hm : s.size = m + 1) (h : m < 10) (ha : byteAt s 0 ≠ 45) (hb : byteAt s m = 45) :
    Calls Tryz.prog 148 #[.string s] w fun e w' => e = .returned (.bool false) ∧ Below w.heap.size w w' := by
  have hwr : wrap64 ((s.size : Int) - 1) = (m : Int) := by unfold wrap64; omega
  have h1 : ¬ ((m : Int) < 0) := by omega
  have h2 : ¬ (10 : Int) ≤ (m : Int) := by omega
  have h3 : 0 < s.size := by omega
  have h4 : (((s[0]'h3).toNat : Int) == 45) = false := by rw [byteAt_lt h3]; simp; omega
  have h5 : m < s.size := by omega
  have h6 : (((s[m]'h5).toNat : Int) == 45) = true := by rw [byteAt_lt h5, hb]; rfl
  go_enter Tryz.func148, Tryz.ntmps148
  go_wp2
  go_ret
  exact ⟨rfl, Below.refl _ _⟩

set_option maxRecDepth 100000 in
theorem labelOk_loop (s : ByteArray) (w : World) (m : Nat) (hm : s.size = m + 1) (h : m < 10) (ha : byteAt s 0 ≠ 45) (hb : byteAt s m ≠ 45) :
    Calls Tryz.prog 148 #[.string s] w fun e w' => e = .returned (.bool (labB s)) ∧ Below w.heap.size w w' := by
  have hwr : wrap64 ((s.size : Int) - 1) = (m : Int) := by unfold wrap64; omega
  have h1 : ¬ ((m : Int) < 0) := by omega
  have h2 : ¬ (10 : Int) ≤ (m : Int) := by omega
  have h3 : 0 < s.size := by omega
  have h4 : (((s[0]'h3).toNat : Int) == 45) = false := by rw [byteAt_lt h3]; simp; omega
  have h5 : m < s.size := by omega
  have h6 : (((s[m]'h5).toNat : Int) == 45) = false := by rw [byteAt_lt h5]; simp; omega
  go_enter Tryz.func148, Tryz.ntmps148
  go_wp2
  go_loopw [5] (fun _ w' => ∃ pos : Nat, w' = w.iter s pos ∧ pos ≤ s.size ∧ ∀ k, k < pos → labByte (byteAt s k)) (fun _ w' => s.size - w'.iterPos w.heap.size)
  case atStart => exact ⟨0, rfl, by omega, fun k hk => by omega⟩
  case round =>
    obtain ⟨pos, rfl, hpos, hall⟩ := hrel
    by_cases hp : pos < s.size
    · have hnx : ∀ ty, (Instr.next (.pointer (some ⟨w.heap.size, 0, none⟩)) true ty).run Tryz.prog (w.iter s pos) = _ := fun ty => run_next_any w s pos ty hp
      by_cases hin : labByte (byteAt s pos)
      · have hlt : byteAt s pos < 128 := by unfold labByte at hin; omega
        rw [decode_byte hp hlt] at hnx
        have hc := fun v => inLabel_yes (byteAt s pos : Int) v (by unfold labByte at hin; omega)
        go_wp2_with fail
        refine (hc _).mono ?_
        rintro e w2 ⟨rfl, rfl⟩
        go_wp2
        go_roundw
        case rel =>
          refine ⟨pos + 1, rfl, by omega, fun k hk => ?_⟩
          rcases Nat.lt_or_ge k pos with hk' | hk'
          · exact hall k hk'
          · obtain rfl : k = pos := by omega
            exact hin
        case measure =>
          simp
          omega
      · have hc := fun v => inLabel_no ((Utf8.decode s pos).1 : Int) v (by
          rcases Nat.lt_or_ge (byteAt s pos) 128 with hl | hl
          · rw [decode_byte hp hl]
            unfold labByte at hin
            simp only
            omega
          · have := decode_not hp hl
            omega)
        go_wp2_with fail
        refine (hc _).mono ?_
        rintro e w2 ⟨rfl, rfl⟩
        go_wp2
        go_ret
        exact ⟨retB (labB_no (labP_bad hp hin)), iterBelow (Below.refl _ _)⟩
    · have hnx : ∀ ty, (Instr.next (.pointer (some ⟨w.heap.size, 0, none⟩)) true ty).run Tryz.prog (w.iter s pos) = _ := fun ty => run_next_end w s pos ty hp
      go_wp2
      go_ret
      exact ⟨retB (labB_yes (labP_mk (by omega) (by omega) ha (by rw [show s.size - 1 = m by omega]; exact hb) fun k hk => hall k (by omega))), iterBelow (Below.refl _ _)⟩

theorem labelOk_calls (s : ByteArray) (w : World) (hs : s.size ≤ 2097152) :
    Calls Tryz.prog 148 #[.string s] w fun e w' => e = .returned (.bool (labB s)) ∧ Below w.heap.size w w' := by
  rcases Nat.eq_zero_or_pos s.size with h0 | h0
  · rw [labB_no fun h => by have := h.1; omega]
    exact labelOk_empty s w h0
  · obtain ⟨m, hm⟩ : ∃ m, s.size = m + 1 := ⟨s.size - 1, by omega⟩
    rcases Nat.lt_or_ge m 10 with h1 | h1
    · by_cases ha : byteAt s 0 = 45
      · rw [labB_no (labP_first ha)]
        exact labelOk_first s w m hm h1 ha
      · by_cases hb : byteAt s m = 45
        · rw [labB_no (labP_last (by rw [show s.size - 1 = m by omega]; exact hb))]
          exact labelOk_last s w m hm h1 ha hb
        · exact labelOk_loop s w m hm h1 ha hb
    · rw [labB_no fun h => by have := h.2.1; omega]
      exact labelOk_long s w m hm hs h1


theorem iterPos_of {w : World} {k : Nat} {s : ByteArray} {pos : Nat} (h : w.heap[k]? = some (.stringIter s pos)) : w.iterPos k = pos := by simp [World.iterPos, h]
theorem iter_kept {w w2 : World} {k : Nat} {s : ByteArray} {pos pos' : Nat} (h : w.heap[k]? = some (.stringIter s pos)) (hb : Below (w.iterAt k s pos').heap.size (w.iterAt k s pos') w2) : w2.heap[k]? = some (.stringIter s pos') := by
  rw [hb.block k (by rw [Lib.iterAt_size]; exact (Array.getElem?_eq_some_iff.1 h).1)]
  exact Lib.iterAt_heap w k s pos pos' h


end Go.Proofs.YtbbidjckplpaiaaGreatDoor
