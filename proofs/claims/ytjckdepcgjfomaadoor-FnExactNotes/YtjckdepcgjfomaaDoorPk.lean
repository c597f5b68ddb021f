
/- Right policies as plain data, and the walks of spec.l1In, impl.inTime, spec.l6Domain, impl.domainOk, impl.modeWord, impl.mxOk. -/
import Derived.Test.YtjckdepcgjfomaaDoorHk
import Derived.Test.YtjckdepcgjfomaaDoorPl
namespace Go.Proofs.YtjckdepcgjfomaaDoor
open Go.RowKit Go.Deep

theorem inTime (n : Int) (w : World) : Calls Tryd.prog 42 #[.int .i64 n] w fun e w' => e = .returned (.bool (decide (0 ≤ n ∧ n ≤ 100000))) ∧ w' = w := by
  by_cases h1 : 0 ≤ n
  · by_cases h2 : n ≤ 100000
    · rw [show decide (0 ≤ n ∧ n ≤ 100000) = true from decide_eq_true ⟨h1, h2⟩]
      go_enter Tryd.func42, Tryd.ntmps42
      go_wp2_with fail
      go_ret
      exact ⟨retB (by simp), rfl⟩
    · rw [show decide (0 ≤ n ∧ n ≤ 100000) = false from decide_eq_false (by omega)]
      go_enter Tryd.func42, Tryd.ntmps42
      go_wp2_with fail
      go_ret
      exact ⟨retB (by simp), rfl⟩
  · rw [show decide (0 ≤ n ∧ n ≤ 100000) = false from decide_eq_false (by omega)]
    go_enter Tryd.func42, Tryd.ntmps42
    go_wp2_with fail
    go_ret
    exact ⟨rfl, rfl⟩

theorem inS (n lo hi : Int) (w : World) : Calls Tryd.prog 29 #[.int .i64 n, .int .i64 lo, .int .i64 hi] w fun e w' => e = .returned (.bool (decide (lo ≤ n ∧ n ≤ hi))) ∧ w' = w := by
  by_cases h1 : lo ≤ n
  · by_cases h2 : n ≤ hi
    · rw [show decide (lo ≤ n ∧ n ≤ hi) = true from decide_eq_true ⟨h1, h2⟩]
      go_enter Tryd.func29, Tryd.ntmps29
      go_wp2_with fail
      go_ret
      exact ⟨retB (by simp), rfl⟩
    · rw [show decide (lo ≤ n ∧ n ≤ hi) = false from decide_eq_false (by omega)]
      go_enter Tryd.func29, Tryd.ntmps29
      go_wp2_with fail
      go_ret
      exact ⟨retB (by simp), rfl⟩
  · rw [show decide (lo ≤ n ∧ n ≤ hi) = false from decide_eq_false (by omega)]
    go_enter Tryd.func29, Tryd.ntmps29
    go_wp2_with fail
    go_ret
    exact ⟨rfl, rfl⟩

/-- A domain. -/
def domByte (c : Nat) : Prop := 97 ≤ c ∧ c ≤ 122
def domP (s : ByteArray) : Prop := (1 ≤ s.size ∧ s.size ≤ 10) ∧ ∀ k, k < s.size → domByte (byteAt s k)
open Classical in
noncomputable def domB (s : ByteArray) : Bool := decide (domP s)
theorem domB_yes {s : ByteArray} (h : domP s) : domB s = true := by simp [domB, h]
theorem domB_no {s : ByteArray} (h : ¬ domP s) : domB s = false := by simp [domB, h]
theorem domB_iff {s : ByteArray} : domB s = true ↔ domP s := by simp [domB]

set_option maxRecDepth 100000 in
set_option maxHeartbeats 1000000 in
theorem domS (s : ByteArray) (w : World) (hs : s.size ≤ 2097152) :
    Calls Tryd.prog 30 #[.string s] w fun e w' => e = .returned (.bool (domB s)) ∧ w' = w := by
  have h28 := hide (fun v => inS (s.size : Int) 1 10 v)
  go_enter Tryd.func30, Tryd.ntmps30
  go_wp2_with fail
  go_loopw [3] (fun x w' => ∃ k : Nat, x = .int .i64 k ∧ w' = w ∧ k ≤ s.size ∧ ∀ j, j < k → domByte (byteAt s j)) (fun x _ => s.size - (intOf x).toNat)
  case atStart => exact ⟨0, rfl, rfl, by omega, fun j hj => by omega⟩
  case round =>
    obtain ⟨k, rfl, rfl, hk, hall⟩ := hrel
    by_cases hp : k < s.size
    · have c1 : (k : Int) < (s.size : Int) := by omega
      have c3 : (0 : Int) ≤ (k : Int) := by omega
      have w1 : wrap64 ((k : Int) + 1) = ((k + 1 : Nat) : Int) := by unfold wrap64; omega
      have hbt := byteAt_lt hp
      by_cases ha : domByte (byteAt s k)
      · have HM : Hid (∀ j, j < k + 1 → domByte (byteAt s j)) := fun j hj => by
          rcases Nat.lt_or_ge j k with h | h
          · exact hall j h
          · obtain rfl : j = k := by omega
            exact ha
        have q1 : ¬ ((s[k]'hp).toNat : Int) < 97 := by rw [hbt]; unfold domByte at ha; omega
        have q2 : ¬ (122 : Int) < ((s[k]'hp).toNat : Int) := by rw [hbt]; unfold domByte at ha; omega
        clear hall ha hbt
        go_wp2_with fail
        go_roundw
        case rel => exact ⟨k + 1, rfl, by simp, by omega, unhide HM⟩
        case measure => simp only [intOf]; omega
      · have HE := hide (domB_no (s := s) fun hh => ha (hh.2 k hp))
        by_cases q0 : byteAt s k < 97
        · have q1 : ((s[k]'hp).toNat : Int) < 97 := by rw [hbt]; omega
          clear hall ha hbt
          go_wp2_with fail
          go_ret
          exact ⟨retB (unhide HE), rfl⟩
        · have q1 : ¬ ((s[k]'hp).toNat : Int) < 97 := by rw [hbt]; omega
          have q2 : (122 : Int) < ((s[k]'hp).toNat : Int) := by rw [hbt]; unfold domByte at ha; omega
          clear hall ha hbt
          go_wp2_with fail
          go_ret
          exact ⟨retB (unhide HE), rfl⟩
    · have c1 : ¬ (k : Int) < (s.size : Int) := by omega
      have HE : Hid (domB s = decide ((1 : Int) ≤ (s.size : Int) ∧ (s.size : Int) ≤ 10)) := by
        show _ = _
        by_cases h1 : 1 ≤ s.size ∧ s.size ≤ 10
        · rw [domB_yes ⟨h1, fun j hj => hall j (by omega)⟩]; symm; simp; omega
        · rw [domB_no fun hh => h1 hh.1]; symm; simp; omega
      clear hall
      generalize decide ((1 : Int) ≤ (s.size : Int) ∧ (s.size : Int) ≤ 10) = D at *
      go_wp2_with fail
      refine (unhide h28 _).mono ?_
      rintro e w2 ⟨rfl, rfl⟩
      go_wp2_with fail
      go_ret
      exact ⟨retB (unhide HE), rfl⟩

set_option maxRecDepth 100000 in
set_option maxHeartbeats 1000000 in
theorem domI (s : ByteArray) (w : World) (hs : s.size ≤ 2097152) :
    Calls Tryd.prog 40 #[.string s] w fun e w' => e = .returned (.bool (domB s)) ∧ Below w.heap.size w w' := by
  by_cases h1 : s.size < 1
  · have c1 : (s.size : Int) < 1 := by omega
    have HE := hide (domB_no (s := s) fun hh => by have := hh.1.1; omega)
    go_enter Tryd.func40, Tryd.ntmps40
    go_wp2_with fail
    go_ret
    exact ⟨retB (unhide HE), Below.refl _ _⟩
  · have c1 : ¬ (s.size : Int) < 1 := by omega
    by_cases h2 : 10 < s.size
    · have c2 : (10 : Int) < (s.size : Int) := by omega
      have HE := hide (domB_no (s := s) fun hh => by have := hh.1.2; omega)
      go_enter Tryd.func40, Tryd.ntmps40
      go_wp2_with fail
      go_ret
      exact ⟨retB (unhide HE), Below.refl _ _⟩
    · have c2 : ¬ (10 : Int) < (s.size : Int) := by omega
      go_enter Tryd.func40, Tryd.ntmps40
      go_wp2_with fail
      go_loopw [4] (fun _ w' => ∃ pos : Nat, w' = w.iter s pos ∧ pos ≤ s.size ∧ ∀ k, k < pos → domByte (byteAt s k)) (fun _ w' => s.size - w'.iterPos w.heap.size)
      case atStart => exact ⟨0, rfl, by omega, fun k hk => by omega⟩
      case round =>
        obtain ⟨pos, rfl, hpos, hall⟩ := hrel
        by_cases hp : pos < s.size
        · have hnx : ∀ ty, (Instr.next (.pointer (some ⟨w.heap.size, 0, none⟩)) true ty).run Tryd.prog (w.iter s pos) = _ := fun ty => run_next_any w s pos ty hp
          by_cases hin : domByte (byteAt s pos)
          · have hlt : byteAt s pos < 128 := by unfold domByte at hin; omega
            rw [decode_byte hp hlt] at hnx
            have q1 : ¬ (byteAt s pos : Int) < 97 := by unfold domByte at hin; omega
            have q2 : ¬ (122 : Int) < (byteAt s pos : Int) := by unfold domByte at hin; omega
            go_wp2_with fail
            go_roundw
            case rel =>
              refine ⟨pos + 1, rfl, by omega, fun k hk => ?_⟩
              rcases Nat.lt_or_ge k pos with hk' | hk'
              · exact hall k hk'
              · obtain rfl : k = pos := by omega
                exact hin
            case measure =>
              simp
              omega
          · have hx : ¬ (97 ≤ (Utf8.decode s pos).1 ∧ (Utf8.decode s pos).1 ≤ 122) := by
              rcases Nat.lt_or_ge (byteAt s pos) 128 with hl | hl
              · rw [decode_byte hp hl]
                unfold domByte at hin
                exact hin
              · have := decode_not hp hl
                omega
            have HE := hide (domB_no (s := s) fun hh => hin (hh.2 pos hp))
            generalize (Utf8.decode s pos) = D at *
            by_cases q0 : D.1 < 97
            · have q1 : (D.1 : Int) < 97 := by omega
              clear hx hall
              go_wp2_with fail
              go_ret
              exact ⟨retB (unhide HE), iterBelow (Below.refl _ _)⟩
            · have q1 : ¬ (D.1 : Int) < 97 := by omega
              have q2 : (122 : Int) < (D.1 : Int) := by omega
              clear hx hall
              go_wp2_with fail
              go_ret
              exact ⟨retB (unhide HE), iterBelow (Below.refl _ _)⟩
        · have hnx : ∀ ty, (Instr.next (.pointer (some ⟨w.heap.size, 0, none⟩)) true ty).run Tryd.prog (w.iter s pos) = _ := fun ty => run_next_end w s pos ty hp
          go_wp2_with fail
          go_ret
          exact ⟨retB (domB_yes ⟨by omega, fun k hk => hall k (by omega)⟩), iterBelow (Below.refl _ _)⟩

/-- The word of a mode, and whether there is one. -/
def mdWord (m : Int) : ByteArray := if m = 0 then ⟨#[110, 111, 110, 101]⟩ else if m = 1 then ⟨#[116, 101, 115, 116]⟩ else if m = 2 then ⟨#[104, 111, 108, 100]⟩ else ⟨#[]⟩
/-- The patterns of a policy of that mode. -/
def mxP (l : List ByteArray) (m : Int) : Prop := (l.length ≤ 5 ∧ (m = 0 ∨ 0 < l.length)) ∧ ∀ t ∈ l, patP t
open Classical in
noncomputable def mxB (l : List ByteArray) (m : Int) : Bool := decide (mxP l m)
theorem mxB_yes {l : List ByteArray} {m : Int} (h : mxP l m) : mxB l m = true := by simp [mxB, h]
theorem mxB_no {l : List ByteArray} {m : Int} (h : ¬ mxP l m) : mxB l m = false := by simp [mxB, h]

end Go.Proofs.YtjckdepcgjfomaaDoor
