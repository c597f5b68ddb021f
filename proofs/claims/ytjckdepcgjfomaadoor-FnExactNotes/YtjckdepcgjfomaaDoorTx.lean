
/- How a term reads, as plain functions; and the walk of spec.l1Digits. -/
import Derived.Test.YtjckdepcgjfomaaDoorEq
import Derived.Lib.ItoaLen
import Derived.Lib.AppendIntMem
namespace Go.Proofs.YtjckdepcgjfomaaDoor
open Go.RowKit Go.Deep

theorem conv1 (x : Int) (v : World) : (convert 49 9 (.slice (some ⟨v.heap.size, 0, none⟩) 1 1)).run Tryd.prog (v.alloc (.cells #[.int .u8 x] 5)) = .ok (.string ⟨[UInt8.ofNat x.toNat].toArray⟩) (v.alloc (.cells #[.int .u8 x] 5)) :=
  run_convert_bytes_arg _ 49 5 Tryd.underlying49 Tryd.underlying5 v.heap.size 0 1 1 [x] rfl (fun i hi => by
    obtain rfl : i = 0 := by omega
    exact box_cell v _ 5 0 _ rfl) 9 Tryd.underlying9

theorem cat_list (a b : List UInt8) : (⟨a.toArray⟩ ++ ⟨b.toArray⟩ : ByteArray) = ⟨(a ++ b).toArray⟩ := by
  apply Go.WideShapes.bytes_inj
  simp

/-- The digits ahead of those that are there. -/
def upper (m : Nat) : List UInt8 := if m = 0 then [] else Lib.decDigits m
theorem upper_step {m : Nat} (h : m ≠ 0) : upper m = upper (m / 10) ++ [48 + UInt8.ofNat (m % 10)] := by
  have e : (48 : UInt8) + UInt8.ofNat (m % 10) = UInt8.ofNat (48 + m % 10) := by rw [UInt8.ofNat_add]; rfl
  rw [e]
  unfold upper
  rw [if_neg h]
  by_cases hs : m < 10
  · rw [if_pos (by omega), Lib.decDigits_one hs, show m % 10 = m by omega]
    rfl
  · rw [if_neg (by omega), Lib.decDigits, dif_neg hs]

theorem ret_str {a b : ByteArray} (h : a = b) : Ending.returned (.string a) = .returned (.string b) := by rw [h]

theorem upper_pos {m : Nat} (h : m ≠ 0) : upper m = Lib.decDigits m := by unfold upper; rw [if_neg h]

set_option maxRecDepth 100000 in
set_option maxHeartbeats 1000000 in
theorem digits_pos (u : Nat) (w : World) (h0 : u ≠ 0) (h1 : (u : Int) ≤ 9223372036854775807) :
    Calls Tryd.prog 19 #[.int .i64 (u : Int)] w fun e w' => e = .returned (.string ⟨(Lib.decDigits u).toArray⟩) ∧ Below w.heap.size w w' := by
  have hcv := conv1
  have q0 : ((u : Int) == 0) = false := by simp; omega
  have q1 : decide ((u : Int) < 0) = false := by simp
  have HLN : Hid ((Lib.decDigits u).length ≤ 21) := by
    have := Lib.itoa_length_le (u : Int) (by omega) h1
    rwa [Lib.itoa_nonneg] at this
  have HU := Lib.decDigits u
  generalize hD : Lib.decDigits u = D at *
  have HD : Hid (upper u = D) := by show _ = _; rw [upper_pos h0, hD]
  clear hD HU
  go_enter Tryd.func19, Tryd.ntmps19
  go_wp2_with fail
  go_loopw [0, 4] (fun x o wr => ∃ (m : Nat) (l : List UInt8), x = .int .i64 m ∧ m ≤ u ∧ o = .string ⟨l.toArray⟩ ∧ upper m ++ l = D ∧ Below w.heap.size w wr) (fun x _ _ => (intOf x).toNat)
  case atStart => exact ⟨u, [], rfl, Nat.le_refl _, rfl, by rw [List.append_nil]; exact HD.out, Below.refl _ _⟩
  case round =>
    obtain ⟨m, l, rfl, hm, rfl, hl, hb⟩ := hrel
    have hll : l.length ≤ 21 := by have := HLN.out; rw [← hl, List.length_append] at this; omega
    have HE : Hid (upper m ++ l = D) := hl
    clear hl
    by_cases hz : m = 0
    · subst hz
      go_wp2_with fail
      go_ret
      have h := HE.out
      simp only [upper, if_true, List.nil_append] at h
      exact ⟨ret_str (by rw [← h]), hb⟩
    · have q2 : ((m : Int) != 0) = true := by rw [bne_iff_ne]; omega
      have hmp : (1 : Int) ≤ m := by omega
      have hmu : (m : Int) ≤ 9223372036854775807 := by omega
      go_wp2_with fail
      refine ⟨⟨m / 10, [48 + UInt8.ofNat (m % 10)] ++ l, by go_num, by omega, by rw [← cat_list], ?_, hb.alloc hb.size _⟩, by simp [intOf]; omega⟩
      rw [← List.append_assoc, ← upper_step hz]
      exact HE.out

set_option maxRecDepth 100000 in
set_option maxHeartbeats 1000000 in
theorem digits_neg (u : Nat) (w : World) (h0 : u ≠ 0) (h1 : (u : Int) ≤ 9223372036854775808) :
    Calls Tryd.prog 19 #[.int .i64 (-(u : Int))] w fun e w' => e = .returned (.string ⟨(45 :: Lib.decDigits u).toArray⟩) ∧ Below w.heap.size w w' := by
  have hcv := conv1
  have q0 : (-(u : Int) == 0) = false := by simp; omega
  have q1 : decide (-(u : Int) < 0) = true := by simp; omega
  have HLN : Hid ((Lib.decDigits u).length ≤ 21) := by
    have := Lib.itoa_length_le (-(u : Int)) (by omega) (by omega)
    rw [Lib.itoa_neg u (by omega), List.length_cons] at this
    show _ ≤ _
    omega
  generalize hD : Lib.decDigits u = D at *
  have HD : Hid (upper u = D) := by show _ = _; rw [upper_pos h0, hD]
  clear hD
  go_enter Tryd.func19, Tryd.ntmps19
  go_wp2_with fail
  go_loopw [0, 4] (fun x o wr => ∃ (m : Nat) (l : List UInt8), x = .int .i64 (-(m : Int)) ∧ m ≤ u ∧ o = .string ⟨l.toArray⟩ ∧ upper m ++ l = D ∧ Below w.heap.size w wr) (fun x _ _ => (intOf x).natAbs)
  case atStart => exact ⟨u, [], rfl, Nat.le_refl _, rfl, by rw [List.append_nil]; exact HD.out, Below.refl _ _⟩
  case round =>
    obtain ⟨m, l, rfl, hm, rfl, hl, hb⟩ := hrel
    have hll : l.length ≤ 21 := by have := HLN.out; rw [← hl, List.length_append] at this; omega
    have HE : Hid (upper m ++ l = D) := hl
    clear hl
    by_cases hz : m = 0
    · subst hz
      go_wp2_with fail
      go_ret
      have h := HE.out
      simp only [upper, if_true, List.nil_append] at h
      exact ⟨ret_str (by rw [← h]; exact cat_list [45] l), hb⟩
    · have q2 : (-(m : Int) != 0) = true := by rw [bne_iff_ne]; omega
      have hmp : -(m : Int) < 0 := by omega
      have hmu : -9223372036854775808 ≤ -(m : Int) := by omega
      have hs := upper_step hz
      have HS : Hid (upper m = upper (m / 10) ++ [48 + UInt8.ofNat (m % 10)]) := hs
      clear hs
      by_cases hd : m % 10 = 0
      · have hd' : (m : Int) % 10 = 0 := by omega
        go_wp2_with fail
        refine ⟨⟨m / 10, [48 + UInt8.ofNat (m % 10)] ++ l, by go_num, by omega, by rw [← cat_list, hd]; rfl, ?_, hb.alloc hb.size _⟩, by simp [intOf]; omega⟩
        rw [← List.append_assoc, ← HS.out]
        exact HE.out
      · have hd' : -((m : Int) % 10) < 0 := by omega
        go_wp2_with fail
        refine ⟨⟨m / 10, [48 + UInt8.ofNat (m % 10)] ++ l, by go_num, by omega, by rw [← cat_list], ?_, hb.alloc hb.size _⟩, by simp [intOf]; omega⟩
        rw [← List.append_assoc, ← HS.out]
        exact HE.out

theorem digits_any (n : Int) (w : World) (h0 : -9223372036854775808 ≤ n) (h1 : n ≤ 9223372036854775807) :
    Calls Tryd.prog 19 #[.int .i64 n] w fun e w' => e = .returned (.string ⟨(Lib.itoa n).toArray⟩) ∧ Below w.heap.size w w' := by
  rcases Int.lt_trichotomy n 0 with h | h | h
  · obtain ⟨u, rfl⟩ : ∃ u : Nat, n = -(u : Int) := ⟨n.natAbs, by omega⟩
    rw [Lib.itoa_neg u (by omega)]
    exact digits_neg u w (by omega) (by omega)
  · subst h
    go_enter Tryd.func19, Tryd.ntmps19
    go_wp2_with fail
    go_ret
    exact ⟨ret_str (by rw [show (0 : Int) = ((0 : Nat) : Int) from rfl, Lib.itoa_nonneg, Lib.decDigits_one (by omega)]; rfl), Below.refl _ _⟩
  · obtain ⟨u, rfl⟩ : ∃ u : Nat, n = (u : Int) := ⟨n.toNat, by omega⟩
    rw [Lib.itoa_nonneg u]
    exact digits_pos u w (by omega) h1

end Go.Proofs.YtjckdepcgjfomaaDoor
