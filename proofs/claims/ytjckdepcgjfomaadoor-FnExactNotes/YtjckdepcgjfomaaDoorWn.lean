/- The walk of spec.l12Num: a number of at most seven bytes. -/
import Derived.Test.YtjckdepcgjfomaaDoorHa
import Derived.Test.YtjckdepcgjfomaaDoorWq
namespace Go.Proofs.YtjckdepcgjfomaaDoor
open Go.RowKit Go.Deep

/-- The number behind so many bytes. -/
def numP (s : ByteArray) (k : Nat) : Int := (s.data.toList.take k).foldl (fun (n : Int) b => 10 * n + (b.toNat : Int) - 48) 0
def numS (s : ByteArray) : Int := numL s.data.toList
theorem numP_zero (s : ByteArray) : numP s 0 = 0 := rfl
theorem numP_succ {s : ByteArray} {k : Nat} (h : k < s.size) : numP s (k + 1) = 10 * numP s k + (byteAt s k : Int) - 48 := by
  have hl : k < s.data.toList.length := by rw [len_size]; exact h
  unfold numP
  rw [List.take_succ_eq_append_getElem hl, List.foldl_append, ← byteAt_lt h]
  rfl
theorem numP_seven (s : ByteArray) : numP s 7 = numS s := rfl
theorem numP_all (s : ByteArray) (h : s.size ≤ 7) : numP s s.size = numS s := by
  unfold numP numS numL
  rw [← len_size s, List.take_length, List.take_of_length_le (by rw [len_size]; exact h)]
def bd : Nat → Int
  | 0 => 0
  | k + 1 => 10 * bd k + 255
theorem bd_seven : ∀ k, k ≤ 7 → 0 ≤ bd k ∧ bd k ≤ 283333305
  | 0, _ => by decide
  | 1, _ => by decide
  | 2, _ => by decide
  | 3, _ => by decide
  | 4, _ => by decide
  | 5, _ => by decide
  | 6, _ => by decide
  | 7, _ => by decide
  | k + 8, h => by omega
theorem numP_bound (s : ByteArray) : ∀ k, k ≤ s.size → -(bd k) ≤ numP s k ∧ numP s k ≤ bd k
  | 0, _ => by simp [numP_zero, bd]
  | k + 1, h => by
    have ih := numP_bound s k (by omega)
    have hb := byteAt_le s k
    rw [numP_succ (by omega), bd]
    omega
theorem num_facts {s : ByteArray} {k : Nat} (h : k < s.size) (h7 : k < 7) : (wrap64 (10 * numP s k) = 10 * numP s k ∧ wrap64 (10 * numP s k + (byteAt s k : Int)) = 10 * numP s k + (byteAt s k : Int) ∧ wrap64 (10 * numP s k + (byteAt s k : Int) - 48) = numP s (k + 1) ∧ wrap64 ((k : Int) + 1) = ((k + 1 : Nat) : Int) ∧ wrap64 (byteAt s k : Int) = (byteAt s k : Int)) := by
  have h1 := numP_bound s k (by omega)
  have h2 := bd_seven k (by omega)
  have hb := byteAt_le s k
  have e := numP_succ h
  unfold wrap64
  omega

set_option maxRecDepth 100000 in
set_option maxHeartbeats 1000000 in
theorem num24 (s : ByteArray) (w : World) (hs : s.size ≤ 2097152) :
    Calls Tryd.prog 24 #[.string s] w fun e w' => e = .returned (.int .i64 (numS s)) ∧ w' = w := by
  go_enter Tryd.func24, Tryd.ntmps24
  go_wp2_with fail
  go_loopw [3, 4] (fun n i w' => ∃ k : Nat, i = .int .i64 k ∧ n = .int .i64 (numP s k) ∧ w' = w ∧ k ≤ s.size ∧ k ≤ 7) (fun _ i _ => 7 - (intOf i).toNat)
  case atStart => exact ⟨0, rfl, rfl, rfl, by omega, by omega⟩
  case round =>
    obtain ⟨k, rfl, rfl, rfl, hk, h7⟩ := hrel
    by_cases hp : k < s.size
    · have c1 : (k : Int) < (s.size : Int) := by omega
      by_cases hq : k < 7
      · have c2 : (k : Int) < 7 := by omega
        obtain ⟨w1, w2, w3, w4, w5⟩ := num_facts hp hq
        have hb := byteAt_lt hp
        obtain ⟨n1, hn1⟩ : ∃ n1, n1 = numP s (k + 1) := ⟨_, rfl⟩
        rw [← hn1] at w3
        have HN := hide hn1
        clear hn1
        have HM := hide (show (7 - (((k + 1 : Nat) : Int)).toNat : Nat) < 7 - ((k : Int)).toNat by omega)
        generalize byteAt s k = b at *
        generalize numP s k = n at *
        go_wp2_with fail
        go_roundw
        case rel => exact ⟨k + 1, rfl, by rw [w3, unhide HN], (by first | rfl | trivial), by omega, by omega⟩
        case measure => exact unhide HM
      · have c2 : ¬ (k : Int) < 7 := by omega
        have hE := hide (show numP s k = numS s by rw [show k = 7 by omega]; rfl)
        go_wp2_with fail
        go_ret
        exact ⟨ret_int (unhide hE), rfl⟩
    · have c1 : ¬ (k : Int) < (s.size : Int) := by omega
      have hE := hide (show numP s k = numS s by rw [show k = s.size by omega]; exact numP_all s (by omega))
      go_wp2_with fail
      go_ret
      exact ⟨ret_int (unhide hE), rfl⟩

end Go.Proofs.YtjckdepcgjfomaaDoor
