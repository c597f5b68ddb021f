
/- The walk of laws.markText: the text of a mark; nothing that was there is written. -/
import Derived.Test.YtjckdepcgjfomaaDoorTx
import Derived.Test.YtjckdepcgjfomaaDoorEq
import Derived.Test.YtjckdepcgjfomaaDoorStk
import Derived.Lib.ItoaLen
import Derived.Lib.AppendIntMem
namespace Go.Proofs.YtjckdepcgjfomaaDoor
open Go.RowKit Go.Deep

/-- The text of the mark u, of one above 0. -/
def mtx (u : Nat) : ByteArray := ⟨(109 :: Lib.decDigits u).toArray⟩

theorem mtx_size {u : Nat} (h : (u : Int) ≤ 9223372036854775807) : (mtx u).size ≤ 22 := by
  have := Lib.itoa_length_le (u : Int) (by omega) h
  rw [Lib.itoa_nonneg] at this
  simp [mtx, ByteArray.size]
  exact this

set_option maxRecDepth 100000 in
set_option maxHeartbeats 1000000 in
theorem mark29 (u : Nat) (w : World) (h0 : u ≠ 0) (h1 : (u : Int) ≤ 9223372036854775807) :
    Calls Tryd.prog 28 #[.int .i64 (u : Int)] w fun e w' => e = .returned (.string (mtx u)) ∧ Below w.heap.size w w' := by
  have hcv := conv1
  have q1 : ¬ (u : Int) ≤ 0 := by omega
  have HLN : Hid ((Lib.decDigits u).length ≤ 21) := by
    have := Lib.itoa_length_le (u : Int) (by omega) h1
    rwa [Lib.itoa_nonneg] at this
  have HM : Hid (mtx u = ⟨(109 :: Lib.decDigits u).toArray⟩) := rfl
  generalize mtx u = M at *
  generalize hD : Lib.decDigits u = D at *
  have HD : Hid (upper u = D) := by show _ = _; rw [upper_pos h0, hD]
  clear hD
  go_enter Tryd.func28, Tryd.ntmps28
  go_wp2_with fail
  go_loopw [0, 3] (fun x o wr => ∃ (m : Nat) (l : List UInt8), x = .int .i64 m ∧ m ≤ u ∧ o = .string ⟨l.toArray⟩ ∧ upper m ++ l = D ∧ Below w.heap.size w wr) (fun x _ _ => (intOf x).toNat)
  case atStart => exact ⟨u, [], rfl, Nat.le_refl _, rfl, by rw [List.append_nil]; exact HD.out, Below.refl _ _⟩
  case round =>
    obtain ⟨m, l, rfl, hm, rfl, hl, hb⟩ := hrel
    have hll : l.length ≤ 21 := by have := HLN.out; rw [← hl, List.length_append] at this; omega
    have HE : Hid (upper m ++ l = D) := hl
    clear hl
    by_cases hz : m = 0
    · subst hz
      go_wp2_with fail
      go_ret
      have h := HE.out
      simp only [upper, if_true, List.nil_append] at h
      exact ⟨ret_str (by rw [HM.out, ← h]; apply Go.WideShapes.bytes_inj; simp), hb⟩
    · have hmp : (1 : Int) ≤ m := by omega
      have hmu : (m : Int) ≤ 9223372036854775807 := by omega
      go_wp2_with fail
      refine ⟨⟨m / 10, [48 + UInt8.ofNat (m % 10)] ++ l, by go_num, by omega, by rw [← cat_list], ?_, hb.alloc hb.size _⟩, by simp [intOf]; omega⟩
      rw [← List.append_assoc, ← upper_step hz]
      exact HE.out

end Go.Proofs.YtjckdepcgjfomaaDoor
