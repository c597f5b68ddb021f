
/- How a term reads, as plain functions; and the walk of spec.l1Digits. -/
import Derived.Test.YtfbillhfbdconaaEq
import Derived.Lib.ItoaLen
import Derived.Lib.AppendIntMem
namespace Go.Proofs.Ytfbillhfbdconaa
open Go.RowKit Go.Deep

theorem conv1 (x : Int) (v : World) : (convert 56 9 (.slice (some ⟨v.heap.size, 0, none⟩) 1 1)).run Try.prog (v.alloc (.cells #[.int .u8 x] 5)) = .ok (.string ⟨[UInt8.ofNat x.toNat].toArray⟩) (v.alloc (.cells #[.int .u8 x] 5)) :=
  run_convert_bytes_arg _ 56 5 Try.underlying56 Try.underlying5 v.heap.size 0 1 1 [x] rfl (fun i hi => by
    obtain rfl : i = 0 := by omega
    exact box_cell v _ 5 0 _ rfl) 9 Try.underlying9

theorem cat_list (a b : List UInt8) : (⟨a.toArray⟩ ++ ⟨b.toArray⟩ : ByteArray) = ⟨(a ++ b).toArray⟩ := by
  apply Go.WideShapes.bytes_inj
  simp

/-- The digits ahead of those that are there. -/
def upper (m : Nat) : List UInt8 := if m = 0 then [] else Lib.decDigits m
theorem upper_step {m : Nat} (h : m ≠ 0) : upper m = upper (m / 10) ++ [48 + UInt8.ofNat (m % 10)] := by
  have e : (48 : UInt8) + UInt8.ofNat (m % 10) = UInt8.ofNat (48 + m % 10) := by rw [UInt8.ofNat_add]; rfl
  rw [e]
  unfold upper
  rw [if_neg h]
  by_cases hs : m < 10
  · rw [if_pos (by omega), Lib.decDigits_one hs, show m % 10 = m by omega]
    rfl
  · rw [if_neg (by omega), Lib.decDigits, dif_neg hs]

theorem ret_str {a b : ByteArray} (h : a = b) : Ending.returned (.string a) = .returned (.string b) := by rw [h]

theorem upper_pos {m : Nat} (h : m ≠ 0) : upper m = Lib.decDigits m := by unfold upper; rw [if_neg h]

end Go.Proofs.Ytfbillhfbdconaa
