
/- The walks of impl.inLabel and impl.labelOk: whether a text is a label; nothing that was there is written. -/
import Derived.Test.YtjckdepcgjfomaaDoorHp
import Derived.Test.YtjckdepcgjfomaaDoorStk
import Derived.Test.YtjckdepcgjfomaaDoorProg
import Derived.LoopTactic
import Derived.WalkSpells
import Derived.Lib.OthersKept
namespace Go.Proofs.YtjckdepcgjfomaaDoor
open Go.RowKit Go.Deep

theorem retB {b c : Bool} (h : c = b) : Ending.returned (.bool b) = .returned (.bool c) := by rw [h]
theorem iterBelow {w v : World} {s : ByteArray} {pos : Nat} (h : Below w.heap.size w v) : Below w.heap.size w (v.iter s pos) := h.alloc h.size _
theorem width_pos (s : ByteArray) (pos : Nat) (h : pos < s.size) : 1 ≤ (Utf8.decode s pos).2 := by
  by_cases ha : (s[pos]'h).toNat < 128
  · rw [decode_ascii s pos h ha]
    exact Nat.le_refl _
  · exact (decode_high s pos h (by omega)).2
theorem decode_byte {s : ByteArray} {pos : Nat} (h : pos < s.size) (ha : byteAt s pos < 128) : Utf8.decode s pos = (byteAt s pos, 1) := by
  rw [← byteAt_lt h] at ha ⊢
  exact decode_ascii s pos h ha
theorem decode_not {s : ByteArray} {pos : Nat} (h : pos < s.size) (ha : 128 ≤ byteAt s pos) : 128 ≤ (Utf8.decode s pos).1 := by
  rw [← byteAt_lt h] at ha
  exact (decode_high s pos h ha).1

theorem iterPos_of {w : World} {k : Nat} {s : ByteArray} {pos : Nat} (h : w.heap[k]? = some (.stringIter s pos)) : w.iterPos k = pos := by simp [World.iterPos, h]
theorem iter_kept {w w2 : World} {k : Nat} {s : ByteArray} {pos pos' : Nat} (h : w.heap[k]? = some (.stringIter s pos)) (hb : Below (w.iterAt k s pos').heap.size (w.iterAt k s pos') w2) : w2.heap[k]? = some (.stringIter s pos') := by
  rw [hb.block k (by rw [Lib.iterAt_size]; exact (Array.getElem?_eq_some_iff.1 h).1)]
  exact Lib.iterAt_heap w k s pos pos' h


end Go.Proofs.YtjckdepcgjfomaaDoor
