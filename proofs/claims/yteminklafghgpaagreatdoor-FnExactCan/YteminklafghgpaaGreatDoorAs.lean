
/- The walk of impl.allShaped: of whatever term lies in memory, of at most 2^21 within it, it answers whether it is right; nothing that was there is written. -/
import Derived.Test.YteminklafghgpaaGreatDoorSi
namespace Go.Proofs.YteminklafghgpaaGreatDoor
open Go.RowKit Go.Deep

/-- Are a term's own fields right, and of a share its kids' order? -/
def shB (op n : Int) (s : ByteArray) (ks : List Tm) : Bool := headB op n s ks.length && shareB op ks

set_option maxRecDepth 100000 in
theorem headB_atom (n : Int) (s : ByteArray) (len : Nat) : headB 1 n s len = atomB n s len := by
  unfold headB atomB
  have : kidsOf 1 = 0 := by decide
  rw [Bool.eq_iff_iff, decide_eq_true_iff, decide_eq_true_iff, this]
  omega
set_option maxRecDepth 100000 in
theorem headB_text (n : Int) (s : ByteArray) (len : Nat) : headB 2 n s len = textB n s len := by
  unfold headB textB
  have : kidsOf 2 = 0 := by decide
  rw [Bool.eq_iff_iff, decide_eq_true_iff, decide_eq_true_iff, this]
  omega
set_option maxRecDepth 100000 in
theorem headB_only {op : Int} (h1 : op ≠ 1) (h2 : op ≠ 2) (n : Int) (s : ByteArray) (len : Nat) : headB op n s len = onlyB n s len (kidsOf op) := by
  unfold headB onlyB
  rw [Bool.eq_iff_iff, decide_eq_true_iff, decide_eq_true_iff]
  omega
set_option maxRecDepth 100000 in
theorem headB_none {op : Int} (h : kidsOf op = -1) (n : Int) (s : ByteArray) (len : Nat) : headB op n s len = false := by
  unfold headB
  rw [h]
  simp only [decide_eq_false_iff_not]
  omega

def AsOk (t : Tm) : Prop := ∀ (op n : Int) (s : ByteArray) (a : Option Addr) (len cap : Nat) (w : World), Lies w 0 t (tmCells op n s a len cap) → t.size ≤ 2097152 →
  Calls Tryz.prog 33 #[.agg #[.int .i64 op, .int .i64 n, .string s, .slice a len cap]] w fun e w' => e = .returned (.bool (rightT t)) ∧ Below w.heap.size w w'

set_option maxRecDepth 100000 in
theorem meth49 (n : Int) (s : ByteArray) (a : Option Addr) (len cap : Nat) (w : World) : (method 294 79 (.agg #[.int .i64 1, .int .i64 n, .string s, .slice a len cap]) "loop.example/g00328/impl.shaped").run Tryz.prog w = .ok (110, .agg #[.int .i64 1, .int .i64 n, .string s, .slice a len cap]) w := by kernel_rfl

set_option maxRecDepth 100000 in
set_option maxHeartbeats 1000000 in
theorem as_no1 (n : Int) (s : ByteArray) (a : Option Addr) (len cap : Nat) (w : World) (hs : ∀ v : World, Below w.heap.size w v → Calls Tryz.prog 110 #[.agg #[.int .i64 1, .int .i64 n, .string s, .slice a len cap]] v fun e w' => e = .returned (.bool false) ∧ Below v.heap.size v w') :
    Calls Tryz.prog 33 #[.agg #[.int .i64 1, .int .i64 n, .string s, .slice a len cap]] w fun e w' => e = .returned (.bool false) ∧ Below w.heap.size w w' := by
  have HS := hide hs
  have hm := meth49 n s a len cap
  clear hs
  go_enter Tryz.func33, Tryz.ntmps33
  go_wp2_with fail
  refine (kind27_1 n s a len cap _).mono ?_
  rintro e w2 ⟨rfl, hb2⟩
  have HW2 := hide (((Below.refl w.heap.size w).alloc (Nat.le_refl _) _).trans (hb2.mono (by simp)))
  clear hb2
  go_wp2_with fail
  refine (unhide HS _ (unhide HW2)).mono ?_
  rintro e w3 ⟨rfl, hb3⟩
  go_wp2_with fail
  go_ret
  exact ⟨rfl, (unhide HW2).trans (hb3.mono (unhide HW2).size)⟩

set_option maxRecDepth 100000 in
theorem meth50 (n : Int) (s : ByteArray) (a : Option Addr) (len cap : Nat) (w : World) : (method 294 80 (.agg #[.int .i64 2, .int .i64 n, .string s, .slice a len cap]) "loop.example/g00328/impl.shaped").run Tryz.prog w = .ok (111, .agg #[.int .i64 2, .int .i64 n, .string s, .slice a len cap]) w := by kernel_rfl

set_option maxRecDepth 100000 in
set_option maxHeartbeats 1000000 in
theorem as_no2 (n : Int) (s : ByteArray) (a : Option Addr) (len cap : Nat) (w : World) (hs : ∀ v : World, Below w.heap.size w v → Calls Tryz.prog 111 #[.agg #[.int .i64 2, .int .i64 n, .string s, .slice a len cap]] v fun e w' => e = .returned (.bool false) ∧ Below v.heap.size v w') :
    Calls Tryz.prog 33 #[.agg #[.int .i64 2, .int .i64 n, .string s, .slice a len cap]] w fun e w' => e = .returned (.bool false) ∧ Below w.heap.size w w' := by
  have HS := hide hs
  have hm := meth50 n s a len cap
  clear hs
  go_enter Tryz.func33, Tryz.ntmps33
  go_wp2_with fail
  refine (kind27_2 n s a len cap _).mono ?_
  rintro e w2 ⟨rfl, hb2⟩
  have HW2 := hide (((Below.refl w.heap.size w).alloc (Nat.le_refl _) _).trans (hb2.mono (by simp)))
  clear hb2
  go_wp2_with fail
  refine (unhide HS _ (unhide HW2)).mono ?_
  rintro e w3 ⟨rfl, hb3⟩
  go_wp2_with fail
  go_ret
  exact ⟨rfl, (unhide HW2).trans (hb3.mono (unhide HW2).size)⟩

set_option maxRecDepth 100000 in
theorem meth51 (n : Int) (s : ByteArray) (a : Option Addr) (len cap : Nat) (w : World) : (method 294 81 (.agg #[.int .i64 3, .int .i64 n, .string s, .slice a len cap]) "loop.example/g00328/impl.shaped").run Tryz.prog w = .ok (112, .agg #[.int .i64 3, .int .i64 n, .string s, .slice a len cap]) w := by kernel_rfl

set_option maxRecDepth 100000 in
set_option maxHeartbeats 1000000 in
theorem as_no3 (n : Int) (s : ByteArray) (a : Option Addr) (len cap : Nat) (w : World) (hs : ∀ v : World, Below w.heap.size w v → Calls Tryz.prog 112 #[.agg #[.int .i64 3, .int .i64 n, .string s, .slice a len cap]] v fun e w' => e = .returned (.bool false) ∧ Below v.heap.size v w') :
    Calls Tryz.prog 33 #[.agg #[.int .i64 3, .int .i64 n, .string s, .slice a len cap]] w fun e w' => e = .returned (.bool false) ∧ Below w.heap.size w w' := by
  have HS := hide hs
  have hm := meth51 n s a len cap
  clear hs
  go_enter Tryz.func33, Tryz.ntmps33
  go_wp2_with fail
  refine (kind27_3 n s a len cap _).mono ?_
  rintro e w2 ⟨rfl, hb2⟩
  have HW2 := hide (((Below.refl w.heap.size w).alloc (Nat.le_refl _) _).trans (hb2.mono (by simp)))
  clear hb2
  go_wp2_with fail
  refine (unhide HS _ (unhide HW2)).mono ?_
  rintro e w3 ⟨rfl, hb3⟩
  go_wp2_with fail
  go_ret
  exact ⟨rfl, (unhide HW2).trans (hb3.mono (unhide HW2).size)⟩

set_option maxRecDepth 100000 in
theorem meth52 (n : Int) (s : ByteArray) (a : Option Addr) (len cap : Nat) (w : World) : (method 294 82 (.agg #[.int .i64 4, .int .i64 n, .string s, .slice a len cap]) "loop.example/g00328/impl.shaped").run Tryz.prog w = .ok (114, .agg #[.int .i64 4, .int .i64 n, .string s, .slice a len cap]) w := by kernel_rfl

set_option maxRecDepth 100000 in
set_option maxHeartbeats 1000000 in
theorem as_no4 (n : Int) (s : ByteArray) (a : Option Addr) (len cap : Nat) (w : World) (hs : ∀ v : World, Below w.heap.size w v → Calls Tryz.prog 114 #[.agg #[.int .i64 4, .int .i64 n, .string s, .slice a len cap]] v fun e w' => e = .returned (.bool false) ∧ Below v.heap.size v w') :
    Calls Tryz.prog 33 #[.agg #[.int .i64 4, .int .i64 n, .string s, .slice a len cap]] w fun e w' => e = .returned (.bool false) ∧ Below w.heap.size w w' := by
  have HS := hide hs
  have hm := meth52 n s a len cap
  clear hs
  go_enter Tryz.func33, Tryz.ntmps33
  go_wp2_with fail
  refine (kind27_4 n s a len cap _).mono ?_
  rintro e w2 ⟨rfl, hb2⟩
  have HW2 := hide (((Below.refl w.heap.size w).alloc (Nat.le_refl _) _).trans (hb2.mono (by simp)))
  clear hb2
  go_wp2_with fail
  refine (unhide HS _ (unhide HW2)).mono ?_
  rintro e w3 ⟨rfl, hb3⟩
  go_wp2_with fail
  go_ret
  exact ⟨rfl, (unhide HW2).trans (hb3.mono (unhide HW2).size)⟩

set_option maxRecDepth 100000 in
theorem meth53 (n : Int) (s : ByteArray) (a : Option Addr) (len cap : Nat) (w : World) : (method 294 83 (.agg #[.int .i64 5, .int .i64 n, .string s, .slice a len cap]) "loop.example/g00328/impl.shaped").run Tryz.prog w = .ok (115, .agg #[.int .i64 5, .int .i64 n, .string s, .slice a len cap]) w := by kernel_rfl

set_option maxRecDepth 100000 in
set_option maxHeartbeats 1000000 in
theorem as_no5 (n : Int) (s : ByteArray) (a : Option Addr) (len cap : Nat) (w : World) (hs : ∀ v : World, Below w.heap.size w v → Calls Tryz.prog 115 #[.agg #[.int .i64 5, .int .i64 n, .string s, .slice a len cap]] v fun e w' => e = .returned (.bool false) ∧ Below v.heap.size v w') :
    Calls Tryz.prog 33 #[.agg #[.int .i64 5, .int .i64 n, .string s, .slice a len cap]] w fun e w' => e = .returned (.bool false) ∧ Below w.heap.size w w' := by
  have HS := hide hs
  have hm := meth53 n s a len cap
  clear hs
  go_enter Tryz.func33, Tryz.ntmps33
  go_wp2_with fail
  refine (kind27_5 n s a len cap _).mono ?_
  rintro e w2 ⟨rfl, hb2⟩
  have HW2 := hide (((Below.refl w.heap.size w).alloc (Nat.le_refl _) _).trans (hb2.mono (by simp)))
  clear hb2
  go_wp2_with fail
  refine (unhide HS _ (unhide HW2)).mono ?_
  rintro e w3 ⟨rfl, hb3⟩
  go_wp2_with fail
  go_ret
  exact ⟨rfl, (unhide HW2).trans (hb3.mono (unhide HW2).size)⟩

set_option maxRecDepth 100000 in
theorem meth54 (n : Int) (s : ByteArray) (a : Option Addr) (len cap : Nat) (w : World) : (method 294 84 (.agg #[.int .i64 6, .int .i64 n, .string s, .slice a len cap]) "loop.example/g00328/impl.shaped").run Tryz.prog w = .ok (122, .agg #[.int .i64 6, .int .i64 n, .string s, .slice a len cap]) w := by kernel_rfl

set_option maxRecDepth 100000 in
set_option maxHeartbeats 1000000 in
theorem as_no6 (n : Int) (s : ByteArray) (a : Option Addr) (len cap : Nat) (w : World) (hs : ∀ v : World, Below w.heap.size w v → Calls Tryz.prog 122 #[.agg #[.int .i64 6, .int .i64 n, .string s, .slice a len cap]] v fun e w' => e = .returned (.bool false) ∧ Below v.heap.size v w') :
    Calls Tryz.prog 33 #[.agg #[.int .i64 6, .int .i64 n, .string s, .slice a len cap]] w fun e w' => e = .returned (.bool false) ∧ Below w.heap.size w w' := by
  have HS := hide hs
  have hm := meth54 n s a len cap
  clear hs
  go_enter Tryz.func33, Tryz.ntmps33
  go_wp2_with fail
  refine (kind27_6 n s a len cap _).mono ?_
  rintro e w2 ⟨rfl, hb2⟩
  have HW2 := hide (((Below.refl w.heap.size w).alloc (Nat.le_refl _) _).trans (hb2.mono (by simp)))
  clear hb2
  go_wp2_with fail
  refine (unhide HS _ (unhide HW2)).mono ?_
  rintro e w3 ⟨rfl, hb3⟩
  go_wp2_with fail
  go_ret
  exact ⟨rfl, (unhide HW2).trans (hb3.mono (unhide HW2).size)⟩

set_option maxRecDepth 100000 in
theorem meth55 (n : Int) (s : ByteArray) (a : Option Addr) (len cap : Nat) (w : World) : (method 294 85 (.agg #[.int .i64 7, .int .i64 n, .string s, .slice a len cap]) "loop.example/g00328/impl.shaped").run Tryz.prog w = .ok (123, .agg #[.int .i64 7, .int .i64 n, .string s, .slice a len cap]) w := by kernel_rfl

set_option maxRecDepth 100000 in
set_option maxHeartbeats 1000000 in
theorem as_no7 (n : Int) (s : ByteArray) (a : Option Addr) (len cap : Nat) (w : World) (hs : ∀ v : World, Below w.heap.size w v → Calls Tryz.prog 123 #[.agg #[.int .i64 7, .int .i64 n, .string s, .slice a len cap]] v fun e w' => e = .returned (.bool false) ∧ Below v.heap.size v w') :
    Calls Tryz.prog 33 #[.agg #[.int .i64 7, .int .i64 n, .string s, .slice a len cap]] w fun e w' => e = .returned (.bool false) ∧ Below w.heap.size w w' := by
  have HS := hide hs
  have hm := meth55 n s a len cap
  clear hs
  go_enter Tryz.func33, Tryz.ntmps33
  go_wp2_with fail
  refine (kind27_7 n s a len cap _).mono ?_
  rintro e w2 ⟨rfl, hb2⟩
  have HW2 := hide (((Below.refl w.heap.size w).alloc (Nat.le_refl _) _).trans (hb2.mono (by simp)))
  clear hb2
  go_wp2_with fail
  refine (unhide HS _ (unhide HW2)).mono ?_
  rintro e w3 ⟨rfl, hb3⟩
  go_wp2_with fail
  go_ret
  exact ⟨rfl, (unhide HW2).trans (hb3.mono (unhide HW2).size)⟩

set_option maxRecDepth 100000 in
theorem meth56 (n : Int) (s : ByteArray) (a : Option Addr) (len cap : Nat) (w : World) : (method 294 86 (.agg #[.int .i64 8, .int .i64 n, .string s, .slice a len cap]) "loop.example/g00328/impl.shaped").run Tryz.prog w = .ok (124, .agg #[.int .i64 8, .int .i64 n, .string s, .slice a len cap]) w := by kernel_rfl

set_option maxRecDepth 100000 in
set_option maxHeartbeats 1000000 in
theorem as_no8 (n : Int) (s : ByteArray) (a : Option Addr) (len cap : Nat) (w : World) (hs : ∀ v : World, Below w.heap.size w v → Calls Tryz.prog 124 #[.agg #[.int .i64 8, .int .i64 n, .string s, .slice a len cap]] v fun e w' => e = .returned (.bool false) ∧ Below v.heap.size v w') :
    Calls Tryz.prog 33 #[.agg #[.int .i64 8, .int .i64 n, .string s, .slice a len cap]] w fun e w' => e = .returned (.bool false) ∧ Below w.heap.size w w' := by
  have HS := hide hs
  have hm := meth56 n s a len cap
  clear hs
  go_enter Tryz.func33, Tryz.ntmps33
  go_wp2_with fail
  refine (kind27_8 n s a len cap _).mono ?_
  rintro e w2 ⟨rfl, hb2⟩
  have HW2 := hide (((Below.refl w.heap.size w).alloc (Nat.le_refl _) _).trans (hb2.mono (by simp)))
  clear hb2
  go_wp2_with fail
  refine (unhide HS _ (unhide HW2)).mono ?_
  rintro e w3 ⟨rfl, hb3⟩
  go_wp2_with fail
  go_ret
  exact ⟨rfl, (unhide HW2).trans (hb3.mono (unhide HW2).size)⟩

set_option maxRecDepth 100000 in
theorem meth57 (op n : Int) (s : ByteArray) (a : Option Addr) (len cap : Nat) (w : World) : (method 294 87 (.agg #[.int .i64 op, .int .i64 n, .string s, .slice a len cap]) "loop.example/g00328/impl.shaped").run Tryz.prog w = .ok (125, .agg #[.int .i64 op, .int .i64 n, .string s, .slice a len cap]) w := by kernel_rfl

set_option maxRecDepth 100000 in
set_option maxHeartbeats 1000000 in
theorem as_no0 (op n : Int) (s : ByteArray) (a : Option Addr) (len cap : Nat) (w : World) (q1 : (op == 1) = false) (q2 : (op == 2) = false) (q3 : (op == 3) = false) (q4 : (op == 4) = false) (q5 : (op == 5) = false) (q6 : (op == 6) = false) (q7 : (op == 7) = false) (q8 : (op == 8) = false) (hs : ∀ v : World, Below w.heap.size w v → Calls Tryz.prog 125 #[.agg #[.int .i64 op, .int .i64 n, .string s, .slice a len cap]] v fun e w' => e = .returned (.bool false) ∧ Below v.heap.size v w') :
    Calls Tryz.prog 33 #[.agg #[.int .i64 op, .int .i64 n, .string s, .slice a len cap]] w fun e w' => e = .returned (.bool false) ∧ Below w.heap.size w w' := by
  have HS := hide hs
  have hm := meth57 op n s a len cap
  clear hs
  go_enter Tryz.func33, Tryz.ntmps33
  go_wp2_with fail
  refine (kind27_0 op n s a len cap _ q1 q2 q3 q4 q5 q6 q7 q8).mono ?_
  rintro e w2 ⟨rfl, hb2⟩
  have HW2 := hide (((Below.refl w.heap.size w).alloc (Nat.le_refl _) _).trans (hb2.mono (by simp)))
  clear hb2
  go_wp2_with fail
  refine (unhide HS _ (unhide HW2)).mono ?_
  rintro e w3 ⟨rfl, hb3⟩
  go_wp2_with fail
  go_ret
  exact ⟨rfl, (unhide HW2).trans (hb3.mono (unhide HW2).size)⟩

end Go.Proofs.YteminklafghgpaaGreatDoor
