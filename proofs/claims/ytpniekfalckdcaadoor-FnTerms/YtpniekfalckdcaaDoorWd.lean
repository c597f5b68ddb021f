
/- The walk of impl.termWord: how the text of a term begins, and whether its kids follow; nothing that was there is written. -/
import Derived.Test.YtpniekfalckdcaaDoorKd
import Derived.Test.YtpniekfalckdcaaDoorUb
import Derived.Test.YtpniekfalckdcaaDoorShelf
namespace Go.Proofs.YtpniekfalckdcaaDoor
open Go.RowKit Go.Deep

theorem ret_tup {a b : ByteArray} {c : Bool} (h : a = b) : Ending.returned (.tuple #[.string a, .bool c]) = .returned (.tuple #[.string b, .bool c]) := by rw [h]

def Tab (w : World) : Prop := Lib.TabIs Tryd.prog w "internal/strconv.uint64pow10" .u64 Lib.pow10Tab
theorem Tab.on {w w' : World} (h : Tab w) (hb : Below w.heap.size w w') : Tab w' := Lib.tabBelow_of_tabIs h w' hb

theorem itoa46 (n : Int) (w : World) (h0 : -9223372036854775808 ≤ n) (h1 : n ≤ 9223372036854775807) (ht : Tab w) :
    Calls Tryd.prog 57 #[.int .i64 n] w fun e w' => e = .returned (.string ⟨(Lib.itoa n).toArray⟩) ∧ Below w.heap.size w w' :=
  (Tryd.strconv_Itoa n h0 h1 w ht).mono fun _ _ ⟨he, k, os, hw⟩ => ⟨he, by rw [hw]; exact Lib.below_grow _ w (Nat.le_refl _) k os⟩

theorem as73_73 (v : Value) (w : World) : (Instr.typeAssert (.iface 78 v) 74 78 true).run Tryd.prog w = .ok (.tuple #[v, .bool true]) w := by kernel_rfl
theorem as74_73 (v : Value) (w : World) : (Instr.typeAssert (.iface 79 v) 74 78 true).run Tryd.prog w = .ok (.tuple #[.agg #[.int .i64 0, .int .i64 0, .string ByteArray.empty, .slice none 0 0], .bool false]) w := by kernel_rfl
theorem as74_74 (v : Value) (w : World) : (Instr.typeAssert (.iface 79 v) 74 79 true).run Tryd.prog w = .ok (.tuple #[v, .bool true]) w := by kernel_rfl
theorem as75_73 (v : Value) (w : World) : (Instr.typeAssert (.iface 80 v) 74 78 true).run Tryd.prog w = .ok (.tuple #[.agg #[.int .i64 0, .int .i64 0, .string ByteArray.empty, .slice none 0 0], .bool false]) w := by kernel_rfl
theorem as75_74 (v : Value) (w : World) : (Instr.typeAssert (.iface 80 v) 74 79 true).run Tryd.prog w = .ok (.tuple #[.agg #[.int .i64 0, .int .i64 0, .string ByteArray.empty, .slice none 0 0], .bool false]) w := by kernel_rfl
theorem as75_75 (v : Value) (w : World) : (Instr.typeAssert (.iface 80 v) 74 80 true).run Tryd.prog w = .ok (.tuple #[v, .bool true]) w := by kernel_rfl
theorem as76_73 (v : Value) (w : World) : (Instr.typeAssert (.iface 81 v) 74 78 true).run Tryd.prog w = .ok (.tuple #[.agg #[.int .i64 0, .int .i64 0, .string ByteArray.empty, .slice none 0 0], .bool false]) w := by kernel_rfl
theorem as76_74 (v : Value) (w : World) : (Instr.typeAssert (.iface 81 v) 74 79 true).run Tryd.prog w = .ok (.tuple #[.agg #[.int .i64 0, .int .i64 0, .string ByteArray.empty, .slice none 0 0], .bool false]) w := by kernel_rfl
theorem as76_75 (v : Value) (w : World) : (Instr.typeAssert (.iface 81 v) 74 80 true).run Tryd.prog w = .ok (.tuple #[.agg #[.int .i64 0, .int .i64 0, .string ByteArray.empty, .slice none 0 0], .bool false]) w := by kernel_rfl
theorem as76_76 (v : Value) (w : World) : (Instr.typeAssert (.iface 81 v) 74 81 true).run Tryd.prog w = .ok (.tuple #[v, .bool true]) w := by kernel_rfl
theorem as77_73 (v : Value) (w : World) : (Instr.typeAssert (.iface 82 v) 74 78 true).run Tryd.prog w = .ok (.tuple #[.agg #[.int .i64 0, .int .i64 0, .string ByteArray.empty, .slice none 0 0], .bool false]) w := by kernel_rfl
theorem as77_74 (v : Value) (w : World) : (Instr.typeAssert (.iface 82 v) 74 79 true).run Tryd.prog w = .ok (.tuple #[.agg #[.int .i64 0, .int .i64 0, .string ByteArray.empty, .slice none 0 0], .bool false]) w := by kernel_rfl
theorem as77_75 (v : Value) (w : World) : (Instr.typeAssert (.iface 82 v) 74 80 true).run Tryd.prog w = .ok (.tuple #[.agg #[.int .i64 0, .int .i64 0, .string ByteArray.empty, .slice none 0 0], .bool false]) w := by kernel_rfl
theorem as77_76 (v : Value) (w : World) : (Instr.typeAssert (.iface 82 v) 74 81 true).run Tryd.prog w = .ok (.tuple #[.agg #[.int .i64 0, .int .i64 0, .string ByteArray.empty, .slice none 0 0], .bool false]) w := by kernel_rfl
theorem as77_77 (v : Value) (w : World) : (Instr.typeAssert (.iface 82 v) 74 82 true).run Tryd.prog w = .ok (.tuple #[v, .bool true]) w := by kernel_rfl
theorem as78_73 (v : Value) (w : World) : (Instr.typeAssert (.iface 83 v) 74 78 true).run Tryd.prog w = .ok (.tuple #[.agg #[.int .i64 0, .int .i64 0, .string ByteArray.empty, .slice none 0 0], .bool false]) w := by kernel_rfl
theorem as78_74 (v : Value) (w : World) : (Instr.typeAssert (.iface 83 v) 74 79 true).run Tryd.prog w = .ok (.tuple #[.agg #[.int .i64 0, .int .i64 0, .string ByteArray.empty, .slice none 0 0], .bool false]) w := by kernel_rfl
theorem as78_75 (v : Value) (w : World) : (Instr.typeAssert (.iface 83 v) 74 80 true).run Tryd.prog w = .ok (.tuple #[.agg #[.int .i64 0, .int .i64 0, .string ByteArray.empty, .slice none 0 0], .bool false]) w := by kernel_rfl
theorem as78_76 (v : Value) (w : World) : (Instr.typeAssert (.iface 83 v) 74 81 true).run Tryd.prog w = .ok (.tuple #[.agg #[.int .i64 0, .int .i64 0, .string ByteArray.empty, .slice none 0 0], .bool false]) w := by kernel_rfl
theorem as78_77 (v : Value) (w : World) : (Instr.typeAssert (.iface 83 v) 74 82 true).run Tryd.prog w = .ok (.tuple #[.agg #[.int .i64 0, .int .i64 0, .string ByteArray.empty, .slice none 0 0], .bool false]) w := by kernel_rfl
theorem as78_78 (v : Value) (w : World) : (Instr.typeAssert (.iface 83 v) 74 83 true).run Tryd.prog w = .ok (.tuple #[v, .bool true]) w := by kernel_rfl
theorem as79_73 (v : Value) (w : World) : (Instr.typeAssert (.iface 84 v) 74 78 true).run Tryd.prog w = .ok (.tuple #[.agg #[.int .i64 0, .int .i64 0, .string ByteArray.empty, .slice none 0 0], .bool false]) w := by kernel_rfl
theorem as79_74 (v : Value) (w : World) : (Instr.typeAssert (.iface 84 v) 74 79 true).run Tryd.prog w = .ok (.tuple #[.agg #[.int .i64 0, .int .i64 0, .string ByteArray.empty, .slice none 0 0], .bool false]) w := by kernel_rfl
theorem as79_75 (v : Value) (w : World) : (Instr.typeAssert (.iface 84 v) 74 80 true).run Tryd.prog w = .ok (.tuple #[.agg #[.int .i64 0, .int .i64 0, .string ByteArray.empty, .slice none 0 0], .bool false]) w := by kernel_rfl
theorem as79_76 (v : Value) (w : World) : (Instr.typeAssert (.iface 84 v) 74 81 true).run Tryd.prog w = .ok (.tuple #[.agg #[.int .i64 0, .int .i64 0, .string ByteArray.empty, .slice none 0 0], .bool false]) w := by kernel_rfl
theorem as79_77 (v : Value) (w : World) : (Instr.typeAssert (.iface 84 v) 74 82 true).run Tryd.prog w = .ok (.tuple #[.agg #[.int .i64 0, .int .i64 0, .string ByteArray.empty, .slice none 0 0], .bool false]) w := by kernel_rfl
theorem as79_78 (v : Value) (w : World) : (Instr.typeAssert (.iface 84 v) 74 83 true).run Tryd.prog w = .ok (.tuple #[.agg #[.int .i64 0, .int .i64 0, .string ByteArray.empty, .slice none 0 0], .bool false]) w := by kernel_rfl
theorem as79_79 (v : Value) (w : World) : (Instr.typeAssert (.iface 84 v) 74 84 true).run Tryd.prog w = .ok (.tuple #[v, .bool true]) w := by kernel_rfl
theorem as80_73 (v : Value) (w : World) : (Instr.typeAssert (.iface 85 v) 74 78 true).run Tryd.prog w = .ok (.tuple #[.agg #[.int .i64 0, .int .i64 0, .string ByteArray.empty, .slice none 0 0], .bool false]) w := by kernel_rfl
theorem as80_74 (v : Value) (w : World) : (Instr.typeAssert (.iface 85 v) 74 79 true).run Tryd.prog w = .ok (.tuple #[.agg #[.int .i64 0, .int .i64 0, .string ByteArray.empty, .slice none 0 0], .bool false]) w := by kernel_rfl
theorem as80_75 (v : Value) (w : World) : (Instr.typeAssert (.iface 85 v) 74 80 true).run Tryd.prog w = .ok (.tuple #[.agg #[.int .i64 0, .int .i64 0, .string ByteArray.empty, .slice none 0 0], .bool false]) w := by kernel_rfl
theorem as80_76 (v : Value) (w : World) : (Instr.typeAssert (.iface 85 v) 74 81 true).run Tryd.prog w = .ok (.tuple #[.agg #[.int .i64 0, .int .i64 0, .string ByteArray.empty, .slice none 0 0], .bool false]) w := by kernel_rfl
theorem as80_77 (v : Value) (w : World) : (Instr.typeAssert (.iface 85 v) 74 82 true).run Tryd.prog w = .ok (.tuple #[.agg #[.int .i64 0, .int .i64 0, .string ByteArray.empty, .slice none 0 0], .bool false]) w := by kernel_rfl
theorem as80_78 (v : Value) (w : World) : (Instr.typeAssert (.iface 85 v) 74 83 true).run Tryd.prog w = .ok (.tuple #[.agg #[.int .i64 0, .int .i64 0, .string ByteArray.empty, .slice none 0 0], .bool false]) w := by kernel_rfl
theorem as80_79 (v : Value) (w : World) : (Instr.typeAssert (.iface 85 v) 74 84 true).run Tryd.prog w = .ok (.tuple #[.agg #[.int .i64 0, .int .i64 0, .string ByteArray.empty, .slice none 0 0], .bool false]) w := by kernel_rfl
theorem as80_80 (v : Value) (w : World) : (Instr.typeAssert (.iface 85 v) 74 85 true).run Tryd.prog w = .ok (.tuple #[v, .bool true]) w := by kernel_rfl
theorem as90_73 (v : Value) (w : World) : (Instr.typeAssert (.iface 93 v) 74 78 true).run Tryd.prog w = .ok (.tuple #[.agg #[.int .i64 0, .int .i64 0, .string ByteArray.empty, .slice none 0 0], .bool false]) w := by kernel_rfl
theorem as90_74 (v : Value) (w : World) : (Instr.typeAssert (.iface 93 v) 74 79 true).run Tryd.prog w = .ok (.tuple #[.agg #[.int .i64 0, .int .i64 0, .string ByteArray.empty, .slice none 0 0], .bool false]) w := by kernel_rfl
theorem as90_75 (v : Value) (w : World) : (Instr.typeAssert (.iface 93 v) 74 80 true).run Tryd.prog w = .ok (.tuple #[.agg #[.int .i64 0, .int .i64 0, .string ByteArray.empty, .slice none 0 0], .bool false]) w := by kernel_rfl
theorem as90_76 (v : Value) (w : World) : (Instr.typeAssert (.iface 93 v) 74 81 true).run Tryd.prog w = .ok (.tuple #[.agg #[.int .i64 0, .int .i64 0, .string ByteArray.empty, .slice none 0 0], .bool false]) w := by kernel_rfl
theorem as90_77 (v : Value) (w : World) : (Instr.typeAssert (.iface 93 v) 74 82 true).run Tryd.prog w = .ok (.tuple #[.agg #[.int .i64 0, .int .i64 0, .string ByteArray.empty, .slice none 0 0], .bool false]) w := by kernel_rfl
theorem as90_78 (v : Value) (w : World) : (Instr.typeAssert (.iface 93 v) 74 83 true).run Tryd.prog w = .ok (.tuple #[.agg #[.int .i64 0, .int .i64 0, .string ByteArray.empty, .slice none 0 0], .bool false]) w := by kernel_rfl
theorem as90_79 (v : Value) (w : World) : (Instr.typeAssert (.iface 93 v) 74 84 true).run Tryd.prog w = .ok (.tuple #[.agg #[.int .i64 0, .int .i64 0, .string ByteArray.empty, .slice none 0 0], .bool false]) w := by kernel_rfl
theorem as90_80 (v : Value) (w : World) : (Instr.typeAssert (.iface 93 v) 74 85 true).run Tryd.prog w = .ok (.tuple #[.agg #[.int .i64 0, .int .i64 0, .string ByteArray.empty, .slice none 0 0], .bool false]) w := by kernel_rfl

set_option maxRecDepth 100000 in
set_option maxHeartbeats 1000000 in
theorem word3 (n : Int) (s : ByteArray) (a : Option Addr) (len cap : Nat) (w : World) :
    Calls Tryd.prog 37 #[.agg #[.int .i64 3, .int .i64 n, .string s, .slice a len cap]] w fun e w' => e = .returned (.tuple #[.string ⟨[112, 97, 105, 114].toArray⟩, .bool true]) ∧ Below w.heap.size w w' := by
  have t1 := as75_73
  have t2 := as75_74
  have t3 := as75_75
  go_enter Tryd.func37, Tryd.ntmps37
  go_wp2_with fail
  refine (kind27_3 n s a len cap _).mono ?_
  rintro e w2 ⟨rfl, hb2⟩
  have HB := hide (((Below.refl w.heap.size w).alloc (Nat.le_refl _) _).trans (hb2.mono (by simp)))
  clear hb2
  go_wp2_with fail
  go_ret2
  exact ⟨rfl, (unhide HB).alloc (unhide HB).size _⟩

set_option maxRecDepth 100000 in
set_option maxHeartbeats 1000000 in
theorem word4 (n : Int) (s : ByteArray) (a : Option Addr) (len cap : Nat) (w : World) :
    Calls Tryd.prog 37 #[.agg #[.int .i64 4, .int .i64 n, .string s, .slice a len cap]] w fun e w' => e = .returned (.tuple #[.string ⟨[112, 117, 98].toArray⟩, .bool true]) ∧ Below w.heap.size w w' := by
  have t1 := as76_73
  have t2 := as76_74
  have t3 := as76_75
  have t4 := as76_76
  go_enter Tryd.func37, Tryd.ntmps37
  go_wp2_with fail
  refine (kind27_4 n s a len cap _).mono ?_
  rintro e w2 ⟨rfl, hb2⟩
  have HB := hide (((Below.refl w.heap.size w).alloc (Nat.le_refl _) _).trans (hb2.mono (by simp)))
  clear hb2
  go_wp2_with fail
  go_ret2
  exact ⟨rfl, (unhide HB).alloc (unhide HB).size _⟩

set_option maxRecDepth 100000 in
set_option maxHeartbeats 1000000 in
theorem word5 (n : Int) (s : ByteArray) (a : Option Addr) (len cap : Nat) (w : World) :
    Calls Tryd.prog 37 #[.agg #[.int .i64 5, .int .i64 n, .string s, .slice a len cap]] w fun e w' => e = .returned (.tuple #[.string ⟨[115, 104, 97, 114, 101].toArray⟩, .bool true]) ∧ Below w.heap.size w w' := by
  have t1 := as77_73
  have t2 := as77_74
  have t3 := as77_75
  have t4 := as77_76
  have t5 := as77_77
  go_enter Tryd.func37, Tryd.ntmps37
  go_wp2_with fail
  refine (kind27_5 n s a len cap _).mono ?_
  rintro e w2 ⟨rfl, hb2⟩
  have HB := hide (((Below.refl w.heap.size w).alloc (Nat.le_refl _) _).trans (hb2.mono (by simp)))
  clear hb2
  go_wp2_with fail
  go_ret2
  exact ⟨rfl, (unhide HB).alloc (unhide HB).size _⟩

set_option maxRecDepth 100000 in
set_option maxHeartbeats 1000000 in
theorem word6 (n : Int) (s : ByteArray) (a : Option Addr) (len cap : Nat) (w : World) :
    Calls Tryd.prog 37 #[.agg #[.int .i64 6, .int .i64 n, .string s, .slice a len cap]] w fun e w' => e = .returned (.tuple #[.string ⟨[104, 97, 115, 104].toArray⟩, .bool true]) ∧ Below w.heap.size w w' := by
  have t1 := as78_73
  have t2 := as78_74
  have t3 := as78_75
  have t4 := as78_76
  have t5 := as78_77
  have t6 := as78_78
  go_enter Tryd.func37, Tryd.ntmps37
  go_wp2_with fail
  refine (kind27_6 n s a len cap _).mono ?_
  rintro e w2 ⟨rfl, hb2⟩
  have HB := hide (((Below.refl w.heap.size w).alloc (Nat.le_refl _) _).trans (hb2.mono (by simp)))
  clear hb2
  go_wp2_with fail
  go_ret2
  exact ⟨rfl, (unhide HB).alloc (unhide HB).size _⟩

set_option maxRecDepth 100000 in
set_option maxHeartbeats 1000000 in
theorem word7 (n : Int) (s : ByteArray) (a : Option Addr) (len cap : Nat) (w : World) :
    Calls Tryd.prog 37 #[.agg #[.int .i64 7, .int .i64 n, .string s, .slice a len cap]] w fun e w' => e = .returned (.tuple #[.string ⟨[115, 101, 97, 108].toArray⟩, .bool true]) ∧ Below w.heap.size w w' := by
  have t1 := as79_73
  have t2 := as79_74
  have t3 := as79_75
  have t4 := as79_76
  have t5 := as79_77
  have t6 := as79_78
  have t7 := as79_79
  go_enter Tryd.func37, Tryd.ntmps37
  go_wp2_with fail
  refine (kind27_7 n s a len cap _).mono ?_
  rintro e w2 ⟨rfl, hb2⟩
  have HB := hide (((Below.refl w.heap.size w).alloc (Nat.le_refl _) _).trans (hb2.mono (by simp)))
  clear hb2
  go_wp2_with fail
  go_ret2
  exact ⟨rfl, (unhide HB).alloc (unhide HB).size _⟩

set_option maxRecDepth 100000 in
set_option maxHeartbeats 1000000 in
theorem word8 (n : Int) (s : ByteArray) (a : Option Addr) (len cap : Nat) (w : World) :
    Calls Tryd.prog 37 #[.agg #[.int .i64 8, .int .i64 n, .string s, .slice a len cap]] w fun e w' => e = .returned (.tuple #[.string ⟨[115, 105, 103, 110].toArray⟩, .bool true]) ∧ Below w.heap.size w w' := by
  have t1 := as80_73
  have t2 := as80_74
  have t3 := as80_75
  have t4 := as80_76
  have t5 := as80_77
  have t6 := as80_78
  have t7 := as80_79
  have t8 := as80_80
  go_enter Tryd.func37, Tryd.ntmps37
  go_wp2_with fail
  refine (kind27_8 n s a len cap _).mono ?_
  rintro e w2 ⟨rfl, hb2⟩
  have HB := hide (((Below.refl w.heap.size w).alloc (Nat.le_refl _) _).trans (hb2.mono (by simp)))
  clear hb2
  go_wp2_with fail
  go_ret2
  exact ⟨rfl, (unhide HB).alloc (unhide HB).size _⟩

set_option maxRecDepth 100000 in
set_option maxHeartbeats 1000000 in
theorem word2 (n : Int) (s : ByteArray) (a : Option Addr) (len cap : Nat) (w : World) (hs : s.size ≤ 67108864) :
    Calls Tryd.prog 37 #[.agg #[.int .i64 2, .int .i64 n, .string s, .slice a len cap]] w fun e w' => e = .returned (.tuple #[.string ⟨(60 :: (s.data.toList ++ [62])).toArray⟩, .bool false]) ∧ Below w.heap.size w w' := by
  have t1 := as74_73
  have t2 := as74_74
  go_enter Tryd.func37, Tryd.ntmps37
  go_wp2_with fail
  refine (kind27_2 n s a len cap _).mono ?_
  rintro e w2 ⟨rfl, hb2⟩
  have HB := hide (((Below.refl w.heap.size w).alloc (Nat.le_refl _) _).trans (hb2.mono (by simp)))
  clear hb2
  go_wp2_with fail
  go_ret2
  exact ⟨ret_tup (by apply Go.WideShapes.bytes_inj; simp), (unhide HB).alloc (unhide HB).size _⟩

set_option maxRecDepth 100000 in
set_option maxHeartbeats 1000000 in
theorem word1 (n : Int) (s : ByteArray) (a : Option Addr) (len cap : Nat) (w : World) (h0 : -9223372036854775808 ≤ n) (h1 : n ≤ 9223372036854775807) (ht : Tab w) :
    Calls Tryd.prog 37 #[.agg #[.int .i64 1, .int .i64 n, .string s, .slice a len cap]] w fun e w' => e = .returned (.tuple #[.string ⟨(Lib.itoa n).toArray⟩, .bool false]) ∧ Below w.heap.size w w' := by
  have t1 := as73_73
  have HI := hide (itoa46 n)
  have HT := hide ht
  clear ht
  go_enter Tryd.func37, Tryd.ntmps37
  go_wp2_with fail
  refine (kind27_1 n s a len cap _).mono ?_
  rintro e w2 ⟨rfl, hb2⟩
  have HB := hide (((Below.refl w.heap.size w).alloc (Nat.le_refl _) _).trans (hb2.mono (by simp)))
  clear hb2
  go_wp2_with fail
  refine (unhide HI _ h0 h1 ((unhide HT).on ((unhide HB).alloc (unhide HB).size _))).mono ?_
  rintro e w3 ⟨rfl, hb3⟩
  go_wp2_with fail
  go_ret2
  exact ⟨rfl, ((unhide HB).alloc (unhide HB).size _).trans (hb3.mono (by have := (unhide HB).size; simp; omega))⟩

set_option maxRecDepth 100000 in
set_option maxHeartbeats 1000000 in
theorem word0 (op n : Int) (s : ByteArray) (a : Option Addr) (len cap : Nat) (w : World) (q1 : (op == 1) = false) (q2 : (op == 2) = false) (q3 : (op == 3) = false) (q4 : (op == 4) = false) (q5 : (op == 5) = false) (q6 : (op == 6) = false) (q7 : (op == 7) = false) (q8 : (op == 8) = false) :
    Calls Tryd.prog 37 #[.agg #[.int .i64 op, .int .i64 n, .string s, .slice a len cap]] w fun e w' => e = .returned (.tuple #[.string ⟨[63].toArray⟩, .bool false]) ∧ Below w.heap.size w w' := by
  have t1 := as90_73
  have t2 := as90_74
  have t3 := as90_75
  have t4 := as90_76
  have t5 := as90_77
  have t6 := as90_78
  have t7 := as90_79
  have t8 := as90_80
  have HK := hide (fun v => kind27_0 op n s a len cap v q1 q2 q3 q4 q5 q6 q7 q8)
  go_enter Tryd.func37, Tryd.ntmps37
  go_wp2_with fail
  refine (unhide HK _).mono ?_
  rintro e w2 ⟨rfl, hb2⟩
  have HB := hide (((Below.refl w.heap.size w).alloc (Nat.le_refl _) _).trans (hb2.mono (by simp)))
  clear hb2
  go_wp2_with fail
  go_ret2
  exact ⟨rfl, unhide HB⟩

end Go.Proofs.YtpniekfalckdcaaDoor
