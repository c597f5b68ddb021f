
/- The walk of laws.FnExactReply, given what both sides answer: it answers true; nothing that was there is written. -/
import Derived.Test.YtacmpodanebglaaGreatDoorR1y
import Derived.Test.YtacmpodanebglaaGreatDoorRz
import Derived.Test.YtacmpodanebglaaGreatDoorHz
import Derived.Deep.RegionHeld3
import Derived.Deep.DeepCutAuto
namespace Go.Proofs.YtacmpodanebglaaGreatDoor
open Go.RowKit Go.Deep

/-- What an order of the makings leaves: the box of an answer, and its flag. -/
def AnsCut (X : Tm) (B : Bool) (w2 : World) (p q : Value) (wx : World) : Prop := ∃ bW opW nW sW aW lenW capW, p = .pointer (some ⟨bW, 0, none⟩) ∧ q = .bool B ∧ RowT 28 wx bW opW nW sW aW lenW capW ∧ Lies wx 0 X (tmCells opW nW sW aW lenW capW) ∧ Below w2.heap.size w2 wx
theorem AnsCut.late {X : Tm} {B : Bool} {w2 w5 : World} {op n : Int} {s : ByteArray} {a : Option Addr} {len cap : Nat} (hb : Below w2.heap.size w2 w5) (hl : Lies w5 0 X (tmCells op n s a len cap)) : AnsCut X B w2 (.pointer (some ⟨w5.heap.size, 0, none⟩)) (.bool B) (w5.alloc (.cells #[.int .i64 op, .int .i64 n, .string s, .slice a len cap] 28)) :=
  ⟨_, _, _, _, _, _, _, rfl, rfl, RowT.new 28 w5 op n s a len cap, hl.below (ab _), bt hb (ab _) (Nat.le_refl _)⟩
theorem AnsCut.early {X : Tm} {B : Bool} {w2 w5 : World} {g : Nat} {op n : Int} {s : ByteArray} {a : Option Addr} {len cap : Nat} (hb : Below w2.heap.size w2 w5) (hz : ZBox w5 g) (hg : w2.heap.size ≤ g) (hl : Lies ((((w5.setCell ⟨g, 0, none⟩ (.int .i64 op)).setCell ⟨g, 1, none⟩ (.int .i64 n)).setCell ⟨g, 2, none⟩ (.string s)).setCell ⟨g, 3, none⟩ (.slice a len cap)) 0 X (tmCells op n s a len cap)) :
    AnsCut X B w2 (.pointer (some ⟨g, 0, none⟩)) (.bool B) ((((w5.setCell ⟨g, 0, none⟩ (.int .i64 op)).setCell ⟨g, 1, none⟩ (.int .i64 n)).setCell ⟨g, 2, none⟩ (.string s)).setCell ⟨g, 3, none⟩ (.slice a len cap)) :=
  ⟨_, _, _, _, _, _, _, rfl, rfl, fill26 hz op n s a len cap, hl, set4_below hb hg⟩

set_option maxRecDepth 100000 in
set_option maxHeartbeats 16000000 in
theorem lawReply0 (t0 t1 t2 t3 PT : Tm) (B : Bool) (x : Addr) (hPZ : PT.size ≤ 200)
    (hS0 : ∀ (op0 n0 : Int) (s0 : ByteArray) (a0 : Option Addr) (len0 cap0 : Nat) (op1 n1 : Int) (s1 : ByteArray) (a1 : Option Addr) (len1 cap1 : Nat) (op2 n2 : Int) (s2 : ByteArray) (a2 : Option Addr) (len2 cap2 : Nat) (op3 n3 : Int) (s3 : ByteArray) (a3 : Option Addr) (len3 cap3 : Nat) (w : World), Lies w 0 t0 (tmCells op0 n0 s0 a0 len0 cap0) → Lies w 0 t1 (tmCells op1 n1 s1 a1 len1 cap1) → Lies w 0 t2 (tmCells op2 n2 s2 a2 len2 cap2) → Lies w 0 t3 (tmCells op3 n3 s3 a3 len3 cap3) → t0.size + t1.size + t2.size + t3.size ≤ 1100000 → Calls Tryz.prog 6 #[.agg #[.int .i64 op0, .int .i64 n0, .string s0, .slice a0 len0 cap0], .agg #[.int .i64 op1, .int .i64 n1, .string s1, .slice a1 len1 cap1], .agg #[.int .i64 op2, .int .i64 n2, .string s2, .slice a2 len2 cap2], .agg #[.int .i64 op3, .int .i64 n3, .string s3, .slice a3 len3 cap3]] w fun e w' => ∃ opW nW sW aW lenW capW, e = .returned (.tuple #[.agg #[.int .i64 opW, .int .i64 nW, .string sW, .slice aW lenW capW], .bool B]) ∧ Lies w' w.heap.size PT (tmCells opW nW sW aW lenW capW) ∧ Below w.heap.size w w')
    (hI0 : ∀ (op0 n0 : Int) (s0 : ByteArray) (a0 : Option Addr) (len0 cap0 : Nat) (op1 n1 : Int) (s1 : ByteArray) (a1 : Option Addr) (len1 cap1 : Nat) (op2 n2 : Int) (s2 : ByteArray) (a2 : Option Addr) (len2 cap2 : Nat) (op3 n3 : Int) (s3 : ByteArray) (a3 : Option Addr) (len3 cap3 : Nat) (w : World), Lies w 0 t0 (tmCells op0 n0 s0 a0 len0 cap0) → Lies w 0 t1 (tmCells op1 n1 s1 a1 len1 cap1) → Lies w 0 t2 (tmCells op2 n2 s2 a2 len2 cap2) → Lies w 0 t3 (tmCells op3 n3 s3 a3 len3 cap3) → t0.size + t1.size + t2.size + t3.size ≤ 1100000 → ErrAt x w → Tab w → Calls Tryz.prog 8 #[.agg #[.int .i64 op0, .int .i64 n0, .string s0, .slice a0 len0 cap0], .agg #[.int .i64 op1, .int .i64 n1, .string s1, .slice a1 len1 cap1], .agg #[.int .i64 op2, .int .i64 n2, .string s2, .slice a2 len2 cap2], .agg #[.int .i64 op3, .int .i64 n3, .string s3, .slice a3 len3 cap3]] w fun e w' => ∃ opG nG sG aG lenG capG fp, e = .returned (.tuple #[.agg #[.int .i64 opG, .int .i64 nG, .string sG, .slice aG lenG capG], .bool B]) ∧ Own w' PT (tmCells opG nG sG aG lenG capG) fp ∧ (fp.Nodup ∧ ∀ y ∈ fp, w.heap.size ≤ y) ∧ Below w.heap.size w w')
    (op0 n0 : Int) (s0 : ByteArray) (a0 : Option Addr) (len0 cap0 : Nat) (op1 n1 : Int) (s1 : ByteArray) (a1 : Option Addr) (len1 cap1 : Nat) (op2 n2 : Int) (s2 : ByteArray) (a2 : Option Addr) (len2 cap2 : Nat) (op3 n3 : Int) (s3 : ByteArray) (a3 : Option Addr) (len3 cap3 : Nat) (w : World) (hl0 : Lies w 0 t0 (tmCells op0 n0 s0 a0 len0 cap0)) (hl1 : Lies w 0 t1 (tmCells op1 n1 s1 a1 len1 cap1)) (hl2 : Lies w 0 t2 (tmCells op2 n2 s2 a2 len2 cap2)) (hl3 : Lies w 0 t3 (tmCells op3 n3 s3 a3 len3 cap3)) (htab : Tab w) (herr : ErrAt x w) :
    Calls Tryz.prog 3 #[.agg #[.int .i64 op0, .int .i64 n0, .string s0, .slice a0 len0 cap0], .agg #[.int .i64 op1, .int .i64 n1, .string s1, .slice a1 len1 cap1], .agg #[.int .i64 op2, .int .i64 n2, .string s2, .slice a2 len2 cap2], .agg #[.int .i64 op3, .int .i64 n3, .string s3, .slice a3 len3 cap3]] w fun e w' => e = .returned (.bool true) ∧ Below w.heap.size w w' := by
  have hsz0 := hide (sz_calls t0)
  have hZ0 := t0.size_le
  have hsz1 := hide (sz_calls t1)
  have hZ1 := t1.size_le
  have hsz2 := hide (sz_calls t2)
  have hZ2 := t2.size_le
  have hsz3 := hide (sz_calls t3)
  have hZ3 := t3.size_le
  have heq := hide eq_calls
  have hB0 : Below w.heap.size w ((((w.alloc (.cells #[.int .i64 op0, .int .i64 n0, .string s0, .slice a0 len0 cap0] 24)).alloc (.cells #[.int .i64 op1, .int .i64 n1, .string s1, .slice a1 len1 cap1] 24)).alloc (.cells #[.int .i64 op2, .int .i64 n2, .string s2, .slice a2 len2 cap2] 24)).alloc (.cells #[.int .i64 op3, .int .i64 n3, .string s3, .slice a3 len3 cap3] 24)) := bt (bt (bt (ab _) (ab _) (Nat.le_refl _)) (ab _) (Nat.le_refl _)) (ab _) (Nat.le_refl _)
  have HA0 : Hid (RowT 24 ((((w.alloc (.cells #[.int .i64 op0, .int .i64 n0, .string s0, .slice a0 len0 cap0] 24)).alloc (.cells #[.int .i64 op1, .int .i64 n1, .string s1, .slice a1 len1 cap1] 24)).alloc (.cells #[.int .i64 op2, .int .i64 n2, .string s2, .slice a2 len2 cap2] 24)).alloc (.cells #[.int .i64 op3, .int .i64 n3, .string s3, .slice a3 len3 cap3] 24)) (w.heap.size) op0 n0 s0 a0 len0 cap0) := by
    have := ((((RowT.new 24 w op0 n0 s0 a0 len0 cap0).below (ab (.cells #[.int .i64 op1, .int .i64 n1, .string s1, .slice a1 len1 cap1] 24))).below (ab (.cells #[.int .i64 op2, .int .i64 n2, .string s2, .slice a2 len2 cap2] 24))).below (ab (.cells #[.int .i64 op3, .int .i64 n3, .string s3, .slice a3 len3 cap3] 24)))
    exact this
  have HA1 : Hid (RowT 24 ((((w.alloc (.cells #[.int .i64 op0, .int .i64 n0, .string s0, .slice a0 len0 cap0] 24)).alloc (.cells #[.int .i64 op1, .int .i64 n1, .string s1, .slice a1 len1 cap1] 24)).alloc (.cells #[.int .i64 op2, .int .i64 n2, .string s2, .slice a2 len2 cap2] 24)).alloc (.cells #[.int .i64 op3, .int .i64 n3, .string s3, .slice a3 len3 cap3] 24)) (w.heap.size + 1) op1 n1 s1 a1 len1 cap1) := by
    have := (((RowT.new 24 (w.alloc (.cells #[.int .i64 op0, .int .i64 n0, .string s0, .slice a0 len0 cap0] 24)) op1 n1 s1 a1 len1 cap1).below (ab (.cells #[.int .i64 op2, .int .i64 n2, .string s2, .slice a2 len2 cap2] 24))).below (ab (.cells #[.int .i64 op3, .int .i64 n3, .string s3, .slice a3 len3 cap3] 24)))
    rwa [heap_size_alloc] at this
  have HA2 : Hid (RowT 24 ((((w.alloc (.cells #[.int .i64 op0, .int .i64 n0, .string s0, .slice a0 len0 cap0] 24)).alloc (.cells #[.int .i64 op1, .int .i64 n1, .string s1, .slice a1 len1 cap1] 24)).alloc (.cells #[.int .i64 op2, .int .i64 n2, .string s2, .slice a2 len2 cap2] 24)).alloc (.cells #[.int .i64 op3, .int .i64 n3, .string s3, .slice a3 len3 cap3] 24)) (w.heap.size + 1 + 1) op2 n2 s2 a2 len2 cap2) := by
    have := ((RowT.new 24 ((w.alloc (.cells #[.int .i64 op0, .int .i64 n0, .string s0, .slice a0 len0 cap0] 24)).alloc (.cells #[.int .i64 op1, .int .i64 n1, .string s1, .slice a1 len1 cap1] 24)) op2 n2 s2 a2 len2 cap2).below (ab (.cells #[.int .i64 op3, .int .i64 n3, .string s3, .slice a3 len3 cap3] 24)))
    rwa [heap_size_alloc, heap_size_alloc] at this
  have HA3 : Hid (RowT 24 ((((w.alloc (.cells #[.int .i64 op0, .int .i64 n0, .string s0, .slice a0 len0 cap0] 24)).alloc (.cells #[.int .i64 op1, .int .i64 n1, .string s1, .slice a1 len1 cap1] 24)).alloc (.cells #[.int .i64 op2, .int .i64 n2, .string s2, .slice a2 len2 cap2] 24)).alloc (.cells #[.int .i64 op3, .int .i64 n3, .string s3, .slice a3 len3 cap3] 24)) (w.heap.size + 1 + 1 + 1) op3 n3 s3 a3 len3 cap3) := by
    have := (RowT.new 24 (((w.alloc (.cells #[.int .i64 op0, .int .i64 n0, .string s0, .slice a0 len0 cap0] 24)).alloc (.cells #[.int .i64 op1, .int .i64 n1, .string s1, .slice a1 len1 cap1] 24)).alloc (.cells #[.int .i64 op2, .int .i64 n2, .string s2, .slice a2 len2 cap2] 24)) op3 n3 s3 a3 len3 cap3)
    rwa [heap_size_alloc, heap_size_alloc, heap_size_alloc] at this
  have HL0 := hide (hl0.below hB0)
  have HL1 := hide (hl1.below hB0)
  have HL2 := hide (hl2.below hB0)
  have HL3 := hide (hl3.below hB0)
  have HER := hide (herr.on hB0)
  have HTB := hide (htab.on hB0)
  have HB0 := hide hB0
  clear hl0 hl1 hl2 hl3 hB0 herr htab
  by_cases hw0 : (t0.wt : Int) ≤ 1048576
  · obtain ⟨left1, hgl0⟩ : ∃ left1 : Int, (1048576 : Int) - t0.wt = left1 := ⟨_, rfl⟩
    have hln0 : 0 ≤ left1 := by omega
    by_cases hw1 : (t1.wt : Int) ≤ left1
    · obtain ⟨left2, hgl1⟩ : ∃ left2 : Int, (left1 : Int) - t1.wt = left2 := ⟨_, rfl⟩
      have hln1 : 0 ≤ left2 := by omega
      by_cases hw2 : (t2.wt : Int) ≤ left2
      · obtain ⟨left3, hgl2⟩ : ∃ left3 : Int, (left2 : Int) - t2.wt = left3 := ⟨_, rfl⟩
        have hln2 : 0 ≤ left3 := by omega
        by_cases hw3 : (t3.wt : Int) ≤ left3
        · obtain ⟨left4, hgl3⟩ : ∃ left4 : Int, (left3 : Int) - t3.wt = left4 := ⟨_, rfl⟩
          have hln3 : 0 ≤ left4 := by omega
          have hto0 := hide (fun a cap v hv => tp_calls t0 op0 n0 s0 a len0 cap v hv (by omega))
          have hto1 := hide (fun a cap v hv => tp_calls t1 op1 n1 s1 a len1 cap v hv (by omega))
          have hto2 := hide (fun a cap v hv => tp_calls t2 op2 n2 s2 a len2 cap v hv (by omega))
          have hto3 := hide (fun a cap v hv => tp_calls t3 op3 n3 s3 a len3 cap v hv (by omega))
          have hS := hide (fun op0 n0 s0 a0 len0 cap0 op1 n1 s1 a1 len1 cap1 op2 n2 s2 a2 len2 cap2 op3 n3 s3 a3 len3 cap3 V g0 g1 g2 g3 => hS0 op0 n0 s0 a0 len0 cap0 op1 n1 s1 a1 len1 cap1 op2 n2 s2 a2 len2 cap2 op3 n3 s3 a3 len3 cap3 V g0 g1 g2 g3 (by omega))
          have hI := hide (fun op0 n0 s0 a0 len0 cap0 op1 n1 s1 a1 len1 cap1 op2 n2 s2 a2 len2 cap2 op3 n3 s3 a3 len3 cap3 V g0 g1 g2 g3 he ht => hI0 op0 n0 s0 a0 len0 cap0 op1 n1 s1 a1 len1 cap1 op2 n2 s2 a2 len2 cap2 op3 n3 s3 a3 len3 cap3 V g0 g1 g2 g3 (by omega) he ht)
          clear hS0 hI0
          have hk0 := size_kids t0
          have hk1 := size_kids t1
          have hk2 := size_kids t2
          have hk3 := size_kids t3
          have hm0 : Hid (∀ (a : Option Addr) (w : World) (fp : List Nat), Own w t0 (tmCells op0 n0 s0 a len0 len0) fp → fp.Nodup → Calls Tryz.prog 10 #[.agg #[.int .i64 op0, .int .i64 n0, .string s0, .slice a len0 len0], .int .i64 (((1 : Nat)) : Int)] w fun e w' => e = .returned (.int .i64 (((1 + 3 * Tm.sizes t0.kids : Nat)) : Int)) ∧ Only fp w w') :=
            fun a w fp ho hnd => (mark_any t0 op0 n0 s0 a len0 len0 (1) w fp ho hnd (by omega) (by omega)).mono fun e w' h => ⟨h.1, h.2.2⟩
          have hm1 : Hid (∀ (a : Option Addr) (w : World) (fp : List Nat), Own w t1 (tmCells op1 n1 s1 a len1 len1) fp → fp.Nodup → Calls Tryz.prog 10 #[.agg #[.int .i64 op1, .int .i64 n1, .string s1, .slice a len1 len1], .int .i64 (((1 + 3 * Tm.sizes t0.kids : Nat)) : Int)] w fun e w' => e = .returned (.int .i64 (((1 + 3 * Tm.sizes t0.kids + 3 * Tm.sizes t1.kids : Nat)) : Int)) ∧ Only fp w w') :=
            fun a w fp ho hnd => (mark_any t1 op1 n1 s1 a len1 len1 (1 + 3 * Tm.sizes t0.kids) w fp ho hnd (by omega) (by omega)).mono fun e w' h => ⟨h.1, h.2.2⟩
          have hm2 : Hid (∀ (a : Option Addr) (w : World) (fp : List Nat), Own w t2 (tmCells op2 n2 s2 a len2 len2) fp → fp.Nodup → Calls Tryz.prog 10 #[.agg #[.int .i64 op2, .int .i64 n2, .string s2, .slice a len2 len2], .int .i64 (((1 + 3 * Tm.sizes t0.kids + 3 * Tm.sizes t1.kids : Nat)) : Int)] w fun e w' => e = .returned (.int .i64 (((1 + 3 * Tm.sizes t0.kids + 3 * Tm.sizes t1.kids + 3 * Tm.sizes t2.kids : Nat)) : Int)) ∧ Only fp w w') :=
            fun a w fp ho hnd => (mark_any t2 op2 n2 s2 a len2 len2 (1 + 3 * Tm.sizes t0.kids + 3 * Tm.sizes t1.kids) w fp ho hnd (by omega) (by omega)).mono fun e w' h => ⟨h.1, h.2.2⟩
          have hm3 : Hid (∀ (a : Option Addr) (w : World) (fp : List Nat), Own w t3 (tmCells op3 n3 s3 a len3 len3) fp → fp.Nodup → Calls Tryz.prog 10 #[.agg #[.int .i64 op3, .int .i64 n3, .string s3, .slice a len3 len3], .int .i64 (((1 + 3 * Tm.sizes t0.kids + 3 * Tm.sizes t1.kids + 3 * Tm.sizes t2.kids : Nat)) : Int)] w fun e w' => e = .returned (.int .i64 (((1 + 3 * Tm.sizes t0.kids + 3 * Tm.sizes t1.kids + 3 * Tm.sizes t2.kids + 3 * Tm.sizes t3.kids : Nat)) : Int)) ∧ Only fp w w') :=
            fun a w fp ho hnd => (mark_any t3 op3 n3 s3 a len3 len3 (1 + 3 * Tm.sizes t0.kids + 3 * Tm.sizes t1.kids + 3 * Tm.sizes t2.kids) w fp ho hnd (by omega) (by omega)).mono fun e w' h => ⟨h.1, h.2.2⟩
          have hmG : Hid (∀ (op n : Int) (s : ByteArray) (a : Option Addr) (len cap : Nat) (w : World) (fp : List Nat), Own w PT (tmCells op n s a len cap) fp → fp.Nodup → Calls Tryz.prog 10 #[.agg #[.int .i64 op, .int .i64 n, .string s, .slice a len cap], .int .i64 1] w fun e w' => e = .returned (.int .i64 ((1 + 3 * Tm.sizes PT.kids : Nat) : Int)) ∧ Own w' (PT.marked 1) (tmCells op n s a len cap) fp ∧ Only fp w w') :=
            fun op n s a len cap w fp ho hnd => mark_any PT op n s a len cap 1 w fp ho hnd (Nat.le_refl _) (by omega)
          have hhG : Hid (∀ (op n : Int) (s : ByteArray) (a : Option Addr) (len cap : Nat) (w : World), Lies w 0 (PT.marked 1) (tmCells op n s a len cap) → Calls Tryz.prog 11 #[.agg #[.int .i64 op, .int .i64 n, .string s, .slice a len cap], .int .i64 1] w fun e w' => e = .returned (.int .i64 ((1 + 3 * Tm.sizes PT.kids : Nat) : Int)) ∧ Below w.heap.size w w') :=
            fun op n s a len cap w hl => held_marked PT op n s a len cap 1 w hl (Nat.le_refl _) (by omega)
          have hkP := size_kids PT
          have hmb : (1 + 3 * Tm.sizes PT.kids : Nat) ≤ 4194304 := by omega
          have hkb : (1 + 3 * Tm.sizes t0.kids + 3 * Tm.sizes t1.kids + 3 * Tm.sizes t2.kids + 3 * Tm.sizes t3.kids : Nat) ≤ 8388608 := by omega
          have hBB : (B != B) = false := by simp
          clear hZ0 hZ1 hZ2 hZ3 hk0 hk1 hk2 hk3 hPZ hkP
          generalize 1 + 3 * Tm.sizes PT.kids = mG at *
          generalize 1 + 3 * Tm.sizes t0.kids + 3 * Tm.sizes t1.kids + 3 * Tm.sizes t2.kids + 3 * Tm.sizes t3.kids = k4 at *
          generalize 1 + 3 * Tm.sizes t0.kids + 3 * Tm.sizes t1.kids + 3 * Tm.sizes t2.kids = k3 at *
          generalize 1 + 3 * Tm.sizes t0.kids + 3 * Tm.sizes t1.kids = k2 at *
          generalize 1 + 3 * Tm.sizes t0.kids = k1 at *
          go_enter Tryz.func3, Tryz.ntmps3
          go_wp2_with fail
          generalize hgw : ((((w.alloc (.cells #[.int .i64 op0, .int .i64 n0, .string s0, .slice a0 len0 cap0] 24)).alloc (.cells #[.int .i64 op1, .int .i64 n1, .string s1, .slice a1 len1 cap1] 24)).alloc (.cells #[.int .i64 op2, .int .i64 n2, .string s2, .slice a2 len2 cap2] 24)).alloc (.cells #[.int .i64 op3, .int .i64 n3, .string s3, .slice a3 len3 cap3] 24)) = W1 at *
          clear hgw
          refine (unhide hsz0 op0 n0 s0 a0 len0 cap0 _ _ (unhide HL0) (by omega) (by omega)).mono ?_
          rintro e v0 ⟨rfl, hb⟩
          rw [szv_yes hw0, hgl0]
          have hv0 : Hid (Below W1.heap.size W1 v0) := hb
          clear hb
          obtain ⟨c0, c1, c2, c3⟩ := ((unhide HA1).below (unhide hv0)).facts
          go_wp2_with fail
          clear c0 c1 c2 c3
          refine (unhide hsz1 op1 n1 s1 a1 len1 cap1 _ _ ((unhide HL1).below (unhide hv0)) (by omega) (by omega)).mono ?_
          rintro e v1 ⟨rfl, hb⟩
          rw [szv_yes hw1, hgl1]
          have hv1 : Hid (Below W1.heap.size W1 v1) := bt (unhide hv0) hb (Nat.le_refl _)
          clear hb
          obtain ⟨c0, c1, c2, c3⟩ := ((unhide HA2).below (unhide hv1)).facts
          go_wp2_with fail
          clear c0 c1 c2 c3
          refine (unhide hsz2 op2 n2 s2 a2 len2 cap2 _ _ ((unhide HL2).below (unhide hv1)) (by omega) (by omega)).mono ?_
          rintro e v2 ⟨rfl, hb⟩
          rw [szv_yes hw2, hgl2]
          have hv2 : Hid (Below W1.heap.size W1 v2) := bt (unhide hv1) hb (Nat.le_refl _)
          clear hb
          obtain ⟨c0, c1, c2, c3⟩ := ((unhide HA3).below (unhide hv2)).facts
          go_wp2_with fail
          clear c0 c1 c2 c3
          refine (unhide hsz3 op3 n3 s3 a3 len3 cap3 _ _ ((unhide HL3).below (unhide hv2)) (by omega) (by omega)).mono ?_
          rintro e v3 ⟨rfl, hb⟩
          rw [szv_yes hw3, hgl3]
          have hv3 : Hid (Below W1.heap.size W1 v3) := bt (unhide hv2) hb (Nat.le_refl _)
          clear hb
          have HB1 := hide (bt (unhide HB0) (unhide hv3) (Nat.le_refl _))
          have HA0 := hide ((unhide HA0).below (unhide hv3))
          have HL0 := hide ((unhide HL0).below (unhide hv3))
          have HA1 := hide ((unhide HA1).below (unhide hv3))
          have HL1 := hide ((unhide HL1).below (unhide hv3))
          have HA2 := hide ((unhide HA2).below (unhide hv3))
          have HL2 := hide ((unhide HL2).below (unhide hv3))
          have HA3 := hide ((unhide HA3).below (unhide hv3))
          have HL3 := hide ((unhide HL3).below (unhide hv3))
          have HER := hide ((unhide HER).on (unhide hv3))
          have HTB := hide ((unhide HTB).on (unhide hv3))
          clear hv0 hv1 hv2 hv3 hw0 hgl0 hsz0 hw1 hgl1 hsz1 hw2 hgl2 hsz2 hw3 hgl3 hsz3 HB0
          go_wp2_with fail
          obtain ⟨c00, c01, c02, c03⟩ := (unhide HA0).facts
          obtain ⟨c10, c11, c12, c13⟩ := (unhide HA1).facts
          obtain ⟨c20, c21, c22, c23⟩ := (unhide HA2).facts
          obtain ⟨c30, c31, c32, c33⟩ := (unhide HA3).facts
          have m0ne0 := Nat.ne_of_lt (lt_of_cell c00)
          have m0en0 := Ne.symm m0ne0
          have m1ne0 := Nat.ne_of_lt (lt_of_cell c10)
          have m1en0 := Ne.symm m1ne0
          have m2ne0 := Nat.ne_of_lt (lt_of_cell c20)
          have m2en0 := Ne.symm m2ne0
          have m3ne0 := Nat.ne_of_lt (lt_of_cell c30)
          have m3en0 := Ne.symm m3ne0
          go_cut [10, 11] (fun p q wx => AnsCut PT B v3 p q wx)
          case first =>
            go_region_held3 (fun x => x.cell? ⟨w.heap.size, 0, none⟩ = some (.int .i64 op0) ∧ x.cell? ⟨w.heap.size, 1, none⟩ = some (.int .i64 n0) ∧ x.cell? ⟨w.heap.size, 2, none⟩ = some (.string s0) ∧ x.cell? ⟨w.heap.size, 3, none⟩ = some (.slice a0 len0 cap0) ∧ x.cell? ⟨w.heap.size + 1, 0, none⟩ = some (.int .i64 op1) ∧ x.cell? ⟨w.heap.size + 1, 1, none⟩ = some (.int .i64 n1) ∧ x.cell? ⟨w.heap.size + 1, 2, none⟩ = some (.string s1) ∧ x.cell? ⟨w.heap.size + 1, 3, none⟩ = some (.slice a1 len1 cap1) ∧ x.cell? ⟨w.heap.size + 1 + 1, 0, none⟩ = some (.int .i64 op2) ∧ x.cell? ⟨w.heap.size + 1 + 1, 1, none⟩ = some (.int .i64 n2) ∧ x.cell? ⟨w.heap.size + 1 + 1, 2, none⟩ = some (.string s2) ∧ x.cell? ⟨w.heap.size + 1 + 1, 3, none⟩ = some (.slice a2 len2 cap2) ∧ x.cell? ⟨w.heap.size + 1 + 1 + 1, 0, none⟩ = some (.int .i64 op3) ∧ x.cell? ⟨w.heap.size + 1 + 1 + 1, 1, none⟩ = some (.int .i64 n3) ∧ x.cell? ⟨w.heap.size + 1 + 1 + 1, 2, none⟩ = some (.string s3) ∧ x.cell? ⟨w.heap.size + 1 + 1 + 1, 3, none⟩ = some (.slice a3 len3 cap3)) (go_keep)
              (first
                | (go_at_call_of 7 op0
                   have hc := fun V (hV : Below v3.heap.size v3 V) => unhide hto0 a0 cap0 V ((unhide HL0).below hV)
                   refine (hc _ ?_).mono ?_
                   first
                     | exact (Below.refl _ _).drew
                     | exact (ab _).drew
                   rintro e y0 ⟨b0, f0, rfl, hO, _, hb⟩
                   try have zz0 := hide ((ZBox.new v3).drew.below hb)
                   have hp0 : Hid (Below v3.heap.size v3 y0) := by
                     first
                       | exact below_drew' hb
                       | exact bt (ab _) (below_drew' hb) (Nat.le_refl _)
                   have h00 := hp0
                   have HT0 := hide hO.lies0
                   clear c00 c01 c02 c03 c10 c11 c12 c13 c20 c21 c22 c23 c30 c31 c32 c33 hb hO hc
                   obtain ⟨c00, c01, c02, c03⟩ := ((unhide HA0).below (unhide h00)).facts
                   obtain ⟨c10, c11, c12, c13⟩ := ((unhide HA1).below (unhide h00)).facts
                   obtain ⟨c20, c21, c22, c23⟩ := ((unhide HA2).below (unhide h00)).facts
                   obtain ⟨c30, c31, c32, c33⟩ := ((unhide HA3).below (unhide h00)).facts
                   have m0ne1 := Nat.ne_of_lt (lt_of_cell c00)
                   have m0en1 := Ne.symm m0ne1
                   have m1ne1 := Nat.ne_of_lt (lt_of_cell c10)
                   have m1en1 := Ne.symm m1ne1
                   have m2ne1 := Nat.ne_of_lt (lt_of_cell c20)
                   have m2en1 := Ne.symm m2ne1
                   have m3ne1 := Nat.ne_of_lt (lt_of_cell c30)
                   have m3en1 := Ne.symm m3ne1)
                | (go_at_call_of 7 op1
                   have hc := fun V (hV : Below y0.heap.size y0 V) => unhide hto1 a1 cap1 V ((unhide HL1).below (bt (unhide h00) hV (Nat.le_refl _)))
                   refine (hc _ ?_).mono ?_
                   first
                     | exact Below.refl _ _
                     | exact ab _
                   rintro e y1 ⟨b1, f1, rfl, hO, _, hb⟩
                   try have zz1 := hide ((unhide zz0).below hb)
                   try have zz1 := hide ((ZBox.new y0).below hb)
                   have hp1 : Hid (Below y0.heap.size y0 y1) := by
                     first
                       | exact hb
                       | exact bt (ab _) hb (Nat.le_refl _)
                   have h01 := hide (bt (unhide h00) (unhide hp1) (Nat.le_refl _))
                   have HT1 := hide hO.lies0
                   have HT0 := hide ((unhide HT0).below (unhide hp1))
                   clear c00 c01 c02 c03 c10 c11 c12 c13 c20 c21 c22 c23 c30 c31 c32 c33 hb hO hc
                   obtain ⟨c00, c01, c02, c03⟩ := ((unhide HA0).below (unhide h01)).facts
                   obtain ⟨c10, c11, c12, c13⟩ := ((unhide HA1).below (unhide h01)).facts
                   obtain ⟨c20, c21, c22, c23⟩ := ((unhide HA2).below (unhide h01)).facts
                   obtain ⟨c30, c31, c32, c33⟩ := ((unhide HA3).below (unhide h01)).facts
                   have m0ne2 := Nat.ne_of_lt (lt_of_cell c00)
                   have m0en2 := Ne.symm m0ne2
                   have m1ne2 := Nat.ne_of_lt (lt_of_cell c10)
                   have m1en2 := Ne.symm m1ne2
                   have m2ne2 := Nat.ne_of_lt (lt_of_cell c20)
                   have m2en2 := Ne.symm m2ne2
                   have m3ne2 := Nat.ne_of_lt (lt_of_cell c30)
                   have m3en2 := Ne.symm m3ne2)
                | (go_at_call_of 7 op2
                   have hc := fun V (hV : Below y1.heap.size y1 V) => unhide hto2 a2 cap2 V ((unhide HL2).below (bt (unhide h01) hV (Nat.le_refl _)))
                   refine (hc _ ?_).mono ?_
                   first
                     | exact Below.refl _ _
                     | exact ab _
                   rintro e y2 ⟨b2, f2, rfl, hO, _, hb⟩
                   try have zz2 := hide ((unhide zz1).below hb)
                   try have zz2 := hide ((ZBox.new y1).below hb)
                   have hp2 : Hid (Below y1.heap.size y1 y2) := by
                     first
                       | exact hb
                       | exact bt (ab _) hb (Nat.le_refl _)
                   have h02 := hide (bt (unhide h01) (unhide hp2) (Nat.le_refl _))
                   have HT2 := hide hO.lies0
                   have HT0 := hide ((unhide HT0).below (unhide hp2))
                   have HT1 := hide ((unhide HT1).below (unhide hp2))
                   clear c00 c01 c02 c03 c10 c11 c12 c13 c20 c21 c22 c23 c30 c31 c32 c33 hb hO hc
                   obtain ⟨c00, c01, c02, c03⟩ := ((unhide HA0).below (unhide h02)).facts
                   obtain ⟨c10, c11, c12, c13⟩ := ((unhide HA1).below (unhide h02)).facts
                   obtain ⟨c20, c21, c22, c23⟩ := ((unhide HA2).below (unhide h02)).facts
                   obtain ⟨c30, c31, c32, c33⟩ := ((unhide HA3).below (unhide h02)).facts
                   have m0ne3 := Nat.ne_of_lt (lt_of_cell c00)
                   have m0en3 := Ne.symm m0ne3
                   have m1ne3 := Nat.ne_of_lt (lt_of_cell c10)
                   have m1en3 := Ne.symm m1ne3
                   have m2ne3 := Nat.ne_of_lt (lt_of_cell c20)
                   have m2en3 := Ne.symm m2ne3
                   have m3ne3 := Nat.ne_of_lt (lt_of_cell c30)
                   have m3en3 := Ne.symm m3ne3)
                | (go_at_call_of 7 op3
                   have hc := fun V (hV : Below y2.heap.size y2 V) => unhide hto3 a3 cap3 V ((unhide HL3).below (bt (unhide h02) hV (Nat.le_refl _)))
                   refine (hc _ ?_).mono ?_
                   first
                     | exact Below.refl _ _
                     | exact ab _
                   rintro e y3 ⟨b3, f3, rfl, hO, _, hb⟩
                   try have zz3 := hide ((unhide zz2).below hb)
                   try have zz3 := hide ((ZBox.new y2).below hb)
                   have hp3 : Hid (Below y2.heap.size y2 y3) := by
                     first
                       | exact hb
                       | exact bt (ab _) hb (Nat.le_refl _)
                   have h03 := hide (bt (unhide h02) (unhide hp3) (Nat.le_refl _))
                   have HT3 := hide hO.lies0
                   have HT0 := hide ((unhide HT0).below (unhide hp3))
                   have HT1 := hide ((unhide HT1).below (unhide hp3))
                   have HT2 := hide ((unhide HT2).below (unhide hp3))
                   clear c00 c01 c02 c03 c10 c11 c12 c13 c20 c21 c22 c23 c30 c31 c32 c33 hb hO hc
                   obtain ⟨c00, c01, c02, c03⟩ := ((unhide HA0).below (unhide h03)).facts
                   obtain ⟨c10, c11, c12, c13⟩ := ((unhide HA1).below (unhide h03)).facts
                   obtain ⟨c20, c21, c22, c23⟩ := ((unhide HA2).below (unhide h03)).facts
                   obtain ⟨c30, c31, c32, c33⟩ := ((unhide HA3).below (unhide h03)).facts
                   have m0ne4 := Nat.ne_of_lt (lt_of_cell c00)
                   have m0en4 := Ne.symm m0ne4
                   have m1ne4 := Nat.ne_of_lt (lt_of_cell c10)
                   have m1en4 := Ne.symm m1ne4
                   have m2ne4 := Nat.ne_of_lt (lt_of_cell c20)
                   have m2en4 := Ne.symm m2ne4
                   have m3ne4 := Nat.ne_of_lt (lt_of_cell c30)
                   have m3en4 := Ne.symm m3ne4)
                | (go_at_call 6
                   have hc := fun V (hV : Below y3.heap.size y3 V) => unhide hS op0 n0 s0 b0 len0 len0 op1 n1 s1 b1 len1 len1 op2 n2 s2 b2 len2 len2 op3 n3 s3 b3 len3 len3 V ((unhide HT0).below hV) ((unhide HT1).below hV) ((unhide HT2).below hV) ((unhide HT3).below hV)
                   refine (hc _ ?_).mono ?_
                   first
                     | exact Below.refl _ _
                     | exact ab _
                   rintro e y9 ⟨opW, nW, sW, aW, lenW, capW, rfl, hLX, hb⟩
                   try have zz9 := hide ((unhide zz3).below hb)
                   try have zz9 := hide ((ZBox.new y3).below hb)
                   have hp9 : Hid (Below y3.heap.size y3 y9) := by
                     first
                       | exact hb
                       | exact bt (ab _) hb (Nat.le_refl _)
                   have h09 := hide (bt (unhide h03) (unhide hp9) (Nat.le_refl _))
                   have HLX9 := hide hLX
                   have HLX := hide (hLX.any (Nat.zero_le _))
                   clear c00 c01 c02 c03 c10 c11 c12 c13 c20 c21 c22 c23 c30 c31 c32 c33 hb hc hLX
                   obtain ⟨c00, c01, c02, c03⟩ := ((unhide HA0).below (unhide h09)).facts
                   obtain ⟨c10, c11, c12, c13⟩ := ((unhide HA1).below (unhide h09)).facts
                   obtain ⟨c20, c21, c22, c23⟩ := ((unhide HA2).below (unhide h09)).facts
                   obtain ⟨c30, c31, c32, c33⟩ := ((unhide HA3).below (unhide h09)).facts
                   have m0ne9 := Nat.ne_of_lt (lt_of_cell c00)
                   have m0en9 := Ne.symm m0ne9
                   have m1ne9 := Nat.ne_of_lt (lt_of_cell c10)
                   have m1en9 := Ne.symm m1ne9
                   have m2ne9 := Nat.ne_of_lt (lt_of_cell c20)
                   have m2en9 := Ne.symm m2ne9
                   have m3ne9 := Nat.ne_of_lt (lt_of_cell c30)
                   have m3en9 := Ne.symm m3ne9
                   try obtain ⟨p0, p1, p2, p3, q0, q1, q2, q3⟩ := (unhide zz9).facts))
            all_goals
              go_wp2_with fail
              go_meet
              first
                | (with_reducible refine AnsCut.late ?_ ?_
                   exact unhide h09
                   exact unhide HLX)
                | (with_reducible refine AnsCut.early ?_ ?_ ?_ ?_
                   exact unhide h09
                   exact unhide zz9
                   (have s0 := (unhide h00).size; have s1 := (unhide h01).size; have s2 := (unhide h02).size; have s3 := (unhide h03).size; omega)
                   first
                     | exact set4_lies (unhide HLX9) (lt_of_heap (unhide zz3)) 0 (Nat.zero_le _)
                     | exact set4_lies (unhide HLX9) (by rw [heap_size_alloc]; omega) 0 (Nat.zero_le _))
          case rest =>
            obtain ⟨bW, opW, nW, sW, aW, lenW, capW, rfl, rfl, hRW, hLW, hbc⟩ := hcut
            have HVB := hide (bt (unhide HB1) hbc (Nat.le_refl _))
            have HA0 := hide ((unhide HA0).below hbc)
            have HL0 := hide ((unhide HL0).below hbc)
            have HA1 := hide ((unhide HA1).below hbc)
            have HL1 := hide ((unhide HL1).below hbc)
            have HA2 := hide ((unhide HA2).below hbc)
            have HL2 := hide ((unhide HL2).below hbc)
            have HA3 := hide ((unhide HA3).below hbc)
            have HL3 := hide ((unhide HL3).below hbc)
            have HER := hide ((unhide HER).on hbc)
            have HTB := hide ((unhide HTB).on hbc)
            have HW := hide hRW
            have HLW := hide hLW
            clear hbc hRW hLW HB1 c00 c01 c02 c03 c10 c11 c12 c13 c20 c21 c22 c23 c30 c31 c32 c33 m0ne0 m0en0 m1ne0 m1en0 m2ne0 m2en0 m3ne0 m3en0
            have hV0 := hide (Below.refl wc.heap.size wc)
            obtain ⟨c0, c1, c2, c3⟩ := ((unhide HA0).below (unhide hV0)).facts
            go_wp2_with fail
            clear c0 c1 c2 c3
            refine (unhide hto0 a0 cap0 _ ((unhide HL0).below (unhide hV0))).mono ?_
            rintro e z0 ⟨b0, f0, rfl, hO, ⟨hnd, hge⟩, hb⟩
            have hp := bt hb (ab (.cells #[.int .i64 op0, .int .i64 n0, .string s0, .slice b0 len0 len0] 28)) (Nat.le_refl _)
            have hX0 := hide (bt (unhide hV0) hp (Nat.le_refl _))
            have HND0 := hide hnd
            have HI0 : Hid (∀ y ∈ f0, wc.heap.size ≤ y ∧ y < z0.heap.size) := fun y hy => ⟨hge y hy, Own.lt _ _ _ hO y hy⟩
            have HJ0 : Hid (wc.heap.size ≤ z0.heap.size) := hb.size
            have HX0 := hide (RowT.new 28 z0 op0 n0 s0 b0 len0 len0)
            have HO0 := hide (hO.below (ab (.cells #[.int .i64 op0, .int .i64 n0, .string s0, .slice b0 len0 len0] 28)))
            have HK0 : Hid (z0.heap.size + 1 = (z0.alloc (.cells #[.int .i64 op0, .int .i64 n0, .string s0, .slice b0 len0 len0] 28)).heap.size) := by show _ = _; rw [heap_size_alloc]
            clear hb hp hO hnd hge hV0
            obtain ⟨c0, c1, c2, c3⟩ := ((unhide HA1).below (unhide hX0)).facts
            go_wp2_with fail
            clear c0 c1 c2 c3
            generalize hgw : z0.alloc (.cells #[.int .i64 op0, .int .i64 n0, .string s0, .slice b0 len0 len0] 28) = Z0 at *
            clear hgw
            generalize z0.heap.size = bX0 at *
            refine (unhide hto1 a1 cap1 _ ((unhide HL1).below (unhide hX0))).mono ?_
            rintro e z1 ⟨b1, f1, rfl, hO, ⟨hnd, hge⟩, hb⟩
            have hp := bt hb (ab (.cells #[.int .i64 op1, .int .i64 n1, .string s1, .slice b1 len1 len1] 28)) (Nat.le_refl _)
            have hX1 := hide (bt (unhide hX0) hp (Nat.le_refl _))
            have HND1 := hide hnd
            have HI1 : Hid (∀ y ∈ f1, bX0 < y ∧ y < z1.heap.size) := fun y hy => ⟨by have := hge y hy; have := unhide HK0; omega, Own.lt _ _ _ hO y hy⟩
            have HJ1 : Hid (bX0 < z1.heap.size) := by have := unhide HK0; have := hb.size; show _ < _; omega
            have HX0 := hide ((unhide HX0).below hp)
            have HO0 := hide ((unhide HO0).below hp)
            have HX1 := hide (RowT.new 28 z1 op1 n1 s1 b1 len1 len1)
            have HO1 := hide (hO.below (ab (.cells #[.int .i64 op1, .int .i64 n1, .string s1, .slice b1 len1 len1] 28)))
            have HK1 : Hid (z1.heap.size + 1 = (z1.alloc (.cells #[.int .i64 op1, .int .i64 n1, .string s1, .slice b1 len1 len1] 28)).heap.size) := by show _ = _; rw [heap_size_alloc]
            clear hb hp hO hnd hge hX0
            obtain ⟨c0, c1, c2, c3⟩ := ((unhide HA2).below (unhide hX1)).facts
            go_wp2_with fail
            clear c0 c1 c2 c3
            generalize hgw : z1.alloc (.cells #[.int .i64 op1, .int .i64 n1, .string s1, .slice b1 len1 len1] 28) = Z1 at *
            clear hgw
            generalize z1.heap.size = bX1 at *
            refine (unhide hto2 a2 cap2 _ ((unhide HL2).below (unhide hX1))).mono ?_
            rintro e z2 ⟨b2, f2, rfl, hO, ⟨hnd, hge⟩, hb⟩
            have hp := bt hb (ab (.cells #[.int .i64 op2, .int .i64 n2, .string s2, .slice b2 len2 len2] 28)) (Nat.le_refl _)
            have hX2 := hide (bt (unhide hX1) hp (Nat.le_refl _))
            have HND2 := hide hnd
            have HI2 : Hid (∀ y ∈ f2, bX1 < y ∧ y < z2.heap.size) := fun y hy => ⟨by have := hge y hy; have := unhide HK1; omega, Own.lt _ _ _ hO y hy⟩
            have HJ2 : Hid (bX1 < z2.heap.size) := by have := unhide HK1; have := hb.size; show _ < _; omega
            have HX0 := hide ((unhide HX0).below hp)
            have HO0 := hide ((unhide HO0).below hp)
            have HX1 := hide ((unhide HX1).below hp)
            have HO1 := hide ((unhide HO1).below hp)
            have HX2 := hide (RowT.new 28 z2 op2 n2 s2 b2 len2 len2)
            have HO2 := hide (hO.below (ab (.cells #[.int .i64 op2, .int .i64 n2, .string s2, .slice b2 len2 len2] 28)))
            have HK2 : Hid (z2.heap.size + 1 = (z2.alloc (.cells #[.int .i64 op2, .int .i64 n2, .string s2, .slice b2 len2 len2] 28)).heap.size) := by show _ = _; rw [heap_size_alloc]
            clear hb hp hO hnd hge hX1
            obtain ⟨c0, c1, c2, c3⟩ := ((unhide HA3).below (unhide hX2)).facts
            go_wp2_with fail
            clear c0 c1 c2 c3
            generalize hgw : z2.alloc (.cells #[.int .i64 op2, .int .i64 n2, .string s2, .slice b2 len2 len2] 28) = Z2 at *
            clear hgw
            generalize z2.heap.size = bX2 at *
            refine (unhide hto3 a3 cap3 _ ((unhide HL3).below (unhide hX2))).mono ?_
            rintro e z3 ⟨b3, f3, rfl, hO, ⟨hnd, hge⟩, hb⟩
            have hp := bt hb (ab (.cells #[.int .i64 op3, .int .i64 n3, .string s3, .slice b3 len3 len3] 28)) (Nat.le_refl _)
            have hX3 := hide (bt (unhide hX2) hp (Nat.le_refl _))
            have HND3 := hide hnd
            have HI3 : Hid (∀ y ∈ f3, bX2 < y ∧ y < z3.heap.size) := fun y hy => ⟨by have := hge y hy; have := unhide HK2; omega, Own.lt _ _ _ hO y hy⟩
            have HJ3 : Hid (bX2 < z3.heap.size) := by have := unhide HK2; have := hb.size; show _ < _; omega
            have HX0 := hide ((unhide HX0).below hp)
            have HO0 := hide ((unhide HO0).below hp)
            have HX1 := hide ((unhide HX1).below hp)
            have HO1 := hide ((unhide HO1).below hp)
            have HX2 := hide ((unhide HX2).below hp)
            have HO2 := hide ((unhide HO2).below hp)
            have HX3 := hide (RowT.new 28 z3 op3 n3 s3 b3 len3 len3)
            have HO3 := hide (hO.below (ab (.cells #[.int .i64 op3, .int .i64 n3, .string s3, .slice b3 len3 len3] 28)))
            have HK3 : Hid (z3.heap.size + 1 = (z3.alloc (.cells #[.int .i64 op3, .int .i64 n3, .string s3, .slice b3 len3 len3] 28)).heap.size) := by show _ = _; rw [heap_size_alloc]
            clear hb hp hO hnd hge hX2
            obtain ⟨d00, d01, d02, d03⟩ := (unhide HX0).facts
            obtain ⟨d10, d11, d12, d13⟩ := (unhide HX1).facts
            obtain ⟨d20, d21, d22, d23⟩ := (unhide HX2).facts
            obtain ⟨d30, d31, d32, d33⟩ := (unhide HX3).facts
            go_wp2_with fail
            generalize hgw : z3.alloc (.cells #[.int .i64 op3, .int .i64 n3, .string s3, .slice b3 len3 len3] 28) = Z3 at *
            clear hgw
            generalize z3.heap.size = bX3 at *
            clear d00 d01 d02 d03 d10 d11 d12 d13 d20 d21 d22 d23 d30 d31 d32 d33
            refine (unhide hI op0 n0 s0 b0 len0 len0 op1 n1 s1 b1 len1 len1 op2 n2 s2 b2 len2 len2 op3 n3 s3 b3 len3 len3 _ (unhide HO0).lies0 (unhide HO1).lies0 (unhide HO2).lies0 (unhide HO3).lies0 ((unhide HER).on (unhide hX3)) ((unhide HTB).on (unhide hX3))).mono ?_
            rintro e zG ⟨opG, nG, sG, aG, lenG, capG, fG, rfl, hO, ⟨hnd, hge⟩, hb⟩
            have hp := bt hb (ab (.cells #[.int .i64 opG, .int .i64 nG, .string sG, .slice aG lenG capG] 28)) (Nat.le_refl _)
            have hVG := hide (bt (unhide hX3) hp (Nat.le_refl _))
            have HNDG := hide hnd
            have HIG : Hid (∀ y ∈ fG, bX3 < y ∧ y < zG.heap.size) := fun y hy => ⟨by have := hge y hy; have := unhide HK3; omega, Own.lt _ _ _ hO y hy⟩
            have HJG : Hid (bX3 < zG.heap.size) := by have := unhide HK3; have := hb.size; show _ < _; omega
            have HX0 := hide ((unhide HX0).below hp)
            have HO0 := hide ((unhide HO0).below hp)
            have HX1 := hide ((unhide HX1).below hp)
            have HO1 := hide ((unhide HO1).below hp)
            have HX2 := hide ((unhide HX2).below hp)
            have HO2 := hide ((unhide HO2).below hp)
            have HX3 := hide ((unhide HX3).below hp)
            have HO3 := hide ((unhide HO3).below hp)
            have HG := hide (RowT.new 28 zG opG nG sG aG lenG capG)
            have HOG := hide (hO.below (ab (.cells #[.int .i64 opG, .int .i64 nG, .string sG, .slice aG lenG capG] 28)))
            clear hb hp hO hnd hge hX3
            obtain ⟨c0, c1, c2, c3⟩ := (unhide HG).facts
            obtain ⟨d0, d1, d2, d3⟩ := ((unhide HW).below (unhide hVG)).facts
            go_wp2_with fail
            clear c0 c1 c2 c3 d0 d1 d2 d3
            generalize hgw : zG.alloc (.cells #[.int .i64 opG, .int .i64 nG, .string sG, .slice aG lenG capG] 28) = YG at *
            clear hgw
            generalize zG.heap.size = bG at *
            refine (unhide heq PT opG nG sG aG lenG capG opW nW sW aW lenW capW _ (unhide HOG).lies0 ((unhide HLW).below (unhide hVG))).mono ?_
            rintro e u0 ⟨rfl, hb⟩
            have hY := hide hb
            clear hb
            have hYV := hide (bt (unhide hVG) (unhide hY) (Nat.le_refl _))
            obtain ⟨c0, c1, c2, c3⟩ := ((unhide HX0).below (unhide hY)).facts
            obtain ⟨d0, d1, d2, d3⟩ := ((unhide HA0).below (unhide hYV)).facts
            go_wp2_with fail
            go_region_held3 (fun x => x.cell? ⟨bX0, 0, none⟩ = some (.int .i64 op0) ∧ x.cell? ⟨bX0, 1, none⟩ = some (.int .i64 n0) ∧ x.cell? ⟨bX0, 2, none⟩ = some (.string s0) ∧ x.cell? ⟨bX0, 3, none⟩ = some (.slice b0 len0 len0) ∧ x.cell? ⟨w.heap.size, 0, none⟩ = some (.int .i64 op0) ∧ x.cell? ⟨w.heap.size, 1, none⟩ = some (.int .i64 n0) ∧ x.cell? ⟨w.heap.size, 2, none⟩ = some (.string s0) ∧ x.cell? ⟨w.heap.size, 3, none⟩ = some (.slice a0 len0 cap0)) (go_keep)
              (first
                | (go_at_call 7
                   refine (unhide hto0 a0 cap0 _ ((unhide HL0).below (unhide hYV).drew)).mono ?_
                   rintro e w7 ⟨a7, f7, rfl, hO7, _, hb7⟩
                   have hb7' := hide (below_drew' hb7)
                   have HO7 := hide hO7.lies0
                   have HX7 := hide (((unhide HO0).below (unhide hY).drew).below hb7).lies0
                   have e0 := kpc (unhide hb7') c0
                   have e1 := kpc (unhide hb7') c1
                   have e2 := kpc (unhide hb7') c2
                   have e3 := kpc (unhide hb7') c3
                   have g0 := kpc (unhide hb7') d0
                   have g1 := kpc (unhide hb7') d1
                   have g2 := kpc (unhide hb7') d2
                   have g3 := kpc (unhide hb7') d3)
                | (go_at_call 9
                   refine (unhide heq t0 op0 n0 s0 b0 len0 len0 op0 n0 s0 a7 len0 len0 _ (unhide HX7) (unhide HO7)).mono ?_
                   rintro e w8 ⟨rfl, hb8⟩
                   have i0 := kpc hb8 e0
                   have i1 := kpc hb8 e1
                   have i2 := kpc hb8 e2
                   have i3 := kpc hb8 e3
                   have j0 := kpc hb8 g0
                   have j1 := kpc hb8 g1
                   have j2 := kpc hb8 g2
                   have j3 := kpc hb8 g3
                   have hb8' := hide hb8))
            have hY := hide (bt (bt (unhide hY) (unhide hb7') (Nat.le_refl _)) (unhide hb8') (Nat.le_refl _))
            clear c0 c1 c2 c3 d0 d1 d2 d3 e0 e1 e2 e3 g0 g1 g2 g3 i0 i1 i2 i3 j0 j1 j2 j3 hb7' hb8' HO7 HX7 hYV
            have hYV := hide (bt (unhide hVG) (unhide hY) (Nat.le_refl _))
            obtain ⟨c0, c1, c2, c3⟩ := ((unhide HX1).below (unhide hY)).facts
            obtain ⟨d0, d1, d2, d3⟩ := ((unhide HA1).below (unhide hYV)).facts
            go_wp2_with fail
            go_region_held3 (fun x => x.cell? ⟨bX1, 0, none⟩ = some (.int .i64 op1) ∧ x.cell? ⟨bX1, 1, none⟩ = some (.int .i64 n1) ∧ x.cell? ⟨bX1, 2, none⟩ = some (.string s1) ∧ x.cell? ⟨bX1, 3, none⟩ = some (.slice b1 len1 len1) ∧ x.cell? ⟨w.heap.size + 1, 0, none⟩ = some (.int .i64 op1) ∧ x.cell? ⟨w.heap.size + 1, 1, none⟩ = some (.int .i64 n1) ∧ x.cell? ⟨w.heap.size + 1, 2, none⟩ = some (.string s1) ∧ x.cell? ⟨w.heap.size + 1, 3, none⟩ = some (.slice a1 len1 cap1)) (go_keep)
              (first
                | (go_at_call 7
                   refine (unhide hto1 a1 cap1 _ ((unhide HL1).below (unhide hYV).drew)).mono ?_
                   rintro e w7 ⟨a7, f7, rfl, hO7, _, hb7⟩
                   have hb7' := hide (below_drew' hb7)
                   have HO7 := hide hO7.lies0
                   have HX7 := hide (((unhide HO1).below (unhide hY).drew).below hb7).lies0
                   have e0 := kpc (unhide hb7') c0
                   have e1 := kpc (unhide hb7') c1
                   have e2 := kpc (unhide hb7') c2
                   have e3 := kpc (unhide hb7') c3
                   have g0 := kpc (unhide hb7') d0
                   have g1 := kpc (unhide hb7') d1
                   have g2 := kpc (unhide hb7') d2
                   have g3 := kpc (unhide hb7') d3)
                | (go_at_call 9
                   refine (unhide heq t1 op1 n1 s1 b1 len1 len1 op1 n1 s1 a7 len1 len1 _ (unhide HX7) (unhide HO7)).mono ?_
                   rintro e w8 ⟨rfl, hb8⟩
                   have i0 := kpc hb8 e0
                   have i1 := kpc hb8 e1
                   have i2 := kpc hb8 e2
                   have i3 := kpc hb8 e3
                   have j0 := kpc hb8 g0
                   have j1 := kpc hb8 g1
                   have j2 := kpc hb8 g2
                   have j3 := kpc hb8 g3
                   have hb8' := hide hb8))
            have hY := hide (bt (bt (unhide hY) (unhide hb7') (Nat.le_refl _)) (unhide hb8') (Nat.le_refl _))
            clear c0 c1 c2 c3 d0 d1 d2 d3 e0 e1 e2 e3 g0 g1 g2 g3 i0 i1 i2 i3 j0 j1 j2 j3 hb7' hb8' HO7 HX7 hYV
            have hYV := hide (bt (unhide hVG) (unhide hY) (Nat.le_refl _))
            obtain ⟨c0, c1, c2, c3⟩ := ((unhide HX2).below (unhide hY)).facts
            obtain ⟨d0, d1, d2, d3⟩ := ((unhide HA2).below (unhide hYV)).facts
            go_wp2_with fail
            go_region_held3 (fun x => x.cell? ⟨bX2, 0, none⟩ = some (.int .i64 op2) ∧ x.cell? ⟨bX2, 1, none⟩ = some (.int .i64 n2) ∧ x.cell? ⟨bX2, 2, none⟩ = some (.string s2) ∧ x.cell? ⟨bX2, 3, none⟩ = some (.slice b2 len2 len2) ∧ x.cell? ⟨w.heap.size + 1 + 1, 0, none⟩ = some (.int .i64 op2) ∧ x.cell? ⟨w.heap.size + 1 + 1, 1, none⟩ = some (.int .i64 n2) ∧ x.cell? ⟨w.heap.size + 1 + 1, 2, none⟩ = some (.string s2) ∧ x.cell? ⟨w.heap.size + 1 + 1, 3, none⟩ = some (.slice a2 len2 cap2)) (go_keep)
              (first
                | (go_at_call 7
                   refine (unhide hto2 a2 cap2 _ ((unhide HL2).below (unhide hYV).drew)).mono ?_
                   rintro e w7 ⟨a7, f7, rfl, hO7, _, hb7⟩
                   have hb7' := hide (below_drew' hb7)
                   have HO7 := hide hO7.lies0
                   have HX7 := hide (((unhide HO2).below (unhide hY).drew).below hb7).lies0
                   have e0 := kpc (unhide hb7') c0
                   have e1 := kpc (unhide hb7') c1
                   have e2 := kpc (unhide hb7') c2
                   have e3 := kpc (unhide hb7') c3
                   have g0 := kpc (unhide hb7') d0
                   have g1 := kpc (unhide hb7') d1
                   have g2 := kpc (unhide hb7') d2
                   have g3 := kpc (unhide hb7') d3)
                | (go_at_call 9
                   refine (unhide heq t2 op2 n2 s2 b2 len2 len2 op2 n2 s2 a7 len2 len2 _ (unhide HX7) (unhide HO7)).mono ?_
                   rintro e w8 ⟨rfl, hb8⟩
                   have i0 := kpc hb8 e0
                   have i1 := kpc hb8 e1
                   have i2 := kpc hb8 e2
                   have i3 := kpc hb8 e3
                   have j0 := kpc hb8 g0
                   have j1 := kpc hb8 g1
                   have j2 := kpc hb8 g2
                   have j3 := kpc hb8 g3
                   have hb8' := hide hb8))
            have hY := hide (bt (bt (unhide hY) (unhide hb7') (Nat.le_refl _)) (unhide hb8') (Nat.le_refl _))
            clear c0 c1 c2 c3 d0 d1 d2 d3 e0 e1 e2 e3 g0 g1 g2 g3 i0 i1 i2 i3 j0 j1 j2 j3 hb7' hb8' HO7 HX7 hYV
            have hYV := hide (bt (unhide hVG) (unhide hY) (Nat.le_refl _))
            obtain ⟨c0, c1, c2, c3⟩ := ((unhide HX3).below (unhide hY)).facts
            obtain ⟨d0, d1, d2, d3⟩ := ((unhide HA3).below (unhide hYV)).facts
            go_wp2_with fail
            go_region_held3 (fun x => x.cell? ⟨bX3, 0, none⟩ = some (.int .i64 op3) ∧ x.cell? ⟨bX3, 1, none⟩ = some (.int .i64 n3) ∧ x.cell? ⟨bX3, 2, none⟩ = some (.string s3) ∧ x.cell? ⟨bX3, 3, none⟩ = some (.slice b3 len3 len3) ∧ x.cell? ⟨w.heap.size + 1 + 1 + 1, 0, none⟩ = some (.int .i64 op3) ∧ x.cell? ⟨w.heap.size + 1 + 1 + 1, 1, none⟩ = some (.int .i64 n3) ∧ x.cell? ⟨w.heap.size + 1 + 1 + 1, 2, none⟩ = some (.string s3) ∧ x.cell? ⟨w.heap.size + 1 + 1 + 1, 3, none⟩ = some (.slice a3 len3 cap3)) (go_keep)
              (first
                | (go_at_call 7
                   refine (unhide hto3 a3 cap3 _ ((unhide HL3).below (unhide hYV).drew)).mono ?_
                   rintro e w7 ⟨a7, f7, rfl, hO7, _, hb7⟩
                   have hb7' := hide (below_drew' hb7)
                   have HO7 := hide hO7.lies0
                   have HX7 := hide (((unhide HO3).below (unhide hY).drew).below hb7).lies0
                   have e0 := kpc (unhide hb7') c0
                   have e1 := kpc (unhide hb7') c1
                   have e2 := kpc (unhide hb7') c2
                   have e3 := kpc (unhide hb7') c3
                   have g0 := kpc (unhide hb7') d0
                   have g1 := kpc (unhide hb7') d1
                   have g2 := kpc (unhide hb7') d2
                   have g3 := kpc (unhide hb7') d3)
                | (go_at_call 9
                   refine (unhide heq t3 op3 n3 s3 b3 len3 len3 op3 n3 s3 a7 len3 len3 _ (unhide HX7) (unhide HO7)).mono ?_
                   rintro e w8 ⟨rfl, hb8⟩
                   have i0 := kpc hb8 e0
                   have i1 := kpc hb8 e1
                   have i2 := kpc hb8 e2
                   have i3 := kpc hb8 e3
                   have j0 := kpc hb8 g0
                   have j1 := kpc hb8 g1
                   have j2 := kpc hb8 g2
                   have j3 := kpc hb8 g3
                   have hb8' := hide hb8))
            have hY := hide (bt (bt (unhide hY) (unhide hb7') (Nat.le_refl _)) (unhide hb8') (Nat.le_refl _))
            clear c0 c1 c2 c3 d0 d1 d2 d3 e0 e1 e2 e3 g0 g1 g2 g3 i0 i1 i2 i3 j0 j1 j2 j3 hb7' hb8' HO7 HX7 hYV
            have hV := hide (bt (unhide hVG) (unhide hY) (Nat.le_refl _))
            have HX0 := hide ((unhide HX0).below (unhide hY))
            have HO0 := hide ((unhide HO0).below (unhide hY))
            have HX1 := hide ((unhide HX1).below (unhide hY))
            have HO1 := hide ((unhide HO1).below (unhide hY))
            have HX2 := hide ((unhide HX2).below (unhide hY))
            have HO2 := hide ((unhide HO2).below (unhide hY))
            have HX3 := hide ((unhide HX3).below (unhide hY))
            have HO3 := hide ((unhide HO3).below (unhide hY))
            have HG := hide ((unhide HG).below (unhide hY))
            have HOG := hide ((unhide HOG).below (unhide hY))
            clear hY hVG
            obtain ⟨c0, c1, c2, c3⟩ := (unhide HX0).facts
            go_wp2_with fail
            clear c0 c1 c2 c3
            refine (unhide hm0 b0 _ _ (unhide HO0) (unhide HND0)).mono ?_
            rintro e x0 ⟨rfl, o⟩
            have hV := hide ((unhide hV).trans (o.below (unhide hV).size (fun y hy => (unhide HI0 y hy).1)))
            have HX1 := hide ((unhide HX1).only o (fun hx => by have := unhide HI0 _ hx; have := unhide HJ0; have := unhide HJ1; have := unhide HJ2; have := unhide HJ3; have := unhide HJG; omega))
            have HO1 := hide ((unhide HO1).only o (fun y hy hx => by have := unhide HI0 _ hx; have := unhide HI1 _ hy; have := unhide HJ0; have := unhide HJ1; have := unhide HJ2; have := unhide HJ3; have := unhide HJG; omega))
            have HX2 := hide ((unhide HX2).only o (fun hx => by have := unhide HI0 _ hx; have := unhide HJ0; have := unhide HJ1; have := unhide HJ2; have := unhide HJ3; have := unhide HJG; omega))
            have HO2 := hide ((unhide HO2).only o (fun y hy hx => by have := unhide HI0 _ hx; have := unhide HI2 _ hy; have := unhide HJ0; have := unhide HJ1; have := unhide HJ2; have := unhide HJ3; have := unhide HJG; omega))
            have HX3 := hide ((unhide HX3).only o (fun hx => by have := unhide HI0 _ hx; have := unhide HJ0; have := unhide HJ1; have := unhide HJ2; have := unhide HJ3; have := unhide HJG; omega))
            have HO3 := hide ((unhide HO3).only o (fun y hy hx => by have := unhide HI0 _ hx; have := unhide HI3 _ hy; have := unhide HJ0; have := unhide HJ1; have := unhide HJ2; have := unhide HJ3; have := unhide HJG; omega))
            have HG := hide ((unhide HG).only o (fun hx => by have := unhide HI0 _ hx; have := unhide HJ0; have := unhide HJ1; have := unhide HJ2; have := unhide HJ3; have := unhide HJG; omega))
            have HOG := hide ((unhide HOG).only o (fun y hy hx => by have := unhide HI0 _ hx; have := unhide HIG _ hy; have := unhide HJ0; have := unhide HJ1; have := unhide HJ2; have := unhide HJ3; have := unhide HJG; omega))
            clear o HX0 HO0
            obtain ⟨c0, c1, c2, c3⟩ := (unhide HX1).facts
            go_wp2_with fail
            clear c0 c1 c2 c3
            refine (unhide hm1 b1 _ _ (unhide HO1) (unhide HND1)).mono ?_
            rintro e x1 ⟨rfl, o⟩
            have hV := hide ((unhide hV).trans (o.below (unhide hV).size (fun y hy => by have := unhide HI1 y hy; have := unhide HJ0; have := unhide HJ1; have := unhide HJ2; have := unhide HJ3; have := unhide HJG; omega)))
            have HX2 := hide ((unhide HX2).only o (fun hx => by have := unhide HI1 _ hx; have := unhide HJ0; have := unhide HJ1; have := unhide HJ2; have := unhide HJ3; have := unhide HJG; omega))
            have HO2 := hide ((unhide HO2).only o (fun y hy hx => by have := unhide HI1 _ hx; have := unhide HI2 _ hy; have := unhide HJ0; have := unhide HJ1; have := unhide HJ2; have := unhide HJ3; have := unhide HJG; omega))
            have HX3 := hide ((unhide HX3).only o (fun hx => by have := unhide HI1 _ hx; have := unhide HJ0; have := unhide HJ1; have := unhide HJ2; have := unhide HJ3; have := unhide HJG; omega))
            have HO3 := hide ((unhide HO3).only o (fun y hy hx => by have := unhide HI1 _ hx; have := unhide HI3 _ hy; have := unhide HJ0; have := unhide HJ1; have := unhide HJ2; have := unhide HJ3; have := unhide HJG; omega))
            have HG := hide ((unhide HG).only o (fun hx => by have := unhide HI1 _ hx; have := unhide HJ0; have := unhide HJ1; have := unhide HJ2; have := unhide HJ3; have := unhide HJG; omega))
            have HOG := hide ((unhide HOG).only o (fun y hy hx => by have := unhide HI1 _ hx; have := unhide HIG _ hy; have := unhide HJ0; have := unhide HJ1; have := unhide HJ2; have := unhide HJ3; have := unhide HJG; omega))
            clear o HX1 HO1
            obtain ⟨c0, c1, c2, c3⟩ := (unhide HX2).facts
            go_wp2_with fail
            clear c0 c1 c2 c3
            refine (unhide hm2 b2 _ _ (unhide HO2) (unhide HND2)).mono ?_
            rintro e x2 ⟨rfl, o⟩
            have hV := hide ((unhide hV).trans (o.below (unhide hV).size (fun y hy => by have := unhide HI2 y hy; have := unhide HJ0; have := unhide HJ1; have := unhide HJ2; have := unhide HJ3; have := unhide HJG; omega)))
            have HX3 := hide ((unhide HX3).only o (fun hx => by have := unhide HI2 _ hx; have := unhide HJ0; have := unhide HJ1; have := unhide HJ2; have := unhide HJ3; have := unhide HJG; omega))
            have HO3 := hide ((unhide HO3).only o (fun y hy hx => by have := unhide HI2 _ hx; have := unhide HI3 _ hy; have := unhide HJ0; have := unhide HJ1; have := unhide HJ2; have := unhide HJ3; have := unhide HJG; omega))
            have HG := hide ((unhide HG).only o (fun hx => by have := unhide HI2 _ hx; have := unhide HJ0; have := unhide HJ1; have := unhide HJ2; have := unhide HJ3; have := unhide HJG; omega))
            have HOG := hide ((unhide HOG).only o (fun y hy hx => by have := unhide HI2 _ hx; have := unhide HIG _ hy; have := unhide HJ0; have := unhide HJ1; have := unhide HJ2; have := unhide HJ3; have := unhide HJG; omega))
            clear o HX2 HO2
            obtain ⟨c0, c1, c2, c3⟩ := (unhide HX3).facts
            go_wp2_with fail
            clear c0 c1 c2 c3
            refine (unhide hm3 b3 _ _ (unhide HO3) (unhide HND3)).mono ?_
            rintro e x3 ⟨rfl, o⟩
            have hV := hide ((unhide hV).trans (o.below (unhide hV).size (fun y hy => by have := unhide HI3 y hy; have := unhide HJ0; have := unhide HJ1; have := unhide HJ2; have := unhide HJ3; have := unhide HJG; omega)))
            have HG := hide ((unhide HG).only o (fun hx => by have := unhide HI3 _ hx; have := unhide HJ0; have := unhide HJ1; have := unhide HJ2; have := unhide HJ3; have := unhide HJG; omega))
            have HOG := hide ((unhide HOG).only o (fun y hy hx => by have := unhide HI3 _ hx; have := unhide HIG _ hy; have := unhide HJ0; have := unhide HJ1; have := unhide HJ2; have := unhide HJ3; have := unhide HJG; omega))
            clear o HX3 HO3
            have hkn : ¬ ((k4 : Nat) : Int) < 0 := by omega
            obtain ⟨c0, c1, c2, c3⟩ := (unhide HG).facts
            obtain ⟨d0, d1, d2, d3⟩ := ((unhide HW).below (unhide hV)).facts
            go_wp2_with fail
            refine (unhide heq PT opG nG sG aG lenG capG opW nW sW aW lenW capW _ (unhide HOG).lies0 ((unhide HLW).below (unhide hV))).mono ?_
            rintro e r0 ⟨rfl, hb⟩
            have hV := hide (bt (unhide hV) hb (Nat.le_refl _))
            have HG := hide ((unhide HG).below hb)
            have HOG := hide ((unhide HOG).below hb)
            clear hb c0 c1 c2 c3 d0 d1 d2 d3
            obtain ⟨c0, c1, c2, c3⟩ := (unhide HG).facts
            go_wp2_with fail
            refine (unhide hmG opG nG sG aG lenG capG _ _ (unhide HOG) (unhide HNDG)).mono ?_
            rintro e r1 ⟨rfl, hM, o⟩
            have hV := hide ((unhide hV).trans (o.below (unhide hV).size (fun y hy => by have := unhide HIG y hy; have := unhide HJ0; have := unhide HJ1; have := unhide HJ2; have := unhide HJ3; have := unhide HJG; omega)))
            have HG := hide ((unhide HG).only o (fun hx => by have := unhide HIG _ hx; omega))
            have HGM := hide hM.lies0
            clear o hM HOG c0 c1 c2 c3
            obtain ⟨c0, c1, c2, c3⟩ := (unhide HG).facts
            go_wp2_with fail
            refine (unhide hhG opG nG sG aG lenG capG _ (unhide HGM)).mono ?_
            rintro e r2 ⟨rfl, hb⟩
            have hV := hide (bt (unhide hV) hb (Nat.le_refl _))
            have HG := hide ((unhide HG).below hb)
            have HGM := hide ((unhide HGM).below hb)
            clear hb c0 c1 c2 c3
            have HA0 := hide ((unhide HA0).below (unhide hV))
            have HL0 := hide ((unhide HL0).below (unhide hV))
            have HA1 := hide ((unhide HA1).below (unhide hV))
            have HL1 := hide ((unhide HL1).below (unhide hV))
            have HA2 := hide ((unhide HA2).below (unhide hV))
            have HL2 := hide ((unhide HL2).below (unhide hV))
            have HA3 := hide ((unhide HA3).below (unhide hV))
            have HL3 := hide ((unhide HL3).below (unhide hV))
            have HER := hide ((unhide HER).on (unhide hV))
            have HTB := hide ((unhide HTB).on (unhide hV))
            have HW := hide ((unhide HW).below (unhide hV))
            have HLW := hide ((unhide HLW).below (unhide hV))
            have HVB := hide (bt (unhide HVB) (unhide hV) (Nat.le_refl _))
            clear hV HI0 HJ0 HK0 HND0 hm0 HI1 HJ1 HK1 HND1 hm1 HI2 HJ2 HK2 HND2 hm2 HI3 HJ3 HK3 HND3 hm3 HIG HJG HNDG hmG
            go_wp2_with fail
            obtain ⟨c00, c01, c02, c03⟩ := (unhide HA0).facts
            obtain ⟨c10, c11, c12, c13⟩ := (unhide HA1).facts
            obtain ⟨c20, c21, c22, c23⟩ := (unhide HA2).facts
            obtain ⟨c30, c31, c32, c33⟩ := (unhide HA3).facts
            have m0ne0 := Nat.ne_of_lt (lt_of_cell c00)
            have m0en0 := Ne.symm m0ne0
            have m1ne0 := Nat.ne_of_lt (lt_of_cell c10)
            have m1en0 := Ne.symm m1ne0
            have m2ne0 := Nat.ne_of_lt (lt_of_cell c20)
            have m2en0 := Ne.symm m2ne0
            have m3ne0 := Nat.ne_of_lt (lt_of_cell c30)
            have m3en0 := Ne.symm m3ne0
            go_cut [21, 22] (fun p q wx => AnsCut PT B r2 p q wx)
            case first =>
              go_region_held3 (fun x => x.cell? ⟨w.heap.size, 0, none⟩ = some (.int .i64 op0) ∧ x.cell? ⟨w.heap.size, 1, none⟩ = some (.int .i64 n0) ∧ x.cell? ⟨w.heap.size, 2, none⟩ = some (.string s0) ∧ x.cell? ⟨w.heap.size, 3, none⟩ = some (.slice a0 len0 cap0) ∧ x.cell? ⟨w.heap.size + 1, 0, none⟩ = some (.int .i64 op1) ∧ x.cell? ⟨w.heap.size + 1, 1, none⟩ = some (.int .i64 n1) ∧ x.cell? ⟨w.heap.size + 1, 2, none⟩ = some (.string s1) ∧ x.cell? ⟨w.heap.size + 1, 3, none⟩ = some (.slice a1 len1 cap1) ∧ x.cell? ⟨w.heap.size + 1 + 1, 0, none⟩ = some (.int .i64 op2) ∧ x.cell? ⟨w.heap.size + 1 + 1, 1, none⟩ = some (.int .i64 n2) ∧ x.cell? ⟨w.heap.size + 1 + 1, 2, none⟩ = some (.string s2) ∧ x.cell? ⟨w.heap.size + 1 + 1, 3, none⟩ = some (.slice a2 len2 cap2) ∧ x.cell? ⟨w.heap.size + 1 + 1 + 1, 0, none⟩ = some (.int .i64 op3) ∧ x.cell? ⟨w.heap.size + 1 + 1 + 1, 1, none⟩ = some (.int .i64 n3) ∧ x.cell? ⟨w.heap.size + 1 + 1 + 1, 2, none⟩ = some (.string s3) ∧ x.cell? ⟨w.heap.size + 1 + 1 + 1, 3, none⟩ = some (.slice a3 len3 cap3)) (go_keep)
                (first
                  | (go_at_call_of 7 op0
                     have hc := fun V (hV : Below r2.heap.size r2 V) => unhide hto0 a0 cap0 V ((unhide HL0).below hV)
                     refine (hc _ ?_).mono ?_
                     first
                       | exact (Below.refl _ _).drew
                       | exact (ab _).drew
                     rintro e y0 ⟨b0, f0, rfl, hO, _, hb⟩
                     try have zz0 := hide ((ZBox.new r2).drew.below hb)
                     have hp0 : Hid (Below r2.heap.size r2 y0) := by
                       first
                         | exact below_drew' hb
                         | exact bt (ab _) (below_drew' hb) (Nat.le_refl _)
                     have h00 := hp0
                     have HT0 := hide hO.lies0
                     clear c00 c01 c02 c03 c10 c11 c12 c13 c20 c21 c22 c23 c30 c31 c32 c33 hb hO hc
                     obtain ⟨c00, c01, c02, c03⟩ := ((unhide HA0).below (unhide h00)).facts
                     obtain ⟨c10, c11, c12, c13⟩ := ((unhide HA1).below (unhide h00)).facts
                     obtain ⟨c20, c21, c22, c23⟩ := ((unhide HA2).below (unhide h00)).facts
                     obtain ⟨c30, c31, c32, c33⟩ := ((unhide HA3).below (unhide h00)).facts
                     have m0ne1 := Nat.ne_of_lt (lt_of_cell c00)
                     have m0en1 := Ne.symm m0ne1
                     have m1ne1 := Nat.ne_of_lt (lt_of_cell c10)
                     have m1en1 := Ne.symm m1ne1
                     have m2ne1 := Nat.ne_of_lt (lt_of_cell c20)
                     have m2en1 := Ne.symm m2ne1
                     have m3ne1 := Nat.ne_of_lt (lt_of_cell c30)
                     have m3en1 := Ne.symm m3ne1)
                  | (go_at_call_of 7 op1
                     have hc := fun V (hV : Below y0.heap.size y0 V) => unhide hto1 a1 cap1 V ((unhide HL1).below (bt (unhide h00) hV (Nat.le_refl _)))
                     refine (hc _ ?_).mono ?_
                     first
                       | exact Below.refl _ _
                       | exact ab _
                     rintro e y1 ⟨b1, f1, rfl, hO, _, hb⟩
                     try have zz1 := hide ((unhide zz0).below hb)
                     try have zz1 := hide ((ZBox.new y0).below hb)
                     have hp1 : Hid (Below y0.heap.size y0 y1) := by
                       first
                         | exact hb
                         | exact bt (ab _) hb (Nat.le_refl _)
                     have h01 := hide (bt (unhide h00) (unhide hp1) (Nat.le_refl _))
                     have HT1 := hide hO.lies0
                     have HT0 := hide ((unhide HT0).below (unhide hp1))
                     clear c00 c01 c02 c03 c10 c11 c12 c13 c20 c21 c22 c23 c30 c31 c32 c33 hb hO hc
                     obtain ⟨c00, c01, c02, c03⟩ := ((unhide HA0).below (unhide h01)).facts
                     obtain ⟨c10, c11, c12, c13⟩ := ((unhide HA1).below (unhide h01)).facts
                     obtain ⟨c20, c21, c22, c23⟩ := ((unhide HA2).below (unhide h01)).facts
                     obtain ⟨c30, c31, c32, c33⟩ := ((unhide HA3).below (unhide h01)).facts
                     have m0ne2 := Nat.ne_of_lt (lt_of_cell c00)
                     have m0en2 := Ne.symm m0ne2
                     have m1ne2 := Nat.ne_of_lt (lt_of_cell c10)
                     have m1en2 := Ne.symm m1ne2
                     have m2ne2 := Nat.ne_of_lt (lt_of_cell c20)
                     have m2en2 := Ne.symm m2ne2
                     have m3ne2 := Nat.ne_of_lt (lt_of_cell c30)
                     have m3en2 := Ne.symm m3ne2)
                  | (go_at_call_of 7 op2
                     have hc := fun V (hV : Below y1.heap.size y1 V) => unhide hto2 a2 cap2 V ((unhide HL2).below (bt (unhide h01) hV (Nat.le_refl _)))
                     refine (hc _ ?_).mono ?_
                     first
                       | exact Below.refl _ _
                       | exact ab _
                     rintro e y2 ⟨b2, f2, rfl, hO, _, hb⟩
                     try have zz2 := hide ((unhide zz1).below hb)
                     try have zz2 := hide ((ZBox.new y1).below hb)
                     have hp2 : Hid (Below y1.heap.size y1 y2) := by
                       first
                         | exact hb
                         | exact bt (ab _) hb (Nat.le_refl _)
                     have h02 := hide (bt (unhide h01) (unhide hp2) (Nat.le_refl _))
                     have HT2 := hide hO.lies0
                     have HT0 := hide ((unhide HT0).below (unhide hp2))
                     have HT1 := hide ((unhide HT1).below (unhide hp2))
                     clear c00 c01 c02 c03 c10 c11 c12 c13 c20 c21 c22 c23 c30 c31 c32 c33 hb hO hc
                     obtain ⟨c00, c01, c02, c03⟩ := ((unhide HA0).below (unhide h02)).facts
                     obtain ⟨c10, c11, c12, c13⟩ := ((unhide HA1).below (unhide h02)).facts
                     obtain ⟨c20, c21, c22, c23⟩ := ((unhide HA2).below (unhide h02)).facts
                     obtain ⟨c30, c31, c32, c33⟩ := ((unhide HA3).below (unhide h02)).facts
                     have m0ne3 := Nat.ne_of_lt (lt_of_cell c00)
                     have m0en3 := Ne.symm m0ne3
                     have m1ne3 := Nat.ne_of_lt (lt_of_cell c10)
                     have m1en3 := Ne.symm m1ne3
                     have m2ne3 := Nat.ne_of_lt (lt_of_cell c20)
                     have m2en3 := Ne.symm m2ne3
                     have m3ne3 := Nat.ne_of_lt (lt_of_cell c30)
                     have m3en3 := Ne.symm m3ne3)
                  | (go_at_call_of 7 op3
                     have hc := fun V (hV : Below y2.heap.size y2 V) => unhide hto3 a3 cap3 V ((unhide HL3).below (bt (unhide h02) hV (Nat.le_refl _)))
                     refine (hc _ ?_).mono ?_
                     first
                       | exact Below.refl _ _
                       | exact ab _
                     rintro e y3 ⟨b3, f3, rfl, hO, _, hb⟩
                     try have zz3 := hide ((unhide zz2).below hb)
                     try have zz3 := hide ((ZBox.new y2).below hb)
                     have hp3 : Hid (Below y2.heap.size y2 y3) := by
                       first
                         | exact hb
                         | exact bt (ab _) hb (Nat.le_refl _)
                     have h03 := hide (bt (unhide h02) (unhide hp3) (Nat.le_refl _))
                     have HT3 := hide hO.lies0
                     have HT0 := hide ((unhide HT0).below (unhide hp3))
                     have HT1 := hide ((unhide HT1).below (unhide hp3))
                     have HT2 := hide ((unhide HT2).below (unhide hp3))
                     clear c00 c01 c02 c03 c10 c11 c12 c13 c20 c21 c22 c23 c30 c31 c32 c33 hb hO hc
                     obtain ⟨c00, c01, c02, c03⟩ := ((unhide HA0).below (unhide h03)).facts
                     obtain ⟨c10, c11, c12, c13⟩ := ((unhide HA1).below (unhide h03)).facts
                     obtain ⟨c20, c21, c22, c23⟩ := ((unhide HA2).below (unhide h03)).facts
                     obtain ⟨c30, c31, c32, c33⟩ := ((unhide HA3).below (unhide h03)).facts
                     have m0ne4 := Nat.ne_of_lt (lt_of_cell c00)
                     have m0en4 := Ne.symm m0ne4
                     have m1ne4 := Nat.ne_of_lt (lt_of_cell c10)
                     have m1en4 := Ne.symm m1ne4
                     have m2ne4 := Nat.ne_of_lt (lt_of_cell c20)
                     have m2en4 := Ne.symm m2ne4
                     have m3ne4 := Nat.ne_of_lt (lt_of_cell c30)
                     have m3en4 := Ne.symm m3ne4)
                  | (go_at_call 8
                     have hc := fun V (hV : Below y3.heap.size y3 V) => unhide hI op0 n0 s0 b0 len0 len0 op1 n1 s1 b1 len1 len1 op2 n2 s2 b2 len2 len2 op3 n3 s3 b3 len3 len3 V ((unhide HT0).below hV) ((unhide HT1).below hV) ((unhide HT2).below hV) ((unhide HT3).below hV) ((unhide HER).on (bt (unhide h03) hV (Nat.le_refl _))) ((unhide HTB).on (bt (unhide h03) hV (Nat.le_refl _)))
                     refine (hc _ ?_).mono ?_
                     first
                       | exact Below.refl _ _
                       | exact ab _
                     rintro e y9 ⟨opW, nW, sW, aW, lenW, capW, fpW, rfl, hOX, ⟨_, hgeX⟩, hb⟩
                     have hLX := hOX.lies0
                     try have zz9 := hide ((unhide zz3).below hb)
                     try have zz9 := hide ((ZBox.new y3).below hb)
                     have hp9 : Hid (Below y3.heap.size y3 y9) := by
                       first
                         | exact hb
                         | exact bt (ab _) hb (Nat.le_refl _)
                     have h09 := hide (bt (unhide h03) (unhide hp9) (Nat.le_refl _))
                     have HLX := hide hLX
                     have HOX := hide hOX
                     have HGX := hide hgeX
                     clear c00 c01 c02 c03 c10 c11 c12 c13 c20 c21 c22 c23 c30 c31 c32 c33 hb hc hLX hOX hgeX
                     obtain ⟨c00, c01, c02, c03⟩ := ((unhide HA0).below (unhide h09)).facts
                     obtain ⟨c10, c11, c12, c13⟩ := ((unhide HA1).below (unhide h09)).facts
                     obtain ⟨c20, c21, c22, c23⟩ := ((unhide HA2).below (unhide h09)).facts
                     obtain ⟨c30, c31, c32, c33⟩ := ((unhide HA3).below (unhide h09)).facts
                     have m0ne9 := Nat.ne_of_lt (lt_of_cell c00)
                     have m0en9 := Ne.symm m0ne9
                     have m1ne9 := Nat.ne_of_lt (lt_of_cell c10)
                     have m1en9 := Ne.symm m1ne9
                     have m2ne9 := Nat.ne_of_lt (lt_of_cell c20)
                     have m2en9 := Ne.symm m2ne9
                     have m3ne9 := Nat.ne_of_lt (lt_of_cell c30)
                     have m3en9 := Ne.symm m3ne9
                     try obtain ⟨p0, p1, p2, p3, q0, q1, q2, q3⟩ := (unhide zz9).facts))
              all_goals
                go_wp2_with fail
                go_meet
                first
                  | (with_reducible refine AnsCut.late ?_ ?_
                     exact unhide h09
                     exact unhide HLX)
                  | (with_reducible refine AnsCut.early ?_ ?_ ?_ ?_
                     exact unhide h09
                     exact unhide zz9
                     (have s0 := (unhide h00).size; have s1 := (unhide h01).size; have s2 := (unhide h02).size; have s3 := (unhide h03).size; omega)
                     refine (Own.keep _ _ _ (unhide HOX) fun y hy => set4_heap _ _ _ _ _ _ y ?_).lies0
                     have k1 := unhide HGX y hy
                     first
                       | (have := lt_of_heap (unhide zz3); omega)
                       | (rw [heap_size_alloc] at k1; omega))
            case rest =>
              obtain ⟨bH, opH, nH, sH, aH, lenH, capH, rfl, rfl, hRH, hLH, hbc⟩ := hcut
              obtain ⟨d0, d1, d2, d3⟩ := ((unhide HW).below hbc).facts
              obtain ⟨e0, e1, e2, e3⟩ := hRH.facts
              have HVB := hide (bt (unhide HVB) hbc (Nat.le_refl _))
              have HG := hide ((unhide HG).below hbc)
              have HGM := hide ((unhide HGM).below hbc)
              have HLW := hide ((unhide HLW).below hbc)
              have HLH := hide hLH
              clear hRH hLH hbc c00 c01 c02 c03 c10 c11 c12 c13 c20 c21 c22 c23 c30 c31 c32 c33 m0ne0 m0en0 m1ne0 m1en0 m2ne0 m2en0 m3ne0 m3en0
              go_wp2_with fail
              refine (unhide heq PT opH nH sH aH lenH capH opW nW sW aW lenW capW _ (unhide HLH) (unhide HLW)).mono ?_
              rintro e r3 ⟨rfl, hb⟩
              have HVB := hide (bt (unhide HVB) hb (Nat.le_refl _))
              have HG := hide ((unhide HG).below hb)
              have HGM := hide ((unhide HGM).below hb)
              clear hb d0 d1 d2 d3 e0 e1 e2 e3
              obtain ⟨c0, c1, c2, c3⟩ := (unhide HG).facts
              go_wp2_with fail
              refine (unhide hhG opG nG sG aG lenG capG _ (unhide HGM)).mono ?_
              rintro e r4 ⟨rfl, hb⟩
              have HVB := hide (bt (unhide HVB) hb (Nat.le_refl _))
              clear hb c0 c1 c2 c3
              go_wp2_with fail
              go_ret
              exact ⟨rfl, unhide HVB⟩
        · clear hS0 hI0
          go_enter Tryz.func3, Tryz.ntmps3
          go_wp2_with fail
          generalize hgw : ((((w.alloc (.cells #[.int .i64 op0, .int .i64 n0, .string s0, .slice a0 len0 cap0] 24)).alloc (.cells #[.int .i64 op1, .int .i64 n1, .string s1, .slice a1 len1 cap1] 24)).alloc (.cells #[.int .i64 op2, .int .i64 n2, .string s2, .slice a2 len2 cap2] 24)).alloc (.cells #[.int .i64 op3, .int .i64 n3, .string s3, .slice a3 len3 cap3] 24)) = W1 at *
          clear hgw
          refine (unhide hsz0 op0 n0 s0 a0 len0 cap0 _ _ (unhide HL0) (by omega) (by omega)).mono ?_
          rintro e v0 ⟨rfl, hb⟩
          rw [szv_yes hw0, hgl0]
          have hv0 : Hid (Below W1.heap.size W1 v0) := hb
          clear hb
          obtain ⟨c0, c1, c2, c3⟩ := ((unhide HA1).below (unhide hv0)).facts
          go_wp2_with fail
          clear c0 c1 c2 c3
          refine (unhide hsz1 op1 n1 s1 a1 len1 cap1 _ _ ((unhide HL1).below (unhide hv0)) (by omega) (by omega)).mono ?_
          rintro e v1 ⟨rfl, hb⟩
          rw [szv_yes hw1, hgl1]
          have hv1 : Hid (Below W1.heap.size W1 v1) := bt (unhide hv0) hb (Nat.le_refl _)
          clear hb
          obtain ⟨c0, c1, c2, c3⟩ := ((unhide HA2).below (unhide hv1)).facts
          go_wp2_with fail
          clear c0 c1 c2 c3
          refine (unhide hsz2 op2 n2 s2 a2 len2 cap2 _ _ ((unhide HL2).below (unhide hv1)) (by omega) (by omega)).mono ?_
          rintro e v2 ⟨rfl, hb⟩
          rw [szv_yes hw2, hgl2]
          have hv2 : Hid (Below W1.heap.size W1 v2) := bt (unhide hv1) hb (Nat.le_refl _)
          clear hb
          obtain ⟨c0, c1, c2, c3⟩ := ((unhide HA3).below (unhide hv2)).facts
          go_wp2_with fail
          clear c0 c1 c2 c3
          refine (unhide hsz3 op3 n3 s3 a3 len3 cap3 _ _ ((unhide HL3).below (unhide hv2)) (by omega) (by omega)).mono ?_
          rintro e v3 ⟨rfl, hb⟩
          rw [szv_no (by omega)]
          go_wp2_with fail
          go_ret
          exact ⟨rfl, bt (unhide HB0) (bt (unhide hv2) hb (Nat.le_refl _)) (Nat.le_refl _)⟩
      · clear hS0 hI0
        go_enter Tryz.func3, Tryz.ntmps3
        go_wp2_with fail
        generalize hgw : ((((w.alloc (.cells #[.int .i64 op0, .int .i64 n0, .string s0, .slice a0 len0 cap0] 24)).alloc (.cells #[.int .i64 op1, .int .i64 n1, .string s1, .slice a1 len1 cap1] 24)).alloc (.cells #[.int .i64 op2, .int .i64 n2, .string s2, .slice a2 len2 cap2] 24)).alloc (.cells #[.int .i64 op3, .int .i64 n3, .string s3, .slice a3 len3 cap3] 24)) = W1 at *
        clear hgw
        refine (unhide hsz0 op0 n0 s0 a0 len0 cap0 _ _ (unhide HL0) (by omega) (by omega)).mono ?_
        rintro e v0 ⟨rfl, hb⟩
        rw [szv_yes hw0, hgl0]
        have hv0 : Hid (Below W1.heap.size W1 v0) := hb
        clear hb
        obtain ⟨c0, c1, c2, c3⟩ := ((unhide HA1).below (unhide hv0)).facts
        go_wp2_with fail
        clear c0 c1 c2 c3
        refine (unhide hsz1 op1 n1 s1 a1 len1 cap1 _ _ ((unhide HL1).below (unhide hv0)) (by omega) (by omega)).mono ?_
        rintro e v1 ⟨rfl, hb⟩
        rw [szv_yes hw1, hgl1]
        have hv1 : Hid (Below W1.heap.size W1 v1) := bt (unhide hv0) hb (Nat.le_refl _)
        clear hb
        obtain ⟨c0, c1, c2, c3⟩ := ((unhide HA2).below (unhide hv1)).facts
        go_wp2_with fail
        clear c0 c1 c2 c3
        refine (unhide hsz2 op2 n2 s2 a2 len2 cap2 _ _ ((unhide HL2).below (unhide hv1)) (by omega) (by omega)).mono ?_
        rintro e v2 ⟨rfl, hb⟩
        rw [szv_no (by omega)]
        go_wp2_with fail
        go_ret
        exact ⟨rfl, bt (unhide HB0) (bt (unhide hv1) hb (Nat.le_refl _)) (Nat.le_refl _)⟩
    · clear hS0 hI0
      go_enter Tryz.func3, Tryz.ntmps3
      go_wp2_with fail
      generalize hgw : ((((w.alloc (.cells #[.int .i64 op0, .int .i64 n0, .string s0, .slice a0 len0 cap0] 24)).alloc (.cells #[.int .i64 op1, .int .i64 n1, .string s1, .slice a1 len1 cap1] 24)).alloc (.cells #[.int .i64 op2, .int .i64 n2, .string s2, .slice a2 len2 cap2] 24)).alloc (.cells #[.int .i64 op3, .int .i64 n3, .string s3, .slice a3 len3 cap3] 24)) = W1 at *
      clear hgw
      refine (unhide hsz0 op0 n0 s0 a0 len0 cap0 _ _ (unhide HL0) (by omega) (by omega)).mono ?_
      rintro e v0 ⟨rfl, hb⟩
      rw [szv_yes hw0, hgl0]
      have hv0 : Hid (Below W1.heap.size W1 v0) := hb
      clear hb
      obtain ⟨c0, c1, c2, c3⟩ := ((unhide HA1).below (unhide hv0)).facts
      go_wp2_with fail
      clear c0 c1 c2 c3
      refine (unhide hsz1 op1 n1 s1 a1 len1 cap1 _ _ ((unhide HL1).below (unhide hv0)) (by omega) (by omega)).mono ?_
      rintro e v1 ⟨rfl, hb⟩
      rw [szv_no (by omega)]
      go_wp2_with fail
      go_ret
      exact ⟨rfl, bt (unhide HB0) (bt (unhide hv0) hb (Nat.le_refl _)) (Nat.le_refl _)⟩
  · clear hS0 hI0
    go_enter Tryz.func3, Tryz.ntmps3
    go_wp2_with fail
    generalize hgw : ((((w.alloc (.cells #[.int .i64 op0, .int .i64 n0, .string s0, .slice a0 len0 cap0] 24)).alloc (.cells #[.int .i64 op1, .int .i64 n1, .string s1, .slice a1 len1 cap1] 24)).alloc (.cells #[.int .i64 op2, .int .i64 n2, .string s2, .slice a2 len2 cap2] 24)).alloc (.cells #[.int .i64 op3, .int .i64 n3, .string s3, .slice a3 len3 cap3] 24)) = W1 at *
    clear hgw
    refine (unhide hsz0 op0 n0 s0 a0 len0 cap0 _ _ (unhide HL0) (by omega) (by omega)).mono ?_
    rintro e v0 ⟨rfl, hb⟩
    rw [szv_no (by omega)]
    go_wp2_with fail
    go_ret
    exact ⟨rfl, bt (unhide HB0) (hb) (Nat.le_refl _)⟩

/-- The law at whatever four terms. -/
theorem lawReply (t0 t1 t2 t3 : Tm) (op0 n0 : Int) (s0 : ByteArray) (a0 : Option Addr) (len0 cap0 : Nat) (op1 n1 : Int) (s1 : ByteArray) (a1 : Option Addr) (len1 cap1 : Nat) (op2 n2 : Int) (s2 : ByteArray) (a2 : Option Addr) (len2 cap2 : Nat) (op3 n3 : Int) (s3 : ByteArray) (a3 : Option Addr) (len3 cap3 : Nat) (w : World) (hl0 : Lies w 0 t0 (tmCells op0 n0 s0 a0 len0 cap0)) (hl1 : Lies w 0 t1 (tmCells op1 n1 s1 a1 len1 cap1)) (hl2 : Lies w 0 t2 (tmCells op2 n2 s2 a2 len2 cap2)) (hl3 : Lies w 0 t3 (tmCells op3 n3 s3 a3 len3 cap3)) (htab : Tab w) (herr : Err w) :
    Calls Tryz.prog 3 #[.agg #[.int .i64 op0, .int .i64 n0, .string s0, .slice a0 len0 cap0], .agg #[.int .i64 op1, .int .i64 n1, .string s1, .slice a1 len1 cap1], .agg #[.int .i64 op2, .int .i64 n2, .string s2, .slice a2 len2 cap2], .agg #[.int .i64 op3, .int .i64 n3, .string s3, .slice a3 len3 cap3]] w fun e w' => e = .returned (.bool true) ∧ Below w.heap.size w w' := by
  obtain ⟨x, hx⟩ := herr
  exact lawReply0 t0 t1 t2 t3 (replyT t0 t1 t2 t3) (replyB t0 t1 t2 t3) x (replyT200 _ _ _ _) (fun op0 n0 s0 a0 len0 cap0 op1 n1 s1 a1 len1 cap1 op2 n2 s2 a2 len2 cap2 op3 n3 s3 a3 len3 cap3 w g0 g1 g2 g3 hs => replyS t0 t1 t2 t3 op0 n0 s0 a0 len0 cap0 op1 n1 s1 a1 len1 cap1 op2 n2 s2 a2 len2 cap2 op3 n3 s3 a3 len3 cap3 w g0 g1 g2 g3 hs) (fun op0 n0 s0 a0 len0 cap0 op1 n1 s1 a1 len1 cap1 op2 n2 s2 a2 len2 cap2 op3 n3 s3 a3 len3 cap3 w g0 g1 g2 g3 hs he ht => replyI t0 t1 t2 t3 op0 n0 s0 a0 len0 cap0 op1 n1 s1 a1 len1 cap1 op2 n2 s2 a2 len2 cap2 op3 n3 s3 a3 len3 cap3 x w he ht g0 g1 g2 g3 hs) op0 n0 s0 a0 len0 cap0 op1 n1 s1 a1 len1 cap1 op2 n2 s2 a2 len2 cap2 op3 n3 s3 a3 len3 cap3 w hl0 hl1 hl2 hl3 htab hx

end Go.Proofs.YtacmpodanebglaaGreatDoor
