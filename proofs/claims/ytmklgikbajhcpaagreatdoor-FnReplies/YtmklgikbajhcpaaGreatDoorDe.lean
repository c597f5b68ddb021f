
/- The walk of spec.Agree: of whatever two terms lie in memory it answers the share of the first and the kid of the second, in order, and true, where the second is a right open half and the share is right; else the zero term and false; nothing that was there is written. The cursor of the draws, as it lies in memory; the walks of spec.l1Byte, l1Below, l1Once: what is drawn lies within its bounds; only the cursor's own block is written. What is drawn: a term of at most so many, that lies in new blocks; the walk of spec.l1DrawRight. The walk of spec.l1Draw: some term of at most so many, that lies in new blocks; only the cursor's own block is written. Draws of chapter 4: a host out of six; a number out of a list; nothing but the cursor is written. The six hosts that are drawn are right. Draws of chapter 4: certificates and terms of them; nothing but the cursor is written. Draws of chapter 4: a certificate, right or not; nothing but the cursor is written. A right certificate whose open half is not too great comes to a right term; the six hosts that are drawn are right. Draws of chapter 4: a term of a certificate, or another one; nothing but the cursor is written. -/
import Derived.Test.YtmklgikbajhcpaaGreatDoorTx
import Derived.Deep.DeepCutAuto
import Derived.Test.YtmklgikbajhcpaaGreatDoorTp
import Derived.Deep.QuietTactic
import Derived.BigQuiet
import Derived.Laws.Bits64b
import Derived.Test.YtmklgikbajhcpaaGreatDoorHj
import Derived.Test.YtmklgikbajhcpaaGreatDoorSx
import Derived.Deep.RegionHeld3
import Derived.ArgAppend
import Derived.Test.YtmklgikbajhcpaaGreatDoorCv
namespace Go.Proofs.YtmklgikbajhcpaaGreatDoor
open Go.RowKit Go.Deep

/-- The share of two terms, in order. -/
def shareT (t k : Tm) : Tm := if beforeB k t = true then .node 5 0 ByteArray.empty [k, t] else .node 5 0 ByteArray.empty [t, k]
/-- What spec.Agree answers. -/
def agreeB (t : Tm) : Tm → Bool
  | .node op n s ks => match ks with
    | [k] => decide (op = 4) && okT (.node op n s [k]) && okT (shareT t k)
    | _ => false
def agreeT (t : Tm) : Tm → Tm
  | .node op n s ks => match ks with
    | [k] => pickT (agreeB t (.node op n s [k])) (shareT t k)
    | _ => .node 0 0 ByteArray.empty []

set_option maxRecDepth 100000 in
set_option maxHeartbeats 1000000 in
theorem agree_no1 (op n : Int) (s : ByteArray) (a : Option Addr) (len cap : Nat) (op2 n2 : Int) (s2 : ByteArray) (a2 : Option Addr) (len2 cap2 : Nat) (w : World) (h4 : op2 ≠ 4) :
    Calls Tryz.prog 73 #[.agg #[.int .i64 op, .int .i64 n, .string s, .slice a len cap], .agg #[.int .i64 op2, .int .i64 n2, .string s2, .slice a2 len2 cap2]] w fun e w' => e = .returned (.tuple #[.agg #[.int .i64 0, .int .i64 0, .string ByteArray.empty, .slice none 0 0], .bool false]) ∧ Below w.heap.size w w' := by
  have hB0 : Below w.heap.size w (((w.alloc (.cells #[.int .i64 op, .int .i64 n, .string s, .slice a len cap] 29)).alloc (.cells #[.int .i64 op2, .int .i64 n2, .string s2, .slice a2 len2 cap2] 29)).alloc (.cells #[.int .i64 0, .int .i64 0, .string ByteArray.empty, .slice none 0 0] 29)) := bt (bt (ab _) (ab _) (Nat.le_refl _)) (ab _) (Nat.le_refl _)
  have HB0 := hide hB0
  have hX : ZBox (((w.alloc (.cells #[.int .i64 op, .int .i64 n, .string s, .slice a len cap] 29)).alloc (.cells #[.int .i64 op2, .int .i64 n2, .string s2, .slice a2 len2 cap2] 29)).alloc (.cells #[.int .i64 0, .int .i64 0, .string ByteArray.empty, .slice none 0 0] 29)) (w.heap.size + 1 + 1) := by
    have := ZBox.new ((w.alloc (.cells #[.int .i64 op, .int .i64 n, .string s, .slice a len cap] 29)).alloc (.cells #[.int .i64 op2, .int .i64 n2, .string s2, .slice a2 len2 cap2] 29))
    rwa [heap_size_alloc, heap_size_alloc] at this
  have HX := hide hX
  obtain ⟨d0, d1, d2, d3, e0, e1, e2, e3⟩ := (unhide HX).facts
  clear hB0 hX
  have q1 : (op2 != 4) = true := by simpa using h4
  go_enter Tryz.func73, Tryz.ntmps73
  go_wp2_with fail
  exact bodyPost_ret (v := .tuple #[.agg #[.int .i64 0, .int .i64 0, .string ByteArray.empty, .slice none 0 0], .bool false]) (by simp [results, Tryz.results73, go_sem]; rfl) rfl ⟨rfl, unhide HB0⟩

set_option maxRecDepth 100000 in
set_option maxHeartbeats 1000000 in
theorem agree_no2 (op n : Int) (s : ByteArray) (a : Option Addr) (len cap : Nat) (op2 n2 : Int) (s2 : ByteArray) (a2 : Option Addr) (len2 cap2 : Nat) (w : World) (h4 : op2 = 4) (h1 : len2 ≠ 1) :
    Calls Tryz.prog 73 #[.agg #[.int .i64 op, .int .i64 n, .string s, .slice a len cap], .agg #[.int .i64 op2, .int .i64 n2, .string s2, .slice a2 len2 cap2]] w fun e w' => e = .returned (.tuple #[.agg #[.int .i64 0, .int .i64 0, .string ByteArray.empty, .slice none 0 0], .bool false]) ∧ Below w.heap.size w w' := by
  subst h4
  have hB0 : Below w.heap.size w (((w.alloc (.cells #[.int .i64 op, .int .i64 n, .string s, .slice a len cap] 29)).alloc (.cells #[.int .i64 4, .int .i64 n2, .string s2, .slice a2 len2 cap2] 29)).alloc (.cells #[.int .i64 0, .int .i64 0, .string ByteArray.empty, .slice none 0 0] 29)) := bt (bt (ab _) (ab _) (Nat.le_refl _)) (ab _) (Nat.le_refl _)
  have HB0 := hide hB0
  have hX : ZBox (((w.alloc (.cells #[.int .i64 op, .int .i64 n, .string s, .slice a len cap] 29)).alloc (.cells #[.int .i64 4, .int .i64 n2, .string s2, .slice a2 len2 cap2] 29)).alloc (.cells #[.int .i64 0, .int .i64 0, .string ByteArray.empty, .slice none 0 0] 29)) (w.heap.size + 1 + 1) := by
    have := ZBox.new ((w.alloc (.cells #[.int .i64 op, .int .i64 n, .string s, .slice a len cap] 29)).alloc (.cells #[.int .i64 4, .int .i64 n2, .string s2, .slice a2 len2 cap2] 29))
    rwa [heap_size_alloc, heap_size_alloc] at this
  have HX := hide hX
  obtain ⟨d0, d1, d2, d3, e0, e1, e2, e3⟩ := (unhide HX).facts
  clear hB0 hX
  have q1 : (((len2 : Nat) : Int) != 1) = true := by simp; omega
  go_enter Tryz.func73, Tryz.ntmps73
  go_wp2_with fail
  exact bodyPost_ret (v := .tuple #[.agg #[.int .i64 0, .int .i64 0, .string ByteArray.empty, .slice none 0 0], .bool false]) (by simp [results, Tryz.results73, go_sem]; rfl) rfl ⟨rfl, unhide HB0⟩

set_option maxRecDepth 100000 in
set_option maxHeartbeats 1000000 in
theorem agree_no3 (u : Tm) (op n : Int) (s : ByteArray) (a : Option Addr) (len cap : Nat) (op2 n2 : Int) (s2 : ByteArray) (a2 : Option Addr) (len2 cap2 : Nat) (w : World) (h4 : op2 = 4) (h1 : len2 = 1) (hl : Lies w 0 u (tmCells op2 n2 s2 a2 len2 cap2)) (hsz : u.size ≤ 2097152) (hok : okT u = false) :
    Calls Tryz.prog 73 #[.agg #[.int .i64 op, .int .i64 n, .string s, .slice a len cap], .agg #[.int .i64 op2, .int .i64 n2, .string s2, .slice a2 len2 cap2]] w fun e w' => e = .returned (.tuple #[.agg #[.int .i64 0, .int .i64 0, .string ByteArray.empty, .slice none 0 0], .bool false]) ∧ Below w.heap.size w w' := by
  subst h4 h1
  have h35 := hide (ok8 u 4 n2 s2 a2 1 cap2)
  rw [hok] at h35
  have hB0 : Below w.heap.size w (((w.alloc (.cells #[.int .i64 op, .int .i64 n, .string s, .slice a len cap] 29)).alloc (.cells #[.int .i64 4, .int .i64 n2, .string s2, .slice a2 1 cap2] 29)).alloc (.cells #[.int .i64 0, .int .i64 0, .string ByteArray.empty, .slice none 0 0] 29)) := bt (bt (ab _) (ab _) (Nat.le_refl _)) (ab _) (Nat.le_refl _)
  have HB0 := hide hB0
  have hX : ZBox (((w.alloc (.cells #[.int .i64 op, .int .i64 n, .string s, .slice a len cap] 29)).alloc (.cells #[.int .i64 4, .int .i64 n2, .string s2, .slice a2 1 cap2] 29)).alloc (.cells #[.int .i64 0, .int .i64 0, .string ByteArray.empty, .slice none 0 0] 29)) (w.heap.size + 1 + 1) := by
    have := ZBox.new ((w.alloc (.cells #[.int .i64 op, .int .i64 n, .string s, .slice a len cap] 29)).alloc (.cells #[.int .i64 4, .int .i64 n2, .string s2, .slice a2 1 cap2] 29))
    rwa [heap_size_alloc, heap_size_alloc] at this
  have HX := hide hX
  have HL := hide (hl.below hB0)
  obtain ⟨d0, d1, d2, d3, e0, e1, e2, e3⟩ := (unhide HX).facts
  clear hB0 hX hl hok
  go_enter Tryz.func73, Tryz.ntmps73
  go_wp2_with fail
  refine (unhide h35 _ (unhide HL) hsz).mono ?_
  rintro e w2 ⟨rfl, hb2⟩
  have HB2 := hide (bt (unhide HB0) hb2 (Nat.le_refl _))
  clear d0 d1 d2 d3 e0 e1 e2 e3
  obtain ⟨d0, d1, d2, d3, e0, e1, e2, e3⟩ := ((unhide HX).below hb2).facts
  clear hb2
  go_wp2_with fail
  exact bodyPost_ret (v := .tuple #[.agg #[.int .i64 0, .int .i64 0, .string ByteArray.empty, .slice none 0 0], .bool false]) (by simp [results, Tryz.results73, go_sem, d0, d1, d2, d3]; rfl) rfl ⟨rfl, set4_below (unhide HB2) (by omega)⟩

/-- Two boxes, with a term each. -/
def AgCut (w2 : World) (op n : Int) (s : ByteArray) (a : Option Addr) (len cap : Nat) (op3 n3 : Int) (s3 : ByteArray) (a3 : Option Addr) (len3 cap3 : Nat) (p q : Value) (wx : World) : Prop := ∃ b6 b7, p = .pointer (some ⟨b6, 0, none⟩) ∧ q = .pointer (some ⟨b7, 0, none⟩) ∧ b6 ≠ b7 ∧ (w2.heap.size ≤ b6 ∧ w2.heap.size ≤ b7) ∧ RowT 29 wx b6 op n s a len cap ∧ RowT 29 wx b7 op3 n3 s3 a3 len3 cap3 ∧ Below w2.heap.size w2 wx

theorem AgCut.one (w2 : World) (op n : Int) (s : ByteArray) (a : Option Addr) (len cap : Nat) (op3 n3 : Int) (s3 : ByteArray) (a3 : Option Addr) (len3 cap3 : Nat) : AgCut w2 op n s a len cap op3 n3 s3 a3 len3 cap3 (.pointer (some ⟨w2.heap.size, 0, none⟩)) (.pointer (some ⟨w2.heap.size + 1, 0, none⟩)) ((w2.alloc (.cells #[.int .i64 op, .int .i64 n, .string s, .slice a len cap] 29)).alloc (.cells #[.int .i64 op3, .int .i64 n3, .string s3, .slice a3 len3 cap3] 29)).drew := by
  have h2 := RowT.new 29 (w2.alloc (.cells #[.int .i64 op, .int .i64 n, .string s, .slice a len cap] 29)) op3 n3 s3 a3 len3 cap3
  rw [heap_size_alloc] at h2
  have h1 := (RowT.new 29 w2 op n s a len cap).below (ab (.cells #[.int .i64 op3, .int .i64 n3, .string s3, .slice a3 len3 cap3] 29))
  have hb := bt (ab (w := w2) (.cells #[.int .i64 op, .int .i64 n, .string s, .slice a len cap] 29)) (ab (.cells #[.int .i64 op3, .int .i64 n3, .string s3, .slice a3 len3 cap3] 29)) (Nat.le_refl _)
  exact ⟨_, _, rfl, rfl, by omega, ⟨Nat.le_refl _, by omega⟩, h1, h2, hb.drew⟩
theorem AgCut.two (w2 : World) (op n : Int) (s : ByteArray) (a : Option Addr) (len cap : Nat) (op3 n3 : Int) (s3 : ByteArray) (a3 : Option Addr) (len3 cap3 : Nat) : AgCut w2 op n s a len cap op3 n3 s3 a3 len3 cap3 (.pointer (some ⟨w2.heap.size + 1, 0, none⟩)) (.pointer (some ⟨w2.heap.size, 0, none⟩)) ((w2.alloc (.cells #[.int .i64 op3, .int .i64 n3, .string s3, .slice a3 len3 cap3] 29)).alloc (.cells #[.int .i64 op, .int .i64 n, .string s, .slice a len cap] 29)).drew := by
  have h2 := RowT.new 29 (w2.alloc (.cells #[.int .i64 op3, .int .i64 n3, .string s3, .slice a3 len3 cap3] 29)) op n s a len cap
  rw [heap_size_alloc] at h2
  have h1 := (RowT.new 29 w2 op3 n3 s3 a3 len3 cap3).below (ab (.cells #[.int .i64 op, .int .i64 n, .string s, .slice a len cap] 29))
  have hb := bt (ab (w := w2) (.cells #[.int .i64 op3, .int .i64 n3, .string s3, .slice a3 len3 cap3] 29)) (ab (.cells #[.int .i64 op, .int .i64 n, .string s, .slice a len cap] 29)) (Nat.le_refl _)
  exact ⟨_, _, rfl, rfl, by omega, ⟨by omega, Nat.le_refl _⟩, h2, h1, hb.drew⟩

theorem RowT.thaw {ty : TypeId} {w : World} {b : Nat} {op n : Int} {s : ByteArray} {a : Option Addr} {len cap : Nat} (h : RowT ty w b op n s a len cap) : w.frozen? ⟨b, 0, none⟩ = false ∧ w.frozen? ⟨b, 1, none⟩ = false ∧ w.frozen? ⟨b, 2, none⟩ = false ∧ w.frozen? ⟨b, 3, none⟩ = false :=
  ⟨frozen_of_row h, frozen_of_row h, frozen_of_row h, frozen_of_row h⟩

theorem share_op {w : World} {L : Nat} {t k x y : Tm} {op n : Int} {s : ByteArray} {a : Option Addr} {len cap : Nat} (h : Lies w L (pickT true (shareT t k)) (tmCells op n s a len cap)) (hs : shareT t k = .node 5 0 ByteArray.empty [x, y]) : op = 5 := by
  rw [hs] at h
  simp only [pickT, if_true, Lies, tmCells, List.cons.injEq, Value.int.injEq, true_and] at h
  obtain ⟨_, _, ⟨rfl, _⟩, _⟩ := h
  rfl
theorem zero_op {w : World} {L : Nat} {t : Tm} {op n : Int} {s : ByteArray} {a : Option Addr} {len cap : Nat} (h : Lies w L (pickT false t) (tmCells op n s a len cap)) : op = 0 := by
  simp only [pickT, Bool.false_eq_true, if_false, Lies, tmCells, List.cons.injEq, Value.int.injEq, true_and] at h
  obtain ⟨_, _, ⟨rfl, _⟩, _⟩ := h
  rfl

set_option maxRecDepth 100000 in
set_option maxHeartbeats 2000000 in
theorem agree_yes (t k : Tm) (op n : Int) (s : ByteArray) (a : Option Addr) (len cap : Nat) (op2 n2 : Int) (s2 : ByteArray) (a2 : Option Addr) (len2 cap2 : Nat) (w : World) (h4 : op2 = 4) (h1 : len2 = 1) (hl : Lies w 0 t (tmCells op n s a len cap)) (hl2 : Lies w 0 (.node 4 n2 s2 [k]) (tmCells op2 n2 s2 a2 len2 cap2)) (hsz : t.size + k.size ≤ 2097150) (hok : okT (.node 4 n2 s2 [k]) = true) :
    Calls Tryz.prog 73 #[.agg #[.int .i64 op, .int .i64 n, .string s, .slice a len cap], .agg #[.int .i64 op2, .int .i64 n2, .string s2, .slice a2 len2 cap2]] w fun e w' => ∃ op' n' s' a' len' cap', e = .returned (.tuple #[.agg #[.int .i64 op', .int .i64 n', .string s', .slice a' len' cap'], .bool (okT (shareT t k))]) ∧ Lies w' w.heap.size (pickT (okT (shareT t k)) (shareT t k)) (tmCells op' n' s' a' len' cap') ∧ Below w.heap.size w w' ∧ len' = cap' := by
  subst h4 h1
  have h35 := hide (ok8 (.node 4 n2 s2 [k]) 4 n2 s2 a2 1 cap2)
  rw [hok] at h35
  have hZ2 : (Tm.node 4 n2 s2 [k]).size ≤ 2097152 := by simp only [Tm.size, Tm.sizes]; omega
  obtain ⟨b, o, op3, n3, s3, a3, len3, cap3, rfl, _, hbl, k0, k1, k2, k3, hk⟩ : ∃ b o op3 n3 s3 a3 len3 cap3, a2 = some ⟨b, o, none⟩ ∧ True ∧ b < w.heap.size ∧ w.cell? ⟨b, o, none⟩ = some (.int .i64 op3) ∧ w.cell? ⟨b, o + 1, none⟩ = some (.int .i64 n3) ∧ w.cell? ⟨b, o + 2, none⟩ = some (.string s3) ∧ w.cell? ⟨b, o + 3, none⟩ = some (.slice a3 len3 cap3) ∧ Lies w 0 k (tmCells op3 n3 s3 a3 len3 cap3) := by
    have hx := hl2
    simp only [Lies, tmCells, List.cons.injEq, Value.slice.injEq, true_and, and_true] at hx
    obtain ⟨a9, c9, ⟨rfl, _, rfl⟩, _, _, hka⟩ := hx
    obtain ⟨b, o, op3, n3, s3, a3, len3, cap3, h1, _, h2, h3, h4, h5, h6, h7⟩ := hka.elem (k := 0) (by simp)
    simp only [Nat.zero_mul, Nat.add_zero] at h3 h4 h5 h6
    exact ⟨b, o, op3, n3, s3, a3, len3, cap3, h1, trivial, h2, h3, h4, h5, h6, h7⟩
  have HBF := hide (bf_calls k t op3 n3 s3 a3 len3 cap3 op n s a len cap)
  have H2A := hide (two23 5 (by decide) t k op n s a len cap op3 n3 s3 a3 len3 cap3)
  have H2B := hide (two23 5 (by decide) k t op3 n3 s3 a3 len3 cap3 op n s a len cap)
  have hB0 : Below w.heap.size w (((w.alloc (.cells #[.int .i64 op, .int .i64 n, .string s, .slice a len cap] 29)).alloc (.cells #[.int .i64 4, .int .i64 n2, .string s2, .slice (some ⟨b, o, none⟩) 1 cap2] 29)).alloc (.cells #[.int .i64 0, .int .i64 0, .string ByteArray.empty, .slice none 0 0] 29)) := bt (bt (ab _) (ab _) (Nat.le_refl _)) (ab _) (Nat.le_refl _)
  have HB0 := hide hB0
  have hX : ZBox (((w.alloc (.cells #[.int .i64 op, .int .i64 n, .string s, .slice a len cap] 29)).alloc (.cells #[.int .i64 4, .int .i64 n2, .string s2, .slice (some ⟨b, o, none⟩) 1 cap2] 29)).alloc (.cells #[.int .i64 0, .int .i64 0, .string ByteArray.empty, .slice none 0 0] 29)) (w.heap.size + 1 + 1) := by
    have := ZBox.new ((w.alloc (.cells #[.int .i64 op, .int .i64 n, .string s, .slice a len cap] 29)).alloc (.cells #[.int .i64 4, .int .i64 n2, .string s2, .slice (some ⟨b, o, none⟩) 1 cap2] 29))
    rwa [heap_size_alloc, heap_size_alloc] at this
  have HX := hide hX
  have HLU := hide (hl2.below hB0)
  have HLT := hide (hl.below hB0)
  have HLK := hide (hk.below hB0)
  have HRA : Hid (RowT 29 (((w.alloc (.cells #[.int .i64 op, .int .i64 n, .string s, .slice a len cap] 29)).alloc (.cells #[.int .i64 4, .int .i64 n2, .string s2, .slice (some ⟨b, o, none⟩) 1 cap2] 29)).alloc (.cells #[.int .i64 0, .int .i64 0, .string ByteArray.empty, .slice none 0 0] 29)) w.heap.size op n s a len cap) := ((RowT.new 29 w op n s a len cap).below (ab _)).below (ab _)
  have HRB : Hid (RowT 29 (((w.alloc (.cells #[.int .i64 op, .int .i64 n, .string s, .slice a len cap] 29)).alloc (.cells #[.int .i64 4, .int .i64 n2, .string s2, .slice (some ⟨b, o, none⟩) 1 cap2] 29)).alloc (.cells #[.int .i64 0, .int .i64 0, .string ByteArray.empty, .slice none 0 0] 29)) (w.heap.size + 1) 4 n2 s2 (some ⟨b, o, none⟩) 1 cap2) := by
    have := (RowT.new 29 (w.alloc (.cells #[.int .i64 op, .int .i64 n, .string s, .slice a len cap] 29)) 4 n2 s2 (some ⟨b, o, none⟩) 1 cap2).below (ab (.cells #[.int .i64 0, .int .i64 0, .string ByteArray.empty, .slice none 0 0] 29))
    rwa [heap_size_alloc] at this
  have HK := hide (And.intro (kpc hB0 k0) (And.intro (kpc hB0 k1) (And.intro (kpc hB0 k2) (kpc hB0 k3))))
  have HLT0 := hide hl
  have HLK0 := hide hk
  clear hl hl2 hk k0 k1 k2 k3 hX hok hB0
  have HBL := hide hbl
  clear hbl
  go_enter Tryz.func73, Tryz.ntmps73
  go_wp2_with fail
  refine (unhide h35 _ (unhide HLU) hZ2).mono ?_
  rintro e w2 ⟨rfl, hb2⟩
  have HB2 := hide (bt (unhide HB0) hb2 (Nat.le_refl _))
  have HX2 := hide ((unhide HX).below hb2)
  have HLT2 := hide ((unhide HLT).below hb2)
  have HLK2 := hide ((unhide HLK).below hb2)
  obtain ⟨c0, c1, c2, c3⟩ := ((unhide HRA).below hb2).facts
  obtain ⟨d0, d1, d2, d3⟩ := ((unhide HRB).below hb2).facts
  obtain ⟨k0, k1, k2, k3⟩ : _ ∧ _ ∧ _ ∧ _ := ⟨kpc hb2 (unhide HK).1, kpc hb2 (unhide HK).2.1, kpc hb2 (unhide HK).2.2.1, kpc hb2 (unhide HK).2.2.2⟩
  clear hb2 HB0 HX HLT HLK HLU HRA HRB HK h35
  have l0 := lt_of_cell c0
  have l1 := lt_of_cell d0
  have l2 := lt_of_cell k0
  have n0 := Nat.ne_of_lt l0
  have m0 := Ne.symm n0
  have n1 := Nat.ne_of_lt l1
  have m1 := Ne.symm n1
  have n2' := Nat.ne_of_lt l2
  have m2 := Ne.symm n2'
  go_wp2_with fail
  go_cut [6, 7] (fun p q wx => AgCut w2 op n s a len cap op3 n3 s3 a3 len3 cap3 p q wx)
  case first =>
    go_region
    · go_wp2_with fail
      go_meet
      exact AgCut.one w2 op n s a len cap op3 n3 s3 a3 len3 cap3
    · go_wp2_with fail
      go_meet
      exact AgCut.two w2 op n s a len cap op3 n3 s3 a3 len3 cap3
  case rest =>
    obtain ⟨b6, b7, rfl, rfl, hne, ⟨hg6, hg7⟩, hR6, hR7, hb3⟩ := hcut
    have HB3 := hide (bt (unhide HB2) hb3 (Nat.le_refl _))
    have HX3 := hide ((unhide HX2).below hb3)
    have HLT3 := hide ((unhide HLT2).below hb3)
    have HLK3 := hide ((unhide HLK2).below hb3)
    have HG6 := hide (Nat.lt_of_lt_of_le (lt_of_heap (unhide HX2)) hg6)
    have HG7 := hide (Nat.lt_of_lt_of_le (lt_of_heap (unhide HX2)) hg7)
    have HR6 := hide hR6
    have HR7 := hide hR7
    clear hb3 HB2 HX2 HLT2 HLK2 c0 c1 c2 c3 d0 d1 d2 d3 k0 k1 k2 k3 l0 l1 l2 n0 m0 n1 m1 n2' m2 hg6 hg7
    obtain ⟨c0, c1, c2, c3⟩ := hR6.facts
    obtain ⟨d0, d1, d2, d3⟩ := hR7.facts
    clear hR6 hR7
    go_wp2_with fail
    refine (unhide HBF _ (unhide HLK3) (unhide HLT3)).mono ?_
    rintro e w4 ⟨rfl, hb4⟩
    cases hbf : beforeB k t with
    | true =>
      have HB4 := hide (bt (unhide HB3) hb4 (Nat.le_refl _))
      have HX4 := hide ((unhide HX3).below hb4)
      have HLT4 := hide ((unhide HLT3).below hb4)
      have HLK4 := hide ((unhide HLK3).below hb4)
      have HR64 := hide ((unhide HR6).below hb4)
      have HR74 := hide ((unhide HR7).below hb4)
      clear c0 c1 c2 c3 d0 d1 d2 d3
      obtain ⟨c0, c1, c2, c3⟩ := ((unhide HR6).below hb4).facts
      obtain ⟨d0, d1, d2, d3⟩ := ((unhide HR7).below hb4).facts
      obtain ⟨c4, c5, c6, c7⟩ := (unhide HR64).thaw
      obtain ⟨d4, d5, d6, d7⟩ := (unhide HR74).thaw
      have hne' := hne.symm
      have HSH : Hid (shareT t k = .node 5 0 ByteArray.empty [k, t]) := by show _ = _; unfold shareT; rw [hbf]; rfl
      have hb9 : Below w.heap.size w ((((((((w4.setCell ⟨b6, 0, none⟩ (.int .i64 op3)).setCell ⟨b6, 1, none⟩ (.int .i64 n3)).setCell ⟨b6, 2, none⟩ (.string s3)).setCell ⟨b6, 3, none⟩ (.slice a3 len3 cap3)).setCell ⟨b7, 0, none⟩ (.int .i64 op)).setCell ⟨b7, 1, none⟩ (.int .i64 n)).setCell ⟨b7, 2, none⟩ (.string s)).setCell ⟨b7, 3, none⟩ (.slice a len cap)) := set4_below (set4_below (unhide HB4) (by have := unhide HG6; omega)) (by have := unhide HG7; omega)
      have hx9 : ZBox ((((((((w4.setCell ⟨b6, 0, none⟩ (.int .i64 op3)).setCell ⟨b6, 1, none⟩ (.int .i64 n3)).setCell ⟨b6, 2, none⟩ (.string s3)).setCell ⟨b6, 3, none⟩ (.slice a3 len3 cap3)).setCell ⟨b7, 0, none⟩ (.int .i64 op)).setCell ⟨b7, 1, none⟩ (.int .i64 n)).setCell ⟨b7, 2, none⟩ (.string s)).setCell ⟨b7, 3, none⟩ (.slice a len cap)) (w.heap.size + 1 + 1) := by
        have e1 := set4_heap (((((w4.setCell ⟨b6, 0, none⟩ (.int .i64 op3)).setCell ⟨b6, 1, none⟩ (.int .i64 n3)).setCell ⟨b6, 2, none⟩ (.string s3)).setCell ⟨b6, 3, none⟩ (.slice a3 len3 cap3))) b7 (.int .i64 op) (.int .i64 n) (.string s) (.slice a len cap) (w.heap.size + 1 + 1) (by have := unhide HG7; omega)
        have e2 := set4_heap w4 b6 (.int .i64 op3) (.int .i64 n3) (.string s3) (.slice a3 len3 cap3) (w.heap.size + 1 + 1) (by have := unhide HG6; omega)
        exact (e1.trans e2).trans (unhide HX4)
      clear hb4 HB3 HX3 HLT3 HLK3 HR64 HR74
      go_wp2_with fail
      clear HX4 HB4
      have HX4 := hide hx9
      have HB4 := hide hb9
      have HLT4 := hide ((unhide HLT0).below hb9)
      have HLK4 := hide ((unhide HLK0).below hb9)
      clear hx9 hb9
      generalize hW9 : ((((((((w4.setCell ⟨b6, 0, none⟩ (.int .i64 op3)).setCell ⟨b6, 1, none⟩ (.int .i64 n3)).setCell ⟨b6, 2, none⟩ (.string s3)).setCell ⟨b6, 3, none⟩ (.slice a3 len3 cap3)).setCell ⟨b7, 0, none⟩ (.int .i64 op)).setCell ⟨b7, 1, none⟩ (.int .i64 n)).setCell ⟨b7, 2, none⟩ (.string s)).setCell ⟨b7, 3, none⟩ (.slice a len cap)) = W9 at *
      clear hW9 c0 c1 c2 c3 d0 d1 d2 d3 c4 c5 c6 c7 d4 d5 d6 d7
      refine (unhide H2B _ (unhide HLK4) (unhide HLT4) (by omega)).mono ?_
      rintro e w5 ⟨op', n', s', a', len', cap', rfl, hL5, hb5, htt⟩
      have hmade : madeT 5 [k, t] = pickT (okT (shareT t k)) (shareT t k) := by rw [unhide HSH]; rfl
      rw [hmade] at hL5
      have HGX : Hid (w.heap.size + 1 + 1 < W9.heap.size) := lt_of_heap (unhide HX4)
      clear hmade
      cases hokS : okT (shareT t k) with
      | true =>
        have hL5' := hL5
        rw [hokS] at hL5'
        obtain rfl : op' = 5 := share_op hL5' (unhide HSH)
        have HOK := hide hokS
        clear hokS hL5'
        have HTT := hide htt
        have HB5 := hide (bt (bt (unhide HB4) hb5 (Nat.le_refl _)) (ab (.cells #[.int .i64 5, .int .i64 n', .string s', .slice a' len' cap'] 29)) (Nat.le_refl _))
        have HL5 := hide (hL5.below (ab (.cells #[.int .i64 5, .int .i64 n', .string s', .slice a' len' cap'] 29)))
        obtain ⟨p0, p1, p2, p3, q0, q1, q2, q3⟩ := (((unhide HX4).below hb5).below (ab (.cells #[.int .i64 5, .int .i64 n', .string s', .slice a' len' cap'] 29))).facts
        obtain ⟨r0, r1, r2, r3⟩ := (RowT.new 29 w5 5 n' s' a' len' cap').facts
        have hn5 : w5.heap.size ≠ w.heap.size + 1 + 1 := by have := lt_of_heap ((unhide HX4).below hb5); omega
        have hm5 := hn5.symm
        clear hb5 hL5 htt 
        go_wp2_with fail
        go_region
        go_wp2_with fail
        exact bodyPost_ret (v := .tuple #[.agg #[.int .i64 5, .int .i64 n', .string s', .slice a' len' cap'], .bool true]) (by simp [results, Tryz.results73, go_sem, p0, p1, p2, p3]) rfl ⟨_, n', s', a', len', cap', by rw [unhide HOK], Lies.below (set4_lies (unhide HL5) (unhide HGX) w.heap.size (by have := unhide HGX; omega)) ((Below.refl _ _).drew), (set4_below (unhide HB5) (by omega)).drew, unhide HTT⟩
      | false =>
        have hL5' := hL5
        rw [hokS] at hL5'
        obtain rfl : op' = 0 := zero_op hL5'
        have HOK := hide hokS
        clear hokS hL5'
        have HTT := hide htt
        have HB5 := hide (bt (bt (unhide HB4) hb5 (Nat.le_refl _)) (ab (.cells #[.int .i64 0, .int .i64 n', .string s', .slice a' len' cap'] 29)) (Nat.le_refl _))
        have HL5 := hide (hL5.below (ab (.cells #[.int .i64 0, .int .i64 n', .string s', .slice a' len' cap'] 29)))
        obtain ⟨p0, p1, p2, p3, q0, q1, q2, q3⟩ := (((unhide HX4).below hb5).below (ab (.cells #[.int .i64 0, .int .i64 n', .string s', .slice a' len' cap'] 29))).facts
        obtain ⟨r0, r1, r2, r3⟩ := (RowT.new 29 w5 0 n' s' a' len' cap').facts
        have hn5 : w5.heap.size ≠ w.heap.size + 1 + 1 := by have := lt_of_heap ((unhide HX4).below hb5); omega
        have hm5 := hn5.symm
        clear hb5 hL5 htt 
        go_wp2_with fail
        go_region
        go_wp2_with fail
        exact bodyPost_ret (v := .tuple #[.agg #[.int .i64 0, .int .i64 n', .string s', .slice a' len' cap'], .bool false]) (by simp [results, Tryz.results73, go_sem, p0, p1, p2, p3]) rfl ⟨_, n', s', a', len', cap', by rw [unhide HOK], Lies.below (set4_lies (unhide HL5) (unhide HGX) w.heap.size (by have := unhide HGX; omega)) ((Below.refl _ _).drew), (set4_below (unhide HB5) (by omega)).drew, unhide HTT⟩
    | false =>
      have HB4 := hide (bt (unhide HB3) hb4 (Nat.le_refl _))
      have HX4 := hide ((unhide HX3).below hb4)
      have HLT4 := hide ((unhide HLT3).below hb4)
      have HLK4 := hide ((unhide HLK3).below hb4)
      obtain ⟨c0, c1, c2, c3⟩ := ((unhide HR6).below hb4).facts
      obtain ⟨d0, d1, d2, d3⟩ := ((unhide HR7).below hb4).facts
      have HSH : Hid (shareT t k = .node 5 0 ByteArray.empty [t, k]) := by show _ = _; unfold shareT; rw [hbf]; rfl
      clear hb4 HB3 HX3 HLT3 HLK3
      go_wp2_with fail
      refine (unhide H2A _ (unhide HLT4) (unhide HLK4) (by omega)).mono ?_
      rintro e w5 ⟨op', n', s', a', len', cap', rfl, hL5, hb5, htt⟩
      have hmade : madeT 5 [t, k] = pickT (okT (shareT t k)) (shareT t k) := by rw [unhide HSH]; rfl
      rw [hmade] at hL5
      have HGX : Hid (w.heap.size + 1 + 1 < w4.heap.size) := lt_of_heap (unhide HX4)
      clear hmade
      cases hokS : okT (shareT t k) with
      | true =>
        have hL5' := hL5
        rw [hokS] at hL5'
        obtain rfl : op' = 5 := share_op hL5' (unhide HSH)
        have HOK := hide hokS
        clear hokS hL5'
        have HTT := hide htt
        have HB5 := hide (bt (bt (unhide HB4) hb5 (Nat.le_refl _)) (ab (.cells #[.int .i64 5, .int .i64 n', .string s', .slice a' len' cap'] 29)) (Nat.le_refl _))
        have HL5 := hide (hL5.below (ab (.cells #[.int .i64 5, .int .i64 n', .string s', .slice a' len' cap'] 29)))
        obtain ⟨p0, p1, p2, p3, q0, q1, q2, q3⟩ := (((unhide HX4).below hb5).below (ab (.cells #[.int .i64 5, .int .i64 n', .string s', .slice a' len' cap'] 29))).facts
        obtain ⟨r0, r1, r2, r3⟩ := (RowT.new 29 w5 5 n' s' a' len' cap').facts
        have hn5 : w5.heap.size ≠ w.heap.size + 1 + 1 := by have := lt_of_heap ((unhide HX4).below hb5); omega
        have hm5 := hn5.symm
        clear hb5 hL5 htt c0 c1 c2 c3 d0 d1 d2 d3
        go_wp2_with fail
        go_region
        go_wp2_with fail
        exact bodyPost_ret (v := .tuple #[.agg #[.int .i64 5, .int .i64 n', .string s', .slice a' len' cap'], .bool true]) (by simp [results, Tryz.results73, go_sem, p0, p1, p2, p3]) rfl ⟨_, n', s', a', len', cap', by rw [unhide HOK], Lies.below (set4_lies (unhide HL5) (unhide HGX) w.heap.size (by have := unhide HGX; omega)) ((Below.refl _ _).drew), (set4_below (unhide HB5) (by omega)).drew, unhide HTT⟩
      | false =>
        have hL5' := hL5
        rw [hokS] at hL5'
        obtain rfl : op' = 0 := zero_op hL5'
        have HOK := hide hokS
        clear hokS hL5'
        have HTT := hide htt
        have HB5 := hide (bt (bt (unhide HB4) hb5 (Nat.le_refl _)) (ab (.cells #[.int .i64 0, .int .i64 n', .string s', .slice a' len' cap'] 29)) (Nat.le_refl _))
        have HL5 := hide (hL5.below (ab (.cells #[.int .i64 0, .int .i64 n', .string s', .slice a' len' cap'] 29)))
        obtain ⟨p0, p1, p2, p3, q0, q1, q2, q3⟩ := (((unhide HX4).below hb5).below (ab (.cells #[.int .i64 0, .int .i64 n', .string s', .slice a' len' cap'] 29))).facts
        obtain ⟨r0, r1, r2, r3⟩ := (RowT.new 29 w5 0 n' s' a' len' cap').facts
        have hn5 : w5.heap.size ≠ w.heap.size + 1 + 1 := by have := lt_of_heap ((unhide HX4).below hb5); omega
        have hm5 := hn5.symm
        clear hb5 hL5 htt c0 c1 c2 c3 d0 d1 d2 d3
        go_wp2_with fail
        go_region
        go_wp2_with fail
        exact bodyPost_ret (v := .tuple #[.agg #[.int .i64 0, .int .i64 n', .string s', .slice a' len' cap'], .bool false]) (by simp [results, Tryz.results73, go_sem, p0, p1, p2, p3]) rfl ⟨_, n', s', a', len', cap', by rw [unhide HOK], Lies.below (set4_lies (unhide HL5) (unhide HGX) w.heap.size (by have := unhide HGX; omega)) ((Below.refl _ _).drew), (set4_below (unhide HB5) (by omega)).drew, unhide HTT⟩

/-- spec.Agree at whatever two terms. -/
theorem agree_calls (t u : Tm) (op n : Int) (s : ByteArray) (a : Option Addr) (len cap : Nat) (op2 n2 : Int) (s2 : ByteArray) (a2 : Option Addr) (len2 cap2 : Nat) (w : World) (hl : Lies w 0 t (tmCells op n s a len cap)) (hl2 : Lies w 0 u (tmCells op2 n2 s2 a2 len2 cap2)) (hsz : t.size + u.size ≤ 2097150) :
    Calls Tryz.prog 73 #[.agg #[.int .i64 op, .int .i64 n, .string s, .slice a len cap], .agg #[.int .i64 op2, .int .i64 n2, .string s2, .slice a2 len2 cap2]] w fun e w' => ∃ op' n' s' a' len' cap', e = .returned (.tuple #[.agg #[.int .i64 op', .int .i64 n', .string s', .slice a' len' cap'], .bool (agreeB t u)]) ∧ Lies w' w.heap.size (agreeT t u) (tmCells op' n' s' a' len' cap') ∧ Below w.heap.size w w' ∧ len' = cap' := by
  have hzero : agreeB t u = false → agreeT t u = .node 0 0 ByteArray.empty [] := fun h => by
    obtain ⟨o1, n1, s1, ks⟩ := u
    match ks with
    | [] => rfl
    | [k] => simp only [agreeT, h]; rfl
    | _ :: _ :: _ => rfl
  have hno : agreeB t u = false → (Calls Tryz.prog 73 #[.agg #[.int .i64 op, .int .i64 n, .string s, .slice a len cap], .agg #[.int .i64 op2, .int .i64 n2, .string s2, .slice a2 len2 cap2]] w fun e w' => e = .returned (.tuple #[.agg #[.int .i64 0, .int .i64 0, .string ByteArray.empty, .slice none 0 0], .bool false]) ∧ Below w.heap.size w w') → Calls Tryz.prog 73 #[.agg #[.int .i64 op, .int .i64 n, .string s, .slice a len cap], .agg #[.int .i64 op2, .int .i64 n2, .string s2, .slice a2 len2 cap2]] w fun e w' => ∃ op' n' s' a' len' cap', e = .returned (.tuple #[.agg #[.int .i64 op', .int .i64 n', .string s', .slice a' len' cap'], .bool (agreeB t u)]) ∧ Lies w' w.heap.size (agreeT t u) (tmCells op' n' s' a' len' cap') ∧ Below w.heap.size w w' ∧ len' = cap' := fun h hc => by
    rw [h, hzero h]
    exact hc.mono fun e w' ⟨he, hb⟩ => ⟨0, 0, ByteArray.empty, none, 0, 0, he, zero_lies _ _, hb, rfl⟩
  obtain ⟨o1, n1, s1, ks⟩ := u
  have hx := hl2
  simp only [Lies, tmCells, List.cons.injEq, Value.int.injEq, Value.string.injEq, Value.slice.injEq, true_and, and_true] at hx
  obtain ⟨a9, c9, ⟨rfl, rfl, rfl, _, rfl, _⟩, _⟩ := hx
  by_cases h4 : op2 = 4
  · by_cases h1 : ks.length = 1
    · obtain ⟨k, rfl⟩ : ∃ k, ks = [k] := by
        match ks, h1 with
        | [k], _ => exact ⟨k, rfl⟩
      subst h4
      simp only [Tm.size, Tm.sizes] at hsz
      cases hok : okT (.node 4 n2 s2 [k]) with
      | true =>
        have hag : agreeB t (.node 4 n2 s2 [k]) = okT (shareT t k) := by simp [agreeB, hok]
        rw [show agreeT t (.node 4 n2 s2 [k]) = pickT (agreeB t (.node 4 n2 s2 [k])) (shareT t k) from rfl, hag]
        exact agree_yes t k op n s a len cap 4 n2 s2 a2 _ cap2 w rfl rfl hl hl2 (by omega) hok
      | false => exact hno (by simp [agreeB, hok]) (agree_no3 _ op n s a len cap 4 n2 s2 a2 _ cap2 w rfl rfl hl2 (by simp only [Tm.size, Tm.sizes]; omega) hok)
    · refine hno ?_ (agree_no2 op n s a len cap op2 n2 s2 a2 _ cap2 w h4 h1)
      match ks, h1 with
      | [], _ => rfl
      | _ :: _ :: _, _ => rfl
  · refine hno ?_ (agree_no1 op n s a len cap op2 n2 s2 a2 _ cap2 w h4)
    match ks with
    | [] => rfl
    | [k] => simp [agreeB, h4]
    | _ :: _ :: _ => rfl

theorem and255 (x : Int) : 0 ≤ bits .and .i64 x 255 ∧ bits .and .i64 x 255 < 256 := by
  have h : (BitVec.ofInt 64 x &&& BitVec.ofInt 64 255).toNat ≤ 255 := by
    rw [BitVec.toNat_and]
    exact Nat.and_le_right
  have e : bits .and .i64 x 255 = IntKind.i64.wrap ((BitVec.ofInt 64 x &&& BitVec.ofInt 64 255).toNat : Int) := rfl
  rw [e, IntKind.wrap_i64]
  omega

theorem set_row {w : World} {b o : Nat} {C : Array Value} {t : TypeId} {fr : Nat × Nat} (v : Value) (h : w.heap[b]? = some (.cells C t fr)) : (w.setCell ⟨b, o, none⟩ v).heap[b]? = some (.cells (C.setIfInBounds o v) t fr) := by
  simp only [World.setCell, Array.getElem?_modify]
  simp [h]

/-- The bytes of a slice, in blocks below c. -/
def Bytes (w : World) (c : Nat) (a : Option Addr) (len : Nat) : Prop := ∀ k, k < len → ∃ b o z, a = some ⟨b, o, none⟩ ∧ b < c ∧ w.cell? ⟨b, o + k, none⟩ = some (.int .u8 z) ∧ 0 ≤ z ∧ z < 256
/-- The cursor lies in the block c; what it reads lies below. -/
def Cur (w : World) (c : Nat) : Prop := ∃ (a : Option Addr) (len cap : Nat) (i h : Int), w.heap[c]? = some (.cells #[.slice a len cap, .int .i64 i, .int .i64 h] 113 (0, 0)) ∧ (0 ≤ i ∧ i ≤ len ∧ len ≤ 1048576) ∧ Bytes w c a len

theorem Cur.lt {w : World} {c : Nat} (h : Cur w c) : c < w.heap.size := by
  obtain ⟨a, len, cap, i, h, hc, _⟩ := h
  exact lt_of_cell (cell_of_row (j := 0) hc (by simp))
theorem Bytes.only {w w' : World} {c : Nat} {a : Option Addr} {len : Nat} (h : Bytes w c a len) (ho : Only [c] w w') : Bytes w' c a len := fun k hk => by
  obtain ⟨b, o, z, h1, h2, h3, h4⟩ := h k hk
  exact ⟨b, o, z, h1, h2, (World.cell?_of_block (ho.block b (lt_of_cell h3) (by simp; omega))).trans h3, h4⟩
theorem Cur.below {w w' : World} {c : Nat} (h : Cur w c) (hb : Below w.heap.size w w') : Cur w' c := by
  have hlt := h.lt
  obtain ⟨a, len, cap, i, h, hc, hr, hB⟩ := h
  exact ⟨a, len, cap, i, h, (hb.block c hlt).trans hc, hr, hB.only (Only.of_below hb)⟩

theorem setCell_only (w : World) (c o : Nat) (v : Value) : Only [c] w (w.setCell ⟨c, o, none⟩ v) := (Only.refl _ _).set (by simp) v
theorem Only.drewN {f : List Nat} {w v : World} (h : Only f w v) (k : Nat) : Only f w (v.drewN k) := ⟨h.os, h.tape, h.output, h.size, h.block⟩

theorem cur_seed {w : World} {c : Nat} {a : Option Addr} {len cap : Nat} {i h : Int} (hrow : w.heap[c]? = some (.cells #[.slice a len cap, .int .i64 i, .int .i64 h] 113 (0, 0))) (hr : 0 ≤ i ∧ i ≤ len ∧ len ≤ 1048576) (hB : Bytes w c a len) (h' : Int) (k1 k2 : Nat) :
    Cur (((w.setCell ⟨c, 2, none⟩ (.int .i64 h')).drewN k1).drewN k2) c :=
  ⟨a, len, cap, i, h', set_row (o := 2) (.int .i64 h') hrow, hr, hB.only (((setCell_only w c 2 _).drewN k1).drewN k2)⟩
theorem cur_next {w : World} {c : Nat} {a : Option Addr} {len cap : Nat} {i h : Int} (hrow : w.heap[c]? = some (.cells #[.slice a len cap, .int .i64 i, .int .i64 h] 113 (0, 0))) (hr : 0 ≤ i ∧ i < len ∧ len ≤ 1048576) (hB : Bytes w c a len) (h' : Int) (k : Nat) :
    Cur (((w.setCell ⟨c, 2, none⟩ (.int .i64 h')).drewN k).setCell ⟨c, 1, none⟩ (.int .i64 (i + 1))) c := by
  have h2 : ((w.setCell ⟨c, 2, none⟩ (.int .i64 h')).drewN k).heap[c]? = some (.cells #[.slice a len cap, .int .i64 i, .int .i64 h'] 113 (0, 0)) := set_row (o := 2) (.int .i64 h') hrow
  exact ⟨a, len, cap, i + 1, h', set_row (o := 1) (.int .i64 (i + 1)) h2, ⟨by omega, by omega, hr.2.2⟩, hB.only (((setCell_only w c 2 _).drewN k).set (by simp) _)⟩

set_option maxRecDepth 100000 in
set_option maxHeartbeats 1000000 in
theorem byte_calls (c : Nat) (w : World) (hc : Cur w c) :
    Calls Tryz.prog 119 #[.pointer (some ⟨c, 0, none⟩)] w fun e w' => ∃ x, e = .returned (.int .i64 x) ∧ (0 ≤ x ∧ x < 256) ∧ Cur w' c ∧ Only [c] w w' := by
  obtain ⟨a, len, cap, i, h, hrow, ⟨hi0, hi1, hlen⟩, hB⟩ := hc
  have c0 : w.cell? ⟨c, 0, none⟩ = some (.slice a len cap) := cell_of_row hrow (by simp)
  have c1 : w.cell? ⟨c, 1, none⟩ = some (.int .i64 i) := cell_of_row hrow (by simp)
  have c2 : w.cell? ⟨c, 2, none⟩ = some (.int .i64 h) := cell_of_row hrow (by simp)
  have f1 : w.frozen? ⟨c, 1, none⟩ = false := frozen_of_row hrow
  have f2 : w.frozen? ⟨c, 2, none⟩ = false := frozen_of_row hrow
  have hlen' : (len : Int) ≤ 1048576 := by omega
  by_cases hlt : i < len
  · obtain ⟨b, o, z, rfl, hbc, hz, hz0, hz1⟩ := hB i.toNat (by omega)
    have hne1 : b ≠ c := by omega
    have hne2 : c ≠ b := by omega
    go_enter Tryz.func119, Tryz.ntmps119
    go_wp2_with fail
    go_quiet (fail)
    go_wp2
    go_quiet (fail)
    go_wp2
    go_quiet (fail)
    go_wp2
    go_ret
    exact ⟨_, rfl, and255 _, cur_next hrow ⟨hi0, hlt, hlen⟩ hB _ _, ((setCell_only w c 2 _).drewN _).set (by simp) _⟩
  · have hge : (len : Int) ≤ i := by omega
    go_enter Tryz.func119, Tryz.ntmps119
    go_wp2_with fail
    go_quiet (fail)
    go_wp2
    go_quiet (fail)
    go_wp2
    go_ret
    exact ⟨_, rfl, and255 _, cur_seed hrow ⟨hi0, hi1, hlen⟩ hB _ _ _, ((setCell_only w c 2 _).drewN _).drewN _⟩

def belowB (n x : Int) : Prop := (n ≤ 0 → x = 0) ∧ (0 < n → 0 ≤ x ∧ x < n)
theorem belowB_mod (n x : Int) (h : 0 < n) : belowB n (x % n) := ⟨fun h' => by omega, fun _ => ⟨Int.emod_nonneg _ (by omega), Int.emod_lt_of_pos _ h⟩⟩

set_option maxRecDepth 100000 in
set_option maxHeartbeats 1000000 in
theorem below_calls (c : Nat) (n : Int) (w : World) (hc : Cur w c) (hn : n ≤ 1000000000) :
    Calls Tryz.prog 68 #[.pointer (some ⟨c, 0, none⟩), .int .i64 n] w fun e w' => ∃ x, e = .returned (.int .i64 x) ∧ belowB n x ∧ Cur w' c ∧ Only [c] w w' := by
  have hb := hide (byte_calls c)
  have HC := hide hc
  clear hc
  by_cases h0 : n ≤ 0
  · go_enter Tryz.func68, Tryz.ntmps68
    go_wp2_with fail
    go_ret
    exact ⟨0, rfl, ⟨fun _ => rfl, fun h => by omega⟩, unhide HC, Only.refl _ _⟩
  · by_cases h1 : n ≤ 256
    · go_enter Tryz.func68, Tryz.ntmps68
      go_wp2_with fail
      refine (unhide hb _ (unhide HC)).mono ?_
      rintro e w1 ⟨x, rfl, ⟨hx0, hx1⟩, hc1, ho1⟩
      have HC1 := hide hc1
      have HO1 := hide ho1
      clear hc1 ho1
      go_wp2_with fail
      go_ret
      exact ⟨_, rfl, belowB_mod _ _ (by omega), unhide HC1, unhide HO1⟩
    · go_enter Tryz.func68, Tryz.ntmps68
      go_wp2_with fail
      refine (unhide hb _ (unhide HC)).mono ?_
      rintro e w1 ⟨x, rfl, ⟨hx0, hx1⟩, hc1, ho1⟩
      have HC1 := hide hc1
      have HO1 := hide ho1
      clear hc1 ho1
      go_wp2_with fail
      refine (unhide hb _ (unhide HC1)).mono ?_
      rintro e w2 ⟨y, rfl, ⟨hy0, hy1⟩, hc2, ho2⟩
      have HC2 := hide hc2
      have HO2 := hide ((unhide HO1).trans ho2)
      clear hc2 ho2
      go_wp2_with fail
      refine (unhide hb _ (unhide HC2)).mono ?_
      rintro e w3 ⟨z, rfl, ⟨hz0, hz1⟩, hc3, ho3⟩
      have HC3 := hide hc3
      have HO3 := hide ((unhide HO2).trans ho3)
      clear hc3 ho3
      go_wp2_with fail
      refine (unhide hb _ (unhide HC3)).mono ?_
      rintro e w4 ⟨u, rfl, ⟨hu0, hu1⟩, hc4, ho4⟩
      have HC4 := hide hc4
      have HO4 := hide ((unhide HO3).trans ho4)
      clear hc4 ho4
      go_wp2_with fail
      go_ret
      exact ⟨_, rfl, belowB_mod _ _ (by omega), unhide HC4, unhide HO4⟩

set_option maxRecDepth 100000 in
set_option maxHeartbeats 1000000 in
theorem once_calls (c : Nat) (n : Int) (w : World) (hc : Cur w c) (hn : n ≤ 1000000000) :
    Calls Tryz.prog 86 #[.pointer (some ⟨c, 0, none⟩), .int .i64 n] w fun e w' => ∃ b, e = .returned (.bool b) ∧ Cur w' c ∧ Only [c] w w' := by
  have hb := hide (below_calls c n)
  go_enter Tryz.func86, Tryz.ntmps86
  go_wp2_with fail
  refine (unhide hb _ hc hn).mono ?_
  rintro e w1 ⟨x, rfl, _, hc1, ho1⟩
  go_wp2_with fail
  go_ret
  exact ⟨_, rfl, hc1, ho1⟩

set_option maxRecDepth 100000 in
set_option maxHeartbeats 1000000 in
theorem pickInt_calls (c b n cap : Nat) (w : World) (hc : Cur w c) (hb : b ≠ c) (hn : 0 < n) (_hn1 : n ≤ 1000) (_hcap : n ≤ cap) (_hcap1 : cap ≤ 1000) (hi : ∀ k, k < n → ∃ z, w.cell? ⟨b, k, none⟩ = some (.int .i64 z) ∧ (Lit.int .i64 z).wf = true) :
    Calls Tryz.prog 87 #[.pointer (some ⟨c, 0, none⟩), .slice (some ⟨b, 0, none⟩) n cap] w fun e w' => ∃ z, e = .returned (.int .i64 z) ∧ (Lit.int .i64 z).wf = true ∧ Cur w' c ∧ Only [c] w w' := by
  have hB := hide (below_calls c n)
  have HC := hide hc
  have hn' : (n : Int) ≤ 1000 := by omega
  clear hc
  go_enter Tryz.func87, Tryz.ntmps87
  go_wp2_with fail
  refine (unhide hB _ (unhide HC) (by omega)).mono ?_
  rintro e w1 ⟨x, rfl, ⟨_, hx⟩, hc1, ho1⟩
  obtain ⟨hx0, hx1⟩ := hx (by omega)
  obtain ⟨z, hz, hwf⟩ := hi x.toNat (by omega)
  have hz1 : w1.cell? ⟨b, x.toNat, none⟩ = some (.int .i64 z) := (World.cell?_of_block (ho1.block b (lt_of_cell hz) (by simpa using hb))).trans hz
  have HC1 := hide hc1
  have HO1 := hide ho1
  clear hc1 ho1 hi hz
  go_wp2_with fail
  go_ret
  exact ⟨_, rfl, hwf, unhide HC1, unhide HO1⟩

set_option maxRecDepth 100000 in
set_option maxHeartbeats 1000000 in
theorem pick_calls (c b n cap : Nat) (w : World) (hc : Cur w c) (hb : b ≠ c) (hn : 0 < n) (_hn1 : n ≤ 1000) (_hcap : n ≤ cap) (_hcap1 : cap ≤ 1000) (hi : ∀ k, k < n → ∃ s, w.cell? ⟨b, k, none⟩ = some (.string s) ∧ s.size ≤ 300) :
    Calls Tryz.prog 130 #[.pointer (some ⟨c, 0, none⟩), .slice (some ⟨b, 0, none⟩) n cap] w fun e w' => ∃ s, e = .returned (.string s) ∧ s.size ≤ 300 ∧ Cur w' c ∧ Only [c] w w' := by
  have hB := hide (below_calls c n)
  have HC := hide hc
  have hn' : (n : Int) ≤ 1000 := by omega
  clear hc
  go_enter Tryz.func130, Tryz.ntmps130
  go_wp2_with fail
  refine (unhide hB _ (unhide HC) (by omega)).mono ?_
  rintro e w1 ⟨x, rfl, ⟨_, hx⟩, hc1, ho1⟩
  obtain ⟨hx0, hx1⟩ := hx (by omega)
  obtain ⟨z, hz, hwf⟩ := hi x.toNat (by omega)
  have hz1 : w1.cell? ⟨b, x.toNat, none⟩ = some (.string z) := (World.cell?_of_block (ho1.block b (lt_of_cell hz) (by simpa using hb))).trans hz
  have HC1 := hide hc1
  have HO1 := hide ho1
  clear hc1 ho1 hi hz
  go_wp2_with fail
  go_ret
  exact ⟨_, rfl, hwf, unhide HC1, unhide HO1⟩

theorem cur_new {w : World} {a : Option Addr} {len cap : Nat} (hB : Bytes w w.heap.size a len) (hl : len ≤ 1048576) (z : Int) : Cur (w.alloc (.cells #[.slice a len cap, .int .i64 0, .int .i64 z] 113)) w.heap.size ∧ Below w.heap.size w (w.alloc (.cells #[.slice a len cap, .int .i64 0, .int .i64 z] 113)) ∧ w.heap.size < (w.alloc (.cells #[.slice a len cap, .int .i64 0, .int .i64 z] 113)).heap.size := by
  have hb : Below w.heap.size w (w.alloc (.cells #[.slice a len cap, .int .i64 0, .int .i64 z] 113)) := (Below.refl _ _).alloc (Nat.le_refl _) _
  exact ⟨⟨a, len, cap, 0, z, heap_alloc_new w _, ⟨by omega, by omega, hl⟩, hB.only (Only.of_below hb)⟩, hb, by simp⟩

set_option maxRecDepth 100000 in
set_option maxHeartbeats 1000000 in
theorem new_calls (a : Option Addr) (len cap : Nat) (w : World) (hB : Bytes w w.heap.size a len) (hl : len ≤ 1048576) (_hlc : len ≤ cap) :
    Calls Tryz.prog 65 #[.slice a len cap] w fun e w' => e = .returned (.pointer (some ⟨w.heap.size, 0, none⟩)) ∧ Cur w' w.heap.size ∧ Below w.heap.size w w' ∧ w.heap.size < w'.heap.size := by
  have hl' : (len : Int) ≤ 1048576 := by omega
  go_enter Tryz.func65, Tryz.ntmps65
  go_wp2_with fail
  go_loopw [3, 4] (fun h i wr => ∃ (k : Nat) (z : Int), k ≤ len ∧ i = .int .i64 k ∧ h = .int .i64 z ∧ wr = w) (fun _ i _ => len - (intOf i).toNat)
  case atStart => exact ⟨0, _, Nat.zero_le _, rfl, rfl, rfl⟩
  case round =>
    obtain ⟨k, z, hk, rfl, rfl, rfl⟩ := hrel
    by_cases hlt : k < len
    · by_cases h4 : k < 4000
      · obtain ⟨b, o, y, rfl, hbc, hy, hy0, hy1⟩ := hB k hlt
        go_wp2_with fail
        go_roundw
        case rel => exact ⟨k + 1, _, by omega, by go_num, rfl, trivial⟩
        case measure => simp [intOf]; omega
      · go_wp2_with fail
        go_ret
        exact ⟨rfl, cur_new hB hl _⟩
    · go_wp2_with fail
      go_ret
      exact ⟨rfl, cur_new hB hl _⟩

/-- A term of at most so many lies behind L; its list of kids is full. -/
def Drawn (k sz : Nat) (w : World) (L : Nat) (v : Value) : Prop := ∃ (t : Tm) (op n : Int) (s : ByteArray) (a : Option Addr) (len : Nat), v = .agg #[.int .i64 op, .int .i64 n, .string s, .slice a len len] ∧ Lies w L t (tmCells op n s a len len) ∧ (t.size + t.wt ≤ k ∧ t.size ≤ sz)

theorem Lies.only {w w' : World} {L c : Nat} {t : Tm} {cs : List Value} (h : Lies w L t cs) (ho : Only [c] w w') (hc : c < L) : Lies w' L t cs :=
  Lies.carry (Nat.le_refl _) (fun b _ hb hlt => World.cell?_of_block (ho.block b hlt (by simp; omega))) t cs h
theorem pick_size (m : Tm) : (pickT (okT m) m).size + (pickT (okT m) m).wt ≤ 61000 := by
  unfold pickT
  split
  · rename_i h
    exact okT_small h
  · simp [Tm.size, Tm.sizes, Tm.wt, Tm.wts]
theorem madeT_61 (op : Int) (ks : List Tm) : (madeT op ks).size + (madeT op ks).wt ≤ 61000 := pick_size _
theorem agreeT_200 (t u : Tm) : (agreeT t u).size + (agreeT t u).wt ≤ 61000 := by
  obtain ⟨o, n, s, ks⟩ := u
  match ks with
  | [] => simp [agreeT, Tm.size, Tm.sizes, Tm.wt, Tm.wts]
  | [k] =>
    show (pickT (agreeB t (.node o n s [k])) (shareT t k)).size + (pickT (agreeB t (.node o n s [k])) (shareT t k)).wt ≤ 61000
    cases h : agreeB t (.node o n s [k]) with
    | true =>
      have h2 : okT (shareT t k) = true := by
        simp only [agreeB, Bool.and_eq_true] at h
        exact h.2
      have := pick_size (shareT t k)
      rwa [h2] at this
    | false => simp [pickT, Tm.size, Tm.sizes, Tm.wt, Tm.wts]
  | _ :: _ :: _ => simp [agreeT, Tm.size, Tm.sizes, Tm.wt, Tm.wts]

theorem made_le (op : Int) (ks : List Tm) : (madeT op ks).size ≤ 1 + Tm.sizes ks := by
  unfold madeT pickT
  split
  · simp [Tm.size]
  · simp [Tm.size, Tm.sizes]
theorem made1_le (op : Int) (t : Tm) : (madeT op [t]).size ≤ 1 + t.size := by
  have := made_le op [t]
  simp only [Tm.sizes] at this
  omega
theorem made2_le (op : Int) (t u : Tm) : (madeT op [t, u]).size ≤ 1 + t.size + u.size := by
  have := made_le op [t, u]
  simp only [Tm.sizes] at this
  omega
theorem seal_le (k : Tm) (m : Int) (b : Tm) : (sealT k m b).size ≤ k.size + b.size + 3 := by
  have h1 := made2_le 7 k (madeT 3 [numT m, b])
  have h2 := made2_le 3 (numT m) b
  rw [numT_size] at h2
  unfold sealT
  omega
theorem share_size (t k : Tm) : (shareT t k).size = 1 + t.size + k.size := by
  unfold shareT
  split <;> simp [Tm.size, Tm.sizes] <;> omega
theorem agree_le (t u : Tm) : (agreeT t u).size ≤ t.size + u.size + 1 := by
  obtain ⟨o, n, s, ks⟩ := u
  match ks with
  | [] => simp [agreeT, Tm.size, Tm.sizes]
  | [k] =>
    show (pickT (agreeB t (.node o n s [k])) (shareT t k)).size ≤ _
    unfold pickT
    split
    · rw [share_size]; simp [Tm.size, Tm.sizes]; omega
    · simp [Tm.size, Tm.sizes]
  | _ :: _ :: _ => simp [agreeT, Tm.size, Tm.sizes]

def DrOk (c : Nat) (d : Int) (sz : Nat) : Prop := ∀ w, Cur w c → Calls Tryz.prog 121 #[.pointer (some ⟨c, 0, none⟩), .int .i64 d] w fun e w' => ∃ v, e = .returned v ∧ Drawn 61000 sz w' w.heap.size v ∧ Cur w' c ∧ Only [c] w w'

theorem only_alloc {c : Nat} {w w1 : World} (x : Obj) (h : Only [c] (w.alloc x) w1) : Only [c] w w1 := (Only.of_below (ab x)).trans h
theorem only_set4 {c g : Nat} {w v : World} {x0 x1 x2 x3 : Value} (h : Only [c] w v) (hg : w.heap.size ≤ g) : Only [c] w ((((v.setCell ⟨g, 0, none⟩ x0).setCell ⟨g, 1, none⟩ x1).setCell ⟨g, 2, none⟩ x2).setCell ⟨g, 3, none⟩ x3) := by
  refine ⟨h.os, h.tape, h.output, by simpa using h.size, fun k hk hf => ?_⟩
  rw [set4_heap _ _ _ _ _ _ k (by omega)]
  exact h.block k hk hf
theorem Cur.keep {w w' : World} {c : Nat} (h : Cur w c) (hk : ∀ b, b ≤ c → w'.heap[b]? = w.heap[b]?) : Cur w' c := by
  obtain ⟨a, len, cap, i, z, hc, hr, hB⟩ := h
  refine ⟨a, len, cap, i, z, (hk c (Nat.le_refl _)).trans hc, hr, fun k hlt => ?_⟩
  obtain ⟨b, o, y, h1, h2, h3, h4⟩ := hB k hlt
  exact ⟨b, o, y, h1, h2, (World.cell?_of_block (hk b (by omega))).trans h3, h4⟩
theorem cur_set4 {c g : Nat} {v : World} {x0 x1 x2 x3 : Value} (h : Cur v c) (hg : c < g) : Cur ((((v.setCell ⟨g, 0, none⟩ x0).setCell ⟨g, 1, none⟩ x1).setCell ⟨g, 2, none⟩ x2).setCell ⟨g, 3, none⟩ x3) c :=
  h.keep fun b hb => set4_heap _ _ _ _ _ _ b (by omega)
theorem Cur.drew {w : World} {c : Nat} (h : Cur w c) : Cur w.drew c := h
theorem Only.drewl {f : List Nat} {w v : World} (h : Only f w.drew v) : Only f w v := ⟨h.os, h.tape, h.output, h.size, h.block⟩
theorem words_at (w : World) : ∀ k, k < 4 → ∃ s, (w.alloc (.cells #[.string ⟨#[]⟩, .string ⟨#[97]⟩, .string ⟨#[109, 120, 46, 97]⟩, .string ⟨#[50, 53, 48]⟩] 9)).cell? ⟨w.heap.size, k, none⟩ = some (.string s) ∧ s.size ≤ 300
  | 0, _ => ⟨_, box_cell w _ 9 0 _ rfl, by decide⟩
  | 1, _ => ⟨_, box_cell w _ 9 1 _ rfl, by decide⟩
  | 2, _ => ⟨_, box_cell w _ 9 2 _ rfl, by decide⟩
  | 3, _ => ⟨_, box_cell w _ 9 3 _ rfl, by decide⟩
  | k + 4, h => absurd h (by omega)
theorem ZBox.only {w w' : World} {g c : Nat} (h : ZBox w g) (ho : Only [c] w w') (hg : g ≠ c) : ZBox w' g := (ho.block g (lt_of_heap h) (by simpa using hg)).trans h
theorem leaf_lies (w : World) (L : Nat) (op n : Int) (s : ByteArray) (hs : s.size ≤ maxLen) (h1 : (Lit.int .i64 op).wf = true) (h2 : (Lit.int .i64 n).wf = true) : Lies w L (.node op n s []) (tmCells op n s none 0 0) := by
  simp only [Lies]
  exact ⟨none, 0, rfl, ⟨hs, by simp, by simp⟩, ⟨h1, h2⟩, by simp [LiesAll]⟩

set_option maxRecDepth 100000 in
set_option maxHeartbeats 1000000 in
/-- Nothing deep: a text or an atom. -/
theorem dr_zero (c : Nat) : DrOk c 0 1 := by
  intro w hc
  have hon := hide (once_calls c)
  have hbl := hide (below_calls c)
  have hpk := hide (pick_calls c)
  have HX1 := hide (ZBox.new w)
  have hcl := hc.lt
  have HC1 := hide (hc.below (ab (.cells #[.int .i64 0, .int .i64 0, .string ByteArray.empty, .slice none 0 0] 29)))
  have HO1 : Hid (Only [c] w (w.alloc (.cells #[.int .i64 0, .int .i64 0, .string ByteArray.empty, .slice none 0 0] 29))) := Only.of_below (ab _)
  clear hc
  go_enter Tryz.func121, Tryz.ntmps121
  go_wp2_with fail
  refine (unhide hon 3 _ (unhide HC1) (by omega)).mono ?_
  rintro e w2 ⟨b, rfl, hc2, ho2⟩
  have HO2 := hide ((unhide HO1).trans ho2)
  have HX2 := hide ((unhide HX1).only ho2 (by omega))
  have HC2 := hide hc2
  have hcl2 := hc2.lt
  clear ho2 hc2
  cases b with
  | true =>
    go_wp2_with fail
    refine (unhide hpk w2.heap.size 4 4 _ ((unhide HC2).below (ab (.cells #[.string ⟨#[]⟩, .string ⟨#[97]⟩, .string ⟨#[109, 120, 46, 97]⟩, .string ⟨#[50, 53, 48]⟩] 9))) (by omega) (by omega) (by omega) (by omega) (by omega) (words_at w2)).mono ?_
    rintro e w3 ⟨s, rfl, hs, hc3, ho3⟩
    have HO3 := hide ((unhide HO2).trans (only_alloc _ ho3))
    have hX3 := ((unhide HX2).below (ab (.cells #[.string ⟨#[]⟩, .string ⟨#[97]⟩, .string ⟨#[109, 120, 46, 97]⟩, .string ⟨#[50, 53, 48]⟩] 9))).only ho3 (by omega)
    have HC3 := hide hc3
    have hsm : s.size ≤ maxLen := by unfold maxLen; omega
    have HSM := hide hsm
    obtain ⟨d0, d1, d2, d3, e0, e1, e2, e3⟩ := hX3.facts
    clear ho3 hc3 hX3 hsm
    go_wp2_with fail
    exact bodyPost_ret (v := .agg #[.int .i64 2, .int .i64 0, .string s, .slice none 0 0]) (by simp [results, Tryz.results121, go_sem, d0, d1, d2, d3]; try rfl) rfl ⟨_, rfl, ⟨_, _, _, _, _, _, rfl, leaf_lies _ _ 2 0 s (unhide HSM) (by decide) (by decide), ⟨by simp [Tm.size, Tm.sizes, Tm.wt, Tm.wts]; omega, by simp [Tm.size, Tm.sizes]⟩⟩, cur_set4 (unhide HC3) hcl, only_set4 (unhide HO3) (Nat.le_refl _)⟩
  | false =>
    go_wp2_with fail
    refine (unhide hbl 9 _ (unhide HC2) (by omega)).mono ?_
    rintro e w3 ⟨x, rfl, ⟨_, hx⟩, hc3, ho3⟩
    obtain ⟨hx0, hx1⟩ := hx (by omega)
    have HO3 := hide ((unhide HO2).trans ho3)
    have hX3 := (unhide HX2).only ho3 (by omega)
    have HC3 := hide hc3
    obtain ⟨d0, d1, d2, d3, e0, e1, e2, e3⟩ := hX3.facts
    clear ho3 hc3 hX3
    go_wp2_with fail
    exact bodyPost_ret (v := .agg #[.int .i64 1, .int .i64 x, .string ByteArray.empty, .slice none 0 0]) (by simp [results, Tryz.results121, go_sem, d0, d1, d2, d3]; try rfl) rfl ⟨_, rfl, ⟨_, _, _, _, _, _, rfl, leaf_lies _ _ 1 x ByteArray.empty (by simp) (by decide) (WalkArith.wf_i64 (by omega)), ⟨by simp [Tm.size, Tm.sizes, Tm.wt, Tm.wts], by simp [Tm.size, Tm.sizes]⟩⟩, cur_set4 (unhide HC3) hcl, only_set4 (unhide HO3) (Nat.le_refl _)⟩

theorem Lies.low {w w' : World} {L c : Nat} {t : Tm} {cs : List Value} (_h0 : Lies w 0 t cs) (ho : Only [c] w w') (h : Lies w L t cs) (hc : c < L) : Lies w' 0 t cs := (h.only ho hc).any (Nat.zero_le _)
/-- What is left of a share that was tried: a box, and whether it is one. -/
def DrCut (sz c : Nat) (w3 : World) (p q : Value) (wx : World) : Prop := ∃ (g6 : Nat) (r : Tm) (op' n' : Int) (s' : ByteArray) (a' : Option Addr) (len' : Nat) (b : Bool), p = .pointer (some ⟨g6, 0, none⟩) ∧ q = .bool b ∧ RowT 29 wx g6 op' n' s' a' len' len' ∧ Lies wx w3.heap.size r (tmCells op' n' s' a' len' len') ∧ (r.size + r.wt ≤ 61000 ∧ r.size ≤ sz) ∧ Cur wx c ∧ Only [c] w3 wx
theorem DrCut.late {sz c L : Nat} {w3 w6 : World} {r : Tm} {op n : Int} {s : ByteArray} {a : Option Addr} {len : Nat} {b : Bool} (ho : Only [c] w3 w6) (hc : Cur w6 c) (hl : Lies w6 L r (tmCells op n s a len len)) (hL : w3.heap.size ≤ L) (hz : r.size + r.wt ≤ 61000 ∧ r.size ≤ sz) :
    DrCut sz c w3 (.pointer (some ⟨w6.heap.size, 0, none⟩)) (.bool b) (w6.alloc (.cells #[.int .i64 op, .int .i64 n, .string s, .slice a len len] 29)) :=
  ⟨_, r, _, _, _, _, _, b, rfl, rfl, RowT.new 29 w6 op n s a len len, (hl.any hL).below (ab _), hz, hc.below (ab _), ho.trans (Only.of_below (ab _))⟩
theorem box_fill {w : World} {g : Nat} (h : ZBox w g) (op n : Int) (s : ByteArray) (a : Option Addr) (len cap : Nat) : RowT 29 ((((w.setCell ⟨g, 0, none⟩ (.int .i64 op)).setCell ⟨g, 1, none⟩ (.int .i64 n)).setCell ⟨g, 2, none⟩ (.string s)).setCell ⟨g, 3, none⟩ (.slice a len cap)) g op n s a len cap := by
  unfold ZBox at h
  unfold RowT
  exact set_row (o := 3) (.slice a len cap) (set_row (o := 2) (.string s) (set_row (o := 1) (.int .i64 n) (set_row (o := 0) (.int .i64 op) h)))
theorem DrCut.early {sz c L g : Nat} {w3 w6 : World} {r : Tm} {op n : Int} {s : ByteArray} {a : Option Addr} {len : Nat} {b : Bool} (ho : Only [c] w3 w6) (hc : Cur w6 c) (hx : ZBox w6 g) (hg : c < w3.heap.size ∧ w3.heap.size ≤ g) (hl : Lies w6 L r (tmCells op n s a len len)) (hgL : g < L) (hL : w3.heap.size ≤ L) (hz : r.size + r.wt ≤ 61000 ∧ r.size ≤ sz) :
    DrCut sz c w3 (.pointer (some ⟨g, 0, none⟩)) (.bool b) ((((w6.setCell ⟨g, 0, none⟩ (.int .i64 op)).setCell ⟨g, 1, none⟩ (.int .i64 n)).setCell ⟨g, 2, none⟩ (.string s)).setCell ⟨g, 3, none⟩ (.slice a len len)) :=
  ⟨_, r, _, _, _, _, _, b, rfl, rfl, box_fill hx op n s a len len, set4_lies hl hgL _ hL, hz, cur_set4 hc (by omega), only_set4 ho hg.2⟩

set_option maxRecDepth 100000 in
set_option maxHeartbeats 4000000 in
/-- One deeper. -/
theorem dr_step (c : Nat) (d : Int) (h0 : 0 < d) (h1 : d ≤ 3) (sz : Nat) (ih : DrOk c (d - 1) sz) : DrOk c d (2 * sz + 3) := by
  intro w hc
  have hon := hide (once_calls c)
  have hbl := hide (below_calls c)
  have hpk := hide (pick_calls c)
  have IH := hide ih
  have IHW : Hid (DrOk c (IntKind.i64.wrap (d - 1)) sz) := by
    show DrOk _ _ _
    rw [show IntKind.i64.wrap (d - 1) = d - 1 by rw [IntKind.wrap_i64]; omega]
    exact ih
  clear ih
  have HX0 := hide (ZBox.new w)
  have hcl := hc.lt
  have HC0 := hide (hc.below (ab (.cells #[.int .i64 0, .int .i64 0, .string ByteArray.empty, .slice none 0 0] 29)))
  have q0 : (d == 0) = false := by simp; omega
  clear hc
  go_enter Tryz.func121, Tryz.ntmps121
  go_wp2_with fail
  refine (unhide hon 4 _ (unhide HC0) (by omega)).mono ?_
  rintro e w1 ⟨b, rfl, hc1, ho1⟩
  have HO1 := hide (only_alloc _ ho1)
  have HX1 := hide ((unhide HX0).only ho1 (by omega))
  have HC1 := hide hc1
  have hcl1 := hc1.lt
  clear ho1 hc1
  cases b with
  | true =>
    go_wp2_with fail
    refine (unhide hon 3 _ (unhide HC1) (by omega)).mono ?_
    rintro e w2 ⟨b, rfl, hc2, ho2⟩
    have HO2 := hide ((unhide HO1).trans ho2)
    have HX2 := hide ((unhide HX1).only ho2 (by omega))
    have HC2 := hide hc2
    have hcl2 := hc2.lt
    clear ho2 hc2
    cases b with
    | true =>
      go_wp2_with fail
      refine (unhide hpk w2.heap.size 4 4 _ ((unhide HC2).below (ab (.cells #[.string ⟨#[]⟩, .string ⟨#[97]⟩, .string ⟨#[109, 120, 46, 97]⟩, .string ⟨#[50, 53, 48]⟩] 9))) (by omega) (by omega) (by omega) (by omega) (by omega) (words_at w2)).mono ?_
      rintro e w3 ⟨s, rfl, hs, hc3, ho3⟩
      have HO3 := hide ((unhide HO2).trans (only_alloc _ ho3))
      have hX3 := ((unhide HX2).below (ab (.cells #[.string ⟨#[]⟩, .string ⟨#[97]⟩, .string ⟨#[109, 120, 46, 97]⟩, .string ⟨#[50, 53, 48]⟩] 9))).only ho3 (by omega)
      have HC3 := hide hc3
      have hsm : s.size ≤ maxLen := by unfold maxLen; omega
      have HSM := hide hsm
      obtain ⟨d0, d1, d2, d3, e0, e1, e2, e3⟩ := hX3.facts
      clear ho3 hc3 hX3 hsm
      go_wp2_with fail
      exact bodyPost_ret (v := .agg #[.int .i64 2, .int .i64 0, .string s, .slice none 0 0]) (by simp [results, Tryz.results121, go_sem, d0, d1, d2, d3]; try rfl) rfl ⟨_, rfl, ⟨_, _, _, _, _, _, rfl, leaf_lies _ _ 2 0 s (unhide HSM) (by decide) (by decide), ⟨by simp [Tm.size, Tm.sizes, Tm.wt, Tm.wts]; omega, by simp [Tm.size, Tm.sizes]⟩⟩, cur_set4 (unhide HC3) hcl, only_set4 (unhide HO3) (Nat.le_refl _)⟩
    | false =>
      go_wp2_with fail
      refine (unhide hbl 9 _ (unhide HC2) (by omega)).mono ?_
      rintro e w3 ⟨x, rfl, ⟨_, hx⟩, hc3, ho3⟩
      obtain ⟨hx0, hx1⟩ := hx (by omega)
      have HO3 := hide ((unhide HO2).trans ho3)
      have hX3 := (unhide HX2).only ho3 (by omega)
      have HC3 := hide hc3
      obtain ⟨d0, d1, d2, d3, e0, e1, e2, e3⟩ := hX3.facts
      clear ho3 hc3 hX3
      go_wp2_with fail
      exact bodyPost_ret (v := .agg #[.int .i64 1, .int .i64 x, .string ByteArray.empty, .slice none 0 0]) (by simp [results, Tryz.results121, go_sem, d0, d1, d2, d3]; try rfl) rfl ⟨_, rfl, ⟨_, _, _, _, _, _, rfl, leaf_lies _ _ 1 x ByteArray.empty (by simp) (by decide) (WalkArith.wf_i64 (by omega)), ⟨by simp [Tm.size, Tm.sizes, Tm.wt, Tm.wts], by simp [Tm.size, Tm.sizes]⟩⟩, cur_set4 (unhide HC3) hcl, only_set4 (unhide HO3) (Nat.le_refl _)⟩
  | false =>
    go_wp2_with fail
    refine (unhide IH _ (unhide HC1)).mono ?_
    rintro e w2 ⟨v, rfl, ⟨t, op, n, s, a, len, rfl, hl2, hz2⟩, hc2, ho2⟩
    have HR2 := hide (RowT.new 29 w2 op n s a len len)
    have HO2 := hide ((unhide HO1).trans (ho2.trans (Only.of_below (ab (.cells #[.int .i64 op, .int .i64 n, .string s, .slice a len len] 29)))))
    have HX2 := hide (((unhide HX1).only ho2 (by omega)).below (ab (.cells #[.int .i64 op, .int .i64 n, .string s, .slice a len len] 29)))
    have HC2 := hide (hc2.below (ab (.cells #[.int .i64 op, .int .i64 n, .string s, .slice a len len] 29)))
    have HL2 := hide (hl2.below (ab (.cells #[.int .i64 op, .int .i64 n, .string s, .slice a len len] 29)))
    have hcl2 := hc2.lt
    have HS12 := hide ho2.size
    have HSX := hide (lt_of_heap (unhide HX1))
    have HZ2 := hide hz2
    clear ho2 hc2 hl2 hz2
    go_wp2_with fail
    generalize hV : w2.alloc (.cells #[.int .i64 op, .int .i64 n, .string s, .slice a len len] 29) = V at *
    have HGV : Hid (w2.heap.size + 1 = V.heap.size) := by show _ = _; rw [← hV, heap_size_alloc]
    have HGW : Hid (w.heap.size < w2.heap.size) := by show _ < _; have := unhide HSX; have := unhide HS12; omega
    generalize w2.heap.size = g5 at *
    clear hV
    have hne1 : (w.heap.size = g5) = False := by simp; have := unhide HGW; omega
    have hne2 : (g5 = w.heap.size) = False := by simp; have := unhide HGW; omega
    refine (unhide hbl 7 _ (unhide HC2) (by omega)).mono ?_
    rintro e w3 ⟨x, rfl, ⟨_, hx⟩, hc3, ho3⟩
    obtain ⟨hx0, hx1⟩ := hx (by omega)
    clear hx
    have HR3 := hide ((unhide HR2).only ho3 (by simp; omega))
    have HO3 := hide ((unhide HO2).trans ho3)
    have HX3 := hide ((unhide HX2).only ho3 (by omega))
    have HC3 := hide hc3
    have HL3 := hide ((unhide HL2).only ho3 (by omega))
    have HGS : Hid (w.heap.size < w3.heap.size) := lt_of_heap (unhide HX3)
    have hg5 : c < g5 := hcl2
    clear ho3 hc3 HR2 HO2 HX2 HC2 HL2 HX1 HC1
    obtain ⟨c0, c1, c2, c3⟩ := (unhide HR3).facts
    rcases (by omega : x = 0 ∨ x = 1 ∨ x = 2 ∨ x = 3 ∨ x = 4 ∨ x = 5 ∨ x = 6) with rfl | rfl | rfl | rfl | rfl | rfl | rfl
    · have h22 := hide (pubS t op n s a len len)
      go_wp2_with fail
      refine (unhide h22 _ ((unhide HL3).any (Nat.zero_le _)) (by have := unhide HZ2; omega)).mono ?_
      rintro e w4 ⟨op', n', s', a', len', cap', rfl, hL4, hb4, rfl⟩
      have HL4 := hide hL4
      have HC4 := hide ((unhide HC3).below hb4)
      have HO4 := hide ((unhide HO3).trans (Only.of_below hb4))
      obtain ⟨p0, p1, p2, p3, q0, q1, q2, q3⟩ := ((unhide HX3).below hb4).facts
      clear hL4 hb4 c0 c1 c2 c3
      go_wp2_with fail
      exact bodyPost_ret (v := .agg #[.int .i64 op', .int .i64 n', .string s', .slice a' len' len']) (by simp [results, Tryz.results121, go_sem, p0, p1, p2, p3]) rfl ⟨_, rfl, ⟨_, _, _, _, _, _, rfl, set4_lies (unhide HL4) (unhide HGS) w.heap.size (by have := unhide HGS; omega), ⟨madeT_61 _ _, Nat.le_trans (made1_le _ _) (by have := unhide HZ2; omega)⟩⟩, cur_set4 (unhide HC4) hcl, only_set4 (unhide HO4) (Nat.le_refl _)⟩
    · have h22 := hide (hash15 t op n s a len len)
      go_wp2_with fail
      refine (unhide h22 _ ((unhide HL3).any (Nat.zero_le _)) (by have := unhide HZ2; omega)).mono ?_
      rintro e w4 ⟨op', n', s', a', len', cap', rfl, hL4, hb4, rfl⟩
      have HL4 := hide hL4
      have HC4 := hide ((unhide HC3).below hb4)
      have HO4 := hide ((unhide HO3).trans (Only.of_below hb4))
      obtain ⟨p0, p1, p2, p3, q0, q1, q2, q3⟩ := ((unhide HX3).below hb4).facts
      clear hL4 hb4 c0 c1 c2 c3
      go_wp2_with fail
      exact bodyPost_ret (v := .agg #[.int .i64 op', .int .i64 n', .string s', .slice a' len' len']) (by simp [results, Tryz.results121, go_sem, p0, p1, p2, p3]) rfl ⟨_, rfl, ⟨_, _, _, _, _, _, rfl, set4_lies (unhide HL4) (unhide HGS) w.heap.size (by have := unhide HGS; omega), ⟨madeT_61 _ _, Nat.le_trans (made1_le _ _) (by have := unhide HZ2; omega)⟩⟩, cur_set4 (unhide HC4) hcl, only_set4 (unhide HO4) (Nat.le_refl _)⟩
    · have h22 := hide (pubS)
      have h8 := hide (agree_calls t)
      have l0 := lt_of_cell c0
      have n0 := Nat.ne_of_lt l0
      have m0 := Ne.symm n0
      have hcw3 : w3.heap.size ≠ c := by omega
      go_wp2_with fail
      go_cut [6, 7] (fun p q wx => DrCut (2 * sz + 3) c w3 p q wx)
      case first =>
        go_region_held3 (fun x => x.cell? ⟨g5, 0, none⟩ = some (.int .i64 op) ∧ x.cell? ⟨g5, 1, none⟩ = some (.int .i64 n) ∧ x.cell? ⟨g5, 2, none⟩ = some (.string s) ∧ x.cell? ⟨g5, 3, none⟩ = some (.slice a len len)) (go_keep)
          (first
            | (go_at_call 121
               refine (unhide IHW _ ?_).mono ?_
               first
                 | exact (unhide HC3).drew
                 | exact ((unhide HC3).below (ab _)).drew
               rintro e w4 ⟨v, rfl, ⟨t2, op2, n2, s2, a2, len2, rfl, hl4, hz4⟩, hc4, ho4⟩
               try have zz4 := hide (((ZBox.new w3).drew).only ho4 hcw3)
               have HO34 : Hid (Only [c] w3 w4) := by
                 first
                   | exact ho4.drewl
                   | exact only_alloc _ ho4.drewl
               have HR4 := hide ((unhide HR3).only (unhide HO34) (by simp; omega))
               have HL4 := hide (((unhide HL3).any (Nat.zero_le _)).low (unhide HO34) (unhide HL3) (by omega))
               have HM4 := hide (hl4.any (Nat.zero_le _))
               have HC4 := hide hc4
               have HZ4 := hide hz4
               clear hl4 hz4 hc4 ho4
               obtain ⟨f0, f1, f2, f3⟩ := (unhide HR4).facts
               have l4 := lt_of_cell f0
               have n4 := Nat.ne_of_lt l4
               have m4 := Ne.symm n4)
            | (go_at_call 61
               refine (unhide h22 t2 _ _ _ _ _ _ _ ?_ (by have := unhide HZ4; omega)).mono ?_
               first
                 | exact unhide HM4
                 | exact (unhide HM4).below (ab _)
               rintro e w5 ⟨op3, n3, s3, a3, len3, cap3, rfl, hL5, hb5, -⟩
               try have zz5 := hide ((unhide zz4).below hb5)
               try have zz5 := hide ((ZBox.new w4).below hb5)
               have HB45 : Hid (Below w4.heap.size w4 w5) := by
                 first
                   | exact hb5
                   | exact bt (ab _) hb5 (Nat.le_refl _)
               have HM5 := hide (hL5.any (Nat.zero_le _))
               have HL5 := hide ((unhide HL4).below (unhide HB45))
               clear hL5 hb5
               have g0 := kpc (unhide HB45) f0
               have g1 := kpc (unhide HB45) f1
               have g2 := kpc (unhide HB45) f2
               have g3 := kpc (unhide HB45) f3
               have l5 := lt_of_cell g0
               have n5 := Nat.ne_of_lt l5
               have m5 := Ne.symm n5)
            | (go_at_call 73
               refine (unhide h8 (madeT 4 [t2]) _ _ _ _ _ _ _ _ _ _ _ _ _ ?_ ?_ (by have := unhide HZ2; have := madeT_61 4 [t2]; omega)).mono ?_
               first
                 | exact unhide HL5
                 | exact (unhide HL5).below (ab _)
               first
                 | exact unhide HM5
                 | exact (unhide HM5).below (ab _)
               rintro e w6 ⟨op', n', s', a', len', cap', rfl, hL6, hb6, rfl⟩
               try have zz6 := hide ((unhide zz5).below hb6)
               try have zz6 := hide ((ZBox.new w5).below hb6)
               have HB56 : Hid (Below w5.heap.size w5 w6) := by
                 first
                   | exact hb6
                   | exact bt (ab _) hb6 (Nat.le_refl _)
               have HL6 := hide hL6
               clear hL6 hb6
               try obtain ⟨p0, p1, p2, p3, q0, q1, q2, q3⟩ := (unhide zz6).facts
               have j0 := kpc (unhide HB56) g0
               have j1 := kpc (unhide HB56) g1
               have j2 := kpc (unhide HB56) g2
               have j3 := kpc (unhide HB56) g3
               have l6 := lt_of_cell j0
               have n6 := Nat.ne_of_lt l6
               have m6 := Ne.symm n6))
        all_goals
          go_wp2_with fail
          go_meet
          have HC6 := hide (((unhide HC4).below (unhide HB45)).below (unhide HB56))
          have HO36 := hide ((unhide HO34).trans ((Only.of_below (unhide HB45)).trans (Only.of_below (unhide HB56))))
          have s34 := (unhide HO34).size
          have s45 := (unhide HB45).size
          have s56 := (unhide HB56).size
          first
            | (with_reducible refine DrCut.late (unhide HO36) (unhide HC6) (unhide HL6) ?_ ⟨agreeT_200 _ _, Nat.le_trans (agree_le _ _) (by have := made1_le 4 t2; have := unhide HZ2; have := unhide HZ4; omega)⟩
               first | omega | (rw [heap_size_alloc]; omega))
            | (with_reducible refine DrCut.early (unhide HO36) (unhide HC6) (unhide zz6) ?_ (unhide HL6) ?_ ?_ ⟨agreeT_200 _ _, Nat.le_trans (agree_le _ _) (by have := made1_le 4 t2; have := unhide HZ2; have := unhide HZ4; omega)⟩
               · first | omega | (have := lt_of_heap (unhide zz4); omega)
               · first
                   | exact lt_of_heap (unhide zz5)
                   | (rw [heap_size_alloc]; omega)
               · first | omega | (rw [heap_size_alloc]; omega))
      case rest =>
        obtain ⟨g6, r, op', n', s', a', len', b, rfl, rfl, hR6, hL6, hz6, hc6, ho6⟩ := hcut
        have HX6 := hide ((unhide HX3).only ho6 (by omega))
        have HO6 := hide ((unhide HO3).trans ho6)
        have HC6 := hide hc6
        have HL6 := hide hL6
        have HZ6 := hide hz6
        have HT6 := hide ((unhide HL3).only ho6 (by omega))
        obtain ⟨k0, k1, k2, k3⟩ := ((unhide HR3).only ho6 (by simp; omega)).facts
        obtain ⟨f0, f1, f2, f3⟩ := hR6.facts
        obtain ⟨p0, p1, p2, p3, q0, q1, q2, q3⟩ := (unhide HX6).facts
        clear hR6 hL6 hz6 hc6 ho6 c0 c1 c2 c3 l0 n0 m0
        cases b with
        | true =>
          go_wp2_with fail
          exact bodyPost_ret (v := .agg #[.int .i64 op', .int .i64 n', .string s', .slice a' len' len']) (by simp [results, Tryz.results121, go_sem, p0, p1, p2, p3]) rfl ⟨_, rfl, ⟨r, _, _, _, _, _, rfl, set4_lies (unhide HL6) (unhide HGS) w.heap.size (by have := unhide HGS; omega), unhide HZ6⟩, cur_set4 (unhide HC6) hcl, only_set4 (unhide HO6) (Nat.le_refl _)⟩
        | false =>
          go_wp2_with fail
          exact bodyPost_ret (v := .agg #[.int .i64 op, .int .i64 n, .string s, .slice a len len]) (by simp [results, Tryz.results121, go_sem, p0, p1, p2, p3]) rfl ⟨_, rfl, ⟨t, _, _, _, _, _, rfl, set4_lies (unhide HT6) (unhide HSX) w.heap.size (by have := unhide HSX; omega), ⟨(unhide HZ2).1, by have := (unhide HZ2).2; omega⟩⟩, cur_set4 (unhide HC6) hcl, only_set4 (unhide HO6) (Nat.le_refl _)⟩
    · have h54 := hide (sealS t)
      go_wp2_with fail
      go_region_held3 (fun x => x.cell? ⟨g5, 0, none⟩ = some (.int .i64 op) ∧ x.cell? ⟨g5, 1, none⟩ = some (.int .i64 n) ∧ x.cell? ⟨g5, 2, none⟩ = some (.string s) ∧ x.cell? ⟨g5, 3, none⟩ = some (.slice a len len)) (go_keep)
        (first
          | (go_at_call 68
             refine (unhide hbl 3 _ (unhide HC3).drew (by omega)).mono ?_
             rintro e w4 ⟨y, rfl, ⟨_, hy⟩, hc4, ho4⟩
             obtain ⟨hy0, hy1⟩ := hy (by omega)
             have HO34 := hide ho4.drewl
             have HR4 := hide ((unhide HR3).only ho4.drewl (by simp; omega))
             have HX4 := hide ((unhide HX3).only ho4.drewl (by omega))
             have HL4 := hide ((unhide HL3).only ho4.drewl (by omega))
             have HC4 := hide hc4
             clear hc4 ho4 hy
             obtain ⟨f0, f1, f2, f3⟩ := (unhide HR4).facts)
          | (go_at_call 121
             refine (unhide IHW _ (unhide HC4)).mono ?_
             rintro e w5 ⟨v, rfl, ⟨t2, op2, n2, s2, a2, len2, rfl, hl5, hz5⟩, hc5, ho5⟩
             have HO45 := hide ho5
             have HR5 := hide ((unhide HR4).only ho5 (by simp; omega))
             have HX5 := hide ((unhide HX4).only ho5 (by omega))
             have HL5 := hide ((unhide HL4).only ho5 (by omega))
             have HM5 := hide (hl5.any (Nat.zero_le _))
             have HC5 := hide hc5
             have HZ5 := hide hz5
             clear hl5 hz5 hc5 ho5
             obtain ⟨k0, k1, k2, k3⟩ := (unhide HR5).facts)
          | (go_at_call 76
             refine (unhide h54 t2 _ _ _ _ _ _ _ _ _ _ _ _ _ _ ((unhide HL5).any (Nat.zero_le _)) (unhide HM5) (by have := unhide HZ2; have := unhide HZ5; omega) (by omega) (by omega)).mono ?_
             rintro e w6 ⟨op', n', s', a', len', cap', rfl, hL6, hb6, rfl⟩
             have HL6 := hide hL6
             have HB6 := hide hb6
             obtain ⟨p0, p1, p2, p3, q0, q1, q2, q3⟩ := ((unhide HX5).below hb6).facts
             have j0 := kpc hb6 k0
             have j1 := kpc hb6 k1
             have j2 := kpc hb6 k2
             have j3 := kpc hb6 k3
             clear hL6 hb6))
      have HC6 := hide ((unhide HC5).below (unhide HB6))
      have HO6 := hide ((((unhide HO3).trans (unhide HO34)).trans (unhide HO45)).trans (Only.of_below (unhide HB6)))
      have HGS5 := hide (Nat.lt_of_lt_of_le (unhide HGS) (Nat.le_trans (unhide HO34).size (unhide HO45).size))
      clear c0 c1 c2 c3 f0 f1 f2 f3 j0 j1 j2 j3 k0 k1 k2 k3
      go_wp2_with fail
      exact bodyPost_ret (v := .agg #[.int .i64 op', .int .i64 n', .string s', .slice a' len' len']) (by simp [results, Tryz.results121, go_sem, p0, p1, p2, p3]) rfl ⟨_, rfl, ⟨_, _, _, _, _, _, rfl, set4_lies (unhide HL6) (unhide HGS5) w.heap.size (by have := unhide HGS5; omega), ⟨madeT_61 _ _, Nat.le_trans (seal_le _ _ _) (by have := unhide HZ2; have := unhide HZ5; omega)⟩⟩, cur_set4 (unhide HC6) hcl, only_set4 (unhide HO6) (Nat.le_refl _)⟩
    · have h55 := hide (signS t)
      go_wp2_with fail
      go_region_held3 (fun x => x.cell? ⟨g5, 0, none⟩ = some (.int .i64 op) ∧ x.cell? ⟨g5, 1, none⟩ = some (.int .i64 n) ∧ x.cell? ⟨g5, 2, none⟩ = some (.string s) ∧ x.cell? ⟨g5, 3, none⟩ = some (.slice a len len)) (go_keep)
        (first
          | (go_at_call 121
             refine (unhide IHW _ (unhide HC3).drew).mono ?_
             rintro e w4 ⟨v, rfl, ⟨t2, op2, n2, s2, a2, len2, rfl, hl4, hz4⟩, hc4, ho4⟩
             have HO34 := hide ho4.drewl
             have HR4 := hide ((unhide HR3).only ho4.drewl (by simp; omega))
             have HX4 := hide ((unhide HX3).only ho4.drewl (by omega))
             have HL4 := hide ((unhide HL3).only ho4.drewl (by omega))
             have HM4 := hide (hl4.any (Nat.zero_le _))
             have HC4 := hide hc4
             have HZ4 := hide hz4
             clear hl4 hz4 hc4 ho4
             obtain ⟨f0, f1, f2, f3⟩ := (unhide HR4).facts)
          | (go_at_call 78
             refine (unhide h55 t2 _ _ _ _ _ _ _ _ _ _ _ _ _ ((unhide HL4).any (Nat.zero_le _)) (unhide HM4) (by have := unhide HZ2; have := unhide HZ4; omega)).mono ?_
             rintro e w5 ⟨op', n', s', a', len', cap', rfl, hL5, hb5, rfl⟩
             have HL5 := hide hL5
             have HB5 := hide hb5
             obtain ⟨p0, p1, p2, p3, q0, q1, q2, q3⟩ := ((unhide HX4).below hb5).facts
             have j0 := kpc hb5 f0
             have j1 := kpc hb5 f1
             have j2 := kpc hb5 f2
             have j3 := kpc hb5 f3
             clear hL5 hb5))
      have HC5 := hide ((unhide HC4).below (unhide HB5))
      have HO5 := hide (((unhide HO3).trans (unhide HO34)).trans (Only.of_below (unhide HB5)))
      have HGS4 := hide (Nat.lt_of_lt_of_le (unhide HGS) (unhide HO34).size)
      clear c0 c1 c2 c3 f0 f1 f2 f3 j0 j1 j2 j3
      go_wp2_with fail
      exact bodyPost_ret (v := .agg #[.int .i64 op', .int .i64 n', .string s', .slice a' len' len']) (by simp [results, Tryz.results121, go_sem, p0, p1, p2, p3]) rfl ⟨_, rfl, ⟨_, _, _, _, _, _, rfl, set4_lies (unhide HL5) (unhide HGS4) w.heap.size (by have := unhide HGS4; omega), ⟨madeT_61 _ _, Nat.le_trans (made2_le _ _ _) (by have := unhide HZ2; have := unhide HZ4; omega)⟩⟩, cur_set4 (unhide HC5) hcl, only_set4 (unhide HO5) (Nat.le_refl _)⟩
    · have h55 := hide (pair12 t)
      go_wp2_with fail
      go_region_held3 (fun x => x.cell? ⟨g5, 0, none⟩ = some (.int .i64 op) ∧ x.cell? ⟨g5, 1, none⟩ = some (.int .i64 n) ∧ x.cell? ⟨g5, 2, none⟩ = some (.string s) ∧ x.cell? ⟨g5, 3, none⟩ = some (.slice a len len)) (go_keep)
        (first
          | (go_at_call 121
             refine (unhide IHW _ (unhide HC3).drew).mono ?_
             rintro e w4 ⟨v, rfl, ⟨t2, op2, n2, s2, a2, len2, rfl, hl4, hz4⟩, hc4, ho4⟩
             have HO34 := hide ho4.drewl
             have HR4 := hide ((unhide HR3).only ho4.drewl (by simp; omega))
             have HX4 := hide ((unhide HX3).only ho4.drewl (by omega))
             have HL4 := hide ((unhide HL3).only ho4.drewl (by omega))
             have HM4 := hide (hl4.any (Nat.zero_le _))
             have HC4 := hide hc4
             have HZ4 := hide hz4
             clear hl4 hz4 hc4 ho4
             obtain ⟨f0, f1, f2, f3⟩ := (unhide HR4).facts)
          | (go_at_call 74
             refine (unhide h55 t2 _ _ _ _ _ _ _ _ _ _ _ _ _ ((unhide HL4).any (Nat.zero_le _)) (unhide HM4) (by have := unhide HZ2; have := unhide HZ4; omega)).mono ?_
             rintro e w5 ⟨op', n', s', a', len', cap', rfl, hL5, hb5, rfl⟩
             have HL5 := hide hL5
             have HB5 := hide hb5
             obtain ⟨p0, p1, p2, p3, q0, q1, q2, q3⟩ := ((unhide HX4).below hb5).facts
             have j0 := kpc hb5 f0
             have j1 := kpc hb5 f1
             have j2 := kpc hb5 f2
             have j3 := kpc hb5 f3
             clear hL5 hb5))
      have HC5 := hide ((unhide HC4).below (unhide HB5))
      have HO5 := hide (((unhide HO3).trans (unhide HO34)).trans (Only.of_below (unhide HB5)))
      have HGS4 := hide (Nat.lt_of_lt_of_le (unhide HGS) (unhide HO34).size)
      clear c0 c1 c2 c3 f0 f1 f2 f3 j0 j1 j2 j3
      go_wp2_with fail
      exact bodyPost_ret (v := .agg #[.int .i64 op', .int .i64 n', .string s', .slice a' len' len']) (by simp [results, Tryz.results121, go_sem, p0, p1, p2, p3]) rfl ⟨_, rfl, ⟨_, _, _, _, _, _, rfl, set4_lies (unhide HL5) (unhide HGS4) w.heap.size (by have := unhide HGS4; omega), ⟨madeT_61 _ _, Nat.le_trans (made2_le _ _ _) (by have := unhide HZ2; have := unhide HZ4; omega)⟩⟩, cur_set4 (unhide HC5) hcl, only_set4 (unhide HO5) (Nat.le_refl _)⟩
    · have h55 := hide (pair12 t)
      go_wp2_with fail
      go_region_held3 (fun x => x.cell? ⟨g5, 0, none⟩ = some (.int .i64 op) ∧ x.cell? ⟨g5, 1, none⟩ = some (.int .i64 n) ∧ x.cell? ⟨g5, 2, none⟩ = some (.string s) ∧ x.cell? ⟨g5, 3, none⟩ = some (.slice a len len)) (go_keep)
        (first
          | (go_at_call 121
             refine (unhide IHW _ (unhide HC3).drew).mono ?_
             rintro e w4 ⟨v, rfl, ⟨t2, op2, n2, s2, a2, len2, rfl, hl4, hz4⟩, hc4, ho4⟩
             have HO34 := hide ho4.drewl
             have HR4 := hide ((unhide HR3).only ho4.drewl (by simp; omega))
             have HX4 := hide ((unhide HX3).only ho4.drewl (by omega))
             have HL4 := hide ((unhide HL3).only ho4.drewl (by omega))
             have HM4 := hide (hl4.any (Nat.zero_le _))
             have HC4 := hide hc4
             have HZ4 := hide hz4
             clear hl4 hz4 hc4 ho4
             obtain ⟨f0, f1, f2, f3⟩ := (unhide HR4).facts)
          | (go_at_call 74
             refine (unhide h55 t2 _ _ _ _ _ _ _ _ _ _ _ _ _ ((unhide HL4).any (Nat.zero_le _)) (unhide HM4) (by have := unhide HZ2; have := unhide HZ4; omega)).mono ?_
             rintro e w5 ⟨op', n', s', a', len', cap', rfl, hL5, hb5, rfl⟩
             have HL5 := hide hL5
             have HB5 := hide hb5
             obtain ⟨p0, p1, p2, p3, q0, q1, q2, q3⟩ := ((unhide HX4).below hb5).facts
             have j0 := kpc hb5 f0
             have j1 := kpc hb5 f1
             have j2 := kpc hb5 f2
             have j3 := kpc hb5 f3
             clear hL5 hb5))
      have HC5 := hide ((unhide HC4).below (unhide HB5))
      have HO5 := hide (((unhide HO3).trans (unhide HO34)).trans (Only.of_below (unhide HB5)))
      have HGS4 := hide (Nat.lt_of_lt_of_le (unhide HGS) (unhide HO34).size)
      clear c0 c1 c2 c3 f0 f1 f2 f3 j0 j1 j2 j3
      go_wp2_with fail
      exact bodyPost_ret (v := .agg #[.int .i64 op', .int .i64 n', .string s', .slice a' len' len']) (by simp [results, Tryz.results121, go_sem, p0, p1, p2, p3]) rfl ⟨_, rfl, ⟨_, _, _, _, _, _, rfl, set4_lies (unhide HL5) (unhide HGS4) w.heap.size (by have := unhide HGS4; omega), ⟨madeT_61 _ _, Nat.le_trans (made2_le _ _ _) (by have := unhide HZ2; have := unhide HZ4; omega)⟩⟩, cur_set4 (unhide HC5) hcl, only_set4 (unhide HO5) (Nat.le_refl _)⟩

theorem dr1 (c : Nat) : DrOk c 1 5 := dr_step c 1 (by omega) (by omega) 1 (dr_zero c)
theorem dr2 (c : Nat) : DrOk c 2 13 := dr_step c 2 (by omega) (by omega) 5 (dr1 c)
theorem dr3 (c : Nat) : DrOk c 3 29 := dr_step c 3 (by omega) (by omega) 13 (dr2 c)

/-- A term of at most so many lies behind L. -/
def Held (k : Nat) (w : World) (L : Nat) (v : Value) : Prop := ∃ (t : Tm) (op n : Int) (s : ByteArray) (a : Option Addr) (len cap : Nat), v = .agg #[.int .i64 op, .int .i64 n, .string s, .slice a len cap] ∧ Lies w L t (tmCells op n s a len cap) ∧ (t.size + t.wt ≤ k ∧ t.size ≤ 40)

/-- The cells of kids, one behind the other. -/
def Flat (w : World) (L : Nat) : List Value → List Tm → Prop
  | xs, [] => xs = []
  | xs, t :: r => ∃ cs ys, xs = cs ++ ys ∧ Lies w L t cs ∧ Flat w L ys r
theorem Flat.of {w : World} {L b o : Nat} : ∀ (ks : List Tm) (i : Nat), LiesAll w L (some ⟨b, o, none⟩) i ks → ∃ xs, xs.length = ks.length * 4 ∧ (∀ j u, xs[j]? = some u → w.cell? ⟨b, o + i * 4 + j, none⟩ = some u) ∧ Flat w L xs ks
  | [], _, _ => ⟨[], by simp, by simp, rfl⟩
  | t :: r, i, h => by
    simp only [LiesAll] at h
    obtain ⟨⟨b', o', cs, he, _, hr, ht⟩, h2⟩ := h
    cases he
    obtain ⟨ys, hl, hc, hf⟩ := Flat.of r (i + 1) h2
    have h4 := ht.length
    refine ⟨cs ++ ys, by simp [hl, h4]; omega, fun j u hj => ?_, cs, ys, rfl, ht, hf⟩
    by_cases hj4 : j < 4
    · rw [List.getElem?_append_left (by omega)] at hj
      exact hr j u hj
    · rw [List.getElem?_append_right (by omega), h4] at hj
      have := hc (j - 4) u hj
      rwa [show o + (i + 1) * 4 + (j - 4) = o + i * 4 + j by omega] at this
theorem Flat.lies {w w' : World} {L L' g : Nat} (hg : L' ≤ g) (hk : ∀ t cs, Lies w L t cs → Lies w' L' t cs) : ∀ (ks : List Tm) (xs : List Value) (i : Nat), Flat w L xs ks → (∀ j u, xs[j]? = some u → w'.cell? ⟨g, 0 + i * 4 + j, none⟩ = some u) → LiesAll w' L' (some ⟨g, 0, none⟩) i ks
  | [], _, _, _, _ => by simp [LiesAll]
  | t :: r, xs, i, h, hc => by
    obtain ⟨cs, ys, rfl, ht, hf⟩ := h
    have h4 := ht.length
    simp only [LiesAll]
    refine ⟨⟨g, 0, cs, rfl, hg, fun j v hj => hc j v (by rw [List.getElem?_append_left (by have := (List.getElem?_eq_some_iff.1 hj).1; omega)]; exact hj), hk t cs ht⟩, Flat.lies hg hk r ys (i + 1) hf fun j u hj => ?_⟩
    have := hc (4 + j) u (by rw [List.getElem?_append_right (by omega), h4, show 4 + j - 4 = j by omega]; exact hj)
    rwa [show 0 + i * 4 + (4 + j) = 0 + (i + 1) * 4 + j by omega] at this
theorem Flat.snoc {w : World} {L : Nat} {t : Tm} {cs : List Value} (ht : Lies w L t cs) : ∀ (ks : List Tm) (xs : List Value), Flat w L xs ks → Flat w L (xs ++ cs) (ks ++ [t])
  | [], _, h => ⟨cs, [], by rw [show _ = [] from h]; simp, ht, rfl⟩
  | x :: r, _, ⟨cs', ys, rfl, hx, hf⟩ => ⟨cs', ys ++ cs, by simp, hx, Flat.snoc ht r ys hf⟩

/-- A list of kids that is full, and one more behind it: what the append made. -/
theorem pushed {w1 X w' : World} {L c : Nat} {ks : List Tm} {t : Tm} {cs xs : List Value} {v' : Value} (hc : c < L) (hL : L ≤ X.heap.size) (hf : Flat w1 L xs ks) (ht : ∀ W, Lies W L t cs) (ho : w'.ownsRow X.heap.size 29 4 v' (ks.length + 1) (xs ++ cs)) (hg : X.grownBy w' none) :
    ∃ g cap, v' = .slice (some ⟨g, 0, none⟩) (ks.length + 1) cap ∧ (ks.length + 1 ≤ cap ∧ cap ≤ maxLen) ∧ X.heap.size ≤ g ∧ Below X.heap.size X w' ∧ ∀ W, Only [c] w1 W → (∀ o, W.cell? ⟨g, o, none⟩ = w'.cell? ⟨g, o, none⟩) → LiesAll W L (some ⟨g, 0, none⟩) 0 (ks ++ [t]) := by
  have hb : Below X.heap.size X w' := (Below.refl _ _).grown hg (Nat.le_refl _) (by simp)
  rcases ho.2 with ⟨_, h0⟩ | ⟨g, cap, cur, hv, hge, hrow, h1, h2, h3, h4⟩
  · omega
  · refine ⟨g, cap, hv, ⟨h1, h2⟩, hge, hb, fun W hW hcell => Flat.lies (w := w1) (by omega) (fun t cs h => h.only hW hc) _ _ 0 (Flat.snoc (ht w1) ks xs hf) fun j u hj => ?_⟩
    have hjl : j < (ks.length + 1) * 4 := by have := (List.getElem?_eq_some_iff.1 hj).1; rw [ho.1] at this; exact this
    rw [← h4, List.getElem?_take, if_pos hjl] at hj
    have hcs : j < cur.size := by have := (List.getElem?_eq_some_iff.1 hj).1; simpa using this
    have := cell_of_row hrow hcs
    rw [show 0 + 0 * 4 + j = j by omega, hcell, this]
    simpa [hcs] using hj

/-- One more behind a full list of kids. -/
theorem append_one {w1 X : World} {L c b : Nat} {a : Option Addr} {ks : List Tm} {t : Tm} {cs : List Value} (hc : c < L) (hL : L ≤ X.heap.size) (hk : LiesAll w1 L a 0 ks) (hX : Only [c] w1 X) (hn : ks.length ≤ 100000) (ht : ∀ W, Lies W L t cs) (hr : X.rangeAt b 0 cs) (h1 : ∀ u ∈ cs, u.oneCell' = true) (ty : TypeId) :
    ∃ v' w', (Builtin.append_ #[27, 27] ty #[.slice a ks.length ks.length, .slice (some ⟨b, 0, none⟩) 1 1]).run Tryz.prog X = .ok v' w' ∧
      ∃ g cap, v' = .slice (some ⟨g, 0, none⟩) (ks.length + 1) cap ∧ (ks.length + 1 ≤ cap ∧ cap ≤ maxLen) ∧ X.heap.size ≤ g ∧ Below X.heap.size X w' ∧ ∀ W, Only [c] w1 W → (∀ o, W.cell? ⟨g, o, none⟩ = w'.cell? ⟨g, o, none⟩) → LiesAll W L (some ⟨g, 0, none⟩) 0 (ks ++ [t]) := by
  obtain ⟨i, hi, hzz⟩ := Option.map_eq_some_iff.1 info24
  simp only [Prod.mk.injEq] at hzz
  obtain ⟨hz, hs, hb⟩ := hzz
  have h4 := (ht X).length
  have hnews : ∀ j u, cs[j]? = some u → X.cell? ((⟨b, 0, none⟩ : Addr).add j) = some u := fun j u hj => by rw [Addr.add_mid]; exact hr j u hj
  cases a with
  | none =>
    have h0 : ks = [] := by
      cases ks with
      | nil => rfl
      | cons x r => simp [LiesAll] at hk
    subst h0
    obtain ⟨v', w', hrun, r1, r2, _⟩ := run_append_own (P := Tryz.prog) X X.heap.size 27 ty 29 i _ 4 56 Tryz.underlying27 hi hz hs hb rfl (by omega) (.slice none 0 0) 0 [] (World.ownsRow_nil X _ 29 4) ⟨b, 0, none⟩ 1 1 cs (by omega) hnews h1 (by simp [maxLen]) (by omega) (Nat.le_refl _)
    exact ⟨v', w', hrun, pushed (ks := []) hc hL (show Flat w1 L [] [] from rfl) ht r1 r2⟩
  | some ad =>
    obtain ⟨xs, hx1, hx2, hx3⟩ : ∃ xs : List Value, xs.length = ks.length * 4 ∧ (∀ j u, xs[j]? = some u → X.cell? (ad.add j) = some u) ∧ Flat w1 L xs ks := by
      cases ks with
      | nil => exact ⟨[], rfl, by simp, rfl⟩
      | cons x r =>
        have hk' := hk
        simp only [LiesAll] at hk'
        obtain ⟨⟨b', o', _, he, hLb, _⟩, _⟩ := hk'
        cases he
        obtain ⟨xs, g1, g2, g3⟩ := Flat.of _ 0 hk
        refine ⟨xs, g1, fun j u hj => ?_, g3⟩
        rw [Addr.add_mid]
        have h5 : w1.cell? ⟨b', o' + j, none⟩ = some u := by simpa using g2 j u hj
        exact (World.cell?_of_block (hX.block b' (lt_of_cell h5) (by simp; omega))).trans h5
    obtain ⟨v', w', hrun, r1, r2⟩ := run_append_arg_grows (P := Tryz.prog) X 27 ty 29 i _ 4 56 Tryz.underlying27 hi hz hs hb rfl (by omega) ad ks.length ks.length xs hx1 hx2 ⟨b, 0, none⟩ 1 1 cs (by omega) hnews (by omega) (by unfold maxLen; omega) (by omega)
    exact ⟨v', w', hrun, pushed hc hL hx3 ht r1 r2⟩

theorem lies_new {w : World} {L : Nat} {t : Tm} {op n : Int} {s : ByteArray} {a : Option Addr} {len cap : Nat} (h : Lies w L t (tmCells op n s a len cap)) (op' n' : Int) (s' : ByteArray) (hs : s'.size ≤ maxLen) (h1 : (Lit.int .i64 op').wf = true) (h2 : (Lit.int .i64 n').wf = true) : ∃ t', Lies w L t' (tmCells op' n' s' a len cap) ∧ t'.size = t.size ∧ t'.wt + s.size = t.wt + s'.size := by
  obtain ⟨o1, n1, s1, ks⟩ := t
  simp only [Lies, tmCells, List.cons.injEq, Value.int.injEq, Value.string.injEq, Value.slice.injEq, true_and, and_true] at h
  obtain ⟨a9, c9, ⟨rfl, rfl, rfl, rfl, rfl, rfl⟩, ⟨_, h3, h4⟩, _, hk⟩ := h
  refine ⟨.node op' n' s' ks, ?_, by simp [Tm.size], by simp only [Tm.wt]; omega⟩
  simp only [Lies]
  exact ⟨_, _, rfl, ⟨hs, h3, h4⟩, ⟨h1, h2⟩, hk⟩
theorem Lies.wf {w : World} {L : Nat} {t : Tm} {op n : Int} {s : ByteArray} {a : Option Addr} {len cap : Nat} (h : Lies w L t (tmCells op n s a len cap)) : (Lit.int .i64 op).wf = true ∧ (Lit.int .i64 n).wf = true ∧ s.size ≤ maxLen := by
  obtain ⟨o1, n1, s1, ks⟩ := t
  simp only [Lies, tmCells, List.cons.injEq, Value.int.injEq, Value.string.injEq, Value.slice.injEq, true_and, and_true] at h
  obtain ⟨a9, c9, ⟨rfl, rfl, rfl, rfl, rfl, rfl⟩, ⟨h0, h3, h4⟩, ⟨h1, h2⟩, hk⟩ := h
  exact ⟨h1, h2, h0⟩
theorem ints_at5 (w : World) : ∀ k, k < 5 → ∃ z, (w.alloc (.cells #[.int .i64 (-1), .int .i64 1, .int .i64 1000000, .int .i64 1000001, .int .i64 (-9223372036854775808)] 3)).cell? ⟨w.heap.size, k, none⟩ = some (.int .i64 z) ∧ (Lit.int .i64 z).wf = true
  | 0, _ => ⟨_, box_cell w _ 3 0 _ rfl, by decide⟩
  | 1, _ => ⟨_, box_cell w _ 3 1 _ rfl, by decide⟩
  | 2, _ => ⟨_, box_cell w _ 3 2 _ rfl, by decide⟩
  | 3, _ => ⟨_, box_cell w _ 3 3 _ rfl, by decide⟩
  | 4, _ => ⟨_, box_cell w _ 3 4 _ rfl, by decide⟩
  | k + 5, h => absurd h (by omega)
theorem Lies.set {w : World} {L L' g o : Nat} {x : Value} {t : Tm} {cs : List Value} (h : Lies w L t cs) (hg : g < L) (hL : L' ≤ L) : Lies (w.setCell ⟨g, o, none⟩ x) L' t cs :=
  Lies.carry hL (fun b _ hb _ => World.cell?_of_block (Below.heap_setCell _ _ _ _ (by show b ≠ g; omega))) t cs h
theorem Cur.set {w : World} {c g o : Nat} {x : Value} (h : Cur w c) (hg : c < g) : Cur (w.setCell ⟨g, o, none⟩ x) c := h.keep fun b hb => Below.heap_setCell _ _ _ _ (by show b ≠ g; omega)
theorem only_set {c g o : Nat} {w v : World} {x : Value} (h : Only [c] w v) (hg : w.heap.size ≤ g) : Only [c] w (v.setCell ⟨g, o, none⟩ x) :=
  ⟨h.os, h.tape, h.output, by simpa using h.size, fun k hk hf => by rw [Below.heap_setCell _ _ _ _ (by show k ≠ g; omega)]; exact h.block k hk hf⟩

theorem held_fin {w X : World} {c : Nat} {t : Tm} {op n : Int} {s : ByteArray} {a : Option Addr} {len cap : Nat} (hl : Lies X (w.heap.size + 1) t (tmCells op n s a len cap)) (hz : t.size + t.wt ≤ 61010 ∧ t.size ≤ 40) (hc : Cur X c) (ho : Only [c] w X) (hcl : c < w.heap.size) :
    Held 61010 ((((X.setCell ⟨w.heap.size, 0, none⟩ (.int .i64 op)).setCell ⟨w.heap.size, 1, none⟩ (.int .i64 n)).setCell ⟨w.heap.size, 2, none⟩ (.string s)).setCell ⟨w.heap.size, 3, none⟩ (.slice a len cap)) w.heap.size (.agg #[.int .i64 op, .int .i64 n, .string s, .slice a len cap]) ∧
    Cur ((((X.setCell ⟨w.heap.size, 0, none⟩ (.int .i64 op)).setCell ⟨w.heap.size, 1, none⟩ (.int .i64 n)).setCell ⟨w.heap.size, 2, none⟩ (.string s)).setCell ⟨w.heap.size, 3, none⟩ (.slice a len cap)) c ∧
    Only [c] w ((((X.setCell ⟨w.heap.size, 0, none⟩ (.int .i64 op)).setCell ⟨w.heap.size, 1, none⟩ (.int .i64 n)).setCell ⟨w.heap.size, 2, none⟩ (.string s)).setCell ⟨w.heap.size, 3, none⟩ (.slice a len cap)) :=
  ⟨⟨t, _, _, _, _, _, _, rfl, set4_lies hl (by omega) _ (by omega), hz⟩, cur_set4 hc hcl, only_set4 ho (Nat.le_refl _)⟩

set_option maxRecDepth 100000 in
set_option maxHeartbeats 4000000 in
theorem draw_calls (c : Nat) (w : World) (hc : Cur w c) :
    Calls Tryz.prog 70 #[.pointer (some ⟨c, 0, none⟩)] w fun e w' => ∃ v, e = .returned v ∧ Held 61010 w' w.heap.size v ∧ Cur w' c ∧ Only [c] w w' := by
  have hbl := hide (below_calls c)
  have hpk := hide (pickInt_calls c)
  have h46 := hide (dr3 c)
  have HX0 := hide (ZBox.new w)
  have hcl := hc.lt
  have HC0 := hide (hc.below (ab (.cells #[.int .i64 0, .int .i64 0, .string ByteArray.empty, .slice none 0 0] 29)))
  clear hc
  go_enter Tryz.func70, Tryz.ntmps70
  go_wp2_with fail
  refine (unhide h46 _ (unhide HC0)).mono ?_
  rintro e w1 ⟨v, rfl, ⟨t, op, n, s, a, len, rfl, hl1, hz1⟩, hc1, ho1⟩
  rw [heap_size_alloc] at hl1
  have hX1 := (unhide HX0).only ho1 (by omega)
  have HGW : Hid (w.heap.size < w1.heap.size) := lt_of_heap hX1
  have HR2 := hide (RowT.new 29 w1 op n s a len len)
  have HO2 := hide ((only_alloc _ ho1).trans (Only.of_below (ab (.cells #[.int .i64 op, .int .i64 n, .string s, .slice a len len] 29))))
  have HQ2 : Hid (Only [c] w1 (w1.alloc (.cells #[.int .i64 op, .int .i64 n, .string s, .slice a len len] 29))) := Only.of_below (ab _)
  have HX2 := hide (hX1.below (ab (.cells #[.int .i64 op, .int .i64 n, .string s, .slice a len len] 29)))
  have HC2 := hide (hc1.below (ab (.cells #[.int .i64 op, .int .i64 n, .string s, .slice a len len] 29)))
  have HL := hide hl1
  have HWF := hide hl1.wf
  have HZ := hide hz1
  clear ho1 hc1 hl1 hz1 hX1 HX0 HC0
  go_wp2_with fail
  generalize hV : w1.alloc (.cells #[.int .i64 op, .int .i64 n, .string s, .slice a len len] 29) = V at *
  clear hV
  generalize hg3 : w1.heap.size = g3 at *
  have HG3 := hide (Nat.le_of_eq hg3)
  clear hg3
  have hgw := unhide HGW
  have hne1 : (w.heap.size = g3) = False := by simp; omega
  have hne2 : (g3 = w.heap.size) = False := by simp; omega
  refine (unhide hbl 14 _ (unhide HC2) (by omega)).mono ?_
  rintro e w2 ⟨x, rfl, ⟨_, hx⟩, hc2, ho2⟩
  obtain ⟨hx0, hx1⟩ := hx (by omega)
  clear hx
  have HR3 := hide ((unhide HR2).only ho2 (by simp; omega))
  have HO3 := hide ((unhide HO2).trans ho2)
  have HQ3 := hide ((unhide HQ2).trans ho2)
  have HX3 := hide ((unhide HX2).only ho2 (by omega))
  have HC3 := hide hc2
  clear ho2 hc2 HR2 HO2 HX2 HC2 HQ2
  by_cases e0 : x = 0
  · subst e0
    obtain ⟨c0, c1, c2, c3⟩ := (unhide HR3).facts
    go_wp2_with fail
    refine (unhide hbl 11 _ (unhide HC3) (by omega)).mono ?_
    rintro e w4 ⟨y, rfl, ⟨_, hy⟩, hc4, ho4⟩
    obtain ⟨hy0, hy1⟩ := hy (by omega)
    have HR4 := (unhide HR3).only ho4 (by simp; omega)
    have HO4 := hide ((unhide HO3).trans ho4)
    have HQ4 := hide ((unhide HQ3).trans ho4)
    have HC4 := hide hc4
    obtain ⟨p0, p1, p2, p3, q0, q1, q2, q3⟩ := ((unhide HX3).only ho4 (by omega)).facts
    clear c0 c1 c2 c3
    obtain ⟨c0, c1, c2, c3⟩ := HR4.facts
    obtain ⟨r0, r1, r2, r3⟩ := HR4.thaw
    clear HR4 ho4 hc4 hy
    obtain ⟨t', ht', hts⟩ := lies_new ((unhide HL).only (only_set (o := 0) (x := .int .i64 (y - 1)) (unhide HQ4) (unhide HG3)) (by omega)) (y - 1) n s (unhide HWF).2.2 (WalkArith.wf_i64 (by omega)) (unhide HWF).2.1
    have HT := hide ht'
    have HTS : Hid (t'.size + t'.wt ≤ 61010 ∧ t'.size ≤ 40) := by show _ ∧ _; have := unhide HZ; have h120 : (ByteArray.mk #[120]).size = 1 := rfl; omega
    clear ht' hts
    go_wp2_with fail
    exact bodyPost_ret (v := .agg #[.int .i64 (y - 1), .int .i64 n, .string s, .slice a len len]) (by simp [results, Tryz.results70, go_sem, p0, p1, p2, p3]) rfl ⟨_, rfl, held_fin (unhide HT) (unhide HTS) ((unhide HC4).set (by omega)) (only_set (unhide HO4) (by omega)) hcl⟩
  by_cases e1 : x = 1
  · subst e1
    obtain ⟨c0, c1, c2, c3⟩ := (unhide HR3).facts
    go_wp2_with fail
    refine (unhide hpk w2.heap.size 5 5 _ ((unhide HC3).below (ab (.cells #[.int .i64 (-1), .int .i64 1, .int .i64 1000000, .int .i64 1000001, .int .i64 (-9223372036854775808)] 3))) (by have := (unhide HC3).lt; omega) (by omega) (by omega) (by omega) (by omega) (ints_at5 w2)).mono ?_
    rintro e w4 ⟨y, rfl, hy, hc4, ho4⟩
    have HR4 := ((unhide HR3).below (ab (.cells #[.int .i64 (-1), .int .i64 1, .int .i64 1000000, .int .i64 1000001, .int .i64 (-9223372036854775808)] 3))).only ho4 (by simp; omega)
    have HO4 := hide ((unhide HO3).trans (only_alloc _ ho4))
    have HQ4 := hide ((unhide HQ3).trans (only_alloc _ ho4))
    have HC4 := hide hc4
    have HY := hide hy
    obtain ⟨p0, p1, p2, p3, q0, q1, q2, q3⟩ := (((unhide HX3).below (ab (.cells #[.int .i64 (-1), .int .i64 1, .int .i64 1000000, .int .i64 1000001, .int .i64 (-9223372036854775808)] 3))).only ho4 (by omega)).facts
    clear c0 c1 c2 c3
    obtain ⟨c0, c1, c2, c3⟩ := HR4.facts
    obtain ⟨r0, r1, r2, r3⟩ := HR4.thaw
    clear HR4 ho4 hc4 hy
    obtain ⟨t', ht', hts⟩ := lies_new ((unhide HL).only (only_set (o := 1) (x := .int .i64 y) (unhide HQ4) (unhide HG3)) (by omega)) op y s (unhide HWF).2.2 (unhide HWF).1 (unhide HY)
    have HT := hide ht'
    have HTS : Hid (t'.size + t'.wt ≤ 61010 ∧ t'.size ≤ 40) := by show _ ∧ _; have := unhide HZ; have h120 : (ByteArray.mk #[120]).size = 1 := rfl; omega
    clear ht' hts
    go_wp2_with fail
    exact bodyPost_ret (v := .agg #[.int .i64 op, .int .i64 y, .string s, .slice a len len]) (by simp [results, Tryz.results70, go_sem, p0, p1, p2, p3]) rfl ⟨_, rfl, held_fin (unhide HT) (unhide HTS) ((unhide HC4).set (by omega)) (only_set (unhide HO4) (by omega)) hcl⟩
  have q0 : (x == 0) = false := by simpa using e0
  have q1 : (x == 1) = false := by simpa using e1
  by_cases e2 : x = 2
  · subst e2
    obtain ⟨c0, c1, c2, c3⟩ := (unhide HR3).facts
    obtain ⟨r0, r1, r2, r3⟩ := (unhide HR3).thaw
    obtain ⟨p0, p1, p2, p3, u0, u1, u2, u3⟩ := (unhide HX3).facts
    obtain ⟨t', ht', hts⟩ := lies_new ((unhide HL).only (only_set (o := 2) (x := .string ⟨#[120]⟩) (unhide HQ3) (unhide HG3)) (by omega)) op n ⟨#[120]⟩ (by decide) (unhide HWF).1 (unhide HWF).2.1
    have HT := hide ht'
    have HTS : Hid (t'.size + t'.wt ≤ 61010 ∧ t'.size ≤ 40) := by show _ ∧ _; have := unhide HZ; have h120 : (ByteArray.mk #[120]).size = 1 := rfl; omega
    clear ht' hts
    go_wp2_with fail
    exact bodyPost_ret (v := .agg #[.int .i64 op, .int .i64 n, .string ⟨#[120]⟩, .slice a len len]) (by simp [results, Tryz.results70, go_sem, p0, p1, p2, p3]) rfl ⟨_, rfl, held_fin (unhide HT) (unhide HTS) ((unhide HC3).set (by omega)) (only_set (unhide HO3) (by omega)) hcl⟩
  have q2 : (x == 2) = false := by simpa using e2
  by_cases e3 : x = 3
  · subst e3
    obtain ⟨c0, c1, c2, c3⟩ := (unhide HR3).facts
    obtain ⟨p0, p1, p2, p3, q0, q1, q2, q3⟩ := (unhide HX3).facts
    obtain ⟨o1, n1, s1, ks⟩ := t
    have hXk := unhide HL
    simp only [Lies, tmCells, List.cons.injEq, Value.int.injEq, Value.string.injEq, Value.slice.injEq, true_and, and_true] at hXk
    obtain ⟨a9, c9, ⟨rfl, rfl, rfl, rfl, hlk, rfl⟩, _, hwf9, hka⟩ := hXk
    subst hlk
    have hkl : ks.length ≤ 100000 := by have := unhide HZ; have := Tm.length_le_sizes ks; simp only [Tm.size] at *; omega
    have HQX : Hid (Only [c] w1 (w2.alloc (.cells #[.int .i64 1, .int .i64 0, .string ⟨#[]⟩, .slice none 0 0] 29))) := (unhide HQ3).trans (Only.of_below (ab _))
    have HGG : Hid (g3 < (w2.alloc (.cells #[.int .i64 1, .int .i64 0, .string ⟨#[]⟩, .slice none 0 0] 29)).heap.size) := by show _ < _; have := (unhide HR3).lt; rw [heap_size_alloc]; omega
    have HAP := hide (append_one (w1 := w1) (X := w2.alloc (.cells #[.int .i64 1, .int .i64 0, .string ⟨#[]⟩, .slice none 0 0] 29)) (c := c) (L := w.heap.size + 1) (by omega) (by have := lt_of_heap (unhide HX3); rw [heap_size_alloc]; omega) hka (unhide HQX) hkl (fun W => leaf_lies W _ 1 0 ⟨#[]⟩ (by decide) (by decide) (by decide)) (fun j v hj => by rw [Nat.zero_add]; exact box_cell w2 _ 29 j v (by simpa [tmCells] using hj)) (by simp [tmCells, Value.oneCell']) 27)
    have HKZ : Hid (Tm.sizes ks + (s.size + (ks.length + Tm.wts ks)) ≤ 60999 ∧ Tm.sizes ks ≤ 28) := by show _ ∧ _; have := unhide HZ; simp only [Tm.size, Tm.wt] at this; omega
    clear hka hkl hwf9
    go_wp2_with (at_builtin; refine wpList_append_run rfl _ _ 27 rfl _ _ rfl rfl (fun v' w' => ∃ g cap, v' = .slice (some ⟨g, 0, none⟩) (ks.length + 1) cap ∧ (ks.length + 1 ≤ cap ∧ cap ≤ maxLen) ∧ (w2.alloc (.cells #[.int .i64 1, .int .i64 0, .string ⟨#[]⟩, .slice none 0 0] 29)).heap.size ≤ g ∧ Below (w2.alloc (.cells #[.int .i64 1, .int .i64 0, .string ⟨#[]⟩, .slice none 0 0] 29)).heap.size (w2.alloc (.cells #[.int .i64 1, .int .i64 0, .string ⟨#[]⟩, .slice none 0 0] 29)) w' ∧ ∀ W, Only [c] w1 W → (∀ o, W.cell? ⟨g, o, none⟩ = w'.cell? ⟨g, o, none⟩) → LiesAll W (w.heap.size + 1) (some ⟨g, 0, none⟩) 0 (ks ++ [Tm.node 1 0 ⟨#[]⟩ []])) (unhide HAP) ?_; intro v' w5 hst; obtain ⟨g, cap, rfl, hcap, hgx, hb5, hka5⟩ := hst; have hb35 := bt (ab (w := w2) (.cells #[.int .i64 1, .int .i64 0, .string ⟨#[]⟩, .slice none 0 0] 29)) hb5 (Nat.le_refl _); have HR5 := (unhide HR3).below hb35; have HO5 := hide ((unhide HO3).trans (Only.of_below hb35)); have HQ5 := hide ((unhide HQX).trans (Only.of_below hb5)); have HC5 := hide ((unhide HC3).below hb35); have HK5 := hide hka5; have HCAP := hide hcap; have HGX := hide (Nat.lt_of_lt_of_le (unhide HGG) hgx); clear c0 c1 c2 c3 p0 p1 p2 p3 q0 q1 q2 q3; obtain ⟨p0, p1, p2, p3, q0, q1, q2, q3⟩ := ((unhide HX3).below hb35).facts; obtain ⟨c0, c1, c2, c3⟩ := HR5.facts; obtain ⟨r0, r1, r2, r3⟩ := HR5.thaw; clear HR5 hka5 hcap hb5 hgx hb35)
    have hfin := unhide HK5 (w5.setCell ⟨g3, 3, none⟩ (.slice (some ⟨g, 0, none⟩) (ks.length + 1) cap)) (only_set (unhide HQ5) (unhide HG3)) (fun o => World.cell?_of_block (Below.heap_setCell _ _ _ _ (by show g ≠ g3; have := unhide HGX; omega)))
    have hfl : Lies (w5.setCell ⟨g3, 3, none⟩ (.slice (some ⟨g, 0, none⟩) (ks.length + 1) cap)) (w.heap.size + 1) (.node op n s (ks ++ [.node 1 0 ⟨#[]⟩ []])) (tmCells op n s (some ⟨g, 0, none⟩) (ks.length + 1) cap) := by
      simp only [Lies]
      exact ⟨_, _, by simp, ⟨(unhide HWF).2.2, by simpa using (unhide HCAP).1, (unhide HCAP).2⟩, ⟨(unhide HWF).1, (unhide HWF).2.1⟩, hfin⟩
    exact bodyPost_ret (v := .agg #[.int .i64 op, .int .i64 n, .string s, .slice (some ⟨g, 0, none⟩) (ks.length + 1) cap]) (by simp [results, Tryz.results70, go_sem, p0, p1, p2, p3]) rfl ⟨_, rfl, held_fin hfl (by have := unhide HKZ; have h0 : (ByteArray.mk #[]).size = 0 := rfl; simp only [Tm.size, Tm.sizes_append, Tm.sizes, Tm.wt, Tm.wts_append, Tm.wts, List.length_append, List.length_cons, List.length_nil]; omega) ((unhide HC5).set (by omega)) (only_set (unhide HO5) (by omega)) hcl⟩
  have q3 : (x == 3) = false := by simpa using e3
  obtain ⟨c0, c1, c2, c3⟩ := (unhide HR3).facts
  obtain ⟨p0, p1, p2, p3, u0, u1, u2, u3⟩ := (unhide HX3).facts
  have HT := hide ((unhide HL).only (unhide HQ3) (by omega))
  have HTS : Hid (t.size + t.wt ≤ 61010 ∧ t.size ≤ 40) := by show _ ∧ _; have := unhide HZ; omega
  go_wp2_with fail
  exact bodyPost_ret (v := .agg #[.int .i64 op, .int .i64 n, .string s, .slice a len len]) (by simp [results, Tryz.results70, go_sem, p0, p1, p2, p3]) rfl ⟨_, rfl, held_fin (unhide HT) (unhide HTS) (unhide HC3) (unhide HO3) hcl⟩

set_option maxRecDepth 100000 in
set_option maxHeartbeats 1000000 in
theorem pick_of (P : ByteArray → Prop) (c b n cap : Nat) (w : World) (hc : Cur w c) (hb : b ≠ c) (hn : 0 < n) (_hn1 : n ≤ 1000) (_hcap : n ≤ cap) (_hcap1 : cap ≤ 1000) (hi : ∀ k, k < n → ∃ s, w.cell? ⟨b, k, none⟩ = some (.string s) ∧ P s) :
    Calls Tryz.prog 130 #[.pointer (some ⟨c, 0, none⟩), .slice (some ⟨b, 0, none⟩) n cap] w fun e w' => ∃ s, e = .returned (.string s) ∧ P s ∧ Cur w' c ∧ Only [c] w w' := by
  have hB := hide (below_calls c n)
  have HC := hide hc
  have hn' : (n : Int) ≤ 1000 := by omega
  clear hc
  go_enter Tryz.func130, Tryz.ntmps130
  go_wp2_with fail
  refine (unhide hB _ (unhide HC) (by omega)).mono ?_
  rintro e w1 ⟨x, rfl, ⟨_, hx⟩, hc1, ho1⟩
  obtain ⟨hx0, hx1⟩ := hx (by omega)
  obtain ⟨z, hz, hwf⟩ := hi x.toNat (by omega)
  have hz1 : w1.cell? ⟨b, x.toNat, none⟩ = some (.string z) := (World.cell?_of_block (ho1.block b (lt_of_cell hz) (by simpa using hb))).trans hz
  have HC1 := hide hc1
  have HO1 := hide ho1
  have HWF := hide hwf
  clear hc1 ho1 hi hz hwf
  go_wp2_with fail
  go_ret
  exact ⟨_, rfl, unhide HWF, unhide HC1, unhide HO1⟩

set_option maxRecDepth 100000 in
set_option maxHeartbeats 1000000 in
theorem pickInt_of (P : Int → Prop) (c b n cap : Nat) (w : World) (hc : Cur w c) (hb : b ≠ c) (hn : 0 < n) (_hn1 : n ≤ 1000) (_hcap : n ≤ cap) (_hcap1 : cap ≤ 1000) (hi : ∀ k, k < n → ∃ z, w.cell? ⟨b, k, none⟩ = some (.int .i64 z) ∧ P z) :
    Calls Tryz.prog 87 #[.pointer (some ⟨c, 0, none⟩), .slice (some ⟨b, 0, none⟩) n cap] w fun e w' => ∃ z, e = .returned (.int .i64 z) ∧ P z ∧ Cur w' c ∧ Only [c] w w' := by
  have hB := hide (below_calls c n)
  have HC := hide hc
  have hn' : (n : Int) ≤ 1000 := by omega
  clear hc
  go_enter Tryz.func87, Tryz.ntmps87
  go_wp2_with fail
  refine (unhide hB _ (unhide HC) (by omega)).mono ?_
  rintro e w1 ⟨x, rfl, ⟨_, hx⟩, hc1, ho1⟩
  obtain ⟨hx0, hx1⟩ := hx (by omega)
  obtain ⟨z, hz, hwf⟩ := hi x.toNat (by omega)
  have hz1 : w1.cell? ⟨b, x.toNat, none⟩ = some (.int .i64 z) := (World.cell?_of_block (ho1.block b (lt_of_cell hz) (by simpa using hb))).trans hz
  have HC1 := hide hc1
  have HO1 := hide ho1
  have HWF := hide hwf
  clear hc1 ho1 hi hz hwf
  go_wp2_with fail
  go_ret
  exact ⟨_, rfl, unhide HWF, unhide HC1, unhide HO1⟩

/-- One of the six hosts that are drawn. -/
def HostD (h : ByteArray) : Prop := h = ⟨#[109, 120, 46, 97]⟩ ∨ h = ⟨#[109, 50, 46, 97]⟩ ∨ h = ⟨#[109, 120, 46, 98]⟩ ∨ h = ⟨#[120, 46, 109, 120, 46, 97]⟩ ∨ h = ⟨#[101, 118, 105, 108, 46, 101]⟩ ∨ h = ⟨#[97, 46, 98]⟩

theorem hosts_at (w : World) : ∀ k, k < 6 → ∃ s, (w.alloc (.cells #[.string ⟨#[109, 120, 46, 97]⟩, .string ⟨#[109, 50, 46, 97]⟩, .string ⟨#[109, 120, 46, 98]⟩, .string ⟨#[120, 46, 109, 120, 46, 97]⟩, .string ⟨#[101, 118, 105, 108, 46, 101]⟩, .string ⟨#[97, 46, 98]⟩] 9)).cell? ⟨w.heap.size, k, none⟩ = some (.string s) ∧ HostD s
  | 0, _ => ⟨_, box_cell w _ 9 0 _ rfl, Or.inl rfl⟩
  | 1, _ => ⟨_, box_cell w _ 9 1 _ rfl, Or.inr (Or.inl rfl)⟩
  | 2, _ => ⟨_, box_cell w _ 9 2 _ rfl, Or.inr (Or.inr (Or.inl rfl))⟩
  | 3, _ => ⟨_, box_cell w _ 9 3 _ rfl, Or.inr (Or.inr (Or.inr (Or.inl rfl)))⟩
  | 4, _ => ⟨_, box_cell w _ 9 4 _ rfl, Or.inr (Or.inr (Or.inr (Or.inr (Or.inl rfl))))⟩
  | 5, _ => ⟨_, box_cell w _ 9 5 _ rfl, Or.inr (Or.inr (Or.inr (Or.inr (Or.inr rfl))))⟩
  | k + 6, h => absurd h (by omega)

set_option maxRecDepth 100000 in
set_option maxHeartbeats 1000000 in
/-- A drawn host. -/
theorem host_draw (c : Nat) (w : World) (hc : Cur w c) :
    Calls Tryz.prog 85 #[.pointer (some ⟨c, 0, none⟩)] w fun e w' => ∃ h, e = .returned (.string h) ∧ HostD h ∧ Cur w' c ∧ Only [c] w w' := by
  have hpk := hide (pick_of HostD c)
  have hcl := hc.lt
  have HC := hide hc
  clear hc
  go_enter Tryz.func85, Tryz.ntmps85
  go_wp2_with fail
  refine (unhide hpk w.heap.size 6 6 _ ((unhide HC).below (ab (.cells #[.string ⟨#[109, 120, 46, 97]⟩, .string ⟨#[109, 50, 46, 97]⟩, .string ⟨#[109, 120, 46, 98]⟩, .string ⟨#[120, 46, 109, 120, 46, 97]⟩, .string ⟨#[101, 118, 105, 108, 46, 101]⟩, .string ⟨#[97, 46, 98]⟩] 9))) (by omega) (by omega) (by omega) (by omega) (by omega) (hosts_at w)).mono ?_
  rintro e w3 ⟨s, rfl, hs, hc3, ho3⟩
  have HO3 := hide (only_alloc _ ho3)
  have HC3 := hide hc3
  have HS := hide hs
  clear ho3 hc3 hs
  go_wp2_with fail
  go_ret
  exact ⟨_, rfl, unhide HS, unhide HC3, unhide HO3⟩

theorem hostP_of (s : ByteArray) (h1 : s.size ≤ 60) (h2 : 2 ≤ (labsOf s).length) (h3 : (labsOf s).all (fun l => decide (1 ≤ l.size ∧ l.size ≤ 10) && (List.range l.size).all (fun k => decide ((97 ≤ byteAt l k ∧ byteAt l k ≤ 122) ∨ (48 ≤ byteAt l k ∧ byteAt l k ≤ 57)))) = true) : hostP s := by
  refine ⟨h1, h2, fun l hl => ?_⟩
  have h := List.all_eq_true.1 h3 l hl
  simp only [Bool.and_eq_true, decide_eq_true_eq, List.all_eq_true, List.mem_range] at h
  exact ⟨h.1.1, h.1.2, fun k hk => (h.2 k hk).elim Or.inl (fun h => Or.inr (Or.inl h))⟩
theorem host0 : hostP ⟨#[109, 120, 46, 97]⟩ := hostP_of _ (by decide) (by decide +kernel) (by decide +kernel)
theorem host1 : hostP ⟨#[109, 50, 46, 97]⟩ := hostP_of _ (by decide) (by decide +kernel) (by decide +kernel)
theorem host2 : hostP ⟨#[109, 120, 46, 98]⟩ := hostP_of _ (by decide) (by decide +kernel) (by decide +kernel)
theorem host3 : hostP ⟨#[120, 46, 109, 120, 46, 97]⟩ := hostP_of _ (by decide) (by decide +kernel) (by decide +kernel)
theorem host4 : hostP ⟨#[101, 118, 105, 108, 46, 101]⟩ := hostP_of _ (by decide) (by decide +kernel) (by decide +kernel)
theorem host5 : hostP ⟨#[97, 46, 98]⟩ := hostP_of _ (by decide) (by decide +kernel) (by decide +kernel)

/-- The open half of a small atom. -/
def pubA (x : Int) : Tm := .node 4 0 ByteArray.empty [.node 1 (10 + x) ByteArray.empty []]
/-- One of the four ends that are drawn. -/
def EndD (v : Int) : Prop := v = 0 ∨ v = 5 ∨ v = 50 ∨ v = 100000
theorem ends_at (w : World) : ∀ k, k < 4 → ∃ z, (w.alloc (.cells #[.int .i64 0, .int .i64 5, .int .i64 50, .int .i64 100000] 3)).cell? ⟨w.heap.size, k, none⟩ = some (.int .i64 z) ∧ EndD z
  | 0, _ => ⟨_, box_cell w _ 3 0 _ rfl, Or.inl rfl⟩
  | 1, _ => ⟨_, box_cell w _ 3 1 _ rfl, Or.inr (Or.inl rfl)⟩
  | 2, _ => ⟨_, box_cell w _ 3 2 _ rfl, Or.inr (Or.inr (Or.inl rfl))⟩
  | 3, _ => ⟨_, box_cell w _ 3 3 _ rfl, Or.inr (Or.inr (Or.inr rfl))⟩
  | k + 4, h => absurd h (by omega)
theorem atom10 (x : Int) (h0 : 0 ≤ x) (h1 : x < 3) (w : World) : Calls Tryz.prog 67 #[.int .i64 (10 + x)] w fun e w' => e = .returned (.agg #[.int .i64 1, .int .i64 (10 + x), .string ByteArray.empty, .slice none 0 0]) ∧ Below w.heap.size w w' := by
  have hok : okT (.node 1 (10 + x) ByteArray.empty []) = true := by
    rcases (by omega : x = 0 ∨ x = 1 ∨ x = 2) with rfl | rfl | rfl <;> decide
  refine (atom6 (10 + x) w (WalkArith.wf_i64 (by omega))).mono ?_
  rintro e w' ⟨he, hb⟩
  rw [show atOp (10 + x) = 1 from if_pos hok, show atN (10 + x) = 10 + x from if_pos hok] at he
  exact ⟨he, hb⟩
theorem pub10 (x : Int) (h0 : 0 ≤ x) (h1 : x < 3) : madeT 4 [.node 1 (10 + x) ByteArray.empty []] = pubA x := by
  rcases (by omega : x = 0 ∨ x = 1 ∨ x = 2) with rfl | rfl | rfl <;> rfl

theorem fillR {ty : TypeId} {w : World} {g : Nat} {h0 : ByteArray} {op0 n0 : Int} {s0 : ByteArray} {a0 : Option Addr} {len0 cap0 : Nat} {u0 : Int} (hr : RowC ty w g h0 op0 n0 s0 a0 len0 cap0 u0) (h : ByteArray) (op n : Int) (s : ByteArray) (a : Option Addr) (len cap : Nat) (u : Int) :
    RowC ty ((((((w.setCell ⟨g, 0, none⟩ (.string h)).setCell ⟨g, 1, none⟩ (.int .i64 op)).setCell ⟨g, 2, none⟩ (.int .i64 n)).setCell ⟨g, 3, none⟩ (.string s)).setCell ⟨g, 4, none⟩ (.slice a len cap)).setCell ⟨g, 5, none⟩ (.int .i64 u)) g h op n s a len cap u := by
  unfold RowC at hr ⊢
  have r : ∀ {w : World} {b o : Nat} {C : Array Value} {t : TypeId} {fr : Nat × Nat} (v : Value), w.heap[b]? = some (.cells C t fr) → (w.setCell ⟨b, o, none⟩ v).heap[b]? = some (.cells (C.setIfInBounds o v) t fr) := fun v h => by
    simp only [World.setCell, Array.getElem?_modify]
    simp [h]
  exact r (o := 5) (.int .i64 u) (r (o := 4) (.slice a len cap) (r (o := 3) (.string s) (r (o := 2) (.int .i64 n) (r (o := 1) (.int .i64 op) (r (o := 0) (.string h) hr)))))

set_option maxRecDepth 100000 in
set_option maxHeartbeats 2000000 in
/-- A drawn certificate that is right. -/
theorem right_draw (c : Nat) (w : World) (hc : Cur w c) :
    Calls Tryz.prog 120 #[.pointer (some ⟨c, 0, none⟩)] w fun e w' => ∃ h x v op n s a len, e = .returned (.agg #[.string h, .int .i64 op, .int .i64 n, .string s, .slice a len len, .int .i64 v]) ∧ HostD h ∧ (0 ≤ x ∧ x < 3) ∧ EndD v ∧ Lies w' w.heap.size (pubA x) (tmCells op n s a len len) ∧ Cur w' c ∧ Only [c] w w' := by
  have h32 := hide (host_draw c)
  have h46 := hide (below_calls c 3)
  have h34 := hide (pickInt_of EndD c)
  have hcl := hc.lt
  have HC0 := hide (hc.below (ab (.cells #[.string ⟨#[]⟩, .int .i64 0, .int .i64 0, .string ⟨#[]⟩, .slice none 0 0, .int .i64 0] 57)))
  have HR0 := hide (RowC.new 57 w ⟨#[]⟩ 0 0 ⟨#[]⟩ none 0 0 0)
  have HO0 : Hid (Only [c] w (w.alloc (.cells #[.string ⟨#[]⟩, .int .i64 0, .int .i64 0, .string ⟨#[]⟩, .slice none 0 0, .int .i64 0] 57))) := Only.of_below (ab _)
  clear hc
  go_enter Tryz.func120, Tryz.ntmps120
  go_wp2_with fail
  refine (unhide h32 _ (unhide HC0)).mono ?_
  rintro e w1 ⟨h, rfl, hh, hc1, ho1⟩
  have HH := hide hh
  have HO1 := hide ((unhide HO0).trans ho1)
  have HR1 : Hid (RowC 57 w1 w.heap.size ⟨#[]⟩ 0 0 ⟨#[]⟩ none 0 0 0) := (ho1.block _ (unhide HR0).lt (by simp; omega)).trans (unhide HR0)
  have HC1 := hide hc1
  clear hh hc1 ho1 HC0 HR0 HO0
  go_wp2_with fail
  refine (unhide h46 _ (unhide HC1) (by omega)).mono ?_
  rintro e w2 ⟨x, rfl, ⟨_, hx⟩, hc2, ho2⟩
  obtain ⟨hx0, hx1⟩ := hx (by omega)
  have HO2 := hide ((unhide HO1).trans ho2)
  have HR2 : Hid (RowC 57 w2 w.heap.size ⟨#[]⟩ 0 0 ⟨#[]⟩ none 0 0 0) := (ho2.block _ (unhide HR1).lt (by simp; omega)).trans (unhide HR1)
  have HC2 := hide hc2
  clear hx hc2 ho2 HC1 HR1 HO1
  have h29 := hide (atom10 x hx0 hx1)
  have h28 := hide (pubS (.node 1 (10 + x) ByteArray.empty []) 1 (10 + x) ByteArray.empty none 0 0)
  rw [pub10 x hx0 hx1] at h28
  go_wp2_with fail
  refine (unhide h29 _).mono ?_
  rintro e w3 ⟨rfl, hb3⟩
  have HO3 := hide ((unhide HO2).trans (Only.of_below hb3))
  have HR3 := hide ((unhide HR2).below hb3)
  have HC3 := hide ((unhide HC2).below hb3)
  clear hb3 HC2 HR2 HO2
  go_wp2_with fail
  refine (unhide h28 _ (leaf_lies _ _ 1 (10 + x) ByteArray.empty (by simp [maxLen]) (by decide) (WalkArith.wf_i64 (by omega))) (by simp [Tm.size, Tm.sizes])).mono ?_
  rintro e w4 ⟨op, n, s, a, len, cap, rfl, hL4, hb4, rfl⟩
  have HO4 := hide ((unhide HO3).trans (Only.of_below hb4))
  have HR4 := hide ((unhide HR3).below hb4)
  have HC4 := hide ((unhide HC3).below hb4)
  have HS3 := hide (unhide HR3).lt
  have HS4 := hide hb4.size
  have HL4 := hide hL4
  have hcl4 := (unhide HC4).lt
  clear hb4 hL4 HC3 HR3 HO3
  go_wp2_with fail
  refine (unhide h34 w4.heap.size 4 4 _ ((unhide HC4).below (ab (.cells #[.int .i64 0, .int .i64 5, .int .i64 50, .int .i64 100000] 3))) (by omega) (by omega) (by omega) (by omega) (by omega) (ends_at w4)).mono ?_
  rintro e w5 ⟨v, rfl, hv, hc5, ho5⟩
  have HV := hide hv
  have HO5 := hide ((unhide HO4).trans (only_alloc _ ho5))
  have HR5 : Hid (RowC 57 w5 w.heap.size ⟨#[]⟩ 0 0 ⟨#[]⟩ none 0 0 0) := (ho5.block _ ((unhide HR4).below (ab _)).lt (by simp; omega)).trans ((unhide HR4).below (ab _))
  have HC5 := hide hc5
  have hcl3 : c < w3.heap.size := by have := unhide HS3; omega
  have HL5 := hide (((unhide HL4).below (ab (.cells #[.int .i64 0, .int .i64 5, .int .i64 50, .int .i64 100000] 3))).only ho5 hcl3)
  clear hv hc5 ho5 HC4 HR4 HO4
  obtain ⟨p0, p1, p2, p3, p4, p5⟩ := (unhide HR5).facts
  obtain ⟨q0, q1, q2, q3, q4, q5⟩ := (unhide HR5).frozen
  go_wp2_with fail
  have HF := hide (fillR (unhide HR5) h op n s a len len v)
  obtain ⟨f0, f1, f2, f3, f4, f5⟩ := (unhide HF).facts
  refine bodyPost_ret (v := .agg #[.string h, .int .i64 op, .int .i64 n, .string s, .slice a len len, .int .i64 v]) (by simp [results, Tryz.results120, go_sem, f0, f1, f2, f3, f4, f5]; try rfl) rfl ⟨h, x, v, op, n, s, a, len, rfl, unhide HH, ⟨hx0, hx1⟩, unhide HV, ?_, ?_, ?_⟩
  · have hg := unhide HS3
    exact Lies.set (L := w3.heap.size) (Lies.set (Lies.set (Lies.set (Lies.set (Lies.set (unhide HL5) hg (Nat.le_refl _)) hg (Nat.le_refl _)) hg (Nat.le_refl _)) hg (Nat.le_refl _)) hg (Nat.le_refl _)) hg (by omega)
  · exact (((((((unhide HC5).set hcl).set hcl).set hcl).set hcl).set hcl).set hcl)
  · exact only_set (only_set (only_set (only_set (only_set (only_set (unhide HO5) (Nat.le_refl _)) (Nat.le_refl _)) (Nat.le_refl _)) (Nat.le_refl _)) (Nat.le_refl _)) (Nat.le_refl _)

/-- What is said of a drawn certificate. -/
def CertD (h : ByteArray) (p : Tm) (v : Int) : Prop := h ≠ ⟨#[122, 122, 46, 122, 122]⟩ ∧ h.size ≤ 60 ∧ (p.size + p.wt ≤ 61010 ∧ p.size ≤ 40) ∧ -1 ≤ v ∧ v ≤ 100001
theorem HostD.other {h : ByteArray} (hd : HostD h) : h ≠ ⟨#[122, 122, 46, 122, 122]⟩ ∧ h.size ≤ 60 := by
  rcases hd with rfl | rfl | rfl | rfl | rfl | rfl <;> exact ⟨by decide, by decide⟩
theorem EndD.le {v : Int} (h : EndD v) : 0 ≤ v ∧ v ≤ 100000 := by
  rcases h with rfl | rfl | rfl | rfl <;> omega
theorem pubA_size (x : Int) : (pubA x).size + (pubA x).wt ≤ 61010 ∧ (pubA x).size ≤ 40 := by
  simp [pubA, Tm.size, Tm.sizes, Tm.wt, Tm.wts]
theorem words3_at (w : World) : ∀ k, k < 3 → ∃ s, (w.alloc (.cells #[.string ⟨#[]⟩, .string ⟨#[97]⟩, .string ⟨#[65, 46, 98]⟩] 9)).cell? ⟨w.heap.size, k, none⟩ = some (.string s) ∧ (s ≠ ⟨#[122, 122, 46, 122, 122]⟩ ∧ s.size ≤ 60)
  | 0, _ => ⟨_, box_cell w _ 9 0 _ rfl, by decide, by decide⟩
  | 1, _ => ⟨_, box_cell w _ 9 1 _ rfl, by decide, by decide⟩
  | 2, _ => ⟨_, box_cell w _ 9 2 _ rfl, by decide, by decide⟩
  | k + 3, h => absurd h (by omega)
theorem ends2_at (w : World) : ∀ k, k < 2 → ∃ z, (w.alloc (.cells #[.int .i64 (-1), .int .i64 100001] 3)).cell? ⟨w.heap.size, k, none⟩ = some (.int .i64 z) ∧ (-1 ≤ z ∧ z ≤ 100001)
  | 0, _ => ⟨_, box_cell w _ 3 0 _ rfl, by omega, by omega⟩
  | 1, _ => ⟨_, box_cell w _ 3 1 _ rfl, by omega, by omega⟩
  | k + 2, h => absurd h (by omega)
theorem RowC.one {ty : TypeId} {w w' : World} {b c : Nat} {h : ByteArray} {op n : Int} {s : ByteArray} {a : Option Addr} {len cap : Nat} {u : Int} (hr : RowC ty w b h op n s a len cap u) (ho : Only [c] w w') (hb : b ≠ c) : RowC ty w' b h op n s a len cap u := (ho.block b hr.lt (by simpa using hb)).trans hr

theorem RowC.past {ty : TypeId} {w : World} {b : Nat} {h : ByteArray} {op n : Int} {s : ByteArray} {a : Option Addr} {len cap : Nat} {u : Int} (hr : RowC ty w b h op n s a len cap u) {g o : Nat} (hne : b ≠ g) (x : Value) : RowC ty (w.setCell ⟨g, o, none⟩ x) b h op n s a len cap u := (Below.heap_setCell _ _ _ _ (by show b ≠ g; exact hne)).trans hr
theorem cert_fin {w X : World} {c : Nat} {h : ByteArray} {p : Tm} {v op n : Int} {s : ByteArray} {a : Option Addr} {len cap : Nat} (hd : CertD h p v) (hl : Lies X (w.heap.size + 1) p (tmCells op n s a len cap)) (hc : Cur X c) (ho : Only [c] w X) (hcl : c < w.heap.size) :
    CertD h p v ∧ Lies ((((((X.setCell ⟨w.heap.size, 0, none⟩ (.string h)).setCell ⟨w.heap.size, 1, none⟩ (.int .i64 op)).setCell ⟨w.heap.size, 2, none⟩ (.int .i64 n)).setCell ⟨w.heap.size, 3, none⟩ (.string s)).setCell ⟨w.heap.size, 4, none⟩ (.slice a len cap)).setCell ⟨w.heap.size, 5, none⟩ (.int .i64 v)) w.heap.size p (tmCells op n s a len cap) ∧
      Cur ((((((X.setCell ⟨w.heap.size, 0, none⟩ (.string h)).setCell ⟨w.heap.size, 1, none⟩ (.int .i64 op)).setCell ⟨w.heap.size, 2, none⟩ (.int .i64 n)).setCell ⟨w.heap.size, 3, none⟩ (.string s)).setCell ⟨w.heap.size, 4, none⟩ (.slice a len cap)).setCell ⟨w.heap.size, 5, none⟩ (.int .i64 v)) c ∧
      Only [c] w ((((((X.setCell ⟨w.heap.size, 0, none⟩ (.string h)).setCell ⟨w.heap.size, 1, none⟩ (.int .i64 op)).setCell ⟨w.heap.size, 2, none⟩ (.int .i64 n)).setCell ⟨w.heap.size, 3, none⟩ (.string s)).setCell ⟨w.heap.size, 4, none⟩ (.slice a len cap)).setCell ⟨w.heap.size, 5, none⟩ (.int .i64 v)) := by
  have hg : w.heap.size < w.heap.size + 1 := Nat.lt_succ_self _
  refine ⟨hd, ?_, ?_, ?_⟩
  · exact Lies.set (L := w.heap.size + 1) (Lies.set (Lies.set (Lies.set (Lies.set (Lies.set hl hg (Nat.le_refl _)) hg (Nat.le_refl _)) hg (Nat.le_refl _)) hg (Nat.le_refl _)) hg (Nat.le_refl _)) hg (by omega)
  · exact ((((((hc.set hcl).set hcl).set hcl).set hcl).set hcl).set hcl)
  · exact only_set (only_set (only_set (only_set (only_set (only_set ho (Nat.le_refl _)) (Nat.le_refl _)) (Nat.le_refl _)) (Nat.le_refl _)) (Nat.le_refl _)) (Nat.le_refl _)

set_option maxRecDepth 100000 in
set_option maxHeartbeats 4000000 in
/-- A drawn certificate. -/
theorem cert_draw (c : Nat) (w : World) (hc : Cur w c) :
    Calls Tryz.prog 110 #[.pointer (some ⟨c, 0, none⟩)] w fun e w' => ∃ h p v op n s a len cap, e = .returned (.agg #[.string h, .int .i64 op, .int .i64 n, .string s, .slice a len cap, .int .i64 v]) ∧ CertD h p v ∧ Lies w' w.heap.size p (tmCells op n s a len cap) ∧ Cur w' c ∧ Only [c] w w' := by
  have h45 := hide (right_draw c)
  have h46 := hide (below_calls c 10)
  have h47 := hide (pick_of (fun s => s ≠ ⟨#[122, 122, 46, 122, 122]⟩ ∧ s.size ≤ 60) c)
  have h34 := hide (pickInt_of (fun z => -1 ≤ z ∧ z ≤ 100001) c)
  have h48 := hide (draw_calls c)
  have hcl := hc.lt
  have HC0 := hide (hc.below (ab (.cells #[.string ⟨#[]⟩, .int .i64 0, .int .i64 0, .string ⟨#[]⟩, .slice none 0 0, .int .i64 0] 57)))
  have HR0 := hide (RowC.new 57 w ⟨#[]⟩ 0 0 ⟨#[]⟩ none 0 0 0)
  have HO0 : Hid (Only [c] w (w.alloc (.cells #[.string ⟨#[]⟩, .int .i64 0, .int .i64 0, .string ⟨#[]⟩, .slice none 0 0, .int .i64 0] 57))) := Only.of_below (ab _)
  clear hc
  go_enter Tryz.func110, Tryz.ntmps110
  go_wp2_with fail
  refine (unhide h45 _ (unhide HC0)).mono ?_
  rintro e w1 ⟨h, x, v, op, n, s, a, len, rfl, hh, hx, hv, hl1, hc1, ho1⟩
  rw [heap_size_alloc] at hl1
  have HH := hide (HostD.other hh)
  have HV := hide (EndD.le hv)
  have HGW : Hid (w.heap.size < w1.heap.size) := ((unhide HR0).one ho1 (by omega)).lt
  have HO1 := hide (((unhide HO0).trans ho1).trans (Only.of_below (ab (.cells #[.string h, .int .i64 op, .int .i64 n, .string s, .slice a len len, .int .i64 v] 57))))
  have HR1 := hide (((unhide HR0).one ho1 (by omega)).below (ab (.cells #[.string h, .int .i64 op, .int .i64 n, .string s, .slice a len len, .int .i64 v] 57)))
  have HX1 := hide (RowC.new 57 w1 h op n s a len len v)
  have HC1 := hide (hc1.below (ab (.cells #[.string h, .int .i64 op, .int .i64 n, .string s, .slice a len len, .int .i64 v] 57)))
  have HL1 := hide hl1
  have HQ1 : Hid (Only [c] w1 (w1.alloc (.cells #[.string h, .int .i64 op, .int .i64 n, .string s, .slice a len len, .int .i64 v] 57))) := Only.of_below (ab _)
  have hc1l := hc1.lt
  clear hh hx hv hc1 ho1 hl1 HC0 HR0 HO0
  go_wp2_with fail
  generalize hV1 : w1.alloc (.cells #[.string h, .int .i64 op, .int .i64 n, .string s, .slice a len len, .int .i64 v] 57) = V1 at *
  generalize hgg : w1.heap.size = g at *
  have HGG : Hid (w1.heap.size ≤ g) := Nat.le_of_eq hgg
  clear hV1 hgg
  refine (unhide h46 _ (unhide HC1) (by omega)).mono ?_
  rintro e w2 ⟨y, rfl, ⟨_, hy⟩, hc2, ho2⟩
  obtain ⟨hy0, hy1⟩ := hy (by omega)
  have HO2 := hide ((unhide HO1).trans ho2)
  have HR2 := hide ((unhide HR1).one ho2 (by omega))
  have HX2 := hide ((unhide HX1).one ho2 (by omega))
  have HC2 := hide hc2
  have HQ2 := hide ((unhide HQ1).trans ho2)
  have hcl2 := hc2.lt
  have hne : (w.heap.size = g) = False := eq_false (by have := unhide HGW; omega)
  have hne' : (g = w.heap.size) = False := eq_false (by have := unhide HGW; omega)
  clear hy hc2 ho2 HC1 HR1 HO1 HX1 HQ1
  obtain ⟨p0, p1, p2, p3, p4, p5⟩ := (unhide HR2).facts
  obtain ⟨q0, q1, q2, q3, q4, q5⟩ := (unhide HR2).frozen
  obtain ⟨c0, c1, c2, c3, c4, c5⟩ := (unhide HX2).facts
  obtain ⟨d0, d1, d2, d3, d4, d5⟩ := (unhide HX2).frozen
  by_cases e0 : y = 0
  · subst e0
    go_wp2_with fail
    refine (unhide h47 w2.heap.size 3 3 _ ((unhide HC2).below (ab (.cells #[.string ⟨#[]⟩, .string ⟨#[97]⟩, .string ⟨#[65, 46, 98]⟩] 9))) (by omega) (by omega) (by omega) (by omega) (by omega) (words3_at w2)).mono ?_
    rintro e w3 ⟨s3, rfl, hs3, hc3, ho3⟩
    have HO3 := hide ((unhide HO2).trans (only_alloc _ ho3))
    have HQ3 := hide ((unhide HQ2).trans (only_alloc _ ho3))
    have HR3 := hide (((unhide HR2).below (ab (.cells #[.string ⟨#[]⟩, .string ⟨#[97]⟩, .string ⟨#[65, 46, 98]⟩] 9))).one ho3 (by omega))
    have HX3 := hide (((unhide HX2).below (ab (.cells #[.string ⟨#[]⟩, .string ⟨#[97]⟩, .string ⟨#[65, 46, 98]⟩] 9))).one ho3 (by omega))
    have HC3 := hide hc3
    have HS3 := hide hs3
    clear hs3 hc3 ho3
    clear p0 p1 p2 p3 p4 p5 q0 q1 q2 q3 q4 q5 c0 c1 c2 c3 c4 c5 d0 d1 d2 d3 d4 d5
    obtain ⟨p0, p1, p2, p3, p4, p5⟩ := (unhide HR3).facts
    obtain ⟨q0, q1, q2, q3, q4, q5⟩ := (unhide HR3).frozen
    obtain ⟨c0, c1, c2, c3, c4, c5⟩ := (unhide HX3).facts
    obtain ⟨d0, d1, d2, d3, d4, d5⟩ := (unhide HX3).frozen
    go_wp2_with fail
    have hng : w.heap.size ≠ g := by have := unhide HGW; omega
    have hcg : c < g := by have := unhide HGW; omega
    have hwg : w.heap.size ≤ g := by have := unhide HGW; omega
    have HF := hide (fillR ((unhide HR3).past (o := 0) hng (.string s3)) s3 op n s a len len v)
    obtain ⟨f0, f1, f2, f3, f4, f5⟩ := (unhide HF).facts
    exact bodyPost_ret (v := .agg #[.string s3, .int .i64 op, .int .i64 n, .string s, .slice a len len, .int .i64 v]) (by simp [results, Tryz.results110, go_sem, f0, f1, f2, f3, f4, f5]; try rfl) rfl ⟨s3, pubA x, v, op, n, s, a, len, len, rfl, cert_fin ⟨(unhide HS3).1, (unhide HS3).2, pubA_size x, by have := unhide HV; omega, by have := unhide HV; omega⟩ ((unhide HL1).only (only_set (o := 0) (x := .string s3) (unhide HQ3) (unhide HGG)) (by omega)) ((unhide HC3).set hcg) (only_set (unhide HO3) hwg) hcl⟩
  by_cases e1 : y = 1
  · subst e1
    go_wp2_with fail
    refine (unhide h48 _ (unhide HC2)).mono ?_
    rintro e w3 ⟨v3, rfl, ⟨t, op', n', s', a', len', cap', rfl, hl3, hz3⟩, hc3, ho3⟩
    have HO3 := hide ((unhide HO2).trans ho3)
    have HR3 := hide ((unhide HR2).one ho3 (by omega))
    have HX3 := hide ((unhide HX2).one ho3 (by omega))
    have HC3 := hide hc3
    have HL3 := hide hl3
    have HZ3 := hide hz3
    have HGL : Hid (g < w2.heap.size) := (unhide HX2).lt
    clear hl3 hz3 hc3 ho3
    clear p0 p1 p2 p3 p4 p5 q0 q1 q2 q3 q4 q5 c0 c1 c2 c3 c4 c5 d0 d1 d2 d3 d4 d5
    obtain ⟨p0, p1, p2, p3, p4, p5⟩ := (unhide HR3).facts
    obtain ⟨q0, q1, q2, q3, q4, q5⟩ := (unhide HR3).frozen
    obtain ⟨c0, c1, c2, c3, c4, c5⟩ := (unhide HX3).facts
    obtain ⟨d0, d1, d2, d3, d4, d5⟩ := (unhide HX3).frozen
    go_wp2_with fail
    have hng : w.heap.size ≠ g := by have := unhide HGW; omega
    have hcg : c < g := by have := unhide HGW; omega
    have hwg : w.heap.size ≤ g := by have := unhide HGW; omega
    have HF := hide (fillR (((((unhide HR3).past (o := 1) hng (.int .i64 op')).past (o := 2) hng (.int .i64 n')).past (o := 3) hng (.string s')).past (o := 4) hng (.slice a' len' cap')) h op' n' s' a' len' cap' v)
    obtain ⟨f0, f1, f2, f3, f4, f5⟩ := (unhide HF).facts
    exact bodyPost_ret (v := .agg #[.string h, .int .i64 op', .int .i64 n', .string s', .slice a' len' cap', .int .i64 v]) (by simp [results, Tryz.results110, go_sem, f0, f1, f2, f3, f4, f5]; try rfl) rfl ⟨h, t, v, op', n', s', a', len', cap', rfl, cert_fin ⟨(unhide HH).1, (unhide HH).2, unhide HZ3, by have := unhide HV; omega, by have := unhide HV; omega⟩ (Lies.set (L := w2.heap.size) (Lies.set (Lies.set (Lies.set (unhide HL3) (unhide HGL) (Nat.le_refl _)) (unhide HGL) (Nat.le_refl _)) (unhide HGL) (Nat.le_refl _)) (unhide HGL) (by have := unhide HGL; have := unhide HGW; omega)) (((((unhide HC3).set hcg).set hcg).set hcg).set hcg) (only_set (only_set (only_set (only_set (unhide HO3) hwg) hwg) hwg) hwg) hcl⟩
  by_cases e2 : y = 2
  · subst e2
    go_wp2_with fail
    refine (unhide h34 w2.heap.size 2 2 _ ((unhide HC2).below (ab (.cells #[.int .i64 (-1), .int .i64 100001] 3))) (by omega) (by omega) (by omega) (by omega) (by omega) (ends2_at w2)).mono ?_
    rintro e w3 ⟨z3, rfl, hs3, hc3, ho3⟩
    have HO3 := hide ((unhide HO2).trans (only_alloc _ ho3))
    have HQ3 := hide ((unhide HQ2).trans (only_alloc _ ho3))
    have HR3 := hide (((unhide HR2).below (ab (.cells #[.int .i64 (-1), .int .i64 100001] 3))).one ho3 (by omega))
    have HX3 := hide (((unhide HX2).below (ab (.cells #[.int .i64 (-1), .int .i64 100001] 3))).one ho3 (by omega))
    have HC3 := hide hc3
    have HS3 := hide hs3
    clear hs3 hc3 ho3
    clear p0 p1 p2 p3 p4 p5 q0 q1 q2 q3 q4 q5 c0 c1 c2 c3 c4 c5 d0 d1 d2 d3 d4 d5
    obtain ⟨p0, p1, p2, p3, p4, p5⟩ := (unhide HR3).facts
    obtain ⟨q0, q1, q2, q3, q4, q5⟩ := (unhide HR3).frozen
    obtain ⟨c0, c1, c2, c3, c4, c5⟩ := (unhide HX3).facts
    obtain ⟨d0, d1, d2, d3, d4, d5⟩ := (unhide HX3).frozen
    go_wp2_with fail
    have hng : w.heap.size ≠ g := by have := unhide HGW; omega
    have hcg : c < g := by have := unhide HGW; omega
    have hwg : w.heap.size ≤ g := by have := unhide HGW; omega
    have HF := hide (fillR ((unhide HR3).past (o := 5) hng (.int .i64 z3)) h op n s a len len z3)
    obtain ⟨f0, f1, f2, f3, f4, f5⟩ := (unhide HF).facts
    exact bodyPost_ret (v := .agg #[.string h, .int .i64 op, .int .i64 n, .string s, .slice a len len, .int .i64 z3]) (by simp [results, Tryz.results110, go_sem, f0, f1, f2, f3, f4, f5]; try rfl) rfl ⟨h, pubA x, z3, op, n, s, a, len, len, rfl, cert_fin ⟨(unhide HH).1, (unhide HH).2, pubA_size x, (unhide HS3).1, (unhide HS3).2⟩ ((unhide HL1).only (only_set (o := 5) (x := .int .i64 z3) (unhide HQ3) (unhide HGG)) (by omega)) ((unhide HC3).set hcg) (only_set (unhide HO3) hwg) hcl⟩
  have q0' : (y == 0) = false := by simpa using e0
  have q1' : (y == 1) = false := by simpa using e1
  have q2' : (y == 2) = false := by simpa using e2
  go_wp2_with fail
  have HF := hide (fillR (unhide HR2) h op n s a len len v)
  obtain ⟨f0, f1, f2, f3, f4, f5⟩ := (unhide HF).facts
  exact bodyPost_ret (v := .agg #[.string h, .int .i64 op, .int .i64 n, .string s, .slice a len len, .int .i64 v]) (by simp [results, Tryz.results110, go_sem, f0, f1, f2, f3, f4, f5]; try rfl) rfl ⟨h, pubA x, v, op, n, s, a, len, len, rfl, cert_fin ⟨(unhide HH).1, (unhide HH).2, pubA_size x, by have := unhide HV; omega, by have := unhide HV; omega⟩ ((unhide HL1).only (unhide HQ2) (by omega)) (unhide HC2) (unhide HO2) hcl⟩

theorem cert_fits {h : ByteArray} {p : Tm} {v : Int} (hc : certB h p v = true) (hs : p.size ≤ 194) : okT (certL h p v) = true := by
  obtain ⟨hh, h4, hok, h0, h1⟩ := certB_ok hc
  have hr : rightT p = true := by simp only [okT, Bool.and_eq_true] at hok; exact hok.2
  have h60 := hh.1
  have hn : (ByteArray.mk (Lib.itoa v).toArray).size ≤ 300 := by
    have := Lib.itoa_length_le v (by omega) (by omega)
    show (Lib.itoa v).toArray.size ≤ 300
    simp; omega
  have e1 : ByteArray.empty.size = 0 := rfl
  have r1 : rightT oneT = true := by decide
  have r2 : rightT (textT h) = true := by
    simp only [textT, rightT, rightL, headB, shareB, List.length_nil, Bool.and_true, decide_eq_true_eq]
    exact ⟨by decide, Or.inr trivial, Or.inl trivial, ⟨by decide, by decide⟩, by omega⟩
  have r3 : rightT (numT v) = true := by
    rw [numT_text]
    simp only [textT, rightT, rightL, headB, shareB, List.length_nil, Bool.and_true, decide_eq_true_eq]
    exact ⟨by decide, Or.inr trivial, Or.inl trivial, ⟨by decide, by decide⟩, by omega⟩
  have z1 : (textT h).size = 1 := by simp [textT, Tm.size, Tm.sizes]
  have z2 := numT_size v
  have z3 : oneT.size = 1 := by simp [oneT, Tm.size, Tm.sizes]
  have s3 : ∀ x y : Tm, rightT x = true → rightT y = true → rightT (.node 3 0 ByteArray.empty [x, y]) = true := fun x y hx hy => by
    simp only [rightT, rightL, hx, hy, Bool.and_true]
    rfl
  have s8 : ∀ x y : Tm, rightT x = true → rightT y = true → rightT (.node 8 0 ByteArray.empty [x, y]) = true := fun x y hx hy => by
    simp only [rightT, rightL, hx, hy, Bool.and_true]
    rfl
  unfold okT certL
  rw [s8 _ _ r1 (s3 _ _ r2 (s3 _ _ hr r3)), Bool.and_true, decide_eq_true_eq]
  simp only [Tm.size, Tm.sizes, z1, z2, z3]
  omega

theorem hostD_ok {h : ByteArray} (hd : HostD h) : hostP h := by
  rcases hd with rfl | rfl | rfl | rfl | rfl | rfl
  · exact host0
  · exact host1
  · exact host2
  · exact host3
  · exact host4
  · exact host5
theorem pubA_ok (x : Int) (h0 : 0 ≤ x) (h1 : x < 3) : okT (pubA x) = true := by
  rcases (by omega : x = 0 ∨ x = 1 ∨ x = 2) with rfl | rfl | rfl <;> decide
theorem right_ok {h : ByteArray} {x v : Int} (hd : HostD h) (hx : 0 ≤ x ∧ x < 3) (hv : EndD v) : certB h (pubA x) v = true := by
  have hle := hv.le
  unfold certB
  rw [hostB_yes (hostD_ok hd), pubA_ok x hx.1 hx.2, decide_eq_true hle]
  rfl
theorem certT_in {h : ByteArray} {p : Tm} {v : Int} (hok : okT (certL h p v) = true) : certT h p v = certL h p v := by
  rw [← cert_one]
  unfold certL at hok
  unfold madeT certL
  rw [hok]
  rfl
theorem kids_far {w : World} {L b q : Nat} {op n : Int} {s : ByteArray} {k0 k1 : Tm} {op2 n2 : Int} {s2 : ByteArray} {len2 cap2 : Nat} (hl : Lies w L (.node op n s [k0, k1]) (tmCells op2 n2 s2 (some ⟨b, q, none⟩) len2 cap2)) : L ≤ b := by
  simp only [Lies, LiesAll, tmCells, List.cons.injEq, Value.int.injEq, Value.string.injEq, Value.slice.injEq, true_and, and_true] at hl
  obtain ⟨a9, c9, ⟨-, -, -, ha, -⟩, -, -, ⟨b9, o9, cs, hb, hLb, -⟩, -⟩ := hl
  rw [← ha] at hb
  cases hb
  exact hLb
theorem atom2S (w : World) : Calls Tryz.prog 67 #[.int .i64 2] w fun e w' => e = .returned (.agg #[.int .i64 1, .int .i64 2, .string ByteArray.empty, .slice none 0 0]) ∧ Below w.heap.size w w' := by
  have hok : okT (.node 1 2 ByteArray.empty []) = true := by decide
  refine (atom6 2 w (by decide)).mono ?_
  rintro e w' ⟨he, hb⟩
  rw [show atOp 2 = 1 from if_pos hok, show atN 2 = 2 from if_pos hok] at he
  exact ⟨he, hb⟩

set_option maxRecDepth 100000 in
set_option maxHeartbeats 4000000 in
/-- A drawn term. -/
theorem term_draw (c : Nat) (w : World) (hc : Cur w c) :
    Calls Tryz.prog 69 #[.pointer (some ⟨c, 0, none⟩)] w fun e w' => ∃ T op n s a len cap, e = .returned (.agg #[.int .i64 op, .int .i64 n, .string s, .slice a len cap]) ∧ (Lies w' w.heap.size T (tmCells op n s a len cap) ∧ T.size ≤ 61010) ∧ Cur w' c ∧ Only [c] w w' := by
  have h45 := hide (right_draw c)
  have h46 := hide (below_calls c 8)
  have h48 := hide (draw_calls c)
  have h51 := hide (dr2 c)
  have h37 := hide signS
  have hcl := hc.lt
  have HC0 := hide (hc.below (ab (.cells #[.int .i64 0, .int .i64 0, .string ByteArray.empty, .slice none 0 0] 29)))
  have HR0 := hide (ZBox.new w)
  have HO0 : Hid (Only [c] w (w.alloc (.cells #[.int .i64 0, .int .i64 0, .string ByteArray.empty, .slice none 0 0] 29))) := Only.of_below (ab _)
  clear hc
  go_enter Tryz.func69, Tryz.ntmps69
  go_wp2_with fail
  refine (unhide h45 _ (unhide HC0)).mono ?_
  rintro e w1 ⟨h, x, v, op, n, s, a, len, rfl, hh, hx, hv, hl1, hc1, ho1⟩
  rw [heap_size_alloc] at hl1
  have hcb := right_ok hh hx hv
  have hfit : okT (certL h (pubA x) v) = true := cert_fits hcb (by have := (pubA_size x).2; omega)
  have h15 := certTS_yes (pubA x) h op n s a len len v w1 (hl1.any (Nat.zero_le _)) hcb
  rw [certT_in hfit] at h15
  have H15 := hide h15
  have HFT := hide hfit
  have HGW : Hid (w.heap.size < w1.heap.size) := lt_of_heap ((unhide HR0).only ho1 (by omega))
  have HO1 := hide ((unhide HO0).trans ho1)
  have HR1 := hide ((unhide HR0).only ho1 (by omega))
  have HC1 := hide hc1
  clear hcb hfit h15 hh hx hv hl1 hc1 ho1 HC0 HR0 HO0
  go_wp2_with fail
  refine (unhide H15).mono ?_
  rintro e w2 ⟨op2, n2, s2, a2, len2, cap2, rfl, hl2, hb2, rfl⟩
  have HO2 := hide (((unhide HO1).trans (Only.of_below hb2)).trans (Only.of_below (ab (.cells #[.int .i64 op2, .int .i64 n2, .string s2, .slice a2 len2 len2] 29))))
  have HR2 := hide (((unhide HR1).below hb2).below (ab (.cells #[.int .i64 op2, .int .i64 n2, .string s2, .slice a2 len2 len2] 29)))
  have HC2 := hide (((unhide HC1).below hb2).below (ab (.cells #[.int .i64 op2, .int .i64 n2, .string s2, .slice a2 len2 len2] 29)))
  have HX2 := hide (RowT.new 29 w2 op2 n2 s2 a2 len2 len2)
  have HL2 := hide (hl2.below (ab (.cells #[.int .i64 op2, .int .i64 n2, .string s2, .slice a2 len2 len2] 29)))
  have HG2 : Hid (w1.heap.size ≤ w2.heap.size) := hb2.size
  have hcl1 : c < w1.heap.size := (unhide HC1).lt
  clear hl2 hb2 HC1 HR1 HO1 H15
  go_wp2_with fail
  generalize hV2 : w2.alloc (.cells #[.int .i64 op2, .int .i64 n2, .string s2, .slice a2 len2 len2] 29) = V2 at *
  generalize w2.heap.size = g at *
  clear hV2
  refine (unhide h46 _ (unhide HC2) (by omega)).mono ?_
  rintro e w3 ⟨y, rfl, ⟨_, hy⟩, hc3, ho3⟩
  obtain ⟨hy0, hy1⟩ := hy (by omega)
  have hcg : c < g := by have := unhide HG2; omega
  have HO3 := hide ((unhide HO2).trans ho3)
  have HR3 := hide ((unhide HR2).only ho3 (by omega))
  have HX3 := hide ((unhide HX2).only ho3 (by simp; omega))
  have HC3 := hide hc3
  have HL3 := hide ((unhide HL2).only ho3 hcl1)
  have hcl3 := hc3.lt
  have hne : (w.heap.size = g) = False := eq_false (by have := unhide HGW; have := unhide HG2; omega)
  have hne' : (g = w.heap.size) = False := eq_false (by have := unhide HGW; have := unhide HG2; omega)
  clear hy hc3 ho3 HC2 HR2 HO2 HX2 HL2
  obtain ⟨p0, p1, p2, p3, q0, q1, q2, q3⟩ := (unhide HR3).facts
  obtain ⟨c0, c1, c2, c3⟩ := (unhide HX3).facts
  by_cases e0 : y = 0
  · subst e0
    go_wp2_with fail
    refine (unhide h48 _ (unhide HC3)).mono ?_
    rintro e w4 ⟨v4, rfl, ⟨t, op', n', s', a', len', cap', rfl, hl4, hz4⟩, hc4, ho4⟩
    have HO4 := hide ((unhide HO3).trans ho4)
    have HR4 := hide ((unhide HR3).only ho4 (by omega))
    have HC4 := hide hc4
    have HL4 := hide hl4
    have HZ4 := hide hz4
    have HG4 : Hid (w.heap.size < w3.heap.size) := lt_of_heap (unhide HR3)
    clear hl4 hz4 hc4 ho4 p0 p1 p2 p3 q0 q1 q2 q3 c0 c1 c2 c3
    obtain ⟨p0, p1, p2, p3, q0, q1, q2, q3⟩ := (unhide HR4).facts
    go_wp2_with fail
    exact bodyPost_ret (v := .agg #[.int .i64 op', .int .i64 n', .string s', .slice a' len' cap']) (by simp [results, Tryz.results69, go_sem, p0, p1, p2, p3]; try rfl) rfl ⟨t, op', n', s', a', len', cap', rfl, ⟨set4_lies (unhide HL4) (unhide HG4) w.heap.size (by have := unhide HG4; omega), by have := unhide HZ4; omega⟩, cur_set4 (unhide HC4) hcl, only_set4 (unhide HO4) (Nat.le_refl _)⟩
  by_cases e1 : y = 1
  · subst e1
    have h29 := hide atom2S
    have hl3 := (unhide HL3).any (Nat.zero_le _)
    have hkz : ((.node 3 0 ByteArray.empty [textT h, .node 3 0 ByteArray.empty [pubA x, numT v]]) : Tm).size ≤ 200 := by
      have := okT_200 (unhide HFT)
      simp only [certL, Tm.size, Tm.sizes] at this ⊢
      omega
    have HKZ := hide hkz
    have HGZ0 : Hid (w.heap.size < w3.heap.size) := lt_of_heap (unhide HR3)
    unfold certL at hl3
    obtain ⟨rfl, rfl, rfl, rfl, b, q, op3, n3, s3, a3, len3, cap3, op4, n4, s4, a4, len4, cap4, rfl, -, r4, r5, r6, r7, hk1⟩ := lies_kids hl3
    have HK1 := hide hk1
    have hLb := unhide HL3
    unfold certL at hLb
    have hbw : w1.heap.size ≤ b := kids_far hLb
    have hnb : (b = w.heap.size) = False := eq_false (by have := unhide HGW; omega)
    have hnb' : (w.heap.size = b) = False := eq_false (by have := unhide HGW; omega)
    clear hLb hbw
    clear hl3 hk1 hkz p0 p1 p2 p3 q0 q1 q2 q3
    go_wp2_with fail
    go_region_held3 (fun x => x.cell? ⟨g, 3, none⟩ = some (.slice (some ⟨b, q, none⟩) 2 2) ∧ x.cell? ⟨b, q + 4, none⟩ = some (.int .i64 op4) ∧ x.cell? ⟨b, q + 5, none⟩ = some (.int .i64 n4) ∧ x.cell? ⟨b, q + 6, none⟩ = some (.string s4) ∧ x.cell? ⟨b, q + 7, none⟩ = some (.slice a4 len4 cap4)) (go_keep)
      (first
        | (go_at_call 67
           refine (unhide h29 _).mono ?_
           rintro e w4 ⟨rfl, hb4⟩
           have hb4' := hide (below_drew' hb4)
           have f0 := kpc (unhide hb4') c3
           have f1 := kpc (unhide hb4') r4
           have f2 := kpc (unhide hb4') r5
           have f3 := kpc (unhide hb4') r6
           have f4 := kpc (unhide hb4') r7
           have HK4 := hide ((unhide HK1).below (unhide hb4'))
           have HR4 := hide ((unhide HR3).below (unhide hb4')))
        | (go_at_call 78
           refine (unhide h37 (.node 1 2 ByteArray.empty []) (.node 3 0 ByteArray.empty [textT h, .node 3 0 ByteArray.empty [pubA x, numT v]]) 1 2 ByteArray.empty none 0 0 op4 n4 s4 a4 len4 cap4 _ (leaf_lies _ 0 1 2 ByteArray.empty (by simp [maxLen]) (by decide) (by decide)) (unhide HK4) (by have := unhide HKZ; have h1 : (Tm.node 1 2 ByteArray.empty []).size = 1 := (by simp [Tm.size, Tm.sizes]); omega)).mono ?_
           rintro e w5 ⟨op', n', s', a', len', cap', rfl, hL5, hb5, -⟩
           have HLZ := hide hL5
           have HB5 := hide hb5
           have j0 := kpc hb5 f0
           have j1 := kpc hb5 f1
           have j2 := kpc hb5 f2
           have j3 := kpc hb5 f3
           have j4 := kpc hb5 f4
           obtain ⟨p0, p1, p2, p3, q0, q1, q2, q3⟩ := ((unhide HR4).below hb5).facts
           clear hL5 hb5))
    have HCZ := hide (((unhide HC3).below (unhide hb4')).below (unhide HB5))
    have HOZ := hide (((unhide HO3).trans (Only.of_below (unhide hb4'))).trans (Only.of_below (unhide HB5)))
    have HGZ : Hid (w.heap.size < w4.heap.size) := Nat.lt_of_lt_of_le (unhide HGZ0) (unhide hb4').size
    clear c0 c1 c2 c3 f0 f1 f2 f3 f4 j0 j1 j2 j3 j4 r4 r5 r6 r7
    go_wp2_with fail
    exact bodyPost_ret (v := .agg #[.int .i64 op', .int .i64 n', .string s', .slice a' len' cap']) (by simp [results, Tryz.results69, go_sem, p0, p1, p2, p3]; try rfl) rfl ⟨_, op', n', s', a', len', cap', rfl, ⟨set4_lies (unhide HLZ) (unhide HGZ) w.heap.size (by have := unhide HGZ; omega), by have := madeT_200 8 [.node 1 2 ByteArray.empty [], (.node 3 0 ByteArray.empty [textT h, .node 3 0 ByteArray.empty [pubA x, numT v]])]; omega⟩, cur_set4 (unhide HCZ) hcl, only_set4 (unhide HOZ) (Nat.le_refl _)⟩
  by_cases e2 : y = 2
  · subst e2
    have h29 := hide atom1S
    go_wp2_with fail
    refine (unhide h29 _).mono ?_
    rintro e w4 ⟨rfl, hb4⟩
    have HC4 := hide ((unhide HC3).below hb4)
    have HO4 := hide ((unhide HO3).trans (Only.of_below hb4))
    have HR4 := hide ((unhide HR3).below hb4)
    have hcl4 := (unhide HC4).lt
    clear hb4 p0 p1 p2 p3 q0 q1 q2 q3 c0 c1 c2 c3
    go_wp2_with fail
    refine (unhide h51 _ (unhide HC4)).mono ?_
    rintro e w5 ⟨v5, rfl, ⟨t, op3, n3, s3, a3, len3, rfl, hl5, hz5⟩, hc5, ho5⟩
    have HC5 := hide hc5
    have HO5 := hide ((unhide HO4).trans ho5)
    have HR5 := hide ((unhide HR4).only ho5 (by omega))
    have HL5 := hide (hl5.any (Nat.zero_le _))
    have HZ5 := hide hz5
    have HGZ : Hid (w.heap.size < w5.heap.size) := lt_of_heap (unhide HR5)
    clear hl5 hz5 hc5 ho5
    go_wp2_with fail
    refine (unhide h37 (.node 1 1 ByteArray.empty []) t 1 1 ByteArray.empty none 0 0 op3 n3 s3 a3 len3 len3 _ (leaf_lies _ 0 1 1 ByteArray.empty (by simp [maxLen]) (by decide) (by decide)) (unhide HL5) (by have := unhide HZ5; have h1 : (Tm.node 1 1 ByteArray.empty []).size = 1 := (by simp [Tm.size, Tm.sizes]); omega)).mono ?_
    rintro e w6 ⟨op', n', s', a', len', cap', rfl, hL6, hb6, -⟩
    have HLZ := hide hL6
    have HCZ := hide ((unhide HC5).below hb6)
    have HOZ := hide ((unhide HO5).trans (Only.of_below hb6))
    obtain ⟨p0, p1, p2, p3, q0, q1, q2, q3⟩ := ((unhide HR5).below hb6).facts
    clear hL6 hb6
    go_wp2_with fail
    exact bodyPost_ret (v := .agg #[.int .i64 op', .int .i64 n', .string s', .slice a' len' cap']) (by simp [results, Tryz.results69, go_sem, p0, p1, p2, p3]; try rfl) rfl ⟨_, op', n', s', a', len', cap', rfl, ⟨set4_lies (unhide HLZ) (unhide HGZ) w.heap.size (by have := unhide HGZ; omega), by have := madeT_200 8 [.node 1 1 ByteArray.empty [], t]; omega⟩, cur_set4 (unhide HCZ) hcl, only_set4 (unhide HOZ) (Nat.le_refl _)⟩
  have q0' : (y == 0) = false := by simpa using e0
  have q1' : (y == 1) = false := by simpa using e1
  have q2' : (y == 2) = false := by simpa using e2
  go_wp2_with fail
  exact bodyPost_ret (v := .agg #[.int .i64 op2, .int .i64 n2, .string s2, .slice a2 len2 len2]) (by simp [results, Tryz.results69, go_sem, p0, p1, p2, p3]; try rfl) rfl ⟨certL h (pubA x) v, op2, n2, s2, a2, len2, len2, rfl, ⟨set4_lies (unhide HL3) (unhide HGW) w.heap.size (by have := unhide HGW; omega), by have := okT_200 (unhide HFT); omega⟩, cur_set4 (unhide HC3) hcl, only_set4 (unhide HO3) (Nat.le_refl _)⟩

end Go.Proofs.YtmklgikbajhcpaaGreatDoor
