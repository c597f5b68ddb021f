
/- The walk of spec.Agree: of whatever two terms lie in memory it answers the share of the first and the kid of the second, in order, and true, where the second is a right open half and the share is right; else the zero term and false; nothing that was there is written. The cursor of the draws, as it lies in memory; the walks of spec.l1Byte, l1Below, l1Once: what is drawn lies within its bounds; only the cursor's own block is written. -/
import Derived.Test.YtafoonabmijcdaaGreatDoorPr
import Derived.Deep.DeepCutAuto
import Derived.Test.YtafoonabmijcdaaGreatDoorOx
import Derived.Deep.QuietTactic
import Derived.BigQuiet
import Derived.Laws.Bits64b
namespace Go.Proofs.YtafoonabmijcdaaGreatDoor
open Go.RowKit Go.Deep

/-- The share of two terms, in order. -/
def shareT (t k : Tm) : Tm := if beforeB k t = true then .node 5 0 ByteArray.empty [k, t] else .node 5 0 ByteArray.empty [t, k]
/-- What spec.Agree answers. -/
def agreeB (t : Tm) : Tm → Bool
  | .node op n s ks => match ks with
    | [k] => decide (op = 4) && okT (.node op n s [k]) && okT (shareT t k)
    | _ => false
def agreeT (t : Tm) : Tm → Tm
  | .node op n s ks => match ks with
    | [k] => pickT (agreeB t (.node op n s [k])) (shareT t k)
    | _ => .node 0 0 ByteArray.empty []

set_option maxRecDepth 100000 in
set_option maxHeartbeats 1000000 in
theorem agree_no1 (op n : Int) (s : ByteArray) (a : Option Addr) (len cap : Nat) (op2 n2 : Int) (s2 : ByteArray) (a2 : Option Addr) (len2 cap2 : Nat) (w : World) (h4 : op2 ≠ 4) :
    Calls Tryz.prog 13 #[.agg #[.int .i64 op, .int .i64 n, .string s, .slice a len cap], .agg #[.int .i64 op2, .int .i64 n2, .string s2, .slice a2 len2 cap2]] w fun e w' => e = .returned (.tuple #[.agg #[.int .i64 0, .int .i64 0, .string ByteArray.empty, .slice none 0 0], .bool false]) ∧ Below w.heap.size w w' := by
  have hB0 : Below w.heap.size w (((w.alloc (.cells #[.int .i64 op, .int .i64 n, .string s, .slice a len cap] 28)).alloc (.cells #[.int .i64 op2, .int .i64 n2, .string s2, .slice a2 len2 cap2] 28)).alloc (.cells #[.int .i64 0, .int .i64 0, .string ByteArray.empty, .slice none 0 0] 28)) := bt (bt (ab _) (ab _) (Nat.le_refl _)) (ab _) (Nat.le_refl _)
  have HB0 := hide hB0
  have hX : ZBox (((w.alloc (.cells #[.int .i64 op, .int .i64 n, .string s, .slice a len cap] 28)).alloc (.cells #[.int .i64 op2, .int .i64 n2, .string s2, .slice a2 len2 cap2] 28)).alloc (.cells #[.int .i64 0, .int .i64 0, .string ByteArray.empty, .slice none 0 0] 28)) (w.heap.size + 1 + 1) := by
    have := ZBox.new ((w.alloc (.cells #[.int .i64 op, .int .i64 n, .string s, .slice a len cap] 28)).alloc (.cells #[.int .i64 op2, .int .i64 n2, .string s2, .slice a2 len2 cap2] 28))
    rwa [heap_size_alloc, heap_size_alloc] at this
  have HX := hide hX
  obtain ⟨d0, d1, d2, d3, e0, e1, e2, e3⟩ := (unhide HX).facts
  clear hB0 hX
  have q1 : (op2 != 4) = true := by simpa using h4
  go_enter Tryz.func13, Tryz.ntmps13
  go_wp2_with fail
  exact bodyPost_ret (v := .tuple #[.agg #[.int .i64 0, .int .i64 0, .string ByteArray.empty, .slice none 0 0], .bool false]) (by simp [results, Tryz.results13, go_sem]; rfl) rfl ⟨rfl, unhide HB0⟩

set_option maxRecDepth 100000 in
set_option maxHeartbeats 1000000 in
theorem agree_no2 (op n : Int) (s : ByteArray) (a : Option Addr) (len cap : Nat) (op2 n2 : Int) (s2 : ByteArray) (a2 : Option Addr) (len2 cap2 : Nat) (w : World) (h4 : op2 = 4) (h1 : len2 ≠ 1) :
    Calls Tryz.prog 13 #[.agg #[.int .i64 op, .int .i64 n, .string s, .slice a len cap], .agg #[.int .i64 op2, .int .i64 n2, .string s2, .slice a2 len2 cap2]] w fun e w' => e = .returned (.tuple #[.agg #[.int .i64 0, .int .i64 0, .string ByteArray.empty, .slice none 0 0], .bool false]) ∧ Below w.heap.size w w' := by
  subst h4
  have hB0 : Below w.heap.size w (((w.alloc (.cells #[.int .i64 op, .int .i64 n, .string s, .slice a len cap] 28)).alloc (.cells #[.int .i64 4, .int .i64 n2, .string s2, .slice a2 len2 cap2] 28)).alloc (.cells #[.int .i64 0, .int .i64 0, .string ByteArray.empty, .slice none 0 0] 28)) := bt (bt (ab _) (ab _) (Nat.le_refl _)) (ab _) (Nat.le_refl _)
  have HB0 := hide hB0
  have hX : ZBox (((w.alloc (.cells #[.int .i64 op, .int .i64 n, .string s, .slice a len cap] 28)).alloc (.cells #[.int .i64 4, .int .i64 n2, .string s2, .slice a2 len2 cap2] 28)).alloc (.cells #[.int .i64 0, .int .i64 0, .string ByteArray.empty, .slice none 0 0] 28)) (w.heap.size + 1 + 1) := by
    have := ZBox.new ((w.alloc (.cells #[.int .i64 op, .int .i64 n, .string s, .slice a len cap] 28)).alloc (.cells #[.int .i64 4, .int .i64 n2, .string s2, .slice a2 len2 cap2] 28))
    rwa [heap_size_alloc, heap_size_alloc] at this
  have HX := hide hX
  obtain ⟨d0, d1, d2, d3, e0, e1, e2, e3⟩ := (unhide HX).facts
  clear hB0 hX
  have q1 : (((len2 : Nat) : Int) != 1) = true := by simp; omega
  go_enter Tryz.func13, Tryz.ntmps13
  go_wp2_with fail
  exact bodyPost_ret (v := .tuple #[.agg #[.int .i64 0, .int .i64 0, .string ByteArray.empty, .slice none 0 0], .bool false]) (by simp [results, Tryz.results13, go_sem]; rfl) rfl ⟨rfl, unhide HB0⟩

set_option maxRecDepth 100000 in
set_option maxHeartbeats 1000000 in
theorem agree_no3 (u : Tm) (op n : Int) (s : ByteArray) (a : Option Addr) (len cap : Nat) (op2 n2 : Int) (s2 : ByteArray) (a2 : Option Addr) (len2 cap2 : Nat) (w : World) (h4 : op2 = 4) (h1 : len2 = 1) (hl : Lies w 0 u (tmCells op2 n2 s2 a2 len2 cap2)) (hsz : u.size ≤ 2097152) (hok : okT u = false) :
    Calls Tryz.prog 13 #[.agg #[.int .i64 op, .int .i64 n, .string s, .slice a len cap], .agg #[.int .i64 op2, .int .i64 n2, .string s2, .slice a2 len2 cap2]] w fun e w' => e = .returned (.tuple #[.agg #[.int .i64 0, .int .i64 0, .string ByteArray.empty, .slice none 0 0], .bool false]) ∧ Below w.heap.size w w' := by
  subst h4 h1
  have h35 := hide (ok8 u 4 n2 s2 a2 1 cap2)
  rw [hok] at h35
  have hB0 : Below w.heap.size w (((w.alloc (.cells #[.int .i64 op, .int .i64 n, .string s, .slice a len cap] 28)).alloc (.cells #[.int .i64 4, .int .i64 n2, .string s2, .slice a2 1 cap2] 28)).alloc (.cells #[.int .i64 0, .int .i64 0, .string ByteArray.empty, .slice none 0 0] 28)) := bt (bt (ab _) (ab _) (Nat.le_refl _)) (ab _) (Nat.le_refl _)
  have HB0 := hide hB0
  have hX : ZBox (((w.alloc (.cells #[.int .i64 op, .int .i64 n, .string s, .slice a len cap] 28)).alloc (.cells #[.int .i64 4, .int .i64 n2, .string s2, .slice a2 1 cap2] 28)).alloc (.cells #[.int .i64 0, .int .i64 0, .string ByteArray.empty, .slice none 0 0] 28)) (w.heap.size + 1 + 1) := by
    have := ZBox.new ((w.alloc (.cells #[.int .i64 op, .int .i64 n, .string s, .slice a len cap] 28)).alloc (.cells #[.int .i64 4, .int .i64 n2, .string s2, .slice a2 1 cap2] 28))
    rwa [heap_size_alloc, heap_size_alloc] at this
  have HX := hide hX
  have HL := hide (hl.below hB0)
  obtain ⟨d0, d1, d2, d3, e0, e1, e2, e3⟩ := (unhide HX).facts
  clear hB0 hX hl hok
  go_enter Tryz.func13, Tryz.ntmps13
  go_wp2_with fail
  refine (unhide h35 _ (unhide HL) hsz).mono ?_
  rintro e w2 ⟨rfl, hb2⟩
  have HB2 := hide (bt (unhide HB0) hb2 (Nat.le_refl _))
  clear d0 d1 d2 d3 e0 e1 e2 e3
  obtain ⟨d0, d1, d2, d3, e0, e1, e2, e3⟩ := ((unhide HX).below hb2).facts
  clear hb2
  go_wp2_with fail
  exact bodyPost_ret (v := .tuple #[.agg #[.int .i64 0, .int .i64 0, .string ByteArray.empty, .slice none 0 0], .bool false]) (by simp [results, Tryz.results13, go_sem, d0, d1, d2, d3]; rfl) rfl ⟨rfl, set4_below (unhide HB2) (by omega)⟩

/-- Two boxes, with a term each. -/
def AgCut (w2 : World) (op n : Int) (s : ByteArray) (a : Option Addr) (len cap : Nat) (op3 n3 : Int) (s3 : ByteArray) (a3 : Option Addr) (len3 cap3 : Nat) (p q : Value) (wx : World) : Prop := ∃ b6 b7, p = .pointer (some ⟨b6, 0, none⟩) ∧ q = .pointer (some ⟨b7, 0, none⟩) ∧ b6 ≠ b7 ∧ (w2.heap.size ≤ b6 ∧ w2.heap.size ≤ b7) ∧ RowT 28 wx b6 op n s a len cap ∧ RowT 28 wx b7 op3 n3 s3 a3 len3 cap3 ∧ Below w2.heap.size w2 wx

theorem AgCut.one (w2 : World) (op n : Int) (s : ByteArray) (a : Option Addr) (len cap : Nat) (op3 n3 : Int) (s3 : ByteArray) (a3 : Option Addr) (len3 cap3 : Nat) : AgCut w2 op n s a len cap op3 n3 s3 a3 len3 cap3 (.pointer (some ⟨w2.heap.size, 0, none⟩)) (.pointer (some ⟨w2.heap.size + 1, 0, none⟩)) ((w2.alloc (.cells #[.int .i64 op, .int .i64 n, .string s, .slice a len cap] 28)).alloc (.cells #[.int .i64 op3, .int .i64 n3, .string s3, .slice a3 len3 cap3] 28)).drew := by
  have h2 := RowT.new 28 (w2.alloc (.cells #[.int .i64 op, .int .i64 n, .string s, .slice a len cap] 28)) op3 n3 s3 a3 len3 cap3
  rw [heap_size_alloc] at h2
  have h1 := (RowT.new 28 w2 op n s a len cap).below (ab (.cells #[.int .i64 op3, .int .i64 n3, .string s3, .slice a3 len3 cap3] 28))
  have hb := bt (ab (w := w2) (.cells #[.int .i64 op, .int .i64 n, .string s, .slice a len cap] 28)) (ab (.cells #[.int .i64 op3, .int .i64 n3, .string s3, .slice a3 len3 cap3] 28)) (Nat.le_refl _)
  exact ⟨_, _, rfl, rfl, by omega, ⟨Nat.le_refl _, by omega⟩, h1, h2, hb.drew⟩
theorem AgCut.two (w2 : World) (op n : Int) (s : ByteArray) (a : Option Addr) (len cap : Nat) (op3 n3 : Int) (s3 : ByteArray) (a3 : Option Addr) (len3 cap3 : Nat) : AgCut w2 op n s a len cap op3 n3 s3 a3 len3 cap3 (.pointer (some ⟨w2.heap.size + 1, 0, none⟩)) (.pointer (some ⟨w2.heap.size, 0, none⟩)) ((w2.alloc (.cells #[.int .i64 op3, .int .i64 n3, .string s3, .slice a3 len3 cap3] 28)).alloc (.cells #[.int .i64 op, .int .i64 n, .string s, .slice a len cap] 28)).drew := by
  have h2 := RowT.new 28 (w2.alloc (.cells #[.int .i64 op3, .int .i64 n3, .string s3, .slice a3 len3 cap3] 28)) op n s a len cap
  rw [heap_size_alloc] at h2
  have h1 := (RowT.new 28 w2 op3 n3 s3 a3 len3 cap3).below (ab (.cells #[.int .i64 op, .int .i64 n, .string s, .slice a len cap] 28))
  have hb := bt (ab (w := w2) (.cells #[.int .i64 op3, .int .i64 n3, .string s3, .slice a3 len3 cap3] 28)) (ab (.cells #[.int .i64 op, .int .i64 n, .string s, .slice a len cap] 28)) (Nat.le_refl _)
  exact ⟨_, _, rfl, rfl, by omega, ⟨by omega, Nat.le_refl _⟩, h2, h1, hb.drew⟩

theorem RowT.thaw {ty : TypeId} {w : World} {b : Nat} {op n : Int} {s : ByteArray} {a : Option Addr} {len cap : Nat} (h : RowT ty w b op n s a len cap) : w.frozen? ⟨b, 0, none⟩ = false ∧ w.frozen? ⟨b, 1, none⟩ = false ∧ w.frozen? ⟨b, 2, none⟩ = false ∧ w.frozen? ⟨b, 3, none⟩ = false :=
  ⟨frozen_of_row h, frozen_of_row h, frozen_of_row h, frozen_of_row h⟩

theorem share_op {w : World} {L : Nat} {t k x y : Tm} {op n : Int} {s : ByteArray} {a : Option Addr} {len cap : Nat} (h : Lies w L (pickT true (shareT t k)) (tmCells op n s a len cap)) (hs : shareT t k = .node 5 0 ByteArray.empty [x, y]) : op = 5 := by
  rw [hs] at h
  simp only [pickT, if_true, Lies, tmCells, List.cons.injEq, Value.int.injEq, true_and] at h
  obtain ⟨_, _, ⟨rfl, _⟩, _⟩ := h
  rfl
theorem zero_op {w : World} {L : Nat} {t : Tm} {op n : Int} {s : ByteArray} {a : Option Addr} {len cap : Nat} (h : Lies w L (pickT false t) (tmCells op n s a len cap)) : op = 0 := by
  simp only [pickT, Bool.false_eq_true, if_false, Lies, tmCells, List.cons.injEq, Value.int.injEq, true_and] at h
  obtain ⟨_, _, ⟨rfl, _⟩, _⟩ := h
  rfl

set_option maxRecDepth 100000 in
set_option maxHeartbeats 2000000 in
theorem agree_yes (t k : Tm) (op n : Int) (s : ByteArray) (a : Option Addr) (len cap : Nat) (op2 n2 : Int) (s2 : ByteArray) (a2 : Option Addr) (len2 cap2 : Nat) (w : World) (h4 : op2 = 4) (h1 : len2 = 1) (hl : Lies w 0 t (tmCells op n s a len cap)) (hl2 : Lies w 0 (.node 4 n2 s2 [k]) (tmCells op2 n2 s2 a2 len2 cap2)) (hsz : t.size + k.size ≤ 2097150) (hok : okT (.node 4 n2 s2 [k]) = true) :
    Calls Tryz.prog 13 #[.agg #[.int .i64 op, .int .i64 n, .string s, .slice a len cap], .agg #[.int .i64 op2, .int .i64 n2, .string s2, .slice a2 len2 cap2]] w fun e w' => ∃ op' n' s' a' len' cap', e = .returned (.tuple #[.agg #[.int .i64 op', .int .i64 n', .string s', .slice a' len' cap'], .bool (okT (shareT t k))]) ∧ Lies w' w.heap.size (pickT (okT (shareT t k)) (shareT t k)) (tmCells op' n' s' a' len' cap') ∧ Below w.heap.size w w' ∧ len' = cap' := by
  subst h4 h1
  have h35 := hide (ok8 (.node 4 n2 s2 [k]) 4 n2 s2 a2 1 cap2)
  rw [hok] at h35
  have hZ2 : (Tm.node 4 n2 s2 [k]).size ≤ 2097152 := by simp only [Tm.size, Tm.sizes]; omega
  obtain ⟨b, o, op3, n3, s3, a3, len3, cap3, rfl, _, hbl, k0, k1, k2, k3, hk⟩ : ∃ b o op3 n3 s3 a3 len3 cap3, a2 = some ⟨b, o, none⟩ ∧ True ∧ b < w.heap.size ∧ w.cell? ⟨b, o, none⟩ = some (.int .i64 op3) ∧ w.cell? ⟨b, o + 1, none⟩ = some (.int .i64 n3) ∧ w.cell? ⟨b, o + 2, none⟩ = some (.string s3) ∧ w.cell? ⟨b, o + 3, none⟩ = some (.slice a3 len3 cap3) ∧ Lies w 0 k (tmCells op3 n3 s3 a3 len3 cap3) := by
    have hx := hl2
    simp only [Lies, tmCells, List.cons.injEq, Value.slice.injEq, true_and, and_true] at hx
    obtain ⟨a9, c9, ⟨rfl, _, rfl⟩, _, _, hka⟩ := hx
    obtain ⟨b, o, op3, n3, s3, a3, len3, cap3, h1, _, h2, h3, h4, h5, h6, h7⟩ := hka.elem (k := 0) (by simp)
    simp only [Nat.zero_mul, Nat.add_zero] at h3 h4 h5 h6
    exact ⟨b, o, op3, n3, s3, a3, len3, cap3, h1, trivial, h2, h3, h4, h5, h6, h7⟩
  have HBF := hide (bf_calls k t op3 n3 s3 a3 len3 cap3 op n s a len cap)
  have H2A := hide (two23 5 (by decide) t k op n s a len cap op3 n3 s3 a3 len3 cap3)
  have H2B := hide (two23 5 (by decide) k t op3 n3 s3 a3 len3 cap3 op n s a len cap)
  have hB0 : Below w.heap.size w (((w.alloc (.cells #[.int .i64 op, .int .i64 n, .string s, .slice a len cap] 28)).alloc (.cells #[.int .i64 4, .int .i64 n2, .string s2, .slice (some ⟨b, o, none⟩) 1 cap2] 28)).alloc (.cells #[.int .i64 0, .int .i64 0, .string ByteArray.empty, .slice none 0 0] 28)) := bt (bt (ab _) (ab _) (Nat.le_refl _)) (ab _) (Nat.le_refl _)
  have HB0 := hide hB0
  have hX : ZBox (((w.alloc (.cells #[.int .i64 op, .int .i64 n, .string s, .slice a len cap] 28)).alloc (.cells #[.int .i64 4, .int .i64 n2, .string s2, .slice (some ⟨b, o, none⟩) 1 cap2] 28)).alloc (.cells #[.int .i64 0, .int .i64 0, .string ByteArray.empty, .slice none 0 0] 28)) (w.heap.size + 1 + 1) := by
    have := ZBox.new ((w.alloc (.cells #[.int .i64 op, .int .i64 n, .string s, .slice a len cap] 28)).alloc (.cells #[.int .i64 4, .int .i64 n2, .string s2, .slice (some ⟨b, o, none⟩) 1 cap2] 28))
    rwa [heap_size_alloc, heap_size_alloc] at this
  have HX := hide hX
  have HLU := hide (hl2.below hB0)
  have HLT := hide (hl.below hB0)
  have HLK := hide (hk.below hB0)
  have HRA : Hid (RowT 28 (((w.alloc (.cells #[.int .i64 op, .int .i64 n, .string s, .slice a len cap] 28)).alloc (.cells #[.int .i64 4, .int .i64 n2, .string s2, .slice (some ⟨b, o, none⟩) 1 cap2] 28)).alloc (.cells #[.int .i64 0, .int .i64 0, .string ByteArray.empty, .slice none 0 0] 28)) w.heap.size op n s a len cap) := ((RowT.new 28 w op n s a len cap).below (ab _)).below (ab _)
  have HRB : Hid (RowT 28 (((w.alloc (.cells #[.int .i64 op, .int .i64 n, .string s, .slice a len cap] 28)).alloc (.cells #[.int .i64 4, .int .i64 n2, .string s2, .slice (some ⟨b, o, none⟩) 1 cap2] 28)).alloc (.cells #[.int .i64 0, .int .i64 0, .string ByteArray.empty, .slice none 0 0] 28)) (w.heap.size + 1) 4 n2 s2 (some ⟨b, o, none⟩) 1 cap2) := by
    have := (RowT.new 28 (w.alloc (.cells #[.int .i64 op, .int .i64 n, .string s, .slice a len cap] 28)) 4 n2 s2 (some ⟨b, o, none⟩) 1 cap2).below (ab (.cells #[.int .i64 0, .int .i64 0, .string ByteArray.empty, .slice none 0 0] 28))
    rwa [heap_size_alloc] at this
  have HK := hide (And.intro (kpc hB0 k0) (And.intro (kpc hB0 k1) (And.intro (kpc hB0 k2) (kpc hB0 k3))))
  have HLT0 := hide hl
  have HLK0 := hide hk
  clear hl hl2 hk k0 k1 k2 k3 hX hok hB0
  have HBL := hide hbl
  clear hbl
  go_enter Tryz.func13, Tryz.ntmps13
  go_wp2_with fail
  refine (unhide h35 _ (unhide HLU) hZ2).mono ?_
  rintro e w2 ⟨rfl, hb2⟩
  have HB2 := hide (bt (unhide HB0) hb2 (Nat.le_refl _))
  have HX2 := hide ((unhide HX).below hb2)
  have HLT2 := hide ((unhide HLT).below hb2)
  have HLK2 := hide ((unhide HLK).below hb2)
  obtain ⟨c0, c1, c2, c3⟩ := ((unhide HRA).below hb2).facts
  obtain ⟨d0, d1, d2, d3⟩ := ((unhide HRB).below hb2).facts
  obtain ⟨k0, k1, k2, k3⟩ : _ ∧ _ ∧ _ ∧ _ := ⟨kpc hb2 (unhide HK).1, kpc hb2 (unhide HK).2.1, kpc hb2 (unhide HK).2.2.1, kpc hb2 (unhide HK).2.2.2⟩
  clear hb2 HB0 HX HLT HLK HLU HRA HRB HK h35
  have l0 := lt_of_cell c0
  have l1 := lt_of_cell d0
  have l2 := lt_of_cell k0
  have n0 := Nat.ne_of_lt l0
  have m0 := Ne.symm n0
  have n1 := Nat.ne_of_lt l1
  have m1 := Ne.symm n1
  have n2' := Nat.ne_of_lt l2
  have m2 := Ne.symm n2'
  go_wp2_with fail
  go_cut [6, 7] (fun p q wx => AgCut w2 op n s a len cap op3 n3 s3 a3 len3 cap3 p q wx)
  case first =>
    go_region
    · go_wp2_with fail
      go_meet
      exact AgCut.one w2 op n s a len cap op3 n3 s3 a3 len3 cap3
    · go_wp2_with fail
      go_meet
      exact AgCut.two w2 op n s a len cap op3 n3 s3 a3 len3 cap3
  case rest =>
    obtain ⟨b6, b7, rfl, rfl, hne, ⟨hg6, hg7⟩, hR6, hR7, hb3⟩ := hcut
    have HB3 := hide (bt (unhide HB2) hb3 (Nat.le_refl _))
    have HX3 := hide ((unhide HX2).below hb3)
    have HLT3 := hide ((unhide HLT2).below hb3)
    have HLK3 := hide ((unhide HLK2).below hb3)
    have HG6 := hide (Nat.lt_of_lt_of_le (lt_of_heap (unhide HX2)) hg6)
    have HG7 := hide (Nat.lt_of_lt_of_le (lt_of_heap (unhide HX2)) hg7)
    have HR6 := hide hR6
    have HR7 := hide hR7
    clear hb3 HB2 HX2 HLT2 HLK2 c0 c1 c2 c3 d0 d1 d2 d3 k0 k1 k2 k3 l0 l1 l2 n0 m0 n1 m1 n2' m2 hg6 hg7
    obtain ⟨c0, c1, c2, c3⟩ := hR6.facts
    obtain ⟨d0, d1, d2, d3⟩ := hR7.facts
    clear hR6 hR7
    go_wp2_with fail
    refine (unhide HBF _ (unhide HLK3) (unhide HLT3)).mono ?_
    rintro e w4 ⟨rfl, hb4⟩
    cases hbf : beforeB k t with
    | true =>
      have HB4 := hide (bt (unhide HB3) hb4 (Nat.le_refl _))
      have HX4 := hide ((unhide HX3).below hb4)
      have HLT4 := hide ((unhide HLT3).below hb4)
      have HLK4 := hide ((unhide HLK3).below hb4)
      have HR64 := hide ((unhide HR6).below hb4)
      have HR74 := hide ((unhide HR7).below hb4)
      clear c0 c1 c2 c3 d0 d1 d2 d3
      obtain ⟨c0, c1, c2, c3⟩ := ((unhide HR6).below hb4).facts
      obtain ⟨d0, d1, d2, d3⟩ := ((unhide HR7).below hb4).facts
      obtain ⟨c4, c5, c6, c7⟩ := (unhide HR64).thaw
      obtain ⟨d4, d5, d6, d7⟩ := (unhide HR74).thaw
      have hne' := hne.symm
      have HSH : Hid (shareT t k = .node 5 0 ByteArray.empty [k, t]) := by show _ = _; unfold shareT; rw [hbf]; rfl
      have hb9 : Below w.heap.size w ((((((((w4.setCell ⟨b6, 0, none⟩ (.int .i64 op3)).setCell ⟨b6, 1, none⟩ (.int .i64 n3)).setCell ⟨b6, 2, none⟩ (.string s3)).setCell ⟨b6, 3, none⟩ (.slice a3 len3 cap3)).setCell ⟨b7, 0, none⟩ (.int .i64 op)).setCell ⟨b7, 1, none⟩ (.int .i64 n)).setCell ⟨b7, 2, none⟩ (.string s)).setCell ⟨b7, 3, none⟩ (.slice a len cap)) := set4_below (set4_below (unhide HB4) (by have := unhide HG6; omega)) (by have := unhide HG7; omega)
      have hx9 : ZBox ((((((((w4.setCell ⟨b6, 0, none⟩ (.int .i64 op3)).setCell ⟨b6, 1, none⟩ (.int .i64 n3)).setCell ⟨b6, 2, none⟩ (.string s3)).setCell ⟨b6, 3, none⟩ (.slice a3 len3 cap3)).setCell ⟨b7, 0, none⟩ (.int .i64 op)).setCell ⟨b7, 1, none⟩ (.int .i64 n)).setCell ⟨b7, 2, none⟩ (.string s)).setCell ⟨b7, 3, none⟩ (.slice a len cap)) (w.heap.size + 1 + 1) := by
        have e1 := set4_heap (((((w4.setCell ⟨b6, 0, none⟩ (.int .i64 op3)).setCell ⟨b6, 1, none⟩ (.int .i64 n3)).setCell ⟨b6, 2, none⟩ (.string s3)).setCell ⟨b6, 3, none⟩ (.slice a3 len3 cap3))) b7 (.int .i64 op) (.int .i64 n) (.string s) (.slice a len cap) (w.heap.size + 1 + 1) (by have := unhide HG7; omega)
        have e2 := set4_heap w4 b6 (.int .i64 op3) (.int .i64 n3) (.string s3) (.slice a3 len3 cap3) (w.heap.size + 1 + 1) (by have := unhide HG6; omega)
        exact (e1.trans e2).trans (unhide HX4)
      clear hb4 HB3 HX3 HLT3 HLK3 HR64 HR74
      go_wp2_with fail
      clear HX4 HB4
      have HX4 := hide hx9
      have HB4 := hide hb9
      have HLT4 := hide ((unhide HLT0).below hb9)
      have HLK4 := hide ((unhide HLK0).below hb9)
      clear hx9 hb9
      generalize hW9 : ((((((((w4.setCell ⟨b6, 0, none⟩ (.int .i64 op3)).setCell ⟨b6, 1, none⟩ (.int .i64 n3)).setCell ⟨b6, 2, none⟩ (.string s3)).setCell ⟨b6, 3, none⟩ (.slice a3 len3 cap3)).setCell ⟨b7, 0, none⟩ (.int .i64 op)).setCell ⟨b7, 1, none⟩ (.int .i64 n)).setCell ⟨b7, 2, none⟩ (.string s)).setCell ⟨b7, 3, none⟩ (.slice a len cap)) = W9 at *
      clear hW9 c0 c1 c2 c3 d0 d1 d2 d3 c4 c5 c6 c7 d4 d5 d6 d7
      refine (unhide H2B _ (unhide HLK4) (unhide HLT4) (by omega)).mono ?_
      rintro e w5 ⟨op', n', s', a', len', cap', rfl, hL5, hb5, htt⟩
      have hmade : madeT 5 [k, t] = pickT (okT (shareT t k)) (shareT t k) := by rw [unhide HSH]; rfl
      rw [hmade] at hL5
      have HGX : Hid (w.heap.size + 1 + 1 < W9.heap.size) := lt_of_heap (unhide HX4)
      clear hmade
      cases hokS : okT (shareT t k) with
      | true =>
        have hL5' := hL5
        rw [hokS] at hL5'
        obtain rfl : op' = 5 := share_op hL5' (unhide HSH)
        have HOK := hide hokS
        clear hokS hL5'
        have HTT := hide htt
        have HB5 := hide (bt (bt (unhide HB4) hb5 (Nat.le_refl _)) (ab (.cells #[.int .i64 5, .int .i64 n', .string s', .slice a' len' cap'] 28)) (Nat.le_refl _))
        have HL5 := hide (hL5.below (ab (.cells #[.int .i64 5, .int .i64 n', .string s', .slice a' len' cap'] 28)))
        obtain ⟨p0, p1, p2, p3, q0, q1, q2, q3⟩ := (((unhide HX4).below hb5).below (ab (.cells #[.int .i64 5, .int .i64 n', .string s', .slice a' len' cap'] 28))).facts
        obtain ⟨r0, r1, r2, r3⟩ := (RowT.new 28 w5 5 n' s' a' len' cap').facts
        have hn5 : w5.heap.size ≠ w.heap.size + 1 + 1 := by have := lt_of_heap ((unhide HX4).below hb5); omega
        have hm5 := hn5.symm
        clear hb5 hL5 htt 
        go_wp2_with fail
        go_region
        go_wp2_with fail
        exact bodyPost_ret (v := .tuple #[.agg #[.int .i64 5, .int .i64 n', .string s', .slice a' len' cap'], .bool true]) (by simp [results, Tryz.results13, go_sem, p0, p1, p2, p3]) rfl ⟨_, n', s', a', len', cap', by rw [unhide HOK], Lies.below (set4_lies (unhide HL5) (unhide HGX) w.heap.size (by have := unhide HGX; omega)) ((Below.refl _ _).drew), (set4_below (unhide HB5) (by omega)).drew, unhide HTT⟩
      | false =>
        have hL5' := hL5
        rw [hokS] at hL5'
        obtain rfl : op' = 0 := zero_op hL5'
        have HOK := hide hokS
        clear hokS hL5'
        have HTT := hide htt
        have HB5 := hide (bt (bt (unhide HB4) hb5 (Nat.le_refl _)) (ab (.cells #[.int .i64 0, .int .i64 n', .string s', .slice a' len' cap'] 28)) (Nat.le_refl _))
        have HL5 := hide (hL5.below (ab (.cells #[.int .i64 0, .int .i64 n', .string s', .slice a' len' cap'] 28)))
        obtain ⟨p0, p1, p2, p3, q0, q1, q2, q3⟩ := (((unhide HX4).below hb5).below (ab (.cells #[.int .i64 0, .int .i64 n', .string s', .slice a' len' cap'] 28))).facts
        obtain ⟨r0, r1, r2, r3⟩ := (RowT.new 28 w5 0 n' s' a' len' cap').facts
        have hn5 : w5.heap.size ≠ w.heap.size + 1 + 1 := by have := lt_of_heap ((unhide HX4).below hb5); omega
        have hm5 := hn5.symm
        clear hb5 hL5 htt 
        go_wp2_with fail
        go_region
        go_wp2_with fail
        exact bodyPost_ret (v := .tuple #[.agg #[.int .i64 0, .int .i64 n', .string s', .slice a' len' cap'], .bool false]) (by simp [results, Tryz.results13, go_sem, p0, p1, p2, p3]) rfl ⟨_, n', s', a', len', cap', by rw [unhide HOK], Lies.below (set4_lies (unhide HL5) (unhide HGX) w.heap.size (by have := unhide HGX; omega)) ((Below.refl _ _).drew), (set4_below (unhide HB5) (by omega)).drew, unhide HTT⟩
    | false =>
      have HB4 := hide (bt (unhide HB3) hb4 (Nat.le_refl _))
      have HX4 := hide ((unhide HX3).below hb4)
      have HLT4 := hide ((unhide HLT3).below hb4)
      have HLK4 := hide ((unhide HLK3).below hb4)
      obtain ⟨c0, c1, c2, c3⟩ := ((unhide HR6).below hb4).facts
      obtain ⟨d0, d1, d2, d3⟩ := ((unhide HR7).below hb4).facts
      have HSH : Hid (shareT t k = .node 5 0 ByteArray.empty [t, k]) := by show _ = _; unfold shareT; rw [hbf]; rfl
      clear hb4 HB3 HX3 HLT3 HLK3
      go_wp2_with fail
      refine (unhide H2A _ (unhide HLT4) (unhide HLK4) (by omega)).mono ?_
      rintro e w5 ⟨op', n', s', a', len', cap', rfl, hL5, hb5, htt⟩
      have hmade : madeT 5 [t, k] = pickT (okT (shareT t k)) (shareT t k) := by rw [unhide HSH]; rfl
      rw [hmade] at hL5
      have HGX : Hid (w.heap.size + 1 + 1 < w4.heap.size) := lt_of_heap (unhide HX4)
      clear hmade
      cases hokS : okT (shareT t k) with
      | true =>
        have hL5' := hL5
        rw [hokS] at hL5'
        obtain rfl : op' = 5 := share_op hL5' (unhide HSH)
        have HOK := hide hokS
        clear hokS hL5'
        have HTT := hide htt
        have HB5 := hide (bt (bt (unhide HB4) hb5 (Nat.le_refl _)) (ab (.cells #[.int .i64 5, .int .i64 n', .string s', .slice a' len' cap'] 28)) (Nat.le_refl _))
        have HL5 := hide (hL5.below (ab (.cells #[.int .i64 5, .int .i64 n', .string s', .slice a' len' cap'] 28)))
        obtain ⟨p0, p1, p2, p3, q0, q1, q2, q3⟩ := (((unhide HX4).below hb5).below (ab (.cells #[.int .i64 5, .int .i64 n', .string s', .slice a' len' cap'] 28))).facts
        obtain ⟨r0, r1, r2, r3⟩ := (RowT.new 28 w5 5 n' s' a' len' cap').facts
        have hn5 : w5.heap.size ≠ w.heap.size + 1 + 1 := by have := lt_of_heap ((unhide HX4).below hb5); omega
        have hm5 := hn5.symm
        clear hb5 hL5 htt c0 c1 c2 c3 d0 d1 d2 d3
        go_wp2_with fail
        go_region
        go_wp2_with fail
        exact bodyPost_ret (v := .tuple #[.agg #[.int .i64 5, .int .i64 n', .string s', .slice a' len' cap'], .bool true]) (by simp [results, Tryz.results13, go_sem, p0, p1, p2, p3]) rfl ⟨_, n', s', a', len', cap', by rw [unhide HOK], Lies.below (set4_lies (unhide HL5) (unhide HGX) w.heap.size (by have := unhide HGX; omega)) ((Below.refl _ _).drew), (set4_below (unhide HB5) (by omega)).drew, unhide HTT⟩
      | false =>
        have hL5' := hL5
        rw [hokS] at hL5'
        obtain rfl : op' = 0 := zero_op hL5'
        have HOK := hide hokS
        clear hokS hL5'
        have HTT := hide htt
        have HB5 := hide (bt (bt (unhide HB4) hb5 (Nat.le_refl _)) (ab (.cells #[.int .i64 0, .int .i64 n', .string s', .slice a' len' cap'] 28)) (Nat.le_refl _))
        have HL5 := hide (hL5.below (ab (.cells #[.int .i64 0, .int .i64 n', .string s', .slice a' len' cap'] 28)))
        obtain ⟨p0, p1, p2, p3, q0, q1, q2, q3⟩ := (((unhide HX4).below hb5).below (ab (.cells #[.int .i64 0, .int .i64 n', .string s', .slice a' len' cap'] 28))).facts
        obtain ⟨r0, r1, r2, r3⟩ := (RowT.new 28 w5 0 n' s' a' len' cap').facts
        have hn5 : w5.heap.size ≠ w.heap.size + 1 + 1 := by have := lt_of_heap ((unhide HX4).below hb5); omega
        have hm5 := hn5.symm
        clear hb5 hL5 htt c0 c1 c2 c3 d0 d1 d2 d3
        go_wp2_with fail
        go_region
        go_wp2_with fail
        exact bodyPost_ret (v := .tuple #[.agg #[.int .i64 0, .int .i64 n', .string s', .slice a' len' cap'], .bool false]) (by simp [results, Tryz.results13, go_sem, p0, p1, p2, p3]) rfl ⟨_, n', s', a', len', cap', by rw [unhide HOK], Lies.below (set4_lies (unhide HL5) (unhide HGX) w.heap.size (by have := unhide HGX; omega)) ((Below.refl _ _).drew), (set4_below (unhide HB5) (by omega)).drew, unhide HTT⟩

/-- spec.Agree at whatever two terms. -/
theorem agree_calls (t u : Tm) (op n : Int) (s : ByteArray) (a : Option Addr) (len cap : Nat) (op2 n2 : Int) (s2 : ByteArray) (a2 : Option Addr) (len2 cap2 : Nat) (w : World) (hl : Lies w 0 t (tmCells op n s a len cap)) (hl2 : Lies w 0 u (tmCells op2 n2 s2 a2 len2 cap2)) (hsz : t.size + u.size ≤ 2097150) :
    Calls Tryz.prog 13 #[.agg #[.int .i64 op, .int .i64 n, .string s, .slice a len cap], .agg #[.int .i64 op2, .int .i64 n2, .string s2, .slice a2 len2 cap2]] w fun e w' => ∃ op' n' s' a' len' cap', e = .returned (.tuple #[.agg #[.int .i64 op', .int .i64 n', .string s', .slice a' len' cap'], .bool (agreeB t u)]) ∧ Lies w' w.heap.size (agreeT t u) (tmCells op' n' s' a' len' cap') ∧ Below w.heap.size w w' ∧ len' = cap' := by
  have hzero : agreeB t u = false → agreeT t u = .node 0 0 ByteArray.empty [] := fun h => by
    obtain ⟨o1, n1, s1, ks⟩ := u
    match ks with
    | [] => rfl
    | [k] => simp only [agreeT, h]; rfl
    | _ :: _ :: _ => rfl
  have hno : agreeB t u = false → (Calls Tryz.prog 13 #[.agg #[.int .i64 op, .int .i64 n, .string s, .slice a len cap], .agg #[.int .i64 op2, .int .i64 n2, .string s2, .slice a2 len2 cap2]] w fun e w' => e = .returned (.tuple #[.agg #[.int .i64 0, .int .i64 0, .string ByteArray.empty, .slice none 0 0], .bool false]) ∧ Below w.heap.size w w') → Calls Tryz.prog 13 #[.agg #[.int .i64 op, .int .i64 n, .string s, .slice a len cap], .agg #[.int .i64 op2, .int .i64 n2, .string s2, .slice a2 len2 cap2]] w fun e w' => ∃ op' n' s' a' len' cap', e = .returned (.tuple #[.agg #[.int .i64 op', .int .i64 n', .string s', .slice a' len' cap'], .bool (agreeB t u)]) ∧ Lies w' w.heap.size (agreeT t u) (tmCells op' n' s' a' len' cap') ∧ Below w.heap.size w w' ∧ len' = cap' := fun h hc => by
    rw [h, hzero h]
    exact hc.mono fun e w' ⟨he, hb⟩ => ⟨0, 0, ByteArray.empty, none, 0, 0, he, zero_lies _ _, hb, rfl⟩
  obtain ⟨o1, n1, s1, ks⟩ := u
  have hx := hl2
  simp only [Lies, tmCells, List.cons.injEq, Value.int.injEq, Value.string.injEq, Value.slice.injEq, true_and, and_true] at hx
  obtain ⟨a9, c9, ⟨rfl, rfl, rfl, _, rfl, _⟩, _⟩ := hx
  by_cases h4 : op2 = 4
  · by_cases h1 : ks.length = 1
    · obtain ⟨k, rfl⟩ : ∃ k, ks = [k] := by
        match ks, h1 with
        | [k], _ => exact ⟨k, rfl⟩
      subst h4
      simp only [Tm.size, Tm.sizes] at hsz
      cases hok : okT (.node 4 n2 s2 [k]) with
      | true =>
        have hag : agreeB t (.node 4 n2 s2 [k]) = okT (shareT t k) := by simp [agreeB, hok]
        rw [show agreeT t (.node 4 n2 s2 [k]) = pickT (agreeB t (.node 4 n2 s2 [k])) (shareT t k) from rfl, hag]
        exact agree_yes t k op n s a len cap 4 n2 s2 a2 _ cap2 w rfl rfl hl hl2 (by omega) hok
      | false => exact hno (by simp [agreeB, hok]) (agree_no3 _ op n s a len cap 4 n2 s2 a2 _ cap2 w rfl rfl hl2 (by simp only [Tm.size, Tm.sizes]; omega) hok)
    · refine hno ?_ (agree_no2 op n s a len cap op2 n2 s2 a2 _ cap2 w h4 h1)
      match ks, h1 with
      | [], _ => rfl
      | _ :: _ :: _, _ => rfl
  · refine hno ?_ (agree_no1 op n s a len cap op2 n2 s2 a2 _ cap2 w h4)
    match ks with
    | [] => rfl
    | [k] => simp [agreeB, h4]
    | _ :: _ :: _ => rfl

theorem and255 (x : Int) : 0 ≤ bits .and .i64 x 255 ∧ bits .and .i64 x 255 < 256 := by
  have h : (BitVec.ofInt 64 x &&& BitVec.ofInt 64 255).toNat ≤ 255 := by
    rw [BitVec.toNat_and]
    exact Nat.and_le_right
  have e : bits .and .i64 x 255 = IntKind.i64.wrap ((BitVec.ofInt 64 x &&& BitVec.ofInt 64 255).toNat : Int) := rfl
  rw [e, IntKind.wrap_i64]
  omega

theorem set_row {w : World} {b o : Nat} {C : Array Value} {t : TypeId} {fr : Nat × Nat} (v : Value) (h : w.heap[b]? = some (.cells C t fr)) : (w.setCell ⟨b, o, none⟩ v).heap[b]? = some (.cells (C.setIfInBounds o v) t fr) := by
  simp only [World.setCell, Array.getElem?_modify]
  simp [h]

/-- The bytes of a slice, in blocks below c. -/
def Bytes (w : World) (c : Nat) (a : Option Addr) (len : Nat) : Prop := ∀ k, k < len → ∃ b o z, a = some ⟨b, o, none⟩ ∧ b < c ∧ w.cell? ⟨b, o + k, none⟩ = some (.int .u8 z) ∧ 0 ≤ z ∧ z < 256
theorem Bytes.only {w w' : World} {c : Nat} {a : Option Addr} {len : Nat} (h : Bytes w c a len) (ho : Only [c] w w') : Bytes w' c a len := fun k hk => by
  obtain ⟨b, o, z, h1, h2, h3, h4⟩ := h k hk
  exact ⟨b, o, z, h1, h2, (World.cell?_of_block (ho.block b (lt_of_cell h3) (by simp; omega))).trans h3, h4⟩
theorem setCell_only (w : World) (c o : Nat) (v : Value) : Only [c] w (w.setCell ⟨c, o, none⟩ v) := (Only.refl _ _).set (by simp) v
theorem Only.drewN {f : List Nat} {w v : World} (h : Only f w v) (k : Nat) : Only f w (v.drewN k) := ⟨h.os, h.tape, h.output, h.size, h.block⟩

def belowB (n x : Int) : Prop := (n ≤ 0 → x = 0) ∧ (0 < n → 0 ≤ x ∧ x < n)
theorem belowB_mod (n x : Int) (h : 0 < n) : belowB n (x % n) := ⟨fun h' => by omega, fun _ => ⟨Int.emod_nonneg _ (by omega), Int.emod_lt_of_pos _ h⟩⟩

end Go.Proofs.YtafoonabmijcdaaGreatDoor
