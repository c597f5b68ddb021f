
/- The walk of spec.Reply: the reply and true, or zero and false; nothing that was there is written. -/
import Derived.Test.YtmklgikbajhcpaaGreatDoorRa
import Derived.Deep.RegionHeld3
import Derived.Deep.RegionWith
import Derived.Deep.DeepCutAuto
namespace Go.Proofs.YtmklgikbajhcpaaGreatDoor
open Go.RowKit Go.Deep

set_option maxRecDepth 100000 in
set_option maxHeartbeats 2000000 in
theorem replyS_no (t u ky ce : Tm) (op n : Int) (s : ByteArray) (a : Option Addr) (len cap : Nat) (op2 n2 : Int) (s2 : ByteArray) (a2 : Option Addr) (len2 cap2 : Nat) (op5 n5 : Int) (s5 : ByteArray) (a5 : Option Addr) (len5 cap5 : Nat) (op6 n6 : Int) (s6 : ByteArray) (a6 : Option Addr) (len6 cap6 : Nat) (w : World) (hl : Lies w 0 t (tmCells op n s a len cap)) (hl2 : Lies w 0 u (tmCells op2 n2 s2 a2 len2 cap2)) (hl5 : Lies w 0 ky (tmCells op5 n5 s5 a5 len5 cap5)) (hl6 : Lies w 0 ce (tmCells op6 n6 s6 a6 len6 cap6)) (hsz : t.size + u.size + ky.size + ce.size ≤ 1100000) (hag : agreeB t u = false) :
    Calls Tryz.prog 17 #[.agg #[.int .i64 op, .int .i64 n, .string s, .slice a len cap], .agg #[.int .i64 op2, .int .i64 n2, .string s2, .slice a2 len2 cap2], .agg #[.int .i64 op5, .int .i64 n5, .string s5, .slice a5 len5 cap5], .agg #[.int .i64 op6, .int .i64 n6, .string s6, .slice a6 len6 cap6]] w fun e w' => e = .returned (.tuple #[.agg #[.int .i64 0, .int .i64 0, .string ByteArray.empty, .slice none 0 0], .bool false]) ∧ Below w.heap.size w w' := by
  have h15 := hide (fun V h h2 => agree_calls t u op n s a len cap op2 n2 s2 a2 len2 cap2 V h h2 (by omega))
  rw [hag] at h15
  have hB0 : Below w.heap.size w (((((w.alloc (.cells #[.int .i64 op, .int .i64 n, .string s, .slice a len cap] 29)).alloc (.cells #[.int .i64 op2, .int .i64 n2, .string s2, .slice a2 len2 cap2] 29)).alloc (.cells #[.int .i64 op5, .int .i64 n5, .string s5, .slice a5 len5 cap5] 29)).alloc (.cells #[.int .i64 op6, .int .i64 n6, .string s6, .slice a6 len6 cap6] 29)).alloc (.cells #[.int .i64 0, .int .i64 0, .string ByteArray.empty, .slice none 0 0] 29)) := bt (bt (bt (bt (ab _) (ab _) (Nat.le_refl _)) (ab _) (Nat.le_refl _)) (ab _) (Nat.le_refl _)) (ab _) (Nat.le_refl _)
  have HX : Hid (ZBox (((((w.alloc (.cells #[.int .i64 op, .int .i64 n, .string s, .slice a len cap] 29)).alloc (.cells #[.int .i64 op2, .int .i64 n2, .string s2, .slice a2 len2 cap2] 29)).alloc (.cells #[.int .i64 op5, .int .i64 n5, .string s5, .slice a5 len5 cap5] 29)).alloc (.cells #[.int .i64 op6, .int .i64 n6, .string s6, .slice a6 len6 cap6] 29)).alloc (.cells #[.int .i64 0, .int .i64 0, .string ByteArray.empty, .slice none 0 0] 29)) (w.heap.size + 1 + 1 + 1 + 1)) := by
    have := ZBox.new ((((w.alloc (.cells #[.int .i64 op, .int .i64 n, .string s, .slice a len cap] 29)).alloc (.cells #[.int .i64 op2, .int .i64 n2, .string s2, .slice a2 len2 cap2] 29)).alloc (.cells #[.int .i64 op5, .int .i64 n5, .string s5, .slice a5 len5 cap5] 29)).alloc (.cells #[.int .i64 op6, .int .i64 n6, .string s6, .slice a6 len6 cap6] 29))
    rwa [heap_size_alloc, heap_size_alloc, heap_size_alloc, heap_size_alloc] at this
  have HA0 : Hid (RowT 29 (((((w.alloc (.cells #[.int .i64 op, .int .i64 n, .string s, .slice a len cap] 29)).alloc (.cells #[.int .i64 op2, .int .i64 n2, .string s2, .slice a2 len2 cap2] 29)).alloc (.cells #[.int .i64 op5, .int .i64 n5, .string s5, .slice a5 len5 cap5] 29)).alloc (.cells #[.int .i64 op6, .int .i64 n6, .string s6, .slice a6 len6 cap6] 29)).alloc (.cells #[.int .i64 0, .int .i64 0, .string ByteArray.empty, .slice none 0 0] 29)) (w.heap.size) op n s a len cap) := by
    have := (((((RowT.new 29 w op n s a len cap).below (ab (.cells #[.int .i64 op2, .int .i64 n2, .string s2, .slice a2 len2 cap2] 29))).below (ab (.cells #[.int .i64 op5, .int .i64 n5, .string s5, .slice a5 len5 cap5] 29))).below (ab (.cells #[.int .i64 op6, .int .i64 n6, .string s6, .slice a6 len6 cap6] 29))).below (ab (.cells #[.int .i64 0, .int .i64 0, .string ByteArray.empty, .slice none 0 0] 29)))
    exact this
  have HA1 : Hid (RowT 29 (((((w.alloc (.cells #[.int .i64 op, .int .i64 n, .string s, .slice a len cap] 29)).alloc (.cells #[.int .i64 op2, .int .i64 n2, .string s2, .slice a2 len2 cap2] 29)).alloc (.cells #[.int .i64 op5, .int .i64 n5, .string s5, .slice a5 len5 cap5] 29)).alloc (.cells #[.int .i64 op6, .int .i64 n6, .string s6, .slice a6 len6 cap6] 29)).alloc (.cells #[.int .i64 0, .int .i64 0, .string ByteArray.empty, .slice none 0 0] 29)) (w.heap.size + 1) op2 n2 s2 a2 len2 cap2) := by
    have := ((((RowT.new 29 (w.alloc (.cells #[.int .i64 op, .int .i64 n, .string s, .slice a len cap] 29)) op2 n2 s2 a2 len2 cap2).below (ab (.cells #[.int .i64 op5, .int .i64 n5, .string s5, .slice a5 len5 cap5] 29))).below (ab (.cells #[.int .i64 op6, .int .i64 n6, .string s6, .slice a6 len6 cap6] 29))).below (ab (.cells #[.int .i64 0, .int .i64 0, .string ByteArray.empty, .slice none 0 0] 29)))
    rwa [heap_size_alloc] at this
  have HA2 : Hid (RowT 29 (((((w.alloc (.cells #[.int .i64 op, .int .i64 n, .string s, .slice a len cap] 29)).alloc (.cells #[.int .i64 op2, .int .i64 n2, .string s2, .slice a2 len2 cap2] 29)).alloc (.cells #[.int .i64 op5, .int .i64 n5, .string s5, .slice a5 len5 cap5] 29)).alloc (.cells #[.int .i64 op6, .int .i64 n6, .string s6, .slice a6 len6 cap6] 29)).alloc (.cells #[.int .i64 0, .int .i64 0, .string ByteArray.empty, .slice none 0 0] 29)) (w.heap.size + 1 + 1) op5 n5 s5 a5 len5 cap5) := by
    have := (((RowT.new 29 ((w.alloc (.cells #[.int .i64 op, .int .i64 n, .string s, .slice a len cap] 29)).alloc (.cells #[.int .i64 op2, .int .i64 n2, .string s2, .slice a2 len2 cap2] 29)) op5 n5 s5 a5 len5 cap5).below (ab (.cells #[.int .i64 op6, .int .i64 n6, .string s6, .slice a6 len6 cap6] 29))).below (ab (.cells #[.int .i64 0, .int .i64 0, .string ByteArray.empty, .slice none 0 0] 29)))
    rwa [heap_size_alloc, heap_size_alloc] at this
  have HA3 : Hid (RowT 29 (((((w.alloc (.cells #[.int .i64 op, .int .i64 n, .string s, .slice a len cap] 29)).alloc (.cells #[.int .i64 op2, .int .i64 n2, .string s2, .slice a2 len2 cap2] 29)).alloc (.cells #[.int .i64 op5, .int .i64 n5, .string s5, .slice a5 len5 cap5] 29)).alloc (.cells #[.int .i64 op6, .int .i64 n6, .string s6, .slice a6 len6 cap6] 29)).alloc (.cells #[.int .i64 0, .int .i64 0, .string ByteArray.empty, .slice none 0 0] 29)) (w.heap.size + 1 + 1 + 1) op6 n6 s6 a6 len6 cap6) := by
    have := ((RowT.new 29 (((w.alloc (.cells #[.int .i64 op, .int .i64 n, .string s, .slice a len cap] 29)).alloc (.cells #[.int .i64 op2, .int .i64 n2, .string s2, .slice a2 len2 cap2] 29)).alloc (.cells #[.int .i64 op5, .int .i64 n5, .string s5, .slice a5 len5 cap5] 29)) op6 n6 s6 a6 len6 cap6).below (ab (.cells #[.int .i64 0, .int .i64 0, .string ByteArray.empty, .slice none 0 0] 29)))
    rwa [heap_size_alloc, heap_size_alloc, heap_size_alloc] at this
  have HL0 := hide (hl.below hB0)
  have HL1 := hide (hl2.below hB0)
  have HL2 := hide (hl5.below hB0)
  have HL3 := hide (hl6.below hB0)
  have HB0 := hide hB0
  obtain ⟨c0, c1, c2, c3⟩ := (unhide HA0).facts
  obtain ⟨d0, d1, d2, d3⟩ := (unhide HA1).facts
  clear hl hl2 hl5 hl6 hsz hB0 hag
  go_enter Tryz.func17, Tryz.ntmps17
  go_wp2_with fail
  refine (unhide h15 _ (unhide HL0) (unhide HL1)).mono ?_
  rintro e w2 ⟨op3, n3, s3, a3, len3, cap3, rfl, hL3, hb2, -⟩
  have HB2 := hide (bt (unhide HB0) hb2 (Nat.le_refl _))
  have HX2 := hide ((unhide HX).below hb2)
  clear c0 c1 c2 c3 d0 d1 d2 d3 hb2 hL3
  have hlt := lt_of_heap (unhide HX2)
  have hne := Nat.ne_of_lt hlt
  have hne' := Ne.symm hne
  obtain ⟨d0, d1, d2, d3, e0, e1, e2, e3⟩ := (unhide HX2).facts
  go_wp2_with fail
  obtain ⟨f0, f1, f2, f3⟩ := ((RowT.fill (ty := 29) (show RowT 29 w2 (w.heap.size + 1 + 1 + 1 + 1) 0 0 ByteArray.empty none 0 0 from unhide HX2) 0 0 ⟨#[]⟩ none 0 0).below (ab (.cells #[.int .i64 op3, .int .i64 n3, .string s3, .slice a3 len3 cap3] 29))).facts
  have hS := set4_below (g := w.heap.size + 1 + 1 + 1 + 1) (x0 := .int .i64 0) (x1 := .int .i64 0) (x2 := .string ⟨#[]⟩) (x3 := .slice none 0 0) (unhide HB2) (by omega)
  exact bodyPost_ret (v := .tuple #[.agg #[.int .i64 0, .int .i64 0, .string ByteArray.empty, .slice none 0 0], .bool false]) (by simp [results, Tryz.results17, go_sem, f0, f1, f2, f3]; try rfl) rfl ⟨rfl, hS.alloc hS.size _⟩

set_option maxRecDepth 100000 in
set_option maxHeartbeats 16000000 in
theorem replyS_core (t u ky ce PT KT BT GT QT ET DT XT SH TT : Tm) (OB : Bool) (op n : Int) (s : ByteArray) (a : Option Addr) (len cap : Nat) (op2 n2 : Int) (s2 : ByteArray) (a2 : Option Addr) (len2 cap2 : Nat) (op5 n5 : Int) (s5 : ByteArray) (a5 : Option Addr) (len5 cap5 : Nat) (op6 n6 : Int) (s6 : ByteArray) (a6 : Option Addr) (len6 cap6 : Nat) (w : World) (hl : Lies w 0 t (tmCells op n s a len cap)) (hl2 : Lies w 0 u (tmCells op2 n2 s2 a2 len2 cap2)) (hl5 : Lies w 0 ky (tmCells op5 n5 s5 a5 len5 cap5)) (hl6 : Lies w 0 ce (tmCells op6 n6 s6 a6 len6 cap6))
    (h150 : ∀ V : World, Lies V 0 t (tmCells op n s a len cap) → Lies V 0 u (tmCells op2 n2 s2 a2 len2 cap2) → Calls Tryz.prog 73 #[.agg #[.int .i64 op, .int .i64 n, .string s, .slice a len cap], .agg #[.int .i64 op2, .int .i64 n2, .string s2, .slice a2 len2 cap2]] V fun e w' => ∃ op' n' s' a' len' cap', e = .returned (.tuple #[.agg #[.int .i64 op', .int .i64 n', .string s', .slice a' len' cap'], .bool true]) ∧ Lies w' V.heap.size SH (tmCells op' n' s' a' len' cap') ∧ Below V.heap.size V w' ∧ len' = cap')
    (hpo : ∀ (w : World) (L : Nat) (op n : Int) (s : ByteArray) (a : Option Addr) (len cap : Nat), Lies w L XT (tmCells op n s a len cap) → (op == 3) = OB) (htl : ∀ v : World, Lies v 0 TT (tmCells 2 0 (⟨#[114, 101, 112, 108, 121]⟩ : ByteArray) none 0 0))
    (cPub0 : ∀ (op n : Int) (s : ByteArray) (a : Option Addr) (len cap : Nat) (V : World), Lies V 0 t (tmCells op n s a len cap) → Calls Tryz.prog 61 #[.agg #[.int .i64 op, .int .i64 n, .string s, .slice a len cap]] V fun e w' => ∃ op' n' s' a' len' cap', e = .returned (.agg #[.int .i64 op', .int .i64 n', .string s', .slice a' len' cap']) ∧ Lies w' V.heap.size PT (tmCells op' n' s' a' len' cap') ∧ Below V.heap.size V w' ∧ len' = cap') (cKey0 : ∀ (op n : Int) (s : ByteArray) (a : Option Addr) (len cap : Nat) (V : World), Lies V 0 SH (tmCells op n s a len cap) → Calls Tryz.prog 77 #[.agg #[.int .i64 op, .int .i64 n, .string s, .slice a len cap], .int .i64 0] V fun e w' => ∃ op' n' s' a' len' cap', e = .returned (.agg #[.int .i64 op', .int .i64 n', .string s', .slice a' len' cap']) ∧ Lies w' V.heap.size KT (tmCells op' n' s' a' len' cap') ∧ Below V.heap.size V w') (cBoth0 : ∀ (op n : Int) (s : ByteArray) (a : Option Addr) (len cap : Nat) (op2 n2 : Int) (s2 : ByteArray) (a2 : Option Addr) (len2 cap2 : Nat) (V : World), Lies V 0 u (tmCells op n s a len cap) → Lies V 0 PT (tmCells op2 n2 s2 a2 len2 cap2) → Calls Tryz.prog 34 #[.agg #[.int .i64 op, .int .i64 n, .string s, .slice a len cap], .agg #[.int .i64 op2, .int .i64 n2, .string s2, .slice a2 len2 cap2]] V fun e w' => ∃ op' n' s' a' len' cap', e = .returned (.agg #[.int .i64 op', .int .i64 n', .string s', .slice a' len' cap']) ∧ Lies w' V.heap.size BT (tmCells op' n' s' a' len' cap') ∧ Below V.heap.size V w') (cSign0 : ∀ (op n : Int) (s : ByteArray) (a : Option Addr) (len cap : Nat) (op2 n2 : Int) (s2 : ByteArray) (a2 : Option Addr) (len2 cap2 : Nat) (V : World), Lies V 0 ky (tmCells op n s a len cap) → Lies V 0 BT (tmCells op2 n2 s2 a2 len2 cap2) → Calls Tryz.prog 78 #[.agg #[.int .i64 op, .int .i64 n, .string s, .slice a len cap], .agg #[.int .i64 op2, .int .i64 n2, .string s2, .slice a2 len2 cap2]] V fun e w' => ∃ op' n' s' a' len' cap', e = .returned (.agg #[.int .i64 op', .int .i64 n', .string s', .slice a' len' cap']) ∧ Lies w' V.heap.size GT (tmCells op' n' s' a' len' cap') ∧ Below V.heap.size V w' ∧ len' = cap') (cPair10 : ∀ (op n : Int) (s : ByteArray) (a : Option Addr) (len cap : Nat) (op2 n2 : Int) (s2 : ByteArray) (a2 : Option Addr) (len2 cap2 : Nat) (V : World), Lies V 0 ce (tmCells op n s a len cap) → Lies V 0 GT (tmCells op2 n2 s2 a2 len2 cap2) → Calls Tryz.prog 74 #[.agg #[.int .i64 op, .int .i64 n, .string s, .slice a len cap], .agg #[.int .i64 op2, .int .i64 n2, .string s2, .slice a2 len2 cap2]] V fun e w' => ∃ op' n' s' a' len' cap', e = .returned (.agg #[.int .i64 op', .int .i64 n', .string s', .slice a' len' cap']) ∧ Lies w' V.heap.size QT (tmCells op' n' s' a' len' cap') ∧ Below V.heap.size V w' ∧ len' = cap') (cSeal0 : ∀ (op n : Int) (s : ByteArray) (a : Option Addr) (len cap : Nat) (op2 n2 : Int) (s2 : ByteArray) (a2 : Option Addr) (len2 cap2 : Nat) (V : World), Lies V 0 KT (tmCells op n s a len cap) → Lies V 0 QT (tmCells op2 n2 s2 a2 len2 cap2) → Calls Tryz.prog 76 #[.agg #[.int .i64 op, .int .i64 n, .string s, .slice a len cap], .int .i64 0, .agg #[.int .i64 op2, .int .i64 n2, .string s2, .slice a2 len2 cap2]] V fun e w' => ∃ op' n' s' a' len' cap', e = .returned (.agg #[.int .i64 op', .int .i64 n', .string s', .slice a' len' cap']) ∧ Lies w' V.heap.size ET (tmCells op' n' s' a' len' cap') ∧ Below V.heap.size V w' ∧ len' = cap') (cPair20 : ∀ (op n : Int) (s : ByteArray) (a : Option Addr) (len cap : Nat) (op2 n2 : Int) (s2 : ByteArray) (a2 : Option Addr) (len2 cap2 : Nat) (V : World), Lies V 0 PT (tmCells op n s a len cap) → Lies V 0 ET (tmCells op2 n2 s2 a2 len2 cap2) → Calls Tryz.prog 74 #[.agg #[.int .i64 op, .int .i64 n, .string s, .slice a len cap], .agg #[.int .i64 op2, .int .i64 n2, .string s2, .slice a2 len2 cap2]] V fun e w' => ∃ op' n' s' a' len' cap', e = .returned (.agg #[.int .i64 op', .int .i64 n', .string s', .slice a' len' cap']) ∧ Lies w' V.heap.size DT (tmCells op' n' s' a' len' cap') ∧ Below V.heap.size V w' ∧ len' = cap') (cPair30 : ∀ (op n : Int) (s : ByteArray) (a : Option Addr) (len cap : Nat) (op2 n2 : Int) (s2 : ByteArray) (a2 : Option Addr) (len2 cap2 : Nat) (V : World), Lies V 0 TT (tmCells op n s a len cap) → Lies V 0 DT (tmCells op2 n2 s2 a2 len2 cap2) → Calls Tryz.prog 74 #[.agg #[.int .i64 op, .int .i64 n, .string s, .slice a len cap], .agg #[.int .i64 op2, .int .i64 n2, .string s2, .slice a2 len2 cap2]] V fun e w' => ∃ op' n' s' a' len' cap', e = .returned (.agg #[.int .i64 op', .int .i64 n', .string s', .slice a' len' cap']) ∧ Lies w' V.heap.size XT (tmCells op' n' s' a' len' cap') ∧ Below V.heap.size V w' ∧ len' = cap') :
    Calls Tryz.prog 17 #[.agg #[.int .i64 op, .int .i64 n, .string s, .slice a len cap], .agg #[.int .i64 op2, .int .i64 n2, .string s2, .slice a2 len2 cap2], .agg #[.int .i64 op5, .int .i64 n5, .string s5, .slice a5 len5 cap5], .agg #[.int .i64 op6, .int .i64 n6, .string s6, .slice a6 len6 cap6]] w fun e w' => ∃ op' n' s' a' len' cap', e = .returned (.tuple #[.agg #[.int .i64 op', .int .i64 n', .string s', .slice a' len' cap'], .bool OB]) ∧ Lies w' w.heap.size XT (tmCells op' n' s' a' len' cap') ∧ Below w.heap.size w w' := by
  have h15 := hide h150
  have htx := hide (textS (⟨#[114, 101, 112, 108, 121]⟩ : ByteArray))
  have HTL := hide htl
  have HPO := hide hpo
  have cPub := hide cPub0
  have cKey := hide cKey0
  have cBoth := hide cBoth0
  have cSign := hide cSign0
  have cPair1 := hide cPair10
  have cSeal := hide cSeal0
  have cPair2 := hide cPair20
  have cPair3 := hide cPair30
  clear h150 hpo htl cPub0 cKey0 cBoth0 cSign0 cPair10 cSeal0 cPair20 cPair30
  have hB0 : Below w.heap.size w (((((w.alloc (.cells #[.int .i64 op, .int .i64 n, .string s, .slice a len cap] 29)).alloc (.cells #[.int .i64 op2, .int .i64 n2, .string s2, .slice a2 len2 cap2] 29)).alloc (.cells #[.int .i64 op5, .int .i64 n5, .string s5, .slice a5 len5 cap5] 29)).alloc (.cells #[.int .i64 op6, .int .i64 n6, .string s6, .slice a6 len6 cap6] 29)).alloc (.cells #[.int .i64 0, .int .i64 0, .string ByteArray.empty, .slice none 0 0] 29)) := bt (bt (bt (bt (ab _) (ab _) (Nat.le_refl _)) (ab _) (Nat.le_refl _)) (ab _) (Nat.le_refl _)) (ab _) (Nat.le_refl _)
  have HX : Hid (ZBox (((((w.alloc (.cells #[.int .i64 op, .int .i64 n, .string s, .slice a len cap] 29)).alloc (.cells #[.int .i64 op2, .int .i64 n2, .string s2, .slice a2 len2 cap2] 29)).alloc (.cells #[.int .i64 op5, .int .i64 n5, .string s5, .slice a5 len5 cap5] 29)).alloc (.cells #[.int .i64 op6, .int .i64 n6, .string s6, .slice a6 len6 cap6] 29)).alloc (.cells #[.int .i64 0, .int .i64 0, .string ByteArray.empty, .slice none 0 0] 29)) (w.heap.size + 1 + 1 + 1 + 1)) := by
    have := ZBox.new ((((w.alloc (.cells #[.int .i64 op, .int .i64 n, .string s, .slice a len cap] 29)).alloc (.cells #[.int .i64 op2, .int .i64 n2, .string s2, .slice a2 len2 cap2] 29)).alloc (.cells #[.int .i64 op5, .int .i64 n5, .string s5, .slice a5 len5 cap5] 29)).alloc (.cells #[.int .i64 op6, .int .i64 n6, .string s6, .slice a6 len6 cap6] 29))
    rwa [heap_size_alloc, heap_size_alloc, heap_size_alloc, heap_size_alloc] at this
  have HA0 : Hid (RowT 29 (((((w.alloc (.cells #[.int .i64 op, .int .i64 n, .string s, .slice a len cap] 29)).alloc (.cells #[.int .i64 op2, .int .i64 n2, .string s2, .slice a2 len2 cap2] 29)).alloc (.cells #[.int .i64 op5, .int .i64 n5, .string s5, .slice a5 len5 cap5] 29)).alloc (.cells #[.int .i64 op6, .int .i64 n6, .string s6, .slice a6 len6 cap6] 29)).alloc (.cells #[.int .i64 0, .int .i64 0, .string ByteArray.empty, .slice none 0 0] 29)) (w.heap.size) op n s a len cap) := by
    have := (((((RowT.new 29 w op n s a len cap).below (ab (.cells #[.int .i64 op2, .int .i64 n2, .string s2, .slice a2 len2 cap2] 29))).below (ab (.cells #[.int .i64 op5, .int .i64 n5, .string s5, .slice a5 len5 cap5] 29))).below (ab (.cells #[.int .i64 op6, .int .i64 n6, .string s6, .slice a6 len6 cap6] 29))).below (ab (.cells #[.int .i64 0, .int .i64 0, .string ByteArray.empty, .slice none 0 0] 29)))
    exact this
  have HA1 : Hid (RowT 29 (((((w.alloc (.cells #[.int .i64 op, .int .i64 n, .string s, .slice a len cap] 29)).alloc (.cells #[.int .i64 op2, .int .i64 n2, .string s2, .slice a2 len2 cap2] 29)).alloc (.cells #[.int .i64 op5, .int .i64 n5, .string s5, .slice a5 len5 cap5] 29)).alloc (.cells #[.int .i64 op6, .int .i64 n6, .string s6, .slice a6 len6 cap6] 29)).alloc (.cells #[.int .i64 0, .int .i64 0, .string ByteArray.empty, .slice none 0 0] 29)) (w.heap.size + 1) op2 n2 s2 a2 len2 cap2) := by
    have := ((((RowT.new 29 (w.alloc (.cells #[.int .i64 op, .int .i64 n, .string s, .slice a len cap] 29)) op2 n2 s2 a2 len2 cap2).below (ab (.cells #[.int .i64 op5, .int .i64 n5, .string s5, .slice a5 len5 cap5] 29))).below (ab (.cells #[.int .i64 op6, .int .i64 n6, .string s6, .slice a6 len6 cap6] 29))).below (ab (.cells #[.int .i64 0, .int .i64 0, .string ByteArray.empty, .slice none 0 0] 29)))
    rwa [heap_size_alloc] at this
  have HA2 : Hid (RowT 29 (((((w.alloc (.cells #[.int .i64 op, .int .i64 n, .string s, .slice a len cap] 29)).alloc (.cells #[.int .i64 op2, .int .i64 n2, .string s2, .slice a2 len2 cap2] 29)).alloc (.cells #[.int .i64 op5, .int .i64 n5, .string s5, .slice a5 len5 cap5] 29)).alloc (.cells #[.int .i64 op6, .int .i64 n6, .string s6, .slice a6 len6 cap6] 29)).alloc (.cells #[.int .i64 0, .int .i64 0, .string ByteArray.empty, .slice none 0 0] 29)) (w.heap.size + 1 + 1) op5 n5 s5 a5 len5 cap5) := by
    have := (((RowT.new 29 ((w.alloc (.cells #[.int .i64 op, .int .i64 n, .string s, .slice a len cap] 29)).alloc (.cells #[.int .i64 op2, .int .i64 n2, .string s2, .slice a2 len2 cap2] 29)) op5 n5 s5 a5 len5 cap5).below (ab (.cells #[.int .i64 op6, .int .i64 n6, .string s6, .slice a6 len6 cap6] 29))).below (ab (.cells #[.int .i64 0, .int .i64 0, .string ByteArray.empty, .slice none 0 0] 29)))
    rwa [heap_size_alloc, heap_size_alloc] at this
  have HA3 : Hid (RowT 29 (((((w.alloc (.cells #[.int .i64 op, .int .i64 n, .string s, .slice a len cap] 29)).alloc (.cells #[.int .i64 op2, .int .i64 n2, .string s2, .slice a2 len2 cap2] 29)).alloc (.cells #[.int .i64 op5, .int .i64 n5, .string s5, .slice a5 len5 cap5] 29)).alloc (.cells #[.int .i64 op6, .int .i64 n6, .string s6, .slice a6 len6 cap6] 29)).alloc (.cells #[.int .i64 0, .int .i64 0, .string ByteArray.empty, .slice none 0 0] 29)) (w.heap.size + 1 + 1 + 1) op6 n6 s6 a6 len6 cap6) := by
    have := ((RowT.new 29 (((w.alloc (.cells #[.int .i64 op, .int .i64 n, .string s, .slice a len cap] 29)).alloc (.cells #[.int .i64 op2, .int .i64 n2, .string s2, .slice a2 len2 cap2] 29)).alloc (.cells #[.int .i64 op5, .int .i64 n5, .string s5, .slice a5 len5 cap5] 29)) op6 n6 s6 a6 len6 cap6).below (ab (.cells #[.int .i64 0, .int .i64 0, .string ByteArray.empty, .slice none 0 0] 29)))
    rwa [heap_size_alloc, heap_size_alloc, heap_size_alloc] at this
  have HL0 := hide (hl.below hB0)
  have HL1 := hide (hl2.below hB0)
  have HL2 := hide (hl5.below hB0)
  have HL3 := hide (hl6.below hB0)
  have HB0 := hide hB0
  obtain ⟨c0, c1, c2, c3⟩ := (unhide HA0).facts
  obtain ⟨d0, d1, d2, d3⟩ := (unhide HA1).facts
  clear hl hl2 hl5 hl6 hB0
  go_enter Tryz.func17, Tryz.ntmps17
  go_wp2_with fail
  refine (unhide h15 _ (unhide HL0) (unhide HL1)).mono ?_
  rintro e w2 ⟨op3, n3, s3, a3, len3, cap3, rfl, hL3, hb2, -⟩
  have hb3 := bt hb2 (ab (.cells #[.int .i64 op3, .int .i64 n3, .string s3, .slice a3 len3 cap3] 29)) (Nat.le_refl _)
  have HB2 := hide (bt (unhide HB0) hb3 (Nat.le_refl _))
  have HX := hide ((unhide HX).below hb3)
  have HA0 := hide ((unhide HA0).below hb3)
  have HA1 := hide ((unhide HA1).below hb3)
  have HA2 := hide ((unhide HA2).below hb3)
  have HA3 := hide ((unhide HA3).below hb3)
  have HL0 := hide ((unhide HL0).below hb3)
  have HL1 := hide ((unhide HL1).below hb3)
  have HL2 := hide ((unhide HL2).below hb3)
  have HL3 := hide ((unhide HL3).below hb3)
  have HLS := hide ((hL3.any (Nat.zero_le _)).below (ab (.cells #[.int .i64 op3, .int .i64 n3, .string s3, .slice a3 len3 cap3] 29)))
  have HSh := hide (RowT.new 29 w2 op3 n3 s3 a3 len3 cap3)
  clear c0 c1 c2 c3 d0 d1 d2 d3 hb2 hb3 hL3 HB0
  go_wp2_with fail
  generalize hgw : w2.alloc (.cells #[.int .i64 op3, .int .i64 n3, .string s3, .slice a3 len3 cap3] 29) = W2 at *
  clear hgw
  generalize w2.heap.size = bS at *
  obtain ⟨c0, c1, c2, c3⟩ := (unhide HA0).facts
  obtain ⟨d0, d1, d2, d3⟩ := (unhide HA1).facts
  obtain ⟨i0, i1, i2, i3⟩ := (unhide HA2).facts
  obtain ⟨j0, j1, j2, j3⟩ := (unhide HA3).facts
  obtain ⟨k0, k1, k2, k3⟩ := (unhide HSh).facts
  have cne0 := Nat.ne_of_lt (lt_of_cell c0)
  have cen0 := Ne.symm cne0
  have dne0 := Nat.ne_of_lt (lt_of_cell d0)
  have den0 := Ne.symm dne0
  have ine0 := Nat.ne_of_lt (lt_of_cell i0)
  have ien0 := Ne.symm ine0
  have jne0 := Nat.ne_of_lt (lt_of_cell j0)
  have jen0 := Ne.symm jne0
  have kne0 := Nat.ne_of_lt (lt_of_cell k0)
  have ken0 := Ne.symm kne0
  go_cut [12] (fun p wx => RpCut XT W2 p wx)
  case first =>
    go_region_held3 (fun x => x.cell? ⟨w.heap.size, 0, none⟩ = some (.int .i64 op) ∧ x.cell? ⟨w.heap.size, 1, none⟩ = some (.int .i64 n) ∧ x.cell? ⟨w.heap.size, 2, none⟩ = some (.string s) ∧ x.cell? ⟨w.heap.size, 3, none⟩ = some (.slice a len cap) ∧ x.cell? ⟨w.heap.size + 1, 0, none⟩ = some (.int .i64 op2) ∧ x.cell? ⟨w.heap.size + 1, 1, none⟩ = some (.int .i64 n2) ∧ x.cell? ⟨w.heap.size + 1, 2, none⟩ = some (.string s2) ∧ x.cell? ⟨w.heap.size + 1, 3, none⟩ = some (.slice a2 len2 cap2) ∧ x.cell? ⟨w.heap.size + 1 + 1, 0, none⟩ = some (.int .i64 op5) ∧ x.cell? ⟨w.heap.size + 1 + 1, 1, none⟩ = some (.int .i64 n5) ∧ x.cell? ⟨w.heap.size + 1 + 1, 2, none⟩ = some (.string s5) ∧ x.cell? ⟨w.heap.size + 1 + 1, 3, none⟩ = some (.slice a5 len5 cap5) ∧ x.cell? ⟨w.heap.size + 1 + 1 + 1, 0, none⟩ = some (.int .i64 op6) ∧ x.cell? ⟨w.heap.size + 1 + 1 + 1, 1, none⟩ = some (.int .i64 n6) ∧ x.cell? ⟨w.heap.size + 1 + 1 + 1, 2, none⟩ = some (.string s6) ∧ x.cell? ⟨w.heap.size + 1 + 1 + 1, 3, none⟩ = some (.slice a6 len6 cap6) ∧ x.cell? ⟨bS, 0, none⟩ = some (.int .i64 op3) ∧ x.cell? ⟨bS, 1, none⟩ = some (.int .i64 n3) ∧ x.cell? ⟨bS, 2, none⟩ = some (.string s3) ∧ x.cell? ⟨bS, 3, none⟩ = some (.slice a3 len3 cap3)) (go_keep)
      (first
        | (go_at_call 75
           refine (unhide htx _).mono ?_
           rintro e y1 ⟨rfl, hb⟩
           try have zz1 := hide ((ZBox.new W2).drew.below hb)
           have hp1 : Hid (Below W2.heap.size W2 y1) := by
             first
               | exact below_drew' hb
               | exact bt (ab _) (below_drew' hb) (Nat.le_refl _)
           have h01 := hp1
           clear c0 c1 c2 c3 d0 d1 d2 d3 i0 i1 i2 i3 j0 j1 j2 j3 k0 k1 k2 k3 hb
           obtain ⟨c0, c1, c2, c3⟩ := ((unhide HA0).below (unhide h01)).facts
           obtain ⟨d0, d1, d2, d3⟩ := ((unhide HA1).below (unhide h01)).facts
           obtain ⟨i0, i1, i2, i3⟩ := ((unhide HA2).below (unhide h01)).facts
           obtain ⟨j0, j1, j2, j3⟩ := ((unhide HA3).below (unhide h01)).facts
           obtain ⟨k0, k1, k2, k3⟩ := ((unhide HSh).below (unhide h01)).facts
           have cne1 := Nat.ne_of_lt (lt_of_cell c0)
           have cen1 := Ne.symm cne1
           have dne1 := Nat.ne_of_lt (lt_of_cell d0)
           have den1 := Ne.symm dne1
           have ine1 := Nat.ne_of_lt (lt_of_cell i0)
           have ien1 := Ne.symm ine1
           have jne1 := Nat.ne_of_lt (lt_of_cell j0)
           have jen1 := Ne.symm jne1
           have kne1 := Nat.ne_of_lt (lt_of_cell k0)
           have ken1 := Ne.symm kne1)
        | (go_at_call 61
           have hc := fun V (hV : Below y1.heap.size y1 V) => unhide cPub op n s a len cap V ((unhide HL0).below (bt (unhide h01) hV (Nat.le_refl _)))
           refine (hc _ ?_).mono ?_
           first
             | exact Below.refl _ _
             | exact ab _
           rintro e y2 ⟨op7, n7, s7, a7, len7, cap7, rfl, hL, hb, -⟩
           try have zz2 := hide ((unhide zz1).below hb)
           try have zz2 := hide ((ZBox.new y1).below hb)
           have hp2 : Hid (Below y1.heap.size y1 y2) := by
             first
               | exact hb
               | exact bt (ab _) hb (Nat.le_refl _)
           have h02 := hide (bt (unhide h01) (unhide hp2) (Nat.le_refl _))
           have HR7 := hide (hL.any (Nat.zero_le _))
           clear c0 c1 c2 c3 d0 d1 d2 d3 i0 i1 i2 i3 j0 j1 j2 j3 k0 k1 k2 k3 hb hL hc
           obtain ⟨c0, c1, c2, c3⟩ := ((unhide HA0).below (unhide h02)).facts
           obtain ⟨d0, d1, d2, d3⟩ := ((unhide HA1).below (unhide h02)).facts
           obtain ⟨i0, i1, i2, i3⟩ := ((unhide HA2).below (unhide h02)).facts
           obtain ⟨j0, j1, j2, j3⟩ := ((unhide HA3).below (unhide h02)).facts
           obtain ⟨k0, k1, k2, k3⟩ := ((unhide HSh).below (unhide h02)).facts
           have cne2 := Nat.ne_of_lt (lt_of_cell c0)
           have cen2 := Ne.symm cne2
           have dne2 := Nat.ne_of_lt (lt_of_cell d0)
           have den2 := Ne.symm dne2
           have ine2 := Nat.ne_of_lt (lt_of_cell i0)
           have ien2 := Ne.symm ine2
           have jne2 := Nat.ne_of_lt (lt_of_cell j0)
           have jen2 := Ne.symm jne2
           have kne2 := Nat.ne_of_lt (lt_of_cell k0)
           have ken2 := Ne.symm kne2)
        | (go_at_call 77
           have hc := fun V (hV : Below y2.heap.size y2 V) => unhide cKey op3 n3 s3 a3 len3 cap3 V ((unhide HLS).below (bt (unhide h02) hV (Nat.le_refl _)))
           refine (hc _ ?_).mono ?_
           first
             | exact Below.refl _ _
             | exact ab _
           rintro e y3 ⟨op8, n8, s8, a8, len8, cap8, rfl, hL, hb⟩
           try have zz3 := hide ((unhide zz2).below hb)
           try have zz3 := hide ((ZBox.new y2).below hb)
           have hp3 : Hid (Below y2.heap.size y2 y3) := by
             first
               | exact hb
               | exact bt (ab _) hb (Nat.le_refl _)
           have h03 := hide (bt (unhide h02) (unhide hp3) (Nat.le_refl _))
           have HR8 := hide (hL.any (Nat.zero_le _))
           have HR7 := hide ((unhide HR7).below (unhide hp3))
           clear c0 c1 c2 c3 d0 d1 d2 d3 i0 i1 i2 i3 j0 j1 j2 j3 k0 k1 k2 k3 hb hL hc
           obtain ⟨c0, c1, c2, c3⟩ := ((unhide HA0).below (unhide h03)).facts
           obtain ⟨d0, d1, d2, d3⟩ := ((unhide HA1).below (unhide h03)).facts
           obtain ⟨i0, i1, i2, i3⟩ := ((unhide HA2).below (unhide h03)).facts
           obtain ⟨j0, j1, j2, j3⟩ := ((unhide HA3).below (unhide h03)).facts
           obtain ⟨k0, k1, k2, k3⟩ := ((unhide HSh).below (unhide h03)).facts
           have cne3 := Nat.ne_of_lt (lt_of_cell c0)
           have cen3 := Ne.symm cne3
           have dne3 := Nat.ne_of_lt (lt_of_cell d0)
           have den3 := Ne.symm dne3
           have ine3 := Nat.ne_of_lt (lt_of_cell i0)
           have ien3 := Ne.symm ine3
           have jne3 := Nat.ne_of_lt (lt_of_cell j0)
           have jen3 := Ne.symm jne3
           have kne3 := Nat.ne_of_lt (lt_of_cell k0)
           have ken3 := Ne.symm kne3)
        | (go_at_call 61
           have hc := fun V (hV : Below y3.heap.size y3 V) => unhide cPub op n s a len cap V ((unhide HL0).below (bt (unhide h03) hV (Nat.le_refl _)))
           refine (hc _ ?_).mono ?_
           first
             | exact Below.refl _ _
             | exact ab _
           rintro e y4 ⟨op9, n9, s9, a9, len9, cap9, rfl, hL, hb, -⟩
           try have zz4 := hide ((unhide zz3).below hb)
           try have zz4 := hide ((ZBox.new y3).below hb)
           have hp4 : Hid (Below y3.heap.size y3 y4) := by
             first
               | exact hb
               | exact bt (ab _) hb (Nat.le_refl _)
           have h04 := hide (bt (unhide h03) (unhide hp4) (Nat.le_refl _))
           have HR9 := hide (hL.any (Nat.zero_le _))
           have HR7 := hide ((unhide HR7).below (unhide hp4))
           have HR8 := hide ((unhide HR8).below (unhide hp4))
           clear c0 c1 c2 c3 d0 d1 d2 d3 i0 i1 i2 i3 j0 j1 j2 j3 k0 k1 k2 k3 hb hL hc
           obtain ⟨c0, c1, c2, c3⟩ := ((unhide HA0).below (unhide h04)).facts
           obtain ⟨d0, d1, d2, d3⟩ := ((unhide HA1).below (unhide h04)).facts
           obtain ⟨i0, i1, i2, i3⟩ := ((unhide HA2).below (unhide h04)).facts
           obtain ⟨j0, j1, j2, j3⟩ := ((unhide HA3).below (unhide h04)).facts
           obtain ⟨k0, k1, k2, k3⟩ := ((unhide HSh).below (unhide h04)).facts
           have cne4 := Nat.ne_of_lt (lt_of_cell c0)
           have cen4 := Ne.symm cne4
           have dne4 := Nat.ne_of_lt (lt_of_cell d0)
           have den4 := Ne.symm dne4
           have ine4 := Nat.ne_of_lt (lt_of_cell i0)
           have ien4 := Ne.symm ine4
           have jne4 := Nat.ne_of_lt (lt_of_cell j0)
           have jen4 := Ne.symm jne4
           have kne4 := Nat.ne_of_lt (lt_of_cell k0)
           have ken4 := Ne.symm kne4)
        | (go_at_call 34
           have hc := fun V (hV : Below y4.heap.size y4 V) => unhide cBoth op2 n2 s2 a2 len2 cap2 op9 n9 s9 a9 len9 cap9 V ((unhide HL1).below (bt (unhide h04) hV (Nat.le_refl _))) ((unhide HR9).below hV)
           refine (hc _ ?_).mono ?_
           first
             | exact Below.refl _ _
             | exact ab _
           rintro e y5 ⟨op10, n10, s10, a10, len10, cap10, rfl, hL, hb⟩
           try have zz5 := hide ((unhide zz4).below hb)
           try have zz5 := hide ((ZBox.new y4).below hb)
           have hp5 : Hid (Below y4.heap.size y4 y5) := by
             first
               | exact hb
               | exact bt (ab _) hb (Nat.le_refl _)
           have h05 := hide (bt (unhide h04) (unhide hp5) (Nat.le_refl _))
           have HR10 := hide (hL.any (Nat.zero_le _))
           have HR7 := hide ((unhide HR7).below (unhide hp5))
           have HR8 := hide ((unhide HR8).below (unhide hp5))
           clear c0 c1 c2 c3 d0 d1 d2 d3 i0 i1 i2 i3 j0 j1 j2 j3 k0 k1 k2 k3 hb hL hc
           obtain ⟨c0, c1, c2, c3⟩ := ((unhide HA0).below (unhide h05)).facts
           obtain ⟨d0, d1, d2, d3⟩ := ((unhide HA1).below (unhide h05)).facts
           obtain ⟨i0, i1, i2, i3⟩ := ((unhide HA2).below (unhide h05)).facts
           obtain ⟨j0, j1, j2, j3⟩ := ((unhide HA3).below (unhide h05)).facts
           obtain ⟨k0, k1, k2, k3⟩ := ((unhide HSh).below (unhide h05)).facts
           have cne5 := Nat.ne_of_lt (lt_of_cell c0)
           have cen5 := Ne.symm cne5
           have dne5 := Nat.ne_of_lt (lt_of_cell d0)
           have den5 := Ne.symm dne5
           have ine5 := Nat.ne_of_lt (lt_of_cell i0)
           have ien5 := Ne.symm ine5
           have jne5 := Nat.ne_of_lt (lt_of_cell j0)
           have jen5 := Ne.symm jne5
           have kne5 := Nat.ne_of_lt (lt_of_cell k0)
           have ken5 := Ne.symm kne5)
        | (go_at_call 78
           have hc := fun V (hV : Below y5.heap.size y5 V) => unhide cSign op5 n5 s5 a5 len5 cap5 op10 n10 s10 a10 len10 cap10 V ((unhide HL2).below (bt (unhide h05) hV (Nat.le_refl _))) ((unhide HR10).below hV)
           refine (hc _ ?_).mono ?_
           first
             | exact Below.refl _ _
             | exact ab _
           rintro e y6 ⟨op11, n11, s11, a11, len11, cap11, rfl, hL, hb, -⟩
           try have zz6 := hide ((unhide zz5).below hb)
           try have zz6 := hide ((ZBox.new y5).below hb)
           have hp6 : Hid (Below y5.heap.size y5 y6) := by
             first
               | exact hb
               | exact bt (ab _) hb (Nat.le_refl _)
           have h06 := hide (bt (unhide h05) (unhide hp6) (Nat.le_refl _))
           have HR11 := hide (hL.any (Nat.zero_le _))
           have HR7 := hide ((unhide HR7).below (unhide hp6))
           have HR8 := hide ((unhide HR8).below (unhide hp6))
           clear c0 c1 c2 c3 d0 d1 d2 d3 i0 i1 i2 i3 j0 j1 j2 j3 k0 k1 k2 k3 hb hL hc
           obtain ⟨c0, c1, c2, c3⟩ := ((unhide HA0).below (unhide h06)).facts
           obtain ⟨d0, d1, d2, d3⟩ := ((unhide HA1).below (unhide h06)).facts
           obtain ⟨i0, i1, i2, i3⟩ := ((unhide HA2).below (unhide h06)).facts
           obtain ⟨j0, j1, j2, j3⟩ := ((unhide HA3).below (unhide h06)).facts
           obtain ⟨k0, k1, k2, k3⟩ := ((unhide HSh).below (unhide h06)).facts
           have cne6 := Nat.ne_of_lt (lt_of_cell c0)
           have cen6 := Ne.symm cne6
           have dne6 := Nat.ne_of_lt (lt_of_cell d0)
           have den6 := Ne.symm dne6
           have ine6 := Nat.ne_of_lt (lt_of_cell i0)
           have ien6 := Ne.symm ine6
           have jne6 := Nat.ne_of_lt (lt_of_cell j0)
           have jen6 := Ne.symm jne6
           have kne6 := Nat.ne_of_lt (lt_of_cell k0)
           have ken6 := Ne.symm kne6)
        | (go_at_call_of 74 op6
           have hc := fun V (hV : Below y6.heap.size y6 V) => unhide cPair1 op6 n6 s6 a6 len6 cap6 op11 n11 s11 a11 len11 cap11 V ((unhide HL3).below (bt (unhide h06) hV (Nat.le_refl _))) ((unhide HR11).below hV)
           refine (hc _ ?_).mono ?_
           first
             | exact Below.refl _ _
             | exact ab _
           rintro e y7 ⟨op12, n12, s12, a12, len12, cap12, rfl, hL, hb, -⟩
           try have zz7 := hide ((unhide zz6).below hb)
           try have zz7 := hide ((ZBox.new y6).below hb)
           have hp7 : Hid (Below y6.heap.size y6 y7) := by
             first
               | exact hb
               | exact bt (ab _) hb (Nat.le_refl _)
           have h07 := hide (bt (unhide h06) (unhide hp7) (Nat.le_refl _))
           have HR12 := hide (hL.any (Nat.zero_le _))
           have HR7 := hide ((unhide HR7).below (unhide hp7))
           have HR8 := hide ((unhide HR8).below (unhide hp7))
           clear c0 c1 c2 c3 d0 d1 d2 d3 i0 i1 i2 i3 j0 j1 j2 j3 k0 k1 k2 k3 hb hL hc
           obtain ⟨c0, c1, c2, c3⟩ := ((unhide HA0).below (unhide h07)).facts
           obtain ⟨d0, d1, d2, d3⟩ := ((unhide HA1).below (unhide h07)).facts
           obtain ⟨i0, i1, i2, i3⟩ := ((unhide HA2).below (unhide h07)).facts
           obtain ⟨j0, j1, j2, j3⟩ := ((unhide HA3).below (unhide h07)).facts
           obtain ⟨k0, k1, k2, k3⟩ := ((unhide HSh).below (unhide h07)).facts
           have cne7 := Nat.ne_of_lt (lt_of_cell c0)
           have cen7 := Ne.symm cne7
           have dne7 := Nat.ne_of_lt (lt_of_cell d0)
           have den7 := Ne.symm dne7
           have ine7 := Nat.ne_of_lt (lt_of_cell i0)
           have ien7 := Ne.symm ine7
           have jne7 := Nat.ne_of_lt (lt_of_cell j0)
           have jen7 := Ne.symm jne7
           have kne7 := Nat.ne_of_lt (lt_of_cell k0)
           have ken7 := Ne.symm kne7)
        | (go_at_call 76
           have hc := fun V (hV : Below y7.heap.size y7 V) => unhide cSeal op8 n8 s8 a8 len8 cap8 op12 n12 s12 a12 len12 cap12 V ((unhide HR8).below hV) ((unhide HR12).below hV)
           refine (hc _ ?_).mono ?_
           first
             | exact Below.refl _ _
             | exact ab _
           rintro e y8 ⟨op13, n13, s13, a13, len13, cap13, rfl, hL, hb, -⟩
           try have zz8 := hide ((unhide zz7).below hb)
           try have zz8 := hide ((ZBox.new y7).below hb)
           have hp8 : Hid (Below y7.heap.size y7 y8) := by
             first
               | exact hb
               | exact bt (ab _) hb (Nat.le_refl _)
           have h08 := hide (bt (unhide h07) (unhide hp8) (Nat.le_refl _))
           have HR13 := hide (hL.any (Nat.zero_le _))
           have HR7 := hide ((unhide HR7).below (unhide hp8))
           clear c0 c1 c2 c3 d0 d1 d2 d3 i0 i1 i2 i3 j0 j1 j2 j3 k0 k1 k2 k3 hb hL hc
           obtain ⟨c0, c1, c2, c3⟩ := ((unhide HA0).below (unhide h08)).facts
           obtain ⟨d0, d1, d2, d3⟩ := ((unhide HA1).below (unhide h08)).facts
           obtain ⟨i0, i1, i2, i3⟩ := ((unhide HA2).below (unhide h08)).facts
           obtain ⟨j0, j1, j2, j3⟩ := ((unhide HA3).below (unhide h08)).facts
           obtain ⟨k0, k1, k2, k3⟩ := ((unhide HSh).below (unhide h08)).facts
           have cne8 := Nat.ne_of_lt (lt_of_cell c0)
           have cen8 := Ne.symm cne8
           have dne8 := Nat.ne_of_lt (lt_of_cell d0)
           have den8 := Ne.symm dne8
           have ine8 := Nat.ne_of_lt (lt_of_cell i0)
           have ien8 := Ne.symm ine8
           have jne8 := Nat.ne_of_lt (lt_of_cell j0)
           have jen8 := Ne.symm jne8
           have kne8 := Nat.ne_of_lt (lt_of_cell k0)
           have ken8 := Ne.symm kne8)
        | (go_at_call_of 74 op7
           have hc := fun V (hV : Below y8.heap.size y8 V) => unhide cPair2 op7 n7 s7 a7 len7 cap7 op13 n13 s13 a13 len13 cap13 V ((unhide HR7).below hV) ((unhide HR13).below hV)
           refine (hc _ ?_).mono ?_
           first
             | exact Below.refl _ _
             | exact ab _
           rintro e y9 ⟨op14, n14, s14, a14, len14, cap14, rfl, hL, hb, -⟩
           try have zz9 := hide ((unhide zz8).below hb)
           try have zz9 := hide ((ZBox.new y8).below hb)
           have hp9 : Hid (Below y8.heap.size y8 y9) := by
             first
               | exact hb
               | exact bt (ab _) hb (Nat.le_refl _)
           have h09 := hide (bt (unhide h08) (unhide hp9) (Nat.le_refl _))
           have HR14 := hide (hL.any (Nat.zero_le _))
           clear c0 c1 c2 c3 d0 d1 d2 d3 i0 i1 i2 i3 j0 j1 j2 j3 k0 k1 k2 k3 hb hL hc
           obtain ⟨c0, c1, c2, c3⟩ := ((unhide HA0).below (unhide h09)).facts
           obtain ⟨d0, d1, d2, d3⟩ := ((unhide HA1).below (unhide h09)).facts
           obtain ⟨i0, i1, i2, i3⟩ := ((unhide HA2).below (unhide h09)).facts
           obtain ⟨j0, j1, j2, j3⟩ := ((unhide HA3).below (unhide h09)).facts
           obtain ⟨k0, k1, k2, k3⟩ := ((unhide HSh).below (unhide h09)).facts
           have cne9 := Nat.ne_of_lt (lt_of_cell c0)
           have cen9 := Ne.symm cne9
           have dne9 := Nat.ne_of_lt (lt_of_cell d0)
           have den9 := Ne.symm dne9
           have ine9 := Nat.ne_of_lt (lt_of_cell i0)
           have ien9 := Ne.symm ine9
           have jne9 := Nat.ne_of_lt (lt_of_cell j0)
           have jen9 := Ne.symm jne9
           have kne9 := Nat.ne_of_lt (lt_of_cell k0)
           have ken9 := Ne.symm kne9)
        | (go_at_call_of 74 op14
           have hc := fun V (hV : Below y9.heap.size y9 V) => unhide cPair3 2 0 (⟨#[114, 101, 112, 108, 121]⟩ : ByteArray) none 0 0 op14 n14 s14 a14 len14 cap14 V (unhide HTL V) ((unhide HR14).below hV)
           refine (hc _ ?_).mono ?_
           first
             | exact Below.refl _ _
             | exact ab _
           rintro e y10 ⟨op15, n15, s15, a15, len15, cap15, rfl, hL, hb, -⟩
           try have zz10 := hide ((unhide zz9).below hb)
           try have zz10 := hide ((ZBox.new y9).below hb)
           have hp10 : Hid (Below y9.heap.size y9 y10) := by
             first
               | exact hb
               | exact bt (ab _) hb (Nat.le_refl _)
           have h010 := hide (bt (unhide h09) (unhide hp10) (Nat.le_refl _))
           have HLX := hide hL
           clear c0 c1 c2 c3 d0 d1 d2 d3 i0 i1 i2 i3 j0 j1 j2 j3 k0 k1 k2 k3 hb hL hc
           obtain ⟨c0, c1, c2, c3⟩ := ((unhide HA0).below (unhide h010)).facts
           obtain ⟨d0, d1, d2, d3⟩ := ((unhide HA1).below (unhide h010)).facts
           obtain ⟨i0, i1, i2, i3⟩ := ((unhide HA2).below (unhide h010)).facts
           obtain ⟨j0, j1, j2, j3⟩ := ((unhide HA3).below (unhide h010)).facts
           obtain ⟨k0, k1, k2, k3⟩ := ((unhide HSh).below (unhide h010)).facts
           have cne10 := Nat.ne_of_lt (lt_of_cell c0)
           have cen10 := Ne.symm cne10
           have dne10 := Nat.ne_of_lt (lt_of_cell d0)
           have den10 := Ne.symm dne10
           have ine10 := Nat.ne_of_lt (lt_of_cell i0)
           have ien10 := Ne.symm ine10
           have jne10 := Nat.ne_of_lt (lt_of_cell j0)
           have jen10 := Ne.symm jne10
           have kne10 := Nat.ne_of_lt (lt_of_cell k0)
           have ken10 := Ne.symm kne10
           try obtain ⟨p0, p1, p2, p3, q0, q1, q2, q3⟩ := (unhide zz10).facts))
    all_goals
      go_wp2_with fail
      go_meet
      first
        | (with_reducible refine RpCut.late ?_ ?_
           exact unhide h010
           first
             | exact (unhide HLX).any (unhide h09).size
             | exact (unhide HLX).any (Nat.le_trans (unhide h09).size (by simp)))
        | (with_reducible refine RpCut.early ?_ ?_ ?_ (unhide HLX) ?_ ?_
           exact unhide h010
           exact unhide zz10
           (have s1 := (unhide h01).size; have s2 := (unhide h02).size; have s3 := (unhide h03).size; have s4 := (unhide h04).size; have s5 := (unhide h05).size; have s6 := (unhide h06).size; have s7 := (unhide h07).size; have s8 := (unhide h08).size; have s9 := (unhide h09).size; omega)
           first
             | exact lt_of_heap (unhide zz9)
             | (rw [heap_size_alloc]; omega)
           first
             | exact (unhide h09).size
             | exact Nat.le_trans (unhide h09).size (by simp))
  case rest =>
    obtain ⟨bW, opW, nW, sW, aW, lenW, capW, rfl, hRW, hLW, hge, hbc⟩ := hcut
    have HBF := hide (bt (unhide HB2) hbc (Nat.le_refl _))
    have HXF := hide ((unhide HX).below hbc)
    have hlx := lt_of_heap (unhide HX)
    have hq : (opW == 3) = OB := unhide HPO _ _ _ _ _ _ _ _ hLW
    have HLW := hide hLW
    obtain ⟨r0, r1, r2, r3⟩ := hRW.facts
    obtain ⟨d0', d1', d2', d3', e0, e1, e2, e3⟩ := (unhide HXF).facts
    have hn1 : bW ≠ w.heap.size + 1 + 1 + 1 + 1 := by omega
    have hn2 := Ne.symm hn1
    clear hRW hLW hbc c0 c1 c2 c3 d0 d1 d2 d3 i0 i1 i2 i3 j0 j1 j2 j3 k0 k1 k2 k3
    go_wp2_with fail
    go_region
    all_goals go_wp2_with fail
    all_goals
      exact bodyPost_ret (v := .tuple #[.agg #[.int .i64 opW, .int .i64 nW, .string sW, .slice aW lenW capW], .bool OB]) (by simp [results, Tryz.results17, go_sem, d0', d1', d2', d3']; try rfl) rfl ⟨opW, nW, sW, aW, lenW, capW, rfl, set4_lies (L := W2.heap.size) ((unhide HLW).below (Below.refl _ _).drew) hlx w.heap.size (by omega), set4_below (unhide HBF).drew (by omega)⟩

end Go.Proofs.YtmklgikbajhcpaaGreatDoor
