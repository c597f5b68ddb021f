
/- The walk of impl.ReplyOf: the four terms, each in memory of its own, or zeros; nothing that was there is written. -/
import Derived.Test.YtmklgikbajhcpaaGreatDoorRg
import Derived.Test.YtmklgikbajhcpaaGreatDoorOq
namespace Go.Proofs.YtmklgikbajhcpaaGreatDoor
open Go.RowKit Go.Deep

set_option maxRecDepth 100000 in
set_option maxHeartbeats 4000000 in
theorem rofI_no (e t : Tm) (op n : Int) (s : ByteArray) (a : Option Addr) (len cap : Nat) (op2 n2 : Int) (s2 : ByteArray) (a2 : Option Addr) (len2 cap2 : Nat) (x : Addr) (w : World) (he : ErrAt x w) (htab : Tab w) (hl : Lies w 0 e (tmCells op n s a len cap)) (hl2 : Lies w 0 t (tmCells op2 n2 s2 a2 len2 cap2)) (hst : e.size + t.size ≤ 1048578) (h : replyO e t = none) : Calls Tryz.prog 19 #[.agg #[.int .i64 op, .int .i64 n, .string s, .slice a len cap], .agg #[.int .i64 op2, .int .i64 n2, .string s2, .slice a2 len2 cap2]] w fun q w' => q = .returned (.tuple #[.agg #[.int .i64 0, .int .i64 0, .string ⟨#[]⟩, .slice none 0 0], .agg #[.int .i64 0, .int .i64 0, .string ⟨#[]⟩, .slice none 0 0], .agg #[.int .i64 0, .int .i64 0, .string ⟨#[]⟩, .slice none 0 0], .agg #[.int .i64 0, .int .i64 0, .string ⟨#[]⟩, .slice none 0 0], .bool false]) ∧ Below w.heap.size w w' := by
  have hb0 : Below w.heap.size w ((((((w.alloc (.cells #[.int .i64 op, .int .i64 n, .string s, .slice a len cap] 29)).alloc (.cells #[.int .i64 op2, .int .i64 n2, .string s2, .slice a2 len2 cap2] 29)).alloc (.cells #[.int .i64 0, .int .i64 0, .string ⟨#[]⟩, .slice none 0 0] 29)).alloc (.cells #[.int .i64 0, .int .i64 0, .string ⟨#[]⟩, .slice none 0 0] 29)).alloc (.cells #[.int .i64 0, .int .i64 0, .string ⟨#[]⟩, .slice none 0 0] 29)).alloc (.cells #[.int .i64 0, .int .i64 0, .string ⟨#[]⟩, .slice none 0 0] 29)) := bt (bt (bt (bt (bt (ab _) (ab _) (Nat.le_refl _)) (ab _) (Nat.le_refl _)) (ab _) (Nat.le_refl _)) (ab _) (Nat.le_refl _)) (ab _) (Nat.le_refl _)
  have HZ0 : Hid (RowT 29 ((((((w.alloc (.cells #[.int .i64 op, .int .i64 n, .string s, .slice a len cap] 29)).alloc (.cells #[.int .i64 op2, .int .i64 n2, .string s2, .slice a2 len2 cap2] 29)).alloc (.cells #[.int .i64 0, .int .i64 0, .string ⟨#[]⟩, .slice none 0 0] 29)).alloc (.cells #[.int .i64 0, .int .i64 0, .string ⟨#[]⟩, .slice none 0 0] 29)).alloc (.cells #[.int .i64 0, .int .i64 0, .string ⟨#[]⟩, .slice none 0 0] 29)).alloc (.cells #[.int .i64 0, .int .i64 0, .string ⟨#[]⟩, .slice none 0 0] 29)) (w.heap.size + 1 + 1) 0 0 ⟨#[]⟩ none 0 0) := by
    have := (((RowT.new 29 ((w.alloc (.cells #[.int .i64 op, .int .i64 n, .string s, .slice a len cap] 29)).alloc (.cells #[.int .i64 op2, .int .i64 n2, .string s2, .slice a2 len2 cap2] 29)) 0 0 ⟨#[]⟩ none 0 0).below (ab (.cells #[.int .i64 0, .int .i64 0, .string ⟨#[]⟩, .slice none 0 0] 29))).below (ab (.cells #[.int .i64 0, .int .i64 0, .string ⟨#[]⟩, .slice none 0 0] 29))).below (ab (.cells #[.int .i64 0, .int .i64 0, .string ⟨#[]⟩, .slice none 0 0] 29))
    rwa [heap_size_alloc, heap_size_alloc] at this
  have HZ1 : Hid (RowT 29 ((((((w.alloc (.cells #[.int .i64 op, .int .i64 n, .string s, .slice a len cap] 29)).alloc (.cells #[.int .i64 op2, .int .i64 n2, .string s2, .slice a2 len2 cap2] 29)).alloc (.cells #[.int .i64 0, .int .i64 0, .string ⟨#[]⟩, .slice none 0 0] 29)).alloc (.cells #[.int .i64 0, .int .i64 0, .string ⟨#[]⟩, .slice none 0 0] 29)).alloc (.cells #[.int .i64 0, .int .i64 0, .string ⟨#[]⟩, .slice none 0 0] 29)).alloc (.cells #[.int .i64 0, .int .i64 0, .string ⟨#[]⟩, .slice none 0 0] 29)) (w.heap.size + 1 + 1 + 1) 0 0 ⟨#[]⟩ none 0 0) := by
    have := ((RowT.new 29 (((w.alloc (.cells #[.int .i64 op, .int .i64 n, .string s, .slice a len cap] 29)).alloc (.cells #[.int .i64 op2, .int .i64 n2, .string s2, .slice a2 len2 cap2] 29)).alloc (.cells #[.int .i64 0, .int .i64 0, .string ⟨#[]⟩, .slice none 0 0] 29)) 0 0 ⟨#[]⟩ none 0 0).below (ab (.cells #[.int .i64 0, .int .i64 0, .string ⟨#[]⟩, .slice none 0 0] 29))).below (ab (.cells #[.int .i64 0, .int .i64 0, .string ⟨#[]⟩, .slice none 0 0] 29))
    rwa [heap_size_alloc, heap_size_alloc, heap_size_alloc] at this
  have HZ2 : Hid (RowT 29 ((((((w.alloc (.cells #[.int .i64 op, .int .i64 n, .string s, .slice a len cap] 29)).alloc (.cells #[.int .i64 op2, .int .i64 n2, .string s2, .slice a2 len2 cap2] 29)).alloc (.cells #[.int .i64 0, .int .i64 0, .string ⟨#[]⟩, .slice none 0 0] 29)).alloc (.cells #[.int .i64 0, .int .i64 0, .string ⟨#[]⟩, .slice none 0 0] 29)).alloc (.cells #[.int .i64 0, .int .i64 0, .string ⟨#[]⟩, .slice none 0 0] 29)).alloc (.cells #[.int .i64 0, .int .i64 0, .string ⟨#[]⟩, .slice none 0 0] 29)) (w.heap.size + 1 + 1 + 1 + 1) 0 0 ⟨#[]⟩ none 0 0) := by
    have := (RowT.new 29 ((((w.alloc (.cells #[.int .i64 op, .int .i64 n, .string s, .slice a len cap] 29)).alloc (.cells #[.int .i64 op2, .int .i64 n2, .string s2, .slice a2 len2 cap2] 29)).alloc (.cells #[.int .i64 0, .int .i64 0, .string ⟨#[]⟩, .slice none 0 0] 29)).alloc (.cells #[.int .i64 0, .int .i64 0, .string ⟨#[]⟩, .slice none 0 0] 29)) 0 0 ⟨#[]⟩ none 0 0).below (ab (.cells #[.int .i64 0, .int .i64 0, .string ⟨#[]⟩, .slice none 0 0] 29))
    rwa [heap_size_alloc, heap_size_alloc, heap_size_alloc, heap_size_alloc] at this
  have HZ3 : Hid (RowT 29 ((((((w.alloc (.cells #[.int .i64 op, .int .i64 n, .string s, .slice a len cap] 29)).alloc (.cells #[.int .i64 op2, .int .i64 n2, .string s2, .slice a2 len2 cap2] 29)).alloc (.cells #[.int .i64 0, .int .i64 0, .string ⟨#[]⟩, .slice none 0 0] 29)).alloc (.cells #[.int .i64 0, .int .i64 0, .string ⟨#[]⟩, .slice none 0 0] 29)).alloc (.cells #[.int .i64 0, .int .i64 0, .string ⟨#[]⟩, .slice none 0 0] 29)).alloc (.cells #[.int .i64 0, .int .i64 0, .string ⟨#[]⟩, .slice none 0 0] 29)) (w.heap.size + 1 + 1 + 1 + 1 + 1) 0 0 ⟨#[]⟩ none 0 0) := by
    have := RowT.new 29 (((((w.alloc (.cells #[.int .i64 op, .int .i64 n, .string s, .slice a len cap] 29)).alloc (.cells #[.int .i64 op2, .int .i64 n2, .string s2, .slice a2 len2 cap2] 29)).alloc (.cells #[.int .i64 0, .int .i64 0, .string ⟨#[]⟩, .slice none 0 0] 29)).alloc (.cells #[.int .i64 0, .int .i64 0, .string ⟨#[]⟩, .slice none 0 0] 29)).alloc (.cells #[.int .i64 0, .int .i64 0, .string ⟨#[]⟩, .slice none 0 0] 29)) 0 0 ⟨#[]⟩ none 0 0
    rwa [heap_size_alloc, heap_size_alloc, heap_size_alloc, heap_size_alloc, heap_size_alloc] at this
  have HLE := hide (hl.below hb0)
  have HL2 := hide (hl2.below hb0)
  have HER := hide (he.on hb0)
  have HTB := hide (htab.on hb0)
  have HB0 := hide hb0
  have HH := hide h
  have HST := hide hst
  clear he hl hl2 hb0 htab h hst
  go_enter Tryz.func19, Tryz.ntmps19
  go_wp2_with fail
  generalize hgw : ((((((w.alloc (.cells #[.int .i64 op, .int .i64 n, .string s, .slice a len cap] 29)).alloc (.cells #[.int .i64 op2, .int .i64 n2, .string s2, .slice a2 len2 cap2] 29)).alloc (.cells #[.int .i64 0, .int .i64 0, .string ⟨#[]⟩, .slice none 0 0] 29)).alloc (.cells #[.int .i64 0, .int .i64 0, .string ⟨#[]⟩, .slice none 0 0] 29)).alloc (.cells #[.int .i64 0, .int .i64 0, .string ⟨#[]⟩, .slice none 0 0] 29)).alloc (.cells #[.int .i64 0, .int .i64 0, .string ⟨#[]⟩, .slice none 0 0] 29)) = W1 at *
  clear hgw
  refine (readI_none e t op n s a len cap op2 n2 s2 a2 len2 cap2 x _ (unhide HER) (unhide HTB) (unhide HLE) (unhide HL2) (unhide HST) (unhide HH)).mono ?_
  rintro q w1 ⟨rfl, hb1⟩
  clear HH HST
  have HR : Hid (RowVR (w1.alloc (.cells #[.int .i64 0, .int .i64 0, .string ⟨#[]⟩, .slice none 0 0, .int .i64 0, .int .i64 0, .string ⟨#[]⟩, .slice none 0 0, .int .i64 0, .int .i64 0, .string ⟨#[]⟩, .slice none 0 0, .int .i64 0, .int .i64 0, .string ⟨#[]⟩, .slice none 0 0] 89)) w1.heap.size #[.int .i64 0, .int .i64 0, .string ⟨#[]⟩, .slice none 0 0, .int .i64 0, .int .i64 0, .string ⟨#[]⟩, .slice none 0 0, .int .i64 0, .int .i64 0, .string ⟨#[]⟩, .slice none 0 0, .int .i64 0, .int .i64 0, .string ⟨#[]⟩, .slice none 0 0]) := RowVR.new w1 _ rfl
  have HBR : Hid (Below w1.heap.size w1 (w1.alloc (.cells #[.int .i64 0, .int .i64 0, .string ⟨#[]⟩, .slice none 0 0, .int .i64 0, .int .i64 0, .string ⟨#[]⟩, .slice none 0 0, .int .i64 0, .int .i64 0, .string ⟨#[]⟩, .slice none 0 0, .int .i64 0, .int .i64 0, .string ⟨#[]⟩, .slice none 0 0] 89))) := ab _
  have HB1 := hide (bt (unhide HB0) hb1 (Nat.le_refl _))
  have HE1 := hide ((unhide HER).on hb1)
  have HZ0 := hide ((unhide HZ0).below hb1)
  have HZ1 := hide ((unhide HZ1).below hb1)
  have HZ2 := hide ((unhide HZ2).below hb1)
  have HZ3 := hide ((unhide HZ3).below hb1)
  have HLT : Hid (w.heap.size + 6 ≤ w1.heap.size) := by have := hb1.size; have := (unhide HZ3).lt; show _ ≤ _; omega
  clear hb1 HB0 HER HLE HL2 HTB
  go_wp2_with (refine wpList_storeR rfl (.tmp 9) (.tmp 23) rfl #[.int .i64 0, .int .i64 0, .string ⟨#[]⟩, .slice none 0 0, .int .i64 0, .int .i64 0, .string ⟨#[]⟩, .slice none 0 0, .int .i64 0, .int .i64 0, .string ⟨#[]⟩, .slice none 0 0, .int .i64 0, .int .i64 0, .string ⟨#[]⟩, .slice none 0 0] (unhide HR) rfl (by simp [Value.oneCell']) rfl rfl (unhide HBR) (Nat.le_refl _) ?_; intro W hW hBW; have x0 : W.cell? ⟨w1.heap.size, 0, none⟩ = some (.int .i64 0) := (by simpa using hW.cells 0 _ rfl); have x1 : W.cell? ⟨w1.heap.size, 1, none⟩ = some (.int .i64 0) := (by simpa using hW.cells 1 _ rfl); have x2 : W.cell? ⟨w1.heap.size, 2, none⟩ = some (.string ⟨#[]⟩) := (by simpa using hW.cells 2 _ rfl); have x3 : W.cell? ⟨w1.heap.size, 3, none⟩ = some (.slice none 0 0) := (by simpa using hW.cells 3 _ rfl); have HW := hide hW; have HBW := hide hBW; clear hW hBW)
  have HB2 := hide (bt (unhide HB1) (unhide HBW) (Nat.le_refl _))
  have HE2 := hide ((unhide HE1).on (unhide HBW))
  have HZ0 := hide ((unhide HZ0).below (unhide HBW))
  have HZ1 := hide ((unhide HZ1).below (unhide HBW))
  have HZ2 := hide ((unhide HZ2).below (unhide HBW))
  have HZ3 := hide ((unhide HZ3).below (unhide HBW))
  have HLT2 := hide (unhide HBW).size
  have HRL : Hid (w1.heap.size < W.heap.size) := by have := ((unhide HW).there 0 (by omega)).1; obtain ⟨u, hu⟩ := Option.isSome_iff_exists.1 this; exact lt_of_cell hu
  clear HR HBR HB1 HE1
  clear HBW
  clear x0 x1 x2 x3
  refine (answer_no 0 0 ⟨#[]⟩ none 0 0 x _ (unhide HE2)).mono ?_
  rintro q w2 ⟨rfl, hb⟩
  have hp := bt hb (ab (.cells #[.int .i64 0, .int .i64 0, .string ByteArray.empty, .slice none 0 0] 29)) (Nat.le_refl _)
  have HB2 := hide (bt (unhide HB2) hp (Nat.le_refl _))
  have HE2 := hide ((unhide HE2).on hp)
  have HW := hide ((unhide HW).below hp)
  have HZ0 := hide ((unhide HZ0).below hp)
  have HZ1 := hide ((unhide HZ1).below hp)
  have HZ2 := hide ((unhide HZ2).below hp)
  have HZ3 := hide ((unhide HZ3).below hp)
  have HX0 := hide (RowT.new 29 w2 0 0 ByteArray.empty none 0 0)
  have HJ0 : Hid (W.heap.size ≤ w2.heap.size) := by have := hb.size; show _ ≤ _; omega
  have HK0 : Hid (w2.heap.size + 1 = (w2.alloc (.cells #[.int .i64 0, .int .i64 0, .string ByteArray.empty, .slice none 0 0] 29)).heap.size) := by show _ = _; rw [heap_size_alloc]
  clear hb hp
  have x0 : (w2.alloc (.cells #[.int .i64 0, .int .i64 0, .string ByteArray.empty, .slice none 0 0] 29)).cell? ⟨w1.heap.size, 4, none⟩ = some (.int .i64 0) := by simpa using (unhide HW).cells 4 _ rfl
  have x1 : (w2.alloc (.cells #[.int .i64 0, .int .i64 0, .string ByteArray.empty, .slice none 0 0] 29)).cell? ⟨w1.heap.size, 5, none⟩ = some (.int .i64 0) := by simpa using (unhide HW).cells 5 _ rfl
  have x2 : (w2.alloc (.cells #[.int .i64 0, .int .i64 0, .string ByteArray.empty, .slice none 0 0] 29)).cell? ⟨w1.heap.size, 6, none⟩ = some (.string ⟨#[]⟩) := by simpa using (unhide HW).cells 6 _ rfl
  have x3 : (w2.alloc (.cells #[.int .i64 0, .int .i64 0, .string ByteArray.empty, .slice none 0 0] 29)).cell? ⟨w1.heap.size, 7, none⟩ = some (.slice none 0 0) := by simpa using (unhide HW).cells 7 _ rfl
  go_wp2_with fail
  clear x0 x1 x2 x3
  generalize hgw : w2.alloc (.cells #[.int .i64 0, .int .i64 0, .string ByteArray.empty, .slice none 0 0] 29) = V0 at *
  clear hgw
  generalize w2.heap.size = b0 at *
  refine (answer_no 0 0 ⟨#[]⟩ none 0 0 x _ (unhide HE2)).mono ?_
  rintro q w3 ⟨rfl, hb⟩
  have hp := bt hb (ab (.cells #[.int .i64 0, .int .i64 0, .string ByteArray.empty, .slice none 0 0] 29)) (Nat.le_refl _)
  have HB2 := hide (bt (unhide HB2) hp (Nat.le_refl _))
  have HE2 := hide ((unhide HE2).on hp)
  have HW := hide ((unhide HW).below hp)
  have HZ0 := hide ((unhide HZ0).below hp)
  have HZ1 := hide ((unhide HZ1).below hp)
  have HZ2 := hide ((unhide HZ2).below hp)
  have HZ3 := hide ((unhide HZ3).below hp)
  have HX0 := hide ((unhide HX0).below hp)
  have HX1 := hide (RowT.new 29 w3 0 0 ByteArray.empty none 0 0)
  have HJ1 : Hid (b0 < w3.heap.size) := by have := hb.size; have := unhide HK0; show _ < _; omega
  have HK1 : Hid (w3.heap.size + 1 = (w3.alloc (.cells #[.int .i64 0, .int .i64 0, .string ByteArray.empty, .slice none 0 0] 29)).heap.size) := by show _ = _; rw [heap_size_alloc]
  clear hb hp
  have x0 : (w3.alloc (.cells #[.int .i64 0, .int .i64 0, .string ByteArray.empty, .slice none 0 0] 29)).cell? ⟨w1.heap.size, 8, none⟩ = some (.int .i64 0) := by simpa using (unhide HW).cells 8 _ rfl
  have x1 : (w3.alloc (.cells #[.int .i64 0, .int .i64 0, .string ByteArray.empty, .slice none 0 0] 29)).cell? ⟨w1.heap.size, 9, none⟩ = some (.int .i64 0) := by simpa using (unhide HW).cells 9 _ rfl
  have x2 : (w3.alloc (.cells #[.int .i64 0, .int .i64 0, .string ByteArray.empty, .slice none 0 0] 29)).cell? ⟨w1.heap.size, 10, none⟩ = some (.string ⟨#[]⟩) := by simpa using (unhide HW).cells 10 _ rfl
  have x3 : (w3.alloc (.cells #[.int .i64 0, .int .i64 0, .string ByteArray.empty, .slice none 0 0] 29)).cell? ⟨w1.heap.size, 11, none⟩ = some (.slice none 0 0) := by simpa using (unhide HW).cells 11 _ rfl
  go_wp2_with fail
  clear x0 x1 x2 x3
  generalize hgw : w3.alloc (.cells #[.int .i64 0, .int .i64 0, .string ByteArray.empty, .slice none 0 0] 29) = V1 at *
  clear hgw
  generalize w3.heap.size = b1 at *
  refine (answer_no 0 0 ⟨#[]⟩ none 0 0 x _ (unhide HE2)).mono ?_
  rintro q w4 ⟨rfl, hb⟩
  have hp := bt hb (ab (.cells #[.int .i64 0, .int .i64 0, .string ByteArray.empty, .slice none 0 0] 29)) (Nat.le_refl _)
  have HB2 := hide (bt (unhide HB2) hp (Nat.le_refl _))
  have HE2 := hide ((unhide HE2).on hp)
  have HW := hide ((unhide HW).below hp)
  have HZ0 := hide ((unhide HZ0).below hp)
  have HZ1 := hide ((unhide HZ1).below hp)
  have HZ2 := hide ((unhide HZ2).below hp)
  have HZ3 := hide ((unhide HZ3).below hp)
  have HX0 := hide ((unhide HX0).below hp)
  have HX1 := hide ((unhide HX1).below hp)
  have HX2 := hide (RowT.new 29 w4 0 0 ByteArray.empty none 0 0)
  have HJ2 : Hid (b1 < w4.heap.size) := by have := hb.size; have := unhide HK1; show _ < _; omega
  have HK2 : Hid (w4.heap.size + 1 = (w4.alloc (.cells #[.int .i64 0, .int .i64 0, .string ByteArray.empty, .slice none 0 0] 29)).heap.size) := by show _ = _; rw [heap_size_alloc]
  clear hb hp
  have x0 : (w4.alloc (.cells #[.int .i64 0, .int .i64 0, .string ByteArray.empty, .slice none 0 0] 29)).cell? ⟨w1.heap.size, 12, none⟩ = some (.int .i64 0) := by simpa using (unhide HW).cells 12 _ rfl
  have x1 : (w4.alloc (.cells #[.int .i64 0, .int .i64 0, .string ByteArray.empty, .slice none 0 0] 29)).cell? ⟨w1.heap.size, 13, none⟩ = some (.int .i64 0) := by simpa using (unhide HW).cells 13 _ rfl
  have x2 : (w4.alloc (.cells #[.int .i64 0, .int .i64 0, .string ByteArray.empty, .slice none 0 0] 29)).cell? ⟨w1.heap.size, 14, none⟩ = some (.string ⟨#[]⟩) := by simpa using (unhide HW).cells 14 _ rfl
  have x3 : (w4.alloc (.cells #[.int .i64 0, .int .i64 0, .string ByteArray.empty, .slice none 0 0] 29)).cell? ⟨w1.heap.size, 15, none⟩ = some (.slice none 0 0) := by simpa using (unhide HW).cells 15 _ rfl
  go_wp2_with fail
  clear x0 x1 x2 x3
  generalize hgw : w4.alloc (.cells #[.int .i64 0, .int .i64 0, .string ByteArray.empty, .slice none 0 0] 29) = V2 at *
  clear hgw
  generalize w4.heap.size = b2 at *
  refine (answer_no 0 0 ⟨#[]⟩ none 0 0 x _ (unhide HE2)).mono ?_
  rintro q w5 ⟨rfl, hb⟩
  have hp := bt hb (ab (.cells #[.int .i64 0, .int .i64 0, .string ByteArray.empty, .slice none 0 0] 29)) (Nat.le_refl _)
  have HB2 := hide (bt (unhide HB2) hp (Nat.le_refl _))
  have HE2 := hide ((unhide HE2).on hp)
  have HW := hide ((unhide HW).below hp)
  have HZ0 := hide ((unhide HZ0).below hp)
  have HZ1 := hide ((unhide HZ1).below hp)
  have HZ2 := hide ((unhide HZ2).below hp)
  have HZ3 := hide ((unhide HZ3).below hp)
  have HX0 := hide ((unhide HX0).below hp)
  have HX1 := hide ((unhide HX1).below hp)
  have HX2 := hide ((unhide HX2).below hp)
  have HX3 := hide (RowT.new 29 w5 0 0 ByteArray.empty none 0 0)
  have HJ3 : Hid (b2 < w5.heap.size) := by have := hb.size; have := unhide HK2; show _ < _; omega
  have HK3 : Hid (w5.heap.size + 1 = (w5.alloc (.cells #[.int .i64 0, .int .i64 0, .string ByteArray.empty, .slice none 0 0] 29)).heap.size) := by show _ = _; rw [heap_size_alloc]
  clear hb hp
  go_wp2_with fail
  generalize hgw : w5.alloc (.cells #[.int .i64 0, .int .i64 0, .string ByteArray.empty, .slice none 0 0] 29) = V3 at *
  clear hgw
  generalize w5.heap.size = b3 at *
  have FF := far4 (unhide HLT) (unhide HLT2) (unhide HJ0) (unhide HJ1) (unhide HJ2) (unhide HJ3)
  have F0 := ne_far FF.1
  have F1 := ne_far FF.2.1
  have F2 := ne_far FF.2.2.1
  have F3 := ne_far FF.2.2.2
  refine wp_region_held (S := fun y => RowT 29 y b0 0 0 ByteArray.empty none 0 0 ∧ RowT 29 y b1 0 0 ByteArray.empty none 0 0 ∧ RowT 29 y b2 0 0 ByteArray.empty none 0 0 ∧ RowT 29 y b3 0 0 ByteArray.empty none 0 0) (by kernel_rfl) ?_
  have hS : (fun y : World => RowT 29 y b0 0 0 ByteArray.empty none 0 0 ∧ RowT 29 y b1 0 0 ByteArray.empty none 0 0 ∧ RowT 29 y b2 0 0 ByteArray.empty none 0 0 ∧ RowT 29 y b3 0 0 ByteArray.empty none 0 0) V3.drew := ⟨unhide HX0, unhide HX1, unhide HX2, unhide HX3⟩
  show wpAnyH _ _ _ _ _ _ _ _ V3.drew
  refine take_load (i := 0) rfl rfl (fun y h => h.1) (by kernel_rfl) (by kernel_rfl) (by kernel_rfl) (fun _ _ _ _ h => h) hS ?_
  simp only [Act.put, List.setIfInBounds_toArray, List.set_cons_succ, List.set_cons_zero]
  refine take_load (i := 1) rfl rfl (fun y h => h.2.1) (by kernel_rfl) (by kernel_rfl) (by kernel_rfl) (fun _ _ _ _ h => h) hS ?_
  simp only [Act.put, List.setIfInBounds_toArray, List.set_cons_succ, List.set_cons_zero]
  refine take_load (i := 2) rfl rfl (fun y h => h.2.2.1) (by kernel_rfl) (by kernel_rfl) (by kernel_rfl) (fun _ _ _ _ h => h) hS ?_
  simp only [Act.put, List.setIfInBounds_toArray, List.set_cons_succ, List.set_cons_zero]
  refine take_load (i := 3) rfl rfl (fun y h => h.2.2.2) (by kernel_rfl) (by kernel_rfl) (by kernel_rfl) (fun _ _ _ _ h => h) hS ?_
  simp only [Act.put, List.setIfInBounds_toArray, List.set_cons_succ, List.set_cons_zero]
  refine take_move (i := 4) rfl rfl (by kernel_rfl) (by kernel_rfl) (by kernel_rfl) (fun _ _ _ _ h => h) hS ?_
  simp only [Act.put, List.setIfInBounds_toArray, List.set_cons_succ, List.set_cons_zero]
  refine all_store (i := 5) (by kernel_rfl) rfl rfl rfl (unhide HZ0) (⟨RowT.other hS.1 F0.1, RowT.other hS.2.1 F1.1, RowT.other hS.2.2.1 F2.1, RowT.other hS.2.2.2 F3.1⟩) fun hS => ?_
  refine all_store (i := 6) (by kernel_rfl) rfl rfl rfl (RowT.other (unhide HZ1) (zne _).1.1) (⟨RowT.other hS.1 F0.2.1, RowT.other hS.2.1 F1.2.1, RowT.other hS.2.2.1 F2.2.1, RowT.other hS.2.2.2 F3.2.1⟩) fun hS => ?_
  refine all_store (i := 7) (by kernel_rfl) rfl rfl rfl (RowT.other (RowT.other (unhide HZ2) (zne _).1.2.1) (zne _).2.1.1) (⟨RowT.other hS.1 F0.2.2.1, RowT.other hS.2.1 F1.2.2.1, RowT.other hS.2.2.1 F2.2.2.1, RowT.other hS.2.2.2 F3.2.2.1⟩) fun hS => ?_
  refine all_store (i := 8) (by kernel_rfl) rfl rfl rfl (RowT.other (RowT.other (RowT.other (unhide HZ3) (zne _).1.2.2) (zne _).2.1.2) (zne _).2.2) (⟨RowT.other hS.1 F0.2.2.2, RowT.other hS.2.1 F1.2.2.2, RowT.other hS.2.2.1 F2.2.2.2, RowT.other hS.2.2.2 F3.2.2.2⟩) fun hS => ?_
  refine all_assign (i := 9) (by kernel_rfl) rfl rfl hS ?_
  refine wpAnyH_done (by kernel_rfl) ?_ _
  simp only [Act.put, List.setIfInBounds_toArray, List.set_cons_succ, List.set_cons_zero]
  go_wp2_with fail
  obtain ⟨r0, r1, r2, r3⟩ := fill_four (w := V3.drew) (op0 := 0) (n0 := 0) (s0 := ByteArray.empty) (a0 := none) (l0 := 0) (k0 := 0) (op1 := 0) (n1 := 0) (s1 := ByteArray.empty) (a1 := none) (l1 := 0) (k1 := 0) (op2 := 0) (n2 := 0) (s2 := ByteArray.empty) (a2 := none) (l2 := 0) (k2 := 0) (op3 := 0) (n3 := 0) (s3 := ByteArray.empty) (a3 := none) (l3 := 0) (k3 := 0) (unhide HZ0) (unhide HZ1) (unhide HZ2) (unhide HZ3)
  exact bodyPost_ret (v := .tuple #[.agg #[.int .i64 0, .int .i64 0, .string ⟨#[]⟩, .slice none 0 0], .agg #[.int .i64 0, .int .i64 0, .string ⟨#[]⟩, .slice none 0 0], .agg #[.int .i64 0, .int .i64 0, .string ⟨#[]⟩, .slice none 0 0], .agg #[.int .i64 0, .int .i64 0, .string ⟨#[]⟩, .slice none 0 0], .bool false]) (results_cells4 Tryz.results19 rfl rfl rfl rfl (RowT.load r0) (RowT.load r1) (RowT.load r2) (RowT.load r3)) rfl ⟨rfl, fill_four_below (w := V3.drew) (unhide HB2).drew (le_two _)⟩

/-- Four terms, each in memory of its own. -/
def FourI (pub sh c g : Tm) (w : World) (q : Ending) (w' : World) : Prop := ∃ op4 n4 s4 a4 len4 cap4 f4 op6 n6 s6 a6 len6 cap6 f6 op9 n9 s9 a9 len9 cap9 f9 op10 n10 s10 a10 len10 cap10 f10, q = .returned (.tuple #[.agg #[.int .i64 op4, .int .i64 n4, .string s4, .slice a4 len4 cap4], .agg #[.int .i64 op6, .int .i64 n6, .string s6, .slice a6 len6 cap6], .agg #[.int .i64 op9, .int .i64 n9, .string s9, .slice a9 len9 cap9], .agg #[.int .i64 op10, .int .i64 n10, .string s10, .slice a10 len10 cap10], .bool true]) ∧ Own w' pub (tmCells op4 n4 s4 a4 len4 cap4) f4 ∧ Own w' sh (tmCells op6 n6 s6 a6 len6 cap6) f6 ∧ Own w' c (tmCells op9 n9 s9 a9 len9 cap9) f9 ∧ Own w' g (tmCells op10 n10 s10 a10 len10 cap10) f10 ∧ (f4.Nodup ∧ f6.Nodup ∧ f9.Nodup ∧ f10.Nodup) ∧ (∃ m0 m1 m2 m3, w.heap.size ≤ m0 ∧ m0 ≤ m1 ∧ m1 ≤ m2 ∧ m2 ≤ m3 ∧ m3 ≤ w'.heap.size ∧ (∀ y ∈ f4, m0 ≤ y ∧ y < m1) ∧ (∀ y ∈ f6, m1 < y ∧ y < m2) ∧ (∀ y ∈ f9, m2 < y ∧ y < m3) ∧ (∀ y ∈ f10, m3 < y)) ∧ Below w.heap.size w w'

set_option maxRecDepth 100000 in
set_option maxHeartbeats 4000000 in
theorem rofI_yes (e t pub sh c g : Tm) (op n : Int) (s : ByteArray) (a : Option Addr) (len cap : Nat) (op2 n2 : Int) (s2 : ByteArray) (a2 : Option Addr) (len2 cap2 : Nat) (x : Addr) (w : World) (he : ErrAt x w) (htab : Tab w) (hl : Lies w 0 e (tmCells op n s a len cap)) (hl2 : Lies w 0 t (tmCells op2 n2 s2 a2 len2 cap2)) (hst : e.size + t.size ≤ 1048578) (h : replyO e t = some (pub, sh, c, g)) : Calls Tryz.prog 19 #[.agg #[.int .i64 op, .int .i64 n, .string s, .slice a len cap], .agg #[.int .i64 op2, .int .i64 n2, .string s2, .slice a2 len2 cap2]] w fun q w' => FourI pub sh c g w q w' := by
  have hb0 : Below w.heap.size w ((((((w.alloc (.cells #[.int .i64 op, .int .i64 n, .string s, .slice a len cap] 29)).alloc (.cells #[.int .i64 op2, .int .i64 n2, .string s2, .slice a2 len2 cap2] 29)).alloc (.cells #[.int .i64 0, .int .i64 0, .string ⟨#[]⟩, .slice none 0 0] 29)).alloc (.cells #[.int .i64 0, .int .i64 0, .string ⟨#[]⟩, .slice none 0 0] 29)).alloc (.cells #[.int .i64 0, .int .i64 0, .string ⟨#[]⟩, .slice none 0 0] 29)).alloc (.cells #[.int .i64 0, .int .i64 0, .string ⟨#[]⟩, .slice none 0 0] 29)) := bt (bt (bt (bt (bt (ab _) (ab _) (Nat.le_refl _)) (ab _) (Nat.le_refl _)) (ab _) (Nat.le_refl _)) (ab _) (Nat.le_refl _)) (ab _) (Nat.le_refl _)
  have HZ0 : Hid (RowT 29 ((((((w.alloc (.cells #[.int .i64 op, .int .i64 n, .string s, .slice a len cap] 29)).alloc (.cells #[.int .i64 op2, .int .i64 n2, .string s2, .slice a2 len2 cap2] 29)).alloc (.cells #[.int .i64 0, .int .i64 0, .string ⟨#[]⟩, .slice none 0 0] 29)).alloc (.cells #[.int .i64 0, .int .i64 0, .string ⟨#[]⟩, .slice none 0 0] 29)).alloc (.cells #[.int .i64 0, .int .i64 0, .string ⟨#[]⟩, .slice none 0 0] 29)).alloc (.cells #[.int .i64 0, .int .i64 0, .string ⟨#[]⟩, .slice none 0 0] 29)) (w.heap.size + 1 + 1) 0 0 ⟨#[]⟩ none 0 0) := by
    have := (((RowT.new 29 ((w.alloc (.cells #[.int .i64 op, .int .i64 n, .string s, .slice a len cap] 29)).alloc (.cells #[.int .i64 op2, .int .i64 n2, .string s2, .slice a2 len2 cap2] 29)) 0 0 ⟨#[]⟩ none 0 0).below (ab (.cells #[.int .i64 0, .int .i64 0, .string ⟨#[]⟩, .slice none 0 0] 29))).below (ab (.cells #[.int .i64 0, .int .i64 0, .string ⟨#[]⟩, .slice none 0 0] 29))).below (ab (.cells #[.int .i64 0, .int .i64 0, .string ⟨#[]⟩, .slice none 0 0] 29))
    rwa [heap_size_alloc, heap_size_alloc] at this
  have HZ1 : Hid (RowT 29 ((((((w.alloc (.cells #[.int .i64 op, .int .i64 n, .string s, .slice a len cap] 29)).alloc (.cells #[.int .i64 op2, .int .i64 n2, .string s2, .slice a2 len2 cap2] 29)).alloc (.cells #[.int .i64 0, .int .i64 0, .string ⟨#[]⟩, .slice none 0 0] 29)).alloc (.cells #[.int .i64 0, .int .i64 0, .string ⟨#[]⟩, .slice none 0 0] 29)).alloc (.cells #[.int .i64 0, .int .i64 0, .string ⟨#[]⟩, .slice none 0 0] 29)).alloc (.cells #[.int .i64 0, .int .i64 0, .string ⟨#[]⟩, .slice none 0 0] 29)) (w.heap.size + 1 + 1 + 1) 0 0 ⟨#[]⟩ none 0 0) := by
    have := ((RowT.new 29 (((w.alloc (.cells #[.int .i64 op, .int .i64 n, .string s, .slice a len cap] 29)).alloc (.cells #[.int .i64 op2, .int .i64 n2, .string s2, .slice a2 len2 cap2] 29)).alloc (.cells #[.int .i64 0, .int .i64 0, .string ⟨#[]⟩, .slice none 0 0] 29)) 0 0 ⟨#[]⟩ none 0 0).below (ab (.cells #[.int .i64 0, .int .i64 0, .string ⟨#[]⟩, .slice none 0 0] 29))).below (ab (.cells #[.int .i64 0, .int .i64 0, .string ⟨#[]⟩, .slice none 0 0] 29))
    rwa [heap_size_alloc, heap_size_alloc, heap_size_alloc] at this
  have HZ2 : Hid (RowT 29 ((((((w.alloc (.cells #[.int .i64 op, .int .i64 n, .string s, .slice a len cap] 29)).alloc (.cells #[.int .i64 op2, .int .i64 n2, .string s2, .slice a2 len2 cap2] 29)).alloc (.cells #[.int .i64 0, .int .i64 0, .string ⟨#[]⟩, .slice none 0 0] 29)).alloc (.cells #[.int .i64 0, .int .i64 0, .string ⟨#[]⟩, .slice none 0 0] 29)).alloc (.cells #[.int .i64 0, .int .i64 0, .string ⟨#[]⟩, .slice none 0 0] 29)).alloc (.cells #[.int .i64 0, .int .i64 0, .string ⟨#[]⟩, .slice none 0 0] 29)) (w.heap.size + 1 + 1 + 1 + 1) 0 0 ⟨#[]⟩ none 0 0) := by
    have := (RowT.new 29 ((((w.alloc (.cells #[.int .i64 op, .int .i64 n, .string s, .slice a len cap] 29)).alloc (.cells #[.int .i64 op2, .int .i64 n2, .string s2, .slice a2 len2 cap2] 29)).alloc (.cells #[.int .i64 0, .int .i64 0, .string ⟨#[]⟩, .slice none 0 0] 29)).alloc (.cells #[.int .i64 0, .int .i64 0, .string ⟨#[]⟩, .slice none 0 0] 29)) 0 0 ⟨#[]⟩ none 0 0).below (ab (.cells #[.int .i64 0, .int .i64 0, .string ⟨#[]⟩, .slice none 0 0] 29))
    rwa [heap_size_alloc, heap_size_alloc, heap_size_alloc, heap_size_alloc] at this
  have HZ3 : Hid (RowT 29 ((((((w.alloc (.cells #[.int .i64 op, .int .i64 n, .string s, .slice a len cap] 29)).alloc (.cells #[.int .i64 op2, .int .i64 n2, .string s2, .slice a2 len2 cap2] 29)).alloc (.cells #[.int .i64 0, .int .i64 0, .string ⟨#[]⟩, .slice none 0 0] 29)).alloc (.cells #[.int .i64 0, .int .i64 0, .string ⟨#[]⟩, .slice none 0 0] 29)).alloc (.cells #[.int .i64 0, .int .i64 0, .string ⟨#[]⟩, .slice none 0 0] 29)).alloc (.cells #[.int .i64 0, .int .i64 0, .string ⟨#[]⟩, .slice none 0 0] 29)) (w.heap.size + 1 + 1 + 1 + 1 + 1) 0 0 ⟨#[]⟩ none 0 0) := by
    have := RowT.new 29 (((((w.alloc (.cells #[.int .i64 op, .int .i64 n, .string s, .slice a len cap] 29)).alloc (.cells #[.int .i64 op2, .int .i64 n2, .string s2, .slice a2 len2 cap2] 29)).alloc (.cells #[.int .i64 0, .int .i64 0, .string ⟨#[]⟩, .slice none 0 0] 29)).alloc (.cells #[.int .i64 0, .int .i64 0, .string ⟨#[]⟩, .slice none 0 0] 29)).alloc (.cells #[.int .i64 0, .int .i64 0, .string ⟨#[]⟩, .slice none 0 0] 29)) 0 0 ⟨#[]⟩ none 0 0
    rwa [heap_size_alloc, heap_size_alloc, heap_size_alloc, heap_size_alloc, heap_size_alloc] at this
  have HLE := hide (hl.below hb0)
  have HL2 := hide (hl2.below hb0)
  have HER := hide (he.on hb0)
  have HTB := hide (htab.on hb0)
  have HB0 := hide hb0
  have HH := hide h
  have HST := hide hst
  clear he hl hl2 hb0 htab h hst
  go_enter Tryz.func19, Tryz.ntmps19
  go_wp2_with fail
  generalize hgw : ((((((w.alloc (.cells #[.int .i64 op, .int .i64 n, .string s, .slice a len cap] 29)).alloc (.cells #[.int .i64 op2, .int .i64 n2, .string s2, .slice a2 len2 cap2] 29)).alloc (.cells #[.int .i64 0, .int .i64 0, .string ⟨#[]⟩, .slice none 0 0] 29)).alloc (.cells #[.int .i64 0, .int .i64 0, .string ⟨#[]⟩, .slice none 0 0] 29)).alloc (.cells #[.int .i64 0, .int .i64 0, .string ⟨#[]⟩, .slice none 0 0] 29)).alloc (.cells #[.int .i64 0, .int .i64 0, .string ⟨#[]⟩, .slice none 0 0] 29)) = W1 at *
  clear hgw
  refine (readI_some e t pub sh c g op n s a len cap op2 n2 s2 a2 len2 cap2 x _ (unhide HER) (unhide HTB) (unhide HLE) (unhide HL2) (unhide HST) (unhide HH)).mono ?_
  rintro q w1 ⟨op4, n4, s4, a4, len4, cap4, op6, n6, s6, a6, len6, cap6, op9, n9, s9, a9, len9, cap9, op10, n10, s10, a10, len10, cap10, rfl, h4, h6, h9, h10, hb1⟩
  have HOK := hide (replyO_ok (unhide HH))
  have HL4 := hide h4
  have HL6 := hide h6
  have HL9 := hide h9
  have HL10 := hide h10
  clear h4 h6 h9 h10 HH HST
  have HR : Hid (RowVR (w1.alloc (.cells #[.int .i64 0, .int .i64 0, .string ⟨#[]⟩, .slice none 0 0, .int .i64 0, .int .i64 0, .string ⟨#[]⟩, .slice none 0 0, .int .i64 0, .int .i64 0, .string ⟨#[]⟩, .slice none 0 0, .int .i64 0, .int .i64 0, .string ⟨#[]⟩, .slice none 0 0] 89)) w1.heap.size #[.int .i64 0, .int .i64 0, .string ⟨#[]⟩, .slice none 0 0, .int .i64 0, .int .i64 0, .string ⟨#[]⟩, .slice none 0 0, .int .i64 0, .int .i64 0, .string ⟨#[]⟩, .slice none 0 0, .int .i64 0, .int .i64 0, .string ⟨#[]⟩, .slice none 0 0]) := RowVR.new w1 _ rfl
  have HBR : Hid (Below w1.heap.size w1 (w1.alloc (.cells #[.int .i64 0, .int .i64 0, .string ⟨#[]⟩, .slice none 0 0, .int .i64 0, .int .i64 0, .string ⟨#[]⟩, .slice none 0 0, .int .i64 0, .int .i64 0, .string ⟨#[]⟩, .slice none 0 0, .int .i64 0, .int .i64 0, .string ⟨#[]⟩, .slice none 0 0] 89))) := ab _
  have HB1 := hide (bt (unhide HB0) hb1 (Nat.le_refl _))
  have HE1 := hide ((unhide HER).on hb1)
  have HZ0 := hide ((unhide HZ0).below hb1)
  have HZ1 := hide ((unhide HZ1).below hb1)
  have HZ2 := hide ((unhide HZ2).below hb1)
  have HZ3 := hide ((unhide HZ3).below hb1)
  have HLT : Hid (w.heap.size + 6 ≤ w1.heap.size) := by have := hb1.size; have := (unhide HZ3).lt; show _ ≤ _; omega
  clear hb1 HB0 HER HLE HL2 HTB
  go_wp2_with (refine wpList_storeR rfl (.tmp 9) (.tmp 23) rfl #[.int .i64 op4, .int .i64 n4, .string s4, .slice a4 len4 cap4, .int .i64 op6, .int .i64 n6, .string s6, .slice a6 len6 cap6, .int .i64 op9, .int .i64 n9, .string s9, .slice a9 len9 cap9, .int .i64 op10, .int .i64 n10, .string s10, .slice a10 len10 cap10] (unhide HR) rfl (by simp [Value.oneCell']) rfl rfl (unhide HBR) (Nat.le_refl _) ?_; intro W hW hBW; have x0 : W.cell? ⟨w1.heap.size, 0, none⟩ = some (.int .i64 op4) := (by simpa using hW.cells 0 _ rfl); have x1 : W.cell? ⟨w1.heap.size, 1, none⟩ = some (.int .i64 n4) := (by simpa using hW.cells 1 _ rfl); have x2 : W.cell? ⟨w1.heap.size, 2, none⟩ = some (.string s4) := (by simpa using hW.cells 2 _ rfl); have x3 : W.cell? ⟨w1.heap.size, 3, none⟩ = some (.slice a4 len4 cap4) := (by simpa using hW.cells 3 _ rfl); have HW := hide hW; have HBW := hide hBW; clear hW hBW)
  have HB2 := hide (bt (unhide HB1) (unhide HBW) (Nat.le_refl _))
  have HE2 := hide ((unhide HE1).on (unhide HBW))
  have HZ0 := hide ((unhide HZ0).below (unhide HBW))
  have HZ1 := hide ((unhide HZ1).below (unhide HBW))
  have HZ2 := hide ((unhide HZ2).below (unhide HBW))
  have HZ3 := hide ((unhide HZ3).below (unhide HBW))
  have HLT2 := hide (unhide HBW).size
  have HRL : Hid (w1.heap.size < W.heap.size) := by have := ((unhide HW).there 0 (by omega)).1; obtain ⟨u, hu⟩ := Option.isSome_iff_exists.1 this; exact lt_of_cell hu
  clear HR HBR HB1 HE1
  have HL4 := hide ((unhide HL4).below (unhide HBW))
  have HL6 := hide ((unhide HL6).below (unhide HBW))
  have HL9 := hide ((unhide HL9).below (unhide HBW))
  have HL10 := hide ((unhide HL10).below (unhide HBW))
  clear HBW
  clear x0 x1 x2 x3
  refine (answer_yes pub op4 n4 s4 a4 len4 cap4 x _ (unhide HL4) (by have := okT_small (unhide HOK).1; omega) (unhide HE2)).mono ?_
  rintro q w2 ⟨a4', cap4', f4, rfl, hO, ⟨hnd, hge⟩, hb⟩
  have hp := bt hb (ab (.cells #[.int .i64 op4, .int .i64 n4, .string s4, .slice a4' len4 cap4'] 29)) (Nat.le_refl _)
  have HB2 := hide (bt (unhide HB2) hp (Nat.le_refl _))
  have HE2 := hide ((unhide HE2).on hp)
  have HW := hide ((unhide HW).below hp)
  have HZ0 := hide ((unhide HZ0).below hp)
  have HZ1 := hide ((unhide HZ1).below hp)
  have HZ2 := hide ((unhide HZ2).below hp)
  have HZ3 := hide ((unhide HZ3).below hp)
  have HX0 := hide (RowT.new 29 w2 op4 n4 s4 a4' len4 cap4')
  have HL6 := hide ((unhide HL6).below hp)
  have HL9 := hide ((unhide HL9).below hp)
  have HL10 := hide ((unhide HL10).below hp)
  have HO0 := hide (hO.below (ab (.cells #[.int .i64 op4, .int .i64 n4, .string s4, .slice a4' len4 cap4'] 29)))
  have HND0 := hide hnd
  have HI0 : Hid (∀ y ∈ f4, W.heap.size ≤ y ∧ y < w2.heap.size) := fun y hy => ⟨by have := hge y hy; omega, Own.lt _ _ _ hO y hy⟩
  have HJ0 : Hid (W.heap.size ≤ w2.heap.size) := by have := hb.size; show _ ≤ _; omega
  clear hO hnd hge HL4
  have HK0 : Hid (w2.heap.size + 1 = (w2.alloc (.cells #[.int .i64 op4, .int .i64 n4, .string s4, .slice a4' len4 cap4'] 29)).heap.size) := by show _ = _; rw [heap_size_alloc]
  clear hb hp
  have x0 : (w2.alloc (.cells #[.int .i64 op4, .int .i64 n4, .string s4, .slice a4' len4 cap4'] 29)).cell? ⟨w1.heap.size, 4, none⟩ = some (.int .i64 op6) := by simpa using (unhide HW).cells 4 _ rfl
  have x1 : (w2.alloc (.cells #[.int .i64 op4, .int .i64 n4, .string s4, .slice a4' len4 cap4'] 29)).cell? ⟨w1.heap.size, 5, none⟩ = some (.int .i64 n6) := by simpa using (unhide HW).cells 5 _ rfl
  have x2 : (w2.alloc (.cells #[.int .i64 op4, .int .i64 n4, .string s4, .slice a4' len4 cap4'] 29)).cell? ⟨w1.heap.size, 6, none⟩ = some (.string s6) := by simpa using (unhide HW).cells 6 _ rfl
  have x3 : (w2.alloc (.cells #[.int .i64 op4, .int .i64 n4, .string s4, .slice a4' len4 cap4'] 29)).cell? ⟨w1.heap.size, 7, none⟩ = some (.slice a6 len6 cap6) := by simpa using (unhide HW).cells 7 _ rfl
  go_wp2_with fail
  clear x0 x1 x2 x3
  generalize hgw : w2.alloc (.cells #[.int .i64 op4, .int .i64 n4, .string s4, .slice a4' len4 cap4'] 29) = V0 at *
  clear hgw
  generalize w2.heap.size = b0 at *
  refine (answer_yes sh op6 n6 s6 a6 len6 cap6 x _ (unhide HL6) (by have := okT_small (unhide HOK).2.1; omega) (unhide HE2)).mono ?_
  rintro q w3 ⟨a6', cap6', f6, rfl, hO, ⟨hnd, hge⟩, hb⟩
  have hp := bt hb (ab (.cells #[.int .i64 op6, .int .i64 n6, .string s6, .slice a6' len6 cap6'] 29)) (Nat.le_refl _)
  have HB2 := hide (bt (unhide HB2) hp (Nat.le_refl _))
  have HE2 := hide ((unhide HE2).on hp)
  have HW := hide ((unhide HW).below hp)
  have HZ0 := hide ((unhide HZ0).below hp)
  have HZ1 := hide ((unhide HZ1).below hp)
  have HZ2 := hide ((unhide HZ2).below hp)
  have HZ3 := hide ((unhide HZ3).below hp)
  have HX0 := hide ((unhide HX0).below hp)
  have HX1 := hide (RowT.new 29 w3 op6 n6 s6 a6' len6 cap6')
  have HO0 := hide ((unhide HO0).below hp)
  have HL9 := hide ((unhide HL9).below hp)
  have HL10 := hide ((unhide HL10).below hp)
  have HO1 := hide (hO.below (ab (.cells #[.int .i64 op6, .int .i64 n6, .string s6, .slice a6' len6 cap6'] 29)))
  have HND1 := hide hnd
  have HI1 : Hid (∀ y ∈ f6, b0 < y ∧ y < w3.heap.size) := fun y hy => ⟨by have := hge y hy; have := unhide HK0; omega, Own.lt _ _ _ hO y hy⟩
  have HJ1 : Hid (b0 < w3.heap.size) := by have := hb.size; have := unhide HK0; show _ < _; omega
  clear hO hnd hge HL6
  have HK1 : Hid (w3.heap.size + 1 = (w3.alloc (.cells #[.int .i64 op6, .int .i64 n6, .string s6, .slice a6' len6 cap6'] 29)).heap.size) := by show _ = _; rw [heap_size_alloc]
  clear hb hp
  have x0 : (w3.alloc (.cells #[.int .i64 op6, .int .i64 n6, .string s6, .slice a6' len6 cap6'] 29)).cell? ⟨w1.heap.size, 8, none⟩ = some (.int .i64 op9) := by simpa using (unhide HW).cells 8 _ rfl
  have x1 : (w3.alloc (.cells #[.int .i64 op6, .int .i64 n6, .string s6, .slice a6' len6 cap6'] 29)).cell? ⟨w1.heap.size, 9, none⟩ = some (.int .i64 n9) := by simpa using (unhide HW).cells 9 _ rfl
  have x2 : (w3.alloc (.cells #[.int .i64 op6, .int .i64 n6, .string s6, .slice a6' len6 cap6'] 29)).cell? ⟨w1.heap.size, 10, none⟩ = some (.string s9) := by simpa using (unhide HW).cells 10 _ rfl
  have x3 : (w3.alloc (.cells #[.int .i64 op6, .int .i64 n6, .string s6, .slice a6' len6 cap6'] 29)).cell? ⟨w1.heap.size, 11, none⟩ = some (.slice a9 len9 cap9) := by simpa using (unhide HW).cells 11 _ rfl
  go_wp2_with fail
  clear x0 x1 x2 x3
  generalize hgw : w3.alloc (.cells #[.int .i64 op6, .int .i64 n6, .string s6, .slice a6' len6 cap6'] 29) = V1 at *
  clear hgw
  generalize w3.heap.size = b1 at *
  refine (answer_yes c op9 n9 s9 a9 len9 cap9 x _ (unhide HL9) (by have := okT_small (unhide HOK).2.2.1; omega) (unhide HE2)).mono ?_
  rintro q w4 ⟨a9', cap9', f9, rfl, hO, ⟨hnd, hge⟩, hb⟩
  have hp := bt hb (ab (.cells #[.int .i64 op9, .int .i64 n9, .string s9, .slice a9' len9 cap9'] 29)) (Nat.le_refl _)
  have HB2 := hide (bt (unhide HB2) hp (Nat.le_refl _))
  have HE2 := hide ((unhide HE2).on hp)
  have HW := hide ((unhide HW).below hp)
  have HZ0 := hide ((unhide HZ0).below hp)
  have HZ1 := hide ((unhide HZ1).below hp)
  have HZ2 := hide ((unhide HZ2).below hp)
  have HZ3 := hide ((unhide HZ3).below hp)
  have HX0 := hide ((unhide HX0).below hp)
  have HX1 := hide ((unhide HX1).below hp)
  have HX2 := hide (RowT.new 29 w4 op9 n9 s9 a9' len9 cap9')
  have HO0 := hide ((unhide HO0).below hp)
  have HO1 := hide ((unhide HO1).below hp)
  have HL10 := hide ((unhide HL10).below hp)
  have HO2 := hide (hO.below (ab (.cells #[.int .i64 op9, .int .i64 n9, .string s9, .slice a9' len9 cap9'] 29)))
  have HND2 := hide hnd
  have HI2 : Hid (∀ y ∈ f9, b1 < y ∧ y < w4.heap.size) := fun y hy => ⟨by have := hge y hy; have := unhide HK1; omega, Own.lt _ _ _ hO y hy⟩
  have HJ2 : Hid (b1 < w4.heap.size) := by have := hb.size; have := unhide HK1; show _ < _; omega
  clear hO hnd hge HL9
  have HK2 : Hid (w4.heap.size + 1 = (w4.alloc (.cells #[.int .i64 op9, .int .i64 n9, .string s9, .slice a9' len9 cap9'] 29)).heap.size) := by show _ = _; rw [heap_size_alloc]
  clear hb hp
  have x0 : (w4.alloc (.cells #[.int .i64 op9, .int .i64 n9, .string s9, .slice a9' len9 cap9'] 29)).cell? ⟨w1.heap.size, 12, none⟩ = some (.int .i64 op10) := by simpa using (unhide HW).cells 12 _ rfl
  have x1 : (w4.alloc (.cells #[.int .i64 op9, .int .i64 n9, .string s9, .slice a9' len9 cap9'] 29)).cell? ⟨w1.heap.size, 13, none⟩ = some (.int .i64 n10) := by simpa using (unhide HW).cells 13 _ rfl
  have x2 : (w4.alloc (.cells #[.int .i64 op9, .int .i64 n9, .string s9, .slice a9' len9 cap9'] 29)).cell? ⟨w1.heap.size, 14, none⟩ = some (.string s10) := by simpa using (unhide HW).cells 14 _ rfl
  have x3 : (w4.alloc (.cells #[.int .i64 op9, .int .i64 n9, .string s9, .slice a9' len9 cap9'] 29)).cell? ⟨w1.heap.size, 15, none⟩ = some (.slice a10 len10 cap10) := by simpa using (unhide HW).cells 15 _ rfl
  go_wp2_with fail
  clear x0 x1 x2 x3
  generalize hgw : w4.alloc (.cells #[.int .i64 op9, .int .i64 n9, .string s9, .slice a9' len9 cap9'] 29) = V2 at *
  clear hgw
  generalize w4.heap.size = b2 at *
  refine (answer_yes g op10 n10 s10 a10 len10 cap10 x _ (unhide HL10) (by have := okT_small (unhide HOK).2.2.2; omega) (unhide HE2)).mono ?_
  rintro q w5 ⟨a10', cap10', f10, rfl, hO, ⟨hnd, hge⟩, hb⟩
  have hp := bt hb (ab (.cells #[.int .i64 op10, .int .i64 n10, .string s10, .slice a10' len10 cap10'] 29)) (Nat.le_refl _)
  have HB2 := hide (bt (unhide HB2) hp (Nat.le_refl _))
  have HE2 := hide ((unhide HE2).on hp)
  have HW := hide ((unhide HW).below hp)
  have HZ0 := hide ((unhide HZ0).below hp)
  have HZ1 := hide ((unhide HZ1).below hp)
  have HZ2 := hide ((unhide HZ2).below hp)
  have HZ3 := hide ((unhide HZ3).below hp)
  have HX0 := hide ((unhide HX0).below hp)
  have HX1 := hide ((unhide HX1).below hp)
  have HX2 := hide ((unhide HX2).below hp)
  have HX3 := hide (RowT.new 29 w5 op10 n10 s10 a10' len10 cap10')
  have HO0 := hide ((unhide HO0).below hp)
  have HO1 := hide ((unhide HO1).below hp)
  have HO2 := hide ((unhide HO2).below hp)
  have HO3 := hide (hO.below (ab (.cells #[.int .i64 op10, .int .i64 n10, .string s10, .slice a10' len10 cap10'] 29)))
  have HND3 := hide hnd
  have HI3 : Hid (∀ y ∈ f10, b2 < y ∧ y < w5.heap.size) := fun y hy => ⟨by have := hge y hy; have := unhide HK2; omega, Own.lt _ _ _ hO y hy⟩
  have HJ3 : Hid (b2 < w5.heap.size) := by have := hb.size; have := unhide HK2; show _ < _; omega
  clear hO hnd hge HL10
  have HK3 : Hid (w5.heap.size + 1 = (w5.alloc (.cells #[.int .i64 op10, .int .i64 n10, .string s10, .slice a10' len10 cap10'] 29)).heap.size) := by show _ = _; rw [heap_size_alloc]
  clear hb hp
  go_wp2_with fail
  generalize hgw : w5.alloc (.cells #[.int .i64 op10, .int .i64 n10, .string s10, .slice a10' len10 cap10'] 29) = V3 at *
  clear hgw
  generalize w5.heap.size = b3 at *
  have FF := far4 (unhide HLT) (unhide HLT2) (unhide HJ0) (unhide HJ1) (unhide HJ2) (unhide HJ3)
  have F0 := ne_far FF.1
  have F1 := ne_far FF.2.1
  have F2 := ne_far FF.2.2.1
  have F3 := ne_far FF.2.2.2
  refine wp_region_held (S := fun y => RowT 29 y b0 op4 n4 s4 a4' len4 cap4' ∧ RowT 29 y b1 op6 n6 s6 a6' len6 cap6' ∧ RowT 29 y b2 op9 n9 s9 a9' len9 cap9' ∧ RowT 29 y b3 op10 n10 s10 a10' len10 cap10') (by kernel_rfl) ?_
  have hS : (fun y : World => RowT 29 y b0 op4 n4 s4 a4' len4 cap4' ∧ RowT 29 y b1 op6 n6 s6 a6' len6 cap6' ∧ RowT 29 y b2 op9 n9 s9 a9' len9 cap9' ∧ RowT 29 y b3 op10 n10 s10 a10' len10 cap10') V3.drew := ⟨unhide HX0, unhide HX1, unhide HX2, unhide HX3⟩
  show wpAnyH _ _ _ _ _ _ _ _ V3.drew
  refine take_load (i := 0) rfl rfl (fun y h => h.1) (by kernel_rfl) (by kernel_rfl) (by kernel_rfl) (fun _ _ _ _ h => h) hS ?_
  simp only [Act.put, List.setIfInBounds_toArray, List.set_cons_succ, List.set_cons_zero]
  refine take_load (i := 1) rfl rfl (fun y h => h.2.1) (by kernel_rfl) (by kernel_rfl) (by kernel_rfl) (fun _ _ _ _ h => h) hS ?_
  simp only [Act.put, List.setIfInBounds_toArray, List.set_cons_succ, List.set_cons_zero]
  refine take_load (i := 2) rfl rfl (fun y h => h.2.2.1) (by kernel_rfl) (by kernel_rfl) (by kernel_rfl) (fun _ _ _ _ h => h) hS ?_
  simp only [Act.put, List.setIfInBounds_toArray, List.set_cons_succ, List.set_cons_zero]
  refine take_load (i := 3) rfl rfl (fun y h => h.2.2.2) (by kernel_rfl) (by kernel_rfl) (by kernel_rfl) (fun _ _ _ _ h => h) hS ?_
  simp only [Act.put, List.setIfInBounds_toArray, List.set_cons_succ, List.set_cons_zero]
  refine take_move (i := 4) rfl rfl (by kernel_rfl) (by kernel_rfl) (by kernel_rfl) (fun _ _ _ _ h => h) hS ?_
  simp only [Act.put, List.setIfInBounds_toArray, List.set_cons_succ, List.set_cons_zero]
  refine all_store (i := 5) (by kernel_rfl) rfl rfl rfl (unhide HZ0) (⟨RowT.other hS.1 F0.1, RowT.other hS.2.1 F1.1, RowT.other hS.2.2.1 F2.1, RowT.other hS.2.2.2 F3.1⟩) fun hS => ?_
  refine all_store (i := 6) (by kernel_rfl) rfl rfl rfl (RowT.other (unhide HZ1) (zne _).1.1) (⟨RowT.other hS.1 F0.2.1, RowT.other hS.2.1 F1.2.1, RowT.other hS.2.2.1 F2.2.1, RowT.other hS.2.2.2 F3.2.1⟩) fun hS => ?_
  refine all_store (i := 7) (by kernel_rfl) rfl rfl rfl (RowT.other (RowT.other (unhide HZ2) (zne _).1.2.1) (zne _).2.1.1) (⟨RowT.other hS.1 F0.2.2.1, RowT.other hS.2.1 F1.2.2.1, RowT.other hS.2.2.1 F2.2.2.1, RowT.other hS.2.2.2 F3.2.2.1⟩) fun hS => ?_
  refine all_store (i := 8) (by kernel_rfl) rfl rfl rfl (RowT.other (RowT.other (RowT.other (unhide HZ3) (zne _).1.2.2) (zne _).2.1.2) (zne _).2.2) (⟨RowT.other hS.1 F0.2.2.2, RowT.other hS.2.1 F1.2.2.2, RowT.other hS.2.2.1 F2.2.2.2, RowT.other hS.2.2.2 F3.2.2.2⟩) fun hS => ?_
  refine all_assign (i := 9) (by kernel_rfl) rfl rfl hS ?_
  refine wpAnyH_done (by kernel_rfl) ?_ _
  simp only [Act.put, List.setIfInBounds_toArray, List.set_cons_succ, List.set_cons_zero]
  go_wp2_with fail
  obtain ⟨r0, r1, r2, r3⟩ := fill_four (w := V3.drew) (op0 := op4) (n0 := n4) (s0 := s4) (a0 := a4') (l0 := len4) (k0 := cap4') (op1 := op6) (n1 := n6) (s1 := s6) (a1 := a6') (l1 := len6) (k1 := cap6') (op2 := op9) (n2 := n9) (s2 := s9) (a2 := a9') (l2 := len9) (k2 := cap9') (op3 := op10) (n3 := n10) (s3 := s10) (a3 := a10') (l3 := len10) (k3 := cap10') (unhide HZ0) (unhide HZ1) (unhide HZ2) (unhide HZ3)
  refine bodyPost_ret (v := .tuple #[.agg #[.int .i64 op4, .int .i64 n4, .string s4, .slice a4' len4 cap4'], .agg #[.int .i64 op6, .int .i64 n6, .string s6, .slice a6' len6 cap6'], .agg #[.int .i64 op9, .int .i64 n9, .string s9, .slice a9' len9 cap9'], .agg #[.int .i64 op10, .int .i64 n10, .string s10, .slice a10' len10 cap10'], .bool true]) (results_cells4 Tryz.results19 rfl rfl rfl rfl (RowT.load r0) (RowT.load r1) (RowT.load r2) (RowT.load r3)) rfl ⟨_, _, _, _, _, _, _, _, _, _, _, _, _, _, _, _, _, _, _, _, _, _, _, _, _, _, _, _, rfl, Own.keep _ _ _ (unhide HO0) (fun y hy => (fill_four_heap (w := V3.drew) (far_lt (unhide HLT) (unhide HLT2) (unhide HI0 y hy).1)).trans rfl), Own.keep _ _ _ (unhide HO1) (fun y hy => (fill_four_heap (w := V3.drew) (far_lt' FF.1 (unhide HI1 y hy).1)).trans rfl), Own.keep _ _ _ (unhide HO2) (fun y hy => (fill_four_heap (w := V3.drew) (far_lt' FF.2.1 (unhide HI2 y hy).1)).trans rfl), Own.keep _ _ _ (unhide HO3) (fun y hy => (fill_four_heap (w := V3.drew) (far_lt' FF.2.2.1 (unhide HI3 y hy).1)).trans rfl), ⟨unhide HND0, unhide HND1, unhide HND2, unhide HND3⟩, ⟨W.heap.size, b0, b1, b2, Nat.le_trans (Nat.le_trans (Nat.le_add_right _ 6) (unhide HLT)) (unhide HLT2), unhide HJ0, Nat.le_of_lt (unhide HJ1), Nat.le_of_lt (unhide HJ2), le_fill4 (w := V3.drew) (Nat.le_trans (Nat.le_succ_of_le (Nat.le_of_lt (unhide HJ3))) (Nat.le_of_eq (unhide HK3))), unhide HI0, fun y hy => unhide HI1 y hy, fun y hy => unhide HI2 y hy, fun y hy => (unhide HI3 y hy).1⟩, fill_four_below (w := V3.drew) (unhide HB2).drew (le_two _)⟩

end Go.Proofs.YtmklgikbajhcpaaGreatDoor
