
/- The walk of spec.ReplyOf: the four terms that a reply tells, or zeros; nothing that was there is written. -/
import Derived.Test.YtmklgikbajhcpaaGreatDoorRu
import Derived.Deep.RegionHeld3
import Derived.Deep.RegionWith
import Derived.Deep.DeepCutAuto
namespace Go.Proofs.YtmklgikbajhcpaaGreatDoor
open Go.RowKit Go.Deep

set_option maxRecDepth 100000 in
set_option maxHeartbeats 4000000 in
theorem rofS_none (e t : Tm) (op n : Int) (s : ByteArray) (a : Option Addr) (len cap : Nat) (op2 n2 : Int) (s2 : ByteArray) (a2 : Option Addr) (len2 cap2 : Nat) (w : World) (hl : Lies w 0 e (tmCells op n s a len cap)) (hl2 : Lies w 0 t (tmCells op2 n2 s2 a2 len2 cap2)) (hst : e.size + t.size ≤ 1048578) (hb : behO 3 (textT replyW) t = none) : Calls Tryz.prog 20 #[.agg #[.int .i64 op, .int .i64 n, .string s, .slice a len cap], .agg #[.int .i64 op2, .int .i64 n2, .string s2, .slice a2 len2 cap2]] w fun q w' => q = .returned (.tuple #[.agg #[.int .i64 0, .int .i64 0, .string ⟨#[]⟩, .slice none 0 0], .agg #[.int .i64 0, .int .i64 0, .string ⟨#[]⟩, .slice none 0 0], .agg #[.int .i64 0, .int .i64 0, .string ⟨#[]⟩, .slice none 0 0], .agg #[.int .i64 0, .int .i64 0, .string ⟨#[]⟩, .slice none 0 0], .bool false]) ∧ Below w.heap.size w w' := by
  have hN := hide (fun V hl => named_none t replyW (by decide) op2 n2 s2 a2 len2 cap2 V hl (by omega) hb)
  clear hb hst
  have hb0 : Below w.heap.size w (((((((w.alloc (.cells #[.int .i64 op, .int .i64 n, .string s, .slice a len cap] 29)).alloc (.cells #[.int .i64 op2, .int .i64 n2, .string s2, .slice a2 len2 cap2] 29)).alloc (.cells #[.int .i64 0, .int .i64 0, .string ⟨#[]⟩, .slice none 0 0] 29)).alloc (.cells #[.int .i64 0, .int .i64 0, .string ⟨#[]⟩, .slice none 0 0] 29)).alloc (.cells #[.int .i64 0, .int .i64 0, .string ⟨#[]⟩, .slice none 0 0] 29)).alloc (.cells #[.int .i64 0, .int .i64 0, .string ⟨#[]⟩, .slice none 0 0] 29)).alloc (.cells #[.int .i64 0, .int .i64 0, .string ⟨#[]⟩, .slice none 0 0] 29)) := bt (bt (bt (bt (bt (bt (ab _) (ab _) (Nat.le_refl _)) (ab _) (Nat.le_refl _)) (ab _) (Nat.le_refl _)) (ab _) (Nat.le_refl _)) (ab _) (Nat.le_refl _)) (ab _) (Nat.le_refl _)
  have HZ0 : Hid (RowT 29 (((((((w.alloc (.cells #[.int .i64 op, .int .i64 n, .string s, .slice a len cap] 29)).alloc (.cells #[.int .i64 op2, .int .i64 n2, .string s2, .slice a2 len2 cap2] 29)).alloc (.cells #[.int .i64 0, .int .i64 0, .string ⟨#[]⟩, .slice none 0 0] 29)).alloc (.cells #[.int .i64 0, .int .i64 0, .string ⟨#[]⟩, .slice none 0 0] 29)).alloc (.cells #[.int .i64 0, .int .i64 0, .string ⟨#[]⟩, .slice none 0 0] 29)).alloc (.cells #[.int .i64 0, .int .i64 0, .string ⟨#[]⟩, .slice none 0 0] 29)).alloc (.cells #[.int .i64 0, .int .i64 0, .string ⟨#[]⟩, .slice none 0 0] 29)) (w.heap.size + 1 + 1) 0 0 ⟨#[]⟩ none 0 0) := by
    have := ((((RowT.new 29 ((w.alloc (.cells #[.int .i64 op, .int .i64 n, .string s, .slice a len cap] 29)).alloc (.cells #[.int .i64 op2, .int .i64 n2, .string s2, .slice a2 len2 cap2] 29)) 0 0 ⟨#[]⟩ none 0 0).below (ab (.cells #[.int .i64 0, .int .i64 0, .string ⟨#[]⟩, .slice none 0 0] 29))).below (ab (.cells #[.int .i64 0, .int .i64 0, .string ⟨#[]⟩, .slice none 0 0] 29))).below (ab (.cells #[.int .i64 0, .int .i64 0, .string ⟨#[]⟩, .slice none 0 0] 29))).below (ab (.cells #[.int .i64 0, .int .i64 0, .string ⟨#[]⟩, .slice none 0 0] 29))
    rwa [heap_size_alloc, heap_size_alloc] at this
  have HZ1 : Hid (RowT 29 (((((((w.alloc (.cells #[.int .i64 op, .int .i64 n, .string s, .slice a len cap] 29)).alloc (.cells #[.int .i64 op2, .int .i64 n2, .string s2, .slice a2 len2 cap2] 29)).alloc (.cells #[.int .i64 0, .int .i64 0, .string ⟨#[]⟩, .slice none 0 0] 29)).alloc (.cells #[.int .i64 0, .int .i64 0, .string ⟨#[]⟩, .slice none 0 0] 29)).alloc (.cells #[.int .i64 0, .int .i64 0, .string ⟨#[]⟩, .slice none 0 0] 29)).alloc (.cells #[.int .i64 0, .int .i64 0, .string ⟨#[]⟩, .slice none 0 0] 29)).alloc (.cells #[.int .i64 0, .int .i64 0, .string ⟨#[]⟩, .slice none 0 0] 29)) (w.heap.size + 1 + 1 + 1) 0 0 ⟨#[]⟩ none 0 0) := by
    have := (((RowT.new 29 (((w.alloc (.cells #[.int .i64 op, .int .i64 n, .string s, .slice a len cap] 29)).alloc (.cells #[.int .i64 op2, .int .i64 n2, .string s2, .slice a2 len2 cap2] 29)).alloc (.cells #[.int .i64 0, .int .i64 0, .string ⟨#[]⟩, .slice none 0 0] 29)) 0 0 ⟨#[]⟩ none 0 0).below (ab (.cells #[.int .i64 0, .int .i64 0, .string ⟨#[]⟩, .slice none 0 0] 29))).below (ab (.cells #[.int .i64 0, .int .i64 0, .string ⟨#[]⟩, .slice none 0 0] 29))).below (ab (.cells #[.int .i64 0, .int .i64 0, .string ⟨#[]⟩, .slice none 0 0] 29))
    rwa [heap_size_alloc, heap_size_alloc, heap_size_alloc] at this
  have HZ2 : Hid (RowT 29 (((((((w.alloc (.cells #[.int .i64 op, .int .i64 n, .string s, .slice a len cap] 29)).alloc (.cells #[.int .i64 op2, .int .i64 n2, .string s2, .slice a2 len2 cap2] 29)).alloc (.cells #[.int .i64 0, .int .i64 0, .string ⟨#[]⟩, .slice none 0 0] 29)).alloc (.cells #[.int .i64 0, .int .i64 0, .string ⟨#[]⟩, .slice none 0 0] 29)).alloc (.cells #[.int .i64 0, .int .i64 0, .string ⟨#[]⟩, .slice none 0 0] 29)).alloc (.cells #[.int .i64 0, .int .i64 0, .string ⟨#[]⟩, .slice none 0 0] 29)).alloc (.cells #[.int .i64 0, .int .i64 0, .string ⟨#[]⟩, .slice none 0 0] 29)) (w.heap.size + 1 + 1 + 1 + 1) 0 0 ⟨#[]⟩ none 0 0) := by
    have := ((RowT.new 29 ((((w.alloc (.cells #[.int .i64 op, .int .i64 n, .string s, .slice a len cap] 29)).alloc (.cells #[.int .i64 op2, .int .i64 n2, .string s2, .slice a2 len2 cap2] 29)).alloc (.cells #[.int .i64 0, .int .i64 0, .string ⟨#[]⟩, .slice none 0 0] 29)).alloc (.cells #[.int .i64 0, .int .i64 0, .string ⟨#[]⟩, .slice none 0 0] 29)) 0 0 ⟨#[]⟩ none 0 0).below (ab (.cells #[.int .i64 0, .int .i64 0, .string ⟨#[]⟩, .slice none 0 0] 29))).below (ab (.cells #[.int .i64 0, .int .i64 0, .string ⟨#[]⟩, .slice none 0 0] 29))
    rwa [heap_size_alloc, heap_size_alloc, heap_size_alloc, heap_size_alloc] at this
  have HZ3 : Hid (RowT 29 (((((((w.alloc (.cells #[.int .i64 op, .int .i64 n, .string s, .slice a len cap] 29)).alloc (.cells #[.int .i64 op2, .int .i64 n2, .string s2, .slice a2 len2 cap2] 29)).alloc (.cells #[.int .i64 0, .int .i64 0, .string ⟨#[]⟩, .slice none 0 0] 29)).alloc (.cells #[.int .i64 0, .int .i64 0, .string ⟨#[]⟩, .slice none 0 0] 29)).alloc (.cells #[.int .i64 0, .int .i64 0, .string ⟨#[]⟩, .slice none 0 0] 29)).alloc (.cells #[.int .i64 0, .int .i64 0, .string ⟨#[]⟩, .slice none 0 0] 29)).alloc (.cells #[.int .i64 0, .int .i64 0, .string ⟨#[]⟩, .slice none 0 0] 29)) (w.heap.size + 1 + 1 + 1 + 1 + 1) 0 0 ⟨#[]⟩ none 0 0) := by
    have := (RowT.new 29 (((((w.alloc (.cells #[.int .i64 op, .int .i64 n, .string s, .slice a len cap] 29)).alloc (.cells #[.int .i64 op2, .int .i64 n2, .string s2, .slice a2 len2 cap2] 29)).alloc (.cells #[.int .i64 0, .int .i64 0, .string ⟨#[]⟩, .slice none 0 0] 29)).alloc (.cells #[.int .i64 0, .int .i64 0, .string ⟨#[]⟩, .slice none 0 0] 29)).alloc (.cells #[.int .i64 0, .int .i64 0, .string ⟨#[]⟩, .slice none 0 0] 29)) 0 0 ⟨#[]⟩ none 0 0).below (ab (.cells #[.int .i64 0, .int .i64 0, .string ⟨#[]⟩, .slice none 0 0] 29))
    rwa [heap_size_alloc, heap_size_alloc, heap_size_alloc, heap_size_alloc, heap_size_alloc] at this
  have HZ4 : Hid (RowT 29 (((((((w.alloc (.cells #[.int .i64 op, .int .i64 n, .string s, .slice a len cap] 29)).alloc (.cells #[.int .i64 op2, .int .i64 n2, .string s2, .slice a2 len2 cap2] 29)).alloc (.cells #[.int .i64 0, .int .i64 0, .string ⟨#[]⟩, .slice none 0 0] 29)).alloc (.cells #[.int .i64 0, .int .i64 0, .string ⟨#[]⟩, .slice none 0 0] 29)).alloc (.cells #[.int .i64 0, .int .i64 0, .string ⟨#[]⟩, .slice none 0 0] 29)).alloc (.cells #[.int .i64 0, .int .i64 0, .string ⟨#[]⟩, .slice none 0 0] 29)).alloc (.cells #[.int .i64 0, .int .i64 0, .string ⟨#[]⟩, .slice none 0 0] 29)) (w.heap.size + 1 + 1 + 1 + 1 + 1 + 1) 0 0 ⟨#[]⟩ none 0 0) := by
    have := RowT.new 29 ((((((w.alloc (.cells #[.int .i64 op, .int .i64 n, .string s, .slice a len cap] 29)).alloc (.cells #[.int .i64 op2, .int .i64 n2, .string s2, .slice a2 len2 cap2] 29)).alloc (.cells #[.int .i64 0, .int .i64 0, .string ⟨#[]⟩, .slice none 0 0] 29)).alloc (.cells #[.int .i64 0, .int .i64 0, .string ⟨#[]⟩, .slice none 0 0] 29)).alloc (.cells #[.int .i64 0, .int .i64 0, .string ⟨#[]⟩, .slice none 0 0] 29)).alloc (.cells #[.int .i64 0, .int .i64 0, .string ⟨#[]⟩, .slice none 0 0] 29)) 0 0 ⟨#[]⟩ none 0 0
    rwa [heap_size_alloc, heap_size_alloc, heap_size_alloc, heap_size_alloc, heap_size_alloc, heap_size_alloc] at this
  have HE0 : Hid (RowT 29 (((((((w.alloc (.cells #[.int .i64 op, .int .i64 n, .string s, .slice a len cap] 29)).alloc (.cells #[.int .i64 op2, .int .i64 n2, .string s2, .slice a2 len2 cap2] 29)).alloc (.cells #[.int .i64 0, .int .i64 0, .string ⟨#[]⟩, .slice none 0 0] 29)).alloc (.cells #[.int .i64 0, .int .i64 0, .string ⟨#[]⟩, .slice none 0 0] 29)).alloc (.cells #[.int .i64 0, .int .i64 0, .string ⟨#[]⟩, .slice none 0 0] 29)).alloc (.cells #[.int .i64 0, .int .i64 0, .string ⟨#[]⟩, .slice none 0 0] 29)).alloc (.cells #[.int .i64 0, .int .i64 0, .string ⟨#[]⟩, .slice none 0 0] 29)) w.heap.size op n s a len cap) := ((((((RowT.new 29 w op n s a len cap).below (ab (.cells #[.int .i64 op2, .int .i64 n2, .string s2, .slice a2 len2 cap2] 29))).below (ab (.cells #[.int .i64 0, .int .i64 0, .string ⟨#[]⟩, .slice none 0 0] 29))).below (ab (.cells #[.int .i64 0, .int .i64 0, .string ⟨#[]⟩, .slice none 0 0] 29))).below (ab (.cells #[.int .i64 0, .int .i64 0, .string ⟨#[]⟩, .slice none 0 0] 29))).below (ab (.cells #[.int .i64 0, .int .i64 0, .string ⟨#[]⟩, .slice none 0 0] 29))).below (ab (.cells #[.int .i64 0, .int .i64 0, .string ⟨#[]⟩, .slice none 0 0] 29))
  have HLE := hide (hl.below hb0)
  have HL2 := hide (hl2.below hb0)
  have HB0 := hide hb0
  clear hl hl2 hb0
  go_enter Tryz.func20, Tryz.ntmps20
  go_wp2_with fail
  generalize hgw : (((((((w.alloc (.cells #[.int .i64 op, .int .i64 n, .string s, .slice a len cap] 29)).alloc (.cells #[.int .i64 op2, .int .i64 n2, .string s2, .slice a2 len2 cap2] 29)).alloc (.cells #[.int .i64 0, .int .i64 0, .string ⟨#[]⟩, .slice none 0 0] 29)).alloc (.cells #[.int .i64 0, .int .i64 0, .string ⟨#[]⟩, .slice none 0 0] 29)).alloc (.cells #[.int .i64 0, .int .i64 0, .string ⟨#[]⟩, .slice none 0 0] 29)).alloc (.cells #[.int .i64 0, .int .i64 0, .string ⟨#[]⟩, .slice none 0 0] 29)).alloc (.cells #[.int .i64 0, .int .i64 0, .string ⟨#[]⟩, .slice none 0 0] 29)) = W1 at *
  clear hgw
  refine (unhide hN _ (unhide HL2)).mono ?_
  rintro q w1 ⟨rfl, hb1⟩
  have hp := bt hb1 (ab (.cells #[.int .i64 0, .int .i64 0, .string ByteArray.empty, .slice none 0 0] 29)) (Nat.le_refl _)
  have HB := hide (bt (unhide HB0) hp (Nat.le_refl _))
  have HZ0 := hide ((unhide HZ0).below hp)
  have HZ1 := hide ((unhide HZ1).below hp)
  have HZ2 := hide ((unhide HZ2).below hp)
  have HZ3 := hide ((unhide HZ3).below hp)
  have HZ4 := hide ((unhide HZ4).below hp)
  clear hp hb1 hN HB0 HLE HL2 HE0
  go_wp2_with fail
  generalize hgw : w1.alloc (.cells #[.int .i64 0, .int .i64 0, .string ByteArray.empty, .slice none 0 0] 29) = V3 at *
  clear hgw
  have F0 : w.heap.size + 1 + 1 + 1 + 1 + 1 + 1 ≠ w.heap.size + 1 + 1 ∧ w.heap.size + 1 + 1 + 1 + 1 + 1 + 1 ≠ w.heap.size + 1 + 1 + 1 ∧ w.heap.size + 1 + 1 + 1 + 1 + 1 + 1 ≠ w.heap.size + 1 + 1 + 1 + 1 ∧ w.heap.size + 1 + 1 + 1 + 1 + 1 + 1 ≠ w.heap.size + 1 + 1 + 1 + 1 + 1 := ne_far (Nat.lt_succ_self _)
  refine wp_region_held (S := fun y => RowT 29 y (w.heap.size + 1 + 1 + 1 + 1 + 1 + 1) 0 0 ⟨#[]⟩ none 0 0) (by kernel_rfl) ?_
  have hS : (fun y : World => RowT 29 y (w.heap.size + 1 + 1 + 1 + 1 + 1 + 1) 0 0 ⟨#[]⟩ none 0 0) V3.drew := unhide HZ4
  show wpAnyH _ _ _ _ _ _ _ _ V3.drew
  refine take_load (i := 0) rfl rfl (fun y h => h) (by kernel_rfl) (by kernel_rfl) (by kernel_rfl) (fun _ _ _ _ h => h) hS ?_
  simp only [Act.put, List.setIfInBounds_toArray, List.set_cons_succ, List.set_cons_zero]
  refine take_load (i := 1) rfl rfl (fun y h => h) (by kernel_rfl) (by kernel_rfl) (by kernel_rfl) (fun _ _ _ _ h => h) hS ?_
  simp only [Act.put, List.setIfInBounds_toArray, List.set_cons_succ, List.set_cons_zero]
  refine take_load (i := 2) rfl rfl (fun y h => h) (by kernel_rfl) (by kernel_rfl) (by kernel_rfl) (fun _ _ _ _ h => h) hS ?_
  simp only [Act.put, List.setIfInBounds_toArray, List.set_cons_succ, List.set_cons_zero]
  refine take_load (i := 3) rfl rfl (fun y h => h) (by kernel_rfl) (by kernel_rfl) (by kernel_rfl) (fun _ _ _ _ h => h) hS ?_
  simp only [Act.put, List.setIfInBounds_toArray, List.set_cons_succ, List.set_cons_zero]
  refine all_store (i := 4) (by kernel_rfl) rfl rfl rfl (unhide HZ0) (RowT.other hS F0.1) fun hS => ?_
  refine all_store (i := 5) (by kernel_rfl) rfl rfl rfl (RowT.other (unhide HZ1) (zne _).1.1) (RowT.other hS F0.2.1) fun hS => ?_
  refine all_store (i := 6) (by kernel_rfl) rfl rfl rfl (RowT.other (RowT.other (unhide HZ2) (zne _).1.2.1) (zne _).2.1.1) (RowT.other hS F0.2.2.1) fun hS => ?_
  refine all_store (i := 7) (by kernel_rfl) rfl rfl rfl (RowT.other (RowT.other (RowT.other (unhide HZ3) (zne _).1.2.2) (zne _).2.1.2) (zne _).2.2) (RowT.other hS F0.2.2.2) fun hS => ?_
  refine all_assign (i := 8) (by kernel_rfl) rfl rfl hS ?_
  refine wpAnyH_done (by kernel_rfl) ?_ _
  simp only [Act.put, List.setIfInBounds_toArray, List.set_cons_succ, List.set_cons_zero]
  go_wp2_with fail
  obtain ⟨r0, r1, r2, r3⟩ := fill_four (w := V3.drew) (op0 := 0) (n0 := 0) (s0 := ⟨#[]⟩) (a0 := none) (l0 := 0) (k0 := 0) (op1 := 0) (n1 := 0) (s1 := ⟨#[]⟩) (a1 := none) (l1 := 0) (k1 := 0) (op2 := 0) (n2 := 0) (s2 := ⟨#[]⟩) (a2 := none) (l2 := 0) (k2 := 0) (op3 := 0) (n3 := 0) (s3 := ⟨#[]⟩) (a3 := none) (l3 := 0) (k3 := 0) (unhide HZ0) (unhide HZ1) (unhide HZ2) (unhide HZ3)
  exact bodyPost_ret (v := .tuple #[.agg #[.int .i64 0, .int .i64 0, .string ⟨#[]⟩, .slice none 0 0], .agg #[.int .i64 0, .int .i64 0, .string ⟨#[]⟩, .slice none 0 0], .agg #[.int .i64 0, .int .i64 0, .string ⟨#[]⟩, .slice none 0 0], .agg #[.int .i64 0, .int .i64 0, .string ⟨#[]⟩, .slice none 0 0], .bool false]) (results_cells4 Tryz.results20 rfl rfl rfl rfl (RowT.load r0) (RowT.load r1) (RowT.load r2) (RowT.load r3)) rfl ⟨rfl, fill_four_below (w := V3.drew) (unhide HB).drew (le_two _)⟩

set_option maxRecDepth 100000 in
set_option maxHeartbeats 4000000 in
theorem rofS_op (e t k : Tm) (op n : Int) (s : ByteArray) (a : Option Addr) (len cap : Nat) (op2 n2 : Int) (s2 : ByteArray) (a2 : Option Addr) (len2 cap2 : Nat) (w : World) (hl : Lies w 0 e (tmCells op n s a len cap)) (hl2 : Lies w 0 t (tmCells op2 n2 s2 a2 len2 cap2)) (hst : e.size + t.size ≤ 1048578) (hb : behO 3 (textT replyW) t = some k) (h3 : k.opOf ≠ 3) : Calls Tryz.prog 20 #[.agg #[.int .i64 op, .int .i64 n, .string s, .slice a len cap], .agg #[.int .i64 op2, .int .i64 n2, .string s2, .slice a2 len2 cap2]] w fun q w' => q = .returned (.tuple #[.agg #[.int .i64 0, .int .i64 0, .string ⟨#[]⟩, .slice none 0 0], .agg #[.int .i64 0, .int .i64 0, .string ⟨#[]⟩, .slice none 0 0], .agg #[.int .i64 0, .int .i64 0, .string ⟨#[]⟩, .slice none 0 0], .agg #[.int .i64 0, .int .i64 0, .string ⟨#[]⟩, .slice none 0 0], .bool false]) ∧ Below w.heap.size w w' := by
  have hN := hide (fun V hl => named_some t k replyW (by decide) op2 n2 s2 a2 len2 cap2 V hl (by omega) hb)
  have H3 := hide h3
  clear hb hst h3
  have hb0 : Below w.heap.size w (((((((w.alloc (.cells #[.int .i64 op, .int .i64 n, .string s, .slice a len cap] 29)).alloc (.cells #[.int .i64 op2, .int .i64 n2, .string s2, .slice a2 len2 cap2] 29)).alloc (.cells #[.int .i64 0, .int .i64 0, .string ⟨#[]⟩, .slice none 0 0] 29)).alloc (.cells #[.int .i64 0, .int .i64 0, .string ⟨#[]⟩, .slice none 0 0] 29)).alloc (.cells #[.int .i64 0, .int .i64 0, .string ⟨#[]⟩, .slice none 0 0] 29)).alloc (.cells #[.int .i64 0, .int .i64 0, .string ⟨#[]⟩, .slice none 0 0] 29)).alloc (.cells #[.int .i64 0, .int .i64 0, .string ⟨#[]⟩, .slice none 0 0] 29)) := bt (bt (bt (bt (bt (bt (ab _) (ab _) (Nat.le_refl _)) (ab _) (Nat.le_refl _)) (ab _) (Nat.le_refl _)) (ab _) (Nat.le_refl _)) (ab _) (Nat.le_refl _)) (ab _) (Nat.le_refl _)
  have HZ0 : Hid (RowT 29 (((((((w.alloc (.cells #[.int .i64 op, .int .i64 n, .string s, .slice a len cap] 29)).alloc (.cells #[.int .i64 op2, .int .i64 n2, .string s2, .slice a2 len2 cap2] 29)).alloc (.cells #[.int .i64 0, .int .i64 0, .string ⟨#[]⟩, .slice none 0 0] 29)).alloc (.cells #[.int .i64 0, .int .i64 0, .string ⟨#[]⟩, .slice none 0 0] 29)).alloc (.cells #[.int .i64 0, .int .i64 0, .string ⟨#[]⟩, .slice none 0 0] 29)).alloc (.cells #[.int .i64 0, .int .i64 0, .string ⟨#[]⟩, .slice none 0 0] 29)).alloc (.cells #[.int .i64 0, .int .i64 0, .string ⟨#[]⟩, .slice none 0 0] 29)) (w.heap.size + 1 + 1) 0 0 ⟨#[]⟩ none 0 0) := by
    have := ((((RowT.new 29 ((w.alloc (.cells #[.int .i64 op, .int .i64 n, .string s, .slice a len cap] 29)).alloc (.cells #[.int .i64 op2, .int .i64 n2, .string s2, .slice a2 len2 cap2] 29)) 0 0 ⟨#[]⟩ none 0 0).below (ab (.cells #[.int .i64 0, .int .i64 0, .string ⟨#[]⟩, .slice none 0 0] 29))).below (ab (.cells #[.int .i64 0, .int .i64 0, .string ⟨#[]⟩, .slice none 0 0] 29))).below (ab (.cells #[.int .i64 0, .int .i64 0, .string ⟨#[]⟩, .slice none 0 0] 29))).below (ab (.cells #[.int .i64 0, .int .i64 0, .string ⟨#[]⟩, .slice none 0 0] 29))
    rwa [heap_size_alloc, heap_size_alloc] at this
  have HZ1 : Hid (RowT 29 (((((((w.alloc (.cells #[.int .i64 op, .int .i64 n, .string s, .slice a len cap] 29)).alloc (.cells #[.int .i64 op2, .int .i64 n2, .string s2, .slice a2 len2 cap2] 29)).alloc (.cells #[.int .i64 0, .int .i64 0, .string ⟨#[]⟩, .slice none 0 0] 29)).alloc (.cells #[.int .i64 0, .int .i64 0, .string ⟨#[]⟩, .slice none 0 0] 29)).alloc (.cells #[.int .i64 0, .int .i64 0, .string ⟨#[]⟩, .slice none 0 0] 29)).alloc (.cells #[.int .i64 0, .int .i64 0, .string ⟨#[]⟩, .slice none 0 0] 29)).alloc (.cells #[.int .i64 0, .int .i64 0, .string ⟨#[]⟩, .slice none 0 0] 29)) (w.heap.size + 1 + 1 + 1) 0 0 ⟨#[]⟩ none 0 0) := by
    have := (((RowT.new 29 (((w.alloc (.cells #[.int .i64 op, .int .i64 n, .string s, .slice a len cap] 29)).alloc (.cells #[.int .i64 op2, .int .i64 n2, .string s2, .slice a2 len2 cap2] 29)).alloc (.cells #[.int .i64 0, .int .i64 0, .string ⟨#[]⟩, .slice none 0 0] 29)) 0 0 ⟨#[]⟩ none 0 0).below (ab (.cells #[.int .i64 0, .int .i64 0, .string ⟨#[]⟩, .slice none 0 0] 29))).below (ab (.cells #[.int .i64 0, .int .i64 0, .string ⟨#[]⟩, .slice none 0 0] 29))).below (ab (.cells #[.int .i64 0, .int .i64 0, .string ⟨#[]⟩, .slice none 0 0] 29))
    rwa [heap_size_alloc, heap_size_alloc, heap_size_alloc] at this
  have HZ2 : Hid (RowT 29 (((((((w.alloc (.cells #[.int .i64 op, .int .i64 n, .string s, .slice a len cap] 29)).alloc (.cells #[.int .i64 op2, .int .i64 n2, .string s2, .slice a2 len2 cap2] 29)).alloc (.cells #[.int .i64 0, .int .i64 0, .string ⟨#[]⟩, .slice none 0 0] 29)).alloc (.cells #[.int .i64 0, .int .i64 0, .string ⟨#[]⟩, .slice none 0 0] 29)).alloc (.cells #[.int .i64 0, .int .i64 0, .string ⟨#[]⟩, .slice none 0 0] 29)).alloc (.cells #[.int .i64 0, .int .i64 0, .string ⟨#[]⟩, .slice none 0 0] 29)).alloc (.cells #[.int .i64 0, .int .i64 0, .string ⟨#[]⟩, .slice none 0 0] 29)) (w.heap.size + 1 + 1 + 1 + 1) 0 0 ⟨#[]⟩ none 0 0) := by
    have := ((RowT.new 29 ((((w.alloc (.cells #[.int .i64 op, .int .i64 n, .string s, .slice a len cap] 29)).alloc (.cells #[.int .i64 op2, .int .i64 n2, .string s2, .slice a2 len2 cap2] 29)).alloc (.cells #[.int .i64 0, .int .i64 0, .string ⟨#[]⟩, .slice none 0 0] 29)).alloc (.cells #[.int .i64 0, .int .i64 0, .string ⟨#[]⟩, .slice none 0 0] 29)) 0 0 ⟨#[]⟩ none 0 0).below (ab (.cells #[.int .i64 0, .int .i64 0, .string ⟨#[]⟩, .slice none 0 0] 29))).below (ab (.cells #[.int .i64 0, .int .i64 0, .string ⟨#[]⟩, .slice none 0 0] 29))
    rwa [heap_size_alloc, heap_size_alloc, heap_size_alloc, heap_size_alloc] at this
  have HZ3 : Hid (RowT 29 (((((((w.alloc (.cells #[.int .i64 op, .int .i64 n, .string s, .slice a len cap] 29)).alloc (.cells #[.int .i64 op2, .int .i64 n2, .string s2, .slice a2 len2 cap2] 29)).alloc (.cells #[.int .i64 0, .int .i64 0, .string ⟨#[]⟩, .slice none 0 0] 29)).alloc (.cells #[.int .i64 0, .int .i64 0, .string ⟨#[]⟩, .slice none 0 0] 29)).alloc (.cells #[.int .i64 0, .int .i64 0, .string ⟨#[]⟩, .slice none 0 0] 29)).alloc (.cells #[.int .i64 0, .int .i64 0, .string ⟨#[]⟩, .slice none 0 0] 29)).alloc (.cells #[.int .i64 0, .int .i64 0, .string ⟨#[]⟩, .slice none 0 0] 29)) (w.heap.size + 1 + 1 + 1 + 1 + 1) 0 0 ⟨#[]⟩ none 0 0) := by
    have := (RowT.new 29 (((((w.alloc (.cells #[.int .i64 op, .int .i64 n, .string s, .slice a len cap] 29)).alloc (.cells #[.int .i64 op2, .int .i64 n2, .string s2, .slice a2 len2 cap2] 29)).alloc (.cells #[.int .i64 0, .int .i64 0, .string ⟨#[]⟩, .slice none 0 0] 29)).alloc (.cells #[.int .i64 0, .int .i64 0, .string ⟨#[]⟩, .slice none 0 0] 29)).alloc (.cells #[.int .i64 0, .int .i64 0, .string ⟨#[]⟩, .slice none 0 0] 29)) 0 0 ⟨#[]⟩ none 0 0).below (ab (.cells #[.int .i64 0, .int .i64 0, .string ⟨#[]⟩, .slice none 0 0] 29))
    rwa [heap_size_alloc, heap_size_alloc, heap_size_alloc, heap_size_alloc, heap_size_alloc] at this
  have HZ4 : Hid (RowT 29 (((((((w.alloc (.cells #[.int .i64 op, .int .i64 n, .string s, .slice a len cap] 29)).alloc (.cells #[.int .i64 op2, .int .i64 n2, .string s2, .slice a2 len2 cap2] 29)).alloc (.cells #[.int .i64 0, .int .i64 0, .string ⟨#[]⟩, .slice none 0 0] 29)).alloc (.cells #[.int .i64 0, .int .i64 0, .string ⟨#[]⟩, .slice none 0 0] 29)).alloc (.cells #[.int .i64 0, .int .i64 0, .string ⟨#[]⟩, .slice none 0 0] 29)).alloc (.cells #[.int .i64 0, .int .i64 0, .string ⟨#[]⟩, .slice none 0 0] 29)).alloc (.cells #[.int .i64 0, .int .i64 0, .string ⟨#[]⟩, .slice none 0 0] 29)) (w.heap.size + 1 + 1 + 1 + 1 + 1 + 1) 0 0 ⟨#[]⟩ none 0 0) := by
    have := RowT.new 29 ((((((w.alloc (.cells #[.int .i64 op, .int .i64 n, .string s, .slice a len cap] 29)).alloc (.cells #[.int .i64 op2, .int .i64 n2, .string s2, .slice a2 len2 cap2] 29)).alloc (.cells #[.int .i64 0, .int .i64 0, .string ⟨#[]⟩, .slice none 0 0] 29)).alloc (.cells #[.int .i64 0, .int .i64 0, .string ⟨#[]⟩, .slice none 0 0] 29)).alloc (.cells #[.int .i64 0, .int .i64 0, .string ⟨#[]⟩, .slice none 0 0] 29)).alloc (.cells #[.int .i64 0, .int .i64 0, .string ⟨#[]⟩, .slice none 0 0] 29)) 0 0 ⟨#[]⟩ none 0 0
    rwa [heap_size_alloc, heap_size_alloc, heap_size_alloc, heap_size_alloc, heap_size_alloc, heap_size_alloc] at this
  have HE0 : Hid (RowT 29 (((((((w.alloc (.cells #[.int .i64 op, .int .i64 n, .string s, .slice a len cap] 29)).alloc (.cells #[.int .i64 op2, .int .i64 n2, .string s2, .slice a2 len2 cap2] 29)).alloc (.cells #[.int .i64 0, .int .i64 0, .string ⟨#[]⟩, .slice none 0 0] 29)).alloc (.cells #[.int .i64 0, .int .i64 0, .string ⟨#[]⟩, .slice none 0 0] 29)).alloc (.cells #[.int .i64 0, .int .i64 0, .string ⟨#[]⟩, .slice none 0 0] 29)).alloc (.cells #[.int .i64 0, .int .i64 0, .string ⟨#[]⟩, .slice none 0 0] 29)).alloc (.cells #[.int .i64 0, .int .i64 0, .string ⟨#[]⟩, .slice none 0 0] 29)) w.heap.size op n s a len cap) := ((((((RowT.new 29 w op n s a len cap).below (ab (.cells #[.int .i64 op2, .int .i64 n2, .string s2, .slice a2 len2 cap2] 29))).below (ab (.cells #[.int .i64 0, .int .i64 0, .string ⟨#[]⟩, .slice none 0 0] 29))).below (ab (.cells #[.int .i64 0, .int .i64 0, .string ⟨#[]⟩, .slice none 0 0] 29))).below (ab (.cells #[.int .i64 0, .int .i64 0, .string ⟨#[]⟩, .slice none 0 0] 29))).below (ab (.cells #[.int .i64 0, .int .i64 0, .string ⟨#[]⟩, .slice none 0 0] 29))).below (ab (.cells #[.int .i64 0, .int .i64 0, .string ⟨#[]⟩, .slice none 0 0] 29))
  have HLE := hide (hl.below hb0)
  have HL2 := hide (hl2.below hb0)
  have HB0 := hide hb0
  clear hl hl2 hb0
  go_enter Tryz.func20, Tryz.ntmps20
  go_wp2_with fail
  generalize hgw : (((((((w.alloc (.cells #[.int .i64 op, .int .i64 n, .string s, .slice a len cap] 29)).alloc (.cells #[.int .i64 op2, .int .i64 n2, .string s2, .slice a2 len2 cap2] 29)).alloc (.cells #[.int .i64 0, .int .i64 0, .string ⟨#[]⟩, .slice none 0 0] 29)).alloc (.cells #[.int .i64 0, .int .i64 0, .string ⟨#[]⟩, .slice none 0 0] 29)).alloc (.cells #[.int .i64 0, .int .i64 0, .string ⟨#[]⟩, .slice none 0 0] 29)).alloc (.cells #[.int .i64 0, .int .i64 0, .string ⟨#[]⟩, .slice none 0 0] 29)).alloc (.cells #[.int .i64 0, .int .i64 0, .string ⟨#[]⟩, .slice none 0 0] 29)) = W1 at *
  clear hgw
  refine (unhide hN _ (unhide HL2)).mono ?_
  rintro q w1 ⟨op3, n3, s3, a3, len3, cap3, rfl, hl3, hb1⟩
  have hne : (op3 != 3) = true := by rw [lies_opOf hl3]; simpa using unhide H3
  have hp := bt hb1 (ab (.cells #[.int .i64 op3, .int .i64 n3, .string s3, .slice a3 len3 cap3] 29)) (Nat.le_refl _)
  have HB := hide (bt (unhide HB0) hp (Nat.le_refl _))
  have HZ0 := hide ((unhide HZ0).below hp)
  have HZ1 := hide ((unhide HZ1).below hp)
  have HZ2 := hide ((unhide HZ2).below hp)
  have HZ3 := hide ((unhide HZ3).below hp)
  have HZ4 := hide ((unhide HZ4).below hp)
  clear hp hb1 hN HB0 HLE HL2 HE0 hl3 H3
  go_wp2_with fail
  generalize hgw : w1.alloc (.cells #[.int .i64 op3, .int .i64 n3, .string s3, .slice a3 len3 cap3] 29) = V3 at *
  clear hgw
  have F0 : w.heap.size + 1 + 1 + 1 + 1 + 1 + 1 ≠ w.heap.size + 1 + 1 ∧ w.heap.size + 1 + 1 + 1 + 1 + 1 + 1 ≠ w.heap.size + 1 + 1 + 1 ∧ w.heap.size + 1 + 1 + 1 + 1 + 1 + 1 ≠ w.heap.size + 1 + 1 + 1 + 1 ∧ w.heap.size + 1 + 1 + 1 + 1 + 1 + 1 ≠ w.heap.size + 1 + 1 + 1 + 1 + 1 := ne_far (Nat.lt_succ_self _)
  refine wp_region_held (S := fun y => RowT 29 y (w.heap.size + 1 + 1 + 1 + 1 + 1 + 1) 0 0 ⟨#[]⟩ none 0 0) (by kernel_rfl) ?_
  have hS : (fun y : World => RowT 29 y (w.heap.size + 1 + 1 + 1 + 1 + 1 + 1) 0 0 ⟨#[]⟩ none 0 0) V3.drew := unhide HZ4
  show wpAnyH _ _ _ _ _ _ _ _ V3.drew
  refine take_load (i := 0) rfl rfl (fun y h => h) (by kernel_rfl) (by kernel_rfl) (by kernel_rfl) (fun _ _ _ _ h => h) hS ?_
  simp only [Act.put, List.setIfInBounds_toArray, List.set_cons_succ, List.set_cons_zero]
  refine take_load (i := 1) rfl rfl (fun y h => h) (by kernel_rfl) (by kernel_rfl) (by kernel_rfl) (fun _ _ _ _ h => h) hS ?_
  simp only [Act.put, List.setIfInBounds_toArray, List.set_cons_succ, List.set_cons_zero]
  refine take_load (i := 2) rfl rfl (fun y h => h) (by kernel_rfl) (by kernel_rfl) (by kernel_rfl) (fun _ _ _ _ h => h) hS ?_
  simp only [Act.put, List.setIfInBounds_toArray, List.set_cons_succ, List.set_cons_zero]
  refine take_load (i := 3) rfl rfl (fun y h => h) (by kernel_rfl) (by kernel_rfl) (by kernel_rfl) (fun _ _ _ _ h => h) hS ?_
  simp only [Act.put, List.setIfInBounds_toArray, List.set_cons_succ, List.set_cons_zero]
  refine all_store (i := 4) (by kernel_rfl) rfl rfl rfl (unhide HZ0) (RowT.other hS F0.1) fun hS => ?_
  refine all_store (i := 5) (by kernel_rfl) rfl rfl rfl (RowT.other (unhide HZ1) (zne _).1.1) (RowT.other hS F0.2.1) fun hS => ?_
  refine all_store (i := 6) (by kernel_rfl) rfl rfl rfl (RowT.other (RowT.other (unhide HZ2) (zne _).1.2.1) (zne _).2.1.1) (RowT.other hS F0.2.2.1) fun hS => ?_
  refine all_store (i := 7) (by kernel_rfl) rfl rfl rfl (RowT.other (RowT.other (RowT.other (unhide HZ3) (zne _).1.2.2) (zne _).2.1.2) (zne _).2.2) (RowT.other hS F0.2.2.2) fun hS => ?_
  refine all_assign (i := 8) (by kernel_rfl) rfl rfl hS ?_
  refine wpAnyH_done (by kernel_rfl) ?_ _
  simp only [Act.put, List.setIfInBounds_toArray, List.set_cons_succ, List.set_cons_zero]
  go_wp2_with fail
  obtain ⟨r0, r1, r2, r3⟩ := fill_four (w := V3.drew) (op0 := 0) (n0 := 0) (s0 := ⟨#[]⟩) (a0 := none) (l0 := 0) (k0 := 0) (op1 := 0) (n1 := 0) (s1 := ⟨#[]⟩) (a1 := none) (l1 := 0) (k1 := 0) (op2 := 0) (n2 := 0) (s2 := ⟨#[]⟩) (a2 := none) (l2 := 0) (k2 := 0) (op3 := 0) (n3 := 0) (s3 := ⟨#[]⟩) (a3 := none) (l3 := 0) (k3 := 0) (unhide HZ0) (unhide HZ1) (unhide HZ2) (unhide HZ3)
  exact bodyPost_ret (v := .tuple #[.agg #[.int .i64 0, .int .i64 0, .string ⟨#[]⟩, .slice none 0 0], .agg #[.int .i64 0, .int .i64 0, .string ⟨#[]⟩, .slice none 0 0], .agg #[.int .i64 0, .int .i64 0, .string ⟨#[]⟩, .slice none 0 0], .agg #[.int .i64 0, .int .i64 0, .string ⟨#[]⟩, .slice none 0 0], .bool false]) (results_cells4 Tryz.results20 rfl rfl rfl rfl (RowT.load r0) (RowT.load r1) (RowT.load r2) (RowT.load r3)) rfl ⟨rfl, fill_four_below (w := V3.drew) (unhide HB).drew (le_two _)⟩

set_option maxRecDepth 100000 in
set_option maxHeartbeats 8000000 in
theorem rofS_agree_no (e t pub sealed : Tm) (nx : Int) (sx : ByteArray) (op n : Int) (s : ByteArray) (a : Option Addr) (len cap : Nat) (op2 n2 : Int) (s2 : ByteArray) (a2 : Option Addr) (len2 cap2 : Nat) (w : World) (hl : Lies w 0 e (tmCells op n s a len cap)) (hl2 : Lies w 0 t (tmCells op2 n2 s2 a2 len2 cap2)) (hst : e.size + t.size ≤ 1048578) (hb : behO 3 (textT replyW) t = some (.node 3 nx sx [pub, sealed])) (ha : agreeB e pub = false) : Calls Tryz.prog 20 #[.agg #[.int .i64 op, .int .i64 n, .string s, .slice a len cap], .agg #[.int .i64 op2, .int .i64 n2, .string s2, .slice a2 len2 cap2]] w fun q w' => q = .returned (.tuple #[.agg #[.int .i64 0, .int .i64 0, .string ⟨#[]⟩, .slice none 0 0], .agg #[.int .i64 0, .int .i64 0, .string ⟨#[]⟩, .slice none 0 0], .agg #[.int .i64 0, .int .i64 0, .string ⟨#[]⟩, .slice none 0 0], .agg #[.int .i64 0, .int .i64 0, .string ⟨#[]⟩, .slice none 0 0], .bool false]) ∧ Below w.heap.size w w' := by
  have HA := hide ha
  clear ha
  have HBH := hide hb
  obtain ⟨hp0, hp1, hpz, -⟩ := inO_of_named hb
  have HOP := hide hp0
  have HKZ := hide hpz
  have hN := hide (fun V hl => named_some t (.node 3 nx sx [pub, sealed]) replyW (by decide) op2 n2 s2 a2 len2 cap2 V hl (by omega) hb)
  have hAG := hide (fun op5 n5 s5 a5 len5 cap5 V h1 h2 => agree_calls e pub op n s a len cap op5 n5 s5 a5 len5 cap5 V h1 h2 (by omega))
  have HSZ : Hid (sealed.size ≤ 1048578) := by show _ ≤ _; omega
  have hCP := hide (fun op5 n5 s5 a5 len5 cap5 V h1 => cz_calls pub op5 n5 s5 a5 len5 cap5 V h1 (by have := okT_small hp0; omega))
  clear hp0 hp1 hpz hst hb
  have hb0 : Below w.heap.size w (((((((w.alloc (.cells #[.int .i64 op, .int .i64 n, .string s, .slice a len cap] 29)).alloc (.cells #[.int .i64 op2, .int .i64 n2, .string s2, .slice a2 len2 cap2] 29)).alloc (.cells #[.int .i64 0, .int .i64 0, .string ⟨#[]⟩, .slice none 0 0] 29)).alloc (.cells #[.int .i64 0, .int .i64 0, .string ⟨#[]⟩, .slice none 0 0] 29)).alloc (.cells #[.int .i64 0, .int .i64 0, .string ⟨#[]⟩, .slice none 0 0] 29)).alloc (.cells #[.int .i64 0, .int .i64 0, .string ⟨#[]⟩, .slice none 0 0] 29)).alloc (.cells #[.int .i64 0, .int .i64 0, .string ⟨#[]⟩, .slice none 0 0] 29)) := bt (bt (bt (bt (bt (bt (ab _) (ab _) (Nat.le_refl _)) (ab _) (Nat.le_refl _)) (ab _) (Nat.le_refl _)) (ab _) (Nat.le_refl _)) (ab _) (Nat.le_refl _)) (ab _) (Nat.le_refl _)
  have HZ0 : Hid (RowT 29 (((((((w.alloc (.cells #[.int .i64 op, .int .i64 n, .string s, .slice a len cap] 29)).alloc (.cells #[.int .i64 op2, .int .i64 n2, .string s2, .slice a2 len2 cap2] 29)).alloc (.cells #[.int .i64 0, .int .i64 0, .string ⟨#[]⟩, .slice none 0 0] 29)).alloc (.cells #[.int .i64 0, .int .i64 0, .string ⟨#[]⟩, .slice none 0 0] 29)).alloc (.cells #[.int .i64 0, .int .i64 0, .string ⟨#[]⟩, .slice none 0 0] 29)).alloc (.cells #[.int .i64 0, .int .i64 0, .string ⟨#[]⟩, .slice none 0 0] 29)).alloc (.cells #[.int .i64 0, .int .i64 0, .string ⟨#[]⟩, .slice none 0 0] 29)) (w.heap.size + 1 + 1) 0 0 ⟨#[]⟩ none 0 0) := by
    have := ((((RowT.new 29 ((w.alloc (.cells #[.int .i64 op, .int .i64 n, .string s, .slice a len cap] 29)).alloc (.cells #[.int .i64 op2, .int .i64 n2, .string s2, .slice a2 len2 cap2] 29)) 0 0 ⟨#[]⟩ none 0 0).below (ab (.cells #[.int .i64 0, .int .i64 0, .string ⟨#[]⟩, .slice none 0 0] 29))).below (ab (.cells #[.int .i64 0, .int .i64 0, .string ⟨#[]⟩, .slice none 0 0] 29))).below (ab (.cells #[.int .i64 0, .int .i64 0, .string ⟨#[]⟩, .slice none 0 0] 29))).below (ab (.cells #[.int .i64 0, .int .i64 0, .string ⟨#[]⟩, .slice none 0 0] 29))
    rwa [heap_size_alloc, heap_size_alloc] at this
  have HZ1 : Hid (RowT 29 (((((((w.alloc (.cells #[.int .i64 op, .int .i64 n, .string s, .slice a len cap] 29)).alloc (.cells #[.int .i64 op2, .int .i64 n2, .string s2, .slice a2 len2 cap2] 29)).alloc (.cells #[.int .i64 0, .int .i64 0, .string ⟨#[]⟩, .slice none 0 0] 29)).alloc (.cells #[.int .i64 0, .int .i64 0, .string ⟨#[]⟩, .slice none 0 0] 29)).alloc (.cells #[.int .i64 0, .int .i64 0, .string ⟨#[]⟩, .slice none 0 0] 29)).alloc (.cells #[.int .i64 0, .int .i64 0, .string ⟨#[]⟩, .slice none 0 0] 29)).alloc (.cells #[.int .i64 0, .int .i64 0, .string ⟨#[]⟩, .slice none 0 0] 29)) (w.heap.size + 1 + 1 + 1) 0 0 ⟨#[]⟩ none 0 0) := by
    have := (((RowT.new 29 (((w.alloc (.cells #[.int .i64 op, .int .i64 n, .string s, .slice a len cap] 29)).alloc (.cells #[.int .i64 op2, .int .i64 n2, .string s2, .slice a2 len2 cap2] 29)).alloc (.cells #[.int .i64 0, .int .i64 0, .string ⟨#[]⟩, .slice none 0 0] 29)) 0 0 ⟨#[]⟩ none 0 0).below (ab (.cells #[.int .i64 0, .int .i64 0, .string ⟨#[]⟩, .slice none 0 0] 29))).below (ab (.cells #[.int .i64 0, .int .i64 0, .string ⟨#[]⟩, .slice none 0 0] 29))).below (ab (.cells #[.int .i64 0, .int .i64 0, .string ⟨#[]⟩, .slice none 0 0] 29))
    rwa [heap_size_alloc, heap_size_alloc, heap_size_alloc] at this
  have HZ2 : Hid (RowT 29 (((((((w.alloc (.cells #[.int .i64 op, .int .i64 n, .string s, .slice a len cap] 29)).alloc (.cells #[.int .i64 op2, .int .i64 n2, .string s2, .slice a2 len2 cap2] 29)).alloc (.cells #[.int .i64 0, .int .i64 0, .string ⟨#[]⟩, .slice none 0 0] 29)).alloc (.cells #[.int .i64 0, .int .i64 0, .string ⟨#[]⟩, .slice none 0 0] 29)).alloc (.cells #[.int .i64 0, .int .i64 0, .string ⟨#[]⟩, .slice none 0 0] 29)).alloc (.cells #[.int .i64 0, .int .i64 0, .string ⟨#[]⟩, .slice none 0 0] 29)).alloc (.cells #[.int .i64 0, .int .i64 0, .string ⟨#[]⟩, .slice none 0 0] 29)) (w.heap.size + 1 + 1 + 1 + 1) 0 0 ⟨#[]⟩ none 0 0) := by
    have := ((RowT.new 29 ((((w.alloc (.cells #[.int .i64 op, .int .i64 n, .string s, .slice a len cap] 29)).alloc (.cells #[.int .i64 op2, .int .i64 n2, .string s2, .slice a2 len2 cap2] 29)).alloc (.cells #[.int .i64 0, .int .i64 0, .string ⟨#[]⟩, .slice none 0 0] 29)).alloc (.cells #[.int .i64 0, .int .i64 0, .string ⟨#[]⟩, .slice none 0 0] 29)) 0 0 ⟨#[]⟩ none 0 0).below (ab (.cells #[.int .i64 0, .int .i64 0, .string ⟨#[]⟩, .slice none 0 0] 29))).below (ab (.cells #[.int .i64 0, .int .i64 0, .string ⟨#[]⟩, .slice none 0 0] 29))
    rwa [heap_size_alloc, heap_size_alloc, heap_size_alloc, heap_size_alloc] at this
  have HZ3 : Hid (RowT 29 (((((((w.alloc (.cells #[.int .i64 op, .int .i64 n, .string s, .slice a len cap] 29)).alloc (.cells #[.int .i64 op2, .int .i64 n2, .string s2, .slice a2 len2 cap2] 29)).alloc (.cells #[.int .i64 0, .int .i64 0, .string ⟨#[]⟩, .slice none 0 0] 29)).alloc (.cells #[.int .i64 0, .int .i64 0, .string ⟨#[]⟩, .slice none 0 0] 29)).alloc (.cells #[.int .i64 0, .int .i64 0, .string ⟨#[]⟩, .slice none 0 0] 29)).alloc (.cells #[.int .i64 0, .int .i64 0, .string ⟨#[]⟩, .slice none 0 0] 29)).alloc (.cells #[.int .i64 0, .int .i64 0, .string ⟨#[]⟩, .slice none 0 0] 29)) (w.heap.size + 1 + 1 + 1 + 1 + 1) 0 0 ⟨#[]⟩ none 0 0) := by
    have := (RowT.new 29 (((((w.alloc (.cells #[.int .i64 op, .int .i64 n, .string s, .slice a len cap] 29)).alloc (.cells #[.int .i64 op2, .int .i64 n2, .string s2, .slice a2 len2 cap2] 29)).alloc (.cells #[.int .i64 0, .int .i64 0, .string ⟨#[]⟩, .slice none 0 0] 29)).alloc (.cells #[.int .i64 0, .int .i64 0, .string ⟨#[]⟩, .slice none 0 0] 29)).alloc (.cells #[.int .i64 0, .int .i64 0, .string ⟨#[]⟩, .slice none 0 0] 29)) 0 0 ⟨#[]⟩ none 0 0).below (ab (.cells #[.int .i64 0, .int .i64 0, .string ⟨#[]⟩, .slice none 0 0] 29))
    rwa [heap_size_alloc, heap_size_alloc, heap_size_alloc, heap_size_alloc, heap_size_alloc] at this
  have HZ4 : Hid (RowT 29 (((((((w.alloc (.cells #[.int .i64 op, .int .i64 n, .string s, .slice a len cap] 29)).alloc (.cells #[.int .i64 op2, .int .i64 n2, .string s2, .slice a2 len2 cap2] 29)).alloc (.cells #[.int .i64 0, .int .i64 0, .string ⟨#[]⟩, .slice none 0 0] 29)).alloc (.cells #[.int .i64 0, .int .i64 0, .string ⟨#[]⟩, .slice none 0 0] 29)).alloc (.cells #[.int .i64 0, .int .i64 0, .string ⟨#[]⟩, .slice none 0 0] 29)).alloc (.cells #[.int .i64 0, .int .i64 0, .string ⟨#[]⟩, .slice none 0 0] 29)).alloc (.cells #[.int .i64 0, .int .i64 0, .string ⟨#[]⟩, .slice none 0 0] 29)) (w.heap.size + 1 + 1 + 1 + 1 + 1 + 1) 0 0 ⟨#[]⟩ none 0 0) := by
    have := RowT.new 29 ((((((w.alloc (.cells #[.int .i64 op, .int .i64 n, .string s, .slice a len cap] 29)).alloc (.cells #[.int .i64 op2, .int .i64 n2, .string s2, .slice a2 len2 cap2] 29)).alloc (.cells #[.int .i64 0, .int .i64 0, .string ⟨#[]⟩, .slice none 0 0] 29)).alloc (.cells #[.int .i64 0, .int .i64 0, .string ⟨#[]⟩, .slice none 0 0] 29)).alloc (.cells #[.int .i64 0, .int .i64 0, .string ⟨#[]⟩, .slice none 0 0] 29)).alloc (.cells #[.int .i64 0, .int .i64 0, .string ⟨#[]⟩, .slice none 0 0] 29)) 0 0 ⟨#[]⟩ none 0 0
    rwa [heap_size_alloc, heap_size_alloc, heap_size_alloc, heap_size_alloc, heap_size_alloc, heap_size_alloc] at this
  have HE0 : Hid (RowT 29 (((((((w.alloc (.cells #[.int .i64 op, .int .i64 n, .string s, .slice a len cap] 29)).alloc (.cells #[.int .i64 op2, .int .i64 n2, .string s2, .slice a2 len2 cap2] 29)).alloc (.cells #[.int .i64 0, .int .i64 0, .string ⟨#[]⟩, .slice none 0 0] 29)).alloc (.cells #[.int .i64 0, .int .i64 0, .string ⟨#[]⟩, .slice none 0 0] 29)).alloc (.cells #[.int .i64 0, .int .i64 0, .string ⟨#[]⟩, .slice none 0 0] 29)).alloc (.cells #[.int .i64 0, .int .i64 0, .string ⟨#[]⟩, .slice none 0 0] 29)).alloc (.cells #[.int .i64 0, .int .i64 0, .string ⟨#[]⟩, .slice none 0 0] 29)) w.heap.size op n s a len cap) := ((((((RowT.new 29 w op n s a len cap).below (ab (.cells #[.int .i64 op2, .int .i64 n2, .string s2, .slice a2 len2 cap2] 29))).below (ab (.cells #[.int .i64 0, .int .i64 0, .string ⟨#[]⟩, .slice none 0 0] 29))).below (ab (.cells #[.int .i64 0, .int .i64 0, .string ⟨#[]⟩, .slice none 0 0] 29))).below (ab (.cells #[.int .i64 0, .int .i64 0, .string ⟨#[]⟩, .slice none 0 0] 29))).below (ab (.cells #[.int .i64 0, .int .i64 0, .string ⟨#[]⟩, .slice none 0 0] 29))).below (ab (.cells #[.int .i64 0, .int .i64 0, .string ⟨#[]⟩, .slice none 0 0] 29))
  have HLE := hide (hl.below hb0)
  have HL2 := hide (hl2.below hb0)
  have HB0 := hide hb0
  clear hl hl2 hb0
  go_enter Tryz.func20, Tryz.ntmps20
  go_wp2_with fail
  generalize hgw : (((((((w.alloc (.cells #[.int .i64 op, .int .i64 n, .string s, .slice a len cap] 29)).alloc (.cells #[.int .i64 op2, .int .i64 n2, .string s2, .slice a2 len2 cap2] 29)).alloc (.cells #[.int .i64 0, .int .i64 0, .string ⟨#[]⟩, .slice none 0 0] 29)).alloc (.cells #[.int .i64 0, .int .i64 0, .string ⟨#[]⟩, .slice none 0 0] 29)).alloc (.cells #[.int .i64 0, .int .i64 0, .string ⟨#[]⟩, .slice none 0 0] 29)).alloc (.cells #[.int .i64 0, .int .i64 0, .string ⟨#[]⟩, .slice none 0 0] 29)).alloc (.cells #[.int .i64 0, .int .i64 0, .string ⟨#[]⟩, .slice none 0 0] 29)) = W1 at *
  clear hgw
  refine (unhide hN _ (unhide HL2)).mono ?_
  rintro q w1 ⟨op3, n3, s3, a3, len3, cap3, rfl, hl3, hb1⟩
  obtain ⟨rfl, rfl, rfl, rfl, b, o, op5, n5, s5, a5, len5, cap5, op6, n6, s6, a6, len6, cap6, rfl, ⟨r0, r1, r2, r3, hk0⟩, r4, r5, r6, r7, hk1⟩ := lies_kids (hl3.below hb1)
  have HQ := hide (And.intro r0 (And.intro r1 (And.intro r2 (And.intro r3 (And.intro r4 (And.intro r5 (And.intro r6 r7)))))))
  have HPU := hide hk0
  have HSE := hide hk1
  have HB1 := hide (bt (unhide HB0) hb1 (Nat.le_refl _))
  have HZ0 := hide ((unhide HZ0).below hb1)
  have HZ1 := hide ((unhide HZ1).below hb1)
  have HZ2 := hide ((unhide HZ2).below hb1)
  have HZ3 := hide ((unhide HZ3).below hb1)
  have HZ4 := hide ((unhide HZ4).below hb1)
  have HE0 := hide ((unhide HE0).below hb1)
  have HLE := hide ((unhide HLE).below hb1)
  clear hb1 hN HB0 HL2 hl3 hk0 hk1 r0 r1 r2 r3 r4 r5 r6 r7
  have HWL : Hid (w.heap.size < w1.heap.size) := (unhide HE0).lt
  have HWL2 : Hid (w.heap.size + 1 + 1 + 1 + 1 + 1 < w1.heap.size) := Nat.lt_of_succ_lt (unhide HZ4).lt
  have hX : Hid (RowT 29 (w1.alloc (.cells #[.int .i64 3, .int .i64 n3, .string s3, .slice (some ⟨b, o, none⟩) 2 cap3] 29)) w1.heap.size 3 n3 s3 (some ⟨b, o, none⟩) 2 cap3) := RowT.new 29 w1 3 n3 s3 (some ⟨b, o, none⟩) 2 cap3
  have hp := ab (w := w1) (.cells #[.int .i64 3, .int .i64 n3, .string s3, .slice (some ⟨b, o, none⟩) 2 cap3] 29)
  have HB1 := hide (bt (unhide HB1) hp (Nat.le_refl _))
  have HZ0 := hide ((unhide HZ0).below hp)
  have HZ1 := hide ((unhide HZ1).below hp)
  have HZ2 := hide ((unhide HZ2).below hp)
  have HZ3 := hide ((unhide HZ3).below hp)
  have HZ4 := hide ((unhide HZ4).below hp)
  have HE0 := hide ((unhide HE0).below hp)
  have HLE := hide ((unhide HLE).below hp)
  have HPU := hide ((unhide HPU).below hp)
  have HSE := hide ((unhide HSE).below hp)
  obtain ⟨r0, r1, r2, r3, r4, r5, r6, r7⟩ := unhide HQ
  have r0 := kpc hp r0
  have r1 := kpc hp r1
  have r2 := kpc hp r2
  have r3 := kpc hp r3
  have r4 := kpc hp r4
  have r5 := kpc hp r5
  have r6 := kpc hp r6
  have r7 := kpc hp r7
  have HQ := hide (And.intro r0 (And.intro r1 (And.intro r2 (And.intro r3 (And.intro r4 (And.intro r5 (And.intro r6 r7)))))))
  clear r4 r5 r6 r7
  obtain ⟨x0, x1, x2, x3⟩ := (unhide hX).facts
  obtain ⟨y0, y1, y2, y3⟩ := ((unhide HE0).below (ab (.cells #[.int .i64 op5, .int .i64 n5, .string s5, .slice a5 len5 cap5] 29))).facts
  have HXN := hide (lt_of_cell x0)
  have yn : w.heap.size ≠ w1.heap.size + 1 := Nat.ne_of_lt (Nat.lt_succ_of_lt (unhide HWL))
  have ym := Ne.symm yn
  clear hp
  go_wp2_with fail
  have hp := ab (w := w1.alloc (.cells #[.int .i64 3, .int .i64 n3, .string s3, .slice (some ⟨b, o, none⟩) 2 cap3] 29)) (.cells #[.int .i64 op5, .int .i64 n5, .string s5, .slice a5 len5 cap5] 29)
  refine (unhide hAG op5 n5 s5 a5 len5 cap5 _ ((unhide HLE).below hp) ((unhide HPU).below hp)).mono ?_
  rintro q w2 ⟨op7, n7, s7, a7, len7, cap7, rfl, hl7, hb2, -⟩
  rw [unhide HA]
  have hX5 := (RowT.new 29 (w1.alloc (.cells #[.int .i64 3, .int .i64 n3, .string s3, .slice (some ⟨b, o, none⟩) 2 cap3] 29)) op5 n5 s5 a5 len5 cap5).below hb2
  rw [heap_size_alloc] at hX5
  have HX5 := hide hX5
  have HSL : Hid (w1.heap.size + 1 < w2.heap.size) := hX5.lt
  have hp := bt (bt hp hb2 (Nat.le_refl _)) (ab (.cells #[.int .i64 op7, .int .i64 n7, .string s7, .slice a7 len7 cap7] 29)) (Nat.le_refl _)
  have HX5 := hide ((unhide HX5).below (ab (.cells #[.int .i64 op7, .int .i64 n7, .string s7, .slice a7 len7 cap7] 29)))
  have HL7 := hide ((hl7.any (Nat.zero_le _)).below (ab (.cells #[.int .i64 op7, .int .i64 n7, .string s7, .slice a7 len7 cap7] 29)))
  have HX7 := hide (RowT.new 29 w2 op7 n7 s7 a7 len7 cap7)
  have HBA := hide (bt (unhide HB1) hp (Nat.le_refl _))
  have HZ0 := hide ((unhide HZ0).below hp)
  have HZ1 := hide ((unhide HZ1).below hp)
  have HZ2 := hide ((unhide HZ2).below hp)
  have HZ3 := hide ((unhide HZ3).below hp)
  have HZ4 := hide ((unhide HZ4).below hp)
  have hX := hide ((unhide hX).below hp)
  have HPU := hide ((unhide HPU).below hp)
  have HSE := hide ((unhide HSE).below hp)
  have r0 := kpc hp (unhide HQ).1
  have r1 := kpc hp (unhide HQ).2.1
  have r2 := kpc hp (unhide HQ).2.2.1
  have r3 := kpc hp (unhide HQ).2.2.2.1
  have r4 := kpc hp (unhide HQ).2.2.2.2.1
  have r5 := kpc hp (unhide HQ).2.2.2.2.2.1
  have r6 := kpc hp (unhide HQ).2.2.2.2.2.2.1
  have r7 := kpc hp (unhide HQ).2.2.2.2.2.2.2
  obtain ⟨x0, x1, x2, x3⟩ := (unhide hX).facts
  obtain ⟨g0, g1, g2, g3⟩ := (unhide HX7).facts
  clear hp hb2 hl7 hX5 HB1 HQ y0 y1 y2 y3 yn ym HE0 HLE hAG
  go_wp2_with fail
  generalize hgw : w2.alloc (.cells #[.int .i64 op7, .int .i64 n7, .string s7, .slice a7 len7 cap7] 29) = W2 at *
  clear hgw
  generalize w2.heap.size = bS at *
  generalize w1.heap.size = bX at *
  have hK := hide (fun V (hV : Below W2.heap.size W2 V) => keyS (agreeT e pub) 0 op7 n7 s7 a7 len7 cap7 V ((unhide HL7).below hV) (by have := agree200 e pub; omega) (by decide) (by decide))
  have hO := hide (fun op8 n8 s8 a8 len8 cap8 V (hV : Below W2.heap.size W2 V) hk => openS_any (keyT (agreeT e pub) 0) sealed 0 op8 n8 s8 a8 len8 cap8 op6 n6 s6 a6 len6 cap6 V hk ((unhide HSE).below hV) (by have := unhide HSZ; omega) (by decide) (by decide))
  have lx := lt_of_cell x0
  have ly := lt_of_cell g0
  have lw := lt_of_cell r0
  have lxn := Nat.ne_of_lt lx
  have lxm := Ne.symm lxn
  have lyn := Nat.ne_of_lt ly
  have lym := Ne.symm lyn
  have lwn := Nat.ne_of_lt lw
  have lwm := Ne.symm lwn
  generalize hgO : openT (keyT (agreeT e pub) 0) 0 sealed = OT at *
  have HOT : Hid (KidsOk OT) := hgO ▸ openT_kids _ _ _
  generalize hgB : (openO (keyT (agreeT e pub) 0) 0 sealed).isSome = OB at *
  go_cut [15, 16] (fun p q wx => CutK OT W2 (.bool OB) p q wx)
  case first =>
    go_region_held3 (fun x => x.cell? ⟨bS, 0, none⟩ = some (.int .i64 op7) ∧ x.cell? ⟨bS, 1, none⟩ = some (.int .i64 n7) ∧ x.cell? ⟨bS, 2, none⟩ = some (.string s7) ∧ x.cell? ⟨bS, 3, none⟩ = some (.slice a7 len7 cap7) ∧ x.cell? ⟨bX, 3, none⟩ = some (.slice (some ⟨b, o, none⟩) 2 cap3) ∧ x.cell? ⟨b, o + 4, none⟩ = some (.int .i64 op6) ∧ x.cell? ⟨b, o + 5, none⟩ = some (.int .i64 n6) ∧ x.cell? ⟨b, o + 6, none⟩ = some (.string s6) ∧ x.cell? ⟨b, o + 7, none⟩ = some (.slice a6 len6 cap6)) (go_keep)
      (first
        | (go_at_call 77
           refine (unhide hK _ ?_).mono ?_
           first
             | exact (Below.refl _ _).drew
             | exact (ab _).drew
           rintro e9 w6 ⟨op8, n8, s8, a8, len8, cap8, rfl, hl8, hb6⟩
           try have zz6 := hide (((ZBox.new W2).drew).below hb6)
           have HLK := hide (hl8.any (Nat.zero_le _))
           have C6 : Hid (Below W2.heap.size W2 w6) := by
             first
               | exact below_drew' hb6
               | exact bt (ab _) (below_drew' hb6) (Nat.le_refl _)
           have i0 := kpc (unhide C6) g0
           have i1 := kpc (unhide C6) g1
           have i2 := kpc (unhide C6) g2
           have i3 := kpc (unhide C6) g3
           have ix := kpc (unhide C6) x3
           have j4 := kpc (unhide C6) r4
           have j5 := kpc (unhide C6) r5
           have j6 := kpc (unhide C6) r6
           have j7 := kpc (unhide C6) r7
           clear hl8
           have lz := lt_of_cell i0
           have lzn := Nat.ne_of_lt lz
           have lzm := Ne.symm lzn
           have ls := lt_of_cell ix
           have lsn := Nat.ne_of_lt ls
           have lsm := Ne.symm lsn
           have lq := lt_of_cell j4
           have lqn := Nat.ne_of_lt lq
           have lqm := Ne.symm lqn)
        | (go_at_call 82
           refine (unhide hO _ _ _ _ _ _ _ ?_ ?_).mono ?_
           first
             | exact unhide C6
             | exact bt (unhide C6) (ab _) (Nat.le_refl _)
           first
             | exact unhide HLK
             | exact (unhide HLK).below (ab _)
           rintro e9 w7 ⟨op9, n9, s9, a9, len9, cap9, rfl, hl9, hb7⟩
           try have zz7 := hide ((unhide zz6).below hb7)
           try have zz7 := hide ((ZBox.new w6).below hb7)
           have C7 : Hid (Below w6.heap.size w6 w7) := by
             first
               | exact hb7
               | exact bt (ab _) hb7 (Nat.le_refl _)
           have HL9 := hide hl9
           clear hl9
           have k0 := kpc (unhide C7) i0
           have k1 := kpc (unhide C7) i1
           have k2 := kpc (unhide C7) i2
           have k3 := kpc (unhide C7) i3
           have kx := kpc (unhide C7) ix
           have m4 := kpc (unhide C7) j4
           have m5 := kpc (unhide C7) j5
           have m6 := kpc (unhide C7) j6
           have m7 := kpc (unhide C7) j7
           try obtain ⟨p0, p1, p2, p3, q0, q1, q2, q3⟩ := (unhide zz7).facts
           have lt7 := lt_of_cell k0
           have ltn := Nat.ne_of_lt lt7
           have ltm := Ne.symm ltn
           have lt8 := lt_of_cell kx
           have lt8n := Nat.ne_of_lt lt8
           have lt8m := Ne.symm lt8n
           have lt9 := lt_of_cell m4
           have lt9n := Nat.ne_of_lt lt9
           have lt9m := Ne.symm lt9n))
    all_goals
      go_wp2_with fail
      go_meet
      have s56 := (unhide C6).size
      first
        | (with_reducible refine CutK.late ?_ ?_
           exact bt (unhide C6) (unhide C7) (Nat.le_refl _)
           exact unhide HL9)
        | (with_reducible refine CutK.early ?_ ?_ ?_ ?_ ?_
           exact bt (unhide C6) (unhide C7) (Nat.le_refl _)
           exact unhide zz7
           omega
           exact unhide HOT
           exact unhide HL9)
  case rest =>
    obtain ⟨bB, op8, n8, s8, a8, len8, cap8, rfl, rfl, hge8, hR8, hl8, hbc⟩ := hcut
    have HB := hide (bt (unhide HBA) hbc (Nat.le_refl _))
    have HR8 := hide hR8
    have HL8 := hide hl8
    have HX7 := hide ((unhide HX7).below hbc)
    have HX5 := hide ((unhide HX5).below hbc)
    have HL7 := hide ((unhide HL7).below hbc)
    have HPU := hide ((unhide HPU).below hbc)
    have HZ0 := hide ((unhide HZ0).below hbc)
    have HZ1 := hide ((unhide HZ1).below hbc)
    have HZ2 := hide ((unhide HZ2).below hbc)
    have HZ3 := hide ((unhide HZ3).below hbc)
    have HZ4 := hide ((unhide HZ4).below hbc)
    clear hbc hR8 hl8 HBA r0 r1 r2 r3 r4 r5 r6 r7 x0 x1 x2 x3 g0 g1 g2 g3 lx ly lw lxn lxm lyn lym lwn lwm hK hO HSE
    obtain ⟨u0, u1, u2, u3⟩ := (unhide HR8).facts
    go_wp2_with fail
    have F0 : w.heap.size + 1 + 1 + 1 + 1 + 1 + 1 ≠ w.heap.size + 1 + 1 ∧ w.heap.size + 1 + 1 + 1 + 1 + 1 + 1 ≠ w.heap.size + 1 + 1 + 1 ∧ w.heap.size + 1 + 1 + 1 + 1 + 1 + 1 ≠ w.heap.size + 1 + 1 + 1 + 1 ∧ w.heap.size + 1 + 1 + 1 + 1 + 1 + 1 ≠ w.heap.size + 1 + 1 + 1 + 1 + 1 := ne_far (Nat.lt_succ_self _)
    refine wp_region_held (S := fun y => RowT 29 y (w.heap.size + 1 + 1 + 1 + 1 + 1 + 1) 0 0 ⟨#[]⟩ none 0 0) (by kernel_rfl) ?_
    have hS : (fun y : World => RowT 29 y (w.heap.size + 1 + 1 + 1 + 1 + 1 + 1) 0 0 ⟨#[]⟩ none 0 0) wc.drew := unhide HZ4
    show wpAnyH _ _ _ _ _ _ _ _ wc.drew
    refine take_load (i := 0) rfl rfl (fun y h => h) (by kernel_rfl) (by kernel_rfl) (by kernel_rfl) (fun _ _ _ _ h => h) hS ?_
    simp only [Act.put, List.setIfInBounds_toArray, List.set_cons_succ, List.set_cons_zero]
    refine take_load (i := 1) rfl rfl (fun y h => h) (by kernel_rfl) (by kernel_rfl) (by kernel_rfl) (fun _ _ _ _ h => h) hS ?_
    simp only [Act.put, List.setIfInBounds_toArray, List.set_cons_succ, List.set_cons_zero]
    refine take_load (i := 2) rfl rfl (fun y h => h) (by kernel_rfl) (by kernel_rfl) (by kernel_rfl) (fun _ _ _ _ h => h) hS ?_
    simp only [Act.put, List.setIfInBounds_toArray, List.set_cons_succ, List.set_cons_zero]
    refine take_load (i := 3) rfl rfl (fun y h => h) (by kernel_rfl) (by kernel_rfl) (by kernel_rfl) (fun _ _ _ _ h => h) hS ?_
    simp only [Act.put, List.setIfInBounds_toArray, List.set_cons_succ, List.set_cons_zero]
    refine all_store (i := 4) (by kernel_rfl) rfl rfl rfl (unhide HZ0) (RowT.other hS F0.1) fun hS => ?_
    refine all_store (i := 5) (by kernel_rfl) rfl rfl rfl (RowT.other (unhide HZ1) (zne _).1.1) (RowT.other hS F0.2.1) fun hS => ?_
    refine all_store (i := 6) (by kernel_rfl) rfl rfl rfl (RowT.other (RowT.other (unhide HZ2) (zne _).1.2.1) (zne _).2.1.1) (RowT.other hS F0.2.2.1) fun hS => ?_
    refine all_store (i := 7) (by kernel_rfl) rfl rfl rfl (RowT.other (RowT.other (RowT.other (unhide HZ3) (zne _).1.2.2) (zne _).2.1.2) (zne _).2.2) (RowT.other hS F0.2.2.2) fun hS => ?_
    refine all_assign (i := 8) (by kernel_rfl) rfl rfl hS ?_
    refine wpAnyH_done (by kernel_rfl) ?_ _
    simp only [Act.put, List.setIfInBounds_toArray, List.set_cons_succ, List.set_cons_zero]
    go_wp2_with fail
    obtain ⟨r0, r1, r2, r3⟩ := fill_four (w := wc.drew) (op0 := 0) (n0 := 0) (s0 := ⟨#[]⟩) (a0 := none) (l0 := 0) (k0 := 0) (op1 := 0) (n1 := 0) (s1 := ⟨#[]⟩) (a1 := none) (l1 := 0) (k1 := 0) (op2 := 0) (n2 := 0) (s2 := ⟨#[]⟩) (a2 := none) (l2 := 0) (k2 := 0) (op3 := 0) (n3 := 0) (s3 := ⟨#[]⟩) (a3 := none) (l3 := 0) (k3 := 0) (unhide HZ0) (unhide HZ1) (unhide HZ2) (unhide HZ3)
    exact bodyPost_ret (v := .tuple #[.agg #[.int .i64 0, .int .i64 0, .string ⟨#[]⟩, .slice none 0 0], .agg #[.int .i64 0, .int .i64 0, .string ⟨#[]⟩, .slice none 0 0], .agg #[.int .i64 0, .int .i64 0, .string ⟨#[]⟩, .slice none 0 0], .agg #[.int .i64 0, .int .i64 0, .string ⟨#[]⟩, .slice none 0 0], .bool false]) (results_cells4 Tryz.results20 rfl rfl rfl rfl (RowT.load r0) (RowT.load r1) (RowT.load r2) (RowT.load r3)) rfl ⟨rfl, fill_four_below (w := wc.drew) (unhide HB).drew (le_two _)⟩

set_option maxRecDepth 100000 in
set_option maxHeartbeats 8000000 in
theorem rofS_open_no (e t pub sealed : Tm) (nx : Int) (sx : ByteArray) (op n : Int) (s : ByteArray) (a : Option Addr) (len cap : Nat) (op2 n2 : Int) (s2 : ByteArray) (a2 : Option Addr) (len2 cap2 : Nat) (w : World) (hl : Lies w 0 e (tmCells op n s a len cap)) (hl2 : Lies w 0 t (tmCells op2 n2 s2 a2 len2 cap2)) (hst : e.size + t.size ≤ 1048578) (hb : behO 3 (textT replyW) t = some (.node 3 nx sx [pub, sealed])) (ha : agreeB e pub = true) (ho : openO (keyT (agreeT e pub) 0) 0 sealed = none) : Calls Tryz.prog 20 #[.agg #[.int .i64 op, .int .i64 n, .string s, .slice a len cap], .agg #[.int .i64 op2, .int .i64 n2, .string s2, .slice a2 len2 cap2]] w fun q w' => q = .returned (.tuple #[.agg #[.int .i64 0, .int .i64 0, .string ⟨#[]⟩, .slice none 0 0], .agg #[.int .i64 0, .int .i64 0, .string ⟨#[]⟩, .slice none 0 0], .agg #[.int .i64 0, .int .i64 0, .string ⟨#[]⟩, .slice none 0 0], .agg #[.int .i64 0, .int .i64 0, .string ⟨#[]⟩, .slice none 0 0], .bool false]) ∧ Below w.heap.size w w' := by
  have HA := hide ha
  have HO := hide ho
  clear ha ho
  have HBH := hide hb
  obtain ⟨hp0, hp1, hpz, -⟩ := inO_of_named hb
  have HOP := hide hp0
  have HKZ := hide hpz
  have hN := hide (fun V hl => named_some t (.node 3 nx sx [pub, sealed]) replyW (by decide) op2 n2 s2 a2 len2 cap2 V hl (by omega) hb)
  have hAG := hide (fun op5 n5 s5 a5 len5 cap5 V h1 h2 => agree_calls e pub op n s a len cap op5 n5 s5 a5 len5 cap5 V h1 h2 (by omega))
  have HSZ : Hid (sealed.size ≤ 1048578) := by show _ ≤ _; omega
  have hCP := hide (fun op5 n5 s5 a5 len5 cap5 V h1 => cz_calls pub op5 n5 s5 a5 len5 cap5 V h1 (by have := okT_small hp0; omega))
  clear hp0 hp1 hpz hst hb
  have hb0 : Below w.heap.size w (((((((w.alloc (.cells #[.int .i64 op, .int .i64 n, .string s, .slice a len cap] 29)).alloc (.cells #[.int .i64 op2, .int .i64 n2, .string s2, .slice a2 len2 cap2] 29)).alloc (.cells #[.int .i64 0, .int .i64 0, .string ⟨#[]⟩, .slice none 0 0] 29)).alloc (.cells #[.int .i64 0, .int .i64 0, .string ⟨#[]⟩, .slice none 0 0] 29)).alloc (.cells #[.int .i64 0, .int .i64 0, .string ⟨#[]⟩, .slice none 0 0] 29)).alloc (.cells #[.int .i64 0, .int .i64 0, .string ⟨#[]⟩, .slice none 0 0] 29)).alloc (.cells #[.int .i64 0, .int .i64 0, .string ⟨#[]⟩, .slice none 0 0] 29)) := bt (bt (bt (bt (bt (bt (ab _) (ab _) (Nat.le_refl _)) (ab _) (Nat.le_refl _)) (ab _) (Nat.le_refl _)) (ab _) (Nat.le_refl _)) (ab _) (Nat.le_refl _)) (ab _) (Nat.le_refl _)
  have HZ0 : Hid (RowT 29 (((((((w.alloc (.cells #[.int .i64 op, .int .i64 n, .string s, .slice a len cap] 29)).alloc (.cells #[.int .i64 op2, .int .i64 n2, .string s2, .slice a2 len2 cap2] 29)).alloc (.cells #[.int .i64 0, .int .i64 0, .string ⟨#[]⟩, .slice none 0 0] 29)).alloc (.cells #[.int .i64 0, .int .i64 0, .string ⟨#[]⟩, .slice none 0 0] 29)).alloc (.cells #[.int .i64 0, .int .i64 0, .string ⟨#[]⟩, .slice none 0 0] 29)).alloc (.cells #[.int .i64 0, .int .i64 0, .string ⟨#[]⟩, .slice none 0 0] 29)).alloc (.cells #[.int .i64 0, .int .i64 0, .string ⟨#[]⟩, .slice none 0 0] 29)) (w.heap.size + 1 + 1) 0 0 ⟨#[]⟩ none 0 0) := by
    have := ((((RowT.new 29 ((w.alloc (.cells #[.int .i64 op, .int .i64 n, .string s, .slice a len cap] 29)).alloc (.cells #[.int .i64 op2, .int .i64 n2, .string s2, .slice a2 len2 cap2] 29)) 0 0 ⟨#[]⟩ none 0 0).below (ab (.cells #[.int .i64 0, .int .i64 0, .string ⟨#[]⟩, .slice none 0 0] 29))).below (ab (.cells #[.int .i64 0, .int .i64 0, .string ⟨#[]⟩, .slice none 0 0] 29))).below (ab (.cells #[.int .i64 0, .int .i64 0, .string ⟨#[]⟩, .slice none 0 0] 29))).below (ab (.cells #[.int .i64 0, .int .i64 0, .string ⟨#[]⟩, .slice none 0 0] 29))
    rwa [heap_size_alloc, heap_size_alloc] at this
  have HZ1 : Hid (RowT 29 (((((((w.alloc (.cells #[.int .i64 op, .int .i64 n, .string s, .slice a len cap] 29)).alloc (.cells #[.int .i64 op2, .int .i64 n2, .string s2, .slice a2 len2 cap2] 29)).alloc (.cells #[.int .i64 0, .int .i64 0, .string ⟨#[]⟩, .slice none 0 0] 29)).alloc (.cells #[.int .i64 0, .int .i64 0, .string ⟨#[]⟩, .slice none 0 0] 29)).alloc (.cells #[.int .i64 0, .int .i64 0, .string ⟨#[]⟩, .slice none 0 0] 29)).alloc (.cells #[.int .i64 0, .int .i64 0, .string ⟨#[]⟩, .slice none 0 0] 29)).alloc (.cells #[.int .i64 0, .int .i64 0, .string ⟨#[]⟩, .slice none 0 0] 29)) (w.heap.size + 1 + 1 + 1) 0 0 ⟨#[]⟩ none 0 0) := by
    have := (((RowT.new 29 (((w.alloc (.cells #[.int .i64 op, .int .i64 n, .string s, .slice a len cap] 29)).alloc (.cells #[.int .i64 op2, .int .i64 n2, .string s2, .slice a2 len2 cap2] 29)).alloc (.cells #[.int .i64 0, .int .i64 0, .string ⟨#[]⟩, .slice none 0 0] 29)) 0 0 ⟨#[]⟩ none 0 0).below (ab (.cells #[.int .i64 0, .int .i64 0, .string ⟨#[]⟩, .slice none 0 0] 29))).below (ab (.cells #[.int .i64 0, .int .i64 0, .string ⟨#[]⟩, .slice none 0 0] 29))).below (ab (.cells #[.int .i64 0, .int .i64 0, .string ⟨#[]⟩, .slice none 0 0] 29))
    rwa [heap_size_alloc, heap_size_alloc, heap_size_alloc] at this
  have HZ2 : Hid (RowT 29 (((((((w.alloc (.cells #[.int .i64 op, .int .i64 n, .string s, .slice a len cap] 29)).alloc (.cells #[.int .i64 op2, .int .i64 n2, .string s2, .slice a2 len2 cap2] 29)).alloc (.cells #[.int .i64 0, .int .i64 0, .string ⟨#[]⟩, .slice none 0 0] 29)).alloc (.cells #[.int .i64 0, .int .i64 0, .string ⟨#[]⟩, .slice none 0 0] 29)).alloc (.cells #[.int .i64 0, .int .i64 0, .string ⟨#[]⟩, .slice none 0 0] 29)).alloc (.cells #[.int .i64 0, .int .i64 0, .string ⟨#[]⟩, .slice none 0 0] 29)).alloc (.cells #[.int .i64 0, .int .i64 0, .string ⟨#[]⟩, .slice none 0 0] 29)) (w.heap.size + 1 + 1 + 1 + 1) 0 0 ⟨#[]⟩ none 0 0) := by
    have := ((RowT.new 29 ((((w.alloc (.cells #[.int .i64 op, .int .i64 n, .string s, .slice a len cap] 29)).alloc (.cells #[.int .i64 op2, .int .i64 n2, .string s2, .slice a2 len2 cap2] 29)).alloc (.cells #[.int .i64 0, .int .i64 0, .string ⟨#[]⟩, .slice none 0 0] 29)).alloc (.cells #[.int .i64 0, .int .i64 0, .string ⟨#[]⟩, .slice none 0 0] 29)) 0 0 ⟨#[]⟩ none 0 0).below (ab (.cells #[.int .i64 0, .int .i64 0, .string ⟨#[]⟩, .slice none 0 0] 29))).below (ab (.cells #[.int .i64 0, .int .i64 0, .string ⟨#[]⟩, .slice none 0 0] 29))
    rwa [heap_size_alloc, heap_size_alloc, heap_size_alloc, heap_size_alloc] at this
  have HZ3 : Hid (RowT 29 (((((((w.alloc (.cells #[.int .i64 op, .int .i64 n, .string s, .slice a len cap] 29)).alloc (.cells #[.int .i64 op2, .int .i64 n2, .string s2, .slice a2 len2 cap2] 29)).alloc (.cells #[.int .i64 0, .int .i64 0, .string ⟨#[]⟩, .slice none 0 0] 29)).alloc (.cells #[.int .i64 0, .int .i64 0, .string ⟨#[]⟩, .slice none 0 0] 29)).alloc (.cells #[.int .i64 0, .int .i64 0, .string ⟨#[]⟩, .slice none 0 0] 29)).alloc (.cells #[.int .i64 0, .int .i64 0, .string ⟨#[]⟩, .slice none 0 0] 29)).alloc (.cells #[.int .i64 0, .int .i64 0, .string ⟨#[]⟩, .slice none 0 0] 29)) (w.heap.size + 1 + 1 + 1 + 1 + 1) 0 0 ⟨#[]⟩ none 0 0) := by
    have := (RowT.new 29 (((((w.alloc (.cells #[.int .i64 op, .int .i64 n, .string s, .slice a len cap] 29)).alloc (.cells #[.int .i64 op2, .int .i64 n2, .string s2, .slice a2 len2 cap2] 29)).alloc (.cells #[.int .i64 0, .int .i64 0, .string ⟨#[]⟩, .slice none 0 0] 29)).alloc (.cells #[.int .i64 0, .int .i64 0, .string ⟨#[]⟩, .slice none 0 0] 29)).alloc (.cells #[.int .i64 0, .int .i64 0, .string ⟨#[]⟩, .slice none 0 0] 29)) 0 0 ⟨#[]⟩ none 0 0).below (ab (.cells #[.int .i64 0, .int .i64 0, .string ⟨#[]⟩, .slice none 0 0] 29))
    rwa [heap_size_alloc, heap_size_alloc, heap_size_alloc, heap_size_alloc, heap_size_alloc] at this
  have HZ4 : Hid (RowT 29 (((((((w.alloc (.cells #[.int .i64 op, .int .i64 n, .string s, .slice a len cap] 29)).alloc (.cells #[.int .i64 op2, .int .i64 n2, .string s2, .slice a2 len2 cap2] 29)).alloc (.cells #[.int .i64 0, .int .i64 0, .string ⟨#[]⟩, .slice none 0 0] 29)).alloc (.cells #[.int .i64 0, .int .i64 0, .string ⟨#[]⟩, .slice none 0 0] 29)).alloc (.cells #[.int .i64 0, .int .i64 0, .string ⟨#[]⟩, .slice none 0 0] 29)).alloc (.cells #[.int .i64 0, .int .i64 0, .string ⟨#[]⟩, .slice none 0 0] 29)).alloc (.cells #[.int .i64 0, .int .i64 0, .string ⟨#[]⟩, .slice none 0 0] 29)) (w.heap.size + 1 + 1 + 1 + 1 + 1 + 1) 0 0 ⟨#[]⟩ none 0 0) := by
    have := RowT.new 29 ((((((w.alloc (.cells #[.int .i64 op, .int .i64 n, .string s, .slice a len cap] 29)).alloc (.cells #[.int .i64 op2, .int .i64 n2, .string s2, .slice a2 len2 cap2] 29)).alloc (.cells #[.int .i64 0, .int .i64 0, .string ⟨#[]⟩, .slice none 0 0] 29)).alloc (.cells #[.int .i64 0, .int .i64 0, .string ⟨#[]⟩, .slice none 0 0] 29)).alloc (.cells #[.int .i64 0, .int .i64 0, .string ⟨#[]⟩, .slice none 0 0] 29)).alloc (.cells #[.int .i64 0, .int .i64 0, .string ⟨#[]⟩, .slice none 0 0] 29)) 0 0 ⟨#[]⟩ none 0 0
    rwa [heap_size_alloc, heap_size_alloc, heap_size_alloc, heap_size_alloc, heap_size_alloc, heap_size_alloc] at this
  have HE0 : Hid (RowT 29 (((((((w.alloc (.cells #[.int .i64 op, .int .i64 n, .string s, .slice a len cap] 29)).alloc (.cells #[.int .i64 op2, .int .i64 n2, .string s2, .slice a2 len2 cap2] 29)).alloc (.cells #[.int .i64 0, .int .i64 0, .string ⟨#[]⟩, .slice none 0 0] 29)).alloc (.cells #[.int .i64 0, .int .i64 0, .string ⟨#[]⟩, .slice none 0 0] 29)).alloc (.cells #[.int .i64 0, .int .i64 0, .string ⟨#[]⟩, .slice none 0 0] 29)).alloc (.cells #[.int .i64 0, .int .i64 0, .string ⟨#[]⟩, .slice none 0 0] 29)).alloc (.cells #[.int .i64 0, .int .i64 0, .string ⟨#[]⟩, .slice none 0 0] 29)) w.heap.size op n s a len cap) := ((((((RowT.new 29 w op n s a len cap).below (ab (.cells #[.int .i64 op2, .int .i64 n2, .string s2, .slice a2 len2 cap2] 29))).below (ab (.cells #[.int .i64 0, .int .i64 0, .string ⟨#[]⟩, .slice none 0 0] 29))).below (ab (.cells #[.int .i64 0, .int .i64 0, .string ⟨#[]⟩, .slice none 0 0] 29))).below (ab (.cells #[.int .i64 0, .int .i64 0, .string ⟨#[]⟩, .slice none 0 0] 29))).below (ab (.cells #[.int .i64 0, .int .i64 0, .string ⟨#[]⟩, .slice none 0 0] 29))).below (ab (.cells #[.int .i64 0, .int .i64 0, .string ⟨#[]⟩, .slice none 0 0] 29))
  have HLE := hide (hl.below hb0)
  have HL2 := hide (hl2.below hb0)
  have HB0 := hide hb0
  clear hl hl2 hb0
  go_enter Tryz.func20, Tryz.ntmps20
  go_wp2_with fail
  generalize hgw : (((((((w.alloc (.cells #[.int .i64 op, .int .i64 n, .string s, .slice a len cap] 29)).alloc (.cells #[.int .i64 op2, .int .i64 n2, .string s2, .slice a2 len2 cap2] 29)).alloc (.cells #[.int .i64 0, .int .i64 0, .string ⟨#[]⟩, .slice none 0 0] 29)).alloc (.cells #[.int .i64 0, .int .i64 0, .string ⟨#[]⟩, .slice none 0 0] 29)).alloc (.cells #[.int .i64 0, .int .i64 0, .string ⟨#[]⟩, .slice none 0 0] 29)).alloc (.cells #[.int .i64 0, .int .i64 0, .string ⟨#[]⟩, .slice none 0 0] 29)).alloc (.cells #[.int .i64 0, .int .i64 0, .string ⟨#[]⟩, .slice none 0 0] 29)) = W1 at *
  clear hgw
  refine (unhide hN _ (unhide HL2)).mono ?_
  rintro q w1 ⟨op3, n3, s3, a3, len3, cap3, rfl, hl3, hb1⟩
  obtain ⟨rfl, rfl, rfl, rfl, b, o, op5, n5, s5, a5, len5, cap5, op6, n6, s6, a6, len6, cap6, rfl, ⟨r0, r1, r2, r3, hk0⟩, r4, r5, r6, r7, hk1⟩ := lies_kids (hl3.below hb1)
  have HQ := hide (And.intro r0 (And.intro r1 (And.intro r2 (And.intro r3 (And.intro r4 (And.intro r5 (And.intro r6 r7)))))))
  have HPU := hide hk0
  have HSE := hide hk1
  have HB1 := hide (bt (unhide HB0) hb1 (Nat.le_refl _))
  have HZ0 := hide ((unhide HZ0).below hb1)
  have HZ1 := hide ((unhide HZ1).below hb1)
  have HZ2 := hide ((unhide HZ2).below hb1)
  have HZ3 := hide ((unhide HZ3).below hb1)
  have HZ4 := hide ((unhide HZ4).below hb1)
  have HE0 := hide ((unhide HE0).below hb1)
  have HLE := hide ((unhide HLE).below hb1)
  clear hb1 hN HB0 HL2 hl3 hk0 hk1 r0 r1 r2 r3 r4 r5 r6 r7
  have HWL : Hid (w.heap.size < w1.heap.size) := (unhide HE0).lt
  have HWL2 : Hid (w.heap.size + 1 + 1 + 1 + 1 + 1 < w1.heap.size) := Nat.lt_of_succ_lt (unhide HZ4).lt
  have hX : Hid (RowT 29 (w1.alloc (.cells #[.int .i64 3, .int .i64 n3, .string s3, .slice (some ⟨b, o, none⟩) 2 cap3] 29)) w1.heap.size 3 n3 s3 (some ⟨b, o, none⟩) 2 cap3) := RowT.new 29 w1 3 n3 s3 (some ⟨b, o, none⟩) 2 cap3
  have hp := ab (w := w1) (.cells #[.int .i64 3, .int .i64 n3, .string s3, .slice (some ⟨b, o, none⟩) 2 cap3] 29)
  have HB1 := hide (bt (unhide HB1) hp (Nat.le_refl _))
  have HZ0 := hide ((unhide HZ0).below hp)
  have HZ1 := hide ((unhide HZ1).below hp)
  have HZ2 := hide ((unhide HZ2).below hp)
  have HZ3 := hide ((unhide HZ3).below hp)
  have HZ4 := hide ((unhide HZ4).below hp)
  have HE0 := hide ((unhide HE0).below hp)
  have HLE := hide ((unhide HLE).below hp)
  have HPU := hide ((unhide HPU).below hp)
  have HSE := hide ((unhide HSE).below hp)
  obtain ⟨r0, r1, r2, r3, r4, r5, r6, r7⟩ := unhide HQ
  have r0 := kpc hp r0
  have r1 := kpc hp r1
  have r2 := kpc hp r2
  have r3 := kpc hp r3
  have r4 := kpc hp r4
  have r5 := kpc hp r5
  have r6 := kpc hp r6
  have r7 := kpc hp r7
  have HQ := hide (And.intro r0 (And.intro r1 (And.intro r2 (And.intro r3 (And.intro r4 (And.intro r5 (And.intro r6 r7)))))))
  clear r4 r5 r6 r7
  obtain ⟨x0, x1, x2, x3⟩ := (unhide hX).facts
  obtain ⟨y0, y1, y2, y3⟩ := ((unhide HE0).below (ab (.cells #[.int .i64 op5, .int .i64 n5, .string s5, .slice a5 len5 cap5] 29))).facts
  have HXN := hide (lt_of_cell x0)
  have yn : w.heap.size ≠ w1.heap.size + 1 := Nat.ne_of_lt (Nat.lt_succ_of_lt (unhide HWL))
  have ym := Ne.symm yn
  clear hp
  go_wp2_with fail
  have hp := ab (w := w1.alloc (.cells #[.int .i64 3, .int .i64 n3, .string s3, .slice (some ⟨b, o, none⟩) 2 cap3] 29)) (.cells #[.int .i64 op5, .int .i64 n5, .string s5, .slice a5 len5 cap5] 29)
  refine (unhide hAG op5 n5 s5 a5 len5 cap5 _ ((unhide HLE).below hp) ((unhide HPU).below hp)).mono ?_
  rintro q w2 ⟨op7, n7, s7, a7, len7, cap7, rfl, hl7, hb2, -⟩
  rw [unhide HA]
  have hX5 := (RowT.new 29 (w1.alloc (.cells #[.int .i64 3, .int .i64 n3, .string s3, .slice (some ⟨b, o, none⟩) 2 cap3] 29)) op5 n5 s5 a5 len5 cap5).below hb2
  rw [heap_size_alloc] at hX5
  have HX5 := hide hX5
  have HSL : Hid (w1.heap.size + 1 < w2.heap.size) := hX5.lt
  have hp := bt (bt hp hb2 (Nat.le_refl _)) (ab (.cells #[.int .i64 op7, .int .i64 n7, .string s7, .slice a7 len7 cap7] 29)) (Nat.le_refl _)
  have HX5 := hide ((unhide HX5).below (ab (.cells #[.int .i64 op7, .int .i64 n7, .string s7, .slice a7 len7 cap7] 29)))
  have HL7 := hide ((hl7.any (Nat.zero_le _)).below (ab (.cells #[.int .i64 op7, .int .i64 n7, .string s7, .slice a7 len7 cap7] 29)))
  have HX7 := hide (RowT.new 29 w2 op7 n7 s7 a7 len7 cap7)
  have HBA := hide (bt (unhide HB1) hp (Nat.le_refl _))
  have HZ0 := hide ((unhide HZ0).below hp)
  have HZ1 := hide ((unhide HZ1).below hp)
  have HZ2 := hide ((unhide HZ2).below hp)
  have HZ3 := hide ((unhide HZ3).below hp)
  have HZ4 := hide ((unhide HZ4).below hp)
  have hX := hide ((unhide hX).below hp)
  have HPU := hide ((unhide HPU).below hp)
  have HSE := hide ((unhide HSE).below hp)
  have r0 := kpc hp (unhide HQ).1
  have r1 := kpc hp (unhide HQ).2.1
  have r2 := kpc hp (unhide HQ).2.2.1
  have r3 := kpc hp (unhide HQ).2.2.2.1
  have r4 := kpc hp (unhide HQ).2.2.2.2.1
  have r5 := kpc hp (unhide HQ).2.2.2.2.2.1
  have r6 := kpc hp (unhide HQ).2.2.2.2.2.2.1
  have r7 := kpc hp (unhide HQ).2.2.2.2.2.2.2
  obtain ⟨x0, x1, x2, x3⟩ := (unhide hX).facts
  obtain ⟨g0, g1, g2, g3⟩ := (unhide HX7).facts
  clear hp hb2 hl7 hX5 HB1 HQ y0 y1 y2 y3 yn ym HE0 HLE hAG
  go_wp2_with fail
  generalize hgw : w2.alloc (.cells #[.int .i64 op7, .int .i64 n7, .string s7, .slice a7 len7 cap7] 29) = W2 at *
  clear hgw
  generalize w2.heap.size = bS at *
  generalize w1.heap.size = bX at *
  have hK := hide (fun V (hV : Below W2.heap.size W2 V) => keyS (agreeT e pub) 0 op7 n7 s7 a7 len7 cap7 V ((unhide HL7).below hV) (by have := agree200 e pub; omega) (by decide) (by decide))
  have hO := hide (fun op8 n8 s8 a8 len8 cap8 V (hV : Below W2.heap.size W2 V) hk => openS_any (keyT (agreeT e pub) 0) sealed 0 op8 n8 s8 a8 len8 cap8 op6 n6 s6 a6 len6 cap6 V hk ((unhide HSE).below hV) (by have := unhide HSZ; omega) (by decide) (by decide))
  have lx := lt_of_cell x0
  have ly := lt_of_cell g0
  have lw := lt_of_cell r0
  have lxn := Nat.ne_of_lt lx
  have lxm := Ne.symm lxn
  have lyn := Nat.ne_of_lt ly
  have lym := Ne.symm lyn
  have lwn := Nat.ne_of_lt lw
  have lwm := Ne.symm lwn
  generalize hgO : openT (keyT (agreeT e pub) 0) 0 sealed = OT at *
  have HOT : Hid (KidsOk OT) := hgO ▸ openT_kids _ _ _
  generalize hgB : (openO (keyT (agreeT e pub) 0) 0 sealed).isSome = OB at *
  go_cut [15, 16] (fun p q wx => CutK OT W2 (.bool OB) p q wx)
  case first =>
    go_region_held3 (fun x => x.cell? ⟨bS, 0, none⟩ = some (.int .i64 op7) ∧ x.cell? ⟨bS, 1, none⟩ = some (.int .i64 n7) ∧ x.cell? ⟨bS, 2, none⟩ = some (.string s7) ∧ x.cell? ⟨bS, 3, none⟩ = some (.slice a7 len7 cap7) ∧ x.cell? ⟨bX, 3, none⟩ = some (.slice (some ⟨b, o, none⟩) 2 cap3) ∧ x.cell? ⟨b, o + 4, none⟩ = some (.int .i64 op6) ∧ x.cell? ⟨b, o + 5, none⟩ = some (.int .i64 n6) ∧ x.cell? ⟨b, o + 6, none⟩ = some (.string s6) ∧ x.cell? ⟨b, o + 7, none⟩ = some (.slice a6 len6 cap6)) (go_keep)
      (first
        | (go_at_call 77
           refine (unhide hK _ ?_).mono ?_
           first
             | exact (Below.refl _ _).drew
             | exact (ab _).drew
           rintro e9 w6 ⟨op8, n8, s8, a8, len8, cap8, rfl, hl8, hb6⟩
           try have zz6 := hide (((ZBox.new W2).drew).below hb6)
           have HLK := hide (hl8.any (Nat.zero_le _))
           have C6 : Hid (Below W2.heap.size W2 w6) := by
             first
               | exact below_drew' hb6
               | exact bt (ab _) (below_drew' hb6) (Nat.le_refl _)
           have i0 := kpc (unhide C6) g0
           have i1 := kpc (unhide C6) g1
           have i2 := kpc (unhide C6) g2
           have i3 := kpc (unhide C6) g3
           have ix := kpc (unhide C6) x3
           have j4 := kpc (unhide C6) r4
           have j5 := kpc (unhide C6) r5
           have j6 := kpc (unhide C6) r6
           have j7 := kpc (unhide C6) r7
           clear hl8
           have lz := lt_of_cell i0
           have lzn := Nat.ne_of_lt lz
           have lzm := Ne.symm lzn
           have ls := lt_of_cell ix
           have lsn := Nat.ne_of_lt ls
           have lsm := Ne.symm lsn
           have lq := lt_of_cell j4
           have lqn := Nat.ne_of_lt lq
           have lqm := Ne.symm lqn)
        | (go_at_call 82
           refine (unhide hO _ _ _ _ _ _ _ ?_ ?_).mono ?_
           first
             | exact unhide C6
             | exact bt (unhide C6) (ab _) (Nat.le_refl _)
           first
             | exact unhide HLK
             | exact (unhide HLK).below (ab _)
           rintro e9 w7 ⟨op9, n9, s9, a9, len9, cap9, rfl, hl9, hb7⟩
           try have zz7 := hide ((unhide zz6).below hb7)
           try have zz7 := hide ((ZBox.new w6).below hb7)
           have C7 : Hid (Below w6.heap.size w6 w7) := by
             first
               | exact hb7
               | exact bt (ab _) hb7 (Nat.le_refl _)
           have HL9 := hide hl9
           clear hl9
           have k0 := kpc (unhide C7) i0
           have k1 := kpc (unhide C7) i1
           have k2 := kpc (unhide C7) i2
           have k3 := kpc (unhide C7) i3
           have kx := kpc (unhide C7) ix
           have m4 := kpc (unhide C7) j4
           have m5 := kpc (unhide C7) j5
           have m6 := kpc (unhide C7) j6
           have m7 := kpc (unhide C7) j7
           try obtain ⟨p0, p1, p2, p3, q0, q1, q2, q3⟩ := (unhide zz7).facts
           have lt7 := lt_of_cell k0
           have ltn := Nat.ne_of_lt lt7
           have ltm := Ne.symm ltn
           have lt8 := lt_of_cell kx
           have lt8n := Nat.ne_of_lt lt8
           have lt8m := Ne.symm lt8n
           have lt9 := lt_of_cell m4
           have lt9n := Nat.ne_of_lt lt9
           have lt9m := Ne.symm lt9n))
    all_goals
      go_wp2_with fail
      go_meet
      have s56 := (unhide C6).size
      first
        | (with_reducible refine CutK.late ?_ ?_
           exact bt (unhide C6) (unhide C7) (Nat.le_refl _)
           exact unhide HL9)
        | (with_reducible refine CutK.early ?_ ?_ ?_ ?_ ?_
           exact bt (unhide C6) (unhide C7) (Nat.le_refl _)
           exact unhide zz7
           omega
           exact unhide HOT
           exact unhide HL9)
  case rest =>
    obtain ⟨bB, op8, n8, s8, a8, len8, cap8, rfl, rfl, hge8, hR8, hl8, hbc⟩ := hcut
    have HB := hide (bt (unhide HBA) hbc (Nat.le_refl _))
    have HR8 := hide hR8
    have HL8 := hide hl8
    have HX7 := hide ((unhide HX7).below hbc)
    have HX5 := hide ((unhide HX5).below hbc)
    have HL7 := hide ((unhide HL7).below hbc)
    have HPU := hide ((unhide HPU).below hbc)
    have HZ0 := hide ((unhide HZ0).below hbc)
    have HZ1 := hide ((unhide HZ1).below hbc)
    have HZ2 := hide ((unhide HZ2).below hbc)
    have HZ3 := hide ((unhide HZ3).below hbc)
    have HZ4 := hide ((unhide HZ4).below hbc)
    clear hbc hR8 hl8 HBA r0 r1 r2 r3 r4 r5 r6 r7 x0 x1 x2 x3 g0 g1 g2 g3 lx ly lw lxn lxm lyn lym lwn lwm hK hO HSE
    have hOB : OB = false := by rw [← hgB, unhide HO]; rfl
    subst hOB
    obtain ⟨u0, u1, u2, u3⟩ := (unhide HR8).facts
    go_wp2_with fail
    have F0 : w.heap.size + 1 + 1 + 1 + 1 + 1 + 1 ≠ w.heap.size + 1 + 1 ∧ w.heap.size + 1 + 1 + 1 + 1 + 1 + 1 ≠ w.heap.size + 1 + 1 + 1 ∧ w.heap.size + 1 + 1 + 1 + 1 + 1 + 1 ≠ w.heap.size + 1 + 1 + 1 + 1 ∧ w.heap.size + 1 + 1 + 1 + 1 + 1 + 1 ≠ w.heap.size + 1 + 1 + 1 + 1 + 1 := ne_far (Nat.lt_succ_self _)
    refine wp_region_held (S := fun y => RowT 29 y (w.heap.size + 1 + 1 + 1 + 1 + 1 + 1) 0 0 ⟨#[]⟩ none 0 0) (by kernel_rfl) ?_
    have hS : (fun y : World => RowT 29 y (w.heap.size + 1 + 1 + 1 + 1 + 1 + 1) 0 0 ⟨#[]⟩ none 0 0) wc.drew := unhide HZ4
    show wpAnyH _ _ _ _ _ _ _ _ wc.drew
    refine take_load (i := 0) rfl rfl (fun y h => h) (by kernel_rfl) (by kernel_rfl) (by kernel_rfl) (fun _ _ _ _ h => h) hS ?_
    simp only [Act.put, List.setIfInBounds_toArray, List.set_cons_succ, List.set_cons_zero]
    refine take_load (i := 1) rfl rfl (fun y h => h) (by kernel_rfl) (by kernel_rfl) (by kernel_rfl) (fun _ _ _ _ h => h) hS ?_
    simp only [Act.put, List.setIfInBounds_toArray, List.set_cons_succ, List.set_cons_zero]
    refine take_load (i := 2) rfl rfl (fun y h => h) (by kernel_rfl) (by kernel_rfl) (by kernel_rfl) (fun _ _ _ _ h => h) hS ?_
    simp only [Act.put, List.setIfInBounds_toArray, List.set_cons_succ, List.set_cons_zero]
    refine take_load (i := 3) rfl rfl (fun y h => h) (by kernel_rfl) (by kernel_rfl) (by kernel_rfl) (fun _ _ _ _ h => h) hS ?_
    simp only [Act.put, List.setIfInBounds_toArray, List.set_cons_succ, List.set_cons_zero]
    refine all_store (i := 4) (by kernel_rfl) rfl rfl rfl (unhide HZ0) (RowT.other hS F0.1) fun hS => ?_
    refine all_store (i := 5) (by kernel_rfl) rfl rfl rfl (RowT.other (unhide HZ1) (zne _).1.1) (RowT.other hS F0.2.1) fun hS => ?_
    refine all_store (i := 6) (by kernel_rfl) rfl rfl rfl (RowT.other (RowT.other (unhide HZ2) (zne _).1.2.1) (zne _).2.1.1) (RowT.other hS F0.2.2.1) fun hS => ?_
    refine all_store (i := 7) (by kernel_rfl) rfl rfl rfl (RowT.other (RowT.other (RowT.other (unhide HZ3) (zne _).1.2.2) (zne _).2.1.2) (zne _).2.2) (RowT.other hS F0.2.2.2) fun hS => ?_
    refine all_assign (i := 8) (by kernel_rfl) rfl rfl hS ?_
    refine wpAnyH_done (by kernel_rfl) ?_ _
    simp only [Act.put, List.setIfInBounds_toArray, List.set_cons_succ, List.set_cons_zero]
    go_wp2_with fail
    obtain ⟨r0, r1, r2, r3⟩ := fill_four (w := wc.drew) (op0 := 0) (n0 := 0) (s0 := ⟨#[]⟩) (a0 := none) (l0 := 0) (k0 := 0) (op1 := 0) (n1 := 0) (s1 := ⟨#[]⟩) (a1 := none) (l1 := 0) (k1 := 0) (op2 := 0) (n2 := 0) (s2 := ⟨#[]⟩) (a2 := none) (l2 := 0) (k2 := 0) (op3 := 0) (n3 := 0) (s3 := ⟨#[]⟩) (a3 := none) (l3 := 0) (k3 := 0) (unhide HZ0) (unhide HZ1) (unhide HZ2) (unhide HZ3)
    exact bodyPost_ret (v := .tuple #[.agg #[.int .i64 0, .int .i64 0, .string ⟨#[]⟩, .slice none 0 0], .agg #[.int .i64 0, .int .i64 0, .string ⟨#[]⟩, .slice none 0 0], .agg #[.int .i64 0, .int .i64 0, .string ⟨#[]⟩, .slice none 0 0], .agg #[.int .i64 0, .int .i64 0, .string ⟨#[]⟩, .slice none 0 0], .bool false]) (results_cells4 Tryz.results20 rfl rfl rfl rfl (RowT.load r0) (RowT.load r1) (RowT.load r2) (RowT.load r3)) rfl ⟨rfl, fill_four_below (w := wc.drew) (unhide HB).drew (le_two _)⟩

set_option maxRecDepth 100000 in
set_option maxHeartbeats 8000000 in
theorem rofS_body_no (e t pub sealed body : Tm) (nx : Int) (sx : ByteArray) (op n : Int) (s : ByteArray) (a : Option Addr) (len cap : Nat) (op2 n2 : Int) (s2 : ByteArray) (a2 : Option Addr) (len2 cap2 : Nat) (w : World) (hl : Lies w 0 e (tmCells op n s a len cap)) (hl2 : Lies w 0 t (tmCells op2 n2 s2 a2 len2 cap2)) (hst : e.size + t.size ≤ 1048578) (hb : behO 3 (textT replyW) t = some (.node 3 nx sx [pub, sealed])) (ha : agreeB e pub = true) (ho : openO (keyT (agreeT e pub) 0) 0 sealed = some body) (h3 : body.opOf ≠ 3) : Calls Tryz.prog 20 #[.agg #[.int .i64 op, .int .i64 n, .string s, .slice a len cap], .agg #[.int .i64 op2, .int .i64 n2, .string s2, .slice a2 len2 cap2]] w fun q w' => q = .returned (.tuple #[.agg #[.int .i64 0, .int .i64 0, .string ⟨#[]⟩, .slice none 0 0], .agg #[.int .i64 0, .int .i64 0, .string ⟨#[]⟩, .slice none 0 0], .agg #[.int .i64 0, .int .i64 0, .string ⟨#[]⟩, .slice none 0 0], .agg #[.int .i64 0, .int .i64 0, .string ⟨#[]⟩, .slice none 0 0], .bool false]) ∧ Below w.heap.size w w' := by
  have HA := hide ha
  have HO := hide ho
  have H3 := hide h3
  clear ha ho h3
  have HBH := hide hb
  obtain ⟨hp0, hp1, hpz, -⟩ := inO_of_named hb
  have HOP := hide hp0
  have HKZ := hide hpz
  have hN := hide (fun V hl => named_some t (.node 3 nx sx [pub, sealed]) replyW (by decide) op2 n2 s2 a2 len2 cap2 V hl (by omega) hb)
  have hAG := hide (fun op5 n5 s5 a5 len5 cap5 V h1 h2 => agree_calls e pub op n s a len cap op5 n5 s5 a5 len5 cap5 V h1 h2 (by omega))
  have HSZ : Hid (sealed.size ≤ 1048578) := by show _ ≤ _; omega
  have hCP := hide (fun op5 n5 s5 a5 len5 cap5 V h1 => cz_calls pub op5 n5 s5 a5 len5 cap5 V h1 (by have := okT_small hp0; omega))
  clear hp0 hp1 hpz hst hb
  have hb0 : Below w.heap.size w (((((((w.alloc (.cells #[.int .i64 op, .int .i64 n, .string s, .slice a len cap] 29)).alloc (.cells #[.int .i64 op2, .int .i64 n2, .string s2, .slice a2 len2 cap2] 29)).alloc (.cells #[.int .i64 0, .int .i64 0, .string ⟨#[]⟩, .slice none 0 0] 29)).alloc (.cells #[.int .i64 0, .int .i64 0, .string ⟨#[]⟩, .slice none 0 0] 29)).alloc (.cells #[.int .i64 0, .int .i64 0, .string ⟨#[]⟩, .slice none 0 0] 29)).alloc (.cells #[.int .i64 0, .int .i64 0, .string ⟨#[]⟩, .slice none 0 0] 29)).alloc (.cells #[.int .i64 0, .int .i64 0, .string ⟨#[]⟩, .slice none 0 0] 29)) := bt (bt (bt (bt (bt (bt (ab _) (ab _) (Nat.le_refl _)) (ab _) (Nat.le_refl _)) (ab _) (Nat.le_refl _)) (ab _) (Nat.le_refl _)) (ab _) (Nat.le_refl _)) (ab _) (Nat.le_refl _)
  have HZ0 : Hid (RowT 29 (((((((w.alloc (.cells #[.int .i64 op, .int .i64 n, .string s, .slice a len cap] 29)).alloc (.cells #[.int .i64 op2, .int .i64 n2, .string s2, .slice a2 len2 cap2] 29)).alloc (.cells #[.int .i64 0, .int .i64 0, .string ⟨#[]⟩, .slice none 0 0] 29)).alloc (.cells #[.int .i64 0, .int .i64 0, .string ⟨#[]⟩, .slice none 0 0] 29)).alloc (.cells #[.int .i64 0, .int .i64 0, .string ⟨#[]⟩, .slice none 0 0] 29)).alloc (.cells #[.int .i64 0, .int .i64 0, .string ⟨#[]⟩, .slice none 0 0] 29)).alloc (.cells #[.int .i64 0, .int .i64 0, .string ⟨#[]⟩, .slice none 0 0] 29)) (w.heap.size + 1 + 1) 0 0 ⟨#[]⟩ none 0 0) := by
    have := ((((RowT.new 29 ((w.alloc (.cells #[.int .i64 op, .int .i64 n, .string s, .slice a len cap] 29)).alloc (.cells #[.int .i64 op2, .int .i64 n2, .string s2, .slice a2 len2 cap2] 29)) 0 0 ⟨#[]⟩ none 0 0).below (ab (.cells #[.int .i64 0, .int .i64 0, .string ⟨#[]⟩, .slice none 0 0] 29))).below (ab (.cells #[.int .i64 0, .int .i64 0, .string ⟨#[]⟩, .slice none 0 0] 29))).below (ab (.cells #[.int .i64 0, .int .i64 0, .string ⟨#[]⟩, .slice none 0 0] 29))).below (ab (.cells #[.int .i64 0, .int .i64 0, .string ⟨#[]⟩, .slice none 0 0] 29))
    rwa [heap_size_alloc, heap_size_alloc] at this
  have HZ1 : Hid (RowT 29 (((((((w.alloc (.cells #[.int .i64 op, .int .i64 n, .string s, .slice a len cap] 29)).alloc (.cells #[.int .i64 op2, .int .i64 n2, .string s2, .slice a2 len2 cap2] 29)).alloc (.cells #[.int .i64 0, .int .i64 0, .string ⟨#[]⟩, .slice none 0 0] 29)).alloc (.cells #[.int .i64 0, .int .i64 0, .string ⟨#[]⟩, .slice none 0 0] 29)).alloc (.cells #[.int .i64 0, .int .i64 0, .string ⟨#[]⟩, .slice none 0 0] 29)).alloc (.cells #[.int .i64 0, .int .i64 0, .string ⟨#[]⟩, .slice none 0 0] 29)).alloc (.cells #[.int .i64 0, .int .i64 0, .string ⟨#[]⟩, .slice none 0 0] 29)) (w.heap.size + 1 + 1 + 1) 0 0 ⟨#[]⟩ none 0 0) := by
    have := (((RowT.new 29 (((w.alloc (.cells #[.int .i64 op, .int .i64 n, .string s, .slice a len cap] 29)).alloc (.cells #[.int .i64 op2, .int .i64 n2, .string s2, .slice a2 len2 cap2] 29)).alloc (.cells #[.int .i64 0, .int .i64 0, .string ⟨#[]⟩, .slice none 0 0] 29)) 0 0 ⟨#[]⟩ none 0 0).below (ab (.cells #[.int .i64 0, .int .i64 0, .string ⟨#[]⟩, .slice none 0 0] 29))).below (ab (.cells #[.int .i64 0, .int .i64 0, .string ⟨#[]⟩, .slice none 0 0] 29))).below (ab (.cells #[.int .i64 0, .int .i64 0, .string ⟨#[]⟩, .slice none 0 0] 29))
    rwa [heap_size_alloc, heap_size_alloc, heap_size_alloc] at this
  have HZ2 : Hid (RowT 29 (((((((w.alloc (.cells #[.int .i64 op, .int .i64 n, .string s, .slice a len cap] 29)).alloc (.cells #[.int .i64 op2, .int .i64 n2, .string s2, .slice a2 len2 cap2] 29)).alloc (.cells #[.int .i64 0, .int .i64 0, .string ⟨#[]⟩, .slice none 0 0] 29)).alloc (.cells #[.int .i64 0, .int .i64 0, .string ⟨#[]⟩, .slice none 0 0] 29)).alloc (.cells #[.int .i64 0, .int .i64 0, .string ⟨#[]⟩, .slice none 0 0] 29)).alloc (.cells #[.int .i64 0, .int .i64 0, .string ⟨#[]⟩, .slice none 0 0] 29)).alloc (.cells #[.int .i64 0, .int .i64 0, .string ⟨#[]⟩, .slice none 0 0] 29)) (w.heap.size + 1 + 1 + 1 + 1) 0 0 ⟨#[]⟩ none 0 0) := by
    have := ((RowT.new 29 ((((w.alloc (.cells #[.int .i64 op, .int .i64 n, .string s, .slice a len cap] 29)).alloc (.cells #[.int .i64 op2, .int .i64 n2, .string s2, .slice a2 len2 cap2] 29)).alloc (.cells #[.int .i64 0, .int .i64 0, .string ⟨#[]⟩, .slice none 0 0] 29)).alloc (.cells #[.int .i64 0, .int .i64 0, .string ⟨#[]⟩, .slice none 0 0] 29)) 0 0 ⟨#[]⟩ none 0 0).below (ab (.cells #[.int .i64 0, .int .i64 0, .string ⟨#[]⟩, .slice none 0 0] 29))).below (ab (.cells #[.int .i64 0, .int .i64 0, .string ⟨#[]⟩, .slice none 0 0] 29))
    rwa [heap_size_alloc, heap_size_alloc, heap_size_alloc, heap_size_alloc] at this
  have HZ3 : Hid (RowT 29 (((((((w.alloc (.cells #[.int .i64 op, .int .i64 n, .string s, .slice a len cap] 29)).alloc (.cells #[.int .i64 op2, .int .i64 n2, .string s2, .slice a2 len2 cap2] 29)).alloc (.cells #[.int .i64 0, .int .i64 0, .string ⟨#[]⟩, .slice none 0 0] 29)).alloc (.cells #[.int .i64 0, .int .i64 0, .string ⟨#[]⟩, .slice none 0 0] 29)).alloc (.cells #[.int .i64 0, .int .i64 0, .string ⟨#[]⟩, .slice none 0 0] 29)).alloc (.cells #[.int .i64 0, .int .i64 0, .string ⟨#[]⟩, .slice none 0 0] 29)).alloc (.cells #[.int .i64 0, .int .i64 0, .string ⟨#[]⟩, .slice none 0 0] 29)) (w.heap.size + 1 + 1 + 1 + 1 + 1) 0 0 ⟨#[]⟩ none 0 0) := by
    have := (RowT.new 29 (((((w.alloc (.cells #[.int .i64 op, .int .i64 n, .string s, .slice a len cap] 29)).alloc (.cells #[.int .i64 op2, .int .i64 n2, .string s2, .slice a2 len2 cap2] 29)).alloc (.cells #[.int .i64 0, .int .i64 0, .string ⟨#[]⟩, .slice none 0 0] 29)).alloc (.cells #[.int .i64 0, .int .i64 0, .string ⟨#[]⟩, .slice none 0 0] 29)).alloc (.cells #[.int .i64 0, .int .i64 0, .string ⟨#[]⟩, .slice none 0 0] 29)) 0 0 ⟨#[]⟩ none 0 0).below (ab (.cells #[.int .i64 0, .int .i64 0, .string ⟨#[]⟩, .slice none 0 0] 29))
    rwa [heap_size_alloc, heap_size_alloc, heap_size_alloc, heap_size_alloc, heap_size_alloc] at this
  have HZ4 : Hid (RowT 29 (((((((w.alloc (.cells #[.int .i64 op, .int .i64 n, .string s, .slice a len cap] 29)).alloc (.cells #[.int .i64 op2, .int .i64 n2, .string s2, .slice a2 len2 cap2] 29)).alloc (.cells #[.int .i64 0, .int .i64 0, .string ⟨#[]⟩, .slice none 0 0] 29)).alloc (.cells #[.int .i64 0, .int .i64 0, .string ⟨#[]⟩, .slice none 0 0] 29)).alloc (.cells #[.int .i64 0, .int .i64 0, .string ⟨#[]⟩, .slice none 0 0] 29)).alloc (.cells #[.int .i64 0, .int .i64 0, .string ⟨#[]⟩, .slice none 0 0] 29)).alloc (.cells #[.int .i64 0, .int .i64 0, .string ⟨#[]⟩, .slice none 0 0] 29)) (w.heap.size + 1 + 1 + 1 + 1 + 1 + 1) 0 0 ⟨#[]⟩ none 0 0) := by
    have := RowT.new 29 ((((((w.alloc (.cells #[.int .i64 op, .int .i64 n, .string s, .slice a len cap] 29)).alloc (.cells #[.int .i64 op2, .int .i64 n2, .string s2, .slice a2 len2 cap2] 29)).alloc (.cells #[.int .i64 0, .int .i64 0, .string ⟨#[]⟩, .slice none 0 0] 29)).alloc (.cells #[.int .i64 0, .int .i64 0, .string ⟨#[]⟩, .slice none 0 0] 29)).alloc (.cells #[.int .i64 0, .int .i64 0, .string ⟨#[]⟩, .slice none 0 0] 29)).alloc (.cells #[.int .i64 0, .int .i64 0, .string ⟨#[]⟩, .slice none 0 0] 29)) 0 0 ⟨#[]⟩ none 0 0
    rwa [heap_size_alloc, heap_size_alloc, heap_size_alloc, heap_size_alloc, heap_size_alloc, heap_size_alloc] at this
  have HE0 : Hid (RowT 29 (((((((w.alloc (.cells #[.int .i64 op, .int .i64 n, .string s, .slice a len cap] 29)).alloc (.cells #[.int .i64 op2, .int .i64 n2, .string s2, .slice a2 len2 cap2] 29)).alloc (.cells #[.int .i64 0, .int .i64 0, .string ⟨#[]⟩, .slice none 0 0] 29)).alloc (.cells #[.int .i64 0, .int .i64 0, .string ⟨#[]⟩, .slice none 0 0] 29)).alloc (.cells #[.int .i64 0, .int .i64 0, .string ⟨#[]⟩, .slice none 0 0] 29)).alloc (.cells #[.int .i64 0, .int .i64 0, .string ⟨#[]⟩, .slice none 0 0] 29)).alloc (.cells #[.int .i64 0, .int .i64 0, .string ⟨#[]⟩, .slice none 0 0] 29)) w.heap.size op n s a len cap) := ((((((RowT.new 29 w op n s a len cap).below (ab (.cells #[.int .i64 op2, .int .i64 n2, .string s2, .slice a2 len2 cap2] 29))).below (ab (.cells #[.int .i64 0, .int .i64 0, .string ⟨#[]⟩, .slice none 0 0] 29))).below (ab (.cells #[.int .i64 0, .int .i64 0, .string ⟨#[]⟩, .slice none 0 0] 29))).below (ab (.cells #[.int .i64 0, .int .i64 0, .string ⟨#[]⟩, .slice none 0 0] 29))).below (ab (.cells #[.int .i64 0, .int .i64 0, .string ⟨#[]⟩, .slice none 0 0] 29))).below (ab (.cells #[.int .i64 0, .int .i64 0, .string ⟨#[]⟩, .slice none 0 0] 29))
  have HLE := hide (hl.below hb0)
  have HL2 := hide (hl2.below hb0)
  have HB0 := hide hb0
  clear hl hl2 hb0
  go_enter Tryz.func20, Tryz.ntmps20
  go_wp2_with fail
  generalize hgw : (((((((w.alloc (.cells #[.int .i64 op, .int .i64 n, .string s, .slice a len cap] 29)).alloc (.cells #[.int .i64 op2, .int .i64 n2, .string s2, .slice a2 len2 cap2] 29)).alloc (.cells #[.int .i64 0, .int .i64 0, .string ⟨#[]⟩, .slice none 0 0] 29)).alloc (.cells #[.int .i64 0, .int .i64 0, .string ⟨#[]⟩, .slice none 0 0] 29)).alloc (.cells #[.int .i64 0, .int .i64 0, .string ⟨#[]⟩, .slice none 0 0] 29)).alloc (.cells #[.int .i64 0, .int .i64 0, .string ⟨#[]⟩, .slice none 0 0] 29)).alloc (.cells #[.int .i64 0, .int .i64 0, .string ⟨#[]⟩, .slice none 0 0] 29)) = W1 at *
  clear hgw
  refine (unhide hN _ (unhide HL2)).mono ?_
  rintro q w1 ⟨op3, n3, s3, a3, len3, cap3, rfl, hl3, hb1⟩
  obtain ⟨rfl, rfl, rfl, rfl, b, o, op5, n5, s5, a5, len5, cap5, op6, n6, s6, a6, len6, cap6, rfl, ⟨r0, r1, r2, r3, hk0⟩, r4, r5, r6, r7, hk1⟩ := lies_kids (hl3.below hb1)
  have HQ := hide (And.intro r0 (And.intro r1 (And.intro r2 (And.intro r3 (And.intro r4 (And.intro r5 (And.intro r6 r7)))))))
  have HPU := hide hk0
  have HSE := hide hk1
  have HB1 := hide (bt (unhide HB0) hb1 (Nat.le_refl _))
  have HZ0 := hide ((unhide HZ0).below hb1)
  have HZ1 := hide ((unhide HZ1).below hb1)
  have HZ2 := hide ((unhide HZ2).below hb1)
  have HZ3 := hide ((unhide HZ3).below hb1)
  have HZ4 := hide ((unhide HZ4).below hb1)
  have HE0 := hide ((unhide HE0).below hb1)
  have HLE := hide ((unhide HLE).below hb1)
  clear hb1 hN HB0 HL2 hl3 hk0 hk1 r0 r1 r2 r3 r4 r5 r6 r7
  have HWL : Hid (w.heap.size < w1.heap.size) := (unhide HE0).lt
  have HWL2 : Hid (w.heap.size + 1 + 1 + 1 + 1 + 1 < w1.heap.size) := Nat.lt_of_succ_lt (unhide HZ4).lt
  have hX : Hid (RowT 29 (w1.alloc (.cells #[.int .i64 3, .int .i64 n3, .string s3, .slice (some ⟨b, o, none⟩) 2 cap3] 29)) w1.heap.size 3 n3 s3 (some ⟨b, o, none⟩) 2 cap3) := RowT.new 29 w1 3 n3 s3 (some ⟨b, o, none⟩) 2 cap3
  have hp := ab (w := w1) (.cells #[.int .i64 3, .int .i64 n3, .string s3, .slice (some ⟨b, o, none⟩) 2 cap3] 29)
  have HB1 := hide (bt (unhide HB1) hp (Nat.le_refl _))
  have HZ0 := hide ((unhide HZ0).below hp)
  have HZ1 := hide ((unhide HZ1).below hp)
  have HZ2 := hide ((unhide HZ2).below hp)
  have HZ3 := hide ((unhide HZ3).below hp)
  have HZ4 := hide ((unhide HZ4).below hp)
  have HE0 := hide ((unhide HE0).below hp)
  have HLE := hide ((unhide HLE).below hp)
  have HPU := hide ((unhide HPU).below hp)
  have HSE := hide ((unhide HSE).below hp)
  obtain ⟨r0, r1, r2, r3, r4, r5, r6, r7⟩ := unhide HQ
  have r0 := kpc hp r0
  have r1 := kpc hp r1
  have r2 := kpc hp r2
  have r3 := kpc hp r3
  have r4 := kpc hp r4
  have r5 := kpc hp r5
  have r6 := kpc hp r6
  have r7 := kpc hp r7
  have HQ := hide (And.intro r0 (And.intro r1 (And.intro r2 (And.intro r3 (And.intro r4 (And.intro r5 (And.intro r6 r7)))))))
  clear r4 r5 r6 r7
  obtain ⟨x0, x1, x2, x3⟩ := (unhide hX).facts
  obtain ⟨y0, y1, y2, y3⟩ := ((unhide HE0).below (ab (.cells #[.int .i64 op5, .int .i64 n5, .string s5, .slice a5 len5 cap5] 29))).facts
  have HXN := hide (lt_of_cell x0)
  have yn : w.heap.size ≠ w1.heap.size + 1 := Nat.ne_of_lt (Nat.lt_succ_of_lt (unhide HWL))
  have ym := Ne.symm yn
  clear hp
  go_wp2_with fail
  have hp := ab (w := w1.alloc (.cells #[.int .i64 3, .int .i64 n3, .string s3, .slice (some ⟨b, o, none⟩) 2 cap3] 29)) (.cells #[.int .i64 op5, .int .i64 n5, .string s5, .slice a5 len5 cap5] 29)
  refine (unhide hAG op5 n5 s5 a5 len5 cap5 _ ((unhide HLE).below hp) ((unhide HPU).below hp)).mono ?_
  rintro q w2 ⟨op7, n7, s7, a7, len7, cap7, rfl, hl7, hb2, -⟩
  rw [unhide HA]
  have hX5 := (RowT.new 29 (w1.alloc (.cells #[.int .i64 3, .int .i64 n3, .string s3, .slice (some ⟨b, o, none⟩) 2 cap3] 29)) op5 n5 s5 a5 len5 cap5).below hb2
  rw [heap_size_alloc] at hX5
  have HX5 := hide hX5
  have HSL : Hid (w1.heap.size + 1 < w2.heap.size) := hX5.lt
  have hp := bt (bt hp hb2 (Nat.le_refl _)) (ab (.cells #[.int .i64 op7, .int .i64 n7, .string s7, .slice a7 len7 cap7] 29)) (Nat.le_refl _)
  have HX5 := hide ((unhide HX5).below (ab (.cells #[.int .i64 op7, .int .i64 n7, .string s7, .slice a7 len7 cap7] 29)))
  have HL7 := hide ((hl7.any (Nat.zero_le _)).below (ab (.cells #[.int .i64 op7, .int .i64 n7, .string s7, .slice a7 len7 cap7] 29)))
  have HX7 := hide (RowT.new 29 w2 op7 n7 s7 a7 len7 cap7)
  have HBA := hide (bt (unhide HB1) hp (Nat.le_refl _))
  have HZ0 := hide ((unhide HZ0).below hp)
  have HZ1 := hide ((unhide HZ1).below hp)
  have HZ2 := hide ((unhide HZ2).below hp)
  have HZ3 := hide ((unhide HZ3).below hp)
  have HZ4 := hide ((unhide HZ4).below hp)
  have hX := hide ((unhide hX).below hp)
  have HPU := hide ((unhide HPU).below hp)
  have HSE := hide ((unhide HSE).below hp)
  have r0 := kpc hp (unhide HQ).1
  have r1 := kpc hp (unhide HQ).2.1
  have r2 := kpc hp (unhide HQ).2.2.1
  have r3 := kpc hp (unhide HQ).2.2.2.1
  have r4 := kpc hp (unhide HQ).2.2.2.2.1
  have r5 := kpc hp (unhide HQ).2.2.2.2.2.1
  have r6 := kpc hp (unhide HQ).2.2.2.2.2.2.1
  have r7 := kpc hp (unhide HQ).2.2.2.2.2.2.2
  obtain ⟨x0, x1, x2, x3⟩ := (unhide hX).facts
  obtain ⟨g0, g1, g2, g3⟩ := (unhide HX7).facts
  clear hp hb2 hl7 hX5 HB1 HQ y0 y1 y2 y3 yn ym HE0 HLE hAG
  go_wp2_with fail
  generalize hgw : w2.alloc (.cells #[.int .i64 op7, .int .i64 n7, .string s7, .slice a7 len7 cap7] 29) = W2 at *
  clear hgw
  generalize w2.heap.size = bS at *
  generalize w1.heap.size = bX at *
  have hK := hide (fun V (hV : Below W2.heap.size W2 V) => keyS (agreeT e pub) 0 op7 n7 s7 a7 len7 cap7 V ((unhide HL7).below hV) (by have := agree200 e pub; omega) (by decide) (by decide))
  have hO := hide (fun op8 n8 s8 a8 len8 cap8 V (hV : Below W2.heap.size W2 V) hk => openS_any (keyT (agreeT e pub) 0) sealed 0 op8 n8 s8 a8 len8 cap8 op6 n6 s6 a6 len6 cap6 V hk ((unhide HSE).below hV) (by have := unhide HSZ; omega) (by decide) (by decide))
  have lx := lt_of_cell x0
  have ly := lt_of_cell g0
  have lw := lt_of_cell r0
  have lxn := Nat.ne_of_lt lx
  have lxm := Ne.symm lxn
  have lyn := Nat.ne_of_lt ly
  have lym := Ne.symm lyn
  have lwn := Nat.ne_of_lt lw
  have lwm := Ne.symm lwn
  generalize hgO : openT (keyT (agreeT e pub) 0) 0 sealed = OT at *
  have HOT : Hid (KidsOk OT) := hgO ▸ openT_kids _ _ _
  generalize hgB : (openO (keyT (agreeT e pub) 0) 0 sealed).isSome = OB at *
  go_cut [15, 16] (fun p q wx => CutK OT W2 (.bool OB) p q wx)
  case first =>
    go_region_held3 (fun x => x.cell? ⟨bS, 0, none⟩ = some (.int .i64 op7) ∧ x.cell? ⟨bS, 1, none⟩ = some (.int .i64 n7) ∧ x.cell? ⟨bS, 2, none⟩ = some (.string s7) ∧ x.cell? ⟨bS, 3, none⟩ = some (.slice a7 len7 cap7) ∧ x.cell? ⟨bX, 3, none⟩ = some (.slice (some ⟨b, o, none⟩) 2 cap3) ∧ x.cell? ⟨b, o + 4, none⟩ = some (.int .i64 op6) ∧ x.cell? ⟨b, o + 5, none⟩ = some (.int .i64 n6) ∧ x.cell? ⟨b, o + 6, none⟩ = some (.string s6) ∧ x.cell? ⟨b, o + 7, none⟩ = some (.slice a6 len6 cap6)) (go_keep)
      (first
        | (go_at_call 77
           refine (unhide hK _ ?_).mono ?_
           first
             | exact (Below.refl _ _).drew
             | exact (ab _).drew
           rintro e9 w6 ⟨op8, n8, s8, a8, len8, cap8, rfl, hl8, hb6⟩
           try have zz6 := hide (((ZBox.new W2).drew).below hb6)
           have HLK := hide (hl8.any (Nat.zero_le _))
           have C6 : Hid (Below W2.heap.size W2 w6) := by
             first
               | exact below_drew' hb6
               | exact bt (ab _) (below_drew' hb6) (Nat.le_refl _)
           have i0 := kpc (unhide C6) g0
           have i1 := kpc (unhide C6) g1
           have i2 := kpc (unhide C6) g2
           have i3 := kpc (unhide C6) g3
           have ix := kpc (unhide C6) x3
           have j4 := kpc (unhide C6) r4
           have j5 := kpc (unhide C6) r5
           have j6 := kpc (unhide C6) r6
           have j7 := kpc (unhide C6) r7
           clear hl8
           have lz := lt_of_cell i0
           have lzn := Nat.ne_of_lt lz
           have lzm := Ne.symm lzn
           have ls := lt_of_cell ix
           have lsn := Nat.ne_of_lt ls
           have lsm := Ne.symm lsn
           have lq := lt_of_cell j4
           have lqn := Nat.ne_of_lt lq
           have lqm := Ne.symm lqn)
        | (go_at_call 82
           refine (unhide hO _ _ _ _ _ _ _ ?_ ?_).mono ?_
           first
             | exact unhide C6
             | exact bt (unhide C6) (ab _) (Nat.le_refl _)
           first
             | exact unhide HLK
             | exact (unhide HLK).below (ab _)
           rintro e9 w7 ⟨op9, n9, s9, a9, len9, cap9, rfl, hl9, hb7⟩
           try have zz7 := hide ((unhide zz6).below hb7)
           try have zz7 := hide ((ZBox.new w6).below hb7)
           have C7 : Hid (Below w6.heap.size w6 w7) := by
             first
               | exact hb7
               | exact bt (ab _) hb7 (Nat.le_refl _)
           have HL9 := hide hl9
           clear hl9
           have k0 := kpc (unhide C7) i0
           have k1 := kpc (unhide C7) i1
           have k2 := kpc (unhide C7) i2
           have k3 := kpc (unhide C7) i3
           have kx := kpc (unhide C7) ix
           have m4 := kpc (unhide C7) j4
           have m5 := kpc (unhide C7) j5
           have m6 := kpc (unhide C7) j6
           have m7 := kpc (unhide C7) j7
           try obtain ⟨p0, p1, p2, p3, q0, q1, q2, q3⟩ := (unhide zz7).facts
           have lt7 := lt_of_cell k0
           have ltn := Nat.ne_of_lt lt7
           have ltm := Ne.symm ltn
           have lt8 := lt_of_cell kx
           have lt8n := Nat.ne_of_lt lt8
           have lt8m := Ne.symm lt8n
           have lt9 := lt_of_cell m4
           have lt9n := Nat.ne_of_lt lt9
           have lt9m := Ne.symm lt9n))
    all_goals
      go_wp2_with fail
      go_meet
      have s56 := (unhide C6).size
      first
        | (with_reducible refine CutK.late ?_ ?_
           exact bt (unhide C6) (unhide C7) (Nat.le_refl _)
           exact unhide HL9)
        | (with_reducible refine CutK.early ?_ ?_ ?_ ?_ ?_
           exact bt (unhide C6) (unhide C7) (Nat.le_refl _)
           exact unhide zz7
           omega
           exact unhide HOT
           exact unhide HL9)
  case rest =>
    obtain ⟨bB, op8, n8, s8, a8, len8, cap8, rfl, rfl, hge8, hR8, hl8, hbc⟩ := hcut
    have HB := hide (bt (unhide HBA) hbc (Nat.le_refl _))
    have HR8 := hide hR8
    have HL8 := hide hl8
    have HX7 := hide ((unhide HX7).below hbc)
    have HX5 := hide ((unhide HX5).below hbc)
    have HL7 := hide ((unhide HL7).below hbc)
    have HPU := hide ((unhide HPU).below hbc)
    have HZ0 := hide ((unhide HZ0).below hbc)
    have HZ1 := hide ((unhide HZ1).below hbc)
    have HZ2 := hide ((unhide HZ2).below hbc)
    have HZ3 := hide ((unhide HZ3).below hbc)
    have HZ4 := hide ((unhide HZ4).below hbc)
    clear hbc hR8 hl8 HBA r0 r1 r2 r3 r4 r5 r6 r7 x0 x1 x2 x3 g0 g1 g2 g3 lx ly lw lxn lxm lyn lym lwn lwm hK hO HSE
    have hOB : OB = true := by rw [← hgB, unhide HO]; rfl
    subst hOB
    obtain ⟨u0, u1, u2, u3⟩ := (unhide HR8).facts
    have hne : (op8 != 3) = true := by rw [lies_opOf (unhide HL8), ← hgO]; unfold openT; rw [unhide HO]; simpa using unhide H3
    go_wp2_with fail
    have F0 : w.heap.size + 1 + 1 + 1 + 1 + 1 + 1 ≠ w.heap.size + 1 + 1 ∧ w.heap.size + 1 + 1 + 1 + 1 + 1 + 1 ≠ w.heap.size + 1 + 1 + 1 ∧ w.heap.size + 1 + 1 + 1 + 1 + 1 + 1 ≠ w.heap.size + 1 + 1 + 1 + 1 ∧ w.heap.size + 1 + 1 + 1 + 1 + 1 + 1 ≠ w.heap.size + 1 + 1 + 1 + 1 + 1 := ne_far (Nat.lt_succ_self _)
    refine wp_region_held (S := fun y => RowT 29 y (w.heap.size + 1 + 1 + 1 + 1 + 1 + 1) 0 0 ⟨#[]⟩ none 0 0) (by kernel_rfl) ?_
    have hS : (fun y : World => RowT 29 y (w.heap.size + 1 + 1 + 1 + 1 + 1 + 1) 0 0 ⟨#[]⟩ none 0 0) wc.drew := unhide HZ4
    show wpAnyH _ _ _ _ _ _ _ _ wc.drew
    refine take_load (i := 0) rfl rfl (fun y h => h) (by kernel_rfl) (by kernel_rfl) (by kernel_rfl) (fun _ _ _ _ h => h) hS ?_
    simp only [Act.put, List.setIfInBounds_toArray, List.set_cons_succ, List.set_cons_zero]
    refine take_load (i := 1) rfl rfl (fun y h => h) (by kernel_rfl) (by kernel_rfl) (by kernel_rfl) (fun _ _ _ _ h => h) hS ?_
    simp only [Act.put, List.setIfInBounds_toArray, List.set_cons_succ, List.set_cons_zero]
    refine take_load (i := 2) rfl rfl (fun y h => h) (by kernel_rfl) (by kernel_rfl) (by kernel_rfl) (fun _ _ _ _ h => h) hS ?_
    simp only [Act.put, List.setIfInBounds_toArray, List.set_cons_succ, List.set_cons_zero]
    refine take_load (i := 3) rfl rfl (fun y h => h) (by kernel_rfl) (by kernel_rfl) (by kernel_rfl) (fun _ _ _ _ h => h) hS ?_
    simp only [Act.put, List.setIfInBounds_toArray, List.set_cons_succ, List.set_cons_zero]
    refine all_store (i := 4) (by kernel_rfl) rfl rfl rfl (unhide HZ0) (RowT.other hS F0.1) fun hS => ?_
    refine all_store (i := 5) (by kernel_rfl) rfl rfl rfl (RowT.other (unhide HZ1) (zne _).1.1) (RowT.other hS F0.2.1) fun hS => ?_
    refine all_store (i := 6) (by kernel_rfl) rfl rfl rfl (RowT.other (RowT.other (unhide HZ2) (zne _).1.2.1) (zne _).2.1.1) (RowT.other hS F0.2.2.1) fun hS => ?_
    refine all_store (i := 7) (by kernel_rfl) rfl rfl rfl (RowT.other (RowT.other (RowT.other (unhide HZ3) (zne _).1.2.2) (zne _).2.1.2) (zne _).2.2) (RowT.other hS F0.2.2.2) fun hS => ?_
    refine all_assign (i := 8) (by kernel_rfl) rfl rfl hS ?_
    refine wpAnyH_done (by kernel_rfl) ?_ _
    simp only [Act.put, List.setIfInBounds_toArray, List.set_cons_succ, List.set_cons_zero]
    go_wp2_with fail
    obtain ⟨r0, r1, r2, r3⟩ := fill_four (w := wc.drew) (op0 := 0) (n0 := 0) (s0 := ⟨#[]⟩) (a0 := none) (l0 := 0) (k0 := 0) (op1 := 0) (n1 := 0) (s1 := ⟨#[]⟩) (a1 := none) (l1 := 0) (k1 := 0) (op2 := 0) (n2 := 0) (s2 := ⟨#[]⟩) (a2 := none) (l2 := 0) (k2 := 0) (op3 := 0) (n3 := 0) (s3 := ⟨#[]⟩) (a3 := none) (l3 := 0) (k3 := 0) (unhide HZ0) (unhide HZ1) (unhide HZ2) (unhide HZ3)
    exact bodyPost_ret (v := .tuple #[.agg #[.int .i64 0, .int .i64 0, .string ⟨#[]⟩, .slice none 0 0], .agg #[.int .i64 0, .int .i64 0, .string ⟨#[]⟩, .slice none 0 0], .agg #[.int .i64 0, .int .i64 0, .string ⟨#[]⟩, .slice none 0 0], .agg #[.int .i64 0, .int .i64 0, .string ⟨#[]⟩, .slice none 0 0], .bool false]) (results_cells4 Tryz.results20 rfl rfl rfl rfl (RowT.load r0) (RowT.load r1) (RowT.load r2) (RowT.load r3)) rfl ⟨rfl, fill_four_below (w := wc.drew) (unhide HB).drew (le_two _)⟩


end Go.Proofs.YtmklgikbajhcpaaGreatDoor
