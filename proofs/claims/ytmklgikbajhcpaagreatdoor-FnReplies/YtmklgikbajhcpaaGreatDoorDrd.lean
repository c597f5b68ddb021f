/- Draws of a greeting, and of a secret and a reply to it from a code. -/
import Derived.Test.YtmklgikbajhcpaaGreatDoorDrc
import Derived.Test.YtmklgikbajhcpaaGreatDoorG2
namespace Go.Proofs.YtmklgikbajhcpaaGreatDoor
open Go.RowKit Go.Deep

set_option maxRecDepth 100000 in
set_option maxHeartbeats 4000000 in
theorem replyOf_draw (ad : Option Addr) (ln cp : Nat) (w : World) (hB : Bytes w w.heap.size ad ln) (hl : ln ≤ 1048576) (hlc : ln ≤ cp) :
    Calls Tryz.prog 18 #[.slice ad ln cp] w fun q w' => TwoD w q w' := by
  have hb0 : Below w.heap.size w ((w.alloc (.cells #[.int .i64 0, .int .i64 0, .string ⟨#[]⟩, .slice none 0 0] 29)).alloc (.cells #[.int .i64 0, .int .i64 0, .string ⟨#[]⟩, .slice none 0 0] 29)) := bt (ab _) (ab _) (Nat.le_refl _)
  have hN := hide (new_calls ad ln cp ((w.alloc (.cells #[.int .i64 0, .int .i64 0, .string ⟨#[]⟩, .slice none 0 0] 29)).alloc (.cells #[.int .i64 0, .int .i64 0, .string ⟨#[]⟩, .slice none 0 0] 29)) (bytes_up hB hb0 hb0.size) hl hlc)
  have HZ0 : Hid (RowT 29 ((w.alloc (.cells #[.int .i64 0, .int .i64 0, .string ⟨#[]⟩, .slice none 0 0] 29)).alloc (.cells #[.int .i64 0, .int .i64 0, .string ⟨#[]⟩, .slice none 0 0] 29)) w.heap.size 0 0 ⟨#[]⟩ none 0 0) := (RowT.new 29 w 0 0 ⟨#[]⟩ none 0 0).below (ab (.cells #[.int .i64 0, .int .i64 0, .string ⟨#[]⟩, .slice none 0 0] 29))
  have HZ1 : Hid (RowT 29 ((w.alloc (.cells #[.int .i64 0, .int .i64 0, .string ⟨#[]⟩, .slice none 0 0] 29)).alloc (.cells #[.int .i64 0, .int .i64 0, .string ⟨#[]⟩, .slice none 0 0] 29)) (w.heap.size + 1) 0 0 ⟨#[]⟩ none 0 0) := by
    have := RowT.new 29 (w.alloc (.cells #[.int .i64 0, .int .i64 0, .string ⟨#[]⟩, .slice none 0 0] 29)) 0 0 ⟨#[]⟩ none 0 0
    rwa [heap_size_alloc] at this
  have HB0 := hide hb0
  clear hb0 hB hl hlc
  go_enter Tryz.func18, Tryz.ntmps18
  go_wp2_with fail
  generalize hgw : ((w.alloc (.cells #[.int .i64 0, .int .i64 0, .string ⟨#[]⟩, .slice none 0 0] 29)).alloc (.cells #[.int .i64 0, .int .i64 0, .string ⟨#[]⟩, .slice none 0 0] 29)) = W0 at *
  clear hgw
  refine (unhide hN).mono ?_
  rintro q w1 ⟨rfl, hc1, hb1, _⟩
  have hS := hide (secret_draw W0.heap.size w1 hc1)
  go_wp2_with fail
  refine (unhide hS).mono ?_
  rintro q w2 ⟨T0, T1, op0, n0, s0, a0, len0, cap0, op1, n1, s1, a1, len1, cap1, rfl, ⟨hl0, hz0⟩, ⟨hl1, hz1⟩, -, ho2⟩
  have hsw := (unhide HZ1).lt
  have hww := hb1.size
  have r0 := ((unhide HZ0).below hb1).only ho2 (nin (by omega))
  have r1 := ((unhide HZ1).below hb1).only ho2 (nin (by omega))
  have HBX := hide (only_old (bt (unhide HB0) hb1 (Nat.le_refl _)) ho2 (unhide HB0).size)
  have hlt0 := r0.lt
  have hlt1 := r1.lt
  have hss := (unhide HB0).size
  clear HZ0 HZ1 HB0 hN hS hb1 hc1 ho2
  go_wp2_with fail
  have hq0 := ab (w := w2) (.cells #[.int .i64 op0, .int .i64 n0, .string s0, .slice a0 len0 cap0] 29)
  have hq := bt hq0 (ab (w := w2.alloc (.cells #[.int .i64 op0, .int .i64 n0, .string s0, .slice a0 len0 cap0] 29)) (.cells #[.int .i64 op1, .int .i64 n1, .string s1, .slice a1 len1 cap1] 29)) (Nat.le_refl _)
  have S0 := (RowT.new 29 w2 op0 n0 s0 a0 len0 cap0).below (ab (w := w2.alloc (.cells #[.int .i64 op0, .int .i64 n0, .string s0, .slice a0 len0 cap0] 29)) (.cells #[.int .i64 op1, .int .i64 n1, .string s1, .slice a1 len1 cap1] 29))
  have S1 := RowT.new 29 (w2.alloc (.cells #[.int .i64 op0, .int .i64 n0, .string s0, .slice a0 len0 cap0] 29)) op1 n1 s1 a1 len1 cap1
  rw [heap_size_alloc] at S1
  replace r0 := r0.below hq
  replace r1 := r1.below hq
  replace hl0 := hl0.below hq
  replace hl1 := hl1.below hq
  have HBX := hide (bt (unhide HBX) hq (Nat.le_refl _))
  clear hq0 hq
  generalize hgw : (w2.alloc (.cells #[.int .i64 op0, .int .i64 n0, .string s0, .slice a0 len0 cap0] 29)).alloc (.cells #[.int .i64 op1, .int .i64 n1, .string s1, .slice a1 len1 cap1] 29) = V at *
  clear hgw
  have hd0 : Below V.heap.size V V.drew := (Below.refl _ _).drew
  refine wp_region_held (S := fun y => RowT 29 y w2.heap.size op0 n0 s0 a0 len0 cap0 ∧ RowT 29 y (w2.heap.size + 1) op1 n1 s1 a1 len1 cap1) (by kernel_rfl) ?_
  have hS : (fun y : World => RowT 29 y w2.heap.size op0 n0 s0 a0 len0 cap0 ∧ RowT 29 y (w2.heap.size + 1) op1 n1 s1 a1 len1 cap1) V.drew := ⟨S0.below hd0, S1.below hd0⟩
  replace r0 := r0.below hd0
  replace r1 := r1.below hd0
  replace hl0 := hl0.below hd0
  replace hl1 := hl1.below hd0
  show wpAnyH _ _ _ _ _ _ _ _ V.drew
  refine take_load (i := 0) rfl rfl (fun y h => h.1) (by kernel_rfl) (by kernel_rfl) (by kernel_rfl) (fun _ _ _ _ h => h) hS ?_
  simp only [Act.put, List.setIfInBounds_toArray, List.set_cons_succ, List.set_cons_zero]
  refine take_load (i := 1) rfl rfl (fun y h => h.2) (by kernel_rfl) (by kernel_rfl) (by kernel_rfl) (fun _ _ _ _ h => h) hS ?_
  simp only [Act.put, List.setIfInBounds_toArray, List.set_cons_succ, List.set_cons_zero]
  refine all_store (i := 2) (by kernel_rfl) rfl rfl rfl r0 ⟨RowT.other hS.1 (by omega), RowT.other hS.2 (by omega)⟩ fun hS => ?_
  refine all_store (i := 3) (by kernel_rfl) rfl rfl rfl (RowT.other r1 (by omega)) ⟨RowT.other hS.1 (by omega), RowT.other hS.2 (by omega)⟩ fun _ => ?_
  refine wpAnyH_done (by kernel_rfl) ?_ _
  go_wp2_with fail
  obtain ⟨f0, f1⟩ := fill_two (w := V.drew) (op0 := op0) (n0 := n0) (s0 := s0) (a0 := a0) (l0 := len0) (k0 := cap0) (op1 := op1) (n1 := n1) (s1 := s1) (a1 := a1) (l1 := len1) (k1 := cap1) r0 r1
  exact bodyPost_ret (v := .tuple #[.agg #[.int .i64 op0, .int .i64 n0, .string s0, .slice a0 len0 cap0], .agg #[.int .i64 op1, .int .i64 n1, .string s1, .slice a1 len1 cap1]]) (results_cells2t Tryz.results18 rfl rfl (RowT.load f0) (RowT.load f1)) rfl ⟨T0, T1, _, _, _, _, _, _, _, _, _, _, _, _, rfl, ⟨fill_two_lies hl0 (by omega) (by omega), hz0⟩, ⟨fill_two_lies hl1 (by omega) (by omega), hz1⟩, fill_two_below (bt (unhide HBX) hd0 (Nat.le_refl _)) (Nat.le_refl _)⟩

set_option maxRecDepth 100000 in
set_option maxHeartbeats 4000000 in
theorem helloOf_draw (ad : Option Addr) (ln cp : Nat) (w : World) (hB : Bytes w w.heap.size ad ln) (hl : ln ≤ 1048576) (hlc : ln ≤ cp) :
    Calls Tryz.prog 23 #[.slice ad ln cp] w fun q w' => OneD w q w' := by
  have hb0 := ab (w := w) (.cells #[.int .i64 0, .int .i64 0, .string ⟨#[]⟩, .slice none 0 0] 29)
  have hN := hide (new_calls ad ln cp (w.alloc (.cells #[.int .i64 0, .int .i64 0, .string ⟨#[]⟩, .slice none 0 0] 29)) (bytes_up hB hb0 hb0.size) hl hlc)
  have HZ0 : Hid (RowT 29 (w.alloc (.cells #[.int .i64 0, .int .i64 0, .string ⟨#[]⟩, .slice none 0 0] 29)) w.heap.size 0 0 ⟨#[]⟩ none 0 0) := RowT.new 29 w 0 0 ⟨#[]⟩ none 0 0
  have HB0 := hide hb0
  clear hb0 hB hl hlc
  go_enter Tryz.func23, Tryz.ntmps23
  go_wp2_with fail
  generalize hgw : w.alloc (.cells #[.int .i64 0, .int .i64 0, .string ⟨#[]⟩, .slice none 0 0] 29) = W0 at *
  clear hgw
  refine (unhide hN).mono ?_
  rintro q w1 ⟨rfl, hc1, hb1, _⟩
  have hOn := hide (once_calls W0.heap.size 3 w1 hc1 (by decide))
  have hD := hide (draw_calls W0.heap.size)
  have hA := hide (atom_draw W0.heap.size)
  go_wp2_with fail
  refine (unhide hOn).mono ?_
  rintro q w2 ⟨b, rfl, hc2, ho2⟩
  have hsw := (unhide HZ0).lt
  have hww := hb1.size
  have r0 := ((unhide HZ0).below hb1).only ho2 (nin (by omega))
  have HBX := hide (only_old (bt (unhide HB0) hb1 (Nat.le_refl _)) ho2 (unhide HB0).size)
  have hss := (unhide HB0).size
  have HC := hide hc2
  clear HZ0 HB0 hN hOn hb1 hc1 ho2 hc2
  generalize W0.heap.size = c at *
  cases b with
  | true =>
    go_wp2_with fail
    refine (unhide hD _ (unhide HC)).mono ?_
    rintro q w3 ⟨v, rfl, ⟨T, op, n, s, a, len, cap, rfl, hlT, -, hzT⟩, hc3, ho3⟩
    have r1 := r0.only ho3 (nin (by omega))
    obtain ⟨p0, p1, p2, p3, q0, q1, q2, q3⟩ := (show ZBox w3 w.heap.size from r1).facts
    have HBY := hide (only_old (unhide HBX) ho3 hss)
    have hlw : w.heap.size < w2.heap.size := r0.lt
    go_wp2_with fail
    exact bodyPost_ret (v := .agg #[.int .i64 op, .int .i64 n, .string s, .slice a len cap]) (results_box1 Tryz.results23 rfl (RowT.load (RowT.fill r1 op n s a len cap))) rfl ⟨T, op, n, s, a, len, cap, rfl, ⟨(set4_lies hlT hlw _ (Nat.le_refl _)).any (Nat.le_of_lt hlw), Nat.le_trans hzT (by decide)⟩, set4_below (unhide HBY) (Nat.le_refl _)⟩
  | false =>
    go_wp2_with fail
    refine (unhide hA _ (unhide HC)).mono ?_
    rintro q w3 ⟨x, rfl, hx, hc3, ho3⟩
    have r1 := r0.only ho3 (nin (by omega))
    have HBY := hide (only_old (unhide HBX) ho3 hss)
    have hlw : w.heap.size < w3.heap.size := r1.lt
    have hH := hide (helloS (.node 1 (20 + x) ByteArray.empty []) 1 (20 + x) ByteArray.empty none 0 0 w3 (leaf_lies w3 0 1 (20 + x) ByteArray.empty (by simp [maxLen]) (by decide) (WalkArith.wf_i64 (by omega))) (by simp [Tm.size, Tm.sizes]))
    go_wp2_with fail
    refine (unhide hH).mono ?_
    rintro q w4 ⟨op, n, s, a, len, cap, rfl, hlT, hb4⟩
    have r2 := r1.below hb4
    obtain ⟨p0, p1, p2, p3, q0, q1, q2, q3⟩ := (show ZBox w4 w.heap.size from r2).facts
    have HBZ := hide (bt (unhide HBY) hb4 (Nat.le_refl _))
    go_wp2_with fail
    exact bodyPost_ret (v := .agg #[.int .i64 op, .int .i64 n, .string s, .slice a len cap]) (results_box1 Tryz.results23 rfl (RowT.load (RowT.fill r2 op n s a len cap))) rfl ⟨_, op, n, s, a, len, cap, rfl, ⟨(set4_lies hlT hlw _ (Nat.le_refl _)).any (Nat.le_of_lt hlw), Nat.le_trans (madeT_200 _ _) (by decide)⟩, set4_below (unhide HBZ) (Nat.le_refl _)⟩

end Go.Proofs.YtmklgikbajhcpaaGreatDoor
