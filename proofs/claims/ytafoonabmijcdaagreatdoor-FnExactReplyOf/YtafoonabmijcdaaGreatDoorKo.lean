
/- The walks of spec.KeyOf and impl.KeyOf: of whatever term lies in memory, and whatever number, the hash of the pair of it and the number's text, where these are right, else the zero term; the second in new blocks of its own; nothing that was there is written. -/
import Derived.Test.YtafoonabmijcdaaGreatDoorSl
import Derived.Deep.RegionHeld3
namespace Go.Proofs.YtafoonabmijcdaaGreatDoor
open Go.RowKit Go.Deep

/-- The key of a share, by a number. -/
def keyT (t : Tm) (m : Int) : Tm := madeT 6 [madeT 3 [t, numT m]]

theorem madeT_le (op : Int) (ks : List Tm) : (madeT op ks).size ≤ 1 + Tm.sizes ks := by
  unfold madeT pickT
  split
  · simp [Tm.size]
  · simp [Tm.size, Tm.sizes]

set_option maxRecDepth 100000 in
set_option maxHeartbeats 2000000 in
theorem keyS (t : Tm) (m : Int) (op n : Int) (s : ByteArray) (a : Option Addr) (len cap : Nat) (w : World) (hl : Lies w 0 t (tmCells op n s a len cap)) (hsz : t.size ≤ 2097140) (h0 : -9223372036854775808 ≤ m) (h1 : m ≤ 9223372036854775807) :
    Calls Tryz.prog 15 #[.agg #[.int .i64 op, .int .i64 n, .string s, .slice a len cap], .int .i64 m] w fun e w' => ∃ op' n' s' a' len' cap', e = .returned (.agg #[.int .i64 op', .int .i64 n', .string s', .slice a' len' cap']) ∧ Lies w' w.heap.size (keyT t m) (tmCells op' n' s' a' len' cap') ∧ Below w.heap.size w w' := by
  have h35 := hide (num_calls m)
  have h15 := hide (pair12 t (numT m) op n s a len cap 2 0 ⟨(Lib.itoa m).toArray⟩ none 0 0)
  have h20 := hide (hash15 (madeT 3 [t, numT m]))
  have HN0 := hide h0
  have HN1 := hide h1
  have HZ1 : Hid (t.size + (numT m).size ≤ 2097151) := by show _ ≤ _; rw [numT_size]; omega
  have HZ2 : Hid ((madeT 3 [t, numT m]).size ≤ 2097151) := by
    show _ ≤ _
    have := madeT_le 3 [t, numT m]
    simp only [Tm.sizes, numT_size] at this
    omega
  have HNL : Hid (∀ v : World, Lies v 0 (numT m) (tmCells 2 0 ⟨(Lib.itoa m).toArray⟩ none 0 0)) := fun v => lies_leaf v 2 0 _ (itoa_size m h0 h1) (by decide) (by decide)
  have HE : Hid (keyT t m = madeT 6 [madeT 3 [t, numT m]]) := rfl
  generalize keyT t m = ST at *
  generalize madeT 3 [t, numT m] = PT at *
  generalize numT m = NT at *
  generalize (⟨(Lib.itoa m).toArray⟩ : ByteArray) = ns at *
  have hB0 : Below w.heap.size w ((w.alloc (.cells #[.int .i64 op, .int .i64 n, .string s, .slice a len cap] 28)).alloc (.cells #[.int .i64 0, .int .i64 0, .string ByteArray.empty, .slice none 0 0] 28)) := bt (ab _) (ab _) (Nat.le_refl _)
  have HX : Hid (ZBox ((w.alloc (.cells #[.int .i64 op, .int .i64 n, .string s, .slice a len cap] 28)).alloc (.cells #[.int .i64 0, .int .i64 0, .string ByteArray.empty, .slice none 0 0] 28)) (w.heap.size + 1)) := by
    have := ZBox.new (w.alloc (.cells #[.int .i64 op, .int .i64 n, .string s, .slice a len cap] 28))
    rwa [heap_size_alloc] at this
  have HRA : Hid (RowT 28 ((w.alloc (.cells #[.int .i64 op, .int .i64 n, .string s, .slice a len cap] 28)).alloc (.cells #[.int .i64 0, .int .i64 0, .string ByteArray.empty, .slice none 0 0] 28)) w.heap.size op n s a len cap) := (RowT.new 28 w op n s a len cap).below (ab _)
  have HLA := hide (hl.below hB0)
  have HB0 := hide hB0
  have HS0 : Hid (((w.alloc (.cells #[.int .i64 op, .int .i64 n, .string s, .slice a len cap] 28)).alloc (.cells #[.int .i64 0, .int .i64 0, .string ByteArray.empty, .slice none 0 0] 28)).heap.size = w.heap.size + 2) := by show _ = _; simp
  clear hl hsz hB0 h0 h1
  go_enter Tryz.func15, Tryz.ntmps15
  go_wp2_with fail
  generalize hgw : ((w.alloc (.cells #[.int .i64 op, .int .i64 n, .string s, .slice a len cap] 28)).alloc (.cells #[.int .i64 0, .int .i64 0, .string ByteArray.empty, .slice none 0 0] 28)) = W0 at *
  refine gw_world hgw ?_
  clear hgw
  obtain ⟨c0, c1, c2, c3⟩ := (unhide HRA).facts
  have hne1 : (w.heap.size = w.heap.size + 1) = False := by simp
  have hsA : w.heap.size + 1 < W0.heap.size := by have := unhide HS0; omega
  go_region_held3 (fun x => x.cell? ⟨w.heap.size, 0, none⟩ = some (.int .i64 op) ∧ x.cell? ⟨w.heap.size, 1, none⟩ = some (.int .i64 n) ∧ x.cell? ⟨w.heap.size, 2, none⟩ = some (.string s) ∧ x.cell? ⟨w.heap.size, 3, none⟩ = some (.slice a len cap)) (go_keep)
    (first
      | (go_at_call 28
         refine (unhide h35 _ (unhide HN0) (unhide HN1)).mono ?_
         rintro e w2 ⟨rfl, hb2⟩
         have hb2' := hide (below_drew' hb2)
         have f0 := kpc (unhide hb2') c0
         have f1 := kpc (unhide hb2') c1
         have f2 := kpc (unhide hb2') c2
         have f3 := kpc (unhide hb2') c3)
      | (go_at_call 30
         refine (unhide h15 _ ((unhide HLA).below (unhide hb2')) (unhide HNL _) (unhide HZ1)).mono ?_
         rintro e w3 ⟨op3, n3, s3, a3, len3, cap3, rfl, hL3, hb3, -⟩
         have hb3' := hide hb3
         have HL3 := hide (hL3.any (Nat.zero_le _))
         have g0 := kpc hb3 f0
         have g1 := kpc hb3 f1
         have g2 := kpc hb3 f2
         have g3 := kpc hb3 f3)
      | (go_at_call 29
         refine (unhide h20 _ _ _ _ _ _ _ (unhide HL3) (unhide HZ2)).mono ?_
         rintro e w4 ⟨op', n', s', a', len', cap', rfl, hL4, hb4, -⟩
         have hb4' := hide hb4
         have HL4 := hide hL4
         obtain ⟨p0, p1, p2, p3, q0, q1, q2, q3⟩ := ((((unhide HX).below (unhide hb2')).below (unhide hb3')).below hb4).facts
         have j0 := kpc hb4 g0
         have j1 := kpc hb4 g1
         have j2 := kpc hb4 g2
         have j3 := kpc hb4 g3))
  have HB4 := hide (bt (bt (bt (unhide HB0) (unhide hb2') (Nat.le_refl _)) (unhide hb3') (Nat.le_refl _)) (unhide hb4') (Nat.le_refl _))
  have HSZ : Hid (w.heap.size + 1 < w3.heap.size) := by show _ < _; have := (unhide hb2').size; have := (unhide hb3').size; omega
  clear f0 f1 f2 f3 c0 c1 c2 c3 g0 g1 g2 g3 j0 j1 j2 j3 hb2' hb3' hb4'
  go_wp2_with fail
  exact bodyPost_ret (v := .agg #[.int .i64 op', .int .i64 n', .string s', .slice a' len' cap']) (by simp [results, Tryz.results15, go_sem, p0, p1, p2, p3]) rfl ⟨op', n', s', a', len', cap', rfl, by rw [unhide HE]; exact set4_lies (unhide HL4) (unhide HSZ) w.heap.size (by have := unhide HSZ; omega), set4_below (unhide HB4) (by omega)⟩

set_option maxRecDepth 100000 in
set_option maxHeartbeats 2000000 in
theorem keyI (t : Tm) (m : Int) (op n : Int) (s : ByteArray) (a : Option Addr) (len cap : Nat) (w : World) (hl : Lies w 0 t (tmCells op n s a len cap)) (hsz : t.size ≤ 2097140) (h0 : -9223372036854775808 ≤ m) (h1 : m ≤ 9223372036854775807) (htab : Tab w) (herr : Err w) :
    Calls Tryz.prog 36 #[.agg #[.int .i64 op, .int .i64 n, .string s, .slice a len cap], .int .i64 m] w fun e w' => ∃ op' n' s' a' len' cap' fp, e = .returned (.agg #[.int .i64 op', .int .i64 n', .string s', .slice a' len' cap']) ∧ Own w' (keyT t m) (tmCells op' n' s' a' len' cap') fp ∧ (fp.Nodup ∧ ∀ x ∈ fp, w.heap.size ≤ x) ∧ Below w.heap.size w w' := by
  have h35 := hide (digitsI m)
  have h15 := hide (pair14 t (numT m) op n s a len cap 2 0 ⟨(Lib.itoa m).toArray⟩ none 0 0)
  have h20 := hide (hash16 (madeT 3 [t, numT m]))
  have HN0 := hide h0
  have HN1 := hide h1
  have HZ1 : Hid (t.size + (numT m).size ≤ 2097151) := by show _ ≤ _; rw [numT_size]; omega
  have HZ2 : Hid ((madeT 3 [t, numT m]).size ≤ 2097151) := by
    show _ ≤ _
    have := madeT_le 3 [t, numT m]
    simp only [Tm.sizes, numT_size] at this
    omega
  have HNL : Hid (∀ v : World, Lies v 0 (numT m) (tmCells 2 0 ⟨(Lib.itoa m).toArray⟩ none 0 0)) := fun v => lies_leaf v 2 0 _ (itoa_size m h0 h1) (by decide) (by decide)
  have HE : Hid (keyT t m = madeT 6 [madeT 3 [t, numT m]]) := rfl
  generalize keyT t m = ST at *
  generalize madeT 3 [t, numT m] = PT at *
  generalize numT m = NT at *
  generalize (⟨(Lib.itoa m).toArray⟩ : ByteArray) = ns at *
  have hB0 : Below w.heap.size w ((w.alloc (.cells #[.int .i64 op, .int .i64 n, .string s, .slice a len cap] 28)).alloc (.cells #[.int .i64 0, .int .i64 0, .string ByteArray.empty, .slice none 0 0] 28)) := bt (ab _) (ab _) (Nat.le_refl _)
  have HX : Hid (ZBox ((w.alloc (.cells #[.int .i64 op, .int .i64 n, .string s, .slice a len cap] 28)).alloc (.cells #[.int .i64 0, .int .i64 0, .string ByteArray.empty, .slice none 0 0] 28)) (w.heap.size + 1)) := by
    have := ZBox.new (w.alloc (.cells #[.int .i64 op, .int .i64 n, .string s, .slice a len cap] 28))
    rwa [heap_size_alloc] at this
  have HRA : Hid (RowT 28 ((w.alloc (.cells #[.int .i64 op, .int .i64 n, .string s, .slice a len cap] 28)).alloc (.cells #[.int .i64 0, .int .i64 0, .string ByteArray.empty, .slice none 0 0] 28)) w.heap.size op n s a len cap) := (RowT.new 28 w op n s a len cap).below (ab _)
  have HLA := hide (hl.below hB0)
  have HTB := hide (htab.on hB0)
  have HER := hide (herr.on hB0)
  have HB0 := hide hB0
  have HS0 : Hid (((w.alloc (.cells #[.int .i64 op, .int .i64 n, .string s, .slice a len cap] 28)).alloc (.cells #[.int .i64 0, .int .i64 0, .string ByteArray.empty, .slice none 0 0] 28)).heap.size = w.heap.size + 2) := by show _ = _; simp
  clear hl hsz hB0 h0 h1 htab herr
  go_enter Tryz.func36, Tryz.ntmps36
  go_wp2_with fail
  generalize hgw : ((w.alloc (.cells #[.int .i64 op, .int .i64 n, .string s, .slice a len cap] 28)).alloc (.cells #[.int .i64 0, .int .i64 0, .string ByteArray.empty, .slice none 0 0] 28)) = W0 at *
  refine gw_world hgw ?_
  clear hgw
  obtain ⟨c0, c1, c2, c3⟩ := (unhide HRA).facts
  have hne1 : (w.heap.size = w.heap.size + 1) = False := by simp
  have hsA : w.heap.size + 1 < W0.heap.size := by have := unhide HS0; omega
  go_region_held3 (fun x => x.cell? ⟨w.heap.size, 0, none⟩ = some (.int .i64 op) ∧ x.cell? ⟨w.heap.size, 1, none⟩ = some (.int .i64 n) ∧ x.cell? ⟨w.heap.size, 2, none⟩ = some (.string s) ∧ x.cell? ⟨w.heap.size, 3, none⟩ = some (.slice a len cap)) (go_keep)
    (first
      | (go_at_call 49
         refine (unhide h35 _ (unhide HN0) (unhide HN1) ((unhide HTB).on ((Below.refl _ _).drew))).mono ?_
         rintro e w2 ⟨rfl, hb2⟩
         have hb2' := hide (below_drew' hb2)
         have f0 := kpc (unhide hb2') c0
         have f1 := kpc (unhide hb2') c1
         have f2 := kpc (unhide hb2') c2
         have f3 := kpc (unhide hb2') c3)
      | (go_at_call 51
         refine (unhide h15 _ ((unhide HLA).below (unhide hb2')) (unhide HNL _) (unhide HZ1) ((unhide HER).on (unhide hb2'))).mono ?_
         rintro e w3 ⟨op3, n3, s3, a3, len3, cap3, f3p, rfl, hL3, _, hb3⟩
         have hb3' := hide hb3
         have HL3 := hide hL3.lies0
         have HER3 := hide (((unhide HER).on (unhide hb2')).on hb3)
         have g0 := kpc hb3 f0
         have g1 := kpc hb3 f1
         have g2 := kpc hb3 f2
         have g3 := kpc hb3 f3)
      | (go_at_call 50
         refine (unhide h20 _ _ _ _ _ _ _ (unhide HL3) (unhide HZ2) (unhide HER3)).mono ?_
         rintro e w4 ⟨op', n', s', a', len', cap', fp, rfl, hO4, ⟨hnd, hge⟩, hb4⟩
         have hb4' := hide hb4
         have HO4 := hide hO4
         have HND := hide hnd
         have HGE := hide hge
         obtain ⟨p0, p1, p2, p3, q0, q1, q2, q3⟩ := ((((unhide HX).below (unhide hb2')).below (unhide hb3')).below hb4).facts
         have j0 := kpc hb4 g0
         have j1 := kpc hb4 g1
         have j2 := kpc hb4 g2
         have j3 := kpc hb4 g3))
  have HB4 := hide (bt (bt (bt (unhide HB0) (unhide hb2') (Nat.le_refl _)) (unhide hb3') (Nat.le_refl _)) (unhide hb4') (Nat.le_refl _))
  have HSZ : Hid (w.heap.size + 1 < w3.heap.size) := by show _ < _; have := (unhide hb2').size; have := (unhide hb3').size; omega
  clear f0 f1 f2 f3 c0 c1 c2 c3 g0 g1 g2 g3 j0 j1 j2 j3 hb2' hb3' hb4'
  go_wp2_with fail
  exact bodyPost_ret (v := .agg #[.int .i64 op', .int .i64 n', .string s', .slice a' len' cap']) (by simp [results, Tryz.results36, go_sem, p0, p1, p2, p3]) rfl ⟨op', n', s', a', len', cap', fp, rfl, by rw [unhide HE]; exact Own.keep _ _ _ (unhide HO4) (fun b hb => set4_heap _ _ _ _ _ _ b (by have := unhide HGE b hb; have := unhide HSZ; omega)), ⟨unhide HND, fun x hx => by have := unhide HGE x hx; have := unhide HSZ; omega⟩, set4_below (unhide HB4) (by omega)⟩

end Go.Proofs.YtafoonabmijcdaaGreatDoor
