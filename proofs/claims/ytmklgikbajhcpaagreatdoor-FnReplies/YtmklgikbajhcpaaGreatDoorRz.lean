
/- The walk of impl.shareOf where both are right: the share, in its order, or the named error; nothing that was there is written. The walk of impl.shareOf at whatever two terms: the share, or the named error; what a reply is where the open half is not right. The walk of impl.row with whatever keeps the terms that it is handed: what lies in every world that keeps these, and what is new. The walks of impl.replyTo and impl.Reply: the reply, or the named error; the second in new blocks of its own; nothing that was there is written. -/
import Derived.Test.YtmklgikbajhcpaaGreatDoorRa
import Derived.Deep.RegionHeld3
import Derived.Deep.RegionWith
import Derived.Test.YtmklgikbajhcpaaGreatDoorG1
import Derived.Test.YtmklgikbajhcpaaGreatDoorPw
import Derived.Deep.DeepCutAuto
namespace Go.Proofs.YtmklgikbajhcpaaGreatDoor
open Go.RowKit Go.Deep

set_option maxRecDepth 100000 in
set_option maxHeartbeats 2000000 in
theorem share_no3_a (t k : Tm) (op n : Int) (s : ByteArray) (a : Option Addr) (len cap : Nat) (n2 : Int) (s2 : ByteArray) (b q cap2 : Nat) (op3 n3 : Int) (s3 : ByteArray) (a3 : Option Addr) (len3 cap3 : Nat) (x : Addr) (w : World) (he : ErrAt x w) (hl : Lies w 0 t (tmCells op n s a len cap)) (hk : Lies w 0 k (tmCells op3 n3 s3 a3 len3 cap3)) (hsz : t.size + k.size ≤ 2097140) (r0 : w.cell? ⟨b, q, none⟩ = some (.int .i64 op3)) (r1 : w.cell? ⟨b, q + 1, none⟩ = some (.int .i64 n3)) (r2 : w.cell? ⟨b, q + 2, none⟩ = some (.string s3)) (r3 : w.cell? ⟨b, q + 3, none⟩ = some (.slice a3 len3 cap3)) (hok : okT t = true) (hbf : beforeB k t = false) (hsh : okT (Tm.node 5 0 ByteArray.empty [t, k]) = false) :
    Calls Tryz.prog 100 #[.agg #[.int .i64 op, .int .i64 n, .string s, .slice a len cap], .agg #[.int .i64 4, .int .i64 n2, .string s2, .slice (some ⟨b, q, none⟩) 1 cap2]] w fun e w' => e = .returned (.tuple #[.agg #[.int .i64 0, .int .i64 0, .string ByteArray.empty, .slice none 0 0], .iface 202 (.pointer (some x))]) ∧ Below w.heap.size w w' := by
  have hB0 : Below w.heap.size w (((w.alloc (.cells #[.int .i64 op, .int .i64 n, .string s, .slice a len cap] 29)).alloc (.cells #[.int .i64 4, .int .i64 n2, .string s2, .slice (some ⟨b, q, none⟩) 1 cap2] 29)).alloc (.cells #[.int .i64 0, .int .i64 0, .string ByteArray.empty, .slice none 0 0] 29)) := bt (bt (ab _) (ab _) (Nat.le_refl _)) (ab _) (Nat.le_refl _)
  have HX : Hid (ZBox (((w.alloc (.cells #[.int .i64 op, .int .i64 n, .string s, .slice a len cap] 29)).alloc (.cells #[.int .i64 4, .int .i64 n2, .string s2, .slice (some ⟨b, q, none⟩) 1 cap2] 29)).alloc (.cells #[.int .i64 0, .int .i64 0, .string ByteArray.empty, .slice none 0 0] 29)) (w.heap.size + 1 + 1)) := by
    have := ZBox.new ((w.alloc (.cells #[.int .i64 op, .int .i64 n, .string s, .slice a len cap] 29)).alloc (.cells #[.int .i64 4, .int .i64 n2, .string s2, .slice (some ⟨b, q, none⟩) 1 cap2] 29))
    rwa [heap_size_alloc, heap_size_alloc] at this
  have HRA : Hid (RowT 29 (((w.alloc (.cells #[.int .i64 op, .int .i64 n, .string s, .slice a len cap] 29)).alloc (.cells #[.int .i64 4, .int .i64 n2, .string s2, .slice (some ⟨b, q, none⟩) 1 cap2] 29)).alloc (.cells #[.int .i64 0, .int .i64 0, .string ByteArray.empty, .slice none 0 0] 29)) w.heap.size op n s a len cap) := ((RowT.new 29 w op n s a len cap).below (ab _)).below (ab _)
  have HRB : Hid (RowT 29 (((w.alloc (.cells #[.int .i64 op, .int .i64 n, .string s, .slice a len cap] 29)).alloc (.cells #[.int .i64 4, .int .i64 n2, .string s2, .slice (some ⟨b, q, none⟩) 1 cap2] 29)).alloc (.cells #[.int .i64 0, .int .i64 0, .string ByteArray.empty, .slice none 0 0] 29)) (w.heap.size + 1) 4 n2 s2 (some ⟨b, q, none⟩) 1 cap2) := by
    have := (RowT.new 29 (w.alloc (.cells #[.int .i64 op, .int .i64 n, .string s, .slice a len cap] 29)) 4 n2 s2 (some ⟨b, q, none⟩) 1 cap2).below (ab (.cells #[.int .i64 0, .int .i64 0, .string ByteArray.empty, .slice none 0 0] 29))
    rwa [heap_size_alloc] at this
  have HB0 := hide hB0
  have h61 := hide (fun V (hV : Below w.heap.size w V) => kid_yes n2 s2 b q cap2 op3 n3 s3 a3 len3 cap3 V (kpc hV r0) (kpc hV r1) (kpc hV r2) (kpc hV r3))
  have HLT := hide hl
  have HLK := hide hk
  have HER := hide he
  obtain ⟨c0, c1, c2, c3⟩ := (unhide HRB).facts
  have h46 := hide (fun V (hV : Below w.heap.size w V) => checked_yes t op n s a len cap V (hl.below hV) (by omega) hok)
  have h62 := hide (fun V (hV : Below w.heap.size w V) => before17 k t op3 n3 s3 a3 len3 cap3 op n s a len cap V (hk.below hV) (hl.below hV) (by omega))
  rw [hbf] at h62
  have HZ5 : Hid ((Tm.node 5 0 ByteArray.empty [t, k]).size ≤ 2097152) := by show _ ≤ _; simp only [Tm.size, Tm.sizes]; omega
  have h46' := hide (fun a5 V h he => checked_no (Tm.node 5 0 ByteArray.empty [t, k]) 5 0 ByteArray.empty a5 2 2 x V h (unhide HZ5) hsh he)
  clear hB0 he hl hk hsz hok hbf hsh r0 r1 r2 r3
  go_enter Tryz.func100, Tryz.ntmps100
  go_wp2_with fail
  refine (unhide h61 _ (unhide HB0)).mono ?_
  rintro e w2 ⟨rfl, hb2⟩
  have hb3 := bt hb2 (ab (.cells #[.int .i64 op3, .int .i64 n3, .string s3, .slice a3 len3 cap3] 29)) (Nat.le_refl _)
  have HB2 := hide (bt (unhide HB0) hb3 (Nat.le_refl _))
  have HX2 := hide ((unhide HX).below hb3)
  have HRA2 := hide ((unhide HRA).below hb3)
  have HK2 := hide (RowT.new 29 w2 op3 n3 s3 a3 len3 cap3)
  have HLTK : Hid (w.heap.size + 1 + 1 < w2.heap.size) := lt_of_heap ((unhide HX).below hb2)
  have HGK : Hid (w2.heap.size < (w2.alloc (.cells #[.int .i64 op3, .int .i64 n3, .string s3, .slice a3 len3 cap3] 29)).heap.size) := by show _ < _; simp
  clear hb2 hb3 c0 c1 c2 c3 HB0 HX HRA HRB
  obtain ⟨c0, c1, c2, c3⟩ := (unhide HRA2).facts
  go_wp2_with fail
  generalize hgw : w2.alloc (.cells #[.int .i64 op3, .int .i64 n3, .string s3, .slice a3 len3 cap3] 29) = W2 at *
  clear hgw
  generalize w2.heap.size = bK at *
  refine (unhide h46 _ (unhide HB2)).mono ?_
  rintro e w3 ⟨rfl, hb3⟩
  have hb4 := bt hb3 (ab (.cells #[.int .i64 op, .int .i64 n, .string s, .slice a len cap] 29)) (Nat.le_refl _)
  have HB3 := hide (bt (unhide HB2) hb4 (Nat.le_refl _))
  have HX3 := hide ((unhide HX2).below hb4)
  have HK3 := hide ((unhide HK2).below hb4)
  have HS3 := hide (RowT.new 29 w3 op n s a len cap)
  have HGS : Hid (w3.heap.size < (w3.alloc (.cells #[.int .i64 op, .int .i64 n, .string s, .slice a len cap] 29)).heap.size) := by show _ < _; simp
  have HLS : Hid (bK < w3.heap.size) := by have := unhide HGK; have := hb3.size; show _ < _; omega
  clear hb3 hb4 c0 c1 c2 c3 HB2 HX2 HRA2 HK2
  obtain ⟨c0, c1, c2, c3⟩ := (unhide HK3).facts
  obtain ⟨i0, i1, i2, i3⟩ := (unhide HS3).facts
  go_wp2_with fail
  generalize hgw : w3.alloc (.cells #[.int .i64 op, .int .i64 n, .string s, .slice a len cap] 29) = W3 at *
  clear hgw
  generalize w3.heap.size = bS at *
  refine (unhide h62 _ (unhide HB3)).mono ?_
  rintro e w4 ⟨rfl, hb4⟩
  have HB4 := hide (bt (unhide HB3) hb4 (Nat.le_refl _))
  have HX4 := hide ((unhide HX3).below hb4)
  have HK4 := hide ((unhide HK3).below hb4)
  have HS4 := hide ((unhide HS3).below hb4)
  have HL4 : Hid (bS < w4.heap.size) := by have := unhide HGS; have := hb4.size; show _ < _; omega
  clear hb4 c0 c1 c2 c3 i0 i1 i2 i3 HB3 HX3 HK3 HS3
  obtain ⟨c0, c1, c2, c3⟩ := (unhide HK4).facts
  obtain ⟨i0, i1, i2, i3⟩ := (unhide HS4).facts
  obtain ⟨k0, k1, k2, k3⟩ := (unhide HK4).thaw
  obtain ⟨j0, j1, j2, j3⟩ := (unhide HS4).thaw
  have m1 : bK ≠ bS := by have := unhide HLS; omega
  have m1' := Ne.symm m1
  have HGB : Hid (w.heap.size ≤ bK ∧ w.heap.size ≤ bS) := by have := unhide HLS; have := unhide HLTK; show _ ∧ _; omega
  have HNB : Hid (w.heap.size + 1 + 1 ≠ bK ∧ w.heap.size + 1 + 1 ≠ bS) := by have := unhide HLS; have := unhide HLTK; show _ ∧ _; omega
  go_wp2_with fail
  have hXs : w4.heap.size = w4.heap.size := by rfl
  have HXB : Hid (Below w.heap.size w w4) := unhide HB4
  have HXZ : Hid (ZBox w4 (w.heap.size + 1 + 1)) := unhide HX4
  have HCL : Hid (∀ (j : Nat) (v : Value), (#[.int .i64 op, .int .i64 n, .string s, .slice a len cap, .int .i64 op3, .int .i64 n3, .string s3, .slice a3 len3 cap3] : Array Value)[j]? = some v → (w4.alloc (.cells #[.int .i64 op, .int .i64 n, .string s, .slice a len cap, .int .i64 op3, .int .i64 n3, .string s3, .slice a3 len3 cap3] 29)).cell? ⟨w4.heap.size, j, none⟩ = some v) := fun j v hj => by
    rw [← hXs]
    exact row_cells w4 op n s a len cap op3 n3 s3 a3 len3 cap3 j v hj
  skip
  refine (unhide h46' _ _ ?_ ?_).mono ?_
  · refine lies_row2 ((unhide HLT).below ?_) ((unhide HLK).below ?_) (fun j v hj => unhide HCL j v hj) 5 (by decide)
    · exact bt (unhide HXB) (ab _) (Nat.le_refl _)
    · exact bt (unhide HXB) (ab _) (Nat.le_refl _)
  · exact (unhide HER).on (bt (unhide HXB) (ab _) (Nat.le_refl _))
  rintro e w5 ⟨rfl, hb5⟩
  have HB5 := hide (bt (bt (unhide HXB) (ab _) (Nat.le_refl _)) hb5 (Nat.le_refl _))
  have hX5 := ((unhide HXZ).below (ab _)).below hb5
  obtain ⟨d0, d1, d2, d3, e0, e1, e2, e3⟩ := hX5.facts
  clear hX5 hb5 c0 c1 c2 c3 i0 i1 i2 i3 k0 k1 k2 k3 j0 j1 j2 j3
  go_wp2_with fail
  exact bodyPost_ret (v := .tuple #[.agg #[.int .i64 0, .int .i64 0, .string ByteArray.empty, .slice none 0 0], .iface 202 (.pointer (some x))]) (by simp [results, Tryz.results100, go_sem, d0, d1, d2, d3]; try rfl) rfl ⟨rfl, set4_below (unhide HB5) (by omega)⟩

set_option maxRecDepth 100000 in
set_option maxHeartbeats 2000000 in
theorem share_no3_b (t k : Tm) (op n : Int) (s : ByteArray) (a : Option Addr) (len cap : Nat) (n2 : Int) (s2 : ByteArray) (b q cap2 : Nat) (op3 n3 : Int) (s3 : ByteArray) (a3 : Option Addr) (len3 cap3 : Nat) (x : Addr) (w : World) (he : ErrAt x w) (hl : Lies w 0 t (tmCells op n s a len cap)) (hk : Lies w 0 k (tmCells op3 n3 s3 a3 len3 cap3)) (hsz : t.size + k.size ≤ 2097140) (r0 : w.cell? ⟨b, q, none⟩ = some (.int .i64 op3)) (r1 : w.cell? ⟨b, q + 1, none⟩ = some (.int .i64 n3)) (r2 : w.cell? ⟨b, q + 2, none⟩ = some (.string s3)) (r3 : w.cell? ⟨b, q + 3, none⟩ = some (.slice a3 len3 cap3)) (hok : okT t = true) (hbf : beforeB k t = true) (hsh : okT (Tm.node 5 0 ByteArray.empty [k, t]) = false) :
    Calls Tryz.prog 100 #[.agg #[.int .i64 op, .int .i64 n, .string s, .slice a len cap], .agg #[.int .i64 4, .int .i64 n2, .string s2, .slice (some ⟨b, q, none⟩) 1 cap2]] w fun e w' => e = .returned (.tuple #[.agg #[.int .i64 0, .int .i64 0, .string ByteArray.empty, .slice none 0 0], .iface 202 (.pointer (some x))]) ∧ Below w.heap.size w w' := by
  have hB0 : Below w.heap.size w (((w.alloc (.cells #[.int .i64 op, .int .i64 n, .string s, .slice a len cap] 29)).alloc (.cells #[.int .i64 4, .int .i64 n2, .string s2, .slice (some ⟨b, q, none⟩) 1 cap2] 29)).alloc (.cells #[.int .i64 0, .int .i64 0, .string ByteArray.empty, .slice none 0 0] 29)) := bt (bt (ab _) (ab _) (Nat.le_refl _)) (ab _) (Nat.le_refl _)
  have HX : Hid (ZBox (((w.alloc (.cells #[.int .i64 op, .int .i64 n, .string s, .slice a len cap] 29)).alloc (.cells #[.int .i64 4, .int .i64 n2, .string s2, .slice (some ⟨b, q, none⟩) 1 cap2] 29)).alloc (.cells #[.int .i64 0, .int .i64 0, .string ByteArray.empty, .slice none 0 0] 29)) (w.heap.size + 1 + 1)) := by
    have := ZBox.new ((w.alloc (.cells #[.int .i64 op, .int .i64 n, .string s, .slice a len cap] 29)).alloc (.cells #[.int .i64 4, .int .i64 n2, .string s2, .slice (some ⟨b, q, none⟩) 1 cap2] 29))
    rwa [heap_size_alloc, heap_size_alloc] at this
  have HRA : Hid (RowT 29 (((w.alloc (.cells #[.int .i64 op, .int .i64 n, .string s, .slice a len cap] 29)).alloc (.cells #[.int .i64 4, .int .i64 n2, .string s2, .slice (some ⟨b, q, none⟩) 1 cap2] 29)).alloc (.cells #[.int .i64 0, .int .i64 0, .string ByteArray.empty, .slice none 0 0] 29)) w.heap.size op n s a len cap) := ((RowT.new 29 w op n s a len cap).below (ab _)).below (ab _)
  have HRB : Hid (RowT 29 (((w.alloc (.cells #[.int .i64 op, .int .i64 n, .string s, .slice a len cap] 29)).alloc (.cells #[.int .i64 4, .int .i64 n2, .string s2, .slice (some ⟨b, q, none⟩) 1 cap2] 29)).alloc (.cells #[.int .i64 0, .int .i64 0, .string ByteArray.empty, .slice none 0 0] 29)) (w.heap.size + 1) 4 n2 s2 (some ⟨b, q, none⟩) 1 cap2) := by
    have := (RowT.new 29 (w.alloc (.cells #[.int .i64 op, .int .i64 n, .string s, .slice a len cap] 29)) 4 n2 s2 (some ⟨b, q, none⟩) 1 cap2).below (ab (.cells #[.int .i64 0, .int .i64 0, .string ByteArray.empty, .slice none 0 0] 29))
    rwa [heap_size_alloc] at this
  have HB0 := hide hB0
  have h61 := hide (fun V (hV : Below w.heap.size w V) => kid_yes n2 s2 b q cap2 op3 n3 s3 a3 len3 cap3 V (kpc hV r0) (kpc hV r1) (kpc hV r2) (kpc hV r3))
  have HLT := hide hl
  have HLK := hide hk
  have HER := hide he
  obtain ⟨c0, c1, c2, c3⟩ := (unhide HRB).facts
  have h46 := hide (fun V (hV : Below w.heap.size w V) => checked_yes t op n s a len cap V (hl.below hV) (by omega) hok)
  have h62 := hide (fun V (hV : Below w.heap.size w V) => before17 k t op3 n3 s3 a3 len3 cap3 op n s a len cap V (hk.below hV) (hl.below hV) (by omega))
  rw [hbf] at h62
  have HZ5 : Hid ((Tm.node 5 0 ByteArray.empty [k, t]).size ≤ 2097152) := by show _ ≤ _; simp only [Tm.size, Tm.sizes]; omega
  have h46' := hide (fun a5 V h he => checked_no (Tm.node 5 0 ByteArray.empty [k, t]) 5 0 ByteArray.empty a5 2 2 x V h (unhide HZ5) hsh he)
  clear hB0 he hl hk hsz hok hbf hsh r0 r1 r2 r3
  go_enter Tryz.func100, Tryz.ntmps100
  go_wp2_with fail
  refine (unhide h61 _ (unhide HB0)).mono ?_
  rintro e w2 ⟨rfl, hb2⟩
  have hb3 := bt hb2 (ab (.cells #[.int .i64 op3, .int .i64 n3, .string s3, .slice a3 len3 cap3] 29)) (Nat.le_refl _)
  have HB2 := hide (bt (unhide HB0) hb3 (Nat.le_refl _))
  have HX2 := hide ((unhide HX).below hb3)
  have HRA2 := hide ((unhide HRA).below hb3)
  have HK2 := hide (RowT.new 29 w2 op3 n3 s3 a3 len3 cap3)
  have HLTK : Hid (w.heap.size + 1 + 1 < w2.heap.size) := lt_of_heap ((unhide HX).below hb2)
  have HGK : Hid (w2.heap.size < (w2.alloc (.cells #[.int .i64 op3, .int .i64 n3, .string s3, .slice a3 len3 cap3] 29)).heap.size) := by show _ < _; simp
  clear hb2 hb3 c0 c1 c2 c3 HB0 HX HRA HRB
  obtain ⟨c0, c1, c2, c3⟩ := (unhide HRA2).facts
  go_wp2_with fail
  generalize hgw : w2.alloc (.cells #[.int .i64 op3, .int .i64 n3, .string s3, .slice a3 len3 cap3] 29) = W2 at *
  clear hgw
  generalize w2.heap.size = bK at *
  refine (unhide h46 _ (unhide HB2)).mono ?_
  rintro e w3 ⟨rfl, hb3⟩
  have hb4 := bt hb3 (ab (.cells #[.int .i64 op, .int .i64 n, .string s, .slice a len cap] 29)) (Nat.le_refl _)
  have HB3 := hide (bt (unhide HB2) hb4 (Nat.le_refl _))
  have HX3 := hide ((unhide HX2).below hb4)
  have HK3 := hide ((unhide HK2).below hb4)
  have HS3 := hide (RowT.new 29 w3 op n s a len cap)
  have HGS : Hid (w3.heap.size < (w3.alloc (.cells #[.int .i64 op, .int .i64 n, .string s, .slice a len cap] 29)).heap.size) := by show _ < _; simp
  have HLS : Hid (bK < w3.heap.size) := by have := unhide HGK; have := hb3.size; show _ < _; omega
  clear hb3 hb4 c0 c1 c2 c3 HB2 HX2 HRA2 HK2
  obtain ⟨c0, c1, c2, c3⟩ := (unhide HK3).facts
  obtain ⟨i0, i1, i2, i3⟩ := (unhide HS3).facts
  go_wp2_with fail
  generalize hgw : w3.alloc (.cells #[.int .i64 op, .int .i64 n, .string s, .slice a len cap] 29) = W3 at *
  clear hgw
  generalize w3.heap.size = bS at *
  refine (unhide h62 _ (unhide HB3)).mono ?_
  rintro e w4 ⟨rfl, hb4⟩
  have HB4 := hide (bt (unhide HB3) hb4 (Nat.le_refl _))
  have HX4 := hide ((unhide HX3).below hb4)
  have HK4 := hide ((unhide HK3).below hb4)
  have HS4 := hide ((unhide HS3).below hb4)
  have HL4 : Hid (bS < w4.heap.size) := by have := unhide HGS; have := hb4.size; show _ < _; omega
  clear hb4 c0 c1 c2 c3 i0 i1 i2 i3 HB3 HX3 HK3 HS3
  obtain ⟨c0, c1, c2, c3⟩ := (unhide HK4).facts
  obtain ⟨i0, i1, i2, i3⟩ := (unhide HS4).facts
  obtain ⟨k0, k1, k2, k3⟩ := (unhide HK4).thaw
  obtain ⟨j0, j1, j2, j3⟩ := (unhide HS4).thaw
  have m1 : bK ≠ bS := by have := unhide HLS; omega
  have m1' := Ne.symm m1
  have HGB : Hid (w.heap.size ≤ bK ∧ w.heap.size ≤ bS) := by have := unhide HLS; have := unhide HLTK; show _ ∧ _; omega
  have HNB : Hid (w.heap.size + 1 + 1 ≠ bK ∧ w.heap.size + 1 + 1 ≠ bS) := by have := unhide HLS; have := unhide HLTK; show _ ∧ _; omega
  go_wp2_with fail
  have hXs : ((((((((w4.setCell ⟨bS, 0, none⟩ (.int .i64 op3)).setCell ⟨bS, 1, none⟩ (.int .i64 n3)).setCell ⟨bS, 2, none⟩ (.string s3)).setCell ⟨bS, 3, none⟩ (.slice a3 len3 cap3)).setCell ⟨bK, 0, none⟩ (.int .i64 op)).setCell ⟨bK, 1, none⟩ (.int .i64 n)).setCell ⟨bK, 2, none⟩ (.string s)).setCell ⟨bK, 3, none⟩ (.slice a len cap)).heap.size = w4.heap.size := by simp only [nblk_setCell]
  have HXB : Hid (Below w.heap.size w ((((((((w4.setCell ⟨bS, 0, none⟩ (.int .i64 op3)).setCell ⟨bS, 1, none⟩ (.int .i64 n3)).setCell ⟨bS, 2, none⟩ (.string s3)).setCell ⟨bS, 3, none⟩ (.slice a3 len3 cap3)).setCell ⟨bK, 0, none⟩ (.int .i64 op)).setCell ⟨bK, 1, none⟩ (.int .i64 n)).setCell ⟨bK, 2, none⟩ (.string s)).setCell ⟨bK, 3, none⟩ (.slice a len cap))) := set4_below (set4_below (unhide HB4) (unhide HGB).2) (unhide HGB).1
  have HXZ : Hid (ZBox ((((((((w4.setCell ⟨bS, 0, none⟩ (.int .i64 op3)).setCell ⟨bS, 1, none⟩ (.int .i64 n3)).setCell ⟨bS, 2, none⟩ (.string s3)).setCell ⟨bS, 3, none⟩ (.slice a3 len3 cap3)).setCell ⟨bK, 0, none⟩ (.int .i64 op)).setCell ⟨bK, 1, none⟩ (.int .i64 n)).setCell ⟨bK, 2, none⟩ (.string s)).setCell ⟨bK, 3, none⟩ (.slice a len cap)) (w.heap.size + 1 + 1)) := ZBox.set4 (ZBox.set4 (unhide HX4) (unhide HNB).2) (unhide HNB).1
  have HCL : Hid (∀ (j : Nat) (v : Value), (#[.int .i64 op3, .int .i64 n3, .string s3, .slice a3 len3 cap3, .int .i64 op, .int .i64 n, .string s, .slice a len cap] : Array Value)[j]? = some v → (((((((((w4.setCell ⟨bS, 0, none⟩ (.int .i64 op3)).setCell ⟨bS, 1, none⟩ (.int .i64 n3)).setCell ⟨bS, 2, none⟩ (.string s3)).setCell ⟨bS, 3, none⟩ (.slice a3 len3 cap3)).setCell ⟨bK, 0, none⟩ (.int .i64 op)).setCell ⟨bK, 1, none⟩ (.int .i64 n)).setCell ⟨bK, 2, none⟩ (.string s)).setCell ⟨bK, 3, none⟩ (.slice a len cap)).alloc (.cells #[.int .i64 op3, .int .i64 n3, .string s3, .slice a3 len3 cap3, .int .i64 op, .int .i64 n, .string s, .slice a len cap] 29)).cell? ⟨w4.heap.size, j, none⟩ = some v) := fun j v hj => by
    rw [← hXs]
    exact row_cells ((((((((w4.setCell ⟨bS, 0, none⟩ (.int .i64 op3)).setCell ⟨bS, 1, none⟩ (.int .i64 n3)).setCell ⟨bS, 2, none⟩ (.string s3)).setCell ⟨bS, 3, none⟩ (.slice a3 len3 cap3)).setCell ⟨bK, 0, none⟩ (.int .i64 op)).setCell ⟨bK, 1, none⟩ (.int .i64 n)).setCell ⟨bK, 2, none⟩ (.string s)).setCell ⟨bK, 3, none⟩ (.slice a len cap)) op3 n3 s3 a3 len3 cap3 op n s a len cap j v hj
  generalize ((((((((w4.setCell ⟨bS, 0, none⟩ (.int .i64 op3)).setCell ⟨bS, 1, none⟩ (.int .i64 n3)).setCell ⟨bS, 2, none⟩ (.string s3)).setCell ⟨bS, 3, none⟩ (.slice a3 len3 cap3)).setCell ⟨bK, 0, none⟩ (.int .i64 op)).setCell ⟨bK, 1, none⟩ (.int .i64 n)).setCell ⟨bK, 2, none⟩ (.string s)).setCell ⟨bK, 3, none⟩ (.slice a len cap)) = X at *
  refine (unhide h46' _ _ ?_ ?_).mono ?_
  · refine lies_row2 ((unhide HLK).below ?_) ((unhide HLT).below ?_) (fun j v hj => unhide HCL j v hj) 5 (by decide)
    · exact bt (unhide HXB) (ab _) (Nat.le_refl _)
    · exact bt (unhide HXB) (ab _) (Nat.le_refl _)
  · exact (unhide HER).on (bt (unhide HXB) (ab _) (Nat.le_refl _))
  rintro e w5 ⟨rfl, hb5⟩
  have HB5 := hide (bt (bt (unhide HXB) (ab _) (Nat.le_refl _)) hb5 (Nat.le_refl _))
  have hX5 := ((unhide HXZ).below (ab _)).below hb5
  obtain ⟨d0, d1, d2, d3, e0, e1, e2, e3⟩ := hX5.facts
  clear hX5 hb5 c0 c1 c2 c3 i0 i1 i2 i3 k0 k1 k2 k3 j0 j1 j2 j3
  go_wp2_with fail
  exact bodyPost_ret (v := .tuple #[.agg #[.int .i64 0, .int .i64 0, .string ByteArray.empty, .slice none 0 0], .iface 202 (.pointer (some x))]) (by simp [results, Tryz.results100, go_sem, d0, d1, d2, d3]; try rfl) rfl ⟨rfl, set4_below (unhide HB5) (by omega)⟩

set_option maxRecDepth 100000 in
set_option maxHeartbeats 2000000 in
theorem share_yes_a (t k : Tm) (op n : Int) (s : ByteArray) (a : Option Addr) (len cap : Nat) (n2 : Int) (s2 : ByteArray) (b q cap2 : Nat) (op3 n3 : Int) (s3 : ByteArray) (a3 : Option Addr) (len3 cap3 : Nat) (x : Addr) (w : World) (he : ErrAt x w) (hl : Lies w 0 t (tmCells op n s a len cap)) (hk : Lies w 0 k (tmCells op3 n3 s3 a3 len3 cap3)) (hsz : t.size + k.size ≤ 2097140) (r0 : w.cell? ⟨b, q, none⟩ = some (.int .i64 op3)) (r1 : w.cell? ⟨b, q + 1, none⟩ = some (.int .i64 n3)) (r2 : w.cell? ⟨b, q + 2, none⟩ = some (.string s3)) (r3 : w.cell? ⟨b, q + 3, none⟩ = some (.slice a3 len3 cap3)) (hok : okT t = true) (hbf : beforeB k t = false) (hsh : okT (Tm.node 5 0 ByteArray.empty [t, k]) = true) :
    Calls Tryz.prog 100 #[.agg #[.int .i64 op, .int .i64 n, .string s, .slice a len cap], .agg #[.int .i64 4, .int .i64 n2, .string s2, .slice (some ⟨b, q, none⟩) 1 cap2]] w fun e w' => ∃ a', e = .returned (.tuple #[.agg #[.int .i64 5, .int .i64 0, .string ByteArray.empty, .slice a' 2 2], .nilIface]) ∧ Lies w' 0 (Tm.node 5 0 ByteArray.empty [t, k]) (tmCells 5 0 ByteArray.empty a' 2 2) ∧ Below w.heap.size w w' := by
  have hB0 : Below w.heap.size w (((w.alloc (.cells #[.int .i64 op, .int .i64 n, .string s, .slice a len cap] 29)).alloc (.cells #[.int .i64 4, .int .i64 n2, .string s2, .slice (some ⟨b, q, none⟩) 1 cap2] 29)).alloc (.cells #[.int .i64 0, .int .i64 0, .string ByteArray.empty, .slice none 0 0] 29)) := bt (bt (ab _) (ab _) (Nat.le_refl _)) (ab _) (Nat.le_refl _)
  have HX : Hid (ZBox (((w.alloc (.cells #[.int .i64 op, .int .i64 n, .string s, .slice a len cap] 29)).alloc (.cells #[.int .i64 4, .int .i64 n2, .string s2, .slice (some ⟨b, q, none⟩) 1 cap2] 29)).alloc (.cells #[.int .i64 0, .int .i64 0, .string ByteArray.empty, .slice none 0 0] 29)) (w.heap.size + 1 + 1)) := by
    have := ZBox.new ((w.alloc (.cells #[.int .i64 op, .int .i64 n, .string s, .slice a len cap] 29)).alloc (.cells #[.int .i64 4, .int .i64 n2, .string s2, .slice (some ⟨b, q, none⟩) 1 cap2] 29))
    rwa [heap_size_alloc, heap_size_alloc] at this
  have HRA : Hid (RowT 29 (((w.alloc (.cells #[.int .i64 op, .int .i64 n, .string s, .slice a len cap] 29)).alloc (.cells #[.int .i64 4, .int .i64 n2, .string s2, .slice (some ⟨b, q, none⟩) 1 cap2] 29)).alloc (.cells #[.int .i64 0, .int .i64 0, .string ByteArray.empty, .slice none 0 0] 29)) w.heap.size op n s a len cap) := ((RowT.new 29 w op n s a len cap).below (ab _)).below (ab _)
  have HRB : Hid (RowT 29 (((w.alloc (.cells #[.int .i64 op, .int .i64 n, .string s, .slice a len cap] 29)).alloc (.cells #[.int .i64 4, .int .i64 n2, .string s2, .slice (some ⟨b, q, none⟩) 1 cap2] 29)).alloc (.cells #[.int .i64 0, .int .i64 0, .string ByteArray.empty, .slice none 0 0] 29)) (w.heap.size + 1) 4 n2 s2 (some ⟨b, q, none⟩) 1 cap2) := by
    have := (RowT.new 29 (w.alloc (.cells #[.int .i64 op, .int .i64 n, .string s, .slice a len cap] 29)) 4 n2 s2 (some ⟨b, q, none⟩) 1 cap2).below (ab (.cells #[.int .i64 0, .int .i64 0, .string ByteArray.empty, .slice none 0 0] 29))
    rwa [heap_size_alloc] at this
  have HB0 := hide hB0
  have h61 := hide (fun V (hV : Below w.heap.size w V) => kid_yes n2 s2 b q cap2 op3 n3 s3 a3 len3 cap3 V (kpc hV r0) (kpc hV r1) (kpc hV r2) (kpc hV r3))
  have HLT := hide hl
  have HLK := hide hk
  have HER := hide he
  obtain ⟨c0, c1, c2, c3⟩ := (unhide HRB).facts
  have h46 := hide (fun V (hV : Below w.heap.size w V) => checked_yes t op n s a len cap V (hl.below hV) (by omega) hok)
  have h62 := hide (fun V (hV : Below w.heap.size w V) => before17 k t op3 n3 s3 a3 len3 cap3 op n s a len cap V (hk.below hV) (hl.below hV) (by omega))
  rw [hbf] at h62
  have HZ5 : Hid ((Tm.node 5 0 ByteArray.empty [t, k]).size ≤ 2097152) := by show _ ≤ _; simp only [Tm.size, Tm.sizes]; omega
  have h46' := hide (fun a5 V h => checked_yes (Tm.node 5 0 ByteArray.empty [t, k]) 5 0 ByteArray.empty a5 2 2 V h (unhide HZ5) hsh)
  clear hB0 he hl hk hsz hok hbf hsh r0 r1 r2 r3
  go_enter Tryz.func100, Tryz.ntmps100
  go_wp2_with fail
  refine (unhide h61 _ (unhide HB0)).mono ?_
  rintro e w2 ⟨rfl, hb2⟩
  have hb3 := bt hb2 (ab (.cells #[.int .i64 op3, .int .i64 n3, .string s3, .slice a3 len3 cap3] 29)) (Nat.le_refl _)
  have HB2 := hide (bt (unhide HB0) hb3 (Nat.le_refl _))
  have HX2 := hide ((unhide HX).below hb3)
  have HRA2 := hide ((unhide HRA).below hb3)
  have HK2 := hide (RowT.new 29 w2 op3 n3 s3 a3 len3 cap3)
  have HLTK : Hid (w.heap.size + 1 + 1 < w2.heap.size) := lt_of_heap ((unhide HX).below hb2)
  have HGK : Hid (w2.heap.size < (w2.alloc (.cells #[.int .i64 op3, .int .i64 n3, .string s3, .slice a3 len3 cap3] 29)).heap.size) := by show _ < _; simp
  clear hb2 hb3 c0 c1 c2 c3 HB0 HX HRA HRB
  obtain ⟨c0, c1, c2, c3⟩ := (unhide HRA2).facts
  go_wp2_with fail
  generalize hgw : w2.alloc (.cells #[.int .i64 op3, .int .i64 n3, .string s3, .slice a3 len3 cap3] 29) = W2 at *
  clear hgw
  generalize w2.heap.size = bK at *
  refine (unhide h46 _ (unhide HB2)).mono ?_
  rintro e w3 ⟨rfl, hb3⟩
  have hb4 := bt hb3 (ab (.cells #[.int .i64 op, .int .i64 n, .string s, .slice a len cap] 29)) (Nat.le_refl _)
  have HB3 := hide (bt (unhide HB2) hb4 (Nat.le_refl _))
  have HX3 := hide ((unhide HX2).below hb4)
  have HK3 := hide ((unhide HK2).below hb4)
  have HS3 := hide (RowT.new 29 w3 op n s a len cap)
  have HGS : Hid (w3.heap.size < (w3.alloc (.cells #[.int .i64 op, .int .i64 n, .string s, .slice a len cap] 29)).heap.size) := by show _ < _; simp
  have HLS : Hid (bK < w3.heap.size) := by have := unhide HGK; have := hb3.size; show _ < _; omega
  clear hb3 hb4 c0 c1 c2 c3 HB2 HX2 HRA2 HK2
  obtain ⟨c0, c1, c2, c3⟩ := (unhide HK3).facts
  obtain ⟨i0, i1, i2, i3⟩ := (unhide HS3).facts
  go_wp2_with fail
  generalize hgw : w3.alloc (.cells #[.int .i64 op, .int .i64 n, .string s, .slice a len cap] 29) = W3 at *
  clear hgw
  generalize w3.heap.size = bS at *
  refine (unhide h62 _ (unhide HB3)).mono ?_
  rintro e w4 ⟨rfl, hb4⟩
  have HB4 := hide (bt (unhide HB3) hb4 (Nat.le_refl _))
  have HX4 := hide ((unhide HX3).below hb4)
  have HK4 := hide ((unhide HK3).below hb4)
  have HS4 := hide ((unhide HS3).below hb4)
  have HL4 : Hid (bS < w4.heap.size) := by have := unhide HGS; have := hb4.size; show _ < _; omega
  clear hb4 c0 c1 c2 c3 i0 i1 i2 i3 HB3 HX3 HK3 HS3
  obtain ⟨c0, c1, c2, c3⟩ := (unhide HK4).facts
  obtain ⟨i0, i1, i2, i3⟩ := (unhide HS4).facts
  obtain ⟨k0, k1, k2, k3⟩ := (unhide HK4).thaw
  obtain ⟨j0, j1, j2, j3⟩ := (unhide HS4).thaw
  have m1 : bK ≠ bS := by have := unhide HLS; omega
  have m1' := Ne.symm m1
  have HGB : Hid (w.heap.size ≤ bK ∧ w.heap.size ≤ bS) := by have := unhide HLS; have := unhide HLTK; show _ ∧ _; omega
  have HNB : Hid (w.heap.size + 1 + 1 ≠ bK ∧ w.heap.size + 1 + 1 ≠ bS) := by have := unhide HLS; have := unhide HLTK; show _ ∧ _; omega
  go_wp2_with fail
  have hXs : w4.heap.size = w4.heap.size := by rfl
  have HXB : Hid (Below w.heap.size w w4) := unhide HB4
  have HXZ : Hid (ZBox w4 (w.heap.size + 1 + 1)) := unhide HX4
  have HCL : Hid (∀ (j : Nat) (v : Value), (#[.int .i64 op, .int .i64 n, .string s, .slice a len cap, .int .i64 op3, .int .i64 n3, .string s3, .slice a3 len3 cap3] : Array Value)[j]? = some v → (w4.alloc (.cells #[.int .i64 op, .int .i64 n, .string s, .slice a len cap, .int .i64 op3, .int .i64 n3, .string s3, .slice a3 len3 cap3] 29)).cell? ⟨w4.heap.size, j, none⟩ = some v) := fun j v hj => by
    rw [← hXs]
    exact row_cells w4 op n s a len cap op3 n3 s3 a3 len3 cap3 j v hj
  skip
  refine (unhide h46' _ _ ?_).mono ?_
  · refine lies_row2 ((unhide HLT).below ?_) ((unhide HLK).below ?_) (fun j v hj => unhide HCL j v hj) 5 (by decide)
    · exact bt (unhide HXB) (ab _) (Nat.le_refl _)
    · exact bt (unhide HXB) (ab _) (Nat.le_refl _)

  rintro e w5 ⟨rfl, hb5⟩
  have HB5 := hide (bt (bt (unhide HXB) (ab _) (Nat.le_refl _)) hb5 (Nat.le_refl _))
  have hX5 := ((unhide HXZ).below (ab _)).below hb5
  obtain ⟨d0, d1, d2, d3, e0, e1, e2, e3⟩ := hX5.facts
  have HC5 : Hid (∀ (j : Nat) (v : Value), (#[.int .i64 op, .int .i64 n, .string s, .slice a len cap, .int .i64 op3, .int .i64 n3, .string s3, .slice a3 len3 cap3] : Array Value)[j]? = some v → w5.cell? ⟨w4.heap.size, j, none⟩ = some v) := fun j v hj => kpc hb5 (unhide HCL j v hj)
  have HNG : Hid (w4.heap.size ≠ w.heap.size + 1 + 1) := by have := unhide HL4; have := unhide HLS; have := unhide HLTK; show _ ≠ _; omega
  clear hX5 hb5 c0 c1 c2 c3 i0 i1 i2 i3 k0 k1 k2 k3 j0 j1 j2 j3
  go_wp2_with fail
  have hBF := set4_below (g := w.heap.size + 1 + 1) (x0 := .int .i64 5) (x1 := .int .i64 0) (x2 := .string ByteArray.empty) (x3 := .slice (some ⟨w4.heap.size, 0, none⟩) 2 2) (unhide HB5) (by omega)
  exact bodyPost_ret (v := .tuple #[.agg #[.int .i64 5, .int .i64 0, .string ByteArray.empty, .slice (some ⟨w4.heap.size, 0, none⟩) 2 2], .nilIface]) (by simp [results, Tryz.results100, go_sem, d0, d1, d2, d3]; try rfl) rfl ⟨_, rfl, lies_row2 ((unhide HLT).below hBF) ((unhide HLK).below hBF) (fun j v hj => (World.cell?_of_block (set4_heap w5 _ _ _ _ _ w4.heap.size (unhide HNG))).trans (unhide HC5 j v hj)) 5 (by decide), hBF⟩

set_option maxRecDepth 100000 in
set_option maxHeartbeats 2000000 in
theorem share_yes_b (t k : Tm) (op n : Int) (s : ByteArray) (a : Option Addr) (len cap : Nat) (n2 : Int) (s2 : ByteArray) (b q cap2 : Nat) (op3 n3 : Int) (s3 : ByteArray) (a3 : Option Addr) (len3 cap3 : Nat) (x : Addr) (w : World) (he : ErrAt x w) (hl : Lies w 0 t (tmCells op n s a len cap)) (hk : Lies w 0 k (tmCells op3 n3 s3 a3 len3 cap3)) (hsz : t.size + k.size ≤ 2097140) (r0 : w.cell? ⟨b, q, none⟩ = some (.int .i64 op3)) (r1 : w.cell? ⟨b, q + 1, none⟩ = some (.int .i64 n3)) (r2 : w.cell? ⟨b, q + 2, none⟩ = some (.string s3)) (r3 : w.cell? ⟨b, q + 3, none⟩ = some (.slice a3 len3 cap3)) (hok : okT t = true) (hbf : beforeB k t = true) (hsh : okT (Tm.node 5 0 ByteArray.empty [k, t]) = true) :
    Calls Tryz.prog 100 #[.agg #[.int .i64 op, .int .i64 n, .string s, .slice a len cap], .agg #[.int .i64 4, .int .i64 n2, .string s2, .slice (some ⟨b, q, none⟩) 1 cap2]] w fun e w' => ∃ a', e = .returned (.tuple #[.agg #[.int .i64 5, .int .i64 0, .string ByteArray.empty, .slice a' 2 2], .nilIface]) ∧ Lies w' 0 (Tm.node 5 0 ByteArray.empty [k, t]) (tmCells 5 0 ByteArray.empty a' 2 2) ∧ Below w.heap.size w w' := by
  have hB0 : Below w.heap.size w (((w.alloc (.cells #[.int .i64 op, .int .i64 n, .string s, .slice a len cap] 29)).alloc (.cells #[.int .i64 4, .int .i64 n2, .string s2, .slice (some ⟨b, q, none⟩) 1 cap2] 29)).alloc (.cells #[.int .i64 0, .int .i64 0, .string ByteArray.empty, .slice none 0 0] 29)) := bt (bt (ab _) (ab _) (Nat.le_refl _)) (ab _) (Nat.le_refl _)
  have HX : Hid (ZBox (((w.alloc (.cells #[.int .i64 op, .int .i64 n, .string s, .slice a len cap] 29)).alloc (.cells #[.int .i64 4, .int .i64 n2, .string s2, .slice (some ⟨b, q, none⟩) 1 cap2] 29)).alloc (.cells #[.int .i64 0, .int .i64 0, .string ByteArray.empty, .slice none 0 0] 29)) (w.heap.size + 1 + 1)) := by
    have := ZBox.new ((w.alloc (.cells #[.int .i64 op, .int .i64 n, .string s, .slice a len cap] 29)).alloc (.cells #[.int .i64 4, .int .i64 n2, .string s2, .slice (some ⟨b, q, none⟩) 1 cap2] 29))
    rwa [heap_size_alloc, heap_size_alloc] at this
  have HRA : Hid (RowT 29 (((w.alloc (.cells #[.int .i64 op, .int .i64 n, .string s, .slice a len cap] 29)).alloc (.cells #[.int .i64 4, .int .i64 n2, .string s2, .slice (some ⟨b, q, none⟩) 1 cap2] 29)).alloc (.cells #[.int .i64 0, .int .i64 0, .string ByteArray.empty, .slice none 0 0] 29)) w.heap.size op n s a len cap) := ((RowT.new 29 w op n s a len cap).below (ab _)).below (ab _)
  have HRB : Hid (RowT 29 (((w.alloc (.cells #[.int .i64 op, .int .i64 n, .string s, .slice a len cap] 29)).alloc (.cells #[.int .i64 4, .int .i64 n2, .string s2, .slice (some ⟨b, q, none⟩) 1 cap2] 29)).alloc (.cells #[.int .i64 0, .int .i64 0, .string ByteArray.empty, .slice none 0 0] 29)) (w.heap.size + 1) 4 n2 s2 (some ⟨b, q, none⟩) 1 cap2) := by
    have := (RowT.new 29 (w.alloc (.cells #[.int .i64 op, .int .i64 n, .string s, .slice a len cap] 29)) 4 n2 s2 (some ⟨b, q, none⟩) 1 cap2).below (ab (.cells #[.int .i64 0, .int .i64 0, .string ByteArray.empty, .slice none 0 0] 29))
    rwa [heap_size_alloc] at this
  have HB0 := hide hB0
  have h61 := hide (fun V (hV : Below w.heap.size w V) => kid_yes n2 s2 b q cap2 op3 n3 s3 a3 len3 cap3 V (kpc hV r0) (kpc hV r1) (kpc hV r2) (kpc hV r3))
  have HLT := hide hl
  have HLK := hide hk
  have HER := hide he
  obtain ⟨c0, c1, c2, c3⟩ := (unhide HRB).facts
  have h46 := hide (fun V (hV : Below w.heap.size w V) => checked_yes t op n s a len cap V (hl.below hV) (by omega) hok)
  have h62 := hide (fun V (hV : Below w.heap.size w V) => before17 k t op3 n3 s3 a3 len3 cap3 op n s a len cap V (hk.below hV) (hl.below hV) (by omega))
  rw [hbf] at h62
  have HZ5 : Hid ((Tm.node 5 0 ByteArray.empty [k, t]).size ≤ 2097152) := by show _ ≤ _; simp only [Tm.size, Tm.sizes]; omega
  have h46' := hide (fun a5 V h => checked_yes (Tm.node 5 0 ByteArray.empty [k, t]) 5 0 ByteArray.empty a5 2 2 V h (unhide HZ5) hsh)
  clear hB0 he hl hk hsz hok hbf hsh r0 r1 r2 r3
  go_enter Tryz.func100, Tryz.ntmps100
  go_wp2_with fail
  refine (unhide h61 _ (unhide HB0)).mono ?_
  rintro e w2 ⟨rfl, hb2⟩
  have hb3 := bt hb2 (ab (.cells #[.int .i64 op3, .int .i64 n3, .string s3, .slice a3 len3 cap3] 29)) (Nat.le_refl _)
  have HB2 := hide (bt (unhide HB0) hb3 (Nat.le_refl _))
  have HX2 := hide ((unhide HX).below hb3)
  have HRA2 := hide ((unhide HRA).below hb3)
  have HK2 := hide (RowT.new 29 w2 op3 n3 s3 a3 len3 cap3)
  have HLTK : Hid (w.heap.size + 1 + 1 < w2.heap.size) := lt_of_heap ((unhide HX).below hb2)
  have HGK : Hid (w2.heap.size < (w2.alloc (.cells #[.int .i64 op3, .int .i64 n3, .string s3, .slice a3 len3 cap3] 29)).heap.size) := by show _ < _; simp
  clear hb2 hb3 c0 c1 c2 c3 HB0 HX HRA HRB
  obtain ⟨c0, c1, c2, c3⟩ := (unhide HRA2).facts
  go_wp2_with fail
  generalize hgw : w2.alloc (.cells #[.int .i64 op3, .int .i64 n3, .string s3, .slice a3 len3 cap3] 29) = W2 at *
  clear hgw
  generalize w2.heap.size = bK at *
  refine (unhide h46 _ (unhide HB2)).mono ?_
  rintro e w3 ⟨rfl, hb3⟩
  have hb4 := bt hb3 (ab (.cells #[.int .i64 op, .int .i64 n, .string s, .slice a len cap] 29)) (Nat.le_refl _)
  have HB3 := hide (bt (unhide HB2) hb4 (Nat.le_refl _))
  have HX3 := hide ((unhide HX2).below hb4)
  have HK3 := hide ((unhide HK2).below hb4)
  have HS3 := hide (RowT.new 29 w3 op n s a len cap)
  have HGS : Hid (w3.heap.size < (w3.alloc (.cells #[.int .i64 op, .int .i64 n, .string s, .slice a len cap] 29)).heap.size) := by show _ < _; simp
  have HLS : Hid (bK < w3.heap.size) := by have := unhide HGK; have := hb3.size; show _ < _; omega
  clear hb3 hb4 c0 c1 c2 c3 HB2 HX2 HRA2 HK2
  obtain ⟨c0, c1, c2, c3⟩ := (unhide HK3).facts
  obtain ⟨i0, i1, i2, i3⟩ := (unhide HS3).facts
  go_wp2_with fail
  generalize hgw : w3.alloc (.cells #[.int .i64 op, .int .i64 n, .string s, .slice a len cap] 29) = W3 at *
  clear hgw
  generalize w3.heap.size = bS at *
  refine (unhide h62 _ (unhide HB3)).mono ?_
  rintro e w4 ⟨rfl, hb4⟩
  have HB4 := hide (bt (unhide HB3) hb4 (Nat.le_refl _))
  have HX4 := hide ((unhide HX3).below hb4)
  have HK4 := hide ((unhide HK3).below hb4)
  have HS4 := hide ((unhide HS3).below hb4)
  have HL4 : Hid (bS < w4.heap.size) := by have := unhide HGS; have := hb4.size; show _ < _; omega
  clear hb4 c0 c1 c2 c3 i0 i1 i2 i3 HB3 HX3 HK3 HS3
  obtain ⟨c0, c1, c2, c3⟩ := (unhide HK4).facts
  obtain ⟨i0, i1, i2, i3⟩ := (unhide HS4).facts
  obtain ⟨k0, k1, k2, k3⟩ := (unhide HK4).thaw
  obtain ⟨j0, j1, j2, j3⟩ := (unhide HS4).thaw
  have m1 : bK ≠ bS := by have := unhide HLS; omega
  have m1' := Ne.symm m1
  have HGB : Hid (w.heap.size ≤ bK ∧ w.heap.size ≤ bS) := by have := unhide HLS; have := unhide HLTK; show _ ∧ _; omega
  have HNB : Hid (w.heap.size + 1 + 1 ≠ bK ∧ w.heap.size + 1 + 1 ≠ bS) := by have := unhide HLS; have := unhide HLTK; show _ ∧ _; omega
  go_wp2_with fail
  have hXs : ((((((((w4.setCell ⟨bS, 0, none⟩ (.int .i64 op3)).setCell ⟨bS, 1, none⟩ (.int .i64 n3)).setCell ⟨bS, 2, none⟩ (.string s3)).setCell ⟨bS, 3, none⟩ (.slice a3 len3 cap3)).setCell ⟨bK, 0, none⟩ (.int .i64 op)).setCell ⟨bK, 1, none⟩ (.int .i64 n)).setCell ⟨bK, 2, none⟩ (.string s)).setCell ⟨bK, 3, none⟩ (.slice a len cap)).heap.size = w4.heap.size := by simp only [nblk_setCell]
  have HXB : Hid (Below w.heap.size w ((((((((w4.setCell ⟨bS, 0, none⟩ (.int .i64 op3)).setCell ⟨bS, 1, none⟩ (.int .i64 n3)).setCell ⟨bS, 2, none⟩ (.string s3)).setCell ⟨bS, 3, none⟩ (.slice a3 len3 cap3)).setCell ⟨bK, 0, none⟩ (.int .i64 op)).setCell ⟨bK, 1, none⟩ (.int .i64 n)).setCell ⟨bK, 2, none⟩ (.string s)).setCell ⟨bK, 3, none⟩ (.slice a len cap))) := set4_below (set4_below (unhide HB4) (unhide HGB).2) (unhide HGB).1
  have HXZ : Hid (ZBox ((((((((w4.setCell ⟨bS, 0, none⟩ (.int .i64 op3)).setCell ⟨bS, 1, none⟩ (.int .i64 n3)).setCell ⟨bS, 2, none⟩ (.string s3)).setCell ⟨bS, 3, none⟩ (.slice a3 len3 cap3)).setCell ⟨bK, 0, none⟩ (.int .i64 op)).setCell ⟨bK, 1, none⟩ (.int .i64 n)).setCell ⟨bK, 2, none⟩ (.string s)).setCell ⟨bK, 3, none⟩ (.slice a len cap)) (w.heap.size + 1 + 1)) := ZBox.set4 (ZBox.set4 (unhide HX4) (unhide HNB).2) (unhide HNB).1
  have HCL : Hid (∀ (j : Nat) (v : Value), (#[.int .i64 op3, .int .i64 n3, .string s3, .slice a3 len3 cap3, .int .i64 op, .int .i64 n, .string s, .slice a len cap] : Array Value)[j]? = some v → (((((((((w4.setCell ⟨bS, 0, none⟩ (.int .i64 op3)).setCell ⟨bS, 1, none⟩ (.int .i64 n3)).setCell ⟨bS, 2, none⟩ (.string s3)).setCell ⟨bS, 3, none⟩ (.slice a3 len3 cap3)).setCell ⟨bK, 0, none⟩ (.int .i64 op)).setCell ⟨bK, 1, none⟩ (.int .i64 n)).setCell ⟨bK, 2, none⟩ (.string s)).setCell ⟨bK, 3, none⟩ (.slice a len cap)).alloc (.cells #[.int .i64 op3, .int .i64 n3, .string s3, .slice a3 len3 cap3, .int .i64 op, .int .i64 n, .string s, .slice a len cap] 29)).cell? ⟨w4.heap.size, j, none⟩ = some v) := fun j v hj => by
    rw [← hXs]
    exact row_cells ((((((((w4.setCell ⟨bS, 0, none⟩ (.int .i64 op3)).setCell ⟨bS, 1, none⟩ (.int .i64 n3)).setCell ⟨bS, 2, none⟩ (.string s3)).setCell ⟨bS, 3, none⟩ (.slice a3 len3 cap3)).setCell ⟨bK, 0, none⟩ (.int .i64 op)).setCell ⟨bK, 1, none⟩ (.int .i64 n)).setCell ⟨bK, 2, none⟩ (.string s)).setCell ⟨bK, 3, none⟩ (.slice a len cap)) op3 n3 s3 a3 len3 cap3 op n s a len cap j v hj
  generalize ((((((((w4.setCell ⟨bS, 0, none⟩ (.int .i64 op3)).setCell ⟨bS, 1, none⟩ (.int .i64 n3)).setCell ⟨bS, 2, none⟩ (.string s3)).setCell ⟨bS, 3, none⟩ (.slice a3 len3 cap3)).setCell ⟨bK, 0, none⟩ (.int .i64 op)).setCell ⟨bK, 1, none⟩ (.int .i64 n)).setCell ⟨bK, 2, none⟩ (.string s)).setCell ⟨bK, 3, none⟩ (.slice a len cap)) = X at *
  refine (unhide h46' _ _ ?_).mono ?_
  · refine lies_row2 ((unhide HLK).below ?_) ((unhide HLT).below ?_) (fun j v hj => unhide HCL j v hj) 5 (by decide)
    · exact bt (unhide HXB) (ab _) (Nat.le_refl _)
    · exact bt (unhide HXB) (ab _) (Nat.le_refl _)

  rintro e w5 ⟨rfl, hb5⟩
  have HB5 := hide (bt (bt (unhide HXB) (ab _) (Nat.le_refl _)) hb5 (Nat.le_refl _))
  have hX5 := ((unhide HXZ).below (ab _)).below hb5
  obtain ⟨d0, d1, d2, d3, e0, e1, e2, e3⟩ := hX5.facts
  have HC5 : Hid (∀ (j : Nat) (v : Value), (#[.int .i64 op3, .int .i64 n3, .string s3, .slice a3 len3 cap3, .int .i64 op, .int .i64 n, .string s, .slice a len cap] : Array Value)[j]? = some v → w5.cell? ⟨w4.heap.size, j, none⟩ = some v) := fun j v hj => kpc hb5 (unhide HCL j v hj)
  have HNG : Hid (w4.heap.size ≠ w.heap.size + 1 + 1) := by have := unhide HL4; have := unhide HLS; have := unhide HLTK; show _ ≠ _; omega
  clear hX5 hb5 c0 c1 c2 c3 i0 i1 i2 i3 k0 k1 k2 k3 j0 j1 j2 j3
  go_wp2_with fail
  have hBF := set4_below (g := w.heap.size + 1 + 1) (x0 := .int .i64 5) (x1 := .int .i64 0) (x2 := .string ByteArray.empty) (x3 := .slice (some ⟨w4.heap.size, 0, none⟩) 2 2) (unhide HB5) (by omega)
  exact bodyPost_ret (v := .tuple #[.agg #[.int .i64 5, .int .i64 0, .string ByteArray.empty, .slice (some ⟨w4.heap.size, 0, none⟩) 2 2], .nilIface]) (by simp [results, Tryz.results100, go_sem, d0, d1, d2, d3]; try rfl) rfl ⟨_, rfl, lies_row2 ((unhide HLK).below hBF) ((unhide HLT).below hBF) (fun j v hj => (World.cell?_of_block (set4_heap w5 _ _ _ _ _ w4.heap.size (unhide HNG))).trans (unhide HC5 j v hj)) 5 (by decide), hBF⟩

/-- Whether there is a share of a secret and an open half, and which. -/
def shrB (t : Tm) : Tm → Bool
  | .node op _ _ ks => match ks with
    | [k] => decide (op = 4) && okT (shareT t k)
    | _ => false
def shrT (t : Tm) : Tm → Tm
  | .node _ _ _ ks => match ks with
    | [k] => shareT t k
    | _ => .node 0 0 ByteArray.empty []

theorem share_okt {t k : Tm} (h : okT (shareT t k) = true) : okT t = true := by
  unfold shareT at h
  split at h
  · exact okT_kid h (by simp)
  · exact okT_kid h (by simp)

theorem lies_kid1 {w : World} {op n : Int} {s : ByteArray} {k : Tm} {op2 n2 : Int} {s2 : ByteArray} {a2 : Option Addr} {len2 cap2 : Nat} (hl : Lies w 0 (.node op n s [k]) (tmCells op2 n2 s2 a2 len2 cap2)) :
    op2 = op ∧ n2 = n ∧ s2 = s ∧ len2 = 1 ∧ ∃ b q op3 n3 s3 a3 len3 cap3, a2 = some ⟨b, q, none⟩ ∧
      (w.cell? ⟨b, q, none⟩ = some (.int .i64 op3) ∧ w.cell? ⟨b, q + 1, none⟩ = some (.int .i64 n3) ∧ w.cell? ⟨b, q + 2, none⟩ = some (.string s3) ∧ w.cell? ⟨b, q + 3, none⟩ = some (.slice a3 len3 cap3) ∧ Lies w 0 k (tmCells op3 n3 s3 a3 len3 cap3)) := by
  have hx := hl
  simp only [Lies, tmCells, List.cons.injEq, Value.int.injEq, Value.string.injEq, Value.slice.injEq, true_and, and_true] at hx
  obtain ⟨a9, c9, ⟨rfl, rfl, rfl, rfl, rfl, rfl⟩, _, _, hka⟩ := hx
  obtain ⟨b, q, op3, n3, s3, a3, len3, cap3, rfl, _, _, r0, r1, r2, r3, hk0⟩ := hka.elem (k := 0) (by simp)
  simp only [Nat.zero_mul, Nat.add_zero] at r0 r1 r2 r3
  exact ⟨rfl, rfl, rfl, by simp, b, q, op3, n3, s3, a3, len3, cap3, rfl, r0, r1, r2, r3, hk0⟩

theorem shareI_no (t u : Tm) (op n : Int) (s : ByteArray) (a : Option Addr) (len cap : Nat) (op2 n2 : Int) (s2 : ByteArray) (a2 : Option Addr) (len2 cap2 : Nat) (x : Addr) (w : World) (he : ErrAt x w) (hl : Lies w 0 t (tmCells op n s a len cap)) (hl2 : Lies w 0 u (tmCells op2 n2 s2 a2 len2 cap2)) (hsz : t.size + u.size ≤ 2097140) (h : shrB t u = false) :
    Calls Tryz.prog 100 #[.agg #[.int .i64 op, .int .i64 n, .string s, .slice a len cap], .agg #[.int .i64 op2, .int .i64 n2, .string s2, .slice a2 len2 cap2]] w fun e w' => e = .returned (.tuple #[.agg #[.int .i64 0, .int .i64 0, .string ByteArray.empty, .slice none 0 0], .iface 202 (.pointer (some x))]) ∧ Below w.heap.size w w' := by
  obtain ⟨o, m, z, ks⟩ := u
  match ks, hl2, hsz, h with
  | [k], hl2, hsz, h =>
    obtain ⟨rfl, rfl, rfl, rfl, b, q, op3, n3, s3, a3, len3, cap3, rfl, r0, r1, r2, r3, hk⟩ := lies_kid1 hl2
    by_cases h4 : op2 = 4
    · subst h4
      simp only [shrB, decide_true, Bool.true_and] at h
      simp only [Tm.size, Tm.sizes] at hsz
      cases hok : okT t with
      | false => exact share_no2 t k op n s a len cap n2 s2 b q cap2 op3 n3 s3 a3 len3 cap3 x w he hl hk (by omega) r0 r1 r2 r3 hok
      | true =>
        cases hb : beforeB k t with
        | false =>
          simp only [shareT, hb, Bool.false_eq_true, if_false] at h
          exact share_no3_a t k op n s a len cap n2 s2 b q cap2 op3 n3 s3 a3 len3 cap3 x w he hl hk (by omega) r0 r1 r2 r3 hok hb h
        | true =>
          simp only [shareT, hb, if_true] at h
          exact share_no3_b t k op n s a len cap n2 s2 b q cap2 op3 n3 s3 a3 len3 cap3 x w he hl hk (by omega) r0 r1 r2 r3 hok hb h
    · exact share_no1 op n s a len cap op2 n2 s2 (some ⟨b, q, none⟩) 1 cap2 x w he (Or.inl h4)
  | [], hl2, _, _ =>
    refine share_no1 op n s a len cap op2 n2 s2 a2 len2 cap2 x w he (Or.inr ?_)
    simp only [Lies, tmCells, List.cons.injEq, Value.slice.injEq] at hl2
    obtain ⟨_, _, ⟨_, _, _, ⟨_, hl, _⟩, _⟩, _⟩ := hl2
    simp only [List.length_nil] at hl
    omega
  | _ :: _ :: _, hl2, _, _ =>
    refine share_no1 op n s a len cap op2 n2 s2 a2 len2 cap2 x w he (Or.inr ?_)
    simp only [Lies, tmCells, List.cons.injEq, Value.slice.injEq] at hl2
    obtain ⟨_, _, ⟨_, _, _, ⟨_, hl, _⟩, _⟩, _⟩ := hl2
    simp only [List.length_cons] at hl
    omega

theorem shareI_yes (t u : Tm) (op n : Int) (s : ByteArray) (a : Option Addr) (len cap : Nat) (op2 n2 : Int) (s2 : ByteArray) (a2 : Option Addr) (len2 cap2 : Nat) (x : Addr) (w : World) (he : ErrAt x w) (hl : Lies w 0 t (tmCells op n s a len cap)) (hl2 : Lies w 0 u (tmCells op2 n2 s2 a2 len2 cap2)) (hsz : t.size + u.size ≤ 2097140) (h : shrB t u = true) :
    Calls Tryz.prog 100 #[.agg #[.int .i64 op, .int .i64 n, .string s, .slice a len cap], .agg #[.int .i64 op2, .int .i64 n2, .string s2, .slice a2 len2 cap2]] w fun e w' => ∃ a', e = .returned (.tuple #[.agg #[.int .i64 5, .int .i64 0, .string ByteArray.empty, .slice a' 2 2], .nilIface]) ∧ Lies w' 0 (shrT t u) (tmCells 5 0 ByteArray.empty a' 2 2) ∧ Below w.heap.size w w' := by
  obtain ⟨o, m, z, ks⟩ := u
  match ks, hl2, hsz, h with
  | [k], hl2, hsz, h9 =>
    obtain ⟨rfl, rfl, rfl, rfl, b, q, op3, n3, s3, a3, len3, cap3, rfl, r0, r1, r2, r3, hk⟩ := lies_kid1 hl2
    simp only [shrB, Bool.and_eq_true, decide_eq_true_eq] at h9
    obtain ⟨rfl, h8⟩ := h9
    have hok := share_okt h8
    simp only [Tm.size, Tm.sizes] at hsz
    cases hb : beforeB k t with
    | false =>
      simp only [shrT, shareT, hb, Bool.false_eq_true, if_false] at h8 ⊢
      exact share_yes_a t k op n s a len cap n2 s2 b q cap2 op3 n3 s3 a3 len3 cap3 x w he hl hk (by omega) r0 r1 r2 r3 hok hb h8
    | true =>
      simp only [shrT, shareT, hb, if_true] at h8 ⊢
      exact share_yes_b t k op n s a len cap n2 s2 b q cap2 op3 n3 s3 a3 len3 cap3 x w he hl hk (by omega) r0 r1 r2 r3 hok hb h8
  | [], _, _, h9 => simp [shrB] at h9
  | _ :: _ :: _, _, _, h9 => simp [shrB] at h9

theorem agree_sh {t u : Tm} (h : agreeB t u = true) : shrB t u = true ∧ agreeT t u = shrT t u := by
  obtain ⟨o, m, z, ks⟩ := u
  match ks, h with
  | [k], h =>
    have h' := h
    simp only [agreeB, Bool.and_eq_true, decide_eq_true_eq] at h'
    refine ⟨by simp [shrB, h'.1.1, h'.2], ?_⟩
    show pickT (agreeB t (.node o m z [k])) (shareT t k) = shareT t k
    rw [h]
    rfl
  | [], h => simp [agreeB] at h
  | _ :: _ :: _, h => simp [agreeB] at h
theorem sh_agree {t u : Tm} (h : shrB t u = true) (ha : agreeB t u = false) : okT u = false := by
  obtain ⟨o, m, z, ks⟩ := u
  match ks, h, ha with
  | [k], h, ha =>
    simp only [shrB, Bool.and_eq_true, decide_eq_true_eq] at h
    cases hk : okT (.node o m z [k]) with
    | false => rfl
    | true =>
      simp only [agreeB] at ha
      rw [hk, h.2] at ha
      simp [h.1] at ha
  | [], h, _ => simp [shrB] at h
  | _ :: _ :: _, h, _ => simp [shrB] at h
theorem reply_bad {t u ky ce sh : Tm} (h : okT u = false) : okT (replyR t u ky ce sh) = false := by
  have z1 : madeT 3 [u, madeT 4 [t]] = .node 0 0 ByteArray.empty [] := by
    generalize madeT 4 [t] = p
    cases hk : okT (.node 3 0 ByteArray.empty [u, p]) with
    | false => simp [madeT, hk, pickT]
    | true => rw [okT_kid hk (x := u) (by simp)] at h; cases h
  have z2 : bothT u (madeT 4 [t]) = .node 0 0 ByteArray.empty [] := by
    unfold bothT
    rw [z1]
    simp only [madeT, zeroT_bad, pickT, Bool.false_eq_true, if_false]
  have z3 : madeT 8 [ky, bothT u (madeT 4 [t])] = .node 0 0 ByteArray.empty [] := by
    rw [z2]
    simp only [madeT, zeroT_last, pickT, Bool.false_eq_true, if_false]
  have z4 : sealT (keyT sh 0) 0 (twoT ce (madeT 8 [ky, bothT u (madeT 4 [t])])) = .node 0 0 ByteArray.empty [] := by
    rw [z3]
    have e1 : madeT 3 [numT 0, twoT ce (.node 0 0 ByteArray.empty [])] = .node 0 0 ByteArray.empty [] := by
      cases hk : okT (.node 3 0 ByteArray.empty [numT 0, twoT ce (.node 0 0 ByteArray.empty [])]) with
      | false => simp [madeT, hk, pickT]
      | true =>
        have := okT_kid hk (x := twoT ce (.node 0 0 ByteArray.empty [])) (by simp)
        unfold twoT at this
        rw [zeroT_last] at this
        cases this
    unfold sealT
    rw [e1]
    simp only [madeT, zeroT_last, pickT, Bool.false_eq_true, if_false]
  unfold replyR
  rw [z4]
  cases hk : okT (twoT (textT replyW) (twoT (madeT 4 [t]) (.node 0 0 ByteArray.empty []))) with
  | false => rfl
  | true =>
    have := okT_kid hk (x := twoT (madeT 4 [t]) (.node 0 0 ByteArray.empty [])) (by simp [twoT])
    unfold twoT at this
    rw [zeroT_last] at this
    cases this

/-- What a row of terms leaves: the row lies in every world in which Q holds and what is new is as it was. -/
def RowOkQ (Q : World → Prop) (w w' : World) (T : Tm) (a : Option Addr) : Prop := ∀ W : World, Q W → (∀ b, w.heap.size ≤ b → b < w'.heap.size → W.heap[b]? = w'.heap[b]?) → Lies W 0 T (tmCells 3 0 ByteArray.empty a 2 2)

theorem row_finQ {Q : World → Prop} {w w2 : World} {g : Nat} {t u : Tm} {op n : Int} {s : ByteArray} {a : Option Addr} {len cap : Nat} {op2 n2 : Int} {s2 : ByteArray} {a2 : Option Addr} {len2 cap2 : Nat} {x0 x1 x2 x3 : Value} (hb : Below w.heap.size w w2) (hg : w.heap.size ≤ g) (hl : ∀ W : World, Q W → Lies W 0 t (tmCells op n s a len cap))
    (hu : ∀ W : World, Q W → (∀ b, g < b → b < w2.heap.size → W.heap[b]? = w2.heap[b]?) → Lies W 0 u (tmCells op2 n2 s2 a2 len2 cap2)) :
    RowOkQ Q w (((((w2.setCell ⟨g, 0, none⟩ x0).setCell ⟨g, 1, none⟩ x1).setCell ⟨g, 2, none⟩ x2).setCell ⟨g, 3, none⟩ x3).alloc (.cells #[.int .i64 op, .int .i64 n, .string s, .slice a len cap, .int .i64 op2, .int .i64 n2, .string s2, .slice a2 len2 cap2] 29)) (twoT t u) (some ⟨w2.heap.size, 0, none⟩) ∧
      Below w.heap.size w (((((w2.setCell ⟨g, 0, none⟩ x0).setCell ⟨g, 1, none⟩ x1).setCell ⟨g, 2, none⟩ x2).setCell ⟨g, 3, none⟩ x3).alloc (.cells #[.int .i64 op, .int .i64 n, .string s, .slice a len cap, .int .i64 op2, .int .i64 n2, .string s2, .slice a2 len2 cap2] 29)) := by
  have hX := set4_heap w2 g x0 x1 x2 x3
  have hbX : Below w.heap.size w ((((w2.setCell ⟨g, 0, none⟩ x0).setCell ⟨g, 1, none⟩ x1).setCell ⟨g, 2, none⟩ x2).setCell ⟨g, 3, none⟩ x3) := set4_below hb hg
  have hs := hb.size
  have hXs : ((((w2.setCell ⟨g, 0, none⟩ x0).setCell ⟨g, 1, none⟩ x1).setCell ⟨g, 2, none⟩ x2).setCell ⟨g, 3, none⟩ x3).heap.size = w2.heap.size := by simp
  generalize ((((w2.setCell ⟨g, 0, none⟩ x0).setCell ⟨g, 1, none⟩ x1).setCell ⟨g, 2, none⟩ x2).setCell ⟨g, 3, none⟩ x3) = X at *
  refine ⟨fun W h0 h1 => ?_, bt hbX (ab _) (Nat.le_refl _)⟩
  refine lies_row2 (hl W h0) (hu W h0 (fun b h2 h3 => ?_)) (fun j v hj => ?_) 3 (by decide)
  · rw [h1 b (by omega) (by simp; omega), (ab _).block b (by omega)]
    exact hX b (by omega)
  · rw [World.cell?_of_block (h1 w2.heap.size hs (by simp; omega)), ← hXs]
    exact row_cells X _ _ _ _ _ _ _ _ _ _ _ _ j v hj

set_option maxRecDepth 100000 in
set_option maxHeartbeats 2000000 in
theorem rowq1 (t u : Tm) (op n : Int) (s : ByteArray) (a : Option Addr) (len cap : Nat) (op2 n2 : Int) (s2 : ByteArray) (a2 : Option Addr) (len2 cap2 : Nat) (b o : Nat) (Q : World → Prop) (w : World) (hl : ∀ W : World, Q W → Lies W 0 t (tmCells op n s a len cap)) (hu : ∀ W : World, Q W → Lies W 0 u (tmCells op2 n2 s2 a2 len2 cap2)) (r0 : w.cell? ⟨b, o, none⟩ = some (.int .i64 op2)) (r1 : w.cell? ⟨b, o + 1, none⟩ = some (.int .i64 n2)) (r2 : w.cell? ⟨b, o + 2, none⟩ = some (.string s2)) (r3 : w.cell? ⟨b, o + 3, none⟩ = some (.slice a2 len2 cap2)) :
    Calls Tryz.prog 91 #[.agg #[.int .i64 op, .int .i64 n, .string s, .slice a len cap], .slice (some ⟨b, o, none⟩) 1 1] w fun e w' => ∃ a', e = .returned (.agg #[.int .i64 3, .int .i64 0, .string ByteArray.empty, .slice a' 2 2]) ∧ RowOkQ Q w w' (twoT t u) a' ∧ Below w.heap.size w w' := by
  have h25 := hide (fun W => row0 op2 n2 s2 a2 len2 cap2 (some ⟨b, o, none⟩) 0 W)
  have HRA : Hid (RowT 29 ((w.alloc (.cells #[.int .i64 op, .int .i64 n, .string s, .slice a len cap] 29)).alloc (.cells #[.int .i64 0, .int .i64 0, .string ByteArray.empty, .slice none 0 0] 29)) w.heap.size op n s a len cap) := (RowT.new 29 w op n s a len cap).below (ab _)
  have hB : Below w.heap.size w ((w.alloc (.cells #[.int .i64 op, .int .i64 n, .string s, .slice a len cap] 29)).alloc (.cells #[.int .i64 0, .int .i64 0, .string ByteArray.empty, .slice none 0 0] 29)) := bt (ab _) (ab _) (Nat.le_refl _)
  have HS0 : Hid (((w.alloc (.cells #[.int .i64 op, .int .i64 n, .string s, .slice a len cap] 29)).alloc (.cells #[.int .i64 0, .int .i64 0, .string ByteArray.empty, .slice none 0 0] 29)).heap.size = w.heap.size + 2) := by show _ = _; simp
  have HX : Hid (ZBox ((w.alloc (.cells #[.int .i64 op, .int .i64 n, .string s, .slice a len cap] 29)).alloc (.cells #[.int .i64 0, .int .i64 0, .string ByteArray.empty, .slice none 0 0] 29)) (w.heap.size + 1)) := by
    have := ZBox.new (w.alloc (.cells #[.int .i64 op, .int .i64 n, .string s, .slice a len cap] 29))
    rwa [heap_size_alloc] at this
  have r0' := kpc hB r0
  have r1' := kpc hB r1
  have r2' := kpc hB r2
  have r3' := kpc hB r3
  have HBW := hide hB
  have hbb : b < w.heap.size := lt_of_cell r0
  have hbn : b ≠ w.heap.size + 1 := by omega
  have hbn' := Ne.symm hbn
  have HL := hide hl
  clear hB hl r0 r1 r2 r3
  go_enter Tryz.func91, Tryz.ntmps91
  go_wp2_with fail
  generalize hgw : ((w.alloc (.cells #[.int .i64 op, .int .i64 n, .string s, .slice a len cap] 29)).alloc (.cells #[.int .i64 0, .int .i64 0, .string ByteArray.empty, .slice none 0 0] 29)) = V at *
  refine gw_world hgw ?_
  clear hgw
  obtain ⟨c0, c1, c2, c3⟩ := (unhide HRA).facts
  go_region_held3 (fun x => x.cell? ⟨w.heap.size, 0, none⟩ = some (.int .i64 op) ∧ x.cell? ⟨w.heap.size, 1, none⟩ = some (.int .i64 n) ∧ x.cell? ⟨w.heap.size, 2, none⟩ = some (.string s) ∧ x.cell? ⟨w.heap.size, 3, none⟩ = some (.slice a len cap) ∧ x.cell? ⟨b, o, none⟩ = some (.int .i64 op2) ∧ x.cell? ⟨b, o + 1, none⟩ = some (.int .i64 n2) ∧ x.cell? ⟨b, o + 2, none⟩ = some (.string s2) ∧ x.cell? ⟨b, o + 3, none⟩ = some (.slice a2 len2 cap2)) (go_keep)
    (first | (go_at_call 91
              refine (unhide h25 _).mono ?_
              rintro e w2 ⟨rfl, hb2⟩
              have hb2' := hide (below_drew' hb2)
              have f0 := kpc (unhide hb2') c0
              have f1 := kpc (unhide hb2') c1
              have f2 := kpc (unhide hb2') c2
              have f3 := kpc (unhide hb2') c3
              have g0 := kpc (unhide hb2') r0'
              have g1 := kpc (unhide hb2') r1'
              have g2 := kpc (unhide hb2') r2'
              have g3 := kpc (unhide hb2') r3'
              have hz2 := (unhide HX).below (unhide hb2')
              have HLT2 := hide (lt_of_heap hz2)
              have HSV := hide (unhide hb2').size
              obtain ⟨d0, d1, d2, d3, e0, e1, e2, e3⟩ := hz2.facts
              have hlt := lt_of_heap hz2
              have hne := Nat.ne_of_lt hlt
              have hne' := Ne.symm hne
              have hlt1 := lt_of_cell f0
              have hne1 := Nat.ne_of_lt hlt1
              have hne1' := Ne.symm hne1
              have hlt2 := lt_of_cell g0
              have hne2 := Nat.ne_of_lt hlt2
              have hne2' := Ne.symm hne2
              have HZ2 := hide hz2
              clear hz2))
  have HF := hide (row_finQ (Q := Q) (g := w.heap.size + 1) (u := u) (x0 := .int .i64 3) (x1 := .int .i64 0) (x2 := .string ⟨#[]⟩) (x3 := .slice (some ⟨w2.heap.size, 0, none⟩) 2 2) (bt (unhide HBW) (unhide hb2') (Nat.le_refl _)) (by omega) (unhide HL) (fun W hW _ => hu W hW))
  clear c0 c1 c2 c3 f0 f1 f2 f3 g0 r0' g1 r1' g2 r2' g3 r3'
  go_wp2_with fail
  have hK := (RowT.fill (ty := 29) (show RowT 29 w2 (w.heap.size + 1) 0 0 ByteArray.empty none 0 0 from unhide HZ2) 3 0 ⟨#[]⟩ (some ⟨w2.heap.size, 0, none⟩) 2 2).below (ab (.cells #[.int .i64 op, .int .i64 n, .string s, .slice a len cap, .int .i64 op2, .int .i64 n2, .string s2, .slice a2 len2 cap2] 29))
  obtain ⟨k0, k1, k2, k3⟩ := hK.facts
  exact bodyPost_ret (v := .agg #[.int .i64 3, .int .i64 0, .string ByteArray.empty, .slice (some ⟨w2.heap.size, 0, none⟩) 2 2]) (by simp [results, Tryz.results91, go_sem, k0, k1, k2, k3]; try rfl) rfl ⟨_, rfl, unhide HF⟩

set_option maxRecDepth 100000 in
set_option maxHeartbeats 2000000 in
theorem rowq2 (t u v : Tm) (op n : Int) (s : ByteArray) (a : Option Addr) (len cap : Nat) (op2 n2 : Int) (s2 : ByteArray) (a2 : Option Addr) (len2 cap2 : Nat) (op3 n3 : Int) (s3 : ByteArray) (a3 : Option Addr) (len3 cap3 : Nat) (b o : Nat) (Q : World → Prop) (w : World) (hl : ∀ W : World, Q W → Lies W 0 t (tmCells op n s a len cap)) (hu : ∀ W : World, Q W → Lies W 0 u (tmCells op2 n2 s2 a2 len2 cap2)) (hv : ∀ W : World, Q W → Lies W 0 v (tmCells op3 n3 s3 a3 len3 cap3)) (r0 : w.cell? ⟨b, o, none⟩ = some (.int .i64 op2)) (r1 : w.cell? ⟨b, o + 1, none⟩ = some (.int .i64 n2)) (r2 : w.cell? ⟨b, o + 2, none⟩ = some (.string s2)) (r3 : w.cell? ⟨b, o + 3, none⟩ = some (.slice a2 len2 cap2)) (r4 : w.cell? ⟨b, o + 4, none⟩ = some (.int .i64 op3)) (r5 : w.cell? ⟨b, o + 5, none⟩ = some (.int .i64 n3)) (r6 : w.cell? ⟨b, o + 6, none⟩ = some (.string s3)) (r7 : w.cell? ⟨b, o + 7, none⟩ = some (.slice a3 len3 cap3)) :
    Calls Tryz.prog 91 #[.agg #[.int .i64 op, .int .i64 n, .string s, .slice a len cap], .slice (some ⟨b, o, none⟩) 2 2] w fun e w' => ∃ a', e = .returned (.agg #[.int .i64 3, .int .i64 0, .string ByteArray.empty, .slice a' 2 2]) ∧ RowOkQ Q w w' (twoT t (twoT u v)) a' ∧ Below w.heap.size w w' := by
  have h25 := hide (fun W r0 r1 r2 r3 => rowq1 u v op2 n2 s2 a2 len2 cap2 op3 n3 s3 a3 len3 cap3 b (o + 4) Q W hu hv r0 r1 r2 r3)
  have HRA : Hid (RowT 29 ((w.alloc (.cells #[.int .i64 op, .int .i64 n, .string s, .slice a len cap] 29)).alloc (.cells #[.int .i64 0, .int .i64 0, .string ByteArray.empty, .slice none 0 0] 29)) w.heap.size op n s a len cap) := (RowT.new 29 w op n s a len cap).below (ab _)
  have hB : Below w.heap.size w ((w.alloc (.cells #[.int .i64 op, .int .i64 n, .string s, .slice a len cap] 29)).alloc (.cells #[.int .i64 0, .int .i64 0, .string ByteArray.empty, .slice none 0 0] 29)) := bt (ab _) (ab _) (Nat.le_refl _)
  have HS0 : Hid (((w.alloc (.cells #[.int .i64 op, .int .i64 n, .string s, .slice a len cap] 29)).alloc (.cells #[.int .i64 0, .int .i64 0, .string ByteArray.empty, .slice none 0 0] 29)).heap.size = w.heap.size + 2) := by show _ = _; simp
  have HX : Hid (ZBox ((w.alloc (.cells #[.int .i64 op, .int .i64 n, .string s, .slice a len cap] 29)).alloc (.cells #[.int .i64 0, .int .i64 0, .string ByteArray.empty, .slice none 0 0] 29)) (w.heap.size + 1)) := by
    have := ZBox.new (w.alloc (.cells #[.int .i64 op, .int .i64 n, .string s, .slice a len cap] 29))
    rwa [heap_size_alloc] at this
  have r0' := kpc hB r0
  have r1' := kpc hB r1
  have r2' := kpc hB r2
  have r3' := kpc hB r3
  have r4' := kpc hB r4
  have r5' := kpc hB r5
  have r6' := kpc hB r6
  have r7' := kpc hB r7
  have HBW := hide hB
  have hbb : b < w.heap.size := lt_of_cell r0
  have hbn : b ≠ w.heap.size + 1 := by omega
  have hbn' := Ne.symm hbn
  have HL := hide hl
  clear hB hl r0 r1 r2 r3 r4 r5 r6 r7
  go_enter Tryz.func91, Tryz.ntmps91
  go_wp2_with fail
  generalize hgw : ((w.alloc (.cells #[.int .i64 op, .int .i64 n, .string s, .slice a len cap] 29)).alloc (.cells #[.int .i64 0, .int .i64 0, .string ByteArray.empty, .slice none 0 0] 29)) = V at *
  refine gw_world hgw ?_
  clear hgw
  obtain ⟨c0, c1, c2, c3⟩ := (unhide HRA).facts
  go_region_held3 (fun x => x.cell? ⟨w.heap.size, 0, none⟩ = some (.int .i64 op) ∧ x.cell? ⟨w.heap.size, 1, none⟩ = some (.int .i64 n) ∧ x.cell? ⟨w.heap.size, 2, none⟩ = some (.string s) ∧ x.cell? ⟨w.heap.size, 3, none⟩ = some (.slice a len cap) ∧ x.cell? ⟨b, o, none⟩ = some (.int .i64 op2) ∧ x.cell? ⟨b, o + 1, none⟩ = some (.int .i64 n2) ∧ x.cell? ⟨b, o + 2, none⟩ = some (.string s2) ∧ x.cell? ⟨b, o + 3, none⟩ = some (.slice a2 len2 cap2) ∧ x.cell? ⟨b, o + 4, none⟩ = some (.int .i64 op3) ∧ x.cell? ⟨b, o + 5, none⟩ = some (.int .i64 n3) ∧ x.cell? ⟨b, o + 6, none⟩ = some (.string s3) ∧ x.cell? ⟨b, o + 7, none⟩ = some (.slice a3 len3 cap3)) (go_keep)
    (first | (go_at_call 91
              refine (unhide h25 _ (kpc (Below.refl _ _).drew r4') (kpc (Below.refl _ _).drew r5') (kpc (Below.refl _ _).drew r6') (kpc (Below.refl _ _).drew r7')).mono ?_
              rintro e w2 ⟨a9, rfl, hR9, hb2⟩
              have HR9 := hide hR9
              have hb2' := hide (below_drew' hb2)
              have f0 := kpc (unhide hb2') c0
              have f1 := kpc (unhide hb2') c1
              have f2 := kpc (unhide hb2') c2
              have f3 := kpc (unhide hb2') c3
              have g0 := kpc (unhide hb2') r0'
              have g1 := kpc (unhide hb2') r1'
              have g2 := kpc (unhide hb2') r2'
              have g3 := kpc (unhide hb2') r3'
              have g4 := kpc (unhide hb2') r4'
              have g5 := kpc (unhide hb2') r5'
              have g6 := kpc (unhide hb2') r6'
              have g7 := kpc (unhide hb2') r7'
              have hz2 := (unhide HX).below (unhide hb2')
              have HLT2 := hide (lt_of_heap hz2)
              have HSV := hide (unhide hb2').size
              obtain ⟨d0, d1, d2, d3, e0, e1, e2, e3⟩ := hz2.facts
              have hlt := lt_of_heap hz2
              have hne := Nat.ne_of_lt hlt
              have hne' := Ne.symm hne
              have hlt1 := lt_of_cell f0
              have hne1 := Nat.ne_of_lt hlt1
              have hne1' := Ne.symm hne1
              have hlt2 := lt_of_cell g0
              have hne2 := Nat.ne_of_lt hlt2
              have hne2' := Ne.symm hne2
              have HZ2 := hide hz2
              clear hz2))
  have HF := hide (row_finQ (Q := Q) (g := w.heap.size + 1) (u := twoT u v) (x0 := .int .i64 3) (x1 := .int .i64 0) (x2 := .string ⟨#[]⟩) (x3 := .slice (some ⟨w2.heap.size, 0, none⟩) 2 2) (bt (unhide HBW) (unhide hb2') (Nat.le_refl _)) (by omega) (unhide HL) (fun W hW h2 => unhide HR9 W hW fun b hb hb' => h2 b (by have := unhide HS0; have hb9 : V.heap.size ≤ b := hb; omega) hb'))
  clear c0 c1 c2 c3 f0 f1 f2 f3 g0 r0' g1 r1' g2 r2' g3 r3' g4 r4' g5 r5' g6 r6' g7 r7'
  go_wp2_with fail
  have hK := (RowT.fill (ty := 29) (show RowT 29 w2 (w.heap.size + 1) 0 0 ByteArray.empty none 0 0 from unhide HZ2) 3 0 ⟨#[]⟩ (some ⟨w2.heap.size, 0, none⟩) 2 2).below (ab (.cells #[.int .i64 op, .int .i64 n, .string s, .slice a len cap, .int .i64 3, .int .i64 0, .string ByteArray.empty, .slice a9 2 2] 29))
  obtain ⟨k0, k1, k2, k3⟩ := hK.facts
  exact bodyPost_ret (v := .agg #[.int .i64 3, .int .i64 0, .string ByteArray.empty, .slice (some ⟨w2.heap.size, 0, none⟩) 2 2]) (by simp [results, Tryz.results91, go_sem, k0, k1, k2, k3]; try rfl) rfl ⟨_, rfl, unhide HF⟩

/-- What an order of the makings leaves: the box of the row. -/
def RrCut (X : Tm) (w2 : World) (p : Value) (wx : World) : Prop := ∃ bW a9, p = .pointer (some ⟨bW, 0, none⟩) ∧ RowT 29 wx bW 3 0 ByteArray.empty a9 2 2 ∧ Lies wx 0 X (tmCells 3 0 ByteArray.empty a9 2 2) ∧ w2.heap.size ≤ bW ∧ Below w2.heap.size w2 wx
theorem RrCut.late {X : Tm} {Q : World → Prop} {w2 V y : World} {a9 : Option Addr} (hb : Below w2.heap.size w2 y) (hR : RowOkQ Q V y X a9) (hQ : ∀ W, Below y.heap.size y W → Q W) : RrCut X w2 (.pointer (some ⟨y.heap.size, 0, none⟩)) (y.alloc (.cells #[.int .i64 3, .int .i64 0, .string ByteArray.empty, .slice a9 2 2] 29)) :=
  ⟨_, _, rfl, RowT.new 29 y 3 0 ByteArray.empty a9 2 2, hR _ (hQ _ (ab _)) (fun b _ hb' => (ab _).block b hb'), hb.size, bt hb (ab _) (Nat.le_refl _)⟩
theorem RrCut.early {X : Tm} {Q : World → Prop} {w2 V y : World} {g : Nat} {a9 : Option Addr} (hb : Below w2.heap.size w2 y) (hz : ZBox y g) (hg : w2.heap.size ≤ g) (hR : RowOkQ Q V y X a9) (hV : g < V.heap.size)
    (hQ : Q ((((y.setCell ⟨g, 0, none⟩ (.int .i64 3)).setCell ⟨g, 1, none⟩ (.int .i64 0)).setCell ⟨g, 2, none⟩ (.string ByteArray.empty)).setCell ⟨g, 3, none⟩ (.slice a9 2 2))) :
    RrCut X w2 (.pointer (some ⟨g, 0, none⟩)) ((((y.setCell ⟨g, 0, none⟩ (.int .i64 3)).setCell ⟨g, 1, none⟩ (.int .i64 0)).setCell ⟨g, 2, none⟩ (.string ByteArray.empty)).setCell ⟨g, 3, none⟩ (.slice a9 2 2)) :=
  ⟨_, _, rfl, fill26 hz 3 0 ByteArray.empty a9 2 2, hR _ hQ (fun b h1 _ => set4_heap _ _ _ _ _ _ b (by omega)), hg, set4_below hb hg⟩

set_option maxRecDepth 100000 in
set_option maxHeartbeats 2000000 in
theorem replyTo_no1 (t u ky ce : Tm) (op n : Int) (s : ByteArray) (a : Option Addr) (len cap : Nat) (op2 n2 : Int) (s2 : ByteArray) (a2 : Option Addr) (len2 cap2 : Nat) (op5 n5 : Int) (s5 : ByteArray) (a5 : Option Addr) (len5 cap5 : Nat) (op6 n6 : Int) (s6 : ByteArray) (a6 : Option Addr) (len6 cap6 : Nat) (x : Addr) (w : World) (he : ErrAt x w) (hl : Lies w 0 t (tmCells op n s a len cap)) (hl2 : Lies w 0 u (tmCells op2 n2 s2 a2 len2 cap2)) (hl5 : Lies w 0 ky (tmCells op5 n5 s5 a5 len5 cap5)) (hl6 : Lies w 0 ce (tmCells op6 n6 s6 a6 len6 cap6)) (hsz : t.size + u.size + ky.size + ce.size ≤ 1100000) (hag : shrB t u = false) :
    Calls Tryz.prog 72 #[.agg #[.int .i64 op, .int .i64 n, .string s, .slice a len cap], .agg #[.int .i64 op2, .int .i64 n2, .string s2, .slice a2 len2 cap2], .agg #[.int .i64 op5, .int .i64 n5, .string s5, .slice a5 len5 cap5], .agg #[.int .i64 op6, .int .i64 n6, .string s6, .slice a6 len6 cap6]] w fun e w' => e = .returned (.tuple #[.agg #[.int .i64 0, .int .i64 0, .string ByteArray.empty, .slice none 0 0], .iface 202 (.pointer (some x))]) ∧ Below w.heap.size w w' := by
  have h41 := hide (fun V (hV : Below w.heap.size w V) => shareI_no t u op n s a len cap op2 n2 s2 a2 len2 cap2 x V (he.on hV) (hl.below hV) (hl2.below hV) (by omega) hag)
  have hB0 : Below w.heap.size w (((((w.alloc (.cells #[.int .i64 op, .int .i64 n, .string s, .slice a len cap] 29)).alloc (.cells #[.int .i64 op2, .int .i64 n2, .string s2, .slice a2 len2 cap2] 29)).alloc (.cells #[.int .i64 op5, .int .i64 n5, .string s5, .slice a5 len5 cap5] 29)).alloc (.cells #[.int .i64 op6, .int .i64 n6, .string s6, .slice a6 len6 cap6] 29)).alloc (.cells #[.int .i64 0, .int .i64 0, .string ByteArray.empty, .slice none 0 0] 29)) := bt (bt (bt (bt (ab _) (ab _) (Nat.le_refl _)) (ab _) (Nat.le_refl _)) (ab _) (Nat.le_refl _)) (ab _) (Nat.le_refl _)
  have HX : Hid (ZBox (((((w.alloc (.cells #[.int .i64 op, .int .i64 n, .string s, .slice a len cap] 29)).alloc (.cells #[.int .i64 op2, .int .i64 n2, .string s2, .slice a2 len2 cap2] 29)).alloc (.cells #[.int .i64 op5, .int .i64 n5, .string s5, .slice a5 len5 cap5] 29)).alloc (.cells #[.int .i64 op6, .int .i64 n6, .string s6, .slice a6 len6 cap6] 29)).alloc (.cells #[.int .i64 0, .int .i64 0, .string ByteArray.empty, .slice none 0 0] 29)) (w.heap.size + 1 + 1 + 1 + 1)) := by
    have := ZBox.new ((((w.alloc (.cells #[.int .i64 op, .int .i64 n, .string s, .slice a len cap] 29)).alloc (.cells #[.int .i64 op2, .int .i64 n2, .string s2, .slice a2 len2 cap2] 29)).alloc (.cells #[.int .i64 op5, .int .i64 n5, .string s5, .slice a5 len5 cap5] 29)).alloc (.cells #[.int .i64 op6, .int .i64 n6, .string s6, .slice a6 len6 cap6] 29))
    rwa [heap_size_alloc, heap_size_alloc, heap_size_alloc, heap_size_alloc] at this
  have HA0 : Hid (RowT 29 (((((w.alloc (.cells #[.int .i64 op, .int .i64 n, .string s, .slice a len cap] 29)).alloc (.cells #[.int .i64 op2, .int .i64 n2, .string s2, .slice a2 len2 cap2] 29)).alloc (.cells #[.int .i64 op5, .int .i64 n5, .string s5, .slice a5 len5 cap5] 29)).alloc (.cells #[.int .i64 op6, .int .i64 n6, .string s6, .slice a6 len6 cap6] 29)).alloc (.cells #[.int .i64 0, .int .i64 0, .string ByteArray.empty, .slice none 0 0] 29)) (w.heap.size) op n s a len cap) := by
    have := (((((RowT.new 29 w op n s a len cap).below (ab (.cells #[.int .i64 op2, .int .i64 n2, .string s2, .slice a2 len2 cap2] 29))).below (ab (.cells #[.int .i64 op5, .int .i64 n5, .string s5, .slice a5 len5 cap5] 29))).below (ab (.cells #[.int .i64 op6, .int .i64 n6, .string s6, .slice a6 len6 cap6] 29))).below (ab (.cells #[.int .i64 0, .int .i64 0, .string ByteArray.empty, .slice none 0 0] 29)))
    exact this
  have HA1 : Hid (RowT 29 (((((w.alloc (.cells #[.int .i64 op, .int .i64 n, .string s, .slice a len cap] 29)).alloc (.cells #[.int .i64 op2, .int .i64 n2, .string s2, .slice a2 len2 cap2] 29)).alloc (.cells #[.int .i64 op5, .int .i64 n5, .string s5, .slice a5 len5 cap5] 29)).alloc (.cells #[.int .i64 op6, .int .i64 n6, .string s6, .slice a6 len6 cap6] 29)).alloc (.cells #[.int .i64 0, .int .i64 0, .string ByteArray.empty, .slice none 0 0] 29)) (w.heap.size + 1) op2 n2 s2 a2 len2 cap2) := by
    have := ((((RowT.new 29 (w.alloc (.cells #[.int .i64 op, .int .i64 n, .string s, .slice a len cap] 29)) op2 n2 s2 a2 len2 cap2).below (ab (.cells #[.int .i64 op5, .int .i64 n5, .string s5, .slice a5 len5 cap5] 29))).below (ab (.cells #[.int .i64 op6, .int .i64 n6, .string s6, .slice a6 len6 cap6] 29))).below (ab (.cells #[.int .i64 0, .int .i64 0, .string ByteArray.empty, .slice none 0 0] 29)))
    rwa [heap_size_alloc] at this
  have HA2 : Hid (RowT 29 (((((w.alloc (.cells #[.int .i64 op, .int .i64 n, .string s, .slice a len cap] 29)).alloc (.cells #[.int .i64 op2, .int .i64 n2, .string s2, .slice a2 len2 cap2] 29)).alloc (.cells #[.int .i64 op5, .int .i64 n5, .string s5, .slice a5 len5 cap5] 29)).alloc (.cells #[.int .i64 op6, .int .i64 n6, .string s6, .slice a6 len6 cap6] 29)).alloc (.cells #[.int .i64 0, .int .i64 0, .string ByteArray.empty, .slice none 0 0] 29)) (w.heap.size + 1 + 1) op5 n5 s5 a5 len5 cap5) := by
    have := (((RowT.new 29 ((w.alloc (.cells #[.int .i64 op, .int .i64 n, .string s, .slice a len cap] 29)).alloc (.cells #[.int .i64 op2, .int .i64 n2, .string s2, .slice a2 len2 cap2] 29)) op5 n5 s5 a5 len5 cap5).below (ab (.cells #[.int .i64 op6, .int .i64 n6, .string s6, .slice a6 len6 cap6] 29))).below (ab (.cells #[.int .i64 0, .int .i64 0, .string ByteArray.empty, .slice none 0 0] 29)))
    rwa [heap_size_alloc, heap_size_alloc] at this
  have HA3 : Hid (RowT 29 (((((w.alloc (.cells #[.int .i64 op, .int .i64 n, .string s, .slice a len cap] 29)).alloc (.cells #[.int .i64 op2, .int .i64 n2, .string s2, .slice a2 len2 cap2] 29)).alloc (.cells #[.int .i64 op5, .int .i64 n5, .string s5, .slice a5 len5 cap5] 29)).alloc (.cells #[.int .i64 op6, .int .i64 n6, .string s6, .slice a6 len6 cap6] 29)).alloc (.cells #[.int .i64 0, .int .i64 0, .string ByteArray.empty, .slice none 0 0] 29)) (w.heap.size + 1 + 1 + 1) op6 n6 s6 a6 len6 cap6) := by
    have := ((RowT.new 29 (((w.alloc (.cells #[.int .i64 op, .int .i64 n, .string s, .slice a len cap] 29)).alloc (.cells #[.int .i64 op2, .int .i64 n2, .string s2, .slice a2 len2 cap2] 29)).alloc (.cells #[.int .i64 op5, .int .i64 n5, .string s5, .slice a5 len5 cap5] 29)) op6 n6 s6 a6 len6 cap6).below (ab (.cells #[.int .i64 0, .int .i64 0, .string ByteArray.empty, .slice none 0 0] 29)))
    rwa [heap_size_alloc, heap_size_alloc, heap_size_alloc] at this
  have HL0 := hide (hl.below hB0)
  have HL1 := hide (hl2.below hB0)
  have HL2 := hide (hl5.below hB0)
  have HL3 := hide (hl6.below hB0)
  have HB0 := hide hB0
  obtain ⟨c0, c1, c2, c3⟩ := (unhide HA0).facts
  obtain ⟨d0, d1, d2, d3⟩ := (unhide HA1).facts
  clear hl hl2 hl5 hl6 hsz hB0 hag he HL0 HL1 HL2 HL3 HA2 HA3
  go_enter Tryz.func72, Tryz.ntmps72
  go_wp2_with fail
  refine (unhide h41 _ (unhide HB0)).mono ?_
  rintro e w2 ⟨rfl, hb2⟩
  have HB2 := hide (bt (unhide HB0) hb2 (Nat.le_refl _))
  have HX2 := hide ((unhide HX).below hb2)
  clear c0 c1 c2 c3 d0 d1 d2 d3 hb2
  have hlt := lt_of_heap (unhide HX2)
  have hne := Nat.ne_of_lt hlt
  have hne' := Ne.symm hne
  obtain ⟨d0, d1, d2, d3, e0, e1, e2, e3⟩ := (unhide HX2).facts
  go_wp2_with fail
  obtain ⟨f0, f1, f2, f3⟩ := ((RowT.fill (ty := 29) (show RowT 29 w2 (w.heap.size + 1 + 1 + 1 + 1) 0 0 ByteArray.empty none 0 0 from unhide HX2) 0 0 ⟨#[]⟩ none 0 0).below (ab (.cells #[.int .i64 0, .int .i64 0, .string ByteArray.empty, .slice none 0 0] 29))).facts
  have hS := set4_below (g := w.heap.size + 1 + 1 + 1 + 1) (x0 := .int .i64 0) (x1 := .int .i64 0) (x2 := .string ⟨#[]⟩) (x3 := .slice none 0 0) (unhide HB2) (by omega)
  exact bodyPost_ret (v := .tuple #[.agg #[.int .i64 0, .int .i64 0, .string ByteArray.empty, .slice none 0 0], .iface 202 (.pointer (some x))]) (by simp [results, Tryz.results72, go_sem, f0, f1, f2, f3]; try rfl) rfl ⟨rfl, hS.alloc hS.size _⟩

theorem shr_le (t u : Tm) : (shrT t u).size ≤ t.size + u.size + 1 := by
  obtain ⟨o, m, z, ks⟩ := u
  match ks with
  | [k] =>
    simp only [shrT, shareT]
    split <;> simp only [Tm.size, Tm.sizes] <;> omega
  | [] => simp only [shrT, Tm.size, Tm.sizes]; omega
  | _ :: _ :: _ => simp only [shrT, Tm.size, Tm.sizes]; omega
theorem reply_le (t u ky ce sh : Tm) (_h : t.size + u.size + ky.size + ce.size ≤ 1100000) : (replyR t u ky ce sh).size ≤ 2097152 := by
  have := made200 4 [t]
  have := seal_200 (keyT sh 0) 0 (twoT ce (madeT 8 [ky, bothT u (madeT 4 [t])]))
  simp only [replyR, twoT, Tm.size, Tm.sizes, textT_size] at *
  omega

set_option maxRecDepth 100000 in
set_option maxHeartbeats 8000000 in
theorem replyTo_no2 (t u ky ce : Tm) (op n : Int) (s : ByteArray) (a : Option Addr) (len cap : Nat) (op2 n2 : Int) (s2 : ByteArray) (a2 : Option Addr) (len2 cap2 : Nat) (op5 n5 : Int) (s5 : ByteArray) (a5 : Option Addr) (len5 cap5 : Nat) (op6 n6 : Int) (s6 : ByteArray) (a6 : Option Addr) (len6 cap6 : Nat) (x : Addr) (w : World) (he : ErrAt x w) (htab : Tab w) (hl : Lies w 0 t (tmCells op n s a len cap)) (hl2 : Lies w 0 u (tmCells op2 n2 s2 a2 len2 cap2)) (hl5 : Lies w 0 ky (tmCells op5 n5 s5 a5 len5 cap5)) (hl6 : Lies w 0 ce (tmCells op6 n6 s6 a6 len6 cap6)) (hsz : t.size + u.size + ky.size + ce.size ≤ 1100000) (hag : shrB t u = true) (hok : okT (replyR t u ky ce (shrT t u)) = false) :
    Calls Tryz.prog 72 #[.agg #[.int .i64 op, .int .i64 n, .string s, .slice a len cap], .agg #[.int .i64 op2, .int .i64 n2, .string s2, .slice a2 len2 cap2], .agg #[.int .i64 op5, .int .i64 n5, .string s5, .slice a5 len5 cap5], .agg #[.int .i64 op6, .int .i64 n6, .string s6, .slice a6 len6 cap6]] w fun e w' => e = .returned (.tuple #[.agg #[.int .i64 0, .int .i64 0, .string ByteArray.empty, .slice none 0 0], .iface 202 (.pointer (some x))]) ∧ Below w.heap.size w w' := by
  have h41 := hide (fun V (hV : Below w.heap.size w V) => shareI_yes t u op n s a len cap op2 n2 s2 a2 len2 cap2 x V (he.on hV) (hl.below hV) (hl2.below hV) (by omega) hag)
  have hwd := hide (wordI (⟨#[114, 101, 112, 108, 121]⟩ : ByteArray))
  have HTL : Hid (∀ v : World, Lies v 0 (textT replyW) (tmCells 2 0 (⟨#[114, 101, 112, 108, 121]⟩ : ByteArray) none 0 0)) := fun v => text_lies replyW (by decide) v
  have hm0 : (-9223372036854775808 : Int) ≤ 0 := by decide
  have hm1 : (0 : Int) ≤ 9223372036854775807 := by decide
  have cPub := hide (fun V h (he : ErrAt x V) => pubI t op n s a len cap V h (by omega) ⟨x, he⟩)
  have cBoth := hide (fun op n s a len cap op2 n2 s2 a2 len2 cap2 V h h2 (he : ErrAt x V) => bothI u (madeT 4 [t]) op n s a len cap op2 n2 s2 a2 len2 cap2 V h h2 (by have := made200 4 [t]; omega) ⟨x, he⟩)
  have cSign := hide (fun op n s a len cap op2 n2 s2 a2 len2 cap2 V h h2 (he : ErrAt x V) => signI ky (bothT u (madeT 4 [t])) op n s a len cap op2 n2 s2 a2 len2 cap2 V h h2 (by have : (bothT u (madeT 4 [t])).size ≤ 200 := made200 _ _; omega) ⟨x, he⟩)
  have cKey := hide (fun op n s a len cap V h ht (he : ErrAt x V) => keyI (shrT t u) 0 op n s a len cap V h (by have := shr_le t u; omega) hm0 hm1 ht ⟨x, he⟩)
  have cSeal := hide (fun op n s a len cap op2 n2 s2 a2 len2 cap2 V h h2 ht (he : ErrAt x V) => sealI (keyT (shrT t u) 0) (twoT ce (madeT 8 [ky, bothT u (madeT 4 [t])])) 0 op n s a len cap op2 n2 s2 a2 len2 cap2 V h h2 (by have := made200 8 [ky, bothT u (madeT 4 [t])]; have : (keyT (shrT t u) 0).size ≤ 200 := made200 _ _; simp only [twoT, Tm.size, Tm.sizes]; omega) hm0 hm1 ht ⟨x, he⟩)
  have cChk := hide (fun a5 V h he => checked_no (replyR t u ky ce (shrT t u)) 3 0 ByteArray.empty a5 2 2 x V h (reply_le t u ky ce (shrT t u) (by omega)) hok he)
  have HRE : Hid (replyR t u ky ce (shrT t u) = twoT (textT replyW) (twoT (madeT 4 [t]) (sealT (keyT (shrT t u) 0) 0 (twoT ce (madeT 8 [ky, bothT u (madeT 4 [t])]))))) := rfl
  rw [unhide HRE] at cChk
  clear HRE
  generalize sealT (keyT (shrT t u) 0) 0 (twoT ce (madeT 8 [ky, bothT u (madeT 4 [t])])) = ET at *
  generalize hPP : twoT ce (madeT 8 [ky, bothT u (madeT 4 [t])]) = PP at *
  generalize textT replyW = TT at *
  generalize madeT 8 [ky, bothT u (madeT 4 [t])] = GT at *
  generalize bothT u (madeT 4 [t]) = BT at *
  generalize madeT 4 [t] = PT at *
  generalize keyT (shrT t u) 0 = KT at *
  generalize shrT t u = SH at *
  have hB0 : Below w.heap.size w (((((w.alloc (.cells #[.int .i64 op, .int .i64 n, .string s, .slice a len cap] 29)).alloc (.cells #[.int .i64 op2, .int .i64 n2, .string s2, .slice a2 len2 cap2] 29)).alloc (.cells #[.int .i64 op5, .int .i64 n5, .string s5, .slice a5 len5 cap5] 29)).alloc (.cells #[.int .i64 op6, .int .i64 n6, .string s6, .slice a6 len6 cap6] 29)).alloc (.cells #[.int .i64 0, .int .i64 0, .string ByteArray.empty, .slice none 0 0] 29)) := bt (bt (bt (bt (ab _) (ab _) (Nat.le_refl _)) (ab _) (Nat.le_refl _)) (ab _) (Nat.le_refl _)) (ab _) (Nat.le_refl _)
  have HX : Hid (ZBox (((((w.alloc (.cells #[.int .i64 op, .int .i64 n, .string s, .slice a len cap] 29)).alloc (.cells #[.int .i64 op2, .int .i64 n2, .string s2, .slice a2 len2 cap2] 29)).alloc (.cells #[.int .i64 op5, .int .i64 n5, .string s5, .slice a5 len5 cap5] 29)).alloc (.cells #[.int .i64 op6, .int .i64 n6, .string s6, .slice a6 len6 cap6] 29)).alloc (.cells #[.int .i64 0, .int .i64 0, .string ByteArray.empty, .slice none 0 0] 29)) (w.heap.size + 1 + 1 + 1 + 1)) := by
    have := ZBox.new ((((w.alloc (.cells #[.int .i64 op, .int .i64 n, .string s, .slice a len cap] 29)).alloc (.cells #[.int .i64 op2, .int .i64 n2, .string s2, .slice a2 len2 cap2] 29)).alloc (.cells #[.int .i64 op5, .int .i64 n5, .string s5, .slice a5 len5 cap5] 29)).alloc (.cells #[.int .i64 op6, .int .i64 n6, .string s6, .slice a6 len6 cap6] 29))
    rwa [heap_size_alloc, heap_size_alloc, heap_size_alloc, heap_size_alloc] at this
  have HA0 : Hid (RowT 29 (((((w.alloc (.cells #[.int .i64 op, .int .i64 n, .string s, .slice a len cap] 29)).alloc (.cells #[.int .i64 op2, .int .i64 n2, .string s2, .slice a2 len2 cap2] 29)).alloc (.cells #[.int .i64 op5, .int .i64 n5, .string s5, .slice a5 len5 cap5] 29)).alloc (.cells #[.int .i64 op6, .int .i64 n6, .string s6, .slice a6 len6 cap6] 29)).alloc (.cells #[.int .i64 0, .int .i64 0, .string ByteArray.empty, .slice none 0 0] 29)) (w.heap.size) op n s a len cap) := by
    have := (((((RowT.new 29 w op n s a len cap).below (ab (.cells #[.int .i64 op2, .int .i64 n2, .string s2, .slice a2 len2 cap2] 29))).below (ab (.cells #[.int .i64 op5, .int .i64 n5, .string s5, .slice a5 len5 cap5] 29))).below (ab (.cells #[.int .i64 op6, .int .i64 n6, .string s6, .slice a6 len6 cap6] 29))).below (ab (.cells #[.int .i64 0, .int .i64 0, .string ByteArray.empty, .slice none 0 0] 29)))
    exact this
  have HA1 : Hid (RowT 29 (((((w.alloc (.cells #[.int .i64 op, .int .i64 n, .string s, .slice a len cap] 29)).alloc (.cells #[.int .i64 op2, .int .i64 n2, .string s2, .slice a2 len2 cap2] 29)).alloc (.cells #[.int .i64 op5, .int .i64 n5, .string s5, .slice a5 len5 cap5] 29)).alloc (.cells #[.int .i64 op6, .int .i64 n6, .string s6, .slice a6 len6 cap6] 29)).alloc (.cells #[.int .i64 0, .int .i64 0, .string ByteArray.empty, .slice none 0 0] 29)) (w.heap.size + 1) op2 n2 s2 a2 len2 cap2) := by
    have := ((((RowT.new 29 (w.alloc (.cells #[.int .i64 op, .int .i64 n, .string s, .slice a len cap] 29)) op2 n2 s2 a2 len2 cap2).below (ab (.cells #[.int .i64 op5, .int .i64 n5, .string s5, .slice a5 len5 cap5] 29))).below (ab (.cells #[.int .i64 op6, .int .i64 n6, .string s6, .slice a6 len6 cap6] 29))).below (ab (.cells #[.int .i64 0, .int .i64 0, .string ByteArray.empty, .slice none 0 0] 29)))
    rwa [heap_size_alloc] at this
  have HA2 : Hid (RowT 29 (((((w.alloc (.cells #[.int .i64 op, .int .i64 n, .string s, .slice a len cap] 29)).alloc (.cells #[.int .i64 op2, .int .i64 n2, .string s2, .slice a2 len2 cap2] 29)).alloc (.cells #[.int .i64 op5, .int .i64 n5, .string s5, .slice a5 len5 cap5] 29)).alloc (.cells #[.int .i64 op6, .int .i64 n6, .string s6, .slice a6 len6 cap6] 29)).alloc (.cells #[.int .i64 0, .int .i64 0, .string ByteArray.empty, .slice none 0 0] 29)) (w.heap.size + 1 + 1) op5 n5 s5 a5 len5 cap5) := by
    have := (((RowT.new 29 ((w.alloc (.cells #[.int .i64 op, .int .i64 n, .string s, .slice a len cap] 29)).alloc (.cells #[.int .i64 op2, .int .i64 n2, .string s2, .slice a2 len2 cap2] 29)) op5 n5 s5 a5 len5 cap5).below (ab (.cells #[.int .i64 op6, .int .i64 n6, .string s6, .slice a6 len6 cap6] 29))).below (ab (.cells #[.int .i64 0, .int .i64 0, .string ByteArray.empty, .slice none 0 0] 29)))
    rwa [heap_size_alloc, heap_size_alloc] at this
  have HA3 : Hid (RowT 29 (((((w.alloc (.cells #[.int .i64 op, .int .i64 n, .string s, .slice a len cap] 29)).alloc (.cells #[.int .i64 op2, .int .i64 n2, .string s2, .slice a2 len2 cap2] 29)).alloc (.cells #[.int .i64 op5, .int .i64 n5, .string s5, .slice a5 len5 cap5] 29)).alloc (.cells #[.int .i64 op6, .int .i64 n6, .string s6, .slice a6 len6 cap6] 29)).alloc (.cells #[.int .i64 0, .int .i64 0, .string ByteArray.empty, .slice none 0 0] 29)) (w.heap.size + 1 + 1 + 1) op6 n6 s6 a6 len6 cap6) := by
    have := ((RowT.new 29 (((w.alloc (.cells #[.int .i64 op, .int .i64 n, .string s, .slice a len cap] 29)).alloc (.cells #[.int .i64 op2, .int .i64 n2, .string s2, .slice a2 len2 cap2] 29)).alloc (.cells #[.int .i64 op5, .int .i64 n5, .string s5, .slice a5 len5 cap5] 29)) op6 n6 s6 a6 len6 cap6).below (ab (.cells #[.int .i64 0, .int .i64 0, .string ByteArray.empty, .slice none 0 0] 29)))
    rwa [heap_size_alloc, heap_size_alloc, heap_size_alloc] at this
  have HL0 := hide (hl.below hB0)
  have HL1 := hide (hl2.below hB0)
  have HL2 := hide (hl5.below hB0)
  have HL3 := hide (hl6.below hB0)
  have HB0 := hide hB0
  have HER := hide (he.on hB0)
  have HTB := hide (htab.on hB0)
  obtain ⟨c0, c1, c2, c3⟩ := (unhide HA0).facts
  obtain ⟨d0, d1, d2, d3⟩ := (unhide HA1).facts
  clear hl hl2 hl5 hl6 hsz hB0 hag hm0 hm1 he htab hok
  go_enter Tryz.func72, Tryz.ntmps72
  go_wp2_with fail
  refine (unhide h41 _ (unhide HB0)).mono ?_
  rintro e w2 ⟨a3, rfl, hL3, hb2⟩
  have hb3 := bt hb2 (ab (.cells #[.int .i64 5, .int .i64 0, .string ByteArray.empty, .slice a3 2 2] 29)) (Nat.le_refl _)
  have HB2 := hide (bt (unhide HB0) hb3 (Nat.le_refl _))
  have HGS : Hid (w.heap.size + 1 + 1 + 1 + 1 < w2.heap.size) := lt_of_heap ((unhide HX).below hb2)
  have HX := hide ((unhide HX).below hb3)
  have HA0 := hide ((unhide HA0).below hb3)
  have HA1 := hide ((unhide HA1).below hb3)
  have HA2 := hide ((unhide HA2).below hb3)
  have HA3 := hide ((unhide HA3).below hb3)
  have HL0 := hide ((unhide HL0).below hb3)
  have HL1 := hide ((unhide HL1).below hb3)
  have HL2 := hide ((unhide HL2).below hb3)
  have HL3 := hide ((unhide HL3).below hb3)
  have HLS := hide (hL3.below (ab (.cells #[.int .i64 5, .int .i64 0, .string ByteArray.empty, .slice a3 2 2] 29)))
  have HSh := hide (RowT.new 29 w2 5 0 ByteArray.empty a3 2 2)
  have HER := hide ((unhide HER).on hb3)
  have HTB := hide ((unhide HTB).on hb3)
  clear c0 c1 c2 c3 d0 d1 d2 d3 hb2 hb3 hL3 HB0 h41
  obtain ⟨c0, c1, c2, c3⟩ := (unhide HA0).facts
  go_wp2_with fail
  generalize hgw : w2.alloc (.cells #[.int .i64 5, .int .i64 0, .string ByteArray.empty, .slice a3 2 2] 29) = W2 at *
  clear hgw
  generalize w2.heap.size = bS at *
  refine (unhide cPub _ (unhide HL0) (unhide HER)).mono ?_
  rintro e w3 ⟨op7, n7, s7, a7, len7, cap7, fp7, rfl, hO7, ⟨_, hge7⟩, hb2⟩
  have HN7 : Hid (∀ y ∈ fp7, y ≠ w.heap.size + 1 + 1 + 1 + 1) := fun y hy => by have := hge7 y hy; have := lt_of_heap (unhide HX); omega
  have hb3 := bt hb2 (ab (.cells #[.int .i64 op7, .int .i64 n7, .string s7, .slice a7 len7 cap7] 29)) (Nat.le_refl _)
  have HB4 := hide (bt (unhide HB2) hb3 (Nat.le_refl _))
  have HGO : Hid (w.heap.size + 1 + 1 + 1 + 1 < w3.heap.size) := lt_of_heap ((unhide HX).below hb2)
  have HX := hide ((unhide HX).below hb3)
  have HA1 := hide ((unhide HA1).below hb3)
  have HA2 := hide ((unhide HA2).below hb3)
  have HA3 := hide ((unhide HA3).below hb3)
  have HL1 := hide ((unhide HL1).below hb3)
  have HL2 := hide ((unhide HL2).below hb3)
  have HL3 := hide ((unhide HL3).below hb3)
  have HLS := hide ((unhide HLS).below hb3)
  have HSh := hide ((unhide HSh).below hb3)
  have HER := hide ((unhide HER).on hb3)
  have HTB := hide ((unhide HTB).on hb3)
  have HLO := hide (hO7.lies0.below (ab (.cells #[.int .i64 op7, .int .i64 n7, .string s7, .slice a7 len7 cap7] 29)))
  have HO7 := hide (hO7.below (ab (.cells #[.int .i64 op7, .int .i64 n7, .string s7, .slice a7 len7 cap7] 29)))
  have HOw := hide (RowT.new 29 w3 op7 n7 s7 a7 len7 cap7)
  clear c0 c1 c2 c3 hb2 hb3 hO7 hge7 HB2 HA0 HL0
  go_wp2_with fail
  generalize hgw : w3.alloc (.cells #[.int .i64 op7, .int .i64 n7, .string s7, .slice a7 len7 cap7] 29) = W4 at *
  clear hgw
  generalize w3.heap.size = bO at *
  obtain ⟨d0, d1, d2, d3⟩ := (unhide HA1).facts
  obtain ⟨i0, i1, i2, i3⟩ := (unhide HA2).facts
  obtain ⟨j0, j1, j2, j3⟩ := (unhide HA3).facts
  obtain ⟨k0, k1, k2, k3⟩ := (unhide HOw).facts
  have dne0 := Nat.ne_of_lt (lt_of_cell d0)
  have den0 := Ne.symm dne0
  have ine0 := Nat.ne_of_lt (lt_of_cell i0)
  have ien0 := Ne.symm ine0
  have jne0 := Nat.ne_of_lt (lt_of_cell j0)
  have jen0 := Ne.symm jne0
  have kne0 := Nat.ne_of_lt (lt_of_cell k0)
  have ken0 := Ne.symm kne0
  go_cut [13] (fun p wx => RrCut PP W4 p wx)
  case first =>
    go_region_held3 (fun x => x.cell? ⟨w.heap.size + 1, 0, none⟩ = some (.int .i64 op2) ∧ x.cell? ⟨w.heap.size + 1, 1, none⟩ = some (.int .i64 n2) ∧ x.cell? ⟨w.heap.size + 1, 2, none⟩ = some (.string s2) ∧ x.cell? ⟨w.heap.size + 1, 3, none⟩ = some (.slice a2 len2 cap2) ∧ x.cell? ⟨w.heap.size + 1 + 1, 0, none⟩ = some (.int .i64 op5) ∧ x.cell? ⟨w.heap.size + 1 + 1, 1, none⟩ = some (.int .i64 n5) ∧ x.cell? ⟨w.heap.size + 1 + 1, 2, none⟩ = some (.string s5) ∧ x.cell? ⟨w.heap.size + 1 + 1, 3, none⟩ = some (.slice a5 len5 cap5) ∧ x.cell? ⟨w.heap.size + 1 + 1 + 1, 0, none⟩ = some (.int .i64 op6) ∧ x.cell? ⟨w.heap.size + 1 + 1 + 1, 1, none⟩ = some (.int .i64 n6) ∧ x.cell? ⟨w.heap.size + 1 + 1 + 1, 2, none⟩ = some (.string s6) ∧ x.cell? ⟨w.heap.size + 1 + 1 + 1, 3, none⟩ = some (.slice a6 len6 cap6) ∧ x.cell? ⟨bO, 0, none⟩ = some (.int .i64 op7) ∧ x.cell? ⟨bO, 1, none⟩ = some (.int .i64 n7) ∧ x.cell? ⟨bO, 2, none⟩ = some (.string s7) ∧ x.cell? ⟨bO, 3, none⟩ = some (.slice a7 len7 cap7)) (go_keep)
      (first
        | (go_at_call 33
           have hc := fun V (hV : Below W4.heap.size W4 V) => unhide cBoth op2 n2 s2 a2 len2 cap2 op7 n7 s7 a7 len7 cap7 V ((unhide HL1).below hV) ((unhide HLO).below hV) ((unhide HER).on hV)
           refine (hc _ ?_).mono ?_
           first
             | exact (Below.refl _ _).drew
             | exact (ab _).drew
           rintro e y1 ⟨op10, n10, s10, a10, len10, cap10, fp10, rfl, hO, _, hb⟩
           try have zz1 := hide ((ZBox.new W4).drew.below hb)
           have h01 : Hid (Below W4.heap.size W4 y1) := by
             first
               | exact below_drew' hb
               | exact bt (ab _) (below_drew' hb) (Nat.le_refl _)
           have HR10 := hide hO.lies0
           clear d0 d1 d2 d3 i0 i1 i2 i3 j0 j1 j2 j3 k0 k1 k2 k3 hb hO hc
           obtain ⟨d0, d1, d2, d3⟩ := ((unhide HA1).below (unhide h01)).facts
           obtain ⟨i0, i1, i2, i3⟩ := ((unhide HA2).below (unhide h01)).facts
           obtain ⟨j0, j1, j2, j3⟩ := ((unhide HA3).below (unhide h01)).facts
           obtain ⟨k0, k1, k2, k3⟩ := ((unhide HOw).below (unhide h01)).facts
           have dne1 := Nat.ne_of_lt (lt_of_cell d0)
           have den1 := Ne.symm dne1
           have ine1 := Nat.ne_of_lt (lt_of_cell i0)
           have ien1 := Ne.symm ine1
           have jne1 := Nat.ne_of_lt (lt_of_cell j0)
           have jen1 := Ne.symm jne1
           have kne1 := Nat.ne_of_lt (lt_of_cell k0)
           have ken1 := Ne.symm kne1)
        | (go_at_call 39
           have hc := fun V (hV : Below y1.heap.size y1 V) => unhide cSign op5 n5 s5 a5 len5 cap5 op10 n10 s10 a10 len10 cap10 V ((unhide HL2).below (bt (unhide h01) hV (Nat.le_refl _))) ((unhide HR10).below hV) ((unhide HER).on (bt (unhide h01) hV (Nat.le_refl _)))
           refine (hc _ ?_).mono ?_
           first
             | exact Below.refl _ _
             | exact ab _
           rintro e y2 ⟨op11, n11, s11, a11, len11, cap11, fp11, rfl, hO, ⟨_, hge⟩, hb⟩
           try have zz2 := hide ((unhide zz1).below hb)
           try have zz2 := hide ((ZBox.new y1).below hb)
           have hp2 : Hid (Below y1.heap.size y1 y2) := by
             first
               | exact hb
               | exact bt (ab _) hb (Nat.le_refl _)
           have h02 := hide (bt (unhide h01) (unhide hp2) (Nat.le_refl _))
           have HO11 := hide hO
           have HGE11 := hide hge
           have HLT11 := hide (Own.lt _ _ _ hO)
           clear d0 d1 d2 d3 i0 i1 i2 i3 j0 j1 j2 j3 k0 k1 k2 k3 hb hO hc hge
           obtain ⟨d0, d1, d2, d3⟩ := ((unhide HA1).below (unhide h02)).facts
           obtain ⟨i0, i1, i2, i3⟩ := ((unhide HA2).below (unhide h02)).facts
           obtain ⟨j0, j1, j2, j3⟩ := ((unhide HA3).below (unhide h02)).facts
           obtain ⟨k0, k1, k2, k3⟩ := ((unhide HOw).below (unhide h02)).facts
           have dne2 := Nat.ne_of_lt (lt_of_cell d0)
           have den2 := Ne.symm dne2
           have wne2 : w.heap.size ≠ y2.heap.size := by have := lt_of_cell d0; omega
           have wen2 := Ne.symm wne2
           have dnx := Nat.ne_of_lt (Nat.lt_succ_of_lt (lt_of_cell d0))
           have dxn := Ne.symm dnx
           have ine2 := Nat.ne_of_lt (lt_of_cell i0)
           have ien2 := Ne.symm ine2
           have inx := Nat.ne_of_lt (Nat.lt_succ_of_lt (lt_of_cell i0))
           have ixn := Ne.symm inx
           have jne2 := Nat.ne_of_lt (lt_of_cell j0)
           have jen2 := Ne.symm jne2
           have jnx := Nat.ne_of_lt (Nat.lt_succ_of_lt (lt_of_cell j0))
           have jxn := Ne.symm jnx
           have kne2 := Nat.ne_of_lt (lt_of_cell k0)
           have ken2 := Ne.symm kne2
           have knx := Nat.ne_of_lt (Nat.lt_succ_of_lt (lt_of_cell k0))
           have kxn := Ne.symm knx)
        | (go_at_call 91
           refine (rowq1 ce GT op6 n6 s6 a6 len6 cap6 op11 n11 s11 a11 len11 cap11 _ 0 (fun W => Below W4.heap.size W4 W ∧ ∀ y ∈ fp11, W.heap[y]? = y2.heap[y]?) _ (fun W h => (unhide HL3).below h.1) (fun W h => (Own.keep _ _ _ (unhide HO11) h.2).lies0) ?_ ?_ ?_ ?_).mono ?_
           · first
               | exact box_cell _ _ 29 0 _ rfl
               | (have hbx := box_cell (y2.alloc (.cells #[.int .i64 0, .int .i64 0, .string ByteArray.empty, .slice none 0 0] 29)) #[.int .i64 op11, .int .i64 n11, .string s11, .slice a11 len11 cap11] 29 0 _ rfl
                  simp only [heap_size_alloc] at hbx
                  exact hbx)
               | exact kpc (ab _) (box_cell y2 #[.int .i64 op11, .int .i64 n11, .string s11, .slice a11 len11 cap11] 29 0 _ rfl)
           · first
               | exact box_cell _ _ 29 1 _ rfl
               | (have hbx := box_cell (y2.alloc (.cells #[.int .i64 0, .int .i64 0, .string ByteArray.empty, .slice none 0 0] 29)) #[.int .i64 op11, .int .i64 n11, .string s11, .slice a11 len11 cap11] 29 1 _ rfl
                  simp only [heap_size_alloc] at hbx
                  exact hbx)
               | exact kpc (ab _) (box_cell y2 #[.int .i64 op11, .int .i64 n11, .string s11, .slice a11 len11 cap11] 29 1 _ rfl)
           · first
               | exact box_cell _ _ 29 2 _ rfl
               | (have hbx := box_cell (y2.alloc (.cells #[.int .i64 0, .int .i64 0, .string ByteArray.empty, .slice none 0 0] 29)) #[.int .i64 op11, .int .i64 n11, .string s11, .slice a11 len11 cap11] 29 2 _ rfl
                  simp only [heap_size_alloc] at hbx
                  exact hbx)
               | exact kpc (ab _) (box_cell y2 #[.int .i64 op11, .int .i64 n11, .string s11, .slice a11 len11 cap11] 29 2 _ rfl)
           · first
               | exact box_cell _ _ 29 3 _ rfl
               | (have hbx := box_cell (y2.alloc (.cells #[.int .i64 0, .int .i64 0, .string ByteArray.empty, .slice none 0 0] 29)) #[.int .i64 op11, .int .i64 n11, .string s11, .slice a11 len11 cap11] 29 3 _ rfl
                  simp only [heap_size_alloc] at hbx
                  exact hbx)
               | exact kpc (ab _) (box_cell y2 #[.int .i64 op11, .int .i64 n11, .string s11, .slice a11 len11 cap11] 29 3 _ rfl)
           rintro e y3 ⟨a9, rfl, hR, hb⟩
           try have zz3 := hide (((unhide zz2).below (ab (.cells #[.int .i64 op11, .int .i64 n11, .string s11, .slice a11 len11 cap11] 29))).below hb)
           try have zz3 := hide (((ZBox.new y2).below (ab (.cells #[.int .i64 op11, .int .i64 n11, .string s11, .slice a11 len11 cap11] 29))).below hb)
           try (have zz3' := (ZBox.new (y2.alloc (.cells #[.int .i64 op11, .int .i64 n11, .string s11, .slice a11 len11 cap11] 29))).below hb; rw [heap_size_alloc] at zz3'; have zz3 := hide zz3'; clear zz3')
           have hp3 : Hid (Below y2.heap.size y2 y3) := by
             first
               | exact bt (ab _) hb (Nat.le_refl _)
               | exact bt (bt (ab _) (ab _) (Nat.le_refl _)) hb (Nat.le_refl _)
           have h03 := hide (bt (unhide h02) (unhide hp3) (Nat.le_refl _))
           have HR9 := hide hR
           clear d0 d1 d2 d3 i0 i1 i2 i3 j0 j1 j2 j3 k0 k1 k2 k3 hb hR
           obtain ⟨d0, d1, d2, d3⟩ := ((unhide HA1).below (unhide h03)).facts
           obtain ⟨i0, i1, i2, i3⟩ := ((unhide HA2).below (unhide h03)).facts
           obtain ⟨j0, j1, j2, j3⟩ := ((unhide HA3).below (unhide h03)).facts
           obtain ⟨k0, k1, k2, k3⟩ := ((unhide HOw).below (unhide h03)).facts
           have dne3 := Nat.ne_of_lt (lt_of_cell d0)
           have den3 := Ne.symm dne3
           have ine3 := Nat.ne_of_lt (lt_of_cell i0)
           have ien3 := Ne.symm ine3
           have jne3 := Nat.ne_of_lt (lt_of_cell j0)
           have jen3 := Ne.symm jne3
           have kne3 := Nat.ne_of_lt (lt_of_cell k0)
           have ken3 := Ne.symm kne3
           try obtain ⟨p0, p1, p2, p3, q0, q1, q2, q3⟩ := (unhide zz3).facts))
    all_goals
      go_wp2_with fail
      go_meet
      have s1 := (unhide h01).size
      have s2 := (unhide hp2).size
      rw [← hPP]
      first
        | (with_reducible refine RrCut.late ?_ (unhide HR9) ?_
           exact unhide h03
           exact fun W hW => ⟨bt (unhide h03) hW (Nat.le_refl _), fun y hy => (hW.block y (Nat.lt_of_lt_of_le (unhide HLT11 y hy) (unhide hp3).size)).trans ((unhide hp3).block y (unhide HLT11 y hy))⟩)
        | (with_reducible refine RrCut.early ?_ (unhide zz3) ?_ (unhide HR9) ?_ ?_
           exact unhide h03
           omega
           (simp only [heap_size_alloc]; first | (have := lt_of_heap (unhide zz2); omega) | omega)
           refine ⟨set4_below (unhide h03) (by omega), fun y hy => (set4_heap _ _ _ _ _ _ y ?_).trans ((unhide hp3).block y (unhide HLT11 y hy))⟩
           have k1 := unhide HLT11 y hy
           have k2 := unhide HGE11 y hy
           first
             | omega
             | (have := lt_of_heap (unhide zz1); omega)
             | (simp only [heap_size_alloc] at k2; omega))
  case rest =>
    obtain ⟨bP, a9, rfl, hRP, hLP, hge, hbc⟩ := hcut
    have HB5 := hide (bt (unhide HB4) hbc (Nat.le_refl _))
    have nS := Nat.ne_of_lt (unhide HGS)
    have nO := Nat.ne_of_lt (unhide HGO)
    have nP : w.heap.size + 1 + 1 + 1 + 1 ≠ bP := by have := lt_of_heap (unhide HX); omega
    have mS := Ne.symm nS
    have mO := Ne.symm nO
    have mP := Ne.symm nP
    have HX := hide ((unhide HX).below hbc)
    have HLS := hide ((unhide HLS).below hbc)
    have HSh := hide ((unhide HSh).below hbc)
    have HOw := hide ((unhide HOw).below hbc)
    have HO7 := hide ((unhide HO7).below hbc)
    have HL7 := hide (Own.lt _ _ _ (unhide HO7))
    have HER := hide ((unhide HER).on hbc)
    have HTB := hide ((unhide HTB).on hbc)
    have HPr := hide hRP
    have HLP := hide hLP
    clear d0 d1 d2 d3 i0 i1 i2 i3 j0 j1 j2 j3 k0 k1 k2 k3 hbc hRP hLP hge HLO
    obtain ⟨k0, k1, k2, k3⟩ := (unhide HOw).facts
    obtain ⟨c0, c1, c2, c3⟩ := (unhide HSh).facts
    obtain ⟨d0, d1, d2, d3⟩ := (unhide HPr).facts
    have kne9 := Nat.ne_of_lt (lt_of_cell k0)
    have ken9 := Ne.symm kne9
    have cne9 := Nat.ne_of_lt (lt_of_cell c0)
    have cen9 := Ne.symm cne9
    have dne9 := Nat.ne_of_lt (lt_of_cell d0)
    have den9 := Ne.symm dne9
    have hxl := lt_of_heap (unhide HX)
    go_wp2_with fail
    go_region_held3 (fun x => x.cell? ⟨bO, 0, none⟩ = some (.int .i64 op7) ∧ x.cell? ⟨bO, 1, none⟩ = some (.int .i64 n7) ∧ x.cell? ⟨bO, 2, none⟩ = some (.string s7) ∧ x.cell? ⟨bO, 3, none⟩ = some (.slice a7 len7 cap7) ∧ x.cell? ⟨bS, 0, none⟩ = some (.int .i64 5) ∧ x.cell? ⟨bS, 1, none⟩ = some (.int .i64 0) ∧ x.cell? ⟨bS, 2, none⟩ = some (.string ByteArray.empty) ∧ x.cell? ⟨bS, 3, none⟩ = some (.slice a3 2 2) ∧ x.cell? ⟨bP, 0, none⟩ = some (.int .i64 3) ∧ x.cell? ⟨bP, 1, none⟩ = some (.int .i64 0) ∧ x.cell? ⟨bP, 2, none⟩ = some (.string ByteArray.empty) ∧ x.cell? ⟨bP, 3, none⟩ = some (.slice a9 2 2)) (go_keep)
      (first
        | (go_at_call 92
           refine (unhide hwd _).mono ?_
           rintro e y1 ⟨rfl, hb⟩
           have h01 := hide (below_drew' hb)
           clear k0 k1 k2 k3 c0 c1 c2 c3 d0 d1 d2 d3 hb
           obtain ⟨k0, k1, k2, k3⟩ := ((unhide HOw).below (unhide h01)).facts
           obtain ⟨c0, c1, c2, c3⟩ := ((unhide HSh).below (unhide h01)).facts
           obtain ⟨d0, d1, d2, d3⟩ := ((unhide HPr).below (unhide h01)).facts
           have kne1 := Nat.ne_of_lt (lt_of_cell k0)
           have ken1 := Ne.symm kne1
           have cne1 := Nat.ne_of_lt (lt_of_cell c0)
           have cen1 := Ne.symm cne1
           have dne1 := Nat.ne_of_lt (lt_of_cell d0)
           have den1 := Ne.symm dne1)
        | (go_at_call 94
           refine (unhide cKey 5 0 ByteArray.empty a3 2 2 _ ((unhide HLS).below (unhide h01)) ((unhide HTB).on (unhide h01)) ((unhide HER).on (unhide h01))).mono ?_
           rintro e y2 ⟨op8, n8, s8, a8, len8, cap8, fp8, rfl, hO, _, hb⟩
           have h02 := hide (bt (unhide h01) hb (Nat.le_refl _))
           have HR8 := hide hO.lies0
           clear k0 k1 k2 k3 c0 c1 c2 c3 d0 d1 d2 d3 hb hO
           obtain ⟨k0, k1, k2, k3⟩ := ((unhide HOw).below (unhide h02)).facts
           obtain ⟨c0, c1, c2, c3⟩ := ((unhide HSh).below (unhide h02)).facts
           obtain ⟨d0, d1, d2, d3⟩ := ((unhide HPr).below (unhide h02)).facts
           have kne2 := Nat.ne_of_lt (lt_of_cell k0)
           have ken2 := Ne.symm kne2
           have knx := Nat.ne_of_lt (Nat.lt_succ_of_lt (lt_of_cell k0))
           have kxn := Ne.symm knx
           have cne2 := Nat.ne_of_lt (lt_of_cell c0)
           have cen2 := Ne.symm cne2
           have cnx := Nat.ne_of_lt (Nat.lt_succ_of_lt (lt_of_cell c0))
           have cxn := Ne.symm cnx
           have dne2 := Nat.ne_of_lt (lt_of_cell d0)
           have den2 := Ne.symm dne2
           have dnx := Nat.ne_of_lt (Nat.lt_succ_of_lt (lt_of_cell d0))
           have dxn := Ne.symm dnx)
        | (go_at_call 93
           refine (unhide cSeal op8 n8 s8 a8 len8 cap8 3 0 ByteArray.empty a9 2 2 _ (unhide HR8) ((unhide HLP).below (unhide h02)) ((unhide HTB).on (unhide h02)) ((unhide HER).on (unhide h02))).mono ?_
           rintro e y3 ⟨op12, n12, s12, a12, len12, cap12, fp12, rfl, hO, ⟨_, hge⟩, hb⟩
           have h03 := hide (bt (unhide h02) hb (Nat.le_refl _))
           have HO12 := hide hO
           have HGE12 : Hid (∀ y ∈ fp12, wc.heap.size ≤ y) := fun y hy => Nat.le_trans (unhide h02).size (hge y hy)
           have HLT12 := hide (Own.lt _ _ _ hO)
           clear k0 k1 k2 k3 c0 c1 c2 c3 d0 d1 d2 d3 hb hO hge
           obtain ⟨k0, k1, k2, k3⟩ := ((unhide HOw).below (unhide h03)).facts
           obtain ⟨c0, c1, c2, c3⟩ := ((unhide HSh).below (unhide h03)).facts
           obtain ⟨d0, d1, d2, d3⟩ := ((unhide HPr).below (unhide h03)).facts
           have kne3 := Nat.ne_of_lt (lt_of_cell k0)
           have ken3 := Ne.symm kne3
           have cne3 := Nat.ne_of_lt (lt_of_cell c0)
           have cen3 := Ne.symm cne3
           have dne3 := Nat.ne_of_lt (lt_of_cell d0)
           have den3 := Ne.symm dne3)
        | (go_at_call 91
           refine (rowq2 TT PT ET 2 0 (⟨#[114, 101, 112, 108, 121]⟩ : ByteArray) none 0 0 op7 n7 s7 a7 len7 cap7 op12 n12 s12 a12 len12 cap12 _ 0 (fun W => (∀ y ∈ fp7, W.heap[y]? = wc.heap[y]?) ∧ ∀ y ∈ fp12, W.heap[y]? = y3.heap[y]?) _ (fun W _ => unhide HTL W) (fun W h => (Own.keep _ _ _ (unhide HO7) h.1).lies0) (fun W h => (Own.keep _ _ _ (unhide HO12) h.2).lies0) ?_ ?_ ?_ ?_ ?_ ?_ ?_ ?_).mono ?_
           · exact box_cell _ _ 29 0 _ rfl
           · exact box_cell _ _ 29 1 _ rfl
           · exact box_cell _ _ 29 2 _ rfl
           · exact box_cell _ _ 29 3 _ rfl
           · exact box_cell _ _ 29 4 _ rfl
           · exact box_cell _ _ 29 5 _ rfl
           · exact box_cell _ _ 29 6 _ rfl
           · exact box_cell _ _ 29 7 _ rfl
           rintro e y4 ⟨a15, rfl, hR, hb⟩
           have hp4 := bt (ab _) hb (Nat.le_refl _)
           have h04 := hide (bt (unhide h03) hp4 (Nat.le_refl _))
           have HP4 := hide hp4
           have HR15 := hide hR
           clear k0 k1 k2 k3 c0 c1 c2 c3 d0 d1 d2 d3 hb hR hp4
           obtain ⟨k0, k1, k2, k3⟩ := ((unhide HOw).below (unhide h04)).facts
           obtain ⟨c0, c1, c2, c3⟩ := ((unhide HSh).below (unhide h04)).facts
           obtain ⟨d0, d1, d2, d3⟩ := ((unhide HPr).below (unhide h04)).facts
           have kne4 := Nat.ne_of_lt (lt_of_cell k0)
           have ken4 := Ne.symm kne4
           have cne4 := Nat.ne_of_lt (lt_of_cell c0)
           have cen4 := Ne.symm cne4
           have dne4 := Nat.ne_of_lt (lt_of_cell d0)
           have den4 := Ne.symm dne4)
        | (go_at_call 124
           refine (unhide cChk a15 _ (unhide HR15 _ ⟨fun y hy => (unhide h04).block y (unhide HL7 y hy), fun y hy => (unhide HP4).block y (unhide HLT12 y hy)⟩ (fun _ _ _ => rfl)) ((unhide HER).on (unhide h04))).mono ?_
           rintro e y5 ⟨rfl, hb⟩
           have h05 := hide (bt (unhide h04) hb (Nat.le_refl _))
           have HP5 := hide hb
           obtain ⟨p0, p1, p2, p3, q0, q1, q2, q3⟩ := ((unhide HX).below (unhide h05)).facts
           clear k0 k1 k2 k3 c0 c1 c2 c3 d0 d1 d2 d3 hb
           obtain ⟨k0, k1, k2, k3⟩ := ((unhide HOw).below (unhide h05)).facts
           obtain ⟨c0, c1, c2, c3⟩ := ((unhide HSh).below (unhide h05)).facts
           obtain ⟨d0, d1, d2, d3⟩ := ((unhide HPr).below (unhide h05)).facts
           have kne5 := Nat.ne_of_lt (lt_of_cell k0)
           have ken5 := Ne.symm kne5
           have cne5 := Nat.ne_of_lt (lt_of_cell c0)
           have cen5 := Ne.symm cne5
           have dne5 := Nat.ne_of_lt (lt_of_cell d0)
           have den5 := Ne.symm dne5))
    have HB6 := hide (bt (unhide HB5) (unhide h05) (Nat.le_refl _))
    clear k0 k1 k2 k3 c0 c1 c2 c3 d0 d1 d2 d3
    go_wp2_with fail
    exact bodyPost_ret (v := .tuple #[.agg #[.int .i64 0, .int .i64 0, .string ByteArray.empty, .slice none 0 0], .iface 202 (.pointer (some x))]) (by simp [results, Tryz.results72, go_sem, p0, p1, p2, p3]; try rfl) rfl ⟨rfl, set4_below (unhide HB6) (by omega)⟩

set_option maxRecDepth 100000 in
set_option maxHeartbeats 8000000 in
theorem replyTo_yes (t u ky ce : Tm) (op n : Int) (s : ByteArray) (a : Option Addr) (len cap : Nat) (op2 n2 : Int) (s2 : ByteArray) (a2 : Option Addr) (len2 cap2 : Nat) (op5 n5 : Int) (s5 : ByteArray) (a5 : Option Addr) (len5 cap5 : Nat) (op6 n6 : Int) (s6 : ByteArray) (a6 : Option Addr) (len6 cap6 : Nat) (x : Addr) (w : World) (he : ErrAt x w) (htab : Tab w) (hl : Lies w 0 t (tmCells op n s a len cap)) (hl2 : Lies w 0 u (tmCells op2 n2 s2 a2 len2 cap2)) (hl5 : Lies w 0 ky (tmCells op5 n5 s5 a5 len5 cap5)) (hl6 : Lies w 0 ce (tmCells op6 n6 s6 a6 len6 cap6)) (hsz : t.size + u.size + ky.size + ce.size ≤ 1100000) (hag : shrB t u = true) (hok : okT (replyR t u ky ce (shrT t u)) = true) :
    Calls Tryz.prog 72 #[.agg #[.int .i64 op, .int .i64 n, .string s, .slice a len cap], .agg #[.int .i64 op2, .int .i64 n2, .string s2, .slice a2 len2 cap2], .agg #[.int .i64 op5, .int .i64 n5, .string s5, .slice a5 len5 cap5], .agg #[.int .i64 op6, .int .i64 n6, .string s6, .slice a6 len6 cap6]] w fun e w' => ∃ a', e = .returned (.tuple #[.agg #[.int .i64 3, .int .i64 0, .string ByteArray.empty, .slice a' 2 2], .nilIface]) ∧ Lies w' 0 (replyR t u ky ce (shrT t u)) (tmCells 3 0 ByteArray.empty a' 2 2) ∧ Below w.heap.size w w' := by
  have h41 := hide (fun V (hV : Below w.heap.size w V) => shareI_yes t u op n s a len cap op2 n2 s2 a2 len2 cap2 x V (he.on hV) (hl.below hV) (hl2.below hV) (by omega) hag)
  have hwd := hide (wordI (⟨#[114, 101, 112, 108, 121]⟩ : ByteArray))
  have HTL : Hid (∀ v : World, Lies v 0 (textT replyW) (tmCells 2 0 (⟨#[114, 101, 112, 108, 121]⟩ : ByteArray) none 0 0)) := fun v => text_lies replyW (by decide) v
  have hm0 : (-9223372036854775808 : Int) ≤ 0 := by decide
  have hm1 : (0 : Int) ≤ 9223372036854775807 := by decide
  have cPub := hide (fun V h (he : ErrAt x V) => pubI t op n s a len cap V h (by omega) ⟨x, he⟩)
  have cBoth := hide (fun op n s a len cap op2 n2 s2 a2 len2 cap2 V h h2 (he : ErrAt x V) => bothI u (madeT 4 [t]) op n s a len cap op2 n2 s2 a2 len2 cap2 V h h2 (by have := made200 4 [t]; omega) ⟨x, he⟩)
  have cSign := hide (fun op n s a len cap op2 n2 s2 a2 len2 cap2 V h h2 (he : ErrAt x V) => signI ky (bothT u (madeT 4 [t])) op n s a len cap op2 n2 s2 a2 len2 cap2 V h h2 (by have : (bothT u (madeT 4 [t])).size ≤ 200 := made200 _ _; omega) ⟨x, he⟩)
  have cKey := hide (fun op n s a len cap V h ht (he : ErrAt x V) => keyI (shrT t u) 0 op n s a len cap V h (by have := shr_le t u; omega) hm0 hm1 ht ⟨x, he⟩)
  have cSeal := hide (fun op n s a len cap op2 n2 s2 a2 len2 cap2 V h h2 ht (he : ErrAt x V) => sealI (keyT (shrT t u) 0) (twoT ce (madeT 8 [ky, bothT u (madeT 4 [t])])) 0 op n s a len cap op2 n2 s2 a2 len2 cap2 V h h2 (by have := made200 8 [ky, bothT u (madeT 4 [t])]; have : (keyT (shrT t u) 0).size ≤ 200 := made200 _ _; simp only [twoT, Tm.size, Tm.sizes]; omega) hm0 hm1 ht ⟨x, he⟩)
  have cChk := hide (fun a5 V h => checked_yes (replyR t u ky ce (shrT t u)) 3 0 ByteArray.empty a5 2 2 V h (reply_le t u ky ce (shrT t u) (by omega)) hok)
  have HRE : Hid (replyR t u ky ce (shrT t u) = twoT (textT replyW) (twoT (madeT 4 [t]) (sealT (keyT (shrT t u) 0) 0 (twoT ce (madeT 8 [ky, bothT u (madeT 4 [t])]))))) := rfl
  rw [unhide HRE] at cChk ⊢
  clear HRE
  generalize sealT (keyT (shrT t u) 0) 0 (twoT ce (madeT 8 [ky, bothT u (madeT 4 [t])])) = ET at *
  generalize hPP : twoT ce (madeT 8 [ky, bothT u (madeT 4 [t])]) = PP at *
  generalize textT replyW = TT at *
  generalize madeT 8 [ky, bothT u (madeT 4 [t])] = GT at *
  generalize bothT u (madeT 4 [t]) = BT at *
  generalize madeT 4 [t] = PT at *
  generalize keyT (shrT t u) 0 = KT at *
  generalize shrT t u = SH at *
  have hB0 : Below w.heap.size w (((((w.alloc (.cells #[.int .i64 op, .int .i64 n, .string s, .slice a len cap] 29)).alloc (.cells #[.int .i64 op2, .int .i64 n2, .string s2, .slice a2 len2 cap2] 29)).alloc (.cells #[.int .i64 op5, .int .i64 n5, .string s5, .slice a5 len5 cap5] 29)).alloc (.cells #[.int .i64 op6, .int .i64 n6, .string s6, .slice a6 len6 cap6] 29)).alloc (.cells #[.int .i64 0, .int .i64 0, .string ByteArray.empty, .slice none 0 0] 29)) := bt (bt (bt (bt (ab _) (ab _) (Nat.le_refl _)) (ab _) (Nat.le_refl _)) (ab _) (Nat.le_refl _)) (ab _) (Nat.le_refl _)
  have HX : Hid (ZBox (((((w.alloc (.cells #[.int .i64 op, .int .i64 n, .string s, .slice a len cap] 29)).alloc (.cells #[.int .i64 op2, .int .i64 n2, .string s2, .slice a2 len2 cap2] 29)).alloc (.cells #[.int .i64 op5, .int .i64 n5, .string s5, .slice a5 len5 cap5] 29)).alloc (.cells #[.int .i64 op6, .int .i64 n6, .string s6, .slice a6 len6 cap6] 29)).alloc (.cells #[.int .i64 0, .int .i64 0, .string ByteArray.empty, .slice none 0 0] 29)) (w.heap.size + 1 + 1 + 1 + 1)) := by
    have := ZBox.new ((((w.alloc (.cells #[.int .i64 op, .int .i64 n, .string s, .slice a len cap] 29)).alloc (.cells #[.int .i64 op2, .int .i64 n2, .string s2, .slice a2 len2 cap2] 29)).alloc (.cells #[.int .i64 op5, .int .i64 n5, .string s5, .slice a5 len5 cap5] 29)).alloc (.cells #[.int .i64 op6, .int .i64 n6, .string s6, .slice a6 len6 cap6] 29))
    rwa [heap_size_alloc, heap_size_alloc, heap_size_alloc, heap_size_alloc] at this
  have HA0 : Hid (RowT 29 (((((w.alloc (.cells #[.int .i64 op, .int .i64 n, .string s, .slice a len cap] 29)).alloc (.cells #[.int .i64 op2, .int .i64 n2, .string s2, .slice a2 len2 cap2] 29)).alloc (.cells #[.int .i64 op5, .int .i64 n5, .string s5, .slice a5 len5 cap5] 29)).alloc (.cells #[.int .i64 op6, .int .i64 n6, .string s6, .slice a6 len6 cap6] 29)).alloc (.cells #[.int .i64 0, .int .i64 0, .string ByteArray.empty, .slice none 0 0] 29)) (w.heap.size) op n s a len cap) := by
    have := (((((RowT.new 29 w op n s a len cap).below (ab (.cells #[.int .i64 op2, .int .i64 n2, .string s2, .slice a2 len2 cap2] 29))).below (ab (.cells #[.int .i64 op5, .int .i64 n5, .string s5, .slice a5 len5 cap5] 29))).below (ab (.cells #[.int .i64 op6, .int .i64 n6, .string s6, .slice a6 len6 cap6] 29))).below (ab (.cells #[.int .i64 0, .int .i64 0, .string ByteArray.empty, .slice none 0 0] 29)))
    exact this
  have HA1 : Hid (RowT 29 (((((w.alloc (.cells #[.int .i64 op, .int .i64 n, .string s, .slice a len cap] 29)).alloc (.cells #[.int .i64 op2, .int .i64 n2, .string s2, .slice a2 len2 cap2] 29)).alloc (.cells #[.int .i64 op5, .int .i64 n5, .string s5, .slice a5 len5 cap5] 29)).alloc (.cells #[.int .i64 op6, .int .i64 n6, .string s6, .slice a6 len6 cap6] 29)).alloc (.cells #[.int .i64 0, .int .i64 0, .string ByteArray.empty, .slice none 0 0] 29)) (w.heap.size + 1) op2 n2 s2 a2 len2 cap2) := by
    have := ((((RowT.new 29 (w.alloc (.cells #[.int .i64 op, .int .i64 n, .string s, .slice a len cap] 29)) op2 n2 s2 a2 len2 cap2).below (ab (.cells #[.int .i64 op5, .int .i64 n5, .string s5, .slice a5 len5 cap5] 29))).below (ab (.cells #[.int .i64 op6, .int .i64 n6, .string s6, .slice a6 len6 cap6] 29))).below (ab (.cells #[.int .i64 0, .int .i64 0, .string ByteArray.empty, .slice none 0 0] 29)))
    rwa [heap_size_alloc] at this
  have HA2 : Hid (RowT 29 (((((w.alloc (.cells #[.int .i64 op, .int .i64 n, .string s, .slice a len cap] 29)).alloc (.cells #[.int .i64 op2, .int .i64 n2, .string s2, .slice a2 len2 cap2] 29)).alloc (.cells #[.int .i64 op5, .int .i64 n5, .string s5, .slice a5 len5 cap5] 29)).alloc (.cells #[.int .i64 op6, .int .i64 n6, .string s6, .slice a6 len6 cap6] 29)).alloc (.cells #[.int .i64 0, .int .i64 0, .string ByteArray.empty, .slice none 0 0] 29)) (w.heap.size + 1 + 1) op5 n5 s5 a5 len5 cap5) := by
    have := (((RowT.new 29 ((w.alloc (.cells #[.int .i64 op, .int .i64 n, .string s, .slice a len cap] 29)).alloc (.cells #[.int .i64 op2, .int .i64 n2, .string s2, .slice a2 len2 cap2] 29)) op5 n5 s5 a5 len5 cap5).below (ab (.cells #[.int .i64 op6, .int .i64 n6, .string s6, .slice a6 len6 cap6] 29))).below (ab (.cells #[.int .i64 0, .int .i64 0, .string ByteArray.empty, .slice none 0 0] 29)))
    rwa [heap_size_alloc, heap_size_alloc] at this
  have HA3 : Hid (RowT 29 (((((w.alloc (.cells #[.int .i64 op, .int .i64 n, .string s, .slice a len cap] 29)).alloc (.cells #[.int .i64 op2, .int .i64 n2, .string s2, .slice a2 len2 cap2] 29)).alloc (.cells #[.int .i64 op5, .int .i64 n5, .string s5, .slice a5 len5 cap5] 29)).alloc (.cells #[.int .i64 op6, .int .i64 n6, .string s6, .slice a6 len6 cap6] 29)).alloc (.cells #[.int .i64 0, .int .i64 0, .string ByteArray.empty, .slice none 0 0] 29)) (w.heap.size + 1 + 1 + 1) op6 n6 s6 a6 len6 cap6) := by
    have := ((RowT.new 29 (((w.alloc (.cells #[.int .i64 op, .int .i64 n, .string s, .slice a len cap] 29)).alloc (.cells #[.int .i64 op2, .int .i64 n2, .string s2, .slice a2 len2 cap2] 29)).alloc (.cells #[.int .i64 op5, .int .i64 n5, .string s5, .slice a5 len5 cap5] 29)) op6 n6 s6 a6 len6 cap6).below (ab (.cells #[.int .i64 0, .int .i64 0, .string ByteArray.empty, .slice none 0 0] 29)))
    rwa [heap_size_alloc, heap_size_alloc, heap_size_alloc] at this
  have HL0 := hide (hl.below hB0)
  have HL1 := hide (hl2.below hB0)
  have HL2 := hide (hl5.below hB0)
  have HL3 := hide (hl6.below hB0)
  have HB0 := hide hB0
  have HER := hide (he.on hB0)
  have HTB := hide (htab.on hB0)
  obtain ⟨c0, c1, c2, c3⟩ := (unhide HA0).facts
  obtain ⟨d0, d1, d2, d3⟩ := (unhide HA1).facts
  clear hl hl2 hl5 hl6 hsz hB0 hag hm0 hm1 he htab hok
  go_enter Tryz.func72, Tryz.ntmps72
  go_wp2_with fail
  refine (unhide h41 _ (unhide HB0)).mono ?_
  rintro e w2 ⟨a3, rfl, hL3, hb2⟩
  have hb3 := bt hb2 (ab (.cells #[.int .i64 5, .int .i64 0, .string ByteArray.empty, .slice a3 2 2] 29)) (Nat.le_refl _)
  have HB2 := hide (bt (unhide HB0) hb3 (Nat.le_refl _))
  have HGS : Hid (w.heap.size + 1 + 1 + 1 + 1 < w2.heap.size) := lt_of_heap ((unhide HX).below hb2)
  have HX := hide ((unhide HX).below hb3)
  have HA0 := hide ((unhide HA0).below hb3)
  have HA1 := hide ((unhide HA1).below hb3)
  have HA2 := hide ((unhide HA2).below hb3)
  have HA3 := hide ((unhide HA3).below hb3)
  have HL0 := hide ((unhide HL0).below hb3)
  have HL1 := hide ((unhide HL1).below hb3)
  have HL2 := hide ((unhide HL2).below hb3)
  have HL3 := hide ((unhide HL3).below hb3)
  have HLS := hide (hL3.below (ab (.cells #[.int .i64 5, .int .i64 0, .string ByteArray.empty, .slice a3 2 2] 29)))
  have HSh := hide (RowT.new 29 w2 5 0 ByteArray.empty a3 2 2)
  have HER := hide ((unhide HER).on hb3)
  have HTB := hide ((unhide HTB).on hb3)
  clear c0 c1 c2 c3 d0 d1 d2 d3 hb2 hb3 hL3 HB0 h41
  obtain ⟨c0, c1, c2, c3⟩ := (unhide HA0).facts
  go_wp2_with fail
  generalize hgw : w2.alloc (.cells #[.int .i64 5, .int .i64 0, .string ByteArray.empty, .slice a3 2 2] 29) = W2 at *
  clear hgw
  generalize w2.heap.size = bS at *
  refine (unhide cPub _ (unhide HL0) (unhide HER)).mono ?_
  rintro e w3 ⟨op7, n7, s7, a7, len7, cap7, fp7, rfl, hO7, ⟨_, hge7⟩, hb2⟩
  have HN7 : Hid (∀ y ∈ fp7, y ≠ w.heap.size + 1 + 1 + 1 + 1) := fun y hy => by have := hge7 y hy; have := lt_of_heap (unhide HX); omega
  have hb3 := bt hb2 (ab (.cells #[.int .i64 op7, .int .i64 n7, .string s7, .slice a7 len7 cap7] 29)) (Nat.le_refl _)
  have HB4 := hide (bt (unhide HB2) hb3 (Nat.le_refl _))
  have HGO : Hid (w.heap.size + 1 + 1 + 1 + 1 < w3.heap.size) := lt_of_heap ((unhide HX).below hb2)
  have HX := hide ((unhide HX).below hb3)
  have HA1 := hide ((unhide HA1).below hb3)
  have HA2 := hide ((unhide HA2).below hb3)
  have HA3 := hide ((unhide HA3).below hb3)
  have HL1 := hide ((unhide HL1).below hb3)
  have HL2 := hide ((unhide HL2).below hb3)
  have HL3 := hide ((unhide HL3).below hb3)
  have HLS := hide ((unhide HLS).below hb3)
  have HSh := hide ((unhide HSh).below hb3)
  have HER := hide ((unhide HER).on hb3)
  have HTB := hide ((unhide HTB).on hb3)
  have HLO := hide (hO7.lies0.below (ab (.cells #[.int .i64 op7, .int .i64 n7, .string s7, .slice a7 len7 cap7] 29)))
  have HO7 := hide (hO7.below (ab (.cells #[.int .i64 op7, .int .i64 n7, .string s7, .slice a7 len7 cap7] 29)))
  have HOw := hide (RowT.new 29 w3 op7 n7 s7 a7 len7 cap7)
  clear c0 c1 c2 c3 hb2 hb3 hO7 hge7 HB2 HA0 HL0
  go_wp2_with fail
  generalize hgw : w3.alloc (.cells #[.int .i64 op7, .int .i64 n7, .string s7, .slice a7 len7 cap7] 29) = W4 at *
  clear hgw
  generalize w3.heap.size = bO at *
  obtain ⟨d0, d1, d2, d3⟩ := (unhide HA1).facts
  obtain ⟨i0, i1, i2, i3⟩ := (unhide HA2).facts
  obtain ⟨j0, j1, j2, j3⟩ := (unhide HA3).facts
  obtain ⟨k0, k1, k2, k3⟩ := (unhide HOw).facts
  have dne0 := Nat.ne_of_lt (lt_of_cell d0)
  have den0 := Ne.symm dne0
  have ine0 := Nat.ne_of_lt (lt_of_cell i0)
  have ien0 := Ne.symm ine0
  have jne0 := Nat.ne_of_lt (lt_of_cell j0)
  have jen0 := Ne.symm jne0
  have kne0 := Nat.ne_of_lt (lt_of_cell k0)
  have ken0 := Ne.symm kne0
  go_cut [13] (fun p wx => RrCut PP W4 p wx)
  case first =>
    go_region_held3 (fun x => x.cell? ⟨w.heap.size + 1, 0, none⟩ = some (.int .i64 op2) ∧ x.cell? ⟨w.heap.size + 1, 1, none⟩ = some (.int .i64 n2) ∧ x.cell? ⟨w.heap.size + 1, 2, none⟩ = some (.string s2) ∧ x.cell? ⟨w.heap.size + 1, 3, none⟩ = some (.slice a2 len2 cap2) ∧ x.cell? ⟨w.heap.size + 1 + 1, 0, none⟩ = some (.int .i64 op5) ∧ x.cell? ⟨w.heap.size + 1 + 1, 1, none⟩ = some (.int .i64 n5) ∧ x.cell? ⟨w.heap.size + 1 + 1, 2, none⟩ = some (.string s5) ∧ x.cell? ⟨w.heap.size + 1 + 1, 3, none⟩ = some (.slice a5 len5 cap5) ∧ x.cell? ⟨w.heap.size + 1 + 1 + 1, 0, none⟩ = some (.int .i64 op6) ∧ x.cell? ⟨w.heap.size + 1 + 1 + 1, 1, none⟩ = some (.int .i64 n6) ∧ x.cell? ⟨w.heap.size + 1 + 1 + 1, 2, none⟩ = some (.string s6) ∧ x.cell? ⟨w.heap.size + 1 + 1 + 1, 3, none⟩ = some (.slice a6 len6 cap6) ∧ x.cell? ⟨bO, 0, none⟩ = some (.int .i64 op7) ∧ x.cell? ⟨bO, 1, none⟩ = some (.int .i64 n7) ∧ x.cell? ⟨bO, 2, none⟩ = some (.string s7) ∧ x.cell? ⟨bO, 3, none⟩ = some (.slice a7 len7 cap7)) (go_keep)
      (first
        | (go_at_call 33
           have hc := fun V (hV : Below W4.heap.size W4 V) => unhide cBoth op2 n2 s2 a2 len2 cap2 op7 n7 s7 a7 len7 cap7 V ((unhide HL1).below hV) ((unhide HLO).below hV) ((unhide HER).on hV)
           refine (hc _ ?_).mono ?_
           first
             | exact (Below.refl _ _).drew
             | exact (ab _).drew
           rintro e y1 ⟨op10, n10, s10, a10, len10, cap10, fp10, rfl, hO, _, hb⟩
           try have zz1 := hide ((ZBox.new W4).drew.below hb)
           have h01 : Hid (Below W4.heap.size W4 y1) := by
             first
               | exact below_drew' hb
               | exact bt (ab _) (below_drew' hb) (Nat.le_refl _)
           have HR10 := hide hO.lies0
           clear d0 d1 d2 d3 i0 i1 i2 i3 j0 j1 j2 j3 k0 k1 k2 k3 hb hO hc
           obtain ⟨d0, d1, d2, d3⟩ := ((unhide HA1).below (unhide h01)).facts
           obtain ⟨i0, i1, i2, i3⟩ := ((unhide HA2).below (unhide h01)).facts
           obtain ⟨j0, j1, j2, j3⟩ := ((unhide HA3).below (unhide h01)).facts
           obtain ⟨k0, k1, k2, k3⟩ := ((unhide HOw).below (unhide h01)).facts
           have dne1 := Nat.ne_of_lt (lt_of_cell d0)
           have den1 := Ne.symm dne1
           have ine1 := Nat.ne_of_lt (lt_of_cell i0)
           have ien1 := Ne.symm ine1
           have jne1 := Nat.ne_of_lt (lt_of_cell j0)
           have jen1 := Ne.symm jne1
           have kne1 := Nat.ne_of_lt (lt_of_cell k0)
           have ken1 := Ne.symm kne1)
        | (go_at_call 39
           have hc := fun V (hV : Below y1.heap.size y1 V) => unhide cSign op5 n5 s5 a5 len5 cap5 op10 n10 s10 a10 len10 cap10 V ((unhide HL2).below (bt (unhide h01) hV (Nat.le_refl _))) ((unhide HR10).below hV) ((unhide HER).on (bt (unhide h01) hV (Nat.le_refl _)))
           refine (hc _ ?_).mono ?_
           first
             | exact Below.refl _ _
             | exact ab _
           rintro e y2 ⟨op11, n11, s11, a11, len11, cap11, fp11, rfl, hO, ⟨_, hge⟩, hb⟩
           try have zz2 := hide ((unhide zz1).below hb)
           try have zz2 := hide ((ZBox.new y1).below hb)
           have hp2 : Hid (Below y1.heap.size y1 y2) := by
             first
               | exact hb
               | exact bt (ab _) hb (Nat.le_refl _)
           have h02 := hide (bt (unhide h01) (unhide hp2) (Nat.le_refl _))
           have HO11 := hide hO
           have HGE11 := hide hge
           have HLT11 := hide (Own.lt _ _ _ hO)
           clear d0 d1 d2 d3 i0 i1 i2 i3 j0 j1 j2 j3 k0 k1 k2 k3 hb hO hc hge
           obtain ⟨d0, d1, d2, d3⟩ := ((unhide HA1).below (unhide h02)).facts
           obtain ⟨i0, i1, i2, i3⟩ := ((unhide HA2).below (unhide h02)).facts
           obtain ⟨j0, j1, j2, j3⟩ := ((unhide HA3).below (unhide h02)).facts
           obtain ⟨k0, k1, k2, k3⟩ := ((unhide HOw).below (unhide h02)).facts
           have dne2 := Nat.ne_of_lt (lt_of_cell d0)
           have den2 := Ne.symm dne2
           have wne2 : w.heap.size ≠ y2.heap.size := by have := lt_of_cell d0; omega
           have wen2 := Ne.symm wne2
           have dnx := Nat.ne_of_lt (Nat.lt_succ_of_lt (lt_of_cell d0))
           have dxn := Ne.symm dnx
           have ine2 := Nat.ne_of_lt (lt_of_cell i0)
           have ien2 := Ne.symm ine2
           have inx := Nat.ne_of_lt (Nat.lt_succ_of_lt (lt_of_cell i0))
           have ixn := Ne.symm inx
           have jne2 := Nat.ne_of_lt (lt_of_cell j0)
           have jen2 := Ne.symm jne2
           have jnx := Nat.ne_of_lt (Nat.lt_succ_of_lt (lt_of_cell j0))
           have jxn := Ne.symm jnx
           have kne2 := Nat.ne_of_lt (lt_of_cell k0)
           have ken2 := Ne.symm kne2
           have knx := Nat.ne_of_lt (Nat.lt_succ_of_lt (lt_of_cell k0))
           have kxn := Ne.symm knx)
        | (go_at_call 91
           refine (rowq1 ce GT op6 n6 s6 a6 len6 cap6 op11 n11 s11 a11 len11 cap11 _ 0 (fun W => Below W4.heap.size W4 W ∧ ∀ y ∈ fp11, W.heap[y]? = y2.heap[y]?) _ (fun W h => (unhide HL3).below h.1) (fun W h => (Own.keep _ _ _ (unhide HO11) h.2).lies0) ?_ ?_ ?_ ?_).mono ?_
           · first
               | exact box_cell _ _ 29 0 _ rfl
               | (have hbx := box_cell (y2.alloc (.cells #[.int .i64 0, .int .i64 0, .string ByteArray.empty, .slice none 0 0] 29)) #[.int .i64 op11, .int .i64 n11, .string s11, .slice a11 len11 cap11] 29 0 _ rfl
                  simp only [heap_size_alloc] at hbx
                  exact hbx)
               | exact kpc (ab _) (box_cell y2 #[.int .i64 op11, .int .i64 n11, .string s11, .slice a11 len11 cap11] 29 0 _ rfl)
           · first
               | exact box_cell _ _ 29 1 _ rfl
               | (have hbx := box_cell (y2.alloc (.cells #[.int .i64 0, .int .i64 0, .string ByteArray.empty, .slice none 0 0] 29)) #[.int .i64 op11, .int .i64 n11, .string s11, .slice a11 len11 cap11] 29 1 _ rfl
                  simp only [heap_size_alloc] at hbx
                  exact hbx)
               | exact kpc (ab _) (box_cell y2 #[.int .i64 op11, .int .i64 n11, .string s11, .slice a11 len11 cap11] 29 1 _ rfl)
           · first
               | exact box_cell _ _ 29 2 _ rfl
               | (have hbx := box_cell (y2.alloc (.cells #[.int .i64 0, .int .i64 0, .string ByteArray.empty, .slice none 0 0] 29)) #[.int .i64 op11, .int .i64 n11, .string s11, .slice a11 len11 cap11] 29 2 _ rfl
                  simp only [heap_size_alloc] at hbx
                  exact hbx)
               | exact kpc (ab _) (box_cell y2 #[.int .i64 op11, .int .i64 n11, .string s11, .slice a11 len11 cap11] 29 2 _ rfl)
           · first
               | exact box_cell _ _ 29 3 _ rfl
               | (have hbx := box_cell (y2.alloc (.cells #[.int .i64 0, .int .i64 0, .string ByteArray.empty, .slice none 0 0] 29)) #[.int .i64 op11, .int .i64 n11, .string s11, .slice a11 len11 cap11] 29 3 _ rfl
                  simp only [heap_size_alloc] at hbx
                  exact hbx)
               | exact kpc (ab _) (box_cell y2 #[.int .i64 op11, .int .i64 n11, .string s11, .slice a11 len11 cap11] 29 3 _ rfl)
           rintro e y3 ⟨a9, rfl, hR, hb⟩
           try have zz3 := hide (((unhide zz2).below (ab (.cells #[.int .i64 op11, .int .i64 n11, .string s11, .slice a11 len11 cap11] 29))).below hb)
           try have zz3 := hide (((ZBox.new y2).below (ab (.cells #[.int .i64 op11, .int .i64 n11, .string s11, .slice a11 len11 cap11] 29))).below hb)
           try (have zz3' := (ZBox.new (y2.alloc (.cells #[.int .i64 op11, .int .i64 n11, .string s11, .slice a11 len11 cap11] 29))).below hb; rw [heap_size_alloc] at zz3'; have zz3 := hide zz3'; clear zz3')
           have hp3 : Hid (Below y2.heap.size y2 y3) := by
             first
               | exact bt (ab _) hb (Nat.le_refl _)
               | exact bt (bt (ab _) (ab _) (Nat.le_refl _)) hb (Nat.le_refl _)
           have h03 := hide (bt (unhide h02) (unhide hp3) (Nat.le_refl _))
           have HR9 := hide hR
           clear d0 d1 d2 d3 i0 i1 i2 i3 j0 j1 j2 j3 k0 k1 k2 k3 hb hR
           obtain ⟨d0, d1, d2, d3⟩ := ((unhide HA1).below (unhide h03)).facts
           obtain ⟨i0, i1, i2, i3⟩ := ((unhide HA2).below (unhide h03)).facts
           obtain ⟨j0, j1, j2, j3⟩ := ((unhide HA3).below (unhide h03)).facts
           obtain ⟨k0, k1, k2, k3⟩ := ((unhide HOw).below (unhide h03)).facts
           have dne3 := Nat.ne_of_lt (lt_of_cell d0)
           have den3 := Ne.symm dne3
           have ine3 := Nat.ne_of_lt (lt_of_cell i0)
           have ien3 := Ne.symm ine3
           have jne3 := Nat.ne_of_lt (lt_of_cell j0)
           have jen3 := Ne.symm jne3
           have kne3 := Nat.ne_of_lt (lt_of_cell k0)
           have ken3 := Ne.symm kne3
           try obtain ⟨p0, p1, p2, p3, q0, q1, q2, q3⟩ := (unhide zz3).facts))
    all_goals
      go_wp2_with fail
      go_meet
      have s1 := (unhide h01).size
      have s2 := (unhide hp2).size
      rw [← hPP]
      first
        | (with_reducible refine RrCut.late ?_ (unhide HR9) ?_
           exact unhide h03
           exact fun W hW => ⟨bt (unhide h03) hW (Nat.le_refl _), fun y hy => (hW.block y (Nat.lt_of_lt_of_le (unhide HLT11 y hy) (unhide hp3).size)).trans ((unhide hp3).block y (unhide HLT11 y hy))⟩)
        | (with_reducible refine RrCut.early ?_ (unhide zz3) ?_ (unhide HR9) ?_ ?_
           exact unhide h03
           omega
           (simp only [heap_size_alloc]; first | (have := lt_of_heap (unhide zz2); omega) | omega)
           refine ⟨set4_below (unhide h03) (by omega), fun y hy => (set4_heap _ _ _ _ _ _ y ?_).trans ((unhide hp3).block y (unhide HLT11 y hy))⟩
           have k1 := unhide HLT11 y hy
           have k2 := unhide HGE11 y hy
           first
             | omega
             | (have := lt_of_heap (unhide zz1); omega)
             | (simp only [heap_size_alloc] at k2; omega))
  case rest =>
    obtain ⟨bP, a9, rfl, hRP, hLP, hge, hbc⟩ := hcut
    have HB5 := hide (bt (unhide HB4) hbc (Nat.le_refl _))
    have nS := Nat.ne_of_lt (unhide HGS)
    have nO := Nat.ne_of_lt (unhide HGO)
    have nP : w.heap.size + 1 + 1 + 1 + 1 ≠ bP := by have := lt_of_heap (unhide HX); omega
    have mS := Ne.symm nS
    have mO := Ne.symm nO
    have mP := Ne.symm nP
    have HX := hide ((unhide HX).below hbc)
    have HLS := hide ((unhide HLS).below hbc)
    have HSh := hide ((unhide HSh).below hbc)
    have HOw := hide ((unhide HOw).below hbc)
    have HO7 := hide ((unhide HO7).below hbc)
    have HL7 := hide (Own.lt _ _ _ (unhide HO7))
    have HER := hide ((unhide HER).on hbc)
    have HTB := hide ((unhide HTB).on hbc)
    have HPr := hide hRP
    have HLP := hide hLP
    clear d0 d1 d2 d3 i0 i1 i2 i3 j0 j1 j2 j3 k0 k1 k2 k3 hbc hRP hLP hge HLO
    obtain ⟨k0, k1, k2, k3⟩ := (unhide HOw).facts
    obtain ⟨c0, c1, c2, c3⟩ := (unhide HSh).facts
    obtain ⟨d0, d1, d2, d3⟩ := (unhide HPr).facts
    have kne9 := Nat.ne_of_lt (lt_of_cell k0)
    have ken9 := Ne.symm kne9
    have cne9 := Nat.ne_of_lt (lt_of_cell c0)
    have cen9 := Ne.symm cne9
    have dne9 := Nat.ne_of_lt (lt_of_cell d0)
    have den9 := Ne.symm dne9
    have hxl := lt_of_heap (unhide HX)
    go_wp2_with fail
    go_region_held3 (fun x => x.cell? ⟨bO, 0, none⟩ = some (.int .i64 op7) ∧ x.cell? ⟨bO, 1, none⟩ = some (.int .i64 n7) ∧ x.cell? ⟨bO, 2, none⟩ = some (.string s7) ∧ x.cell? ⟨bO, 3, none⟩ = some (.slice a7 len7 cap7) ∧ x.cell? ⟨bS, 0, none⟩ = some (.int .i64 5) ∧ x.cell? ⟨bS, 1, none⟩ = some (.int .i64 0) ∧ x.cell? ⟨bS, 2, none⟩ = some (.string ByteArray.empty) ∧ x.cell? ⟨bS, 3, none⟩ = some (.slice a3 2 2) ∧ x.cell? ⟨bP, 0, none⟩ = some (.int .i64 3) ∧ x.cell? ⟨bP, 1, none⟩ = some (.int .i64 0) ∧ x.cell? ⟨bP, 2, none⟩ = some (.string ByteArray.empty) ∧ x.cell? ⟨bP, 3, none⟩ = some (.slice a9 2 2)) (go_keep)
      (first
        | (go_at_call 92
           refine (unhide hwd _).mono ?_
           rintro e y1 ⟨rfl, hb⟩
           have h01 := hide (below_drew' hb)
           clear k0 k1 k2 k3 c0 c1 c2 c3 d0 d1 d2 d3 hb
           obtain ⟨k0, k1, k2, k3⟩ := ((unhide HOw).below (unhide h01)).facts
           obtain ⟨c0, c1, c2, c3⟩ := ((unhide HSh).below (unhide h01)).facts
           obtain ⟨d0, d1, d2, d3⟩ := ((unhide HPr).below (unhide h01)).facts
           have kne1 := Nat.ne_of_lt (lt_of_cell k0)
           have ken1 := Ne.symm kne1
           have cne1 := Nat.ne_of_lt (lt_of_cell c0)
           have cen1 := Ne.symm cne1
           have dne1 := Nat.ne_of_lt (lt_of_cell d0)
           have den1 := Ne.symm dne1)
        | (go_at_call 94
           refine (unhide cKey 5 0 ByteArray.empty a3 2 2 _ ((unhide HLS).below (unhide h01)) ((unhide HTB).on (unhide h01)) ((unhide HER).on (unhide h01))).mono ?_
           rintro e y2 ⟨op8, n8, s8, a8, len8, cap8, fp8, rfl, hO, _, hb⟩
           have h02 := hide (bt (unhide h01) hb (Nat.le_refl _))
           have HR8 := hide hO.lies0
           clear k0 k1 k2 k3 c0 c1 c2 c3 d0 d1 d2 d3 hb hO
           obtain ⟨k0, k1, k2, k3⟩ := ((unhide HOw).below (unhide h02)).facts
           obtain ⟨c0, c1, c2, c3⟩ := ((unhide HSh).below (unhide h02)).facts
           obtain ⟨d0, d1, d2, d3⟩ := ((unhide HPr).below (unhide h02)).facts
           have kne2 := Nat.ne_of_lt (lt_of_cell k0)
           have ken2 := Ne.symm kne2
           have knx := Nat.ne_of_lt (Nat.lt_succ_of_lt (lt_of_cell k0))
           have kxn := Ne.symm knx
           have cne2 := Nat.ne_of_lt (lt_of_cell c0)
           have cen2 := Ne.symm cne2
           have cnx := Nat.ne_of_lt (Nat.lt_succ_of_lt (lt_of_cell c0))
           have cxn := Ne.symm cnx
           have dne2 := Nat.ne_of_lt (lt_of_cell d0)
           have den2 := Ne.symm dne2
           have dnx := Nat.ne_of_lt (Nat.lt_succ_of_lt (lt_of_cell d0))
           have dxn := Ne.symm dnx)
        | (go_at_call 93
           refine (unhide cSeal op8 n8 s8 a8 len8 cap8 3 0 ByteArray.empty a9 2 2 _ (unhide HR8) ((unhide HLP).below (unhide h02)) ((unhide HTB).on (unhide h02)) ((unhide HER).on (unhide h02))).mono ?_
           rintro e y3 ⟨op12, n12, s12, a12, len12, cap12, fp12, rfl, hO, ⟨_, hge⟩, hb⟩
           have h03 := hide (bt (unhide h02) hb (Nat.le_refl _))
           have HO12 := hide hO
           have HGE12 : Hid (∀ y ∈ fp12, wc.heap.size ≤ y) := fun y hy => Nat.le_trans (unhide h02).size (hge y hy)
           have HLT12 := hide (Own.lt _ _ _ hO)
           clear k0 k1 k2 k3 c0 c1 c2 c3 d0 d1 d2 d3 hb hO hge
           obtain ⟨k0, k1, k2, k3⟩ := ((unhide HOw).below (unhide h03)).facts
           obtain ⟨c0, c1, c2, c3⟩ := ((unhide HSh).below (unhide h03)).facts
           obtain ⟨d0, d1, d2, d3⟩ := ((unhide HPr).below (unhide h03)).facts
           have kne3 := Nat.ne_of_lt (lt_of_cell k0)
           have ken3 := Ne.symm kne3
           have cne3 := Nat.ne_of_lt (lt_of_cell c0)
           have cen3 := Ne.symm cne3
           have dne3 := Nat.ne_of_lt (lt_of_cell d0)
           have den3 := Ne.symm dne3)
        | (go_at_call 91
           refine (rowq2 TT PT ET 2 0 (⟨#[114, 101, 112, 108, 121]⟩ : ByteArray) none 0 0 op7 n7 s7 a7 len7 cap7 op12 n12 s12 a12 len12 cap12 _ 0 (fun W => (∀ y ∈ fp7, W.heap[y]? = wc.heap[y]?) ∧ ∀ y ∈ fp12, W.heap[y]? = y3.heap[y]?) _ (fun W _ => unhide HTL W) (fun W h => (Own.keep _ _ _ (unhide HO7) h.1).lies0) (fun W h => (Own.keep _ _ _ (unhide HO12) h.2).lies0) ?_ ?_ ?_ ?_ ?_ ?_ ?_ ?_).mono ?_
           · exact box_cell _ _ 29 0 _ rfl
           · exact box_cell _ _ 29 1 _ rfl
           · exact box_cell _ _ 29 2 _ rfl
           · exact box_cell _ _ 29 3 _ rfl
           · exact box_cell _ _ 29 4 _ rfl
           · exact box_cell _ _ 29 5 _ rfl
           · exact box_cell _ _ 29 6 _ rfl
           · exact box_cell _ _ 29 7 _ rfl
           rintro e y4 ⟨a15, rfl, hR, hb⟩
           have hp4 := bt (ab _) hb (Nat.le_refl _)
           have h04 := hide (bt (unhide h03) hp4 (Nat.le_refl _))
           have HP4 := hide hp4
           have HR15 := hide hR
           clear k0 k1 k2 k3 c0 c1 c2 c3 d0 d1 d2 d3 hb hR hp4
           obtain ⟨k0, k1, k2, k3⟩ := ((unhide HOw).below (unhide h04)).facts
           obtain ⟨c0, c1, c2, c3⟩ := ((unhide HSh).below (unhide h04)).facts
           obtain ⟨d0, d1, d2, d3⟩ := ((unhide HPr).below (unhide h04)).facts
           have kne4 := Nat.ne_of_lt (lt_of_cell k0)
           have ken4 := Ne.symm kne4
           have cne4 := Nat.ne_of_lt (lt_of_cell c0)
           have cen4 := Ne.symm cne4
           have dne4 := Nat.ne_of_lt (lt_of_cell d0)
           have den4 := Ne.symm dne4)
        | (go_at_call 124
           refine (unhide cChk a15 _ (unhide HR15 _ ⟨fun y hy => (unhide h04).block y (unhide HL7 y hy), fun y hy => (unhide HP4).block y (unhide HLT12 y hy)⟩ (fun _ _ _ => rfl))).mono ?_
           rintro e y5 ⟨rfl, hb⟩
           have h05 := hide (bt (unhide h04) hb (Nat.le_refl _))
           have HP5 := hide hb
           obtain ⟨p0, p1, p2, p3, q0, q1, q2, q3⟩ := ((unhide HX).below (unhide h05)).facts
           clear k0 k1 k2 k3 c0 c1 c2 c3 d0 d1 d2 d3 hb
           obtain ⟨k0, k1, k2, k3⟩ := ((unhide HOw).below (unhide h05)).facts
           obtain ⟨c0, c1, c2, c3⟩ := ((unhide HSh).below (unhide h05)).facts
           obtain ⟨d0, d1, d2, d3⟩ := ((unhide HPr).below (unhide h05)).facts
           have kne5 := Nat.ne_of_lt (lt_of_cell k0)
           have ken5 := Ne.symm kne5
           have cne5 := Nat.ne_of_lt (lt_of_cell c0)
           have cen5 := Ne.symm cne5
           have dne5 := Nat.ne_of_lt (lt_of_cell d0)
           have den5 := Ne.symm dne5))
    have HB6 := hide (bt (unhide HB5) (unhide h05) (Nat.le_refl _))
    clear k0 k1 k2 k3 c0 c1 c2 c3 d0 d1 d2 d3
    go_wp2_with fail
    have hBF := set4_below (g := w.heap.size + 1 + 1 + 1 + 1) (x0 := .int .i64 3) (x1 := .int .i64 0) (x2 := .string ByteArray.empty) (x3 := .slice a15 2 2) (unhide HB6) (by omega)
    refine bodyPost_ret (v := .tuple #[.agg #[.int .i64 3, .int .i64 0, .string ByteArray.empty, .slice a15 2 2], .nilIface]) (by simp [results, Tryz.results72, go_sem, p0, p1, p2, p3]; try rfl) rfl ⟨_, rfl, ?_, hBF⟩
    refine unhide HR15 _ ⟨fun y hy => ?_, fun y hy => ?_⟩ (fun b hb1 hb2 => ?_)
    · rw [set4_heap _ _ _ _ _ _ y (unhide HN7 y hy)]
      exact (unhide h05).block y (unhide HL7 y hy)
    · have k1 := unhide HGE12 y hy
      rw [set4_heap _ _ _ _ _ _ y (by omega), (unhide HP5).block y (Nat.lt_of_lt_of_le (unhide HLT12 y hy) (unhide HP4).size)]
      exact (unhide HP4).block y (unhide HLT12 y hy)
    · have k3 := (unhide h03).size
      have k4 : y3.heap.size ≤ b := by simp only [heap_size_alloc] at hb1; omega
      rw [set4_heap _ _ _ _ _ _ b (by omega)]
      exact (unhide HP5).block b hb2

set_option maxRecDepth 100000 in
set_option maxHeartbeats 2000000 in
theorem replyI_no (op n : Int) (s : ByteArray) (a : Option Addr) (len cap : Nat) (op2 n2 : Int) (s2 : ByteArray) (a2 : Option Addr) (len2 cap2 : Nat) (op5 n5 : Int) (s5 : ByteArray) (a5 : Option Addr) (len5 cap5 : Nat) (op6 n6 : Int) (s6 : ByteArray) (a6 : Option Addr) (len6 cap6 : Nat) (x : Addr) (w : World) (he : ErrAt x w) (h25 : ∀ V, Below w.heap.size w V → Calls Tryz.prog 72 #[.agg #[.int .i64 op, .int .i64 n, .string s, .slice a len cap], .agg #[.int .i64 op2, .int .i64 n2, .string s2, .slice a2 len2 cap2], .agg #[.int .i64 op5, .int .i64 n5, .string s5, .slice a5 len5 cap5], .agg #[.int .i64 op6, .int .i64 n6, .string s6, .slice a6 len6 cap6]] V fun e w' => e = .returned (.tuple #[.agg #[.int .i64 0, .int .i64 0, .string ByteArray.empty, .slice none 0 0], .iface 202 (.pointer (some x))]) ∧ Below V.heap.size V w') :
    Calls Tryz.prog 16 #[.agg #[.int .i64 op, .int .i64 n, .string s, .slice a len cap], .agg #[.int .i64 op2, .int .i64 n2, .string s2, .slice a2 len2 cap2], .agg #[.int .i64 op5, .int .i64 n5, .string s5, .slice a5 len5 cap5], .agg #[.int .i64 op6, .int .i64 n6, .string s6, .slice a6 len6 cap6]] w fun e w' => e = .returned (.tuple #[.agg #[.int .i64 0, .int .i64 0, .string ByteArray.empty, .slice none 0 0], .bool false]) ∧ Below w.heap.size w w' := by
  have hB0 : Below w.heap.size w (((((w.alloc (.cells #[.int .i64 op, .int .i64 n, .string s, .slice a len cap] 29)).alloc (.cells #[.int .i64 op2, .int .i64 n2, .string s2, .slice a2 len2 cap2] 29)).alloc (.cells #[.int .i64 op5, .int .i64 n5, .string s5, .slice a5 len5 cap5] 29)).alloc (.cells #[.int .i64 op6, .int .i64 n6, .string s6, .slice a6 len6 cap6] 29)).alloc (.cells #[.int .i64 0, .int .i64 0, .string ByteArray.empty, .slice none 0 0] 29)) := bt (bt (bt (bt (ab _) (ab _) (Nat.le_refl _)) (ab _) (Nat.le_refl _)) (ab _) (Nat.le_refl _)) (ab _) (Nat.le_refl _)
  have HX : Hid (ZBox (((((w.alloc (.cells #[.int .i64 op, .int .i64 n, .string s, .slice a len cap] 29)).alloc (.cells #[.int .i64 op2, .int .i64 n2, .string s2, .slice a2 len2 cap2] 29)).alloc (.cells #[.int .i64 op5, .int .i64 n5, .string s5, .slice a5 len5 cap5] 29)).alloc (.cells #[.int .i64 op6, .int .i64 n6, .string s6, .slice a6 len6 cap6] 29)).alloc (.cells #[.int .i64 0, .int .i64 0, .string ByteArray.empty, .slice none 0 0] 29)) (w.heap.size + 1 + 1 + 1 + 1)) := by
    have := ZBox.new ((((w.alloc (.cells #[.int .i64 op, .int .i64 n, .string s, .slice a len cap] 29)).alloc (.cells #[.int .i64 op2, .int .i64 n2, .string s2, .slice a2 len2 cap2] 29)).alloc (.cells #[.int .i64 op5, .int .i64 n5, .string s5, .slice a5 len5 cap5] 29)).alloc (.cells #[.int .i64 op6, .int .i64 n6, .string s6, .slice a6 len6 cap6] 29))
    rwa [heap_size_alloc, heap_size_alloc, heap_size_alloc, heap_size_alloc] at this
  have HA0 : Hid (RowT 29 (((((w.alloc (.cells #[.int .i64 op, .int .i64 n, .string s, .slice a len cap] 29)).alloc (.cells #[.int .i64 op2, .int .i64 n2, .string s2, .slice a2 len2 cap2] 29)).alloc (.cells #[.int .i64 op5, .int .i64 n5, .string s5, .slice a5 len5 cap5] 29)).alloc (.cells #[.int .i64 op6, .int .i64 n6, .string s6, .slice a6 len6 cap6] 29)).alloc (.cells #[.int .i64 0, .int .i64 0, .string ByteArray.empty, .slice none 0 0] 29)) (w.heap.size) op n s a len cap) := by
    have := (((((RowT.new 29 w op n s a len cap).below (ab (.cells #[.int .i64 op2, .int .i64 n2, .string s2, .slice a2 len2 cap2] 29))).below (ab (.cells #[.int .i64 op5, .int .i64 n5, .string s5, .slice a5 len5 cap5] 29))).below (ab (.cells #[.int .i64 op6, .int .i64 n6, .string s6, .slice a6 len6 cap6] 29))).below (ab (.cells #[.int .i64 0, .int .i64 0, .string ByteArray.empty, .slice none 0 0] 29)))
    exact this
  have HA1 : Hid (RowT 29 (((((w.alloc (.cells #[.int .i64 op, .int .i64 n, .string s, .slice a len cap] 29)).alloc (.cells #[.int .i64 op2, .int .i64 n2, .string s2, .slice a2 len2 cap2] 29)).alloc (.cells #[.int .i64 op5, .int .i64 n5, .string s5, .slice a5 len5 cap5] 29)).alloc (.cells #[.int .i64 op6, .int .i64 n6, .string s6, .slice a6 len6 cap6] 29)).alloc (.cells #[.int .i64 0, .int .i64 0, .string ByteArray.empty, .slice none 0 0] 29)) (w.heap.size + 1) op2 n2 s2 a2 len2 cap2) := by
    have := ((((RowT.new 29 (w.alloc (.cells #[.int .i64 op, .int .i64 n, .string s, .slice a len cap] 29)) op2 n2 s2 a2 len2 cap2).below (ab (.cells #[.int .i64 op5, .int .i64 n5, .string s5, .slice a5 len5 cap5] 29))).below (ab (.cells #[.int .i64 op6, .int .i64 n6, .string s6, .slice a6 len6 cap6] 29))).below (ab (.cells #[.int .i64 0, .int .i64 0, .string ByteArray.empty, .slice none 0 0] 29)))
    rwa [heap_size_alloc] at this
  have HA2 : Hid (RowT 29 (((((w.alloc (.cells #[.int .i64 op, .int .i64 n, .string s, .slice a len cap] 29)).alloc (.cells #[.int .i64 op2, .int .i64 n2, .string s2, .slice a2 len2 cap2] 29)).alloc (.cells #[.int .i64 op5, .int .i64 n5, .string s5, .slice a5 len5 cap5] 29)).alloc (.cells #[.int .i64 op6, .int .i64 n6, .string s6, .slice a6 len6 cap6] 29)).alloc (.cells #[.int .i64 0, .int .i64 0, .string ByteArray.empty, .slice none 0 0] 29)) (w.heap.size + 1 + 1) op5 n5 s5 a5 len5 cap5) := by
    have := (((RowT.new 29 ((w.alloc (.cells #[.int .i64 op, .int .i64 n, .string s, .slice a len cap] 29)).alloc (.cells #[.int .i64 op2, .int .i64 n2, .string s2, .slice a2 len2 cap2] 29)) op5 n5 s5 a5 len5 cap5).below (ab (.cells #[.int .i64 op6, .int .i64 n6, .string s6, .slice a6 len6 cap6] 29))).below (ab (.cells #[.int .i64 0, .int .i64 0, .string ByteArray.empty, .slice none 0 0] 29)))
    rwa [heap_size_alloc, heap_size_alloc] at this
  have HA3 : Hid (RowT 29 (((((w.alloc (.cells #[.int .i64 op, .int .i64 n, .string s, .slice a len cap] 29)).alloc (.cells #[.int .i64 op2, .int .i64 n2, .string s2, .slice a2 len2 cap2] 29)).alloc (.cells #[.int .i64 op5, .int .i64 n5, .string s5, .slice a5 len5 cap5] 29)).alloc (.cells #[.int .i64 op6, .int .i64 n6, .string s6, .slice a6 len6 cap6] 29)).alloc (.cells #[.int .i64 0, .int .i64 0, .string ByteArray.empty, .slice none 0 0] 29)) (w.heap.size + 1 + 1 + 1) op6 n6 s6 a6 len6 cap6) := by
    have := ((RowT.new 29 (((w.alloc (.cells #[.int .i64 op, .int .i64 n, .string s, .slice a len cap] 29)).alloc (.cells #[.int .i64 op2, .int .i64 n2, .string s2, .slice a2 len2 cap2] 29)).alloc (.cells #[.int .i64 op5, .int .i64 n5, .string s5, .slice a5 len5 cap5] 29)) op6 n6 s6 a6 len6 cap6).below (ab (.cells #[.int .i64 0, .int .i64 0, .string ByteArray.empty, .slice none 0 0] 29)))
    rwa [heap_size_alloc, heap_size_alloc, heap_size_alloc] at this
  have HB0 := hide hB0
  obtain ⟨c0, c1, c2, c3⟩ := (unhide HA0).facts
  obtain ⟨d0, d1, d2, d3⟩ := (unhide HA1).facts
  obtain ⟨i0, i1, i2, i3⟩ := (unhide HA2).facts
  obtain ⟨j0, j1, j2, j3⟩ := (unhide HA3).facts
  have H25 := hide h25
  have HER := hide he
  clear h25 he hB0
  go_enter Tryz.func16, Tryz.ntmps16
  go_wp2_with fail
  refine (unhide H25 _ (unhide HB0)).mono ?_
  rintro e w2 ⟨rfl, hb2⟩
  have HB2 := hide (bt (unhide HB0) hb2 (Nat.le_refl _))
  have HX2 := hide ((unhide HX).below hb2)
  have h24 := hide (fun z he => answer_no 0 0 ByteArray.empty none 0 0 x z he)
  clear hb2 HB0 HX c0 c1 c2 c3 d0 d1 d2 d3 i0 i1 i2 i3 j0 j1 j2 j3
  go_wp2_with fail
  refine (unhide h24 _ ((unhide HER).on (unhide HB2))).mono ?_
  rintro e w3 ⟨rfl, hb3⟩
  have HB3 := hide (bt (unhide HB2) hb3 (Nat.le_refl _))
  obtain ⟨d0, d1, d2, d3, e0, e1, e2, e3⟩ := ((unhide HX2).below hb3).facts
  clear hb3
  go_wp2_with fail
  exact bodyPost_ret (v := .tuple #[.agg #[.int .i64 0, .int .i64 0, .string ByteArray.empty, .slice none 0 0], .bool false]) (by simp [results, Tryz.results16, go_sem, d0, d1, d2, d3]; try rfl) rfl ⟨rfl, set4_below (unhide HB3) (by omega)⟩

set_option maxRecDepth 100000 in
set_option maxHeartbeats 2000000 in
theorem replyI_yes (R : Tm) (op n : Int) (s : ByteArray) (a : Option Addr) (len cap : Nat) (op2 n2 : Int) (s2 : ByteArray) (a2 : Option Addr) (len2 cap2 : Nat) (op5 n5 : Int) (s5 : ByteArray) (a5 : Option Addr) (len5 cap5 : Nat) (op6 n6 : Int) (s6 : ByteArray) (a6 : Option Addr) (len6 cap6 : Nat) (x : Addr) (w : World) (he : ErrAt x w) (hok : okT R = true) (h25 : ∀ V, Below w.heap.size w V → Calls Tryz.prog 72 #[.agg #[.int .i64 op, .int .i64 n, .string s, .slice a len cap], .agg #[.int .i64 op2, .int .i64 n2, .string s2, .slice a2 len2 cap2], .agg #[.int .i64 op5, .int .i64 n5, .string s5, .slice a5 len5 cap5], .agg #[.int .i64 op6, .int .i64 n6, .string s6, .slice a6 len6 cap6]] V fun e w' => ∃ a', e = .returned (.tuple #[.agg #[.int .i64 3, .int .i64 0, .string ByteArray.empty, .slice a' 2 2], .nilIface]) ∧ Lies w' 0 R (tmCells 3 0 ByteArray.empty a' 2 2) ∧ Below V.heap.size V w') :
    Calls Tryz.prog 16 #[.agg #[.int .i64 op, .int .i64 n, .string s, .slice a len cap], .agg #[.int .i64 op2, .int .i64 n2, .string s2, .slice a2 len2 cap2], .agg #[.int .i64 op5, .int .i64 n5, .string s5, .slice a5 len5 cap5], .agg #[.int .i64 op6, .int .i64 n6, .string s6, .slice a6 len6 cap6]] w fun e w' => ∃ op' n' s' a' len' cap' fp, e = .returned (.tuple #[.agg #[.int .i64 op', .int .i64 n', .string s', .slice a' len' cap'], .bool true]) ∧ Own w' R (tmCells op' n' s' a' len' cap') fp ∧ (fp.Nodup ∧ ∀ y ∈ fp, w.heap.size ≤ y) ∧ Below w.heap.size w w' := by
  have hB0 : Below w.heap.size w (((((w.alloc (.cells #[.int .i64 op, .int .i64 n, .string s, .slice a len cap] 29)).alloc (.cells #[.int .i64 op2, .int .i64 n2, .string s2, .slice a2 len2 cap2] 29)).alloc (.cells #[.int .i64 op5, .int .i64 n5, .string s5, .slice a5 len5 cap5] 29)).alloc (.cells #[.int .i64 op6, .int .i64 n6, .string s6, .slice a6 len6 cap6] 29)).alloc (.cells #[.int .i64 0, .int .i64 0, .string ByteArray.empty, .slice none 0 0] 29)) := bt (bt (bt (bt (ab _) (ab _) (Nat.le_refl _)) (ab _) (Nat.le_refl _)) (ab _) (Nat.le_refl _)) (ab _) (Nat.le_refl _)
  have HX : Hid (ZBox (((((w.alloc (.cells #[.int .i64 op, .int .i64 n, .string s, .slice a len cap] 29)).alloc (.cells #[.int .i64 op2, .int .i64 n2, .string s2, .slice a2 len2 cap2] 29)).alloc (.cells #[.int .i64 op5, .int .i64 n5, .string s5, .slice a5 len5 cap5] 29)).alloc (.cells #[.int .i64 op6, .int .i64 n6, .string s6, .slice a6 len6 cap6] 29)).alloc (.cells #[.int .i64 0, .int .i64 0, .string ByteArray.empty, .slice none 0 0] 29)) (w.heap.size + 1 + 1 + 1 + 1)) := by
    have := ZBox.new ((((w.alloc (.cells #[.int .i64 op, .int .i64 n, .string s, .slice a len cap] 29)).alloc (.cells #[.int .i64 op2, .int .i64 n2, .string s2, .slice a2 len2 cap2] 29)).alloc (.cells #[.int .i64 op5, .int .i64 n5, .string s5, .slice a5 len5 cap5] 29)).alloc (.cells #[.int .i64 op6, .int .i64 n6, .string s6, .slice a6 len6 cap6] 29))
    rwa [heap_size_alloc, heap_size_alloc, heap_size_alloc, heap_size_alloc] at this
  have HA0 : Hid (RowT 29 (((((w.alloc (.cells #[.int .i64 op, .int .i64 n, .string s, .slice a len cap] 29)).alloc (.cells #[.int .i64 op2, .int .i64 n2, .string s2, .slice a2 len2 cap2] 29)).alloc (.cells #[.int .i64 op5, .int .i64 n5, .string s5, .slice a5 len5 cap5] 29)).alloc (.cells #[.int .i64 op6, .int .i64 n6, .string s6, .slice a6 len6 cap6] 29)).alloc (.cells #[.int .i64 0, .int .i64 0, .string ByteArray.empty, .slice none 0 0] 29)) (w.heap.size) op n s a len cap) := by
    have := (((((RowT.new 29 w op n s a len cap).below (ab (.cells #[.int .i64 op2, .int .i64 n2, .string s2, .slice a2 len2 cap2] 29))).below (ab (.cells #[.int .i64 op5, .int .i64 n5, .string s5, .slice a5 len5 cap5] 29))).below (ab (.cells #[.int .i64 op6, .int .i64 n6, .string s6, .slice a6 len6 cap6] 29))).below (ab (.cells #[.int .i64 0, .int .i64 0, .string ByteArray.empty, .slice none 0 0] 29)))
    exact this
  have HA1 : Hid (RowT 29 (((((w.alloc (.cells #[.int .i64 op, .int .i64 n, .string s, .slice a len cap] 29)).alloc (.cells #[.int .i64 op2, .int .i64 n2, .string s2, .slice a2 len2 cap2] 29)).alloc (.cells #[.int .i64 op5, .int .i64 n5, .string s5, .slice a5 len5 cap5] 29)).alloc (.cells #[.int .i64 op6, .int .i64 n6, .string s6, .slice a6 len6 cap6] 29)).alloc (.cells #[.int .i64 0, .int .i64 0, .string ByteArray.empty, .slice none 0 0] 29)) (w.heap.size + 1) op2 n2 s2 a2 len2 cap2) := by
    have := ((((RowT.new 29 (w.alloc (.cells #[.int .i64 op, .int .i64 n, .string s, .slice a len cap] 29)) op2 n2 s2 a2 len2 cap2).below (ab (.cells #[.int .i64 op5, .int .i64 n5, .string s5, .slice a5 len5 cap5] 29))).below (ab (.cells #[.int .i64 op6, .int .i64 n6, .string s6, .slice a6 len6 cap6] 29))).below (ab (.cells #[.int .i64 0, .int .i64 0, .string ByteArray.empty, .slice none 0 0] 29)))
    rwa [heap_size_alloc] at this
  have HA2 : Hid (RowT 29 (((((w.alloc (.cells #[.int .i64 op, .int .i64 n, .string s, .slice a len cap] 29)).alloc (.cells #[.int .i64 op2, .int .i64 n2, .string s2, .slice a2 len2 cap2] 29)).alloc (.cells #[.int .i64 op5, .int .i64 n5, .string s5, .slice a5 len5 cap5] 29)).alloc (.cells #[.int .i64 op6, .int .i64 n6, .string s6, .slice a6 len6 cap6] 29)).alloc (.cells #[.int .i64 0, .int .i64 0, .string ByteArray.empty, .slice none 0 0] 29)) (w.heap.size + 1 + 1) op5 n5 s5 a5 len5 cap5) := by
    have := (((RowT.new 29 ((w.alloc (.cells #[.int .i64 op, .int .i64 n, .string s, .slice a len cap] 29)).alloc (.cells #[.int .i64 op2, .int .i64 n2, .string s2, .slice a2 len2 cap2] 29)) op5 n5 s5 a5 len5 cap5).below (ab (.cells #[.int .i64 op6, .int .i64 n6, .string s6, .slice a6 len6 cap6] 29))).below (ab (.cells #[.int .i64 0, .int .i64 0, .string ByteArray.empty, .slice none 0 0] 29)))
    rwa [heap_size_alloc, heap_size_alloc] at this
  have HA3 : Hid (RowT 29 (((((w.alloc (.cells #[.int .i64 op, .int .i64 n, .string s, .slice a len cap] 29)).alloc (.cells #[.int .i64 op2, .int .i64 n2, .string s2, .slice a2 len2 cap2] 29)).alloc (.cells #[.int .i64 op5, .int .i64 n5, .string s5, .slice a5 len5 cap5] 29)).alloc (.cells #[.int .i64 op6, .int .i64 n6, .string s6, .slice a6 len6 cap6] 29)).alloc (.cells #[.int .i64 0, .int .i64 0, .string ByteArray.empty, .slice none 0 0] 29)) (w.heap.size + 1 + 1 + 1) op6 n6 s6 a6 len6 cap6) := by
    have := ((RowT.new 29 (((w.alloc (.cells #[.int .i64 op, .int .i64 n, .string s, .slice a len cap] 29)).alloc (.cells #[.int .i64 op2, .int .i64 n2, .string s2, .slice a2 len2 cap2] 29)).alloc (.cells #[.int .i64 op5, .int .i64 n5, .string s5, .slice a5 len5 cap5] 29)) op6 n6 s6 a6 len6 cap6).below (ab (.cells #[.int .i64 0, .int .i64 0, .string ByteArray.empty, .slice none 0 0] 29)))
    rwa [heap_size_alloc, heap_size_alloc, heap_size_alloc] at this
  have HB0 := hide hB0
  obtain ⟨c0, c1, c2, c3⟩ := (unhide HA0).facts
  obtain ⟨d0, d1, d2, d3⟩ := (unhide HA1).facts
  obtain ⟨i0, i1, i2, i3⟩ := (unhide HA2).facts
  obtain ⟨j0, j1, j2, j3⟩ := (unhide HA3).facts
  have H25 := hide h25
  have HER := hide he
  have h24 := hide (fun a3 z hl he => answer_yes R 3 0 ByteArray.empty a3 2 2 x z hl (by have := okT_small hok; omega) he)
  clear h25 he hB0 hok
  go_enter Tryz.func16, Tryz.ntmps16
  go_wp2_with fail
  refine (unhide H25 _ (unhide HB0)).mono ?_
  rintro e w2 ⟨a3, rfl, hL2, hb2⟩
  have HB2 := hide (bt (unhide HB0) hb2 (Nat.le_refl _))
  have HX2 := hide ((unhide HX).below hb2)
  have HL2 := hide hL2
  have HLT := hide (lt_of_heap (unhide HX2))
  clear hb2 hL2 HB0 HX c0 c1 c2 c3 d0 d1 d2 d3 i0 i1 i2 i3 j0 j1 j2 j3
  go_wp2_with fail
  refine (unhide h24 _ _ (unhide HL2) ((unhide HER).on (unhide HB2))).mono ?_
  rintro e w3 ⟨a7, cap7, fp, rfl, hO, ⟨hnd, hge⟩, hb3⟩
  have HB3 := hide (bt (unhide HB2) hb3 (Nat.le_refl _))
  have HO := hide hO
  have HND := hide hnd
  have HGE := hide hge
  obtain ⟨d0, d1, d2, d3, e0, e1, e2, e3⟩ := ((unhide HX2).below hb3).facts
  clear hb3 hO hnd hge
  go_wp2_with fail
  exact bodyPost_ret (v := .tuple #[.agg #[.int .i64 3, .int .i64 0, .string ByteArray.empty, .slice a7 2 cap7], .bool true]) (by simp [results, Tryz.results16, go_sem, d0, d1, d2, d3]; try rfl) rfl ⟨_, _, _, _, _, _, fp, rfl, Own.keep _ _ _ (unhide HO) (fun b hb => set4_heap _ _ _ _ _ _ b (by have := unhide HGE b hb; have := unhide HLT; omega)), ⟨unhide HND, fun y hy => by have := unhide HGE y hy; have := unhide HLT; omega⟩, set4_below (unhide HB3) (by omega)⟩

theorem replyI (t u ky ce : Tm) (op n : Int) (s : ByteArray) (a : Option Addr) (len cap : Nat) (op2 n2 : Int) (s2 : ByteArray) (a2 : Option Addr) (len2 cap2 : Nat) (op5 n5 : Int) (s5 : ByteArray) (a5 : Option Addr) (len5 cap5 : Nat) (op6 n6 : Int) (s6 : ByteArray) (a6 : Option Addr) (len6 cap6 : Nat) (x : Addr) (w : World) (he : ErrAt x w) (htab : Tab w) (hl : Lies w 0 t (tmCells op n s a len cap)) (hl2 : Lies w 0 u (tmCells op2 n2 s2 a2 len2 cap2)) (hl5 : Lies w 0 ky (tmCells op5 n5 s5 a5 len5 cap5)) (hl6 : Lies w 0 ce (tmCells op6 n6 s6 a6 len6 cap6)) (hsz : t.size + u.size + ky.size + ce.size ≤ 1100000) :
    Calls Tryz.prog 16 #[.agg #[.int .i64 op, .int .i64 n, .string s, .slice a len cap], .agg #[.int .i64 op2, .int .i64 n2, .string s2, .slice a2 len2 cap2], .agg #[.int .i64 op5, .int .i64 n5, .string s5, .slice a5 len5 cap5], .agg #[.int .i64 op6, .int .i64 n6, .string s6, .slice a6 len6 cap6]] w fun e w' => ∃ op' n' s' a' len' cap' fp, e = .returned (.tuple #[.agg #[.int .i64 op', .int .i64 n', .string s', .slice a' len' cap'], .bool (replyB t u ky ce)]) ∧ Own w' (replyT t u ky ce) (tmCells op' n' s' a' len' cap') fp ∧ (fp.Nodup ∧ ∀ y ∈ fp, w.heap.size ≤ y) ∧ Below w.heap.size w w' := by
  have no : replyB t u ky ce = false → (∀ V, Below w.heap.size w V → Calls Tryz.prog 72 #[.agg #[.int .i64 op, .int .i64 n, .string s, .slice a len cap], .agg #[.int .i64 op2, .int .i64 n2, .string s2, .slice a2 len2 cap2], .agg #[.int .i64 op5, .int .i64 n5, .string s5, .slice a5 len5 cap5], .agg #[.int .i64 op6, .int .i64 n6, .string s6, .slice a6 len6 cap6]] V fun e w' => e = .returned (.tuple #[.agg #[.int .i64 0, .int .i64 0, .string ByteArray.empty, .slice none 0 0], .iface 202 (.pointer (some x))]) ∧ Below V.heap.size V w') → Calls Tryz.prog 16 #[.agg #[.int .i64 op, .int .i64 n, .string s, .slice a len cap], .agg #[.int .i64 op2, .int .i64 n2, .string s2, .slice a2 len2 cap2], .agg #[.int .i64 op5, .int .i64 n5, .string s5, .slice a5 len5 cap5], .agg #[.int .i64 op6, .int .i64 n6, .string s6, .slice a6 len6 cap6]] w fun e w' => ∃ op' n' s' a' len' cap' fp, e = .returned (.tuple #[.agg #[.int .i64 op', .int .i64 n', .string s', .slice a' len' cap'], .bool (replyB t u ky ce)]) ∧ Own w' (replyT t u ky ce) (tmCells op' n' s' a' len' cap') fp ∧ (fp.Nodup ∧ ∀ y ∈ fp, w.heap.size ≤ y) ∧ Below w.heap.size w w' := fun hB h25 => by
    refine (replyI_no op n s a len cap op2 n2 s2 a2 len2 cap2 op5 n5 s5 a5 len5 cap5 op6 n6 s6 a6 len6 cap6 x w he h25).mono ?_
    rintro e w' ⟨he', hb⟩
    unfold replyT
    rw [hB]
    exact ⟨_, _, _, _, _, _, [], he', zero_own _, ⟨by simp, by simp⟩, hb⟩
  cases hs : shrB t u with
  | false =>
    have ha : agreeB t u = false := by
      cases ha : agreeB t u with
      | false => rfl
      | true => rw [(agree_sh ha).1] at hs; cases hs
    exact no (by unfold replyB; rw [ha]; rfl) fun V hV => replyTo_no1 t u ky ce op n s a len cap op2 n2 s2 a2 len2 cap2 op5 n5 s5 a5 len5 cap5 op6 n6 s6 a6 len6 cap6 x V (he.on hV) (hl.below hV) (hl2.below hV) (hl5.below hV) (hl6.below hV) hsz hs
  | true =>
    cases hk : okT (replyR t u ky ce (shrT t u)) with
    | false =>
      refine no ?_ fun V hV => replyTo_no2 t u ky ce op n s a len cap op2 n2 s2 a2 len2 cap2 op5 n5 s5 a5 len5 cap5 op6 n6 s6 a6 len6 cap6 x V (he.on hV) (htab.on hV) (hl.below hV) (hl2.below hV) (hl5.below hV) (hl6.below hV) hsz hs hk
      unfold replyB
      cases ha : agreeB t u with
      | false => rfl
      | true => rw [(agree_sh ha).2, hk]; rfl
    | true =>
      have ha : agreeB t u = true := by
        cases ha : agreeB t u with
        | true => rfl
        | false => rw [reply_bad (sh_agree hs ha)] at hk; cases hk
      have hB : replyB t u ky ce = true := by unfold replyB; rw [ha, (agree_sh ha).2, hk]; rfl
      have hT : replyT t u ky ce = replyR t u ky ce (shrT t u) := by unfold replyT; rw [hB, (agree_sh ha).2]; rfl
      rw [hB, hT]
      exact replyI_yes (replyR t u ky ce (shrT t u)) op n s a len cap op2 n2 s2 a2 len2 cap2 op5 n5 s5 a5 len5 cap5 op6 n6 s6 a6 len6 cap6 x w he hk fun V hV => replyTo_yes t u ky ce op n s a len cap op2 n2 s2 a2 len2 cap2 op5 n5 s5 a5 len5 cap5 op6 n6 s6 a6 len6 cap6 x V (he.on hV) (htab.on hV) (hl.below hV) (hl2.below hV) (hl5.below hV) (hl6.below hV) hsz hs hk

end Go.Proofs.YtmklgikbajhcpaaGreatDoor
