
/- The walks of spec.l8Named, spec.HelloOf, impl.pubOfHello and impl.HelloOf: what stands behind a text in a pair, and the open half of which a term is the greeting; else zero; nothing that was there is written. -/
import Derived.Test.YtmklgikbajhcpaaGreatDoorG1
import Derived.Test.YtmklgikbajhcpaaGreatDoorSx
import Derived.Deep.RegionHeld3
import Derived.Deep.RegionWith
namespace Go.Proofs.YtmklgikbajhcpaaGreatDoor
open Go.RowKit Go.Deep

def Tm.opOf : Tm → Int | .node o _ _ _ => o
theorem lies_opOf {w : World} {k : Tm} {op n : Int} {s : ByteArray} {a : Option Addr} {len cap : Nat} (h : Lies w 0 k (tmCells op n s a len cap)) : op = k.opOf := by
  obtain ⟨o, m, z, ks⟩ := k
  simp only [Lies, tmCells, List.cons.injEq, Value.int.injEq, true_and] at h
  obtain ⟨_, _, ⟨h, _⟩, _⟩ := h
  exact h

set_option maxRecDepth 100000 in
set_option maxHeartbeats 2000000 in
theorem named_no1 (t : Tm) (nm : ByteArray) (op n : Int) (s : ByteArray) (a : Option Addr) (len cap : Nat) (w : World) (hl : Lies w 0 t (tmCells op n s a len cap)) (hsz : t.size ≤ 2097152) (hok : okT t = false) :
    Calls Tryz.prog 81 #[.agg #[.int .i64 op, .int .i64 n, .string s, .slice a len cap], .string nm] w fun e w' => e = .returned (.tuple #[.agg #[.int .i64 0, .int .i64 0, .string ByteArray.empty, .slice none 0 0], .bool false]) ∧ Below w.heap.size w w' := by
  have h46 := hide (ok8 t op n s a len cap)
  rw [hok] at h46
  have hB0 : Below w.heap.size w ((w.alloc (.cells #[.int .i64 op, .int .i64 n, .string s, .slice a len cap] 29)).alloc (.cells #[.int .i64 0, .int .i64 0, .string ByteArray.empty, .slice none 0 0] 29)) := bt (ab _) (ab _) (Nat.le_refl _)
  have HX : Hid (ZBox ((w.alloc (.cells #[.int .i64 op, .int .i64 n, .string s, .slice a len cap] 29)).alloc (.cells #[.int .i64 0, .int .i64 0, .string ByteArray.empty, .slice none 0 0] 29)) (w.heap.size + 1)) := by
    have := ZBox.new (w.alloc (.cells #[.int .i64 op, .int .i64 n, .string s, .slice a len cap] 29))
    rwa [heap_size_alloc] at this
  have HRA : Hid (RowT 29 ((w.alloc (.cells #[.int .i64 op, .int .i64 n, .string s, .slice a len cap] 29)).alloc (.cells #[.int .i64 0, .int .i64 0, .string ByteArray.empty, .slice none 0 0] 29)) w.heap.size op n s a len cap) := (RowT.new 29 w op n s a len cap).below (ab _)
  have HLA := hide (hl.below hB0)
  have HB0 := hide hB0
  clear hl hok hB0
  go_enter Tryz.func81, Tryz.ntmps81
  go_wp2_with fail
  generalize hgw : ((w.alloc (.cells #[.int .i64 op, .int .i64 n, .string s, .slice a len cap] 29)).alloc (.cells #[.int .i64 0, .int .i64 0, .string ByteArray.empty, .slice none 0 0] 29)) = W0 at *
  refine gw_world hgw ?_
  clear hgw
  obtain ⟨c0, c1, c2, c3⟩ := (unhide HRA).facts
  first
    | go_region_with (go_at_call 114; refine (unhide h46 _ ((unhide HLA).below (Below.refl _ _).drew) hsz).mono ?_; rintro e w2 ⟨rfl, hb2⟩; have hb2' := hide (below_drew' hb2); clear hb2; obtain ⟨k0, k1, k2, k3⟩ := ((unhide HRA).below (unhide hb2')).facts; have HB := hide (bt (unhide HB0) (unhide hb2') (Nat.le_refl _)); obtain ⟨d0, d1, d2, d3, e0, e1, e2, e3⟩ := ((unhide HX).below (unhide hb2')).facts)
    | fail
  all_goals go_wp2_with fail
  all_goals
    exact bodyPost_ret (v := .tuple #[.agg #[.int .i64 0, .int .i64 0, .string ByteArray.empty, .slice none 0 0], .bool false]) (by simp [results, Tryz.results81, go_sem, d0, d1, d2, d3]; try rfl) rfl ⟨rfl, set4_below (unhide HB) (by omega)⟩

set_option maxRecDepth 100000 in
set_option maxHeartbeats 2000000 in
theorem named_no2 (t : Tm) (nm : ByteArray) (op n : Int) (s : ByteArray) (a : Option Addr) (len cap : Nat) (w : World) (hl : Lies w 0 t (tmCells op n s a len cap)) (hsz : t.size ≤ 2097152) (hok : okT t = true) (h3 : op ≠ 3) :
    Calls Tryz.prog 81 #[.agg #[.int .i64 op, .int .i64 n, .string s, .slice a len cap], .string nm] w fun e w' => e = .returned (.tuple #[.agg #[.int .i64 0, .int .i64 0, .string ByteArray.empty, .slice none 0 0], .bool false]) ∧ Below w.heap.size w w' := by
  have h46 := hide (ok8 t op n s a len cap)
  rw [hok] at h46
  have q1 : (op != 3) = true := by simpa using h3
  have hB0 : Below w.heap.size w ((w.alloc (.cells #[.int .i64 op, .int .i64 n, .string s, .slice a len cap] 29)).alloc (.cells #[.int .i64 0, .int .i64 0, .string ByteArray.empty, .slice none 0 0] 29)) := bt (ab _) (ab _) (Nat.le_refl _)
  have HX : Hid (ZBox ((w.alloc (.cells #[.int .i64 op, .int .i64 n, .string s, .slice a len cap] 29)).alloc (.cells #[.int .i64 0, .int .i64 0, .string ByteArray.empty, .slice none 0 0] 29)) (w.heap.size + 1)) := by
    have := ZBox.new (w.alloc (.cells #[.int .i64 op, .int .i64 n, .string s, .slice a len cap] 29))
    rwa [heap_size_alloc] at this
  have HRA : Hid (RowT 29 ((w.alloc (.cells #[.int .i64 op, .int .i64 n, .string s, .slice a len cap] 29)).alloc (.cells #[.int .i64 0, .int .i64 0, .string ByteArray.empty, .slice none 0 0] 29)) w.heap.size op n s a len cap) := (RowT.new 29 w op n s a len cap).below (ab _)
  have HLA := hide (hl.below hB0)
  have HB0 := hide hB0
  clear hl hok hB0
  go_enter Tryz.func81, Tryz.ntmps81
  go_wp2_with fail
  generalize hgw : ((w.alloc (.cells #[.int .i64 op, .int .i64 n, .string s, .slice a len cap] 29)).alloc (.cells #[.int .i64 0, .int .i64 0, .string ByteArray.empty, .slice none 0 0] 29)) = W0 at *
  refine gw_world hgw ?_
  clear hgw
  obtain ⟨c0, c1, c2, c3⟩ := (unhide HRA).facts
  first
    | go_region_with (go_at_call 114; refine (unhide h46 _ ((unhide HLA).below (Below.refl _ _).drew) hsz).mono ?_; rintro e w2 ⟨rfl, hb2⟩; have hb2' := hide (below_drew' hb2); clear hb2; obtain ⟨k0, k1, k2, k3⟩ := ((unhide HRA).below (unhide hb2')).facts; have HB := hide (bt (unhide HB0) (unhide hb2') (Nat.le_refl _)); obtain ⟨d0, d1, d2, d3, e0, e1, e2, e3⟩ := ((unhide HX).below (unhide hb2')).facts)
    | fail
  all_goals go_wp2_with fail
  all_goals
    exact bodyPost_ret (v := .tuple #[.agg #[.int .i64 0, .int .i64 0, .string ByteArray.empty, .slice none 0 0], .bool false]) (by simp [results, Tryz.results81, go_sem, d0, d1, d2, d3]; try rfl) rfl ⟨rfl, set4_below (unhide HB) (by omega)⟩

set_option maxRecDepth 100000 in
set_option maxHeartbeats 2000000 in
theorem named_no3 (k0 k1 : Tm) (nm : ByteArray) (hnm : nm.size ≤ 300) (n : Int) (s : ByteArray) (b q cap2 : Nat) (op3 n3 : Int) (s3 : ByteArray) (a3 : Option Addr) (len3 cap3 : Nat) (op4 n4 : Int) (s4 : ByteArray) (a4 : Option Addr) (len4 cap4 : Nat) (w : World) (hl : Lies w 0 (.node 3 n s [k0, k1]) (tmCells 3 n s (some ⟨b, q, none⟩) 2 cap2)) (hsz : (Tm.node 3 n s [k0, k1]).size ≤ 2097152) (hok : okT (.node 3 n s [k0, k1]) = true)
    (r0 : w.cell? ⟨b, q, none⟩ = some (.int .i64 op3)) (r1 : w.cell? ⟨b, q + 1, none⟩ = some (.int .i64 n3)) (r2 : w.cell? ⟨b, q + 2, none⟩ = some (.string s3)) (r3 : w.cell? ⟨b, q + 3, none⟩ = some (.slice a3 len3 cap3)) (r4 : w.cell? ⟨b, q + 4, none⟩ = some (.int .i64 op4)) (r5 : w.cell? ⟨b, q + 5, none⟩ = some (.int .i64 n4)) (r6 : w.cell? ⟨b, q + 6, none⟩ = some (.string s4)) (r7 : w.cell? ⟨b, q + 7, none⟩ = some (.slice a4 len4 cap4)) (hk0 : Lies w 0 k0 (tmCells op3 n3 s3 a3 len3 cap3)) (hsm : sameB k0 (textT nm) = false) :
    Calls Tryz.prog 81 #[.agg #[.int .i64 3, .int .i64 n, .string s, .slice (some ⟨b, q, none⟩) 2 cap2], .string nm] w fun e w' => e = .returned (.tuple #[.agg #[.int .i64 0, .int .i64 0, .string ByteArray.empty, .slice none 0 0], .bool false]) ∧ Below w.heap.size w w' := by
  have h46 := hide (ok8 (.node 3 n s [k0, k1]) 3 n s (some ⟨b, q, none⟩) 2 cap2)
  rw [hok] at h46
  have h29 := hide (textS nm)
  have h47 := hide (sa_calls k0 (textT nm) op3 n3 s3 a3 len3 cap3 2 0 nm none 0 0)
  rw [hsm] at h47
  have HTL : Hid (∀ v : World, Lies v 0 (textT nm) (tmCells 2 0 nm none 0 0)) := fun v => text_lies nm hnm v
  generalize textT nm = TT at *
  have hB0 : Below w.heap.size w ((w.alloc (.cells #[.int .i64 3, .int .i64 n, .string s, .slice (some ⟨b, q, none⟩) 2 cap2] 29)).alloc (.cells #[.int .i64 0, .int .i64 0, .string ByteArray.empty, .slice none 0 0] 29)) := bt (ab _) (ab _) (Nat.le_refl _)
  have HX : Hid (ZBox ((w.alloc (.cells #[.int .i64 3, .int .i64 n, .string s, .slice (some ⟨b, q, none⟩) 2 cap2] 29)).alloc (.cells #[.int .i64 0, .int .i64 0, .string ByteArray.empty, .slice none 0 0] 29)) (w.heap.size + 1)) := by
    have := ZBox.new (w.alloc (.cells #[.int .i64 3, .int .i64 n, .string s, .slice (some ⟨b, q, none⟩) 2 cap2] 29))
    rwa [heap_size_alloc] at this
  have HRA : Hid (RowT 29 ((w.alloc (.cells #[.int .i64 3, .int .i64 n, .string s, .slice (some ⟨b, q, none⟩) 2 cap2] 29)).alloc (.cells #[.int .i64 0, .int .i64 0, .string ByteArray.empty, .slice none 0 0] 29)) w.heap.size 3 n s (some ⟨b, q, none⟩) 2 cap2) := (RowT.new 29 w 3 n s (some ⟨b, q, none⟩) 2 cap2).below (ab _)
  have HLA := hide (hl.below hB0)
  have HB0 := hide hB0
  have HLK := hide (hk0.below hB0)
  have HK := hide (And.intro (kpc hB0 r0) (And.intro (kpc hB0 r1) (And.intro (kpc hB0 r2) (kpc hB0 r3))))
  have HK1 := hide (And.intro (kpc hB0 r4) (And.intro (kpc hB0 r5) (And.intro (kpc hB0 r6) (kpc hB0 r7))))
  clear hl hok hB0 hk0 hsm r0 r1 r2 r3 r4 r5 r6 r7
  go_enter Tryz.func81, Tryz.ntmps81
  go_wp2_with fail
  generalize hgw : ((w.alloc (.cells #[.int .i64 3, .int .i64 n, .string s, .slice (some ⟨b, q, none⟩) 2 cap2] 29)).alloc (.cells #[.int .i64 0, .int .i64 0, .string ByteArray.empty, .slice none 0 0] 29)) = W0 at *
  refine gw_world hgw ?_
  clear hgw
  obtain ⟨c0, c1, c2, c3⟩ := (unhide HRA).facts
  first
    | go_region_with (first | (go_at_call 114; refine (unhide h46 _ ((unhide HLA).below (Below.refl _ _).drew) hsz).mono ?_; rintro e w2 ⟨rfl, hb2⟩; have hb2' := hide (below_drew' hb2); clear hb2; obtain ⟨k0, k1, k2, k3⟩ := ((unhide HRA).below (unhide hb2')).facts; have i0 := kpc (unhide hb2') (unhide HK).1; have i1 := kpc (unhide hb2') (unhide HK).2.1; have i2 := kpc (unhide hb2') (unhide HK).2.2.1; have i3 := kpc (unhide hb2') (unhide HK).2.2.2) | (go_at_call 75; refine (unhide h29 _).mono ?_; rintro e w3 ⟨rfl, hb3⟩; have hb3' := hide hb3; clear hb3 k0 k1 k2 k3 i0 i1 i2 i3; obtain ⟨k0, k1, k2, k3⟩ := (((unhide HRA).below (unhide hb2')).below (unhide hb3')).facts; have i0 := kpc (unhide hb3') (kpc (unhide hb2') (unhide HK).1); have i1 := kpc (unhide hb3') (kpc (unhide hb2') (unhide HK).2.1); have i2 := kpc (unhide hb3') (kpc (unhide hb2') (unhide HK).2.2.1); have i3 := kpc (unhide hb3') (kpc (unhide hb2') (unhide HK).2.2.2)) | (go_at_call 60; refine (unhide h47 _ (((unhide HLK).below (unhide hb2')).below (unhide hb3')) (unhide HTL _)).mono ?_; rintro e w4 ⟨rfl, hb4⟩; have hb4' := hide hb4; clear hb4 k0 k1 k2 k3 i0 i1 i2 i3; have hbb := bt (bt (unhide hb2') (unhide hb3') (Nat.le_refl _)) (unhide hb4') (Nat.le_refl _); have HB := hide (bt (unhide HB0) hbb (Nat.le_refl _)); obtain ⟨d0, d1, d2, d3, e0, e1, e2, e3⟩ := ((unhide HX).below hbb).facts; obtain ⟨k0, k1, k2, k3⟩ := ((unhide HRA).below hbb).facts; have i4 := kpc hbb (unhide HK1).1; have i5 := kpc hbb (unhide HK1).2.1; have i6 := kpc hbb (unhide HK1).2.2.1; have i7 := kpc hbb (unhide HK1).2.2.2; clear hbb))
    | fail
  all_goals go_wp2_with fail
  all_goals
    exact bodyPost_ret (v := .tuple #[.agg #[.int .i64 0, .int .i64 0, .string ByteArray.empty, .slice none 0 0], .bool false]) (by simp [results, Tryz.results81, go_sem, d0, d1, d2, d3]; try rfl) rfl ⟨rfl, set4_below (unhide HB) (by omega)⟩

set_option maxRecDepth 100000 in
set_option maxHeartbeats 2000000 in
theorem named_yes (k0 k1 : Tm) (nm : ByteArray) (hnm : nm.size ≤ 300) (n : Int) (s : ByteArray) (b q cap2 : Nat) (op3 n3 : Int) (s3 : ByteArray) (a3 : Option Addr) (len3 cap3 : Nat) (op4 n4 : Int) (s4 : ByteArray) (a4 : Option Addr) (len4 cap4 : Nat) (w : World) (hl : Lies w 0 (.node 3 n s [k0, k1]) (tmCells 3 n s (some ⟨b, q, none⟩) 2 cap2)) (hsz : (Tm.node 3 n s [k0, k1]).size ≤ 2097152) (hok : okT (.node 3 n s [k0, k1]) = true)
    (r0 : w.cell? ⟨b, q, none⟩ = some (.int .i64 op3)) (r1 : w.cell? ⟨b, q + 1, none⟩ = some (.int .i64 n3)) (r2 : w.cell? ⟨b, q + 2, none⟩ = some (.string s3)) (r3 : w.cell? ⟨b, q + 3, none⟩ = some (.slice a3 len3 cap3)) (r4 : w.cell? ⟨b, q + 4, none⟩ = some (.int .i64 op4)) (r5 : w.cell? ⟨b, q + 5, none⟩ = some (.int .i64 n4)) (r6 : w.cell? ⟨b, q + 6, none⟩ = some (.string s4)) (r7 : w.cell? ⟨b, q + 7, none⟩ = some (.slice a4 len4 cap4)) (hk0 : Lies w 0 k0 (tmCells op3 n3 s3 a3 len3 cap3)) (hsm : sameB k0 (textT nm) = true) :
    Calls Tryz.prog 81 #[.agg #[.int .i64 3, .int .i64 n, .string s, .slice (some ⟨b, q, none⟩) 2 cap2], .string nm] w fun e w' => e = .returned (.tuple #[.agg #[.int .i64 op4, .int .i64 n4, .string s4, .slice a4 len4 cap4], .bool true]) ∧ Below w.heap.size w w' := by
  have h46 := hide (ok8 (.node 3 n s [k0, k1]) 3 n s (some ⟨b, q, none⟩) 2 cap2)
  rw [hok] at h46
  have h29 := hide (textS nm)
  have h47 := hide (sa_calls k0 (textT nm) op3 n3 s3 a3 len3 cap3 2 0 nm none 0 0)
  rw [hsm] at h47
  have HTL : Hid (∀ v : World, Lies v 0 (textT nm) (tmCells 2 0 nm none 0 0)) := fun v => text_lies nm hnm v
  generalize textT nm = TT at *
  have hB0 : Below w.heap.size w ((w.alloc (.cells #[.int .i64 3, .int .i64 n, .string s, .slice (some ⟨b, q, none⟩) 2 cap2] 29)).alloc (.cells #[.int .i64 0, .int .i64 0, .string ByteArray.empty, .slice none 0 0] 29)) := bt (ab _) (ab _) (Nat.le_refl _)
  have HX : Hid (ZBox ((w.alloc (.cells #[.int .i64 3, .int .i64 n, .string s, .slice (some ⟨b, q, none⟩) 2 cap2] 29)).alloc (.cells #[.int .i64 0, .int .i64 0, .string ByteArray.empty, .slice none 0 0] 29)) (w.heap.size + 1)) := by
    have := ZBox.new (w.alloc (.cells #[.int .i64 3, .int .i64 n, .string s, .slice (some ⟨b, q, none⟩) 2 cap2] 29))
    rwa [heap_size_alloc] at this
  have HRA : Hid (RowT 29 ((w.alloc (.cells #[.int .i64 3, .int .i64 n, .string s, .slice (some ⟨b, q, none⟩) 2 cap2] 29)).alloc (.cells #[.int .i64 0, .int .i64 0, .string ByteArray.empty, .slice none 0 0] 29)) w.heap.size 3 n s (some ⟨b, q, none⟩) 2 cap2) := (RowT.new 29 w 3 n s (some ⟨b, q, none⟩) 2 cap2).below (ab _)
  have HLA := hide (hl.below hB0)
  have HB0 := hide hB0
  have HLK := hide (hk0.below hB0)
  have HK := hide (And.intro (kpc hB0 r0) (And.intro (kpc hB0 r1) (And.intro (kpc hB0 r2) (kpc hB0 r3))))
  have HK1 := hide (And.intro (kpc hB0 r4) (And.intro (kpc hB0 r5) (And.intro (kpc hB0 r6) (kpc hB0 r7))))
  clear hl hok hB0 hk0 hsm r0 r1 r2 r3 r4 r5 r6 r7
  go_enter Tryz.func81, Tryz.ntmps81
  go_wp2_with fail
  generalize hgw : ((w.alloc (.cells #[.int .i64 3, .int .i64 n, .string s, .slice (some ⟨b, q, none⟩) 2 cap2] 29)).alloc (.cells #[.int .i64 0, .int .i64 0, .string ByteArray.empty, .slice none 0 0] 29)) = W0 at *
  refine gw_world hgw ?_
  clear hgw
  obtain ⟨c0, c1, c2, c3⟩ := (unhide HRA).facts
  first
    | go_region_with (first | (go_at_call 114; refine (unhide h46 _ ((unhide HLA).below (Below.refl _ _).drew) hsz).mono ?_; rintro e w2 ⟨rfl, hb2⟩; have hb2' := hide (below_drew' hb2); clear hb2; obtain ⟨k0, k1, k2, k3⟩ := ((unhide HRA).below (unhide hb2')).facts; have i0 := kpc (unhide hb2') (unhide HK).1; have i1 := kpc (unhide hb2') (unhide HK).2.1; have i2 := kpc (unhide hb2') (unhide HK).2.2.1; have i3 := kpc (unhide hb2') (unhide HK).2.2.2) | (go_at_call 75; refine (unhide h29 _).mono ?_; rintro e w3 ⟨rfl, hb3⟩; have hb3' := hide hb3; clear hb3 k0 k1 k2 k3 i0 i1 i2 i3; obtain ⟨k0, k1, k2, k3⟩ := (((unhide HRA).below (unhide hb2')).below (unhide hb3')).facts; have i0 := kpc (unhide hb3') (kpc (unhide hb2') (unhide HK).1); have i1 := kpc (unhide hb3') (kpc (unhide hb2') (unhide HK).2.1); have i2 := kpc (unhide hb3') (kpc (unhide hb2') (unhide HK).2.2.1); have i3 := kpc (unhide hb3') (kpc (unhide hb2') (unhide HK).2.2.2)) | (go_at_call 60; refine (unhide h47 _ (((unhide HLK).below (unhide hb2')).below (unhide hb3')) (unhide HTL _)).mono ?_; rintro e w4 ⟨rfl, hb4⟩; have hb4' := hide hb4; clear hb4 k0 k1 k2 k3 i0 i1 i2 i3; have hbb := bt (bt (unhide hb2') (unhide hb3') (Nat.le_refl _)) (unhide hb4') (Nat.le_refl _); have HB := hide (bt (unhide HB0) hbb (Nat.le_refl _)); obtain ⟨d0, d1, d2, d3, e0, e1, e2, e3⟩ := ((unhide HX).below hbb).facts; obtain ⟨k0, k1, k2, k3⟩ := ((unhide HRA).below hbb).facts; have i4 := kpc hbb (unhide HK1).1; have i5 := kpc hbb (unhide HK1).2.1; have i6 := kpc hbb (unhide HK1).2.2.1; have i7 := kpc hbb (unhide HK1).2.2.2; clear hbb))
    | fail
  all_goals go_wp2_with fail
  all_goals
    exact bodyPost_ret (v := .tuple #[.agg #[.int .i64 op4, .int .i64 n4, .string s4, .slice a4 len4 cap4], .bool true]) (by simp [results, Tryz.results81, go_sem, d0, d1, d2, d3]; try rfl) rfl ⟨rfl, set4_below (unhide HB) (by omega)⟩

theorem named_none (t : Tm) (nm : ByteArray) (hnm : nm.size ≤ 300) (op n : Int) (s : ByteArray) (a : Option Addr) (len cap : Nat) (w : World) (hl : Lies w 0 t (tmCells op n s a len cap)) (hsz : t.size ≤ 2097152) (hb : behO 3 (textT nm) t = none) :
    Calls Tryz.prog 81 #[.agg #[.int .i64 op, .int .i64 n, .string s, .slice a len cap], .string nm] w fun e w' => e = .returned (.tuple #[.agg #[.int .i64 0, .int .i64 0, .string ByteArray.empty, .slice none 0 0], .bool false]) ∧ Below w.heap.size w w' := by
  cases hok : okT t with
  | false => exact named_no1 t nm op n s a len cap w hl hsz hok
  | true =>
    by_cases h1 : op = 3
    · obtain ⟨opt, nt, st, ks⟩ := t
      obtain rfl : op = opt := lies_opOf hl
      subst h1
      obtain ⟨k0, k1, rfl⟩ := ok_two (Or.inl rfl) hok
      obtain ⟨-, rfl, rfl, rfl, b, q, op3, n3, s3, a3, len3, cap3, op4, n4, s4, a4, len4, cap4, rfl, ⟨r0, r1, r2, r3, hk0⟩, r4, r5, r6, r7, hk1⟩ := lies_kids hl
      refine named_no3 k0 k1 nm hnm n s b q cap op3 n3 s3 a3 len3 cap3 op4 n4 s4 a4 len4 cap4 w hl hsz hok r0 r1 r2 r3 r4 r5 r6 r7 hk0 ?_
      simp only [behO, hok, decide_true, Bool.true_and] at hb
      cases hs : sameB k0 (textT nm) with
      | false => rfl
      | true => rw [hs] at hb; simp at hb
    · exact named_no2 t nm op n s a len cap w hl hsz hok h1

theorem named_some (t k : Tm) (nm : ByteArray) (hnm : nm.size ≤ 300) (op n : Int) (s : ByteArray) (a : Option Addr) (len cap : Nat) (w : World) (hl : Lies w 0 t (tmCells op n s a len cap)) (hsz : t.size ≤ 2097152) (hb : behO 3 (textT nm) t = some k) :
    Calls Tryz.prog 81 #[.agg #[.int .i64 op, .int .i64 n, .string s, .slice a len cap], .string nm] w fun e w' => ∃ op4 n4 s4 a4 len4 cap4, e = .returned (.tuple #[.agg #[.int .i64 op4, .int .i64 n4, .string s4, .slice a4 len4 cap4], .bool true]) ∧ Lies w 0 k (tmCells op4 n4 s4 a4 len4 cap4) ∧ Below w.heap.size w w' := by
  obtain ⟨nt, st, k0, rfl, hok, hs⟩ := behO_some hb
  obtain ⟨rfl, rfl, rfl, rfl, b, q, op3, n3, s3, a3, len3, cap3, op4, n4, s4, a4, len4, cap4, rfl, ⟨r0, r1, r2, r3, hk0⟩, r4, r5, r6, r7, hk1⟩ := lies_kids hl
  refine (named_yes k0 k nm hnm n s b q cap op3 n3 s3 a3 len3 cap3 op4 n4 s4 a4 len4 cap4 w hl hsz hok r0 r1 r2 r3 r4 r5 r6 r7 hk0 hs).mono ?_
  rintro e w' ⟨he', hb'⟩
  exact ⟨_, _, _, _, _, _, he', hk1, hb'⟩


end Go.Proofs.YtmklgikbajhcpaaGreatDoor
