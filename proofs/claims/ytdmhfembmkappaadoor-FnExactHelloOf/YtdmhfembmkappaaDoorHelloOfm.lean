/- For every term that can be read as data, FnExactHelloOf returns true and leaves its arguments as they were: impl.HelloOf answers as the model does, at every argument, writes into none, and its answer owns its memory. Conditions: the row's own; the package-level variables that it lists begin as the program's text lays them, which the card ties to the pruned copy of the program. -/
import Derived.Test.YtdmhfembmkappaaDoorG2
import Derived.Test.YtdmhfembmkappaaDoorBh
import Derived.Deep.RegionHeld3
import Derived.Deep.RegionWith
import Derived.Deep.DeepCutAuto
import Derived.Test.YtdmhfembmkappaaDoorHs
import Derived.Test.YtdmhfembmkappaaDoorMk
import Derived.Test.YtdmhfembmkappaaDoorHd
import Derived.Test.YtdmhfembmkappaaDoorTe
import Derived.Test.YtdmhfembmkappaaDoorTie
import Derived.Test.YtdmhfembmkappaaDoorCards
namespace Go.Proofs.YtdmhfembmkappaaDoor
open Go.RowKit Go.Deep
open Go.ChangeShapes Go.WideShapes Go.ChangeAt Go.RowKit Go.Deep

def Tm.opOf : Tm → Int | .node o _ _ _ => o
set_option maxRecDepth 100000 in
theorem lies_opOf {w : World} {k : Tm} {op n : Int} {s : ByteArray} {a : Option Addr} {len cap : Nat} (h : Lies w 0 k (tmCells op n s a len cap)) : op = k.opOf := by
  obtain ⟨o, m, z, ks⟩ := k
  simp only [Lies, tmCells, List.cons.injEq, Value.int.injEq, true_and] at h
  obtain ⟨_, _, ⟨h, _⟩, _⟩ := h
  exact h

set_option maxRecDepth 100000 in
set_option maxHeartbeats 2000000 in
theorem named_no1 (t : Tm) (nm : ByteArray) (op n : Int) (s : ByteArray) (a : Option Addr) (len cap : Nat) (w : World) (hl : Lies w 0 t (tmCells op n s a len cap)) (hsz : t.size ≤ 2097152) (hok : okT t = false) :
    Calls Tryd.prog 34 #[.agg #[.int .i64 op, .int .i64 n, .string s, .slice a len cap], .string nm] w fun e w' => e = .returned (.tuple #[.agg #[.int .i64 0, .int .i64 0, .string ByteArray.empty, .slice none 0 0], .bool false]) ∧ Below w.heap.size w w' := by
  have h46 := hide (ok8 t op n s a len cap)
  rw [hok] at h46
  have hB0 : Below w.heap.size w ((w.alloc (.cells #[.int .i64 op, .int .i64 n, .string s, .slice a len cap] 28)).alloc (.cells #[.int .i64 0, .int .i64 0, .string ByteArray.empty, .slice none 0 0] 28)) := bt (ab _) (ab _) (Nat.le_refl _)
  have HX : Hid (ZBox ((w.alloc (.cells #[.int .i64 op, .int .i64 n, .string s, .slice a len cap] 28)).alloc (.cells #[.int .i64 0, .int .i64 0, .string ByteArray.empty, .slice none 0 0] 28)) (w.heap.size + 1)) := by
    have := ZBox.new (w.alloc (.cells #[.int .i64 op, .int .i64 n, .string s, .slice a len cap] 28))
    rwa [heap_size_alloc] at this
  have HRA : Hid (RowT 28 ((w.alloc (.cells #[.int .i64 op, .int .i64 n, .string s, .slice a len cap] 28)).alloc (.cells #[.int .i64 0, .int .i64 0, .string ByteArray.empty, .slice none 0 0] 28)) w.heap.size op n s a len cap) := (RowT.new 28 w op n s a len cap).below (ab _)
  have HLA := hide (hl.below hB0)
  have HB0 := hide hB0
  clear hl hok hB0
  go_enter Tryd.func34, Tryd.ntmps34
  go_wp2_with fail
  generalize hgw : ((w.alloc (.cells #[.int .i64 op, .int .i64 n, .string s, .slice a len cap] 28)).alloc (.cells #[.int .i64 0, .int .i64 0, .string ByteArray.empty, .slice none 0 0] 28)) = W0 at *
  refine gw_world hgw ?_
  clear hgw
  obtain ⟨c0, c1, c2, c3⟩ := (unhide HRA).facts
  first
    | go_region_with (go_at_call 46; refine (unhide h46 _ ((unhide HLA).below (Below.refl _ _).drew) hsz).mono ?_; rintro e w2 ⟨rfl, hb2⟩; have hb2' := hide (below_drew' hb2); clear hb2; obtain ⟨k0, k1, k2, k3⟩ := ((unhide HRA).below (unhide hb2')).facts; have HB := hide (bt (unhide HB0) (unhide hb2') (Nat.le_refl _)); obtain ⟨d0, d1, d2, d3, e0, e1, e2, e3⟩ := ((unhide HX).below (unhide hb2')).facts)
    | fail
  all_goals go_wp2_with fail
  all_goals
    exact bodyPost_ret (v := .tuple #[.agg #[.int .i64 0, .int .i64 0, .string ByteArray.empty, .slice none 0 0], .bool false]) (by simp [results, Tryd.results34, go_sem, d0, d1, d2, d3]; try rfl) rfl ⟨rfl, set4_below (unhide HB) (by omega)⟩

set_option maxRecDepth 100000 in
set_option maxHeartbeats 2000000 in
theorem named_no2 (t : Tm) (nm : ByteArray) (op n : Int) (s : ByteArray) (a : Option Addr) (len cap : Nat) (w : World) (hl : Lies w 0 t (tmCells op n s a len cap)) (hsz : t.size ≤ 2097152) (hok : okT t = true) (h3 : op ≠ 3) :
    Calls Tryd.prog 34 #[.agg #[.int .i64 op, .int .i64 n, .string s, .slice a len cap], .string nm] w fun e w' => e = .returned (.tuple #[.agg #[.int .i64 0, .int .i64 0, .string ByteArray.empty, .slice none 0 0], .bool false]) ∧ Below w.heap.size w w' := by
  have h46 := hide (ok8 t op n s a len cap)
  rw [hok] at h46
  have q1 : (op != 3) = true := by simpa using h3
  have hB0 : Below w.heap.size w ((w.alloc (.cells #[.int .i64 op, .int .i64 n, .string s, .slice a len cap] 28)).alloc (.cells #[.int .i64 0, .int .i64 0, .string ByteArray.empty, .slice none 0 0] 28)) := bt (ab _) (ab _) (Nat.le_refl _)
  have HX : Hid (ZBox ((w.alloc (.cells #[.int .i64 op, .int .i64 n, .string s, .slice a len cap] 28)).alloc (.cells #[.int .i64 0, .int .i64 0, .string ByteArray.empty, .slice none 0 0] 28)) (w.heap.size + 1)) := by
    have := ZBox.new (w.alloc (.cells #[.int .i64 op, .int .i64 n, .string s, .slice a len cap] 28))
    rwa [heap_size_alloc] at this
  have HRA : Hid (RowT 28 ((w.alloc (.cells #[.int .i64 op, .int .i64 n, .string s, .slice a len cap] 28)).alloc (.cells #[.int .i64 0, .int .i64 0, .string ByteArray.empty, .slice none 0 0] 28)) w.heap.size op n s a len cap) := (RowT.new 28 w op n s a len cap).below (ab _)
  have HLA := hide (hl.below hB0)
  have HB0 := hide hB0
  clear hl hok hB0
  go_enter Tryd.func34, Tryd.ntmps34
  go_wp2_with fail
  generalize hgw : ((w.alloc (.cells #[.int .i64 op, .int .i64 n, .string s, .slice a len cap] 28)).alloc (.cells #[.int .i64 0, .int .i64 0, .string ByteArray.empty, .slice none 0 0] 28)) = W0 at *
  refine gw_world hgw ?_
  clear hgw
  obtain ⟨c0, c1, c2, c3⟩ := (unhide HRA).facts
  first
    | go_region_with (go_at_call 46; refine (unhide h46 _ ((unhide HLA).below (Below.refl _ _).drew) hsz).mono ?_; rintro e w2 ⟨rfl, hb2⟩; have hb2' := hide (below_drew' hb2); clear hb2; obtain ⟨k0, k1, k2, k3⟩ := ((unhide HRA).below (unhide hb2')).facts; have HB := hide (bt (unhide HB0) (unhide hb2') (Nat.le_refl _)); obtain ⟨d0, d1, d2, d3, e0, e1, e2, e3⟩ := ((unhide HX).below (unhide hb2')).facts)
    | fail
  all_goals go_wp2_with fail
  all_goals
    exact bodyPost_ret (v := .tuple #[.agg #[.int .i64 0, .int .i64 0, .string ByteArray.empty, .slice none 0 0], .bool false]) (by simp [results, Tryd.results34, go_sem, d0, d1, d2, d3]; try rfl) rfl ⟨rfl, set4_below (unhide HB) (by omega)⟩

set_option maxRecDepth 100000 in
set_option maxHeartbeats 2000000 in
theorem named_no3 (k0 k1 : Tm) (nm : ByteArray) (hnm : nm.size ≤ 300) (n : Int) (s : ByteArray) (b q cap2 : Nat) (op3 n3 : Int) (s3 : ByteArray) (a3 : Option Addr) (len3 cap3 : Nat) (op4 n4 : Int) (s4 : ByteArray) (a4 : Option Addr) (len4 cap4 : Nat) (w : World) (hl : Lies w 0 (.node 3 n s [k0, k1]) (tmCells 3 n s (some ⟨b, q, none⟩) 2 cap2)) (hsz : (Tm.node 3 n s [k0, k1]).size ≤ 2097152) (hok : okT (.node 3 n s [k0, k1]) = true)
    (r0 : w.cell? ⟨b, q, none⟩ = some (.int .i64 op3)) (r1 : w.cell? ⟨b, q + 1, none⟩ = some (.int .i64 n3)) (r2 : w.cell? ⟨b, q + 2, none⟩ = some (.string s3)) (r3 : w.cell? ⟨b, q + 3, none⟩ = some (.slice a3 len3 cap3)) (r4 : w.cell? ⟨b, q + 4, none⟩ = some (.int .i64 op4)) (r5 : w.cell? ⟨b, q + 5, none⟩ = some (.int .i64 n4)) (r6 : w.cell? ⟨b, q + 6, none⟩ = some (.string s4)) (r7 : w.cell? ⟨b, q + 7, none⟩ = some (.slice a4 len4 cap4)) (hk0 : Lies w 0 k0 (tmCells op3 n3 s3 a3 len3 cap3)) (hsm : sameB k0 (textT nm) = false) :
    Calls Tryd.prog 34 #[.agg #[.int .i64 3, .int .i64 n, .string s, .slice (some ⟨b, q, none⟩) 2 cap2], .string nm] w fun e w' => e = .returned (.tuple #[.agg #[.int .i64 0, .int .i64 0, .string ByteArray.empty, .slice none 0 0], .bool false]) ∧ Below w.heap.size w w' := by
  have h46 := hide (ok8 (.node 3 n s [k0, k1]) 3 n s (some ⟨b, q, none⟩) 2 cap2)
  rw [hok] at h46
  have h29 := hide (textS nm)
  have h47 := hide (sa_calls k0 (textT nm) op3 n3 s3 a3 len3 cap3 2 0 nm none 0 0)
  rw [hsm] at h47
  have HTL : Hid (∀ v : World, Lies v 0 (textT nm) (tmCells 2 0 nm none 0 0)) := fun v => text_lies nm hnm v
  generalize textT nm = TT at *
  have hB0 : Below w.heap.size w ((w.alloc (.cells #[.int .i64 3, .int .i64 n, .string s, .slice (some ⟨b, q, none⟩) 2 cap2] 28)).alloc (.cells #[.int .i64 0, .int .i64 0, .string ByteArray.empty, .slice none 0 0] 28)) := bt (ab _) (ab _) (Nat.le_refl _)
  have HX : Hid (ZBox ((w.alloc (.cells #[.int .i64 3, .int .i64 n, .string s, .slice (some ⟨b, q, none⟩) 2 cap2] 28)).alloc (.cells #[.int .i64 0, .int .i64 0, .string ByteArray.empty, .slice none 0 0] 28)) (w.heap.size + 1)) := by
    have := ZBox.new (w.alloc (.cells #[.int .i64 3, .int .i64 n, .string s, .slice (some ⟨b, q, none⟩) 2 cap2] 28))
    rwa [heap_size_alloc] at this
  have HRA : Hid (RowT 28 ((w.alloc (.cells #[.int .i64 3, .int .i64 n, .string s, .slice (some ⟨b, q, none⟩) 2 cap2] 28)).alloc (.cells #[.int .i64 0, .int .i64 0, .string ByteArray.empty, .slice none 0 0] 28)) w.heap.size 3 n s (some ⟨b, q, none⟩) 2 cap2) := (RowT.new 28 w 3 n s (some ⟨b, q, none⟩) 2 cap2).below (ab _)
  have HLA := hide (hl.below hB0)
  have HB0 := hide hB0
  have HLK := hide (hk0.below hB0)
  have HK := hide (And.intro (kpc hB0 r0) (And.intro (kpc hB0 r1) (And.intro (kpc hB0 r2) (kpc hB0 r3))))
  have HK1 := hide (And.intro (kpc hB0 r4) (And.intro (kpc hB0 r5) (And.intro (kpc hB0 r6) (kpc hB0 r7))))
  clear hl hok hB0 hk0 hsm r0 r1 r2 r3 r4 r5 r6 r7
  go_enter Tryd.func34, Tryd.ntmps34
  go_wp2_with fail
  generalize hgw : ((w.alloc (.cells #[.int .i64 3, .int .i64 n, .string s, .slice (some ⟨b, q, none⟩) 2 cap2] 28)).alloc (.cells #[.int .i64 0, .int .i64 0, .string ByteArray.empty, .slice none 0 0] 28)) = W0 at *
  refine gw_world hgw ?_
  clear hgw
  obtain ⟨c0, c1, c2, c3⟩ := (unhide HRA).facts
  first
    | go_region_with (first | (go_at_call 46; refine (unhide h46 _ ((unhide HLA).below (Below.refl _ _).drew) hsz).mono ?_; rintro e w2 ⟨rfl, hb2⟩; have hb2' := hide (below_drew' hb2); clear hb2; obtain ⟨k0, k1, k2, k3⟩ := ((unhide HRA).below (unhide hb2')).facts; have i0 := kpc (unhide hb2') (unhide HK).1; have i1 := kpc (unhide hb2') (unhide HK).2.1; have i2 := kpc (unhide hb2') (unhide HK).2.2.1; have i3 := kpc (unhide hb2') (unhide HK).2.2.2) | (go_at_call 29; refine (unhide h29 _).mono ?_; rintro e w3 ⟨rfl, hb3⟩; have hb3' := hide hb3; clear hb3 k0 k1 k2 k3 i0 i1 i2 i3; obtain ⟨k0, k1, k2, k3⟩ := (((unhide HRA).below (unhide hb2')).below (unhide hb3')).facts; have i0 := kpc (unhide hb3') (kpc (unhide hb2') (unhide HK).1); have i1 := kpc (unhide hb3') (kpc (unhide hb2') (unhide HK).2.1); have i2 := kpc (unhide hb3') (kpc (unhide hb2') (unhide HK).2.2.1); have i3 := kpc (unhide hb3') (kpc (unhide hb2') (unhide HK).2.2.2)) | (go_at_call 47; refine (unhide h47 _ (((unhide HLK).below (unhide hb2')).below (unhide hb3')) (unhide HTL _)).mono ?_; rintro e w4 ⟨rfl, hb4⟩; have hb4' := hide hb4; clear hb4 k0 k1 k2 k3 i0 i1 i2 i3; have hbb := bt (bt (unhide hb2') (unhide hb3') (Nat.le_refl _)) (unhide hb4') (Nat.le_refl _); have HB := hide (bt (unhide HB0) hbb (Nat.le_refl _)); obtain ⟨d0, d1, d2, d3, e0, e1, e2, e3⟩ := ((unhide HX).below hbb).facts; obtain ⟨k0, k1, k2, k3⟩ := ((unhide HRA).below hbb).facts; have i4 := kpc hbb (unhide HK1).1; have i5 := kpc hbb (unhide HK1).2.1; have i6 := kpc hbb (unhide HK1).2.2.1; have i7 := kpc hbb (unhide HK1).2.2.2; clear hbb))
    | fail
  all_goals go_wp2_with fail
  all_goals
    exact bodyPost_ret (v := .tuple #[.agg #[.int .i64 0, .int .i64 0, .string ByteArray.empty, .slice none 0 0], .bool false]) (by simp [results, Tryd.results34, go_sem, d0, d1, d2, d3]; try rfl) rfl ⟨rfl, set4_below (unhide HB) (by omega)⟩

set_option maxRecDepth 100000 in
set_option maxHeartbeats 2000000 in
theorem named_yes (k0 k1 : Tm) (nm : ByteArray) (hnm : nm.size ≤ 300) (n : Int) (s : ByteArray) (b q cap2 : Nat) (op3 n3 : Int) (s3 : ByteArray) (a3 : Option Addr) (len3 cap3 : Nat) (op4 n4 : Int) (s4 : ByteArray) (a4 : Option Addr) (len4 cap4 : Nat) (w : World) (hl : Lies w 0 (.node 3 n s [k0, k1]) (tmCells 3 n s (some ⟨b, q, none⟩) 2 cap2)) (hsz : (Tm.node 3 n s [k0, k1]).size ≤ 2097152) (hok : okT (.node 3 n s [k0, k1]) = true)
    (r0 : w.cell? ⟨b, q, none⟩ = some (.int .i64 op3)) (r1 : w.cell? ⟨b, q + 1, none⟩ = some (.int .i64 n3)) (r2 : w.cell? ⟨b, q + 2, none⟩ = some (.string s3)) (r3 : w.cell? ⟨b, q + 3, none⟩ = some (.slice a3 len3 cap3)) (r4 : w.cell? ⟨b, q + 4, none⟩ = some (.int .i64 op4)) (r5 : w.cell? ⟨b, q + 5, none⟩ = some (.int .i64 n4)) (r6 : w.cell? ⟨b, q + 6, none⟩ = some (.string s4)) (r7 : w.cell? ⟨b, q + 7, none⟩ = some (.slice a4 len4 cap4)) (hk0 : Lies w 0 k0 (tmCells op3 n3 s3 a3 len3 cap3)) (hsm : sameB k0 (textT nm) = true) :
    Calls Tryd.prog 34 #[.agg #[.int .i64 3, .int .i64 n, .string s, .slice (some ⟨b, q, none⟩) 2 cap2], .string nm] w fun e w' => e = .returned (.tuple #[.agg #[.int .i64 op4, .int .i64 n4, .string s4, .slice a4 len4 cap4], .bool true]) ∧ Below w.heap.size w w' := by
  have h46 := hide (ok8 (.node 3 n s [k0, k1]) 3 n s (some ⟨b, q, none⟩) 2 cap2)
  rw [hok] at h46
  have h29 := hide (textS nm)
  have h47 := hide (sa_calls k0 (textT nm) op3 n3 s3 a3 len3 cap3 2 0 nm none 0 0)
  rw [hsm] at h47
  have HTL : Hid (∀ v : World, Lies v 0 (textT nm) (tmCells 2 0 nm none 0 0)) := fun v => text_lies nm hnm v
  generalize textT nm = TT at *
  have hB0 : Below w.heap.size w ((w.alloc (.cells #[.int .i64 3, .int .i64 n, .string s, .slice (some ⟨b, q, none⟩) 2 cap2] 28)).alloc (.cells #[.int .i64 0, .int .i64 0, .string ByteArray.empty, .slice none 0 0] 28)) := bt (ab _) (ab _) (Nat.le_refl _)
  have HX : Hid (ZBox ((w.alloc (.cells #[.int .i64 3, .int .i64 n, .string s, .slice (some ⟨b, q, none⟩) 2 cap2] 28)).alloc (.cells #[.int .i64 0, .int .i64 0, .string ByteArray.empty, .slice none 0 0] 28)) (w.heap.size + 1)) := by
    have := ZBox.new (w.alloc (.cells #[.int .i64 3, .int .i64 n, .string s, .slice (some ⟨b, q, none⟩) 2 cap2] 28))
    rwa [heap_size_alloc] at this
  have HRA : Hid (RowT 28 ((w.alloc (.cells #[.int .i64 3, .int .i64 n, .string s, .slice (some ⟨b, q, none⟩) 2 cap2] 28)).alloc (.cells #[.int .i64 0, .int .i64 0, .string ByteArray.empty, .slice none 0 0] 28)) w.heap.size 3 n s (some ⟨b, q, none⟩) 2 cap2) := (RowT.new 28 w 3 n s (some ⟨b, q, none⟩) 2 cap2).below (ab _)
  have HLA := hide (hl.below hB0)
  have HB0 := hide hB0
  have HLK := hide (hk0.below hB0)
  have HK := hide (And.intro (kpc hB0 r0) (And.intro (kpc hB0 r1) (And.intro (kpc hB0 r2) (kpc hB0 r3))))
  have HK1 := hide (And.intro (kpc hB0 r4) (And.intro (kpc hB0 r5) (And.intro (kpc hB0 r6) (kpc hB0 r7))))
  clear hl hok hB0 hk0 hsm r0 r1 r2 r3 r4 r5 r6 r7
  go_enter Tryd.func34, Tryd.ntmps34
  go_wp2_with fail
  generalize hgw : ((w.alloc (.cells #[.int .i64 3, .int .i64 n, .string s, .slice (some ⟨b, q, none⟩) 2 cap2] 28)).alloc (.cells #[.int .i64 0, .int .i64 0, .string ByteArray.empty, .slice none 0 0] 28)) = W0 at *
  refine gw_world hgw ?_
  clear hgw
  obtain ⟨c0, c1, c2, c3⟩ := (unhide HRA).facts
  first
    | go_region_with (first | (go_at_call 46; refine (unhide h46 _ ((unhide HLA).below (Below.refl _ _).drew) hsz).mono ?_; rintro e w2 ⟨rfl, hb2⟩; have hb2' := hide (below_drew' hb2); clear hb2; obtain ⟨k0, k1, k2, k3⟩ := ((unhide HRA).below (unhide hb2')).facts; have i0 := kpc (unhide hb2') (unhide HK).1; have i1 := kpc (unhide hb2') (unhide HK).2.1; have i2 := kpc (unhide hb2') (unhide HK).2.2.1; have i3 := kpc (unhide hb2') (unhide HK).2.2.2) | (go_at_call 29; refine (unhide h29 _).mono ?_; rintro e w3 ⟨rfl, hb3⟩; have hb3' := hide hb3; clear hb3 k0 k1 k2 k3 i0 i1 i2 i3; obtain ⟨k0, k1, k2, k3⟩ := (((unhide HRA).below (unhide hb2')).below (unhide hb3')).facts; have i0 := kpc (unhide hb3') (kpc (unhide hb2') (unhide HK).1); have i1 := kpc (unhide hb3') (kpc (unhide hb2') (unhide HK).2.1); have i2 := kpc (unhide hb3') (kpc (unhide hb2') (unhide HK).2.2.1); have i3 := kpc (unhide hb3') (kpc (unhide hb2') (unhide HK).2.2.2)) | (go_at_call 47; refine (unhide h47 _ (((unhide HLK).below (unhide hb2')).below (unhide hb3')) (unhide HTL _)).mono ?_; rintro e w4 ⟨rfl, hb4⟩; have hb4' := hide hb4; clear hb4 k0 k1 k2 k3 i0 i1 i2 i3; have hbb := bt (bt (unhide hb2') (unhide hb3') (Nat.le_refl _)) (unhide hb4') (Nat.le_refl _); have HB := hide (bt (unhide HB0) hbb (Nat.le_refl _)); obtain ⟨d0, d1, d2, d3, e0, e1, e2, e3⟩ := ((unhide HX).below hbb).facts; obtain ⟨k0, k1, k2, k3⟩ := ((unhide HRA).below hbb).facts; have i4 := kpc hbb (unhide HK1).1; have i5 := kpc hbb (unhide HK1).2.1; have i6 := kpc hbb (unhide HK1).2.2.1; have i7 := kpc hbb (unhide HK1).2.2.2; clear hbb))
    | fail
  all_goals go_wp2_with fail
  all_goals
    exact bodyPost_ret (v := .tuple #[.agg #[.int .i64 op4, .int .i64 n4, .string s4, .slice a4 len4 cap4], .bool true]) (by simp [results, Tryd.results34, go_sem, d0, d1, d2, d3]; try rfl) rfl ⟨rfl, set4_below (unhide HB) (by omega)⟩

set_option maxRecDepth 100000 in
theorem named_none (t : Tm) (nm : ByteArray) (hnm : nm.size ≤ 300) (op n : Int) (s : ByteArray) (a : Option Addr) (len cap : Nat) (w : World) (hl : Lies w 0 t (tmCells op n s a len cap)) (hsz : t.size ≤ 2097152) (hb : behO 3 (textT nm) t = none) :
    Calls Tryd.prog 34 #[.agg #[.int .i64 op, .int .i64 n, .string s, .slice a len cap], .string nm] w fun e w' => e = .returned (.tuple #[.agg #[.int .i64 0, .int .i64 0, .string ByteArray.empty, .slice none 0 0], .bool false]) ∧ Below w.heap.size w w' := by
  cases hok : okT t with
  | false => exact named_no1 t nm op n s a len cap w hl hsz hok
  | true =>
    by_cases h1 : op = 3
    · obtain ⟨opt, nt, st, ks⟩ := t
      obtain rfl : op = opt := lies_opOf hl
      subst h1
      obtain ⟨k0, k1, rfl⟩ := ok_two (Or.inl rfl) hok
      obtain ⟨-, rfl, rfl, rfl, b, q, op3, n3, s3, a3, len3, cap3, op4, n4, s4, a4, len4, cap4, rfl, ⟨r0, r1, r2, r3, hk0⟩, r4, r5, r6, r7, hk1⟩ := lies_kids hl
      refine named_no3 k0 k1 nm hnm n s b q cap op3 n3 s3 a3 len3 cap3 op4 n4 s4 a4 len4 cap4 w hl hsz hok r0 r1 r2 r3 r4 r5 r6 r7 hk0 ?_
      simp only [behO, hok, decide_true, Bool.true_and] at hb
      cases hs : sameB k0 (textT nm) with
      | false => rfl
      | true => rw [hs] at hb; simp at hb
    · exact named_no2 t nm op n s a len cap w hl hsz hok h1

set_option maxRecDepth 100000 in
theorem named_some (t k : Tm) (nm : ByteArray) (hnm : nm.size ≤ 300) (op n : Int) (s : ByteArray) (a : Option Addr) (len cap : Nat) (w : World) (hl : Lies w 0 t (tmCells op n s a len cap)) (hsz : t.size ≤ 2097152) (hb : behO 3 (textT nm) t = some k) :
    Calls Tryd.prog 34 #[.agg #[.int .i64 op, .int .i64 n, .string s, .slice a len cap], .string nm] w fun e w' => ∃ op4 n4 s4 a4 len4 cap4, e = .returned (.tuple #[.agg #[.int .i64 op4, .int .i64 n4, .string s4, .slice a4 len4 cap4], .bool true]) ∧ Lies w 0 k (tmCells op4 n4 s4 a4 len4 cap4) ∧ Below w.heap.size w w' := by
  obtain ⟨nt, st, k0, rfl, hok, hs⟩ := behO_some hb
  obtain ⟨rfl, rfl, rfl, rfl, b, q, op3, n3, s3, a3, len3, cap3, op4, n4, s4, a4, len4, cap4, rfl, ⟨r0, r1, r2, r3, hk0⟩, r4, r5, r6, r7, hk1⟩ := lies_kids hl
  refine (named_yes k0 k nm hnm n s b q cap op3 n3 s3 a3 len3 cap3 op4 n4 s4 a4 len4 cap4 w hl hsz hok r0 r1 r2 r3 r4 r5 r6 r7 hk0 hs).mono ?_
  rintro e w' ⟨he', hb'⟩
  exact ⟨_, _, _, _, _, _, he', hk1, hb'⟩

/-- The open half of which a term is the greeting. -/
def helloO (t : Tm) : Option Tm := (behO 3 (textT helloW) t).bind fun k => if k.opOf = 4 then some k else none
theorem helloO_some {t k : Tm} (h : helloO t = some k) : behO 3 (textT helloW) t = some k ∧ k.opOf = 4 ∧ okT k = true := by
  obtain ⟨y, h1, h2⟩ := Option.bind_eq_some_iff.1 h
  split at h2
  · rename_i h4
    obtain rfl : y = k := by simpa using h2
    obtain ⟨n, s, k0, rfl, hok, _⟩ := behO_some h1
    exact ⟨h1, h4, okT_kid hok (by simp)⟩
  · cases h2
theorem helloO_none {t : Tm} (h : helloO t = none) : behO 3 (textT helloW) t = none ∨ ∃ k, behO 3 (textT helloW) t = some k ∧ k.opOf ≠ 4 := by
  cases hb : behO 3 (textT helloW) t with
  | none => exact Or.inl rfl
  | some k =>
    refine Or.inr ⟨k, rfl, fun h4 => ?_⟩
    simp [helloO, hb, h4] at h

set_option maxRecDepth 100000 in
set_option maxHeartbeats 2000000 in
theorem helloOfS_no1 (t : Tm) (op n : Int) (s : ByteArray) (a : Option Addr) (len cap : Nat) (w : World) (hl : Lies w 0 t (tmCells op n s a len cap)) (hsz : t.size ≤ 2097152) (hb : behO 3 (textT helloW) t = none) :
    Calls Tryd.prog 16 #[.agg #[.int .i64 op, .int .i64 n, .string s, .slice a len cap]] w fun e w' => e = .returned (.tuple #[.agg #[.int .i64 0, .int .i64 0, .string ByteArray.empty, .slice none 0 0], .bool false]) ∧ Below w.heap.size w w' := by
  have hB0 : Below w.heap.size w ((w.alloc (.cells #[.int .i64 op, .int .i64 n, .string s, .slice a len cap] 28)).alloc (.cells #[.int .i64 0, .int .i64 0, .string ByteArray.empty, .slice none 0 0] 28)) := bt (ab _) (ab _) (Nat.le_refl _)
  have HX : Hid (ZBox ((w.alloc (.cells #[.int .i64 op, .int .i64 n, .string s, .slice a len cap] 28)).alloc (.cells #[.int .i64 0, .int .i64 0, .string ByteArray.empty, .slice none 0 0] 28)) (w.heap.size + 1)) := by
    have := ZBox.new (w.alloc (.cells #[.int .i64 op, .int .i64 n, .string s, .slice a len cap] 28))
    rwa [heap_size_alloc] at this
  have HS0 : Hid (((w.alloc (.cells #[.int .i64 op, .int .i64 n, .string s, .slice a len cap] 28)).alloc (.cells #[.int .i64 0, .int .i64 0, .string ByteArray.empty, .slice none 0 0] 28)).heap.size = w.heap.size + 2) := by show _ = _; simp
  have HRA : Hid (RowT 28 ((w.alloc (.cells #[.int .i64 op, .int .i64 n, .string s, .slice a len cap] 28)).alloc (.cells #[.int .i64 0, .int .i64 0, .string ByteArray.empty, .slice none 0 0] 28)) w.heap.size op n s a len cap) := (RowT.new 28 w op n s a len cap).below (ab _)
  have h34 := hide (fun V h => named_none t helloW (by decide) op n s a len cap V h hsz hb)
  have HLA := hide (hl.below hB0)
  have HB0 := hide hB0
  clear hl hsz hb hB0 HRA
  go_enter Tryd.func16, Tryd.ntmps16
  go_wp2_with fail
  refine (unhide h34 _ (unhide HLA)).mono ?_
  rintro e w2 ⟨rfl, hb2⟩
  have HB2 := hide (bt (unhide HB0) hb2 (Nat.le_refl _))
  have HX2 := hide ((unhide HX).below hb2)
  obtain ⟨d0, d1, d2, d3, e0, e1, e2, e3⟩ := (unhide HX2).facts
  have hlt := lt_of_heap (unhide HX2)
  have hne := Nat.ne_of_lt hlt
  have hne' := Ne.symm hne
  clear hb2
  go_wp2_with fail
  have hK := (RowT.fill (ty := 28) (show RowT 28 w2 (w.heap.size + 1) 0 0 ByteArray.empty none 0 0 from unhide HX2) 0 0 ⟨#[]⟩ none 0 0).below (ab (.cells #[.int .i64 0, .int .i64 0, .string ByteArray.empty, .slice none 0 0] 28))
  obtain ⟨k0, k1, k2, k3⟩ := hK.facts
  exact bodyPost_ret (v := .tuple #[.agg #[.int .i64 0, .int .i64 0, .string ByteArray.empty, .slice none 0 0], .bool false]) (by simp [results, Tryd.results16, go_sem, k0, k1, k2, k3]; try rfl) rfl ⟨rfl, bt (set4_below (unhide HB2) (by omega)) (ab _) (Nat.le_refl _)⟩

set_option maxRecDepth 100000 in
set_option maxHeartbeats 2000000 in
theorem helloOfS_no2 (t : Tm) (op n : Int) (s : ByteArray) (a : Option Addr) (len cap : Nat) (w : World) (hl : Lies w 0 t (tmCells op n s a len cap)) (hsz : t.size ≤ 2097152) (k : Tm) (hb : behO 3 (textT helloW) t = some k) (h4 : k.opOf ≠ 4) :
    Calls Tryd.prog 16 #[.agg #[.int .i64 op, .int .i64 n, .string s, .slice a len cap]] w fun e w' => e = .returned (.tuple #[.agg #[.int .i64 0, .int .i64 0, .string ByteArray.empty, .slice none 0 0], .bool false]) ∧ Below w.heap.size w w' := by
  have hB0 : Below w.heap.size w ((w.alloc (.cells #[.int .i64 op, .int .i64 n, .string s, .slice a len cap] 28)).alloc (.cells #[.int .i64 0, .int .i64 0, .string ByteArray.empty, .slice none 0 0] 28)) := bt (ab _) (ab _) (Nat.le_refl _)
  have HX : Hid (ZBox ((w.alloc (.cells #[.int .i64 op, .int .i64 n, .string s, .slice a len cap] 28)).alloc (.cells #[.int .i64 0, .int .i64 0, .string ByteArray.empty, .slice none 0 0] 28)) (w.heap.size + 1)) := by
    have := ZBox.new (w.alloc (.cells #[.int .i64 op, .int .i64 n, .string s, .slice a len cap] 28))
    rwa [heap_size_alloc] at this
  have HS0 : Hid (((w.alloc (.cells #[.int .i64 op, .int .i64 n, .string s, .slice a len cap] 28)).alloc (.cells #[.int .i64 0, .int .i64 0, .string ByteArray.empty, .slice none 0 0] 28)).heap.size = w.heap.size + 2) := by show _ = _; simp
  have HRA : Hid (RowT 28 ((w.alloc (.cells #[.int .i64 op, .int .i64 n, .string s, .slice a len cap] 28)).alloc (.cells #[.int .i64 0, .int .i64 0, .string ByteArray.empty, .slice none 0 0] 28)) w.heap.size op n s a len cap) := (RowT.new 28 w op n s a len cap).below (ab _)
  have h34 := hide (fun V h => named_some t k helloW (by decide) op n s a len cap V h hsz hb)
  have HLA := hide (hl.below hB0)
  have HB0 := hide hB0
  clear hl hsz hb hB0 HRA
  go_enter Tryd.func16, Tryd.ntmps16
  go_wp2_with fail
  refine (unhide h34 _ (unhide HLA)).mono ?_
  rintro e w2 ⟨op4, n4, s4, a4, len4, cap4, rfl, hL4, hb2⟩
  have HO4 : Hid (op4 = k.opOf) := lies_opOf hL4
  have HB2 := hide (bt (unhide HB0) hb2 (Nat.le_refl _))
  have HX2 := hide ((unhide HX).below hb2)
  have HL4 := hide (hL4.below hb2)
  obtain ⟨d0, d1, d2, d3, e0, e1, e2, e3⟩ := (unhide HX2).facts
  have hlt := lt_of_heap (unhide HX2)
  have hne := Nat.ne_of_lt hlt
  have hne' := Ne.symm hne
  have q4 : (op4 != 4) = true := by rw [unhide HO4]; simpa using h4
  clear hb2 hL4
  go_wp2_with fail
  have hK := (RowT.fill (ty := 28) (show RowT 28 w2 (w.heap.size + 1) 0 0 ByteArray.empty none 0 0 from unhide HX2) 0 0 ⟨#[]⟩ none 0 0).below (ab (.cells #[.int .i64 op4, .int .i64 n4, .string s4, .slice a4 len4 cap4] 28))
  obtain ⟨k0, k1, k2, k3⟩ := hK.facts
  exact bodyPost_ret (v := .tuple #[.agg #[.int .i64 0, .int .i64 0, .string ByteArray.empty, .slice none 0 0], .bool false]) (by simp [results, Tryd.results16, go_sem, k0, k1, k2, k3]; try rfl) rfl ⟨rfl, bt (set4_below (unhide HB2) (by omega)) (ab _) (Nat.le_refl _)⟩

set_option maxRecDepth 100000 in
set_option maxHeartbeats 2000000 in
theorem helloOfS_yes (t : Tm) (op n : Int) (s : ByteArray) (a : Option Addr) (len cap : Nat) (w : World) (hl : Lies w 0 t (tmCells op n s a len cap)) (hsz : t.size ≤ 2097152) (k : Tm) (hb : behO 3 (textT helloW) t = some k) (h4 : k.opOf = 4) (hk : k.size ≤ 200) :
    Calls Tryd.prog 16 #[.agg #[.int .i64 op, .int .i64 n, .string s, .slice a len cap]] w fun e w' => ∃ op' n' s' a' len' cap', e = .returned (.tuple #[.agg #[.int .i64 op', .int .i64 n', .string s', .slice a' len' cap'], .bool true]) ∧ Lies w' 0 k (tmCells op' n' s' a' len' cap') ∧ Below w.heap.size w w' := by
  have hB0 : Below w.heap.size w ((w.alloc (.cells #[.int .i64 op, .int .i64 n, .string s, .slice a len cap] 28)).alloc (.cells #[.int .i64 0, .int .i64 0, .string ByteArray.empty, .slice none 0 0] 28)) := bt (ab _) (ab _) (Nat.le_refl _)
  have HX : Hid (ZBox ((w.alloc (.cells #[.int .i64 op, .int .i64 n, .string s, .slice a len cap] 28)).alloc (.cells #[.int .i64 0, .int .i64 0, .string ByteArray.empty, .slice none 0 0] 28)) (w.heap.size + 1)) := by
    have := ZBox.new (w.alloc (.cells #[.int .i64 op, .int .i64 n, .string s, .slice a len cap] 28))
    rwa [heap_size_alloc] at this
  have HS0 : Hid (((w.alloc (.cells #[.int .i64 op, .int .i64 n, .string s, .slice a len cap] 28)).alloc (.cells #[.int .i64 0, .int .i64 0, .string ByteArray.empty, .slice none 0 0] 28)).heap.size = w.heap.size + 2) := by show _ = _; simp
  have HRA : Hid (RowT 28 ((w.alloc (.cells #[.int .i64 op, .int .i64 n, .string s, .slice a len cap] 28)).alloc (.cells #[.int .i64 0, .int .i64 0, .string ByteArray.empty, .slice none 0 0] 28)) w.heap.size op n s a len cap) := (RowT.new 28 w op n s a len cap).below (ab _)
  have h34 := hide (fun V h => named_some t k helloW (by decide) op n s a len cap V h hsz hb)
  have HLA := hide (hl.below hB0)
  have HB0 := hide hB0
  clear hl hsz hb hB0 HRA
  go_enter Tryd.func16, Tryd.ntmps16
  go_wp2_with fail
  refine (unhide h34 _ (unhide HLA)).mono ?_
  rintro e w2 ⟨op4, n4, s4, a4, len4, cap4, rfl, hL4, hb2⟩
  have HO4 : Hid (op4 = k.opOf) := lies_opOf hL4
  have HB2 := hide (bt (unhide HB0) hb2 (Nat.le_refl _))
  have HX2 := hide ((unhide HX).below hb2)
  have HL4 := hide (hL4.below hb2)
  obtain ⟨d0, d1, d2, d3, e0, e1, e2, e3⟩ := (unhide HX2).facts
  have hlt := lt_of_heap (unhide HX2)
  have hne := Nat.ne_of_lt hlt
  have hne' := Ne.symm hne
  have q4 : (op4 != 4) = false := by rw [unhide HO4]; simpa using h4
  clear hb2 hL4
  have h35 := hide (fun V h => cz_calls k op4 n4 s4 a4 len4 cap4 V h (by omega))
  have HB3 := hide (bt (unhide HB2) (ab (.cells #[.int .i64 op4, .int .i64 n4, .string s4, .slice a4 len4 cap4] 28)) (Nat.le_refl _))
  have HX3 := hide ((unhide HX2).below (ab (.cells #[.int .i64 op4, .int .i64 n4, .string s4, .slice a4 len4 cap4] 28)))
  have HL5 := hide ((unhide HL4).below (ab (.cells #[.int .i64 op4, .int .i64 n4, .string s4, .slice a4 len4 cap4] 28)))
  clear HB2 HX2 HL4 hk
  go_wp2_with fail
  refine (unhide h35 _ (unhide HL5)).mono ?_
  rintro e w3 ⟨a5, cap5, f5, rfl, hO5, ⟨_, hge⟩, hb3⟩
  have HB4 := hide (bt (unhide HB3) hb3 (Nat.le_refl _))
  have HX4 := hide ((unhide HX3).below hb3)
  have HO5 := hide hO5
  have HGE := hide hge
  clear d0 d1 d2 d3 e0 e1 e2 e3 hO5 hge hb3 HB3 HX3
  obtain ⟨d0, d1, d2, d3, e0, e1, e2, e3⟩ := (unhide HX4).facts
  go_wp2_with fail
  exact bodyPost_ret (v := .tuple #[.agg #[.int .i64 op4, .int .i64 n4, .string s4, .slice a5 len4 cap5], .bool true]) (by simp [results, Tryd.results16, go_sem, d0, d1, d2, d3]; try rfl) rfl ⟨_, _, _, _, _, _, rfl, (Own.keep _ _ _ (unhide HO5) (fun b hb => set4_heap _ _ _ _ _ _ b (by have := unhide HGE b hb; simp only [heap_size_alloc] at this; omega))).lies0, set4_below (unhide HB4) (by omega)⟩

/-- The box of what came, and what came beside it. -/
def CutB (w2 : World) (op n : Int) (s : ByteArray) (a : Option Addr) (len cap : Nat) (ev : Value) (p q : Value) (wx : World) : Prop := ∃ b, p = .pointer (some ⟨b, 0, none⟩) ∧ q = ev ∧ w2.heap.size ≤ b ∧ RowT 28 wx b op n s a len cap ∧ Below w2.heap.size w2 wx
theorem CutB.late {w2 w5 : World} {op n : Int} {s : ByteArray} {a : Option Addr} {len cap : Nat} {ev : Value} (hb : Below w2.heap.size w2 w5) : CutB w2 op n s a len cap ev (.pointer (some ⟨w5.heap.size, 0, none⟩)) ev (w5.alloc (.cells #[.int .i64 op, .int .i64 n, .string s, .slice a len cap] 28)) :=
  ⟨_, rfl, rfl, hb.size, RowT.new 28 w5 op n s a len cap, bt hb (ab _) (Nat.le_refl _)⟩
theorem CutB.early {w2 w5 : World} {g : Nat} {op n : Int} {s : ByteArray} {a : Option Addr} {len cap : Nat} {ev : Value} (hb : Below w2.heap.size w2 w5) (hz : ZBox w5 g) (hg : w2.heap.size ≤ g) : CutB w2 op n s a len cap ev (.pointer (some ⟨g, 0, none⟩)) ev ((((w5.setCell ⟨g, 0, none⟩ (.int .i64 op)).setCell ⟨g, 1, none⟩ (.int .i64 n)).setCell ⟨g, 2, none⟩ (.string s)).setCell ⟨g, 3, none⟩ (.slice a len cap)) :=
  ⟨_, rfl, rfl, hg, fill26 hz op n s a len cap, set4_below hb hg⟩

set_option maxRecDepth 100000 in
set_option maxHeartbeats 2000000 in
theorem pubOf_no1 (t : Tm) (op n : Int) (s : ByteArray) (a : Option Addr) (len cap : Nat) (x : Addr) (w : World) (he : ErrAt x w) (hl : Lies w 0 t (tmCells op n s a len cap)) (hsz : t.size ≤ 2097152) (hb : behO 3 (textT helloW) t = none) :
    Calls Tryd.prog 37 #[.agg #[.int .i64 op, .int .i64 n, .string s, .slice a len cap]] w fun e w' => e = .returned (.tuple #[.agg #[.int .i64 0, .int .i64 0, .string ByteArray.empty, .slice none 0 0], .iface 120 (.pointer (some x))]) ∧ Below w.heap.size w w' := by
  have hB0 : Below w.heap.size w ((w.alloc (.cells #[.int .i64 op, .int .i64 n, .string s, .slice a len cap] 28)).alloc (.cells #[.int .i64 0, .int .i64 0, .string ByteArray.empty, .slice none 0 0] 28)) := bt (ab _) (ab _) (Nat.le_refl _)
  have HX : Hid (ZBox ((w.alloc (.cells #[.int .i64 op, .int .i64 n, .string s, .slice a len cap] 28)).alloc (.cells #[.int .i64 0, .int .i64 0, .string ByteArray.empty, .slice none 0 0] 28)) (w.heap.size + 1)) := by
    have := ZBox.new (w.alloc (.cells #[.int .i64 op, .int .i64 n, .string s, .slice a len cap] 28))
    rwa [heap_size_alloc] at this
  have HRA : Hid (RowT 28 ((w.alloc (.cells #[.int .i64 op, .int .i64 n, .string s, .slice a len cap] 28)).alloc (.cells #[.int .i64 0, .int .i64 0, .string ByteArray.empty, .slice none 0 0] 28)) w.heap.size op n s a len cap) := (RowT.new 28 w op n s a len cap).below (ab _)
  have h32 := hide (wordI (⟨#[104, 101, 108, 108, 111]⟩ : ByteArray))
  have h50 := hide (fun V (hV : Below w.heap.size w V) => behind_none 3 (Or.inl rfl) (textT helloW) t 2 0 (⟨#[104, 101, 108, 108, 111]⟩ : ByteArray) none 0 0 op n s a len cap x V (he.on hV) (text_lies helloW (by decide) V) (hl.below hV) hsz hb)
  have HER := hide he
  have HB0 := hide hB0
  clear hl hsz hb hB0 he
  go_enter Tryd.func37, Tryd.ntmps37
  go_wp2_with fail
  generalize hgw : ((w.alloc (.cells #[.int .i64 op, .int .i64 n, .string s, .slice a len cap] 28)).alloc (.cells #[.int .i64 0, .int .i64 0, .string ByteArray.empty, .slice none 0 0] 28)) = W0 at *
  refine gw_world hgw ?_
  clear hgw
  obtain ⟨c0, c1, c2, c3⟩ := (unhide HRA).facts
  have hx0 := lt_of_cell c0
  have hxn0 := Nat.ne_of_lt hx0
  have hxm0 := Ne.symm hxn0
  go_cut [4, 5] (fun p q wx => CutB W0 0 0 ByteArray.empty none 0 0 (.iface 120 (.pointer (some x))) p q wx)
  case first =>
    go_region_held3 (fun x => x.cell? ⟨w.heap.size, 0, none⟩ = some (.int .i64 op) ∧ x.cell? ⟨w.heap.size, 1, none⟩ = some (.int .i64 n) ∧ x.cell? ⟨w.heap.size, 2, none⟩ = some (.string s) ∧ x.cell? ⟨w.heap.size, 3, none⟩ = some (.slice a len cap)) (go_keep)
      (first
        | (go_at_call 32
           refine (unhide h32 _).mono ?_
           rintro e w2 ⟨rfl, hb2⟩
           try have zz2 := hide ((ZBox.new W0).drew.below hb2)
           have hb02 : Hid (Below W0.heap.size W0 w2) := by
             first
               | exact below_drew' hb2
               | exact bt (ab _) (below_drew' hb2) (Nat.le_refl _)
           have f0 := kpc (unhide hb02) c0
           have f1 := kpc (unhide hb02) c1
           have f2 := kpc (unhide hb02) c2
           have f3 := kpc (unhide hb02) c3
           have hy0 := lt_of_cell f0
           have hyn0 := Nat.ne_of_lt hy0
           have hym0 := Ne.symm hyn0)
        | (go_at_call 50
           refine (unhide h50 _ ?_).mono ?_
           first
             | exact bt (unhide HB0) (unhide hb02) (Nat.le_refl _)
             | exact bt (bt (unhide HB0) (unhide hb02) (Nat.le_refl _)) (ab _) (Nat.le_refl _)
           rintro e w3 ⟨rfl, hb3⟩
           try have zz3 := hide ((unhide zz2).below hb3)
           try have zz3 := hide ((ZBox.new w2).below hb3)
           have hb23 : Hid (Below w2.heap.size w2 w3) := by
             first
               | exact hb3
               | exact bt (ab _) hb3 (Nat.le_refl _)
           have g0 := kpc (unhide hb23) f0
           have g1 := kpc (unhide hb23) f1
           have g2 := kpc (unhide hb23) f2
           have g3 := kpc (unhide hb23) f3
           try obtain ⟨p0, p1, p2, p3, q0, q1, q2, q3⟩ := (unhide zz3).facts
           have hz0 := lt_of_cell g0
           have hzn0 := Nat.ne_of_lt hz0
           have hzm0 := Ne.symm hzn0))
    all_goals
      go_wp2_with fail
      go_meet
      have hb03 := bt (unhide hb02) (unhide hb23) (Nat.le_refl _)
      have s02 := (unhide hb02).size
      first
        | (with_reducible refine CutB.late ?_
           exact hb03)
        | (with_reducible refine CutB.early ?_ ?_ ?_
           exact hb03
           exact unhide zz3
           omega)
  case rest =>
    obtain ⟨bW, rfl, rfl, hge, hRW, hbc⟩ := hcut
    have HB2 := hide (bt (unhide HB0) hbc (Nat.le_refl _))
    have HX2 := hide ((unhide HX).below hbc)
    have hs1 := lt_of_heap (unhide HX)
    have hne : bW ≠ w.heap.size + 1 := by omega
    have hne' := Ne.symm hne
    obtain ⟨d0, d1, d2, d3, e0, e1, e2, e3⟩ := (unhide HX2).facts
    clear hbc hRW c0 c1 c2 c3
    go_wp2_with fail
    exact bodyPost_ret (v := .tuple #[.agg #[.int .i64 0, .int .i64 0, .string ByteArray.empty, .slice none 0 0], .iface 120 (.pointer (some x))]) (by simp [results, Tryd.results37, go_sem, d0, d1, d2, d3]; try rfl) rfl ⟨rfl, set4_below (unhide HB2) (by omega)⟩

set_option maxRecDepth 100000 in
set_option maxHeartbeats 2000000 in
theorem pubOf_no2 (k0 k : Tm) (n : Int) (s : ByteArray) (b q cap2 : Nat) (op3 n3 : Int) (s3 : ByteArray) (a3 : Option Addr) (len3 cap3 : Nat) (op4 n4 : Int) (s4 : ByteArray) (a4 : Option Addr) (len4 cap4 : Nat) (x : Addr) (w : World) (he : ErrAt x w) (hl : Lies w 0 (.node 3 n s [k0, k]) (tmCells 3 n s (some ⟨b, q, none⟩) 2 cap2)) (hsz : (Tm.node 3 n s [k0, k]).size ≤ 2097152) (hok : okT (.node 3 n s [k0, k]) = true)
    (r0 : w.cell? ⟨b, q, none⟩ = some (.int .i64 op3)) (r1 : w.cell? ⟨b, q + 1, none⟩ = some (.int .i64 n3)) (r2 : w.cell? ⟨b, q + 2, none⟩ = some (.string s3)) (r3 : w.cell? ⟨b, q + 3, none⟩ = some (.slice a3 len3 cap3)) (r4 : w.cell? ⟨b, q + 4, none⟩ = some (.int .i64 op4)) (r5 : w.cell? ⟨b, q + 5, none⟩ = some (.int .i64 n4)) (r6 : w.cell? ⟨b, q + 6, none⟩ = some (.string s4)) (r7 : w.cell? ⟨b, q + 7, none⟩ = some (.slice a4 len4 cap4)) (hk0 : Lies w 0 k0 (tmCells op3 n3 s3 a3 len3 cap3)) (hsm : sameB k0 (textT helloW) = true) (h4 : op4 ≠ 4) :
    Calls Tryd.prog 37 #[.agg #[.int .i64 3, .int .i64 n, .string s, .slice (some ⟨b, q, none⟩) 2 cap2]] w fun e w' => e = .returned (.tuple #[.agg #[.int .i64 0, .int .i64 0, .string ByteArray.empty, .slice none 0 0], .iface 120 (.pointer (some x))]) ∧ Below w.heap.size w w' := by
  have hB0 : Below w.heap.size w ((w.alloc (.cells #[.int .i64 3, .int .i64 n, .string s, .slice (some ⟨b, q, none⟩) 2 cap2] 28)).alloc (.cells #[.int .i64 0, .int .i64 0, .string ByteArray.empty, .slice none 0 0] 28)) := bt (ab _) (ab _) (Nat.le_refl _)
  have HX : Hid (ZBox ((w.alloc (.cells #[.int .i64 3, .int .i64 n, .string s, .slice (some ⟨b, q, none⟩) 2 cap2] 28)).alloc (.cells #[.int .i64 0, .int .i64 0, .string ByteArray.empty, .slice none 0 0] 28)) (w.heap.size + 1)) := by
    have := ZBox.new (w.alloc (.cells #[.int .i64 3, .int .i64 n, .string s, .slice (some ⟨b, q, none⟩) 2 cap2] 28))
    rwa [heap_size_alloc] at this
  have HRA : Hid (RowT 28 ((w.alloc (.cells #[.int .i64 3, .int .i64 n, .string s, .slice (some ⟨b, q, none⟩) 2 cap2] 28)).alloc (.cells #[.int .i64 0, .int .i64 0, .string ByteArray.empty, .slice none 0 0] 28)) w.heap.size 3 n s (some ⟨b, q, none⟩) 2 cap2) := (RowT.new 28 w 3 n s (some ⟨b, q, none⟩) 2 cap2).below (ab _)
  have h32 := hide (wordI (⟨#[104, 101, 108, 108, 111]⟩ : ByteArray))
  have h50 := hide (fun V (hV : Below w.heap.size w V) => behind_yes (textT helloW) k0 k 2 0 (⟨#[104, 101, 108, 108, 111]⟩ : ByteArray) none 0 0 3 n s b q cap2 op3 n3 s3 a3 len3 cap3 op4 n4 s4 a4 len4 cap4 x V (he.on hV) (text_lies helloW (by decide) V) (hl.below hV) hsz hok (kpc hV r0) (kpc hV r1) (kpc hV r2) (kpc hV r3) (hk0.below hV) (kpc hV r4) (kpc hV r5) (kpc hV r6) (kpc hV r7) hsm)
  have HER := hide he
  have HB0 := hide hB0
  have q4 : (op4 != 4) = true := by simpa using h4
  clear h4
  clear hl hsz hok hB0 he hk0 hsm r0 r1 r2 r3 r4 r5 r6 r7
  go_enter Tryd.func37, Tryd.ntmps37
  go_wp2_with fail
  generalize hgw : ((w.alloc (.cells #[.int .i64 3, .int .i64 n, .string s, .slice (some ⟨b, q, none⟩) 2 cap2] 28)).alloc (.cells #[.int .i64 0, .int .i64 0, .string ByteArray.empty, .slice none 0 0] 28)) = W0 at *
  refine gw_world hgw ?_
  clear hgw
  obtain ⟨c0, c1, c2, c3⟩ := (unhide HRA).facts
  have hx0 := lt_of_cell c0
  have hxn0 := Nat.ne_of_lt hx0
  have hxm0 := Ne.symm hxn0
  go_cut [4, 5] (fun p q wx => CutB W0 op4 n4 s4 a4 len4 cap4 .nilIface p q wx)
  case first =>
    go_region_held3 (fun x => x.cell? ⟨w.heap.size, 0, none⟩ = some (.int .i64 3) ∧ x.cell? ⟨w.heap.size, 1, none⟩ = some (.int .i64 n) ∧ x.cell? ⟨w.heap.size, 2, none⟩ = some (.string s) ∧ x.cell? ⟨w.heap.size, 3, none⟩ = some (.slice (some ⟨b, q, none⟩) 2 cap2)) (go_keep)
      (first
        | (go_at_call 32
           refine (unhide h32 _).mono ?_
           rintro e w2 ⟨rfl, hb2⟩
           try have zz2 := hide ((ZBox.new W0).drew.below hb2)
           have hb02 : Hid (Below W0.heap.size W0 w2) := by
             first
               | exact below_drew' hb2
               | exact bt (ab _) (below_drew' hb2) (Nat.le_refl _)
           have f0 := kpc (unhide hb02) c0
           have f1 := kpc (unhide hb02) c1
           have f2 := kpc (unhide hb02) c2
           have f3 := kpc (unhide hb02) c3
           have hy0 := lt_of_cell f0
           have hyn0 := Nat.ne_of_lt hy0
           have hym0 := Ne.symm hyn0)
        | (go_at_call 50
           refine (unhide h50 _ ?_).mono ?_
           first
             | exact bt (unhide HB0) (unhide hb02) (Nat.le_refl _)
             | exact bt (bt (unhide HB0) (unhide hb02) (Nat.le_refl _)) (ab _) (Nat.le_refl _)
           rintro e w3 ⟨rfl, hb3⟩
           try have zz3 := hide ((unhide zz2).below hb3)
           try have zz3 := hide ((ZBox.new w2).below hb3)
           have hb23 : Hid (Below w2.heap.size w2 w3) := by
             first
               | exact hb3
               | exact bt (ab _) hb3 (Nat.le_refl _)
           have g0 := kpc (unhide hb23) f0
           have g1 := kpc (unhide hb23) f1
           have g2 := kpc (unhide hb23) f2
           have g3 := kpc (unhide hb23) f3
           try obtain ⟨p0, p1, p2, p3, q0, q1, q2, q3⟩ := (unhide zz3).facts
           have hz0 := lt_of_cell g0
           have hzn0 := Nat.ne_of_lt hz0
           have hzm0 := Ne.symm hzn0))
    all_goals
      go_wp2_with fail
      go_meet
      have hb03 := bt (unhide hb02) (unhide hb23) (Nat.le_refl _)
      have s02 := (unhide hb02).size
      first
        | (with_reducible refine CutB.late ?_
           exact hb03)
        | (with_reducible refine CutB.early ?_ ?_ ?_
           exact hb03
           exact unhide zz3
           omega)
  case rest =>
    obtain ⟨bW, rfl, rfl, hge, hRW, hbc⟩ := hcut
    have HB2 := hide (bt (unhide HB0) hbc (Nat.le_refl _))
    have HX2 := hide ((unhide HX).below hbc)
    have hs1 := lt_of_heap (unhide HX)
    have hne : bW ≠ w.heap.size + 1 := by omega
    have hne' := Ne.symm hne
    obtain ⟨d0, d1, d2, d3, e0, e1, e2, e3⟩ := (unhide HX2).facts
    obtain ⟨r0, r1, r2, r3⟩ := hRW.facts
    have g0 := ((unhide HER).on (unhide HB2)).cell
    have hz1 : (w.heap.size + 1 = 0) = False := by simp
    have hz2 : (0 = w.heap.size + 1) = False := by simp
    clear hbc hRW c0 c1 c2 c3
    go_wp2_with fail
    go_region
    all_goals go_wp2_with fail
    all_goals
      exact bodyPost_ret (v := .tuple #[.agg #[.int .i64 0, .int .i64 0, .string ByteArray.empty, .slice none 0 0], .iface 120 (.pointer (some x))]) (by simp [results, Tryd.results37, go_sem, d0, d1, d2, d3]; try rfl) rfl ⟨rfl, set4_below (unhide HB2).drew (by omega)⟩

set_option maxRecDepth 100000 in
set_option maxHeartbeats 2000000 in
theorem pubOf_yes (k0 k : Tm) (n : Int) (s : ByteArray) (b q cap2 : Nat) (op3 n3 : Int) (s3 : ByteArray) (a3 : Option Addr) (len3 cap3 : Nat) (op4 n4 : Int) (s4 : ByteArray) (a4 : Option Addr) (len4 cap4 : Nat) (x : Addr) (w : World) (he : ErrAt x w) (hl : Lies w 0 (.node 3 n s [k0, k]) (tmCells 3 n s (some ⟨b, q, none⟩) 2 cap2)) (hsz : (Tm.node 3 n s [k0, k]).size ≤ 2097152) (hok : okT (.node 3 n s [k0, k]) = true)
    (r0 : w.cell? ⟨b, q, none⟩ = some (.int .i64 op3)) (r1 : w.cell? ⟨b, q + 1, none⟩ = some (.int .i64 n3)) (r2 : w.cell? ⟨b, q + 2, none⟩ = some (.string s3)) (r3 : w.cell? ⟨b, q + 3, none⟩ = some (.slice a3 len3 cap3)) (r4 : w.cell? ⟨b, q + 4, none⟩ = some (.int .i64 op4)) (r5 : w.cell? ⟨b, q + 5, none⟩ = some (.int .i64 n4)) (r6 : w.cell? ⟨b, q + 6, none⟩ = some (.string s4)) (r7 : w.cell? ⟨b, q + 7, none⟩ = some (.slice a4 len4 cap4)) (hk0 : Lies w 0 k0 (tmCells op3 n3 s3 a3 len3 cap3)) (hsm : sameB k0 (textT helloW) = true) (h4 : op4 = 4) :
    Calls Tryd.prog 37 #[.agg #[.int .i64 3, .int .i64 n, .string s, .slice (some ⟨b, q, none⟩) 2 cap2]] w fun e w' => e = .returned (.tuple #[.agg #[.int .i64 op4, .int .i64 n4, .string s4, .slice a4 len4 cap4], .nilIface]) ∧ Below w.heap.size w w' := by
  have hB0 : Below w.heap.size w ((w.alloc (.cells #[.int .i64 3, .int .i64 n, .string s, .slice (some ⟨b, q, none⟩) 2 cap2] 28)).alloc (.cells #[.int .i64 0, .int .i64 0, .string ByteArray.empty, .slice none 0 0] 28)) := bt (ab _) (ab _) (Nat.le_refl _)
  have HX : Hid (ZBox ((w.alloc (.cells #[.int .i64 3, .int .i64 n, .string s, .slice (some ⟨b, q, none⟩) 2 cap2] 28)).alloc (.cells #[.int .i64 0, .int .i64 0, .string ByteArray.empty, .slice none 0 0] 28)) (w.heap.size + 1)) := by
    have := ZBox.new (w.alloc (.cells #[.int .i64 3, .int .i64 n, .string s, .slice (some ⟨b, q, none⟩) 2 cap2] 28))
    rwa [heap_size_alloc] at this
  have HRA : Hid (RowT 28 ((w.alloc (.cells #[.int .i64 3, .int .i64 n, .string s, .slice (some ⟨b, q, none⟩) 2 cap2] 28)).alloc (.cells #[.int .i64 0, .int .i64 0, .string ByteArray.empty, .slice none 0 0] 28)) w.heap.size 3 n s (some ⟨b, q, none⟩) 2 cap2) := (RowT.new 28 w 3 n s (some ⟨b, q, none⟩) 2 cap2).below (ab _)
  have h32 := hide (wordI (⟨#[104, 101, 108, 108, 111]⟩ : ByteArray))
  have h50 := hide (fun V (hV : Below w.heap.size w V) => behind_yes (textT helloW) k0 k 2 0 (⟨#[104, 101, 108, 108, 111]⟩ : ByteArray) none 0 0 3 n s b q cap2 op3 n3 s3 a3 len3 cap3 op4 n4 s4 a4 len4 cap4 x V (he.on hV) (text_lies helloW (by decide) V) (hl.below hV) hsz hok (kpc hV r0) (kpc hV r1) (kpc hV r2) (kpc hV r3) (hk0.below hV) (kpc hV r4) (kpc hV r5) (kpc hV r6) (kpc hV r7) hsm)
  have HER := hide he
  have HB0 := hide hB0
  have q4 : (op4 != 4) = false := by simpa using h4
  clear h4
  clear hl hsz hok hB0 he hk0 hsm r0 r1 r2 r3 r4 r5 r6 r7
  go_enter Tryd.func37, Tryd.ntmps37
  go_wp2_with fail
  generalize hgw : ((w.alloc (.cells #[.int .i64 3, .int .i64 n, .string s, .slice (some ⟨b, q, none⟩) 2 cap2] 28)).alloc (.cells #[.int .i64 0, .int .i64 0, .string ByteArray.empty, .slice none 0 0] 28)) = W0 at *
  refine gw_world hgw ?_
  clear hgw
  obtain ⟨c0, c1, c2, c3⟩ := (unhide HRA).facts
  have hx0 := lt_of_cell c0
  have hxn0 := Nat.ne_of_lt hx0
  have hxm0 := Ne.symm hxn0
  go_cut [4, 5] (fun p q wx => CutB W0 op4 n4 s4 a4 len4 cap4 .nilIface p q wx)
  case first =>
    go_region_held3 (fun x => x.cell? ⟨w.heap.size, 0, none⟩ = some (.int .i64 3) ∧ x.cell? ⟨w.heap.size, 1, none⟩ = some (.int .i64 n) ∧ x.cell? ⟨w.heap.size, 2, none⟩ = some (.string s) ∧ x.cell? ⟨w.heap.size, 3, none⟩ = some (.slice (some ⟨b, q, none⟩) 2 cap2)) (go_keep)
      (first
        | (go_at_call 32
           refine (unhide h32 _).mono ?_
           rintro e w2 ⟨rfl, hb2⟩
           try have zz2 := hide ((ZBox.new W0).drew.below hb2)
           have hb02 : Hid (Below W0.heap.size W0 w2) := by
             first
               | exact below_drew' hb2
               | exact bt (ab _) (below_drew' hb2) (Nat.le_refl _)
           have f0 := kpc (unhide hb02) c0
           have f1 := kpc (unhide hb02) c1
           have f2 := kpc (unhide hb02) c2
           have f3 := kpc (unhide hb02) c3
           have hy0 := lt_of_cell f0
           have hyn0 := Nat.ne_of_lt hy0
           have hym0 := Ne.symm hyn0)
        | (go_at_call 50
           refine (unhide h50 _ ?_).mono ?_
           first
             | exact bt (unhide HB0) (unhide hb02) (Nat.le_refl _)
             | exact bt (bt (unhide HB0) (unhide hb02) (Nat.le_refl _)) (ab _) (Nat.le_refl _)
           rintro e w3 ⟨rfl, hb3⟩
           try have zz3 := hide ((unhide zz2).below hb3)
           try have zz3 := hide ((ZBox.new w2).below hb3)
           have hb23 : Hid (Below w2.heap.size w2 w3) := by
             first
               | exact hb3
               | exact bt (ab _) hb3 (Nat.le_refl _)
           have g0 := kpc (unhide hb23) f0
           have g1 := kpc (unhide hb23) f1
           have g2 := kpc (unhide hb23) f2
           have g3 := kpc (unhide hb23) f3
           try obtain ⟨p0, p1, p2, p3, q0, q1, q2, q3⟩ := (unhide zz3).facts
           have hz0 := lt_of_cell g0
           have hzn0 := Nat.ne_of_lt hz0
           have hzm0 := Ne.symm hzn0))
    all_goals
      go_wp2_with fail
      go_meet
      have hb03 := bt (unhide hb02) (unhide hb23) (Nat.le_refl _)
      have s02 := (unhide hb02).size
      first
        | (with_reducible refine CutB.late ?_
           exact hb03)
        | (with_reducible refine CutB.early ?_ ?_ ?_
           exact hb03
           exact unhide zz3
           omega)
  case rest =>
    obtain ⟨bW, rfl, rfl, hge, hRW, hbc⟩ := hcut
    have HB2 := hide (bt (unhide HB0) hbc (Nat.le_refl _))
    have HX2 := hide ((unhide HX).below hbc)
    have hs1 := lt_of_heap (unhide HX)
    have hne : bW ≠ w.heap.size + 1 := by omega
    have hne' := Ne.symm hne
    obtain ⟨d0, d1, d2, d3, e0, e1, e2, e3⟩ := (unhide HX2).facts
    obtain ⟨r0, r1, r2, r3⟩ := hRW.facts
    have g0 := ((unhide HER).on (unhide HB2)).cell
    have hz1 : (w.heap.size + 1 = 0) = False := by simp
    have hz2 : (0 = w.heap.size + 1) = False := by simp
    clear hbc hRW c0 c1 c2 c3
    go_wp2_with fail
    exact bodyPost_ret (v := .tuple #[.agg #[.int .i64 op4, .int .i64 n4, .string s4, .slice a4 len4 cap4], .nilIface]) (by simp [results, Tryd.results37, go_sem, d0, d1, d2, d3]; try rfl) rfl ⟨rfl, set4_below (unhide HB2) (by omega)⟩

set_option maxRecDepth 100000 in
set_option maxHeartbeats 2000000 in
theorem helloOfI_no (op n : Int) (s : ByteArray) (a : Option Addr) (len cap : Nat) (x : Addr) (w : World) (he : ErrAt x w) (h37 : ∀ V, Below w.heap.size w V → Calls Tryd.prog 37 #[.agg #[.int .i64 op, .int .i64 n, .string s, .slice a len cap]] V fun e w' => e = .returned (.tuple #[.agg #[.int .i64 0, .int .i64 0, .string ByteArray.empty, .slice none 0 0], .iface 120 (.pointer (some x))]) ∧ Below V.heap.size V w') :
    Calls Tryd.prog 17 #[.agg #[.int .i64 op, .int .i64 n, .string s, .slice a len cap]] w fun e w' => e = .returned (.tuple #[.agg #[.int .i64 0, .int .i64 0, .string ByteArray.empty, .slice none 0 0], .bool false]) ∧ Below w.heap.size w w' := by
  have hB0 : Below w.heap.size w ((w.alloc (.cells #[.int .i64 op, .int .i64 n, .string s, .slice a len cap] 28)).alloc (.cells #[.int .i64 0, .int .i64 0, .string ByteArray.empty, .slice none 0 0] 28)) := bt (ab _) (ab _) (Nat.le_refl _)
  have HX : Hid (ZBox ((w.alloc (.cells #[.int .i64 op, .int .i64 n, .string s, .slice a len cap] 28)).alloc (.cells #[.int .i64 0, .int .i64 0, .string ByteArray.empty, .slice none 0 0] 28)) (w.heap.size + 1)) := by
    have := ZBox.new (w.alloc (.cells #[.int .i64 op, .int .i64 n, .string s, .slice a len cap] 28))
    rwa [heap_size_alloc] at this
  have HS0 : Hid (((w.alloc (.cells #[.int .i64 op, .int .i64 n, .string s, .slice a len cap] 28)).alloc (.cells #[.int .i64 0, .int .i64 0, .string ByteArray.empty, .slice none 0 0] 28)).heap.size = w.heap.size + 2) := by show _ = _; simp
  have HRA : Hid (RowT 28 ((w.alloc (.cells #[.int .i64 op, .int .i64 n, .string s, .slice a len cap] 28)).alloc (.cells #[.int .i64 0, .int .i64 0, .string ByteArray.empty, .slice none 0 0] 28)) w.heap.size op n s a len cap) := (RowT.new 28 w op n s a len cap).below (ab _)
  have H37 := hide h37
  have HER := hide he
  have HB0 := hide hB0
  clear h37 he hB0 HRA
  go_enter Tryd.func17, Tryd.ntmps17
  go_wp2_with fail
  refine (unhide H37 _ (unhide HB0)).mono ?_
  rintro e w2 ⟨rfl, hb2⟩
  have HB2 := hide (bt (unhide HB0) hb2 (Nat.le_refl _))
  have HX2 := hide ((unhide HX).below hb2)
  have h36 := hide (fun z he => answer_no 0 0 ByteArray.empty none 0 0 x z he)
  clear hb2 HB0 HX
  go_wp2_with fail
  refine (unhide h36 _ ((unhide HER).on (unhide HB2))).mono ?_
  rintro e w3 ⟨rfl, hb3⟩
  have HB3 := hide (bt (unhide HB2) hb3 (Nat.le_refl _))
  obtain ⟨d0, d1, d2, d3, e0, e1, e2, e3⟩ := ((unhide HX2).below hb3).facts
  clear hb3
  go_wp2_with fail
  exact bodyPost_ret (v := .tuple #[.agg #[.int .i64 0, .int .i64 0, .string ByteArray.empty, .slice none 0 0], .bool false]) (by simp [results, Tryd.results17, go_sem, d0, d1, d2, d3]; try rfl) rfl ⟨rfl, set4_below (unhide HB3) (by omega)⟩

set_option maxRecDepth 100000 in
set_option maxHeartbeats 2000000 in
theorem helloOfI_yes (k : Tm) (op n : Int) (s : ByteArray) (a : Option Addr) (len cap : Nat) (op4 n4 : Int) (s4 : ByteArray) (a4 : Option Addr) (len4 cap4 : Nat) (x : Addr) (w : World) (he : ErrAt x w) (hk : Lies w 0 k (tmCells op4 n4 s4 a4 len4 cap4)) (hok : okT k = true) (h37 : ∀ V, Below w.heap.size w V → Calls Tryd.prog 37 #[.agg #[.int .i64 op, .int .i64 n, .string s, .slice a len cap]] V fun e w' => e = .returned (.tuple #[.agg #[.int .i64 op4, .int .i64 n4, .string s4, .slice a4 len4 cap4], .nilIface]) ∧ Below V.heap.size V w') :
    Calls Tryd.prog 17 #[.agg #[.int .i64 op, .int .i64 n, .string s, .slice a len cap]] w fun e w' => ∃ op' n' s' a' len' cap' fp, e = .returned (.tuple #[.agg #[.int .i64 op', .int .i64 n', .string s', .slice a' len' cap'], .bool true]) ∧ Own w' k (tmCells op' n' s' a' len' cap') fp ∧ (fp.Nodup ∧ ∀ y ∈ fp, w.heap.size ≤ y) ∧ Below w.heap.size w w' := by
  have hB0 : Below w.heap.size w ((w.alloc (.cells #[.int .i64 op, .int .i64 n, .string s, .slice a len cap] 28)).alloc (.cells #[.int .i64 0, .int .i64 0, .string ByteArray.empty, .slice none 0 0] 28)) := bt (ab _) (ab _) (Nat.le_refl _)
  have HX : Hid (ZBox ((w.alloc (.cells #[.int .i64 op, .int .i64 n, .string s, .slice a len cap] 28)).alloc (.cells #[.int .i64 0, .int .i64 0, .string ByteArray.empty, .slice none 0 0] 28)) (w.heap.size + 1)) := by
    have := ZBox.new (w.alloc (.cells #[.int .i64 op, .int .i64 n, .string s, .slice a len cap] 28))
    rwa [heap_size_alloc] at this
  have HS0 : Hid (((w.alloc (.cells #[.int .i64 op, .int .i64 n, .string s, .slice a len cap] 28)).alloc (.cells #[.int .i64 0, .int .i64 0, .string ByteArray.empty, .slice none 0 0] 28)).heap.size = w.heap.size + 2) := by show _ = _; simp
  have HRA : Hid (RowT 28 ((w.alloc (.cells #[.int .i64 op, .int .i64 n, .string s, .slice a len cap] 28)).alloc (.cells #[.int .i64 0, .int .i64 0, .string ByteArray.empty, .slice none 0 0] 28)) w.heap.size op n s a len cap) := (RowT.new 28 w op n s a len cap).below (ab _)
  have H37 := hide h37
  have HER := hide he
  have HLK := hide hk
  have HB0 := hide hB0
  have h36 := hide (fun z hl he => answer_yes k op4 n4 s4 a4 len4 cap4 x z hl (by have := okT_small hok; omega) he)
  clear h37 he hB0 HRA hk hok
  go_enter Tryd.func17, Tryd.ntmps17
  go_wp2_with fail
  refine (unhide H37 _ (unhide HB0)).mono ?_
  rintro e w2 ⟨rfl, hb2⟩
  have HB2 := hide (bt (unhide HB0) hb2 (Nat.le_refl _))
  have HX2 := hide ((unhide HX).below hb2)
  have HLT := hide (lt_of_heap (unhide HX2))
  clear hb2 HB0 HX
  go_wp2_with fail
  refine (unhide h36 _ ((unhide HLK).below (unhide HB2)) ((unhide HER).on (unhide HB2))).mono ?_
  rintro e w3 ⟨a7, cap7, fp, rfl, hO, ⟨hnd, hge⟩, hb3⟩
  have HB3 := hide (bt (unhide HB2) hb3 (Nat.le_refl _))
  have HO := hide hO
  have HND := hide hnd
  have HGE := hide hge
  obtain ⟨d0, d1, d2, d3, e0, e1, e2, e3⟩ := ((unhide HX2).below hb3).facts
  clear hb3 hO hnd hge
  go_wp2_with fail
  exact bodyPost_ret (v := .tuple #[.agg #[.int .i64 op4, .int .i64 n4, .string s4, .slice a7 len4 cap7], .bool true]) (by simp [results, Tryd.results17, go_sem, d0, d1, d2, d3]; try rfl) rfl ⟨_, _, _, _, _, _, fp, rfl, Own.keep _ _ _ (unhide HO) (fun b hb => set4_heap _ _ _ _ _ _ b (by have := unhide HGE b hb; have := unhide HLT; omega)), ⟨unhide HND, fun y hy => by have := unhide HGE y hy; have := unhide HLT; omega⟩, set4_below (unhide HB3) (by omega)⟩

/-- Both sides of HelloOf, at whatever term. -/
theorem helloOfS (t : Tm) (op n : Int) (s : ByteArray) (a : Option Addr) (len cap : Nat) (w : World) (hl : Lies w 0 t (tmCells op n s a len cap)) (hsz : t.size ≤ 2097152) :
    (helloO t = none → Calls Tryd.prog 16 #[.agg #[.int .i64 op, .int .i64 n, .string s, .slice a len cap]] w fun e w' => e = .returned (.tuple #[.agg #[.int .i64 0, .int .i64 0, .string ByteArray.empty, .slice none 0 0], .bool false]) ∧ Below w.heap.size w w') ∧
      (∀ k, helloO t = some k → Calls Tryd.prog 16 #[.agg #[.int .i64 op, .int .i64 n, .string s, .slice a len cap]] w fun e w' => ∃ op' n' s' a' len' cap', e = .returned (.tuple #[.agg #[.int .i64 op', .int .i64 n', .string s', .slice a' len' cap'], .bool true]) ∧ Lies w' 0 k (tmCells op' n' s' a' len' cap') ∧ Below w.heap.size w w') := by
  refine ⟨fun h => ?_, fun k h => ?_⟩
  · rcases helloO_none h with h | ⟨k, h, h4⟩
    · exact helloOfS_no1 t op n s a len cap w hl hsz h
    · exact helloOfS_no2 t op n s a len cap w hl hsz k h h4
  · obtain ⟨h1, h4, hok⟩ := helloO_some h
    have hz : k.size ≤ 200 := by
      simp only [okT, Bool.and_eq_true, decide_eq_true_eq] at hok
      exact hok.1
    exact helloOfS_yes t op n s a len cap w hl hsz k h1 h4 hz

theorem helloOfI (t : Tm) (op n : Int) (s : ByteArray) (a : Option Addr) (len cap : Nat) (x : Addr) (w : World) (he : ErrAt x w) (hl : Lies w 0 t (tmCells op n s a len cap)) (hsz : t.size ≤ 2097152) :
    (helloO t = none → Calls Tryd.prog 17 #[.agg #[.int .i64 op, .int .i64 n, .string s, .slice a len cap]] w fun e w' => e = .returned (.tuple #[.agg #[.int .i64 0, .int .i64 0, .string ByteArray.empty, .slice none 0 0], .bool false]) ∧ Below w.heap.size w w') ∧
      (∀ k, helloO t = some k → Calls Tryd.prog 17 #[.agg #[.int .i64 op, .int .i64 n, .string s, .slice a len cap]] w fun e w' => ∃ op' n' s' a' len' cap' fp, e = .returned (.tuple #[.agg #[.int .i64 op', .int .i64 n', .string s', .slice a' len' cap'], .bool true]) ∧ Own w' k (tmCells op' n' s' a' len' cap') fp ∧ (fp.Nodup ∧ ∀ y ∈ fp, w.heap.size ≤ y) ∧ Below w.heap.size w w') := by
  refine ⟨fun h => ?_, fun k h => ?_⟩
  · rcases helloO_none h with h | ⟨k, h, h4⟩
    · exact helloOfI_no op n s a len cap x w he fun V hV => pubOf_no1 t op n s a len cap x V (he.on hV) (hl.below hV) hsz h
    · obtain ⟨nt, st, k0, rfl, hok, hs⟩ := behO_some h
      obtain ⟨rfl, rfl, rfl, rfl, b, q, op3, n3, s3, a3, len3, cap3, op4, n4, s4, a4, len4, cap4, rfl, ⟨r0, r1, r2, r3, hk0⟩, r4, r5, r6, r7, hk1⟩ := lies_kids hl
      exact helloOfI_no 3 n s (some ⟨b, q, none⟩) 2 cap x w he fun V hV => pubOf_no2 k0 k n s b q cap op3 n3 s3 a3 len3 cap3 op4 n4 s4 a4 len4 cap4 x V (he.on hV) (hl.below hV) hsz hok (kpc hV r0) (kpc hV r1) (kpc hV r2) (kpc hV r3) (kpc hV r4) (kpc hV r5) (kpc hV r6) (kpc hV r7) (hk0.below hV) hs (by rw [lies_opOf hk1]; exact h4)
  · obtain ⟨h1, h4, hokk⟩ := helloO_some h
    obtain ⟨nt, st, k0, rfl, hok, hs⟩ := behO_some h1
    obtain ⟨rfl, rfl, rfl, rfl, b, q, op3, n3, s3, a3, len3, cap3, op4, n4, s4, a4, len4, cap4, rfl, ⟨r0, r1, r2, r3, hk0⟩, r4, r5, r6, r7, hk1⟩ := lies_kids hl
    exact helloOfI_yes k 3 n s (some ⟨b, q, none⟩) 2 cap op4 n4 s4 a4 len4 cap4 x w he hk1 hokk fun V hV => pubOf_yes k0 k n s b q cap op3 n3 s3 a3 len3 cap3 op4 n4 s4 a4 len4 cap4 x V (he.on hV) (hl.below hV) hsz hok (kpc hV r0) (kpc hV r1) (kpc hV r2) (kpc hV r3) (kpc hV r4) (kpc hV r5) (kpc hV r6) (kpc hV r7) (hk0.below hV) hs (by rw [lies_opOf hk1]; exact h4)

theorem held_marked (T : Tm) (op n : Int) (s : ByteArray) (a : Option Addr) (len cap k : Nat) (w : World) (hl : Lies w 0 (T.marked k) (tmCells op n s a len cap)) (h1 : 1 ≤ k) (hz : k + 3 * T.size ≤ 1099511627776) :
    Calls Tryd.prog 13 #[.agg #[.int .i64 op, .int .i64 n, .string s, .slice a len cap], .int .i64 (k : Int)] w fun e w' => e = .returned (.int .i64 ((k + 3 * Tm.sizes T.kids : Nat) : Int)) ∧ Below w.heap.size w w' := by
  obtain ⟨op', n', s', ks⟩ := T
  have hh := hl
  simp only [Tm.marked, Lies, tmCells, List.cons.injEq, Value.int.injEq, Value.string.injEq, true_and] at hh
  obtain ⟨_, _, ⟨rfl, rfl, rfl, _⟩, _⟩ := hh
  simp only [Tm.size] at hz
  exact held_any op n s ks a len cap k w hl h1 (by omega)

theorem madeT_size (op : Int) (ks : List Tm) : (madeT op ks).size ≤ 1 + Tm.sizes ks := by
  unfold madeT pickT
  split
  · simp [Tm.size]
  · simp [Tm.size, Tm.sizes]

set_option maxRecDepth 100000 in
set_option maxHeartbeats 8000000 in
theorem lawHelloOf0 (t : Tm) (P : Tm) (B : Bool) (x : Addr) (hPZ : P.size ≤ 200)
    (hS : ∀ (op n : Int) (s : ByteArray) (a : Option Addr) (len cap : Nat) (w : World), Lies w 0 t (tmCells op n s a len cap) → t.size ≤ 2097152 → Calls Tryd.prog 16 #[.agg #[.int .i64 op, .int .i64 n, .string s, .slice a len cap]] w fun e w' => ∃ opW nW sW aW lenW capW, e = .returned (.tuple #[.agg #[.int .i64 opW, .int .i64 nW, .string sW, .slice aW lenW capW], .bool B]) ∧ Lies w' 0 P (tmCells opW nW sW aW lenW capW) ∧ Below w.heap.size w w')
    (hI : ∀ (op n : Int) (s : ByteArray) (a : Option Addr) (len cap : Nat) (w : World), Lies w 0 t (tmCells op n s a len cap) → t.size ≤ 2097152 → ErrAt x w → Calls Tryd.prog 17 #[.agg #[.int .i64 op, .int .i64 n, .string s, .slice a len cap]] w fun e w' => ∃ opG nG sG aG lenG capG fp, e = .returned (.tuple #[.agg #[.int .i64 opG, .int .i64 nG, .string sG, .slice aG lenG capG], .bool B]) ∧ Own w' P (tmCells opG nG sG aG lenG capG) fp ∧ (fp.Nodup ∧ ∀ y ∈ fp, w.heap.size ≤ y) ∧ Below w.heap.size w w')
    (op n : Int) (s : ByteArray) (a : Option Addr) (len cap : Nat) (w : World) (hl : Lies w 0 t (tmCells op n s a len cap)) (herr : ErrAt x w) :
    Calls Tryd.prog 5 #[.agg #[.int .i64 op, .int .i64 n, .string s, .slice a len cap]] w fun e w' => e = .returned (.bool true) ∧ Below w.heap.size w w' := by
  have HER := hide herr
  clear herr
  have h11 := hide (sz_calls t)
  have h8 := hide eq_calls
  have hZ := t.size_le
  have hB0 : Below w.heap.size w (w.alloc (.cells #[.int .i64 op, .int .i64 n, .string s, .slice a len cap] 24)) := ab _
  have HL := hide (hl.below hB0)
  have HB0 := hide hB0
  have HA := hide (RowT.new 24 w op n s a len cap)
  clear hl hB0
  by_cases hw : (t.wt : Int) ≤ 1048576
  · have hsz : t.size ≤ 1048577 := by omega
    have hsz2 : t.size ≤ 2097152 := by omega
    have h13 := hide (fun a cap v hv => tp_calls t op n s a len cap v hv hsz2)
    have h15 := hide (fun a cap v hv => hS op n s a len cap v hv hsz2)
    have h16 := hide (fun a cap v hv he => hI op n s a len cap v hv hsz2 he)
    have h9 := hide (fun op1 n1 s1 a1 len1 cap1 op2 n2 s2 a2 len2 cap2 W hv hv' => eq_calls P op1 n1 s1 a1 len1 cap1 op2 n2 s2 a2 len2 cap2 W hv hv')
    clear hS hI
    have HKP : Hid (Tm.sizes P.kids ≤ P.size) := by have := size_kids P; show _ ≤ _; omega
    have HTZ : Hid (1 + 3 * P.size ≤ 1099511627776) := by show _ ≤ _; omega
    have HXZ : Hid (1 + 3 * t.size ≤ 1099511627776) := by show _ ≤ _; omega
    have h9x : Hid (∀ (a : Option Addr) (w : World) (fp : List Nat), Own w t (tmCells op n s a len len) fp → fp.Nodup →
        Calls Tryd.prog 12 #[.agg #[.int .i64 op, .int .i64 n, .string s, .slice a len len], .int .i64 1] w fun e w' => e = .returned (.int .i64 ((1 + 3 * Tm.sizes t.kids : Nat) : Int)) ∧ Own w' (t.marked 1) (tmCells op n s a len len) fp ∧ Only fp w w') :=
      fun a w fp ho hnd => mark_any t op n s a len len 1 w fp ho hnd (Nat.le_refl _) (unhide HXZ)
    have h9g : Hid (∀ (op n : Int) (s : ByteArray) (a : Option Addr) (len cap : Nat) (w : World) (fp : List Nat), Own w P (tmCells op n s a len cap) fp → fp.Nodup →
        Calls Tryd.prog 12 #[.agg #[.int .i64 op, .int .i64 n, .string s, .slice a len cap], .int .i64 1] w fun e w' => e = .returned (.int .i64 ((1 + 3 * Tm.sizes P.kids : Nat) : Int)) ∧ Own w' (P.marked 1) (tmCells op n s a len cap) fp ∧ Only fp w w') :=
      fun op n s a len cap w fp ho hnd => mark_any P op n s a len cap 1 w fp ho hnd (Nat.le_refl _) (unhide HTZ)
    have h10 : Hid (∀ (op n : Int) (s : ByteArray) (a : Option Addr) (len cap : Nat) (w : World), Lies w 0 (P.marked 1) (tmCells op n s a len cap) →
        Calls Tryd.prog 13 #[.agg #[.int .i64 op, .int .i64 n, .string s, .slice a len cap], .int .i64 1] w fun e w' => e = .returned (.int .i64 ((1 + 3 * Tm.sizes P.kids : Nat) : Int)) ∧ Below w.heap.size w w') :=
      fun op n s a len cap w hl => held_marked P op n s a len cap 1 w hl (Nat.le_refl _) (unhide HTZ)
    have hmb : (1 + 3 * Tm.sizes P.kids : Nat) ≤ 4194304 := by have := unhide HKP; omega
    have hkb : (1 + 3 * Tm.sizes t.kids : Nat) ≤ 4194304 := by have := size_kids t; omega
    have hBB : (B != B) = false := by simp
    clear hZ hsz hsz2 HKP hPZ
    generalize 1 + 3 * Tm.sizes P.kids = mG at *
    generalize 1 + 3 * Tm.sizes t.kids = mX at *
    obtain ⟨left, hgl⟩ : ∃ left : Int, (1048576 : Int) - t.wt = left := ⟨_, rfl⟩
    have hln : 0 ≤ left := by omega
    go_enter Tryd.func5, Tryd.ntmps5
    go_wp2_with fail
    refine (unhide h11 op n s a len cap _ _ (unhide HL) (by omega) (by omega)).mono ?_
    rintro e w1 ⟨rfl, hb1⟩
    rw [szv_yes hw, hgl]
    have HA1 := hide ((unhide HA).below hb1)
    have HL1 := hide ((unhide HL).below hb1)
    have HB1 := hide (bt (unhide HB0) hb1 (Nat.le_refl _))
    clear hb1 HL HB0 HA hgl hw h11
    obtain ⟨c0, c1, c2, c3⟩ := (unhide HA1).facts
    go_wp2_with fail
    refine (unhide h13 a cap _ (unhide HL1)).mono ?_
    rintro e w2 ⟨a2, f2, rfl, hO2, _, hb2⟩
    have HA2 := hide ((unhide HA1).below hb2)
    have HL2 := hide ((unhide HL1).below hb2)
    have HB2 := hide (bt (unhide HB1) hb2 (Nat.le_refl _))
    have HO2 := hide hO2.lies0
    clear hb2 hO2 HA1 HL1 HB1 c0 c1 c2 c3
    go_wp2_with fail
    refine (unhide h15 a2 len _ (unhide HO2)).mono ?_
    rintro e w3 ⟨opW, nW, sW, aW, lenW, capW, rfl, hL3, hb3⟩
    have HA3 := hide ((unhide HA2).below hb3)
    have HL3 := hide ((unhide HL2).below hb3)
    have HB3 := hide (bt (unhide HB2) hb3 (Nat.le_refl _))
    have HW3 := hide hL3
    clear hb3 hL3 HA2 HL2 HB2 HO2
    have HVB := hide (bt (unhide HB3) (ab (.cells #[.int .i64 opW, .int .i64 nW, .string sW, .slice aW lenW capW] 28)) (Nat.le_refl _))
    have HVA := hide ((unhide HA3).below (ab (.cells #[.int .i64 opW, .int .i64 nW, .string sW, .slice aW lenW capW] 28)))
    have HVW := hide (RowT.new 28 w3 opW nW sW aW lenW capW)
    have HVLA := hide ((unhide HL3).below (ab (.cells #[.int .i64 opW, .int .i64 nW, .string sW, .slice aW lenW capW] 28)))
    have HVLW := hide ((unhide HW3).below (ab (.cells #[.int .i64 opW, .int .i64 nW, .string sW, .slice aW lenW capW] 28)))
    obtain ⟨c0, c1, c2, c3⟩ := (unhide HVA).facts
    clear HA3 HL3 HB3 HW3
    go_wp2_with fail
    generalize hV1 : w3.alloc (.cells #[.int .i64 opW, .int .i64 nW, .string sW, .slice aW lenW capW] 28) = V1 at *
    generalize w3.heap.size = bW at *
    clear hV1
    refine (unhide h13 a cap _ (unhide HVLA)).mono ?_
    rintro e w4 ⟨a4, f4, rfl, hO4, ⟨hnd4, hge4⟩, hb4⟩
    have HND4 := hide hnd4
    have HGE4 := hide hge4
    have HLT4 := hide (Own.lt _ _ _ hO4)
    have hb4' := bt hb4 (ab (.cells #[.int .i64 op, .int .i64 n, .string s, .slice a4 len len] 28)) (Nat.le_refl _)
    have HV2 := hide hb4'
    have HXR := hide (RowT.new 28 w4 op n s a4 len len)
    have HXO := hide (hO4.below (ab (.cells #[.int .i64 op, .int .i64 n, .string s, .slice a4 len len] 28)))
    clear hO4 hnd4 hge4 hb4 hb4' c0 c1 c2 c3
    obtain ⟨c0, c1, c2, c3⟩ := (unhide HXR).facts
    go_wp2_with fail
    generalize hV2 : w4.alloc (.cells #[.int .i64 op, .int .i64 n, .string s, .slice a4 len len] 28) = V2 at *
    have HGX : Hid (w4.heap.size + 1 = V2.heap.size) := by show _ = _; rw [← hV2, heap_size_alloc]
    generalize w4.heap.size = bX at *
    clear hV2
    have hVV := bt (unhide HVB) (unhide HV2) (Nat.le_refl _)
    refine (unhide h16 a4 len _ (unhide HXO).lies0 ((unhide HER).on hVV)).mono ?_
    rintro e w5 ⟨opG, nG, sG, aG, lenG, capG, f5, rfl, hO5, ⟨hnd5, hge5⟩, hb5⟩
    have HND5 := hide hnd5
    have HGE5 := hide hge5
    have HLT5 := hide (Own.lt _ _ _ hO5)
    have HBG := hide hb5.size
    have hb5' := bt hb5 (ab (.cells #[.int .i64 opG, .int .i64 nG, .string sG, .slice aG lenG capG] 28)) (Nat.le_refl _)
    have HV3 := hide hb5'
    have HV13 := hide (bt (unhide HV2) hb5' (Nat.le_refl _))
    have HGR := hide (RowT.new 28 w5 opG nG sG aG lenG capG)
    have HGO := hide (hO5.below (ab (.cells #[.int .i64 opG, .int .i64 nG, .string sG, .slice aG lenG capG] 28)))
    clear hVV hO5 hnd5 hge5 hb5 hb5' c0 c1 c2 c3
    obtain ⟨c0, c1, c2, c3⟩ := (unhide HGR).facts
    obtain ⟨d0, d1, d2, d3⟩ := ((unhide HVW).below (unhide HV13)).facts
    go_wp2_with fail
    generalize hV3 : w5.alloc (.cells #[.int .i64 opG, .int .i64 nG, .string sG, .slice aG lenG capG] 28) = V3 at *
    have HGG : Hid (w5.heap.size + 1 = V3.heap.size) := by show _ = _; rw [← hV3, heap_size_alloc]
    generalize w5.heap.size = bG at *
    clear hV3
    refine (unhide h9 opG nG sG aG lenG capG opW nW sW aW lenW capW _ (unhide HGO).lies0 ((unhide HVLW).below (unhide HV13))).mono ?_
    rintro e w6 ⟨rfl, hb6⟩
    have HV16 := hide (bt (unhide HV13) hb6 (Nat.le_refl _))
    have HV26 := hide (bt (unhide HV3) hb6 (Nat.le_refl _))
    have HGR6 := hide ((unhide HGR).below hb6)
    have HGO6 := hide ((unhide HGO).below hb6)
    clear hb6 c0 c1 c2 c3 d0 d1 d2 d3 HV13 HV3 HGR HGO
    obtain ⟨c0, c1, c2, c3⟩ := ((unhide HXR).below (unhide HV26)).facts
    obtain ⟨d0, d1, d2, d3⟩ := ((unhide HVA).below (unhide HV16)).facts
    have HLA6 := hide ((unhide HVLA).below (unhide HV16).drew)
    have HXO6 := hide ((unhide HXO).below (unhide HV26).drew)
    go_wp2_with fail
    go_region_held3 (fun x => x.cell? ⟨bX, 0, none⟩ = some (.int .i64 op) ∧ x.cell? ⟨bX, 1, none⟩ = some (.int .i64 n) ∧ x.cell? ⟨bX, 2, none⟩ = some (.string s) ∧ x.cell? ⟨bX, 3, none⟩ = some (.slice a4 len len) ∧
        x.cell? ⟨w.heap.size, 0, none⟩ = some (.int .i64 op) ∧ x.cell? ⟨w.heap.size, 1, none⟩ = some (.int .i64 n) ∧ x.cell? ⟨w.heap.size, 2, none⟩ = some (.string s) ∧ x.cell? ⟨w.heap.size, 3, none⟩ = some (.slice a len cap)) (go_keep)
      (first
        | (go_at_call 9
           refine (unhide h13 a cap _ (unhide HLA6)).mono ?_
           rintro e w7 ⟨a7, f7, rfl, hO7, _, hb7⟩
           have hb7' := hide (below_drew' hb7)
           have HO7 := hide hO7.lies0
           have HX7 := hide ((unhide HXO6).below hb7).lies0
           have f0 := kpc (unhide hb7') c0
           have f1 := kpc (unhide hb7') c1
           have f2 := kpc (unhide hb7') c2
           have f3 := kpc (unhide hb7') c3
           have e0 := kpc (unhide hb7') d0
           have e1 := kpc (unhide hb7') d1
           have e2 := kpc (unhide hb7') d2
           have e3 := kpc (unhide hb7') d3)
        | (go_at_call 11
           refine (unhide h8 t op n s a4 len len op n s a7 len len _ (unhide HX7) (unhide HO7)).mono ?_
           rintro e w8 ⟨rfl, hb8⟩
           have g0 := kpc hb8 f0
           have g1 := kpc hb8 f1
           have g2 := kpc hb8 f2
           have g3 := kpc hb8 f3
           have i0 := kpc hb8 e0
           have i1 := kpc hb8 e1
           have i2 := kpc hb8 e2
           have i3 := kpc hb8 e3
           have hb8' := hide hb8))
    have HV18 := hide (bt (bt (unhide HV16) (unhide hb7') (Nat.le_refl _)) (unhide hb8') (Nat.le_refl _))
    have HGR8 := hide (((unhide HGR6).below (unhide hb7')).below (unhide hb8'))
    have HGO8 := hide (((unhide HGO6).below (unhide hb7')).below (unhide hb8'))
    have HXO8 := hide (((unhide HXO).below (unhide HV26)).below (unhide hb7') |>.below (unhide hb8'))
    clear f0 f1 f2 f3 e0 e1 e2 e3 c0 c1 c2 c3 d0 d1 d2 d3 HV16 HV26 HGR6 HGO6 HXO6 HLA6 hb7' hb8' HO7 HX7
    go_wp2_with fail
    refine (unhide h9x a4 _ _ (unhide HXO8) (unhide HND4)).mono ?_
    rintro e w9 ⟨rfl, _, o9⟩
    have HV19 := hide ((unhide HV18).trans (o9.below (unhide HV18).size (unhide HGE4)))
    have HGR9 := hide ((unhide HGR8).only o9 (fun hx => by have := unhide HLT4 _ hx; have := unhide HBG; have := unhide HGX; omega))
    have HGO9 := hide ((unhide HGO8).only o9 (fun x hx hx4 => by have := unhide HLT4 _ hx4; have := unhide HGE5 _ hx; have := unhide HGX; omega))
    clear o9 HV18 HGR8 HGO8 HXO8 g0 g1 g2 g3 i0 i1 i2 i3
    obtain ⟨c0, c1, c2, c3⟩ := (unhide HGR9).facts
    obtain ⟨d0, d1, d2, d3⟩ := ((unhide HVW).below (unhide HV19)).facts
    go_wp2_with fail
    refine (unhide h9 opG nG sG aG lenG capG opW nW sW aW lenW capW _ (unhide HGO9).lies0 ((unhide HVLW).below (unhide HV19))).mono ?_
    rintro e w10 ⟨rfl, hb10⟩
    have HV20 := hide (bt (unhide HV19) hb10 (Nat.le_refl _))
    have HGR10 := hide ((unhide HGR9).below hb10)
    have HGO10 := hide ((unhide HGO9).below hb10)
    clear hb10 HV19 HGR9 HGO9 c0 c1 c2 c3 d0 d1 d2 d3
    obtain ⟨c0, c1, c2, c3⟩ := (unhide HGR10).facts
    go_wp2_with fail
    refine (unhide h9g opG nG sG aG lenG capG _ _ (unhide HGO10) (unhide HND5)).mono ?_
    rintro e w11 ⟨rfl, k11, o11⟩
    have HV21 := hide ((unhide HV20).trans (o11.below (unhide HV20).size (fun x hx => by have := unhide HGE5 _ hx; have := (unhide HV2).size; omega)))
    have HGR11 := hide ((unhide HGR10).only o11 (fun hx => by have := unhide HLT5 _ hx; omega))
    have HGO11 := hide k11.lies0
    clear o11 k11 HV20 HGR10 HGO10 c0 c1 c2 c3
    obtain ⟨c0, c1, c2, c3⟩ := (unhide HGR11).facts
    go_wp2_with fail
    refine (unhide h10 opG nG sG aG lenG capG _ (unhide HGO11)).mono ?_
    rintro e w12 ⟨rfl, hb12⟩
    have HV22 := hide (bt (unhide HV21) hb12 (Nat.le_refl _))
    have HGR12 := hide ((unhide HGR11).below hb12)
    have HGO12 := hide ((unhide HGO11).below hb12)
    clear hb12 HV21 HGR11 HGO11 c0 c1 c2 c3
    obtain ⟨d0, d1, d2, d3⟩ := ((unhide HVA).below (unhide HV22)).facts
    go_wp2_with fail
    refine (unhide h13 a cap _ ((unhide HVLA).below (unhide HV22))).mono ?_
    rintro e w13 ⟨a13, f13, rfl, hO13, _, hb13⟩
    have HV23 := hide (bt (unhide HV22) hb13 (Nat.le_refl _))
    have HGR13 := hide ((unhide HGR12).below hb13)
    have HGO13 := hide ((unhide HGO12).below hb13)
    have HO13 := hide hO13.lies0
    clear hb13 hO13 HV22 HGR12 HGO12 d0 d1 d2 d3
    have hVV := bt (unhide HVB) (unhide HV23) (Nat.le_refl _)
    have HE13 := hide ((unhide HER).on hVV)
    clear hVV
    go_wp2_with fail
    refine (unhide h16 a13 len _ (unhide HO13) (unhide HE13)).mono ?_
    rintro e w14 ⟨opH, nH, sH, aH, lenH, capH, f14, rfl, hO14, _, hb14⟩
    have hb14' := bt hb14 (ab (.cells #[.int .i64 opH, .int .i64 nH, .string sH, .slice aH lenH capH] 28)) (Nat.le_refl _)
    have HV24 := hide (bt (unhide HV23) hb14' (Nat.le_refl _))
    have HGR14 := hide ((unhide HGR13).below hb14')
    have HGO14 := hide ((unhide HGO13).below hb14')
    have HHO := hide (hO14.below (ab (.cells #[.int .i64 opH, .int .i64 nH, .string sH, .slice aH lenH capH] 28))).lies0
    clear hb14 hb14' hO14 HV23 HGR13 HGO13 HO13
    obtain ⟨c0, c1, c2, c3⟩ := (RowT.new 28 w14 opH nH sH aH lenH capH).facts
    obtain ⟨d0, d1, d2, d3⟩ := ((unhide HVW).below (unhide HV24)).facts
    go_wp2_with fail
    refine (unhide h9 opH nH sH aH lenH capH opW nW sW aW lenW capW _ (unhide HHO) ((unhide HVLW).below (unhide HV24))).mono ?_
    rintro e w15 ⟨rfl, hb15⟩
    have HV25 := hide (bt (unhide HV24) hb15 (Nat.le_refl _))
    have HGR15 := hide ((unhide HGR14).below hb15)
    have HGO15 := hide ((unhide HGO14).below hb15)
    clear hb15 HV24 HGR14 HGO14 HHO c0 c1 c2 c3 d0 d1 d2 d3
    obtain ⟨c0, c1, c2, c3⟩ := (unhide HGR15).facts
    go_wp2_with fail
    refine (unhide h10 opG nG sG aG lenG capG _ (unhide HGO15)).mono ?_
    rintro e w16 ⟨rfl, hb16⟩
    have HV26 := hide (bt (unhide HV25) hb16 (Nat.le_refl _))
    clear hb16 c0 c1 c2 c3
    go_wp2_with fail
    go_ret
    exact ⟨rfl, (unhide HVB).trans ((unhide HV26).mono (unhide HVB).size)⟩
  · go_enter Tryd.func5, Tryd.ntmps5
    go_wp2_with fail
    refine (unhide h11 op n s a len cap _ _ (unhide HL) (by omega) (by omega)).mono ?_
    rintro e w2 ⟨rfl, hb2⟩
    rw [szv_no (by omega)]
    go_wp2_with fail
    go_ret
    exact ⟨rfl, bt (unhide HB0) hb2 (Nat.le_refl _)⟩

/-- The law at whatever term. -/
theorem lawHelloOf (t : Tm) (op n : Int) (s : ByteArray) (a : Option Addr) (len cap : Nat) (w : World) (hl : Lies w 0 t (tmCells op n s a len cap)) (herr : Err w) :
    Calls Tryd.prog 5 #[.agg #[.int .i64 op, .int .i64 n, .string s, .slice a len cap]] w fun e w' => e = .returned (.bool true) ∧ Below w.heap.size w w' := by
  obtain ⟨x, hx⟩ := herr
  cases hc : helloO t with
  | some k =>
    have hk := (helloO_some hc).2.2
    have hz : k.size ≤ 200 := by
      simp only [okT, Bool.and_eq_true, decide_eq_true_eq] at hk
      exact hk.1
    exact lawHelloOf0 t k true x hz (fun op n s a len cap w hl hs => (helloOfS t op n s a len cap w hl hs).2 k hc) (fun op n s a len cap w hl hs he => (helloOfI t op n s a len cap x w he hl hs).2 k hc) op n s a len cap w hl hx
  | none =>
    refine lawHelloOf0 t (.node 0 0 ByteArray.empty []) false x (by simp [Tm.size, Tm.sizes]) (fun op n s a len cap w hl hs => ?_) (fun op n s a len cap w hl hs he => ?_) op n s a len cap w hl hx
    · refine ((helloOfS t op n s a len cap w hl hs).1 hc).mono ?_
      rintro e w' ⟨he, hb⟩
      exact ⟨_, _, _, _, _, _, he, zero_lies _ _, hb⟩
    · refine ((helloOfI t op n s a len cap x w he hl hs).1 hc).mono ?_
      rintro e w' ⟨he', hb⟩
      exact ⟨_, _, _, _, _, _, [], he', zero_own _, ⟨by simp, by simp⟩, hb⟩

set_option maxRecDepth 100000 in
theorem liftedHelloOf (os : Os) (started : os.Started) (H : Type) (enc : TypeId × Value → H) :
    ReturnsInHanded {} Tryd.checked os 5 .any (fun w args => (Rows.fnExactHelloOfSpec.pre enc Tryd.prog Tryd.f5 Rows.fnExactHelloOfRow.domain false w args ∧ laidMetH Tryd.prog laidE w) ∧ sizedMet enc Tryd.prog Tryd.f5 (OpenSpec.ofChange Rows.fnExactHelloOfSpec) false w args)
      (Rows.fnExactHelloOfSpec.post enc Tryd.prog Tryd.f5 false true false false) := by
  refine returnsInHanded_of_change_and (C := Tryd.checked) (X := fun w _ => laidMetH Tryd.prog laidE w) (fun _ _ _ hh h => h.of_heap hh) own started (by kernel_rfl) Tryd.func5
    (ChangeSpec.witness_shaped (enc := enc) (C := Tryd.checked) (os := os) (X := fun w _ => laidMetH Tryd.prog laidE w) false (World.doorLaid Tryd.prog 400 os) #[.agg #[.int .i64 0, .int .i64 0, .string ByteArray.empty, .slice none 0 0]] 8 rfl (World.shaped_of_RefB (by kernel_rfl) (by kernel_rfl)) (by kernel_rfl) (by kernel_rfl) (by kernel_rfl) (doorE_met os _)) ?_
  intro W base args ds gs before hval0 hW _ _ hL _
  have hval : ∀ (j : Nat) t v, Tryd.f5.params[j]? = some t → args[j]? = some v → Value.okWide Tryd.prog W .any base t v := hval0
  have hW' := hW
  obtain ⟨p, q, hA0, hV0, rfl, hfz, hnd⟩ := hW
  have hA : DataW.TrodAll enc Tryd.prog W 0 (fun _ => true) true Tryd.f5.params.toList args.toList ds p := hA0
  have hV : DataW.TrodVars enc Tryd.prog W (fun _ => true) ["loop.example/g00328/impl.errNoTerm"] gs q := hV0
  rw [Tryd.params5] at hA hval
  obtain ⟨v0, vs0, d0, ds0, p0, q0, hargs, rfl, rfl, h0, r0⟩ := trodAll_cons hA
  obtain ⟨rfl, rfl, rfl⟩ := trodAll_nil r0
  obtain rfl : args = #[v0] := by cases args; simp_all
  obtain ⟨x, hx⟩ := err_of_laidE hL
  obtain ⟨rfl, rfl⟩ := hV.unique (err_read enc hx _)
  have k0 := h0
  have lt0 : ∀ x ∈ p0, x.block < W.heap.size := by obtain ⟨m, hm⟩ := k0; exact DataW.trod_lt m _ _ _ hm
  obtain ⟨t0, op0, n0, s0, a0, len0, cap0, rfl, hl0⟩ := open_arg (hval 0 24 v0 rfl rfl) h0
  clear hA0 hV0 hval0
  refine (lawHelloOf t0 op0 n0 s0 a0 len0 cap0 W hl0 (err_of_var hx)).mono fun e W' ⟨he, bel⟩ => ?_
  subst he
  exact ⟨_, rfl, _, _, _, [], _, [.cell 0 0], hW', trodAll_mk1 (shut_bool Tryd.underlying4 _), (trodAll_cons_mk (Below.trod laidOut (by kernel_rfl) (of_decide_eq_true (by kernel_rfl)) k0 bel lt0) trodAll_mk0), err_read enc (var?_below hx bel) _, bel.frame _, fun h => by cases h⟩

theorem helloOf_row : Rows.FnExactHelloOfSaid :=
  OpenClaim.holds_of_wide 5 Tryd.f5 rfl rfl rfl rfl rfl rfl rfl ⟨rfl, rfl, rfl, rfl, rfl⟩ rfl rfl rfl rfl rfl (by kernel_rfl) Tryd.func5 (by kernel_rfl)
    (of_decide_eq_true (by kernel_rfl)) (by unfold Func.isWrapper; first | (rw [if_pos (by decide +kernel)]; kernel_rfl) | (rw [if_neg (by decide +kernel)]; exact ⟨rfl, rfl⟩))
    (fun os started H enc _ => liftedHelloOf os started H enc)

theorem helloOf_card : Rows.FnExactHelloOfCardSaid :=
  Claim7.holds_tied_plain_at .later [] [.sentinel] true (true, "f298c207ea21bd9ffc597ecdd29106a87fa753943705a6ece1f8a34c301fc1a5") true
    helloOf_row (fun _ h => by cases h) (by kernel_rfl) (fun _ h => by cases h) fnExactHelloOf_row_tie rfl ⟨rfl, rfl⟩ (by kernel_rfl) rfl
    (fun f fn hf hfn => by
      obtain rfl : f = 5 := Option.some.inj ((show Tryd.prog.funcNamed "loop.example/g00328/laws.FnExactHelloOf" = some 5 by kernel_rfl).symm.trans hf) |>.symm
      obtain rfl : fn = Tryd.f5 := (Option.some.inj (Tryd.func5.symm.trans hfn)).symm
      exact ⟨by kernel_rfl, fun j t ht => by
        rw [Tryd.params5] at ht
        have hm : t ∈ [24] := by have := Array.mem_of_getElem? ht; simp at this ⊢; first | exact this | omega
        have hall : ([24].all fun u => !Tryd.prog.wantsStandIn u) = true := by kernel_rfl
        exact (show Tryd.prog.wantsStandIn t = false by simpa using List.all_eq_true.1 hall t hm)⟩)
    (by kernel_rfl)
#print axioms helloOf_card

end Go.Proofs.YtdmhfembmkappaaDoor
