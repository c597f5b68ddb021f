
/- The walk of spec.Open where the seal is not right, or is none: zero and false. The walk of spec.Open where the seal is another key's: zero and false. The walk of spec.Open where the seal bears another number: zero and false. The walk of spec.Open where the seal is the key's and bears the number: its body, and true. The walk of spec.Open at whatever terms: the body and true, or zero and false; nothing that was there is written. -/
import Derived.Deep.RegionWith
import Derived.Deep.RegionHeld3
import Derived.Test.YtmklgikbajhcpaaGreatDoorBs
import Derived.Test.YtmklgikbajhcpaaGreatDoorBo
namespace Go.Proofs.YtmklgikbajhcpaaGreatDoor
open Go.RowKit Go.Deep

set_option maxRecDepth 100000 in
set_option maxHeartbeats 2000000 in
theorem openS_no1 (t : Tm) (op n : Int) (s : ByteArray) (a : Option Addr) (len cap : Nat) (m op2 n2 : Int) (s2 : ByteArray) (a2 : Option Addr) (len2 cap2 : Nat) (w : World) (hl : Lies w 0 t (tmCells op2 n2 s2 a2 len2 cap2)) (hsz : t.size ≤ 2097152) (hok : okT t = false) :
    Calls Tryz.prog 82 #[.agg #[.int .i64 op, .int .i64 n, .string s, .slice a len cap], .int .i64 m, .agg #[.int .i64 op2, .int .i64 n2, .string s2, .slice a2 len2 cap2]] w fun e w' => e = .returned (.tuple #[.agg #[.int .i64 0, .int .i64 0, .string ByteArray.empty, .slice none 0 0], .bool false]) ∧ Below w.heap.size w w' := by
  have h39 := hide (ok8 t op2 n2 s2 a2 len2 cap2)
  rw [hok] at h39
  have h3 := threeB w op n s a len cap op2 n2 s2 a2 len2 cap2
  go_enter Tryz.func82, Tryz.ntmps82
  go_wp2_with fail
  generalize hgw : (((w.alloc (.cells #[.int .i64 op, .int .i64 n, .string s, .slice a len cap] 29)).alloc (.cells #[.int .i64 op2, .int .i64 n2, .string s2, .slice a2 len2 cap2] 29)).alloc (.cells #[.int .i64 0, .int .i64 0, .string ByteArray.empty, .slice none 0 0] 29)) = W0 at *
  refine gw_world hgw ?_
  clear hgw
  have HB0 := hide h3.bel
  have HL := hide (hl.below h3.bel)
  have HR := hide h3.rz
  have HRB := hide h3.rb
  obtain ⟨c0, c1, c2, c3⟩ := h3.rb.facts
  clear h3 hl hok
  first
    | go_region_with (go_at_call 114; refine (unhide h39 _ ((unhide HL).below (Below.refl _ _).drew) hsz).mono ?_; rintro e w2 ⟨rfl, hb2⟩; have hb2' := below_drew' hb2; have HB := hide (bt (unhide HB0) hb2' (Nat.le_refl _)); obtain ⟨d0, d1, d2, d3⟩ := ((unhide HR).below hb2').facts; obtain ⟨e0, e1, e2, e3⟩ := ((unhide HR).below hb2').frozen; obtain ⟨k0, k1, k2, k3⟩ := ((unhide HRB).below hb2').facts)
    | fail
  all_goals go_wp2_with fail
  all_goals
    exact bodyPost_ret (v := .tuple #[.agg #[.int .i64 0, .int .i64 0, .string ByteArray.empty, .slice none 0 0], .bool false]) (by simp [results, Tryz.results82, go_sem, d0, d1, d2, d3]; try rfl) rfl ⟨rfl, set4_below (unhide HB) (by omega)⟩

set_option maxRecDepth 100000 in
set_option maxHeartbeats 2000000 in
theorem openS_no2 (t : Tm) (op n : Int) (s : ByteArray) (a : Option Addr) (len cap : Nat) (m op2 n2 : Int) (s2 : ByteArray) (a2 : Option Addr) (len2 cap2 : Nat) (w : World) (hl : Lies w 0 t (tmCells op2 n2 s2 a2 len2 cap2)) (hsz : t.size ≤ 2097152) (hok : okT t = true) (h7 : op2 ≠ 7) :
    Calls Tryz.prog 82 #[.agg #[.int .i64 op, .int .i64 n, .string s, .slice a len cap], .int .i64 m, .agg #[.int .i64 op2, .int .i64 n2, .string s2, .slice a2 len2 cap2]] w fun e w' => e = .returned (.tuple #[.agg #[.int .i64 0, .int .i64 0, .string ByteArray.empty, .slice none 0 0], .bool false]) ∧ Below w.heap.size w w' := by
  have h39 := hide (ok8 t op2 n2 s2 a2 len2 cap2)
  rw [hok] at h39
  have h3 := threeB w op n s a len cap op2 n2 s2 a2 len2 cap2
  have q1 : (op2 != 7) = true := by simpa using h7
  go_enter Tryz.func82, Tryz.ntmps82
  go_wp2_with fail
  generalize hgw : (((w.alloc (.cells #[.int .i64 op, .int .i64 n, .string s, .slice a len cap] 29)).alloc (.cells #[.int .i64 op2, .int .i64 n2, .string s2, .slice a2 len2 cap2] 29)).alloc (.cells #[.int .i64 0, .int .i64 0, .string ByteArray.empty, .slice none 0 0] 29)) = W0 at *
  refine gw_world hgw ?_
  clear hgw
  have HB0 := hide h3.bel
  have HL := hide (hl.below h3.bel)
  have HR := hide h3.rz
  have HRB := hide h3.rb
  obtain ⟨c0, c1, c2, c3⟩ := h3.rb.facts
  clear h3 hl hok
  first
    | go_region_with (go_at_call 114; refine (unhide h39 _ ((unhide HL).below (Below.refl _ _).drew) hsz).mono ?_; rintro e w2 ⟨rfl, hb2⟩; have hb2' := below_drew' hb2; have HB := hide (bt (unhide HB0) hb2' (Nat.le_refl _)); obtain ⟨d0, d1, d2, d3⟩ := ((unhide HR).below hb2').facts; obtain ⟨e0, e1, e2, e3⟩ := ((unhide HR).below hb2').frozen; obtain ⟨k0, k1, k2, k3⟩ := ((unhide HRB).below hb2').facts)
    | fail
  all_goals go_wp2_with fail
  all_goals
    exact bodyPost_ret (v := .tuple #[.agg #[.int .i64 0, .int .i64 0, .string ByteArray.empty, .slice none 0 0], .bool false]) (by simp [results, Tryz.results82, go_sem, d0, d1, d2, d3]; try rfl) rfl ⟨rfl, set4_below (unhide HB) (by omega)⟩

set_option maxRecDepth 100000 in
set_option maxHeartbeats 2000000 in
theorem openS_no3 (k k0 k1 : Tm) (op n : Int) (s : ByteArray) (a : Option Addr) (len cap : Nat) (m n2 : Int) (s2 : ByteArray) (b q cap2 : Nat) (op3 n3 : Int) (s3 : ByteArray) (a3 : Option Addr) (len3 cap3 : Nat) (op4 n4 : Int) (s4 : ByteArray) (a4 : Option Addr) (len4 cap4 : Nat) (w : World)
    (hlf : Lies w 0 k (tmCells op n s a len cap)) (hl : Lies w 0 (.node 7 n2 s2 [k0, k1]) (tmCells 7 n2 s2 (some ⟨b, q, none⟩) 2 cap2)) (hsz : (Tm.node 7 n2 s2 [k0, k1]).size ≤ 2097152) (hok : okT (.node 7 n2 s2 [k0, k1]) = true)
    (r0 : w.cell? ⟨b, q, none⟩ = some (.int .i64 op3)) (r1 : w.cell? ⟨b, q + 1, none⟩ = some (.int .i64 n3)) (r2 : w.cell? ⟨b, q + 2, none⟩ = some (.string s3)) (r3 : w.cell? ⟨b, q + 3, none⟩ = some (.slice a3 len3 cap3)) (hk0 : Lies w 0 k0 (tmCells op3 n3 s3 a3 len3 cap3))
    (r4 : w.cell? ⟨b, q + 4, none⟩ = some (.int .i64 op4)) (r5 : w.cell? ⟨b, q + 5, none⟩ = some (.int .i64 n4)) (r6 : w.cell? ⟨b, q + 6, none⟩ = some (.string s4)) (r7 : w.cell? ⟨b, q + 7, none⟩ = some (.slice a4 len4 cap4)) (hsm : sameB k0 k = false) :
    Calls Tryz.prog 82 #[.agg #[.int .i64 op, .int .i64 n, .string s, .slice a len cap], .int .i64 m, .agg #[.int .i64 7, .int .i64 n2, .string s2, .slice (some ⟨b, q, none⟩) 2 cap2]] w fun e w' => e = .returned (.tuple #[.agg #[.int .i64 0, .int .i64 0, .string ByteArray.empty, .slice none 0 0], .bool false]) ∧ Below w.heap.size w w' := by
  have h39 := hide (ok8 (.node 7 n2 s2 [k0, k1]) 7 n2 s2 (some ⟨b, q, none⟩) 2 cap2)
  rw [hok] at h39
  have h40 := hide (sa_calls k0 k op3 n3 s3 a3 len3 cap3 op n s a len cap)
  rw [hsm] at h40
  have h3 := threeB w op n s a len cap 7 n2 s2 (some ⟨b, q, none⟩) 2 cap2
  go_enter Tryz.func82, Tryz.ntmps82
  go_wp2_with fail
  generalize hgw : (((w.alloc (.cells #[.int .i64 op, .int .i64 n, .string s, .slice a len cap] 29)).alloc (.cells #[.int .i64 7, .int .i64 n2, .string s2, .slice (some ⟨b, q, none⟩) 2 cap2] 29)).alloc (.cells #[.int .i64 0, .int .i64 0, .string ByteArray.empty, .slice none 0 0] 29)) = W0 at *
  refine gw_world hgw ?_
  clear hgw
  have HB0 := hide h3.bel
  have HL := hide (hl.below h3.bel)
  have HLF := hide (hlf.below h3.bel)
  have HLK := hide (hk0.below h3.bel)
  have HR := hide h3.rz
  have HRA := hide h3.ra
  have HRB := hide h3.rb
  have HK := hide (And.intro (kpc h3.bel r0) (And.intro (kpc h3.bel r1) (And.intro (kpc h3.bel r2) (kpc h3.bel r3))))
  have HK1 := hide (And.intro (kpc h3.bel r4) (And.intro (kpc h3.bel r5) (And.intro (kpc h3.bel r6) (kpc h3.bel r7))))
  obtain ⟨c0, c1, c2, c3⟩ := h3.rb.facts
  clear h3 hl hlf hk0 hok hsm r0 r1 r2 r3 r4 r5 r6 r7
  first
    | go_region_with (first | (go_at_call 114; refine (unhide h39 _ ((unhide HL).below (Below.refl _ _).drew) hsz).mono ?_; rintro e w2 ⟨rfl, hb2⟩; have hb2' := hide (below_drew' hb2); clear hb2; obtain ⟨k0, k1, k2, k3⟩ := ((unhide HRB).below (unhide hb2')).facts; obtain ⟨j0, j1, j2, j3⟩ := ((unhide HRA).below (unhide hb2')).facts; have i0 := kpc (unhide hb2') (unhide HK).1; have i1 := kpc (unhide hb2') (unhide HK).2.1; have i2 := kpc (unhide hb2') (unhide HK).2.2.1; have i3 := kpc (unhide hb2') (unhide HK).2.2.2) | (go_at_call 60; refine (unhide h40 _ ((unhide HLK).below (unhide hb2')) ((unhide HLF).below (unhide hb2'))).mono ?_; rintro e w3 ⟨rfl, hb3⟩; have hb3' := hide hb3; clear hb3 k0 k1 k2 k3 j0 j1 j2 j3 i0 i1 i2 i3; have HB := hide (bt (bt (unhide HB0) (unhide hb2') (Nat.le_refl _)) (unhide hb3') (Nat.le_refl _)); have HRZ := hide (((unhide HR).below (unhide hb2')).below (unhide hb3')); obtain ⟨d0, d1, d2, d3⟩ := (unhide HRZ).facts; obtain ⟨e0, e1, e2, e3⟩ := (unhide HRZ).frozen; obtain ⟨k0, k1, k2, k3⟩ := (((unhide HRB).below (unhide hb2')).below (unhide hb3')).facts; have i4 := kpc (unhide hb3') (kpc (unhide hb2') (unhide HK1).1); have i5 := kpc (unhide hb3') (kpc (unhide hb2') (unhide HK1).2.1); have i6 := kpc (unhide hb3') (kpc (unhide hb2') (unhide HK1).2.2.1); have i7 := kpc (unhide hb3') (kpc (unhide hb2') (unhide HK1).2.2.2)))
    | fail
  all_goals go_wp2_with fail
  all_goals
    exact bodyPost_ret (v := .tuple #[.agg #[.int .i64 0, .int .i64 0, .string ByteArray.empty, .slice none 0 0], .bool false]) (by simp [results, Tryz.results82, go_sem, d0, d1, d2, d3]; try rfl) rfl ⟨rfl, set4_below (unhide HB) (by omega)⟩

set_option maxRecDepth 100000 in
set_option maxHeartbeats 4000000 in
theorem openS_no5 (k k0 x0 v : Tm) (op n : Int) (s : ByteArray) (a : Option Addr) (len cap : Nat) (m n2 : Int) (s2 : ByteArray) (b q cap2 : Nat) (op3 n3 : Int) (s3 : ByteArray) (a3 : Option Addr) (len3 cap3 : Nat) (n4 : Int) (s4 : ByteArray) (b' q' cap4 : Nat) (op5 n5 : Int) (s5 : ByteArray) (a5 : Option Addr) (len5 cap5 : Nat) (w : World)
    (hlf : Lies w 0 k (tmCells op n s a len cap)) (hl : Lies w 0 (.node 7 n2 s2 [k0, .node 3 n4 s4 [x0, v]]) (tmCells 7 n2 s2 (some ⟨b, q, none⟩) 2 cap2)) (hsz : (Tm.node 7 n2 s2 [k0, .node 3 n4 s4 [x0, v]]).size ≤ 2097152) (hok : okT (.node 7 n2 s2 [k0, .node 3 n4 s4 [x0, v]]) = true)
    (r0 : w.cell? ⟨b, q, none⟩ = some (.int .i64 op3)) (r1 : w.cell? ⟨b, q + 1, none⟩ = some (.int .i64 n3)) (r2 : w.cell? ⟨b, q + 2, none⟩ = some (.string s3)) (r3 : w.cell? ⟨b, q + 3, none⟩ = some (.slice a3 len3 cap3)) (hk0 : Lies w 0 k0 (tmCells op3 n3 s3 a3 len3 cap3))
    (r4 : w.cell? ⟨b, q + 4, none⟩ = some (.int .i64 3)) (r5 : w.cell? ⟨b, q + 5, none⟩ = some (.int .i64 n4)) (r6 : w.cell? ⟨b, q + 6, none⟩ = some (.string s4)) (r7 : w.cell? ⟨b, q + 7, none⟩ = some (.slice (some ⟨b', q', none⟩) 2 cap4))
    (z0 : w.cell? ⟨b', q', none⟩ = some (.int .i64 op5)) (z1 : w.cell? ⟨b', q' + 1, none⟩ = some (.int .i64 n5)) (z2 : w.cell? ⟨b', q' + 2, none⟩ = some (.string s5)) (z3 : w.cell? ⟨b', q' + 3, none⟩ = some (.slice a5 len5 cap5)) (hx0 : Lies w 0 x0 (tmCells op5 n5 s5 a5 len5 cap5)) (h0 : -9223372036854775808 ≤ m) (h1 : m ≤ 9223372036854775807) (hsm : sameB k0 k = true) (hs2 : sameB x0 (numT m) = false) :
    Calls Tryz.prog 82 #[.agg #[.int .i64 op, .int .i64 n, .string s, .slice a len cap], .int .i64 m, .agg #[.int .i64 7, .int .i64 n2, .string s2, .slice (some ⟨b, q, none⟩) 2 cap2]] w fun e w' => e = .returned (.tuple #[.agg #[.int .i64 0, .int .i64 0, .string ByteArray.empty, .slice none 0 0], .bool false]) ∧ Below w.heap.size w w' := by
  have h39 := hide (ok8 (.node 7 n2 s2 [k0, .node 3 n4 s4 [x0, v]]) 7 n2 s2 (some ⟨b, q, none⟩) 2 cap2)
  rw [hok] at h39
  have h40 := hide (sa_calls k0 k op3 n3 s3 a3 len3 cap3 op n s a len cap)
  rw [hsm] at h40
  have h32 := hide (num_calls m)
  have h41 := hide (sa_calls x0 (numT m) op5 n5 s5 a5 len5 cap5 2 0 ⟨(Lib.itoa m).toArray⟩ none 0 0)
  rw [hs2] at h41
  have HN0 := hide h0
  have HN1 := hide h1
  have HNL : Hid (∀ v : World, Lies v 0 (numT m) (tmCells 2 0 ⟨(Lib.itoa m).toArray⟩ none 0 0)) := fun v => lies_leaf v 2 0 _ (itoa_size m h0 h1) (by decide) (by decide)
  generalize numT m = NT at *
  generalize (⟨(Lib.itoa m).toArray⟩ : ByteArray) = ns at *
  have HKX : Hid (∀ W, Below w.heap.size w W → Lies W 0 x0 (tmCells op5 n5 s5 a5 len5 cap5) ∧ W.cell? ⟨b', q', none⟩ = some (.int .i64 op5) ∧ W.cell? ⟨b', q' + 1, none⟩ = some (.int .i64 n5) ∧ W.cell? ⟨b', q' + 2, none⟩ = some (.string s5) ∧ W.cell? ⟨b', q' + 3, none⟩ = some (.slice a5 len5 cap5)) := fun W hW => ⟨hx0.below hW, kpc hW z0, kpc hW z1, kpc hW z2, kpc hW z3⟩
  have h3 := threeB w op n s a len cap 7 n2 s2 (some ⟨b, q, none⟩) 2 cap2
  go_enter Tryz.func82, Tryz.ntmps82
  go_wp2_with fail
  generalize hgw : (((w.alloc (.cells #[.int .i64 op, .int .i64 n, .string s, .slice a len cap] 29)).alloc (.cells #[.int .i64 7, .int .i64 n2, .string s2, .slice (some ⟨b, q, none⟩) 2 cap2] 29)).alloc (.cells #[.int .i64 0, .int .i64 0, .string ByteArray.empty, .slice none 0 0] 29)) = W0 at *
  refine gw_world hgw ?_
  clear hgw
  have HB0 := hide h3.bel
  have HL := hide (hl.below h3.bel)
  have HLF := hide (hlf.below h3.bel)
  have HLK := hide (hk0.below h3.bel)
  have HR := hide h3.rz
  have HRA := hide h3.ra
  have HRB := hide h3.rb
  have HK := hide (And.intro (kpc h3.bel r0) (And.intro (kpc h3.bel r1) (And.intro (kpc h3.bel r2) (kpc h3.bel r3))))
  have HK1 := hide (And.intro (kpc h3.bel r4) (And.intro (kpc h3.bel r5) (And.intro (kpc h3.bel r6) (kpc h3.bel r7))))
  obtain ⟨c0, c1, c2, c3⟩ := h3.rb.facts
  clear h3 hl hlf hk0 hok hsm r0 r1 r2 r3 r4 r5 r6 r7 z0 z1 z2 z3 hx0 hs2 h0 h1
  first
    | go_region_with (first | (go_at_call 114; refine (unhide h39 _ ((unhide HL).below (Below.refl _ _).drew) hsz).mono ?_; rintro e w2 ⟨rfl, hb2⟩; have hb2' := hide (below_drew' hb2); clear hb2; obtain ⟨k0, k1, k2, k3⟩ := ((unhide HRB).below (unhide hb2')).facts; obtain ⟨j0, j1, j2, j3⟩ := ((unhide HRA).below (unhide hb2')).facts; have i0 := kpc (unhide hb2') (unhide HK).1; have i1 := kpc (unhide hb2') (unhide HK).2.1; have i2 := kpc (unhide hb2') (unhide HK).2.2.1; have i3 := kpc (unhide hb2') (unhide HK).2.2.2) | (go_at_call 60; refine (unhide h40 _ ((unhide HLK).below (unhide hb2')) ((unhide HLF).below (unhide hb2'))).mono ?_; rintro e w3 ⟨rfl, hb3⟩; have hb3' := hide hb3; clear hb3 k0 k1 k2 k3 j0 j1 j2 j3 i0 i1 i2 i3; have HB := hide (bt (bt (unhide HB0) (unhide hb2') (Nat.le_refl _)) (unhide hb3') (Nat.le_refl _)); have HRZ := hide (((unhide HR).below (unhide hb2')).below (unhide hb3')); obtain ⟨d0, d1, d2, d3⟩ := (unhide HRZ).facts; obtain ⟨e0, e1, e2, e3⟩ := (unhide HRZ).frozen; obtain ⟨k0, k1, k2, k3⟩ := (((unhide HRB).below (unhide hb2')).below (unhide hb3')).facts; have i4 := kpc (unhide hb3') (kpc (unhide hb2') (unhide HK1).1); have i5 := kpc (unhide hb3') (kpc (unhide hb2') (unhide HK1).2.1); have i6 := kpc (unhide hb3') (kpc (unhide hb2') (unhide HK1).2.2.1); have i7 := kpc (unhide hb3') (kpc (unhide hb2') (unhide HK1).2.2.2)))
    | fail
  all_goals go_wp2_with fail
  all_goals
    have hbX := ab (w := w3) (.cells #[.int .i64 3, .int .i64 n4, .string s4, .slice (some ⟨b', q', none⟩) 2 cap4] 29)
    have HU := hide (RowT.new 29 w3 3 n4 s4 (some ⟨b', q', none⟩) 2 cap4)
    have HRX := hide ((unhide HRZ).below hbX)
    have HBX := hide (bt (unhide HB) hbX (Nat.le_refl _))
    have hltX : w.heap.size + 1 + 1 < w3.heap.size := (unhide HRZ).lt
    clear hbX d0 d1 d2 d3 e0 e1 e2 e3 k0 k1 k2 k3 i4 i5 i6 i7 c0 c1 c2 c3 hb2' hb3' HRZ HB HR HRA HRB HK HK1 HL HLF HLK h39 h40 HB0
    generalize w3.alloc (.cells #[.int .i64 3, .int .i64 n4, .string s4, .slice (some ⟨b', q', none⟩) 2 cap4] 29) = W3 at *
    generalize w3.heap.size = bU at *
    have hnU : (bU = w.heap.size + 1 + 1) = False := eq_false (by omega)
    have hnU' : (w.heap.size + 1 + 1 = bU) = False := eq_false (by omega)
    obtain ⟨c0, c1, c2, c3⟩ := (unhide HU).facts
    obtain ⟨d0, d1, d2, d3⟩ := (unhide HRX).facts
    obtain ⟨e0, e1, e2, e3⟩ := (unhide HRX).frozen
    have hltB : b' < W3.heap.size := lt_of_cell (unhide HKX _ (unhide HBX)).2.1
    obtain ⟨i0, i1, i2, i3, i4⟩ := unhide HKX _ (unhide HBX)
    clear i0
    first
      | (go_region_held3 (fun y => y.cell? ⟨bU, 0, none⟩ = some (.int .i64 3) ∧ y.cell? ⟨bU, 1, none⟩ = some (.int .i64 n4) ∧ y.cell? ⟨bU, 2, none⟩ = some (.string s4) ∧ y.cell? ⟨bU, 3, none⟩ = some (.slice (some ⟨b', q', none⟩) 2 cap4) ∧ y.cell? ⟨b', q', none⟩ = some (.int .i64 op5) ∧ y.cell? ⟨b', q' + 1, none⟩ = some (.int .i64 n5) ∧ y.cell? ⟨b', q' + 2, none⟩ = some (.string s5) ∧ y.cell? ⟨b', q' + 3, none⟩ = some (.slice a5 len5 cap5)) (go_keep)
          (first
            | (go_at_call 101
               refine (unhide h32 _ (unhide HN0) (unhide HN1)).mono ?_
               rintro e w4 ⟨rfl, hb4⟩
               have hb4' := hide (below_drew' hb4)
               have HB4 := hide (bt (unhide HBX) (unhide hb4') (Nat.le_refl _))
               obtain ⟨f0, f1, f2, f3⟩ := ((unhide HU).below (unhide hb4')).facts
               have f4 := kpc (unhide hb4') i1
               have f5 := kpc (unhide hb4') i2
               have f6 := kpc (unhide hb4') i3
               have f7 := kpc (unhide hb4') i4)
            | (go_at_call 60
               refine (unhide h41 _ (unhide HKX _ (unhide HB4)).1 (unhide HNL _)).mono ?_
               rintro e w5 ⟨rfl, hb5⟩
               have hb5' := hide hb5
               have HB5 := hide (bt (unhide HB4) hb5 (Nat.le_refl _))
               obtain ⟨g0, g1, g2, g3⟩ := (((unhide HU).below (unhide hb4')).below hb5).facts
               have g4 := kpc hb5 f4
               have g5 := kpc hb5 f5
               have g6 := kpc hb5 f6
               have g7 := kpc hb5 f7
               obtain ⟨p0, p1, p2, p3⟩ := (((unhide HRX).below (unhide hb4')).below hb5).facts
               obtain ⟨q0, q1, q2, q3⟩ := (((unhide HRX).below (unhide hb4')).below hb5).frozen)))
      | fail
  all_goals clear c0 c1 c2 c3 d0 d1 d2 d3 e0 e1 e2 e3 f0 f1 f2 f3 f4 f5 f6 f7
  all_goals go_wp2_with fail
  all_goals
    exact bodyPost_ret (v := .tuple #[.agg #[.int .i64 0, .int .i64 0, .string ByteArray.empty, .slice none 0 0], .bool false]) (by simp [results, Tryz.results82, go_sem, p0, p1, p2, p3]; try rfl) rfl ⟨rfl, set4_below (unhide HB5) (by omega)⟩

set_option maxRecDepth 100000 in
set_option maxHeartbeats 4000000 in
theorem openS_yes (k k0 x0 v : Tm) (op n : Int) (s : ByteArray) (a : Option Addr) (len cap : Nat) (m n2 : Int) (s2 : ByteArray) (b q cap2 : Nat) (op3 n3 : Int) (s3 : ByteArray) (a3 : Option Addr) (len3 cap3 : Nat) (n4 : Int) (s4 : ByteArray) (b' q' cap4 : Nat) (op5 n5 : Int) (s5 : ByteArray) (a5 : Option Addr) (len5 cap5 : Nat) (op6 n6 : Int) (s6 : ByteArray) (a6 : Option Addr) (len6 cap6 : Nat) (w : World)
    (hlf : Lies w 0 k (tmCells op n s a len cap)) (hl : Lies w 0 (.node 7 n2 s2 [k0, .node 3 n4 s4 [x0, v]]) (tmCells 7 n2 s2 (some ⟨b, q, none⟩) 2 cap2)) (hsz : (Tm.node 7 n2 s2 [k0, .node 3 n4 s4 [x0, v]]).size ≤ 2097152) (hok : okT (.node 7 n2 s2 [k0, .node 3 n4 s4 [x0, v]]) = true)
    (r0 : w.cell? ⟨b, q, none⟩ = some (.int .i64 op3)) (r1 : w.cell? ⟨b, q + 1, none⟩ = some (.int .i64 n3)) (r2 : w.cell? ⟨b, q + 2, none⟩ = some (.string s3)) (r3 : w.cell? ⟨b, q + 3, none⟩ = some (.slice a3 len3 cap3)) (hk0 : Lies w 0 k0 (tmCells op3 n3 s3 a3 len3 cap3))
    (r4 : w.cell? ⟨b, q + 4, none⟩ = some (.int .i64 3)) (r5 : w.cell? ⟨b, q + 5, none⟩ = some (.int .i64 n4)) (r6 : w.cell? ⟨b, q + 6, none⟩ = some (.string s4)) (r7 : w.cell? ⟨b, q + 7, none⟩ = some (.slice (some ⟨b', q', none⟩) 2 cap4))
    (z0 : w.cell? ⟨b', q', none⟩ = some (.int .i64 op5)) (z1 : w.cell? ⟨b', q' + 1, none⟩ = some (.int .i64 n5)) (z2 : w.cell? ⟨b', q' + 2, none⟩ = some (.string s5)) (z3 : w.cell? ⟨b', q' + 3, none⟩ = some (.slice a5 len5 cap5)) (hx0 : Lies w 0 x0 (tmCells op5 n5 s5 a5 len5 cap5)) (hz : v.size ≤ 2097152)
    (z4 : w.cell? ⟨b', q' + 4, none⟩ = some (.int .i64 op6)) (z5 : w.cell? ⟨b', q' + 5, none⟩ = some (.int .i64 n6)) (z6 : w.cell? ⟨b', q' + 6, none⟩ = some (.string s6)) (z7 : w.cell? ⟨b', q' + 7, none⟩ = some (.slice a6 len6 cap6)) (hv : Lies w 0 v (tmCells op6 n6 s6 a6 len6 cap6)) (h0 : -9223372036854775808 ≤ m) (h1 : m ≤ 9223372036854775807) (hsm : sameB k0 k = true) (hs2 : sameB x0 (numT m) = true) :
    Calls Tryz.prog 82 #[.agg #[.int .i64 op, .int .i64 n, .string s, .slice a len cap], .int .i64 m, .agg #[.int .i64 7, .int .i64 n2, .string s2, .slice (some ⟨b, q, none⟩) 2 cap2]] w fun e w' => ∃ a' cap', e = .returned (.tuple #[.agg #[.int .i64 op6, .int .i64 n6, .string s6, .slice a' len6 cap'], .bool true]) ∧ Lies w' w.heap.size v (tmCells op6 n6 s6 a' len6 cap') ∧ Below w.heap.size w w' := by
  have h39 := hide (ok8 (.node 7 n2 s2 [k0, .node 3 n4 s4 [x0, v]]) 7 n2 s2 (some ⟨b, q, none⟩) 2 cap2)
  rw [hok] at h39
  have h40 := hide (sa_calls k0 k op3 n3 s3 a3 len3 cap3 op n s a len cap)
  rw [hsm] at h40
  have h32 := hide (num_calls m)
  have hcz := hide (cz_calls v op6 n6 s6 a6 len6 cap6)
  have HZ := hide hz
  clear hz
  have h41 := hide (sa_calls x0 (numT m) op5 n5 s5 a5 len5 cap5 2 0 ⟨(Lib.itoa m).toArray⟩ none 0 0)
  rw [hs2] at h41
  have HN0 := hide h0
  have HN1 := hide h1
  have HNL : Hid (∀ v : World, Lies v 0 (numT m) (tmCells 2 0 ⟨(Lib.itoa m).toArray⟩ none 0 0)) := fun v => lies_leaf v 2 0 _ (itoa_size m h0 h1) (by decide) (by decide)
  generalize numT m = NT at *
  generalize (⟨(Lib.itoa m).toArray⟩ : ByteArray) = ns at *
  have HKX : Hid (∀ W, Below w.heap.size w W → Lies W 0 x0 (tmCells op5 n5 s5 a5 len5 cap5) ∧ W.cell? ⟨b', q', none⟩ = some (.int .i64 op5) ∧ W.cell? ⟨b', q' + 1, none⟩ = some (.int .i64 n5) ∧ W.cell? ⟨b', q' + 2, none⟩ = some (.string s5) ∧ W.cell? ⟨b', q' + 3, none⟩ = some (.slice a5 len5 cap5) ∧ Lies W 0 v (tmCells op6 n6 s6 a6 len6 cap6) ∧ W.cell? ⟨b', q' + 4, none⟩ = some (.int .i64 op6) ∧ W.cell? ⟨b', q' + 5, none⟩ = some (.int .i64 n6) ∧ W.cell? ⟨b', q' + 6, none⟩ = some (.string s6) ∧ W.cell? ⟨b', q' + 7, none⟩ = some (.slice a6 len6 cap6)) := fun W hW => ⟨hx0.below hW, kpc hW z0, kpc hW z1, kpc hW z2, kpc hW z3, hv.below hW, kpc hW z4, kpc hW z5, kpc hW z6, kpc hW z7⟩
  have h3 := threeB w op n s a len cap 7 n2 s2 (some ⟨b, q, none⟩) 2 cap2
  go_enter Tryz.func82, Tryz.ntmps82
  go_wp2_with fail
  generalize hgw : (((w.alloc (.cells #[.int .i64 op, .int .i64 n, .string s, .slice a len cap] 29)).alloc (.cells #[.int .i64 7, .int .i64 n2, .string s2, .slice (some ⟨b, q, none⟩) 2 cap2] 29)).alloc (.cells #[.int .i64 0, .int .i64 0, .string ByteArray.empty, .slice none 0 0] 29)) = W0 at *
  refine gw_world hgw ?_
  clear hgw
  have HB0 := hide h3.bel
  have HL := hide (hl.below h3.bel)
  have HLF := hide (hlf.below h3.bel)
  have HLK := hide (hk0.below h3.bel)
  have HR := hide h3.rz
  have HRA := hide h3.ra
  have HRB := hide h3.rb
  have HK := hide (And.intro (kpc h3.bel r0) (And.intro (kpc h3.bel r1) (And.intro (kpc h3.bel r2) (kpc h3.bel r3))))
  have HK1 := hide (And.intro (kpc h3.bel r4) (And.intro (kpc h3.bel r5) (And.intro (kpc h3.bel r6) (kpc h3.bel r7))))
  obtain ⟨c0, c1, c2, c3⟩ := h3.rb.facts
  clear h3 hl hlf hk0 hok hsm r0 r1 r2 r3 r4 r5 r6 r7 z0 z1 z2 z3 hx0 hs2 h0 h1 z4 z5 z6 z7 hv
  first
    | go_region_with (first | (go_at_call 114; refine (unhide h39 _ ((unhide HL).below (Below.refl _ _).drew) hsz).mono ?_; rintro e w2 ⟨rfl, hb2⟩; have hb2' := hide (below_drew' hb2); clear hb2; obtain ⟨k0, k1, k2, k3⟩ := ((unhide HRB).below (unhide hb2')).facts; obtain ⟨j0, j1, j2, j3⟩ := ((unhide HRA).below (unhide hb2')).facts; have i0 := kpc (unhide hb2') (unhide HK).1; have i1 := kpc (unhide hb2') (unhide HK).2.1; have i2 := kpc (unhide hb2') (unhide HK).2.2.1; have i3 := kpc (unhide hb2') (unhide HK).2.2.2) | (go_at_call 60; refine (unhide h40 _ ((unhide HLK).below (unhide hb2')) ((unhide HLF).below (unhide hb2'))).mono ?_; rintro e w3 ⟨rfl, hb3⟩; have hb3' := hide hb3; clear hb3 k0 k1 k2 k3 j0 j1 j2 j3 i0 i1 i2 i3; have HB := hide (bt (bt (unhide HB0) (unhide hb2') (Nat.le_refl _)) (unhide hb3') (Nat.le_refl _)); have HRZ := hide (((unhide HR).below (unhide hb2')).below (unhide hb3')); obtain ⟨d0, d1, d2, d3⟩ := (unhide HRZ).facts; obtain ⟨e0, e1, e2, e3⟩ := (unhide HRZ).frozen; obtain ⟨k0, k1, k2, k3⟩ := (((unhide HRB).below (unhide hb2')).below (unhide hb3')).facts; have i4 := kpc (unhide hb3') (kpc (unhide hb2') (unhide HK1).1); have i5 := kpc (unhide hb3') (kpc (unhide hb2') (unhide HK1).2.1); have i6 := kpc (unhide hb3') (kpc (unhide hb2') (unhide HK1).2.2.1); have i7 := kpc (unhide hb3') (kpc (unhide hb2') (unhide HK1).2.2.2)))
    | fail
  all_goals go_wp2_with fail
  all_goals
    have hbX := ab (w := w3) (.cells #[.int .i64 3, .int .i64 n4, .string s4, .slice (some ⟨b', q', none⟩) 2 cap4] 29)
    have HU := hide (RowT.new 29 w3 3 n4 s4 (some ⟨b', q', none⟩) 2 cap4)
    have HRX := hide ((unhide HRZ).below hbX)
    have HBX := hide (bt (unhide HB) hbX (Nat.le_refl _))
    have hltX : w.heap.size + 1 + 1 < w3.heap.size := (unhide HRZ).lt
    clear hbX d0 d1 d2 d3 e0 e1 e2 e3 k0 k1 k2 k3 i4 i5 i6 i7 c0 c1 c2 c3 hb2' hb3' HRZ HB HR HRA HRB HK HK1 HL HLF HLK h39 h40 HB0
    generalize w3.alloc (.cells #[.int .i64 3, .int .i64 n4, .string s4, .slice (some ⟨b', q', none⟩) 2 cap4] 29) = W3 at *
    generalize w3.heap.size = bU at *
    have hnU : (bU = w.heap.size + 1 + 1) = False := eq_false (by omega)
    have hnU' : (w.heap.size + 1 + 1 = bU) = False := eq_false (by omega)
    obtain ⟨c0, c1, c2, c3⟩ := (unhide HU).facts
    obtain ⟨d0, d1, d2, d3⟩ := (unhide HRX).facts
    obtain ⟨e0, e1, e2, e3⟩ := (unhide HRX).frozen
    have hltB : b' < W3.heap.size := lt_of_cell (unhide HKX _ (unhide HBX)).2.1
    obtain ⟨i0, i1, i2, i3, i4, -⟩ := unhide HKX _ (unhide HBX)
    clear i0
    first
      | (go_region_held3 (fun y => y.cell? ⟨bU, 0, none⟩ = some (.int .i64 3) ∧ y.cell? ⟨bU, 1, none⟩ = some (.int .i64 n4) ∧ y.cell? ⟨bU, 2, none⟩ = some (.string s4) ∧ y.cell? ⟨bU, 3, none⟩ = some (.slice (some ⟨b', q', none⟩) 2 cap4) ∧ y.cell? ⟨b', q', none⟩ = some (.int .i64 op5) ∧ y.cell? ⟨b', q' + 1, none⟩ = some (.int .i64 n5) ∧ y.cell? ⟨b', q' + 2, none⟩ = some (.string s5) ∧ y.cell? ⟨b', q' + 3, none⟩ = some (.slice a5 len5 cap5)) (go_keep)
          (first
            | (go_at_call 101
               refine (unhide h32 _ (unhide HN0) (unhide HN1)).mono ?_
               rintro e w4 ⟨rfl, hb4⟩
               have hb4' := hide (below_drew' hb4)
               have HB4 := hide (bt (unhide HBX) (unhide hb4') (Nat.le_refl _))
               obtain ⟨f0, f1, f2, f3⟩ := ((unhide HU).below (unhide hb4')).facts
               have f4 := kpc (unhide hb4') i1
               have f5 := kpc (unhide hb4') i2
               have f6 := kpc (unhide hb4') i3
               have f7 := kpc (unhide hb4') i4)
            | (go_at_call 60
               refine (unhide h41 _ (unhide HKX _ (unhide HB4)).1 (unhide HNL _)).mono ?_
               rintro e w5 ⟨rfl, hb5⟩
               have hb5' := hide hb5
               have HB5 := hide (bt (unhide HB4) hb5 (Nat.le_refl _))
               obtain ⟨g0, g1, g2, g3⟩ := (((unhide HU).below (unhide hb4')).below hb5).facts
               have g4 := kpc hb5 f4
               have g5 := kpc hb5 f5
               have g6 := kpc hb5 f6
               have g7 := kpc hb5 f7
               obtain ⟨p0, p1, p2, p3⟩ := (((unhide HRX).below (unhide hb4')).below hb5).facts
               obtain ⟨q0, q1, q2, q3⟩ := (((unhide HRX).below (unhide hb4')).below hb5).frozen)))
      | fail
  all_goals
    obtain ⟨-, -, -, -, -, HV5, y0, y1, y2, y3⟩ := unhide HKX _ (unhide HB5)
    have HLV := hide HV5
    have HLT5 : Hid (w.heap.size + 1 + 1 < w5.heap.size) := lt_of_cell p0
    have HP := hide (((unhide HRX).below (unhide hb4')).below (unhide hb5'))
    clear HV5 c0 c1 c2 c3 d0 d1 d2 d3 e0 e1 e2 e3 f0 f1 f2 f3 f4 f5 f6 f7 p0 p1 p2 p3 q0 q1 q2 q3
    go_wp2_with fail
    refine (unhide hcz _ (unhide HLV) (unhide HZ)).mono ?_
    rintro e w6 ⟨a7, cap7, fp, rfl, hO, ⟨_, hge⟩, hb6⟩
    have HB6 := hide (bt (unhide HB5) hb6 (Nat.le_refl _))
    have HO := hide (Own.lies _ _ _ hO hge)
    obtain ⟨p0, p1, p2, p3⟩ := ((unhide HP).below hb6).facts
    obtain ⟨q0, q1, q2, q3⟩ := ((unhide HP).below hb6).frozen
    clear hb6 hO hge
    go_wp2_with fail
    exact bodyPost_ret (v := .tuple #[.agg #[.int .i64 op6, .int .i64 n6, .string s6, .slice a7 len6 cap7], .bool true]) (by simp [results, Tryz.results82, go_sem, p0, p1, p2, p3]; try rfl) rfl ⟨_, _, rfl, set4_lies (unhide HO) (unhide HLT5) w.heap.size (by have := unhide HLT5; omega), set4_below (unhide HB6) (by omega)⟩

theorem lies_opq {w : World} {op n : Int} {s : ByteArray} {ks : List Tm} {op2 n2 : Int} {s2 : ByteArray} {a2 : Option Addr} {len2 cap2 : Nat} (hl : Lies w 0 (.node op n s ks) (tmCells op2 n2 s2 a2 len2 cap2)) : op2 = op := by
  simp only [Lies, tmCells, List.cons.injEq, Value.int.injEq, true_and] at hl
  obtain ⟨_, _, ⟨h, _⟩, _⟩ := hl
  exact h

theorem openS_none (k t : Tm) (m op n : Int) (s : ByteArray) (a : Option Addr) (len cap : Nat) (op2 n2 : Int) (s2 : ByteArray) (a2 : Option Addr) (len2 cap2 : Nat) (w : World) (hlf : Lies w 0 k (tmCells op n s a len cap)) (hl : Lies w 0 t (tmCells op2 n2 s2 a2 len2 cap2)) (hsz : t.size ≤ 2097152) (h0 : -9223372036854775808 ≤ m) (h1 : m ≤ 9223372036854775807) (hn : openO k m t = none) :
    Calls Tryz.prog 82 #[.agg #[.int .i64 op, .int .i64 n, .string s, .slice a len cap], .int .i64 m, .agg #[.int .i64 op2, .int .i64 n2, .string s2, .slice a2 len2 cap2]] w fun e w' => e = .returned (.tuple #[.agg #[.int .i64 0, .int .i64 0, .string ByteArray.empty, .slice none 0 0], .bool false]) ∧ Below w.heap.size w w' := by
  cases hok : okT t with
  | false => exact openS_no1 t op n s a len cap m op2 n2 s2 a2 len2 cap2 w hl hsz hok
  | true =>
    by_cases h7 : op2 = 7
    · obtain ⟨opt, nt, st, ks⟩ := t
      have h2 := lies_opq hl
      subst h2
      subst h7
      obtain ⟨k0, k1, rfl⟩ := ok_two (Or.inr (Or.inl rfl)) hok
      obtain ⟨-, rfl, rfl, rfl, b, q, op3, n3, s3, a3, len3, cap3, op4, n4, s4, a4, len4, cap4, rfl, ⟨r0, r1, r2, r3, hk0⟩, r4, r5, r6, r7, hk1⟩ := lies_kids hl
      cases hs : sameB k0 k with
      | false => exact openS_no3 k k0 k1 op n s a len cap m n2 s2 b q cap2 op3 n3 s3 a3 len3 cap3 op4 n4 s4 a4 len4 cap4 w hlf hl hsz hok r0 r1 r2 r3 hk0 r4 r5 r6 r7 hs
      | true =>
        have hb : behO 7 k (.node 7 n2 s2 [k0, k1]) = some k1 := by simp [behO, hok, hs]
        have hn3 : behO 3 (numT m) k1 = none := by simpa [openO, hb] using hn
        by_cases h3 : op4 = 3
        · have hok1 : okT k1 = true := okT_kid hok (by simp)
          obtain ⟨opu, nu, su, ku⟩ := k1
          have h4 := lies_opq hk1
          subst h4
          subst h3
          obtain ⟨x0, v, rfl⟩ := ok_two (Or.inl rfl) hok1
          obtain ⟨-, rfl, rfl, rfl, b', q', op5, n5, s5, a5, len5, cap5, op6, n6, s6, a6, len6, cap6, rfl, ⟨z0, z1, z2, z3, hx0⟩, -⟩ := lies_kids hk1
          refine openS_no5 k k0 x0 v op n s a len cap m n2 s2 b q cap2 op3 n3 s3 a3 len3 cap3 n4 s4 b' q' cap4 op5 n5 s5 a5 len5 cap5 w hlf hl hsz hok r0 r1 r2 r3 hk0 r4 r5 r6 r7 z0 z1 z2 z3 hx0 h0 h1 hs ?_
          cases hs2 : sameB x0 (numT m) with
          | false => rfl
          | true => simp [behO, hok1, hs2] at hn3
        · exact openS_no4 k k0 k1 op n s a len cap m n2 s2 b q cap2 op3 n3 s3 a3 len3 cap3 op4 n4 s4 a4 len4 cap4 w hlf hl hsz hok r0 r1 r2 r3 hk0 r4 r5 r6 r7 hs h3
    · exact openS_no2 t op n s a len cap m op2 n2 s2 a2 len2 cap2 w hl hsz hok h7

theorem openS_some (k t : Tm) (m op n : Int) (s : ByteArray) (a : Option Addr) (len cap : Nat) (op2 n2 : Int) (s2 : ByteArray) (a2 : Option Addr) (len2 cap2 : Nat) (w : World) (hlf : Lies w 0 k (tmCells op n s a len cap)) (hl : Lies w 0 t (tmCells op2 n2 s2 a2 len2 cap2)) (hsz : t.size ≤ 2097152) (h0 : -9223372036854775808 ≤ m) (h1 : m ≤ 9223372036854775807) (v : Tm) (hn : openO k m t = some v) :
    Calls Tryz.prog 82 #[.agg #[.int .i64 op, .int .i64 n, .string s, .slice a len cap], .int .i64 m, .agg #[.int .i64 op2, .int .i64 n2, .string s2, .slice a2 len2 cap2]] w fun e w' => ∃ op' n' s' a' len' cap', e = .returned (.tuple #[.agg #[.int .i64 op', .int .i64 n', .string s', .slice a' len' cap'], .bool true]) ∧ Lies w' w.heap.size v (tmCells op' n' s' a' len' cap') ∧ Below w.heap.size w w' := by
  have hvz := openO_size hn
  cases h7 : behO 7 k t with
  | none => simp [openO, h7] at hn
  | some u =>
    have hy : behO 3 (numT m) u = some v := by simpa [openO, h7] using hn
    obtain ⟨nt, st, k0, rfl, hok, hs⟩ := behO_some h7
    obtain ⟨nu, su, x0, rfl, hoku, hsu⟩ := behO_some hy
    obtain ⟨rfl, rfl, rfl, rfl, b, q, op3, n3, s3, a3, len3, cap3, op4, n4, s4, a4, len4, cap4, rfl, ⟨r0, r1, r2, r3, hk0⟩, r4, r5, r6, r7, hk1⟩ := lies_kids hl
    obtain ⟨rfl, rfl, rfl, rfl, b', q', op5, n5, s5, a5, len5, cap5, op6, n6, s6, a6, len6, cap6, rfl, ⟨z0, z1, z2, z3, hx0⟩, z4, z5, z6, z7, hv⟩ := lies_kids hk1
    refine (openS_yes k k0 x0 v op n s a len cap m n2 s2 b q cap2 op3 n3 s3 a3 len3 cap3 n4 s4 b' q' cap4 op5 n5 s5 a5 len5 cap5 op6 n6 s6 a6 len6 cap6 w hlf hl hsz hok r0 r1 r2 r3 hk0 r4 r5 r6 r7 z0 z1 z2 z3 hx0 (by omega) z4 z5 z6 z7 hv h0 h1 hs hsu).mono ?_
    rintro e w' ⟨a', cap', he, h⟩
    exact ⟨_, _, _, _, _, _, he, h⟩

end Go.Proofs.YtmklgikbajhcpaaGreatDoor
