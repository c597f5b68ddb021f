
/- The walks of impl.bodyOfSeal and impl.Open: the body that is sealed by a key and a number, or the named error; nothing that was there is written. The walk of impl.Open: the body in new blocks of its own, and true; or zero and false; nothing that was there is written. -/
import Derived.Test.YtmklgikbajhcpaaGreatDoorSx
namespace Go.Proofs.YtmklgikbajhcpaaGreatDoor
open Go.RowKit Go.Deep

/-- What is opened by a key and a number. -/
def openO (k : Tm) (m : Int) (t : Tm) : Option Tm := (behO 7 k t).bind (behO 3 (numT m))

set_option maxRecDepth 100000 in
set_option maxHeartbeats 2000000 in
/-- There is no such seal. -/
theorem body_no1 (k t : Tm) (m : Int) (op n : Int) (s : ByteArray) (a : Option Addr) (len cap : Nat) (op2 n2 : Int) (s2 : ByteArray) (a2 : Option Addr) (len2 cap2 : Nat) (x : Addr) (w : World) (he : ErrAt x w) (hlf : Lies w 0 k (tmCells op n s a len cap)) (hl : Lies w 0 t (tmCells op2 n2 s2 a2 len2 cap2)) (hsz : t.size ≤ 2097152) (hb : behO 7 k t = none) :
    Calls Tryz.prog 128 #[.agg #[.int .i64 op, .int .i64 n, .string s, .slice a len cap], .int .i64 m, .agg #[.int .i64 op2, .int .i64 n2, .string s2, .slice a2 len2 cap2]] w fun e w' => e = .returned (.tuple #[.agg #[.int .i64 0, .int .i64 0, .string ByteArray.empty, .slice none 0 0], .iface 202 (.pointer (some x))]) ∧ Below w.heap.size w w' := by
  have h60 := hide (behind_none 7 (Or.inr (Or.inl rfl)) k t op n s a len cap op2 n2 s2 a2 len2 cap2 x)
  have HBN := hide hb
  have h3 := threeB w op n s a len cap op2 n2 s2 a2 len2 cap2
  go_enter Tryz.func128, Tryz.ntmps128
  have HB0 := hide h3.bel
  have HE := hide (he.on h3.bel)
  have HL := hide (hl.below h3.bel)
  have HLF := hide (hlf.below h3.bel)
  have HR := hide h3.rz
  obtain ⟨c0, c1, c2, c3⟩ := h3.ra.facts
  obtain ⟨d0, d1, d2, d3⟩ := h3.rb.facts
  clear h3 he hl hlf hb
  go_wp2_with fail
  refine (unhide h60 _ (unhide HE) (unhide HLF) (unhide HL) hsz (unhide HBN)).mono ?_
  rintro e w2 ⟨rfl, hb2⟩
  have HB2 := hide (bt (unhide HB0) hb2 (Nat.le_refl _))
  have HR2 := hide ((unhide HR).below hb2)
  clear hb2 c0 c1 c2 c3 d0 d1 d2 d3
  have hlt : w.heap.size + 1 + 1 < w2.heap.size := (unhide HR2).lt
  have hne := Nat.ne_of_lt hlt
  have hne' := Ne.symm hne
  obtain ⟨d0, d1, d2, d3⟩ := (unhide HR2).facts
  obtain ⟨e0, e1, e2, e3⟩ := (unhide HR2).frozen
  go_wp2_with fail
  obtain ⟨f0, f1, f2, f3⟩ := (((unhide HR2).fill 0 0 ⟨#[]⟩ none 0 0).below (ab (.cells #[.int .i64 0, .int .i64 0, .string ByteArray.empty, .slice none 0 0] 29))).facts
  have hS := set4_below (g := w.heap.size + 1 + 1) (x0 := .int .i64 0) (x1 := .int .i64 0) (x2 := .string ⟨#[]⟩) (x3 := .slice none 0 0) (unhide HB2) (by omega)
  exact bodyPost_ret (v := .tuple #[.agg #[.int .i64 0, .int .i64 0, .string ByteArray.empty, .slice none 0 0], .iface 202 (.pointer (some x))]) (by simp [results, Tryz.results128, go_sem, f0, f1, f2, f3]; try rfl) rfl ⟨rfl, hS.alloc hS.size _⟩

set_option maxRecDepth 100000 in
set_option maxHeartbeats 2000000 in
/-- The seal bears another number, or none. -/
theorem body_no2 (k t u : Tm) (m : Int) (op n : Int) (s : ByteArray) (a : Option Addr) (len cap : Nat) (op2 n2 : Int) (s2 : ByteArray) (a2 : Option Addr) (len2 cap2 : Nat) (x : Addr) (w : World) (he : ErrAt x w) (htab : Tab w) (hlf : Lies w 0 k (tmCells op n s a len cap)) (hl : Lies w 0 t (tmCells op2 n2 s2 a2 len2 cap2)) (hsz : t.size ≤ 2097152) (h0 : -9223372036854775808 ≤ m) (h1 : m ≤ 9223372036854775807) (hb : behO 7 k t = some u) (hn : behO 3 (numT m) u = none) :
    Calls Tryz.prog 128 #[.agg #[.int .i64 op, .int .i64 n, .string s, .slice a len cap], .int .i64 m, .agg #[.int .i64 op2, .int .i64 n2, .string s2, .slice a2 len2 cap2]] w fun e w' => e = .returned (.tuple #[.agg #[.int .i64 0, .int .i64 0, .string ByteArray.empty, .slice none 0 0], .iface 202 (.pointer (some x))]) ∧ Below w.heap.size w w' := by
  have h60 := hide (behind_some 7 k t u op n s a len cap op2 n2 s2 a2 len2 cap2 x)
  have h34 := hide (digitsI m)
  have HN0 := hide h0
  have HN1 := hide h1
  have HNL : Hid (∀ v : World, Lies v 0 (numT m) (tmCells 2 0 ⟨(Lib.itoa m).toArray⟩ none 0 0)) := fun v => lies_leaf v 2 0 _ (itoa_size m h0 h1) (by decide) (by decide)
  have HUZ : Hid (u.size ≤ 2097152) := by
    show _ ≤ _
    obtain ⟨_, _, _, rfl, _, _⟩ := behO_some hb
    simp only [Tm.size, Tm.sizes] at hsz
    omega
  have HBN := hide hb
  have HB3 := hide hn
  generalize numT m = NT at *
  generalize (⟨(Lib.itoa m).toArray⟩ : ByteArray) = ns at *
  have h3 := threeB w op n s a len cap op2 n2 s2 a2 len2 cap2
  go_enter Tryz.func128, Tryz.ntmps128
  have HB0 := hide h3.bel
  have HE := hide (he.on h3.bel)
  have HT := hide (htab.on h3.bel)
  have HL := hide (hl.below h3.bel)
  have HLF := hide (hlf.below h3.bel)
  have HR := hide h3.rz
  obtain ⟨c0, c1, c2, c3⟩ := h3.ra.facts
  obtain ⟨d0, d1, d2, d3⟩ := h3.rb.facts
  clear h3 he hl hlf hb htab h0 h1 hn
  go_wp2_with fail
  refine (unhide h60 _ (unhide HE) (unhide HLF) (unhide HL) hsz (unhide HBN)).mono ?_
  rintro e w2 ⟨op4, n4, s4, a4, len4, cap4, rfl, hl4, hb2⟩
  have hb3 := bt hb2 (ab (.cells #[.int .i64 op4, .int .i64 n4, .string s4, .slice a4 len4 cap4] 29)) (Nat.le_refl _)
  have HB2 := hide (bt (unhide HB0) hb3 (Nat.le_refl _))
  have HR2 := hide ((unhide HR).below hb3)
  have HE2 := hide ((unhide HE).on hb3)
  have HT2 := hide ((unhide HT).on hb3)
  have HL2 := hide (hl4.below (ab (.cells #[.int .i64 op4, .int .i64 n4, .string s4, .slice a4 len4 cap4] 29)))
  have HU := hide (RowT.new 29 w2 op4 n4 s4 a4 len4 cap4)
  have hs2 := heap_size_alloc w2 (.cells #[.int .i64 op4, .int .i64 n4, .string s4, .slice a4 len4 cap4] 29)
  have hltU : w.heap.size + 1 + 1 < w2.heap.size := ((unhide HR).below hb2).lt
  clear hb2 hb3 hl4 c0 c1 c2 c3 d0 d1 d2 d3 HB0 HE HT HL HLF HR
  go_wp2_with fail
  generalize hgw : w2.alloc (.cells #[.int .i64 op4, .int .i64 n4, .string s4, .slice a4 len4 cap4] 29) = W2 at *
  clear hgw
  generalize w2.heap.size = bU at *
  have hnU : (bU = w.heap.size + 1 + 1) = False := eq_false (by omega)
  have hnU' : (w.heap.size + 1 + 1 = bU) = False := eq_false (by omega)
  obtain ⟨c0, c1, c2, c3⟩ := (unhide HU).facts
  have h61 := hide (fun v he hf hu => behind_none 3 (Or.inl rfl) NT u 2 0 ns none 0 0 op4 n4 s4 a4 len4 cap4 x v he hf hu (unhide HUZ) (unhide HB3))
  go_region_held3 (fun y => y.cell? ⟨bU, 0, none⟩ = some (.int .i64 op4) ∧ y.cell? ⟨bU, 1, none⟩ = some (.int .i64 n4) ∧ y.cell? ⟨bU, 2, none⟩ = some (.string s4) ∧ y.cell? ⟨bU, 3, none⟩ = some (.slice a4 len4 cap4)) (go_keep)
    (first
      | (go_at_call 102
         refine (unhide h34 _ (unhide HN0) (unhide HN1) ((unhide HT2).on ((Below.refl _ _).drew))).mono ?_
         rintro e w3 ⟨rfl, hb3⟩
         have hb3' := hide (below_drew' hb3)
         have f0 := kpc (unhide hb3') c0
         have f1 := kpc (unhide hb3') c1
         have f2 := kpc (unhide hb3') c2
         have f3 := kpc (unhide hb3') c3)
      | (go_at_call 131
         refine (unhide h61 _ ((unhide HE2).on (unhide hb3')) (unhide HNL _) ((unhide HL2).below (unhide hb3'))).mono ?_
         rintro e w4 ⟨rfl, hb4⟩
         have hb4' := hide hb4
         obtain ⟨p0, p1, p2, p3⟩ := (((unhide HR2).below (unhide hb3')).below hb4).facts
         obtain ⟨q0, q1, q2, q3⟩ := (((unhide HR2).below (unhide hb3')).below hb4).frozen
         have j0 := kpc hb4 f0
         have j1 := kpc hb4 f1
         have j2 := kpc hb4 f2
         have j3 := kpc hb4 f3))
  have HB4 := hide (bt (bt (unhide HB2) (unhide hb3') (Nat.le_refl _)) (unhide hb4') (Nat.le_refl _))
  clear f0 f1 f2 f3 c0 c1 c2 c3 j0 j1 j2 j3
  go_wp2_with fail
  exact bodyPost_ret (v := .tuple #[.agg #[.int .i64 0, .int .i64 0, .string ByteArray.empty, .slice none 0 0], .iface 202 (.pointer (some x))]) (by simp [results, Tryz.results128, go_sem, p0, p1, p2, p3]; try rfl) rfl ⟨rfl, set4_below (unhide HB4) (by omega)⟩
set_option maxRecDepth 100000 in
set_option maxHeartbeats 2000000 in
/-- The body. -/
theorem body_yes (k t u : Tm) (m : Int) (op n : Int) (s : ByteArray) (a : Option Addr) (len cap : Nat) (op2 n2 : Int) (s2 : ByteArray) (a2 : Option Addr) (len2 cap2 : Nat) (x : Addr) (w : World) (he : ErrAt x w) (htab : Tab w) (hlf : Lies w 0 k (tmCells op n s a len cap)) (hl : Lies w 0 t (tmCells op2 n2 s2 a2 len2 cap2)) (hsz : t.size ≤ 2097152) (h0 : -9223372036854775808 ≤ m) (h1 : m ≤ 9223372036854775807) (hb : behO 7 k t = some u) (v : Tm) (hy : behO 3 (numT m) u = some v) :
    Calls Tryz.prog 128 #[.agg #[.int .i64 op, .int .i64 n, .string s, .slice a len cap], .int .i64 m, .agg #[.int .i64 op2, .int .i64 n2, .string s2, .slice a2 len2 cap2]] w fun e w' => ∃ op' n' s' a' len' cap', e = .returned (.tuple #[.agg #[.int .i64 op', .int .i64 n', .string s', .slice a' len' cap'], .nilIface]) ∧ Lies w' 0 v (tmCells op' n' s' a' len' cap') ∧ Below w.heap.size w w' := by
  obtain ⟨nt, st, k0, rfl, hok, hs⟩ := behO_some hb
  obtain ⟨nu, su, x0, rfl, hoku, hsu⟩ := behO_some hy
  obtain ⟨rfl, rfl, rfl, rfl, b, q, op3, n3, s3, a3, len3, cap3, op4, n4, s4, a4, len4, cap4, rfl, ⟨r0, r1, r2, r3, hk0⟩, r4, r5, r6, r7, hk1⟩ := lies_kids hl
  obtain ⟨rfl, rfl, rfl, rfl, b', q', op5, n5, s5, a5, len5, cap5, op6, n6, s6, a6, len6, cap6, rfl, ⟨z0, z1, z2, z3, hx0⟩, z4, z5, z6, z7, hv⟩ := lies_kids hk1
  have HV := hide hv
  have HUZ : Hid ((Tm.node 3 n4 s4 [x0, v]).size ≤ 2097152) := by
    show _ ≤ _
    simp only [Tm.size, Tm.sizes] at hsz ⊢
    omega
  have h60 : Hid (∀ W, Below w.heap.size w W → ErrAt x W → Calls Tryz.prog 131 #[.int .i64 7, .agg #[.int .i64 op, .int .i64 n, .string s, .slice a len cap], .agg #[.int .i64 7, .int .i64 n2, .string s2, .slice (some ⟨b, q, none⟩) 2 cap2]] W fun e w' => e = .returned (.tuple #[.agg #[.int .i64 3, .int .i64 n4, .string s4, .slice (some ⟨b', q', none⟩) 2 cap4], .nilIface]) ∧ Below W.heap.size W w') := fun W hW he =>
    behind_yes k k0 (.node 3 n4 s4 [x0, v]) op n s a len cap 7 n2 s2 b q cap2 op3 n3 s3 a3 len3 cap3 3 n4 s4 (some ⟨b', q', none⟩) 2 cap4 x W he (hlf.below hW) (hl.below hW) hsz hok (kpc hW r0) (kpc hW r1) (kpc hW r2) (kpc hW r3) (hk0.below hW) (kpc hW r4) (kpc hW r5) (kpc hW r6) (kpc hW r7) hs
  have h61 : Hid (∀ W, Below w.heap.size w W → ErrAt x W → Calls Tryz.prog 131 #[.int .i64 3, .agg #[.int .i64 2, .int .i64 0, .string ⟨(Lib.itoa m).toArray⟩, .slice none 0 0], .agg #[.int .i64 3, .int .i64 n4, .string s4, .slice (some ⟨b', q', none⟩) 2 cap4]] W fun e w' => e = .returned (.tuple #[.agg #[.int .i64 op6, .int .i64 n6, .string s6, .slice a6 len6 cap6], .nilIface]) ∧ Below W.heap.size W w') := fun W hW he =>
    behind_yes (numT m) x0 v 2 0 ⟨(Lib.itoa m).toArray⟩ none 0 0 3 n4 s4 b' q' cap4 op5 n5 s5 a5 len5 cap5 op6 n6 s6 a6 len6 cap6 x W he (lies_leaf W 2 0 _ (itoa_size m h0 h1) (by decide) (by decide)) (hk1.below hW) (unhide HUZ) hoku (kpc hW z0) (kpc hW z1) (kpc hW z2) (kpc hW z3) (hx0.below hW) (kpc hW z4) (kpc hW z5) (kpc hW z6) (kpc hW z7) hsu
  have h34 := hide (digitsI m)
  have HN0 := hide h0
  have HN1 := hide h1
  generalize (⟨(Lib.itoa m).toArray⟩ : ByteArray) = ns at *
  have h3 := threeB w op n s a len cap 7 n2 s2 (some ⟨b, q, none⟩) 2 cap2
  go_enter Tryz.func128, Tryz.ntmps128
  have HB0 := hide h3.bel
  have HE := hide (he.on h3.bel)
  have HT := hide (htab.on h3.bel)
  have HR := hide h3.rz
  obtain ⟨c0, c1, c2, c3⟩ := h3.ra.facts
  obtain ⟨d0, d1, d2, d3⟩ := h3.rb.facts
  clear h3 he hl hlf hb htab h0 h1 hy hok hoku hs hsu r0 r1 r2 r3 r4 r5 r6 r7 z0 z1 z2 z3 z4 z5 z6 z7 hk0 hk1 hx0 hv HUZ hsz
  go_wp2_with fail
  refine (unhide h60 _ (unhide HB0) (unhide HE)).mono ?_
  rintro e w2 ⟨rfl, hb2⟩
  have hb3 := bt hb2 (ab (.cells #[.int .i64 3, .int .i64 n4, .string s4, .slice (some ⟨b', q', none⟩) 2 cap4] 29)) (Nat.le_refl _)
  have HB2 := hide (bt (unhide HB0) hb3 (Nat.le_refl _))
  have HR2 := hide ((unhide HR).below hb3)
  have HE2 := hide ((unhide HE).on hb3)
  have HT2 := hide ((unhide HT).on hb3)
  have HU := hide (RowT.new 29 w2 3 n4 s4 (some ⟨b', q', none⟩) 2 cap4)
  have hs2 := heap_size_alloc w2 (.cells #[.int .i64 3, .int .i64 n4, .string s4, .slice (some ⟨b', q', none⟩) 2 cap4] 29)
  have hltU : w.heap.size + 1 + 1 < w2.heap.size := ((unhide HR).below hb2).lt
  clear hb2 hb3 c0 c1 c2 c3 d0 d1 d2 d3 HB0 HE HT HR
  go_wp2_with fail
  generalize hgw : w2.alloc (.cells #[.int .i64 3, .int .i64 n4, .string s4, .slice (some ⟨b', q', none⟩) 2 cap4] 29) = W2 at *
  clear hgw
  generalize w2.heap.size = bU at *
  have hnU : (bU = w.heap.size + 1 + 1) = False := eq_false (by omega)
  have hnU' : (w.heap.size + 1 + 1 = bU) = False := eq_false (by omega)
  obtain ⟨c0, c1, c2, c3⟩ := (unhide HU).facts
  go_region_held3 (fun y => y.cell? ⟨bU, 0, none⟩ = some (.int .i64 3) ∧ y.cell? ⟨bU, 1, none⟩ = some (.int .i64 n4) ∧ y.cell? ⟨bU, 2, none⟩ = some (.string s4) ∧ y.cell? ⟨bU, 3, none⟩ = some (.slice (some ⟨b', q', none⟩) 2 cap4)) (go_keep)
    (first
      | (go_at_call 102
         refine (unhide h34 _ (unhide HN0) (unhide HN1) ((unhide HT2).on ((Below.refl _ _).drew))).mono ?_
         rintro e w3 ⟨rfl, hb3⟩
         have hb3' := hide (below_drew' hb3)
         have f0 := kpc (unhide hb3') c0
         have f1 := kpc (unhide hb3') c1
         have f2 := kpc (unhide hb3') c2
         have f3 := kpc (unhide hb3') c3)
      | (go_at_call 131
         refine (unhide h61 _ (bt (unhide HB2) (unhide hb3') (Nat.le_refl _)) ((unhide HE2).on (unhide hb3'))).mono ?_
         rintro e w4 ⟨rfl, hb4⟩
         have hb4' := hide hb4
         obtain ⟨p0, p1, p2, p3⟩ := (((unhide HR2).below (unhide hb3')).below hb4).facts
         obtain ⟨q0, q1, q2, q3⟩ := (((unhide HR2).below (unhide hb3')).below hb4).frozen
         have j0 := kpc hb4 f0
         have j1 := kpc hb4 f1
         have j2 := kpc hb4 f2
         have j3 := kpc hb4 f3))
  have HB4 := hide (bt (bt (unhide HB2) (unhide hb3') (Nat.le_refl _)) (unhide hb4') (Nat.le_refl _))
  clear f0 f1 f2 f3 c0 c1 c2 c3 j0 j1 j2 j3
  go_wp2_with fail
  have hS := set4_below (g := w.heap.size + 1 + 1) (x0 := .int .i64 op6) (x1 := .int .i64 n6) (x2 := .string s6) (x3 := .slice a6 len6 cap6) (unhide HB4) (by omega)
  exact bodyPost_ret (v := .tuple #[.agg #[.int .i64 op6, .int .i64 n6, .string s6, .slice a6 len6 cap6], .nilIface]) (by simp [results, Tryz.results128, go_sem, p0, p1, p2, p3]; try rfl) rfl ⟨_, _, _, _, _, _, rfl, (unhide HV).below hS, hS⟩

theorem body_none (k t : Tm) (m : Int) (op n : Int) (s : ByteArray) (a : Option Addr) (len cap : Nat) (op2 n2 : Int) (s2 : ByteArray) (a2 : Option Addr) (len2 cap2 : Nat) (x : Addr) (w : World) (he : ErrAt x w) (htab : Tab w) (hlf : Lies w 0 k (tmCells op n s a len cap)) (hl : Lies w 0 t (tmCells op2 n2 s2 a2 len2 cap2)) (hsz : t.size ≤ 2097152) (h0 : -9223372036854775808 ≤ m) (h1 : m ≤ 9223372036854775807) (hn : openO k m t = none) :
    Calls Tryz.prog 128 #[.agg #[.int .i64 op, .int .i64 n, .string s, .slice a len cap], .int .i64 m, .agg #[.int .i64 op2, .int .i64 n2, .string s2, .slice a2 len2 cap2]] w fun e w' => e = .returned (.tuple #[.agg #[.int .i64 0, .int .i64 0, .string ByteArray.empty, .slice none 0 0], .iface 202 (.pointer (some x))]) ∧ Below w.heap.size w w' := by
  cases h7 : behO 7 k t with
  | none => exact body_no1 k t m op n s a len cap op2 n2 s2 a2 len2 cap2 x w he hlf hl hsz h7
  | some u =>
    have hn' : behO 3 (numT m) u = none := by simpa [openO, h7] using hn
    exact body_no2 k t u m op n s a len cap op2 n2 s2 a2 len2 cap2 x w he htab hlf hl hsz h0 h1 h7 hn'

theorem body_some (k t : Tm) (m : Int) (op n : Int) (s : ByteArray) (a : Option Addr) (len cap : Nat) (op2 n2 : Int) (s2 : ByteArray) (a2 : Option Addr) (len2 cap2 : Nat) (x : Addr) (w : World) (he : ErrAt x w) (htab : Tab w) (hlf : Lies w 0 k (tmCells op n s a len cap)) (hl : Lies w 0 t (tmCells op2 n2 s2 a2 len2 cap2)) (hsz : t.size ≤ 2097152) (h0 : -9223372036854775808 ≤ m) (h1 : m ≤ 9223372036854775807) (v : Tm) (hn : openO k m t = some v) :
    Calls Tryz.prog 128 #[.agg #[.int .i64 op, .int .i64 n, .string s, .slice a len cap], .int .i64 m, .agg #[.int .i64 op2, .int .i64 n2, .string s2, .slice a2 len2 cap2]] w fun e w' => ∃ op' n' s' a' len' cap', e = .returned (.tuple #[.agg #[.int .i64 op', .int .i64 n', .string s', .slice a' len' cap'], .nilIface]) ∧ Lies w' 0 v (tmCells op' n' s' a' len' cap') ∧ Below w.heap.size w w' := by
  cases h7 : behO 7 k t with
  | none => simp [openO, h7] at hn
  | some u =>
    have hn' : behO 3 (numT m) u = some v := by simpa [openO, h7] using hn
    exact body_yes k t u m op n s a len cap op2 n2 s2 a2 len2 cap2 x w he htab hlf hl hsz h0 h1 h7 v hn'

theorem openO_size {k t v : Tm} {m : Int} (h : openO k m t = some v) : v.size ≤ 200 := by
  cases h7 : behO 7 k t with
  | none => simp [openO, h7] at h
  | some u =>
    have hn' : behO 3 (numT m) u = some v := by simpa [openO, h7] using h
    obtain ⟨_, _, _, rfl, hok, _⟩ := behO_some hn'
    unfold okT at hok
    rw [Bool.and_eq_true] at hok
    have h3 := of_decide_eq_true hok.1
    simp only [Tm.size, Tm.sizes] at h3
    omega

end Go.Proofs.YtmklgikbajhcpaaGreatDoor
