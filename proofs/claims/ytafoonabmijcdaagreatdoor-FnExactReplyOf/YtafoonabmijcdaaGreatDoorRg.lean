/- The walks of impl.bodyOfSeal and impl.Open: the body that is sealed by a key and a number, or the named error; nothing that was there is written. The walk of impl.Open: the body in new blocks of its own, and true; or zero and false; nothing that was there is written. Terms in a row of the call's own, and the walk of impl.inRow: a row of so many terms, or the named error; nothing that was there is written. What is read of a reply, as plain data, and the walk of impl.readReply: the four terms, or the named error; nothing that was there is written. The walk of impl.readReply where three came in a row. A right term does not lie in a box of zeros: it stays where another block alone is written. The walk of impl.readReply where the share is made: what is in the seal. The walk of impl.readReply where the seal is opened and no pair is in it. The walk of impl.readReply where the reply is read. What impl.readReply answers, told by what is read of a reply alone. -/
import Derived.Test.YtafoonabmijcdaaGreatDoorBh
import Derived.Test.YtafoonabmijcdaaGreatDoorNw
import Derived.Test.YtafoonabmijcdaaGreatDoorStk
import Derived.Deep.DeepAppendWide
import Derived.Test.YtafoonabmijcdaaGreatDoorRst
import Derived.Test.YtafoonabmijcdaaGreatDoorKo
import Derived.Deep.RegionHeld3
import Derived.Deep.RegionWith
import Derived.Deep.DeepCutAuto
import Derived.Test.YtafoonabmijcdaaGreatDoorG0
namespace Go.Proofs.YtafoonabmijcdaaGreatDoor
open Go.RowKit Go.Deep

/-- What is opened by a key and a number. -/
def openO (k : Tm) (m : Int) (t : Tm) : Option Tm := (behO 7 k t).bind (behO 3 (numT m))

set_option maxRecDepth 100000 in
set_option maxHeartbeats 2000000 in
/-- There is no such seal. -/
theorem body_no1 (k t : Tm) (m : Int) (op n : Int) (s : ByteArray) (a : Option Addr) (len cap : Nat) (op2 n2 : Int) (s2 : ByteArray) (a2 : Option Addr) (len2 cap2 : Nat) (x : Addr) (w : World) (he : ErrAt x w) (hlf : Lies w 0 k (tmCells op n s a len cap)) (hl : Lies w 0 t (tmCells op2 n2 s2 a2 len2 cap2)) (hsz : t.size ≤ 2097152) (hb : behO 7 k t = none) :
    Calls Tryz.prog 35 #[.agg #[.int .i64 op, .int .i64 n, .string s, .slice a len cap], .int .i64 m, .agg #[.int .i64 op2, .int .i64 n2, .string s2, .slice a2 len2 cap2]] w fun e w' => e = .returned (.tuple #[.agg #[.int .i64 0, .int .i64 0, .string ByteArray.empty, .slice none 0 0], .iface 128 (.pointer (some x))]) ∧ Below w.heap.size w w' := by
  have h60 := hide (behind_none 7 (Or.inr rfl) k t op n s a len cap op2 n2 s2 a2 len2 cap2 x)
  have HBN := hide hb
  have h3 := threeB w op n s a len cap op2 n2 s2 a2 len2 cap2
  go_enter Tryz.func35, Tryz.ntmps35
  have HB0 := hide h3.bel
  have HE := hide (he.on h3.bel)
  have HL := hide (hl.below h3.bel)
  have HLF := hide (hlf.below h3.bel)
  have HR := hide h3.rz
  obtain ⟨c0, c1, c2, c3⟩ := h3.ra.facts
  obtain ⟨d0, d1, d2, d3⟩ := h3.rb.facts
  clear h3 he hl hlf hb
  go_wp2_with fail
  refine (unhide h60 _ (unhide HE) (unhide HLF) (unhide HL) hsz (unhide HBN)).mono ?_
  rintro e w2 ⟨rfl, hb2⟩
  have HB2 := hide (bt (unhide HB0) hb2 (Nat.le_refl _))
  have HR2 := hide ((unhide HR).below hb2)
  clear hb2 c0 c1 c2 c3 d0 d1 d2 d3
  have hlt : w.heap.size + 1 + 1 < w2.heap.size := (unhide HR2).lt
  have hne := Nat.ne_of_lt hlt
  have hne' := Ne.symm hne
  obtain ⟨d0, d1, d2, d3⟩ := (unhide HR2).facts
  obtain ⟨e0, e1, e2, e3⟩ := (unhide HR2).frozen
  go_wp2_with fail
  obtain ⟨f0, f1, f2, f3⟩ := (((unhide HR2).fill 0 0 ⟨#[]⟩ none 0 0).below (ab (.cells #[.int .i64 0, .int .i64 0, .string ByteArray.empty, .slice none 0 0] 28))).facts
  have hS := set4_below (g := w.heap.size + 1 + 1) (x0 := .int .i64 0) (x1 := .int .i64 0) (x2 := .string ⟨#[]⟩) (x3 := .slice none 0 0) (unhide HB2) (by omega)
  exact bodyPost_ret (v := .tuple #[.agg #[.int .i64 0, .int .i64 0, .string ByteArray.empty, .slice none 0 0], .iface 128 (.pointer (some x))]) (by simp [results, Tryz.results35, go_sem, f0, f1, f2, f3]; try rfl) rfl ⟨rfl, hS.alloc hS.size _⟩

set_option maxRecDepth 100000 in
set_option maxHeartbeats 2000000 in
/-- The seal bears another number, or none. -/
theorem body_no2 (k t u : Tm) (m : Int) (op n : Int) (s : ByteArray) (a : Option Addr) (len cap : Nat) (op2 n2 : Int) (s2 : ByteArray) (a2 : Option Addr) (len2 cap2 : Nat) (x : Addr) (w : World) (he : ErrAt x w) (htab : Tab w) (hlf : Lies w 0 k (tmCells op n s a len cap)) (hl : Lies w 0 t (tmCells op2 n2 s2 a2 len2 cap2)) (hsz : t.size ≤ 2097152) (h0 : -9223372036854775808 ≤ m) (h1 : m ≤ 9223372036854775807) (hb : behO 7 k t = some u) (hn : behO 3 (numT m) u = none) :
    Calls Tryz.prog 35 #[.agg #[.int .i64 op, .int .i64 n, .string s, .slice a len cap], .int .i64 m, .agg #[.int .i64 op2, .int .i64 n2, .string s2, .slice a2 len2 cap2]] w fun e w' => e = .returned (.tuple #[.agg #[.int .i64 0, .int .i64 0, .string ByteArray.empty, .slice none 0 0], .iface 128 (.pointer (some x))]) ∧ Below w.heap.size w w' := by
  have h60 := hide (behind_some 7 k t u op n s a len cap op2 n2 s2 a2 len2 cap2 x)
  have h34 := hide (digitsI m)
  have HN0 := hide h0
  have HN1 := hide h1
  have HNL : Hid (∀ v : World, Lies v 0 (numT m) (tmCells 2 0 ⟨(Lib.itoa m).toArray⟩ none 0 0)) := fun v => lies_leaf v 2 0 _ (itoa_size m h0 h1) (by decide) (by decide)
  have HUZ : Hid (u.size ≤ 2097152) := by
    show _ ≤ _
    obtain ⟨_, _, _, rfl, _, _⟩ := behO_some hb
    simp only [Tm.size, Tm.sizes] at hsz
    omega
  have HBN := hide hb
  have HB3 := hide hn
  generalize numT m = NT at *
  generalize (⟨(Lib.itoa m).toArray⟩ : ByteArray) = ns at *
  have h3 := threeB w op n s a len cap op2 n2 s2 a2 len2 cap2
  go_enter Tryz.func35, Tryz.ntmps35
  have HB0 := hide h3.bel
  have HE := hide (he.on h3.bel)
  have HT := hide (htab.on h3.bel)
  have HL := hide (hl.below h3.bel)
  have HLF := hide (hlf.below h3.bel)
  have HR := hide h3.rz
  obtain ⟨c0, c1, c2, c3⟩ := h3.ra.facts
  obtain ⟨d0, d1, d2, d3⟩ := h3.rb.facts
  clear h3 he hl hlf hb htab h0 h1 hn
  go_wp2_with fail
  refine (unhide h60 _ (unhide HE) (unhide HLF) (unhide HL) hsz (unhide HBN)).mono ?_
  rintro e w2 ⟨op4, n4, s4, a4, len4, cap4, rfl, hl4, hb2⟩
  have hb3 := bt hb2 (ab (.cells #[.int .i64 op4, .int .i64 n4, .string s4, .slice a4 len4 cap4] 28)) (Nat.le_refl _)
  have HB2 := hide (bt (unhide HB0) hb3 (Nat.le_refl _))
  have HR2 := hide ((unhide HR).below hb3)
  have HE2 := hide ((unhide HE).on hb3)
  have HT2 := hide ((unhide HT).on hb3)
  have HL2 := hide (hl4.below (ab (.cells #[.int .i64 op4, .int .i64 n4, .string s4, .slice a4 len4 cap4] 28)))
  have HU := hide (RowT.new 28 w2 op4 n4 s4 a4 len4 cap4)
  have hs2 := heap_size_alloc w2 (.cells #[.int .i64 op4, .int .i64 n4, .string s4, .slice a4 len4 cap4] 28)
  have hltU : w.heap.size + 1 + 1 < w2.heap.size := ((unhide HR).below hb2).lt
  clear hb2 hb3 hl4 c0 c1 c2 c3 d0 d1 d2 d3 HB0 HE HT HL HLF HR
  go_wp2_with fail
  generalize hgw : w2.alloc (.cells #[.int .i64 op4, .int .i64 n4, .string s4, .slice a4 len4 cap4] 28) = W2 at *
  clear hgw
  generalize w2.heap.size = bU at *
  have hnU : (bU = w.heap.size + 1 + 1) = False := eq_false (by omega)
  have hnU' : (w.heap.size + 1 + 1 = bU) = False := eq_false (by omega)
  obtain ⟨c0, c1, c2, c3⟩ := (unhide HU).facts
  have h61 := hide (fun v he hf hu => behind_none 3 (Or.inl rfl) NT u 2 0 ns none 0 0 op4 n4 s4 a4 len4 cap4 x v he hf hu (unhide HUZ) (unhide HB3))
  go_region_held3 (fun y => y.cell? ⟨bU, 0, none⟩ = some (.int .i64 op4) ∧ y.cell? ⟨bU, 1, none⟩ = some (.int .i64 n4) ∧ y.cell? ⟨bU, 2, none⟩ = some (.string s4) ∧ y.cell? ⟨bU, 3, none⟩ = some (.slice a4 len4 cap4)) (go_keep)
    (first
      | (go_at_call 49
         refine (unhide h34 _ (unhide HN0) (unhide HN1) ((unhide HT2).on ((Below.refl _ _).drew))).mono ?_
         rintro e w3 ⟨rfl, hb3⟩
         have hb3' := hide (below_drew' hb3)
         have f0 := kpc (unhide hb3') c0
         have f1 := kpc (unhide hb3') c1
         have f2 := kpc (unhide hb3') c2
         have f3 := kpc (unhide hb3') c3)
      | (go_at_call 48
         refine (unhide h61 _ ((unhide HE2).on (unhide hb3')) (unhide HNL _) ((unhide HL2).below (unhide hb3'))).mono ?_
         rintro e w4 ⟨rfl, hb4⟩
         have hb4' := hide hb4
         obtain ⟨p0, p1, p2, p3⟩ := (((unhide HR2).below (unhide hb3')).below hb4).facts
         obtain ⟨q0, q1, q2, q3⟩ := (((unhide HR2).below (unhide hb3')).below hb4).frozen
         have j0 := kpc hb4 f0
         have j1 := kpc hb4 f1
         have j2 := kpc hb4 f2
         have j3 := kpc hb4 f3))
  have HB4 := hide (bt (bt (unhide HB2) (unhide hb3') (Nat.le_refl _)) (unhide hb4') (Nat.le_refl _))
  clear f0 f1 f2 f3 c0 c1 c2 c3 j0 j1 j2 j3
  go_wp2_with fail
  exact bodyPost_ret (v := .tuple #[.agg #[.int .i64 0, .int .i64 0, .string ByteArray.empty, .slice none 0 0], .iface 128 (.pointer (some x))]) (by simp [results, Tryz.results35, go_sem, p0, p1, p2, p3]; try rfl) rfl ⟨rfl, set4_below (unhide HB4) (by omega)⟩
set_option maxRecDepth 100000 in
set_option maxHeartbeats 2000000 in
/-- The body. -/
theorem body_yes (k t u : Tm) (m : Int) (op n : Int) (s : ByteArray) (a : Option Addr) (len cap : Nat) (op2 n2 : Int) (s2 : ByteArray) (a2 : Option Addr) (len2 cap2 : Nat) (x : Addr) (w : World) (he : ErrAt x w) (htab : Tab w) (hlf : Lies w 0 k (tmCells op n s a len cap)) (hl : Lies w 0 t (tmCells op2 n2 s2 a2 len2 cap2)) (hsz : t.size ≤ 2097152) (h0 : -9223372036854775808 ≤ m) (h1 : m ≤ 9223372036854775807) (hb : behO 7 k t = some u) (v : Tm) (hy : behO 3 (numT m) u = some v) :
    Calls Tryz.prog 35 #[.agg #[.int .i64 op, .int .i64 n, .string s, .slice a len cap], .int .i64 m, .agg #[.int .i64 op2, .int .i64 n2, .string s2, .slice a2 len2 cap2]] w fun e w' => ∃ op' n' s' a' len' cap', e = .returned (.tuple #[.agg #[.int .i64 op', .int .i64 n', .string s', .slice a' len' cap'], .nilIface]) ∧ Lies w' 0 v (tmCells op' n' s' a' len' cap') ∧ Below w.heap.size w w' := by
  obtain ⟨nt, st, k0, rfl, hok, hs⟩ := behO_some hb
  obtain ⟨nu, su, x0, rfl, hoku, hsu⟩ := behO_some hy
  obtain ⟨rfl, rfl, rfl, rfl, b, q, op3, n3, s3, a3, len3, cap3, op4, n4, s4, a4, len4, cap4, rfl, ⟨r0, r1, r2, r3, hk0⟩, r4, r5, r6, r7, hk1⟩ := lies_kids hl
  obtain ⟨rfl, rfl, rfl, rfl, b', q', op5, n5, s5, a5, len5, cap5, op6, n6, s6, a6, len6, cap6, rfl, ⟨z0, z1, z2, z3, hx0⟩, z4, z5, z6, z7, hv⟩ := lies_kids hk1
  have HV := hide hv
  have HUZ : Hid ((Tm.node 3 n4 s4 [x0, v]).size ≤ 2097152) := by
    show _ ≤ _
    simp only [Tm.size, Tm.sizes] at hsz ⊢
    omega
  have h60 : Hid (∀ W, Below w.heap.size w W → ErrAt x W → Calls Tryz.prog 48 #[.int .i64 7, .agg #[.int .i64 op, .int .i64 n, .string s, .slice a len cap], .agg #[.int .i64 7, .int .i64 n2, .string s2, .slice (some ⟨b, q, none⟩) 2 cap2]] W fun e w' => e = .returned (.tuple #[.agg #[.int .i64 3, .int .i64 n4, .string s4, .slice (some ⟨b', q', none⟩) 2 cap4], .nilIface]) ∧ Below W.heap.size W w') := fun W hW he =>
    behind_yes k k0 (.node 3 n4 s4 [x0, v]) op n s a len cap 7 n2 s2 b q cap2 op3 n3 s3 a3 len3 cap3 3 n4 s4 (some ⟨b', q', none⟩) 2 cap4 x W he (hlf.below hW) (hl.below hW) hsz hok (kpc hW r0) (kpc hW r1) (kpc hW r2) (kpc hW r3) (hk0.below hW) (kpc hW r4) (kpc hW r5) (kpc hW r6) (kpc hW r7) hs
  have h61 : Hid (∀ W, Below w.heap.size w W → ErrAt x W → Calls Tryz.prog 48 #[.int .i64 3, .agg #[.int .i64 2, .int .i64 0, .string ⟨(Lib.itoa m).toArray⟩, .slice none 0 0], .agg #[.int .i64 3, .int .i64 n4, .string s4, .slice (some ⟨b', q', none⟩) 2 cap4]] W fun e w' => e = .returned (.tuple #[.agg #[.int .i64 op6, .int .i64 n6, .string s6, .slice a6 len6 cap6], .nilIface]) ∧ Below W.heap.size W w') := fun W hW he =>
    behind_yes (numT m) x0 v 2 0 ⟨(Lib.itoa m).toArray⟩ none 0 0 3 n4 s4 b' q' cap4 op5 n5 s5 a5 len5 cap5 op6 n6 s6 a6 len6 cap6 x W he (lies_leaf W 2 0 _ (itoa_size m h0 h1) (by decide) (by decide)) (hk1.below hW) (unhide HUZ) hoku (kpc hW z0) (kpc hW z1) (kpc hW z2) (kpc hW z3) (hx0.below hW) (kpc hW z4) (kpc hW z5) (kpc hW z6) (kpc hW z7) hsu
  have h34 := hide (digitsI m)
  have HN0 := hide h0
  have HN1 := hide h1
  generalize (⟨(Lib.itoa m).toArray⟩ : ByteArray) = ns at *
  have h3 := threeB w op n s a len cap 7 n2 s2 (some ⟨b, q, none⟩) 2 cap2
  go_enter Tryz.func35, Tryz.ntmps35
  have HB0 := hide h3.bel
  have HE := hide (he.on h3.bel)
  have HT := hide (htab.on h3.bel)
  have HR := hide h3.rz
  obtain ⟨c0, c1, c2, c3⟩ := h3.ra.facts
  obtain ⟨d0, d1, d2, d3⟩ := h3.rb.facts
  clear h3 he hl hlf hb htab h0 h1 hy hok hoku hs hsu r0 r1 r2 r3 r4 r5 r6 r7 z0 z1 z2 z3 z4 z5 z6 z7 hk0 hk1 hx0 hv HUZ hsz
  go_wp2_with fail
  refine (unhide h60 _ (unhide HB0) (unhide HE)).mono ?_
  rintro e w2 ⟨rfl, hb2⟩
  have hb3 := bt hb2 (ab (.cells #[.int .i64 3, .int .i64 n4, .string s4, .slice (some ⟨b', q', none⟩) 2 cap4] 28)) (Nat.le_refl _)
  have HB2 := hide (bt (unhide HB0) hb3 (Nat.le_refl _))
  have HR2 := hide ((unhide HR).below hb3)
  have HE2 := hide ((unhide HE).on hb3)
  have HT2 := hide ((unhide HT).on hb3)
  have HU := hide (RowT.new 28 w2 3 n4 s4 (some ⟨b', q', none⟩) 2 cap4)
  have hs2 := heap_size_alloc w2 (.cells #[.int .i64 3, .int .i64 n4, .string s4, .slice (some ⟨b', q', none⟩) 2 cap4] 28)
  have hltU : w.heap.size + 1 + 1 < w2.heap.size := ((unhide HR).below hb2).lt
  clear hb2 hb3 c0 c1 c2 c3 d0 d1 d2 d3 HB0 HE HT HR
  go_wp2_with fail
  generalize hgw : w2.alloc (.cells #[.int .i64 3, .int .i64 n4, .string s4, .slice (some ⟨b', q', none⟩) 2 cap4] 28) = W2 at *
  clear hgw
  generalize w2.heap.size = bU at *
  have hnU : (bU = w.heap.size + 1 + 1) = False := eq_false (by omega)
  have hnU' : (w.heap.size + 1 + 1 = bU) = False := eq_false (by omega)
  obtain ⟨c0, c1, c2, c3⟩ := (unhide HU).facts
  go_region_held3 (fun y => y.cell? ⟨bU, 0, none⟩ = some (.int .i64 3) ∧ y.cell? ⟨bU, 1, none⟩ = some (.int .i64 n4) ∧ y.cell? ⟨bU, 2, none⟩ = some (.string s4) ∧ y.cell? ⟨bU, 3, none⟩ = some (.slice (some ⟨b', q', none⟩) 2 cap4)) (go_keep)
    (first
      | (go_at_call 49
         refine (unhide h34 _ (unhide HN0) (unhide HN1) ((unhide HT2).on ((Below.refl _ _).drew))).mono ?_
         rintro e w3 ⟨rfl, hb3⟩
         have hb3' := hide (below_drew' hb3)
         have f0 := kpc (unhide hb3') c0
         have f1 := kpc (unhide hb3') c1
         have f2 := kpc (unhide hb3') c2
         have f3 := kpc (unhide hb3') c3)
      | (go_at_call 48
         refine (unhide h61 _ (bt (unhide HB2) (unhide hb3') (Nat.le_refl _)) ((unhide HE2).on (unhide hb3'))).mono ?_
         rintro e w4 ⟨rfl, hb4⟩
         have hb4' := hide hb4
         obtain ⟨p0, p1, p2, p3⟩ := (((unhide HR2).below (unhide hb3')).below hb4).facts
         obtain ⟨q0, q1, q2, q3⟩ := (((unhide HR2).below (unhide hb3')).below hb4).frozen
         have j0 := kpc hb4 f0
         have j1 := kpc hb4 f1
         have j2 := kpc hb4 f2
         have j3 := kpc hb4 f3))
  have HB4 := hide (bt (bt (unhide HB2) (unhide hb3') (Nat.le_refl _)) (unhide hb4') (Nat.le_refl _))
  clear f0 f1 f2 f3 c0 c1 c2 c3 j0 j1 j2 j3
  go_wp2_with fail
  have hS := set4_below (g := w.heap.size + 1 + 1) (x0 := .int .i64 op6) (x1 := .int .i64 n6) (x2 := .string s6) (x3 := .slice a6 len6 cap6) (unhide HB4) (by omega)
  exact bodyPost_ret (v := .tuple #[.agg #[.int .i64 op6, .int .i64 n6, .string s6, .slice a6 len6 cap6], .nilIface]) (by simp [results, Tryz.results35, go_sem, p0, p1, p2, p3]; try rfl) rfl ⟨_, _, _, _, _, _, rfl, (unhide HV).below hS, hS⟩

theorem body_none (k t : Tm) (m : Int) (op n : Int) (s : ByteArray) (a : Option Addr) (len cap : Nat) (op2 n2 : Int) (s2 : ByteArray) (a2 : Option Addr) (len2 cap2 : Nat) (x : Addr) (w : World) (he : ErrAt x w) (htab : Tab w) (hlf : Lies w 0 k (tmCells op n s a len cap)) (hl : Lies w 0 t (tmCells op2 n2 s2 a2 len2 cap2)) (hsz : t.size ≤ 2097152) (h0 : -9223372036854775808 ≤ m) (h1 : m ≤ 9223372036854775807) (hn : openO k m t = none) :
    Calls Tryz.prog 35 #[.agg #[.int .i64 op, .int .i64 n, .string s, .slice a len cap], .int .i64 m, .agg #[.int .i64 op2, .int .i64 n2, .string s2, .slice a2 len2 cap2]] w fun e w' => e = .returned (.tuple #[.agg #[.int .i64 0, .int .i64 0, .string ByteArray.empty, .slice none 0 0], .iface 128 (.pointer (some x))]) ∧ Below w.heap.size w w' := by
  cases h7 : behO 7 k t with
  | none => exact body_no1 k t m op n s a len cap op2 n2 s2 a2 len2 cap2 x w he hlf hl hsz h7
  | some u =>
    have hn' : behO 3 (numT m) u = none := by simpa [openO, h7] using hn
    exact body_no2 k t u m op n s a len cap op2 n2 s2 a2 len2 cap2 x w he htab hlf hl hsz h0 h1 h7 hn'

theorem body_some (k t : Tm) (m : Int) (op n : Int) (s : ByteArray) (a : Option Addr) (len cap : Nat) (op2 n2 : Int) (s2 : ByteArray) (a2 : Option Addr) (len2 cap2 : Nat) (x : Addr) (w : World) (he : ErrAt x w) (htab : Tab w) (hlf : Lies w 0 k (tmCells op n s a len cap)) (hl : Lies w 0 t (tmCells op2 n2 s2 a2 len2 cap2)) (hsz : t.size ≤ 2097152) (h0 : -9223372036854775808 ≤ m) (h1 : m ≤ 9223372036854775807) (v : Tm) (hn : openO k m t = some v) :
    Calls Tryz.prog 35 #[.agg #[.int .i64 op, .int .i64 n, .string s, .slice a len cap], .int .i64 m, .agg #[.int .i64 op2, .int .i64 n2, .string s2, .slice a2 len2 cap2]] w fun e w' => ∃ op' n' s' a' len' cap', e = .returned (.tuple #[.agg #[.int .i64 op', .int .i64 n', .string s', .slice a' len' cap'], .nilIface]) ∧ Lies w' 0 v (tmCells op' n' s' a' len' cap') ∧ Below w.heap.size w w' := by
  cases h7 : behO 7 k t with
  | none => simp [openO, h7] at hn
  | some u =>
    have hn' : behO 3 (numT m) u = some v := by simpa [openO, h7] using hn
    exact body_yes k t u m op n s a len cap op2 n2 s2 a2 len2 cap2 x w he htab hlf hl hsz h0 h1 h7 v hn'

theorem openO_size {k t v : Tm} {m : Int} (h : openO k m t = some v) : v.size ≤ 200 := by
  cases h7 : behO 7 k t with
  | none => simp [openO, h7] at h
  | some u =>
    have hn' : behO 3 (numT m) u = some v := by simpa [openO, h7] using h
    obtain ⟨_, _, _, rfl, hok, _⟩ := behO_some hn'
    unfold okT at hok
    rw [Bool.and_eq_true] at hok
    have h3 := of_decide_eq_true hok.1
    simp only [Tm.size, Tm.sizes] at h3
    omega

/-- The cells of a term. -/
structure Tc where
  op : Int
  n : Int
  s : ByteArray
  a : Option Addr
  len : Nat
  cap : Nat
def Tc.cells (p : Tc) : List Value := tmCells p.op p.n p.s p.a p.len p.cap
theorem Tc.cells_len (p : Tc) : p.cells.length = 4 := rfl
theorem Tc.cells_one (p : Tc) : ∀ v ∈ p.cells, v.oneCell' = true := by
  intro v hv
  simp only [Tc.cells, tmCells, List.mem_cons, List.not_mem_nil, or_false] at hv
  rcases hv with rfl | rfl | rfl | rfl <;> rfl
theorem tflat_get : ∀ (E : List Tc) (i c : Nat) (p : Tc), E[i]? = some p → c < 4 → (E.flatMap Tc.cells)[i * 4 + c]? = p.cells[c]?
  | [], i, c, p, h, _ => by simp at h
  | x :: r, 0, c, p, h, hc => by
    simp only [List.getElem?_cons_zero, Option.some.injEq] at h
    subst h
    rw [List.flatMap_cons, List.getElem?_append_left (by rw [Tc.cells_len]; omega)]
    congr 1
    omega
  | x :: r, i + 1, c, p, h, hc => by
    rw [List.flatMap_cons, List.getElem?_append_right (by rw [Tc.cells_len]; omega)]
    have := tflat_get r i c p (by simpa using h) hc
    rw [← this, Tc.cells_len]
    congr 1
    omega

/-- The terms' cells lie in a row of the call's own, in a block from B on. -/
def TRw (B : Nat) (E : List Tc) (v : Value) (w : World) : Prop := w.ownsRow B 28 4 v E.length (E.flatMap Tc.cells)
theorem TRw.nil (B : Nat) (w : World) : TRw B [] (.slice none 0 0) w := World.ownsRow_nil w B 28 4
theorem TRw.low {B : Nat} {E : List Tc} {v : Value} {w w' : World} (h : TRw B E v w) (hb : Below w.heap.size w w') : TRw B E v w' :=
  World.ownsRow.kept h (row := none) ⟨hb.os, hb.tape, hb.output, hb.size, fun k hk _ => hb.block k hk⟩ (by cases v.ownBlock <;> simp)
theorem TRw.shape {B : Nat} {E : List Tc} {v : Value} {w : World} (h : TRw B E v w) : ∃ a c, v = .slice a E.length c ∧ E.length ≤ c := by
  rcases h.2 with ⟨h1, h2⟩ | ⟨g, cap, cur, h1, _, _, h2, _⟩
  · exact ⟨none, 0, by rw [h1, h2], by omega⟩
  · exact ⟨_, _, h1, h2⟩
theorem TRw.own_ge {B : Nat} {E : List Tc} {v : Value} {w : World} (h : TRw B E v w) : ∀ k, v.ownBlock = some k → B ≤ k := fun k hk => (World.ownsRow.lt h k hk).1
theorem TRw.set {B : Nat} {E : List Tc} {v : Value} {w : World} (h : TRw B E v w) {g j : Nat} (hg : g < B) (u : Value) : TRw B E v (w.setCell ⟨g, j, none⟩ u) := by
  refine World.ownsRow.kept h (row := some g) ⟨rfl, rfl, rfl, by simp [World.setCell], fun k _ hk => Below.heap_setCell _ _ _ _ fun e => hk (by rw [e])⟩ ?_
  rcases hv : v.ownBlock with _ | k
  · exact Or.inl rfl
  · exact Or.inr fun e => by cases e; have := h.own_ge _ hv; omega
theorem TRw.lower {B C : Nat} {E : List Tc} {v : Value} {w : World} (h : TRw B E v w) (hC : C ≤ B) : TRw C E v w := by
  refine ⟨h.1, ?_⟩
  rcases h.2 with h | ⟨g, cap, cur, h1, h2, h3⟩
  · exact Or.inl h
  · exact Or.inr ⟨g, cap, cur, h1, by omega, h3⟩
theorem lies_opI {w : World} {op n : Int} {s : ByteArray} {ks : List Tm} {op2 n2 : Int} {s2 : ByteArray} {a2 : Option Addr} {len2 cap2 : Nat} (hl : Lies w 0 (.node op n s ks) (tmCells op2 n2 s2 a2 len2 cap2)) : op2 = op := by
  have hx := hl
  simp only [Lies, tmCells, List.cons.injEq, Value.int.injEq, Value.string.injEq, true_and] at hx
  obtain ⟨_, _, ⟨h1, _⟩, _⟩ := hx
  exact h1
theorem TRw.cells {B : Nat} {E : List Tc} {v : Value} {w : World} (h : TRw B E v w) {i : Nat} {p : Tc} (hi : E[i]? = some p) :
    ∃ g c, v = .slice (some ⟨g, 0, none⟩) E.length c ∧ B ≤ g ∧ g < w.heap.size ∧ w.cell? ⟨g, i * 4, none⟩ = some (.int .i64 p.op) ∧ w.cell? ⟨g, i * 4 + 1, none⟩ = some (.int .i64 p.n) ∧ w.cell? ⟨g, i * 4 + 2, none⟩ = some (.string p.s) ∧ w.cell? ⟨g, i * 4 + 3, none⟩ = some (.slice p.a p.len p.cap) := by
  have hlt := (List.getElem?_eq_some_iff.1 hi).1
  rcases h.2 with ⟨h1, h2⟩ | ⟨g, cap, cur, h1, h2, h3, h4, h5, h6, h7⟩
  · omega
  · have key : ∀ c u, c < 4 → p.cells[c]? = some u → w.cell? ⟨g, i * 4 + c, none⟩ = some u := fun c u hc hu => by
      have e1 := tflat_get E i c p hi hc
      rw [hu, ← h7, List.getElem?_take_of_lt (by omega)] at e1
      simp only [World.cell?, h3]
      simpa using e1
    exact ⟨g, cap, h1, h2, (Array.getElem?_eq_some_iff.1 h3).1, key 0 _ (by omega) rfl, key 1 _ (by omega) rfl, key 2 _ (by omega) rfl, key 3 _ (by omega) rfl⟩

theorem infoTi : (Tryz.prog.info? 28).map (fun i => (i.zero, i.size, i.bytes)) = some (some (.agg #[.int .i64 0, .int .i64 0, .string ByteArray.empty, .slice none 0 0]), 4, 56) := by kernel_rfl

theorem TRw.push {B : Nat} {E : List Tc} {v : Value} {w : World} (h : TRw B E v w) (p : Tc) (hn : E.length ≤ 4194304) (hB : B ≤ w.heap.size) (ty : TypeId) :
    ∃ v' w', (Builtin.append_ #[26, 26] ty #[v, .slice (some ⟨w.heap.size, 0, none⟩) 1 1]).run Tryz.prog (w.alloc (.cells #[.int .i64 p.op, .int .i64 p.n, .string p.s, .slice p.a p.len p.cap] 28)) = .ok v' w' ∧ TRw B (E ++ [p]) v' w' ∧ Below B w w' := by
  obtain ⟨i, hi, hzz⟩ := Option.map_eq_some_iff.1 infoTi
  simp only [Prod.mk.injEq] at hzz
  obtain ⟨hz, hs, hb⟩ := hzz
  have hb0 : Below w.heap.size w (w.alloc (.cells #[.int .i64 p.op, .int .i64 p.n, .string p.s, .slice p.a p.len p.cap] 28)) := (Below.refl _ _).alloc (Nat.le_refl _) _
  have h0 := h.low hb0
  have hB0 : B ≤ (w.alloc (.cells #[.int .i64 p.op, .int .i64 p.n, .string p.s, .slice p.a p.len p.cap] 28)).heap.size := by rw [heap_size_alloc]; omega
  have hnews : ∀ j u, p.cells[j]? = some u → (w.alloc (.cells #[.int .i64 p.op, .int .i64 p.n, .string p.s, .slice p.a p.len p.cap] 28)).cell? ((⟨w.heap.size, 0, none⟩ : Addr).add j) = some u := fun j u hj => by
    rw [Addr.add_mid, Nat.zero_add]
    exact box_cell w _ 28 j _ (by simpa [Tc.cells, tmCells] using hj)
  obtain ⟨v2, w2, k1, k2, k3, _⟩ := run_append_own_wide (P := Tryz.prog) (w.alloc (.cells #[.int .i64 p.op, .int .i64 p.n, .string p.s, .slice p.a p.len p.cap] 28)) B 26 ty 28 i _ 4 56 Tryz.underlying26 hi hz hs hb rfl (by omega) v E.length _ h0 ⟨w.heap.size, 0, none⟩ 1 1 p.cells (by rw [Tc.cells_len]) hnews p.cells_one
    (by unfold maxLen; omega) (by omega) hB0
  refine ⟨v2, w2, k1, by unfold TRw; rw [List.length_append, List.flatMap_append]; simpa using k2, ?_⟩
  exact (hb0.mono hB).grown k3 hB0 (fun k hk => h0.own_ge k hk)

/-- What stands in a row of pairs: so many steps, and the rest. -/
def rowO : Nat → Tm → Option (List Tm)
  | 0, t => some [t]
  | m + 1, .node op _ _ [a, b] => if op = 3 then (rowO m b).map (a :: ·) else none
  | _ + 1, _ => none
def inO (m : Nat) (t : Tm) : Option (List Tm) := if okT t = true then rowO m t else none

/-- What holds in the middle of impl.inRow. -/
structure IrS (m : Nat) (t : Tm) (w : World) (B g : Nat) (k : Nat) (v : Value) (wr : World) (op n : Int) (s : ByteArray) (a : Option Addr) (len cap : Nat) (rest : Tm) (L : List (Tm × Tc)) : Prop where
  km : k ≤ m
  cnt : L.length = k
  row : TRw B (L.map (·.2)) v wr
  cur : RowT 28 wr g op n s a len cap
  lies : Lies w 0 rest (tmCells op n s a len cap)
  ok : okT rest = true
  all : ∀ p ∈ L, Lies w 0 p.1 p.2.cells
  same : rowO m t = (rowO (m - k) rest).map ((L.map (·.1)) ++ ·)
  below : Below w.heap.size w wr
  size : B ≤ wr.heap.size

theorem rowO_no {m : Nat} {op n : Int} {s : ByteArray} {ks : List Tm} (h : op ≠ 3) : rowO (m + 1) (.node op n s ks) = none := by
  match ks with
  | [] => rfl
  | [_] => rfl
  | [_, _] => simp only [rowO]; rw [if_neg h]
  | _ :: _ :: _ :: _ => rfl
theorem rowO_yes {m : Nat} {n : Int} {s : ByteArray} {k0 k1 : Tm} : rowO (m + 1) (.node 3 n s [k0, k1]) = (rowO m k1).map (k0 :: ·) := by
  simp [rowO]
theorem ok_kid1 {n : Int} {s : ByteArray} {k0 k1 : Tm} (h : okT (.node 3 n s [k0, k1]) = true) : okT k1 = true := okT_kid h (by simp)

theorem IrS.step {m : Nat} {t : Tm} {w : World} {B g k : Nat} {v : Value} {wr : World} {n : Int} {s : ByteArray} {b q cap : Nat} {nn : Int} {ss : ByteArray} {k0 k1 : Tm} {L : List (Tm × Tc)}
    (h : IrS m t w B g k v wr 3 n s (some ⟨b, q, none⟩) 2 cap (.node 3 nn ss [k0, k1]) L) (hk : k < m) (hg : g < B) (hwg : w.heap.size ≤ g) (op3 n3 : Int) (s3 : ByteArray) (a3 : Option Addr) (len3 cap3 : Nat) (op4 n4 : Int) (s4 : ByteArray) (a4 : Option Addr) (len4 cap4 : Nat)
    (h3 : Lies w 0 k0 (tmCells op3 n3 s3 a3 len3 cap3)) (h4 : Lies w 0 k1 (tmCells op4 n4 s4 a4 len4 cap4)) (v' : Value) (w' : World) (ht : TRw B (L.map (·.2) ++ [⟨op3, n3, s3, a3, len3, cap3⟩]) v' w') (hb : Below B wr w') :
    IrS m t w B g (k + 1) v' ((((w'.setCell ⟨g, 0, none⟩ (.int .i64 op4)).setCell ⟨g, 1, none⟩ (.int .i64 n4)).setCell ⟨g, 2, none⟩ (.string s4)).setCell ⟨g, 3, none⟩ (.slice a4 len4 cap4)) op4 n4 s4 a4 len4 cap4 k1 (L ++ [(k0, ⟨op3, n3, s3, a3, len3, cap3⟩)]) := by
  have hcur : RowT 28 w' g 3 n s (some ⟨b, q, none⟩) 2 cap := (hb.block g hg).trans h.cur
  refine ⟨hk, by simp [h.cnt], ?_, ?_, h4, ok_kid1 h.ok, ?_, ?_, ?_, ?_⟩
  · rw [List.map_append]
    exact (((ht.set hg _).set hg _).set hg _).set hg _
  · exact hcur.fill _ _ _ _ _ _
  · intro p hp
    rcases List.mem_append.1 hp with hp | hp
    · exact h.all p hp
    · simp only [List.mem_singleton] at hp
      subst hp
      exact h3
  · rw [h.same, show m - k = (m - (k + 1)) + 1 by omega, rowO_yes]
    cases rowO (m - (k + 1)) k1 <;> simp
  · have hx : Below w.heap.size w w' := h.below.trans (hb.mono (by omega))
    exact set4_below hx hwg
  · have := hb.size
    have := h.size
    simp [World.setCell]
    omega

/-- What impl.inRow answers. -/
def InRes (m : Nat) (t : Tm) (x : Addr) (w : World) (e : Ending) (w' : World) : Prop := Below w.heap.size w w' ∧ ((inO m t = none ∧ e = .returned (.tuple #[.slice none 0 0, .iface 128 (.pointer (some x))])) ∨ ∃ (L : List (Tm × Tc)) (v : Value), inO m t = some (L.map (·.1)) ∧ e = .returned (.tuple #[v, .nilIface]) ∧ TRw w.heap.size (L.map (·.2)) v w' ∧ ∀ p ∈ L, Lies w 0 p.1 p.2.cells)

set_option maxRecDepth 100000 in
set_option maxHeartbeats 4000000 in
theorem inRow (m : Nat) (hm : m ≤ 1000) (t : Tm) (op n : Int) (s : ByteArray) (a : Option Addr) (len cap : Nat) (x : Addr) (w : World) (he : ErrAt x w) (hl : Lies w 0 t (tmCells op n s a len cap)) (hsz : t.size ≤ 2097152) :
    Calls Tryz.prog 31 #[.agg #[.int .i64 op, .int .i64 n, .string s, .slice a len cap], .int .i64 ((m + 1 : Nat) : Int)] w fun e w' => InRes m t x w e w' := by
  have hb0 : Below w.heap.size w (w.alloc (.cells #[.int .i64 op, .int .i64 n, .string s, .slice a len cap] 28)) := (Below.refl _ _).alloc (Nat.le_refl _) _
  have HB0 := hide hb0
  cases hok : okT t with
  | false =>
    have HN : Hid (inO m t = none) := by show _ = _; simp [inO, hok]
    have hC := hide (checked_no t op n s a len cap x _ (hl.below hb0) hsz hok (he.on hb0))
    clear hl hsz hok he hb0
    go_enter Tryz.func31, Tryz.ntmps31
    go_wp2_with fail
    refine (unhide hC).mono ?_
    rintro e w1 ⟨rfl, hb1⟩
    have HB1 := hide (bt (bt (unhide HB0) hb1 (Nat.le_refl _)) (ab (.cells #[.int .i64 0, .int .i64 0, .string ByteArray.empty, .slice none 0 0] 28)) (Nat.le_refl _))
    clear hb1
    go_wp2_with fail
    go_ret2
    exact ⟨unhide HB1, Or.inl ⟨unhide HN, rfl⟩⟩
  | true =>
    have hC := hide (checked_yes t op n s a len cap _ (hl.below hb0) hsz hok)
    have HE := hide he
    have HL := hide hl
    have HOK := hide hok
    have q1 : wrap64 (((m + 1 : Nat) : Int) - 1) = (m : Int) := by unfold wrap64; omega
    clear hl hsz hok he hb0
    go_enter Tryz.func31, Tryz.ntmps31
    go_wp2_with fail
    refine (unhide hC).mono ?_
    rintro e w1 ⟨rfl, hb1⟩
    have HB1 := hide (bt (unhide HB0) hb1 (Nat.le_refl _))
    have hg0 : w.heap.size ≤ w1.heap.size := (unhide HB1).size
    clear hb1
    go_wp2_with fail
    have HS : Hid (IrS m t w (w1.heap.size + 1) w1.heap.size 0 (.slice none 0 0) (w1.alloc (.cells #[.int .i64 op, .int .i64 n, .string s, .slice a len cap] 28)) op n s a len cap t []) :=
      ⟨Nat.zero_le _, rfl, TRw.nil _ _, RowT.new 28 w1 op n s a len cap, unhide HL, unhide HOK, fun p hp => by simp at hp, by simp, bt (unhide HB1) (ab _) (Nat.le_refl _), by rw [heap_size_alloc]; omega⟩
    generalize hW : w1.alloc (.cells #[.int .i64 op, .int .i64 n, .string s, .slice a len cap] 28) = W1 at *
    clear hW
    generalize w1.heap.size = g at *
    clear HL hC
    go_loopw [19, 8] (fun i v wr => ∃ (k : Nat) (op n : Int) (s : ByteArray) (a : Option Addr) (len cap : Nat) (rest : Tm) (L : List (Tm × Tc)), i = .int .i64 (k : Int) ∧ IrS m t w (g + 1) g k v wr op n s a len cap rest L) (fun i _ _ => m - (intOf i).toNat)
    case atStart => exact ⟨0, _, _, _, _, _, _, _, _, rfl, unhide HS⟩
    case round =>
      obtain ⟨k, op, n, s, a, len, cap, rest, L, rfl, hS⟩ := hrel
      have HS1 := hide hS
      have hb := hS.below
      have HBR := hide hb
      have hsz := hS.size
      have hkm := hS.km
      obtain ⟨c0, c1, c2, c3⟩ := hS.cur.facts
      have ex := ((unhide HE).on hb).cell
      by_cases hk : k < m
      · have q2 : (k : Int) < (m : Int) := by omega
        have w1 : wrap64 ((k : Int) + 1) = ((k + 1 : Nat) : Int) := by unfold wrap64; omega
        by_cases ho : op = 3
        · subst ho
          obtain ⟨o', n', s', ks⟩ := rest
          obtain rfl := lies_opI hS.lies
          obtain ⟨k0, k1, rfl⟩ := ok_two (Or.inl rfl) hS.ok
          obtain ⟨-, -, -, rfl, b, q, op3, n3, s3, a3, len3, cap3, op4, n4, s4, a4, len4, cap4, rfl, ⟨r0, r1, r2, r3, hk0⟩, r4, r5, r6, r7, hk1⟩ := lies_kids hS.lies
          have HLT : Hid (b < w.heap.size) := lt_of_cell r4
          have HK0 := hide hk0
          have HK1 := hide hk1
          have HR4 := hide r4
          have HR5 := hide r5
          have HR6 := hide r6
          have HR7 := hide r7
          replace r0 := kpc hb r0
          replace r1 := kpc hb r1
          replace r2 := kpc hb r2
          replace r3 := kpc hb r3
          have HAP := hide (hS.row.push ⟨op3, n3, s3, a3, len3, cap3⟩ (by rw [List.length_map, hS.cnt]; omega) hS.size 26)
          clear hS hb hk0 hk1 r4 r5 r6 r7
          go_wp2_with (at_builtin; refine wpList_append_run rfl _ _ 26 rfl u8 (.slice (some ⟨wr.heap.size, 0, none⟩) 1 1) rfl rfl (fun v' w' => TRw (g + 1) (L.map (·.2) ++ [⟨op3, n3, s3, a3, len3, cap3⟩]) v' w' ∧ Below (g + 1) wr w') (unhide HAP) ?_; rintro v5 w5 ⟨t5, b5⟩; have HT5 := hide t5; have HB5 := hide b5; have HC5 := hide ((b5.block g (Nat.lt_succ_self g)).trans (unhide HS1).cur); obtain ⟨e0, e1, e2, e3⟩ := (RowT.facts (show RowT 28 w5 g _ _ _ _ _ _ from unhide HC5)); have f0 := frozen_of_row (unhide HC5) (j := 0); have f1 := frozen_of_row (unhide HC5) (j := 1); have f2 := frozen_of_row (unhide HC5) (j := 2); have f3 := frozen_of_row (unhide HC5) (j := 3); have r4 := (World.cell?_of_block (b5.block b (by have := unhide HLT; omega))).trans (kpc (unhide HBR) (unhide HR4)); have r5 := (World.cell?_of_block (b5.block b (by have := unhide HLT; omega))).trans (kpc (unhide HBR) (unhide HR5)); have r6 := (World.cell?_of_block (b5.block b (by have := unhide HLT; omega))).trans (kpc (unhide HBR) (unhide HR6)); have r7 := (World.cell?_of_block (b5.block b (by have := unhide HLT; omega))).trans (kpc (unhide HBR) (unhide HR7)); clear t5 b5 c0 c1 c2 c3)
          go_roundw
          case rel => exact ⟨k + 1, _, _, _, _, _, _, _, _, rfl, (unhide HS1).step hk (Nat.lt_succ_self g) hg0 op3 n3 s3 a3 len3 cap3 op4 n4 s4 a4 len4 cap4 (unhide HK0) (unhide HK1) _ _ (unhide HT5) (unhide HB5)⟩
          case measure => simp only [intOf]; omega
        · have HN : Hid (inO m t = none) := by
            show _ = _
            unfold inO
            rw [if_pos (unhide HOK), hS.same, show m - k = (m - k - 1) + 1 by omega]
            obtain ⟨o', n', s', ks⟩ := rest
            obtain rfl := lies_opI hS.lies
            rw [rowO_no ho]
            rfl
          clear hS hb
          go_wp2_with fail
          go_region
          go_wp2_with fail
          go_ret2
          exact ⟨(unhide HBR).drew, Or.inl ⟨unhide HN, rfl⟩⟩
      · obtain rfl : k = m := by omega
        have q2 : ¬ (k : Int) < (k : Int) := by omega
        have HN : Hid (inO k t = some ((L ++ [(rest, (⟨op, n, s, a, len, cap⟩ : Tc))]).map (·.1))) := by
          show _ = _
          unfold inO
          rw [if_pos (unhide HOK), hS.same, Nat.sub_self]
          simp [rowO]
        have HAL : Hid (∀ p ∈ L ++ [(rest, (⟨op, n, s, a, len, cap⟩ : Tc))], Lies w 0 p.1 p.2.cells) := fun p hp => by
          rcases List.mem_append.1 hp with hp | hp
          · exact hS.all p hp
          · simp only [List.mem_singleton] at hp
            subst hp
            exact hS.lies
        have HAP := hide (hS.row.push ⟨op, n, s, a, len, cap⟩ (by rw [List.length_map, hS.cnt]; omega) hS.size 26)
        clear hS hb
        go_wp2_with (at_builtin; refine wpList_append_run rfl _ _ 26 rfl u8 (.slice (some ⟨wr.heap.size, 0, none⟩) 1 1) rfl rfl (fun v' w' => TRw (g + 1) (L.map (·.2) ++ [⟨op, n, s, a, len, cap⟩]) v' w' ∧ Below (g + 1) wr w') (unhide HAP) ?_; rintro v5 w5 ⟨t5, b5⟩; have HT5 := hide t5; have HB5 := hide b5; clear t5 b5)
        go_ret2
        refine ⟨(unhide HBR).trans ((unhide HB5).mono (by omega)), Or.inr ⟨L ++ [(rest, ⟨op, n, s, a, len, cap⟩)], _, unhide HN, rfl, ?_, unhide HAL⟩⟩
        rw [List.map_append]
        exact TRw.lower (unhide HT5) (by omega)

/-- What is read of a reply. -/
def replyO (e t : Tm) : Option (Tm × Tm × Tm × Tm) :=
  match inO 2 t with
  | some [k0, pub, sealed] =>
    if sameB k0 (textT replyW) = true then
      if shrB e pub = true then
        match openO (keyT (shrT e pub) 0) 0 sealed with
        | some body =>
          match inO 1 body with
          | some [c, g] => some (pub, shrT e pub, c, g)
          | _ => none
        | none => none
      else none
    else none
  | _ => none

theorem rowO_len : ∀ (m : Nat) (t : Tm) (l : List Tm), rowO m t = some l → l.length = m + 1
  | 0, t, l, h => by simp only [rowO, Option.some.injEq] at h; subst h; rfl
  | m + 1, .node op n s ks, l, h => by
    match ks with
    | [] => simp [rowO] at h
    | [_] => simp [rowO] at h
    | _ :: _ :: _ :: _ => simp [rowO] at h
    | [a, b] =>
      simp only [rowO] at h
      split at h
      · obtain ⟨r, h1, h2⟩ := Option.map_eq_some_iff.1 h
        subst h2
        simp [rowO_len m b r h1]
      · cases h
theorem inO_len {m : Nat} {t : Tm} {l : List Tm} (h : inO m t = some l) : l.length = m + 1 := by
  unfold inO at h
  split at h
  · exact rowO_len m t l h
  · cases h
theorem three_of {L : List (Tm × Tc)} (h : L.length = 3) : ∃ p q r, L = [p, q, r] := by
  match L, h with
  | [p, q, r], _ => exact ⟨p, q, r, rfl⟩
theorem two_ofL {L : List (Tm × Tc)} (h : L.length = 2) : ∃ p q, L = [p, q] := by
  match L, h with
  | [p, q], _ => exact ⟨p, q, rfl⟩

/-- Sixteen cells stand at the head of a block, and may be written. -/
structure RowV (w : World) (b : Nat) (C : Array Value) : Prop where
  size : C.size = 16
  cells : w.rangeAt b 0 C.toList
  there : w.there b 0 16
theorem below_setCells {B : Nat} {w v : World} (h : Below B w v) {b : Nat} (hb : B ≤ b) : ∀ (vs : List Value) (o : Nat), Below B w (v.setCells b o vs) := by
  intro vs
  induction vs generalizing v with
  | nil => intro o; exact h
  | cons x r ih => intro o; rw [World.setCells]; exact ih (h.setCell hb _) (o + 1)
theorem RowV.new (w : World) (C : Array Value) (hC : C.size = 16) : RowV (w.alloc (.cells C 44)) w.heap.size C where
  size := hC
  cells := fun j v hj => by rw [Nat.zero_add]; exact box_cell w _ 44 j _ (by simpa using hj)
  there := fun j hj => ⟨by rw [Nat.zero_add, box_cell w C 44 j _ (Array.getElem?_eq_getElem (by omega))]; rfl, frozen_of_row (heap_alloc_new w _)⟩
theorem RowV.below {w w' : World} {b : Nat} {C : Array Value} (h : RowV w b C) (hb : Below w.heap.size w w') : RowV w' b C := by
  have h0 : b < w.heap.size := by
    have := (h.there 0 (by omega)).1
    obtain ⟨u, hu⟩ := Option.isSome_iff_exists.1 this
    exact lt_of_cell hu
  have hk := hb.block b h0
  refine ⟨h.size, fun j v hj => (World.cell?_of_block hk).trans (h.cells j v hj), fun j hj => ⟨by rw [World.cell?_of_block hk]; exact (h.there j hj).1, ?_⟩⟩
  have := (h.there j hj).2
  unfold World.frozen? at this ⊢
  simp only at this ⊢
  rw [hk]
  exact this
theorem RowV.store {w : World} {b : Nat} {C : Array Value} (h : RowV w b C) (D : Array Value) (hD : D.size = 16) : RowV (w.setCells b 0 D.toList) b D where
  size := hD
  cells := World.rangeAt_setCells_same w b 0 D.toList (by rw [Array.length_toList, hD]; exact h.there)
  there := World.there_setCells h.there b 0 D.toList
theorem set16 (w : World) (b : Nat) (x0 x1 x2 x3 x4 x5 x6 x7 x8 x9 x10 x11 x12 x13 x14 x15 : Value) : ((((((((((((((((w.setCell ⟨b, 0, none⟩ x0).setCell ⟨b, 1, none⟩ x1).setCell ⟨b, 2, none⟩ x2).setCell ⟨b, 3, none⟩ x3).setCell ⟨b, 4, none⟩ x4).setCell ⟨b, 5, none⟩ x5).setCell ⟨b, 6, none⟩ x6).setCell ⟨b, 7, none⟩ x7).setCell ⟨b, 8, none⟩ x8).setCell ⟨b, 9, none⟩ x9).setCell ⟨b, 10, none⟩ x10).setCell ⟨b, 11, none⟩ x11).setCell ⟨b, 12, none⟩ x12).setCell ⟨b, 13, none⟩ x13).setCell ⟨b, 14, none⟩ x14).setCell ⟨b, 15, none⟩ x15) = w.setCells b 0 [x0, x1, x2, x3, x4, x5, x6, x7, x8, x9, x10, x11, x12, x13, x14, x15] := by
  simp only [World.setCells, Nat.zero_add, Nat.reduceAdd]
theorem RowV.drew {w : World} {b : Nat} {C : Array Value} (h : RowV w b C) : RowV w.drew b C := ⟨h.size, h.cells, h.there⟩
theorem infoR : (Tryz.prog.info? 44).map (·.size) = some 16 := by kernel_rfl
theorem RowV.load {w : World} {b : Nat} {C : Array Value} (h : RowV w b C) : (loadVar 44 ⟨b, 0, none⟩).run Tryz.prog w = .ok (.agg C) w := by
  have := run_loadVar_mid (P := Tryz.prog) w b 0 44 C.toList _ h.cells Tryz.underlying44 rfl (by rw [infoR, Array.length_toList, h.size])
  simpa using this
theorem wpList_storeR {ops : Array Oper} {rest : List Oper} {o : Oper} {aa : Act} {w : World} {Q : Exit → Act → World → Prop} {b : Nat} {C : Array Value} (hgd : o.guard = none) (x y : Operand) (ho : o.op = .store 44 x y) (D : Array Value) (h : RowV w b C) (hD : D.size = 16) (h1 : D.all (·.oneCell') = true) (hx : aa.eval x = .pointer (some ⟨b, 0, none⟩)) (hy : aa.eval y = .agg D)
    {B : Nat} {w0 : World} (hb : Below B w0 w) (hB : B ≤ b) (hq : ∀ W, RowV W b D → Below B w0 W → wpList Tryz.prog ops Q rest (aa.put o.dst undef) W) : wpList Tryz.prog ops Q (o :: rest) aa w :=
  wpList_store_mid hgd 44 x y ho b 0 D hx hy (by rw [hD]; exact h.there) (by rw [infoR, hD]) h1 (hq _ (h.store D hD) (below_setCells hb hB _ _))
theorem results_cell_tmp {P : Program} {fn : Func} {c u : Tmp} {ty : TypeId} (h : fn.results = #[.cell c ty, .tmp u]) {tmps : Array Value} {w : World} {v : Value} {b : Addr} (hp : tmps.getD c undef = .pointer (some b)) (hl : (loadVar ty b).run P w = .ok v w) :
    (results fn tmps).run P w = .ok (.tuple #[v, tmps.getD u undef]) w := by
  have hp' : tmps[c]?.getD undef = .pointer (some b) := by simpa using hp
  simp [results, h, hp', hl, asAddr]

set_option maxRecDepth 100000 in
set_option maxHeartbeats 4000000 in
theorem read_no1 (t : Tm) (op n : Int) (s : ByteArray) (a : Option Addr) (len cap : Nat) (op2 n2 : Int) (s2 : ByteArray) (a2 : Option Addr) (len2 cap2 : Nat) (x : Addr) (w : World) (he : ErrAt x w) (hl2 : Lies w 0 t (tmCells op2 n2 s2 a2 len2 cap2)) (hst : t.size ≤ 1048577) (hn : inO 2 t = none) : Calls Tryz.prog 18 #[.agg #[.int .i64 op, .int .i64 n, .string s, .slice a len cap], .agg #[.int .i64 op2, .int .i64 n2, .string s2, .slice a2 len2 cap2]] w fun q w' => q = .returned (.tuple #[.agg #[.int .i64 0, .int .i64 0, .string ⟨#[]⟩, .slice none 0 0, .int .i64 0, .int .i64 0, .string ⟨#[]⟩, .slice none 0 0, .int .i64 0, .int .i64 0, .string ⟨#[]⟩, .slice none 0 0, .int .i64 0, .int .i64 0, .string ⟨#[]⟩, .slice none 0 0], .iface 128 (.pointer (some x))]) ∧ Below w.heap.size w w' := by
  have hb0 : Below w.heap.size w (((w.alloc (.cells #[.int .i64 op, .int .i64 n, .string s, .slice a len cap] 28)).alloc (.cells #[.int .i64 op2, .int .i64 n2, .string s2, .slice a2 len2 cap2] 28)).alloc (.cells #[.int .i64 0, .int .i64 0, .string ⟨#[]⟩, .slice none 0 0, .int .i64 0, .int .i64 0, .string ⟨#[]⟩, .slice none 0 0, .int .i64 0, .int .i64 0, .string ⟨#[]⟩, .slice none 0 0, .int .i64 0, .int .i64 0, .string ⟨#[]⟩, .slice none 0 0] 44)) := bt (bt (ab _) (ab _) (Nat.le_refl _)) (ab _) (Nat.le_refl _)
  have hI := hide (inRow 2 (by omega) t op2 n2 s2 a2 len2 cap2 x _ (he.on hb0) (hl2.below hb0) (by omega))
  have HB0 := hide hb0
  have HR : Hid (RowV (((w.alloc (.cells #[.int .i64 op, .int .i64 n, .string s, .slice a len cap] 28)).alloc (.cells #[.int .i64 op2, .int .i64 n2, .string s2, .slice a2 len2 cap2] 28)).alloc (.cells #[.int .i64 0, .int .i64 0, .string ⟨#[]⟩, .slice none 0 0, .int .i64 0, .int .i64 0, .string ⟨#[]⟩, .slice none 0 0, .int .i64 0, .int .i64 0, .string ⟨#[]⟩, .slice none 0 0, .int .i64 0, .int .i64 0, .string ⟨#[]⟩, .slice none 0 0] 44)) (w.heap.size + 1 + 1) #[.int .i64 0, .int .i64 0, .string ⟨#[]⟩, .slice none 0 0, .int .i64 0, .int .i64 0, .string ⟨#[]⟩, .slice none 0 0, .int .i64 0, .int .i64 0, .string ⟨#[]⟩, .slice none 0 0, .int .i64 0, .int .i64 0, .string ⟨#[]⟩, .slice none 0 0]) := by have := RowV.new ((w.alloc (.cells #[.int .i64 op, .int .i64 n, .string s, .slice a len cap] 28)).alloc (.cells #[.int .i64 op2, .int .i64 n2, .string s2, .slice a2 len2 cap2] 28)) #[.int .i64 0, .int .i64 0, .string ⟨#[]⟩, .slice none 0 0, .int .i64 0, .int .i64 0, .string ⟨#[]⟩, .slice none 0 0, .int .i64 0, .int .i64 0, .string ⟨#[]⟩, .slice none 0 0, .int .i64 0, .int .i64 0, .string ⟨#[]⟩, .slice none 0 0] rfl; rwa [heap_size_alloc, heap_size_alloc] at this
  have HN := hide hn
  clear he hl2 hb0 hst hn
  go_enter Tryz.func18, Tryz.ntmps18
  go_wp2_with fail
  refine (unhide hI).mono ?_
  rintro q w1 ⟨hb1, h1⟩
  rcases h1 with ⟨-, rfl⟩ | ⟨L, v, h2, -⟩
  · have HB1 := hide (bt (unhide HB0) hb1 (Nat.le_refl _))
    have HR1 := hide ((unhide HR).below hb1)
    clear hb1
    go_wp2_with (refine wpList_storeR rfl (.tmp 4) (.tmp 18) rfl #[.int .i64 0, .int .i64 0, .string ⟨#[]⟩, .slice none 0 0, .int .i64 0, .int .i64 0, .string ⟨#[]⟩, .slice none 0 0, .int .i64 0, .int .i64 0, .string ⟨#[]⟩, .slice none 0 0, .int .i64 0, .int .i64 0, .string ⟨#[]⟩, .slice none 0 0] (unhide HR1) rfl (by simp [Value.oneCell']) rfl rfl (unhide HB1) (by omega) ?_; intro W hW hBW; have HW := hide hW; have HBW := hide hBW; clear hW hBW)
    have hLV := (unhide HW).load
    exact bodyPost_ret (v := .tuple #[.agg #[.int .i64 0, .int .i64 0, .string ⟨#[]⟩, .slice none 0 0, .int .i64 0, .int .i64 0, .string ⟨#[]⟩, .slice none 0 0, .int .i64 0, .int .i64 0, .string ⟨#[]⟩, .slice none 0 0, .int .i64 0, .int .i64 0, .string ⟨#[]⟩, .slice none 0 0], .iface 128 (.pointer (some x))]) (results_cell_tmp Tryz.results18 rfl hLV) rfl ⟨rfl, unhide HBW⟩
  · rw [unhide HN] at h2
    cases h2

theorem rowO_size : ∀ (m : Nat) (t : Tm) (l : List Tm), rowO m t = some l → Tm.sizes l ≤ t.size
  | 0, t, l, h => by simp only [rowO, Option.some.injEq] at h; subst h; simp [Tm.sizes]
  | m + 1, .node op n s ks, l, h => by
    match ks with
    | [] => simp [rowO] at h
    | [_] => simp [rowO] at h
    | _ :: _ :: _ :: _ => simp [rowO] at h
    | [a, b] =>
      simp only [rowO] at h
      split at h
      · obtain ⟨r, h1, h2⟩ := Option.map_eq_some_iff.1 h
        subst h2
        have := rowO_size m b r h1
        simp only [Tm.sizes, Tm.size]
        omega
      · cases h
theorem inO_size {t k0 pub sealed : Tm} (h : inO 2 t = some [k0, pub, sealed]) : k0.size + pub.size + sealed.size ≤ t.size := by
  unfold inO at h
  split at h
  · have := rowO_size 2 t _ h
    simp only [Tm.sizes] at this
    omega
  · cases h
theorem TRw.three {B : Nat} {p q r : Tc} {v : Value} {w : World} (h : TRw B [p, q, r] v w) :
    ∃ g c, v = .slice (some ⟨g, 0, none⟩) 3 c ∧ B ≤ g ∧ w.cell? ⟨g, 0, none⟩ = some (.int .i64 p.op) ∧ w.cell? ⟨g, 1, none⟩ = some (.int .i64 p.n) ∧ w.cell? ⟨g, 2, none⟩ = some (.string p.s) ∧ w.cell? ⟨g, 3, none⟩ = some (.slice p.a p.len p.cap) ∧ w.cell? ⟨g, 4, none⟩ = some (.int .i64 q.op) ∧ w.cell? ⟨g, 5, none⟩ = some (.int .i64 q.n) ∧ w.cell? ⟨g, 6, none⟩ = some (.string q.s) ∧ w.cell? ⟨g, 7, none⟩ = some (.slice q.a q.len q.cap) ∧ w.cell? ⟨g, 8, none⟩ = some (.int .i64 r.op) ∧ w.cell? ⟨g, 9, none⟩ = some (.int .i64 r.n) ∧ w.cell? ⟨g, 10, none⟩ = some (.string r.s) ∧ w.cell? ⟨g, 11, none⟩ = some (.slice r.a r.len r.cap) := by
  obtain ⟨g, c, rfl, h1, _, e0, e1, e2, e3⟩ := TRw.cells h (i := 0) (p := p) rfl
  obtain ⟨g', c', h2, _, _, e4, e5, e6, e7⟩ := TRw.cells h (i := 1) (p := q) rfl
  obtain ⟨g'', c'', h3, _, _, e8, e9, e10, e11⟩ := TRw.cells h (i := 2) (p := r) rfl
  cases h2
  cases h3
  exact ⟨g, c, rfl, h1, e0, e1, e2, e3, e4, e5, e6, e7, e8, e9, e10, e11⟩

set_option maxRecDepth 100000 in
set_option maxHeartbeats 4000000 in
theorem read_no2 (e t k0 pub sealed : Tm) (op n : Int) (s : ByteArray) (a : Option Addr) (len cap : Nat) (op2 n2 : Int) (s2 : ByteArray) (a2 : Option Addr) (len2 cap2 : Nat) (x : Addr) (w : World) (he : ErrAt x w) (htab : Tab w) (hl : Lies w 0 e (tmCells op n s a len cap)) (hl2 : Lies w 0 t (tmCells op2 n2 s2 a2 len2 cap2)) (hst : e.size + t.size ≤ 1100000) (hn : inO 2 t = some [k0, pub, sealed]) (hs : sameB k0 (textT replyW) = false) : Calls Tryz.prog 18 #[.agg #[.int .i64 op, .int .i64 n, .string s, .slice a len cap], .agg #[.int .i64 op2, .int .i64 n2, .string s2, .slice a2 len2 cap2]] w fun q w' => q = .returned (.tuple #[.agg #[.int .i64 0, .int .i64 0, .string ⟨#[]⟩, .slice none 0 0, .int .i64 0, .int .i64 0, .string ⟨#[]⟩, .slice none 0 0, .int .i64 0, .int .i64 0, .string ⟨#[]⟩, .slice none 0 0, .int .i64 0, .int .i64 0, .string ⟨#[]⟩, .slice none 0 0], .iface 128 (.pointer (some x))]) ∧ Below w.heap.size w w' := by
  have hb0 : Below w.heap.size w (((w.alloc (.cells #[.int .i64 op, .int .i64 n, .string s, .slice a len cap] 28)).alloc (.cells #[.int .i64 op2, .int .i64 n2, .string s2, .slice a2 len2 cap2] 28)).alloc (.cells #[.int .i64 0, .int .i64 0, .string ⟨#[]⟩, .slice none 0 0, .int .i64 0, .int .i64 0, .string ⟨#[]⟩, .slice none 0 0, .int .i64 0, .int .i64 0, .string ⟨#[]⟩, .slice none 0 0, .int .i64 0, .int .i64 0, .string ⟨#[]⟩, .slice none 0 0] 44)) := bt (bt (ab _) (ab _) (Nat.le_refl _)) (ab _) (Nat.le_refl _)
  have hI := hide (inRow 2 (by omega) t op2 n2 s2 a2 len2 cap2 x _ (he.on hb0) (hl2.below hb0) (by omega))
  have HB0 := hide hb0
  have HR0 : Hid (RowV (((w.alloc (.cells #[.int .i64 op, .int .i64 n, .string s, .slice a len cap] 28)).alloc (.cells #[.int .i64 op2, .int .i64 n2, .string s2, .slice a2 len2 cap2] 28)).alloc (.cells #[.int .i64 0, .int .i64 0, .string ⟨#[]⟩, .slice none 0 0, .int .i64 0, .int .i64 0, .string ⟨#[]⟩, .slice none 0 0, .int .i64 0, .int .i64 0, .string ⟨#[]⟩, .slice none 0 0, .int .i64 0, .int .i64 0, .string ⟨#[]⟩, .slice none 0 0] 44)) (w.heap.size + 1 + 1) #[.int .i64 0, .int .i64 0, .string ⟨#[]⟩, .slice none 0 0, .int .i64 0, .int .i64 0, .string ⟨#[]⟩, .slice none 0 0, .int .i64 0, .int .i64 0, .string ⟨#[]⟩, .slice none 0 0, .int .i64 0, .int .i64 0, .string ⟨#[]⟩, .slice none 0 0]) := by have := RowV.new ((w.alloc (.cells #[.int .i64 op, .int .i64 n, .string s, .slice a len cap] 28)).alloc (.cells #[.int .i64 op2, .int .i64 n2, .string s2, .slice a2 len2 cap2] 28)) #[.int .i64 0, .int .i64 0, .string ⟨#[]⟩, .slice none 0 0, .int .i64 0, .int .i64 0, .string ⟨#[]⟩, .slice none 0 0, .int .i64 0, .int .i64 0, .string ⟨#[]⟩, .slice none 0 0, .int .i64 0, .int .i64 0, .string ⟨#[]⟩, .slice none 0 0] rfl; rwa [heap_size_alloc, heap_size_alloc] at this
  have HE0 : Hid (RowT 28 (((w.alloc (.cells #[.int .i64 op, .int .i64 n, .string s, .slice a len cap] 28)).alloc (.cells #[.int .i64 op2, .int .i64 n2, .string s2, .slice a2 len2 cap2] 28)).alloc (.cells #[.int .i64 0, .int .i64 0, .string ⟨#[]⟩, .slice none 0 0, .int .i64 0, .int .i64 0, .string ⟨#[]⟩, .slice none 0 0, .int .i64 0, .int .i64 0, .string ⟨#[]⟩, .slice none 0 0, .int .i64 0, .int .i64 0, .string ⟨#[]⟩, .slice none 0 0] 44)) w.heap.size op n s a len cap) := ((RowT.new 28 w op n s a len cap).below (ab _)).below (ab _)
  have HLE := hide (hl.below hb0)
  have HER := hide (he.on hb0)
  have HTB := hide (htab.on hb0)
  have HN := hide hn
  have HKZ : Hid (k0.size + pub.size + sealed.size ≤ t.size) := inO_size hn
  clear he hl hl2 hb0 hn htab
  go_enter Tryz.func18, Tryz.ntmps18
  go_wp2_with fail
  generalize hgw : (((w.alloc (.cells #[.int .i64 op, .int .i64 n, .string s, .slice a len cap] 28)).alloc (.cells #[.int .i64 op2, .int .i64 n2, .string s2, .slice a2 len2 cap2] 28)).alloc (.cells #[.int .i64 0, .int .i64 0, .string ⟨#[]⟩, .slice none 0 0, .int .i64 0, .int .i64 0, .string ⟨#[]⟩, .slice none 0 0, .int .i64 0, .int .i64 0, .string ⟨#[]⟩, .slice none 0 0, .int .i64 0, .int .i64 0, .string ⟨#[]⟩, .slice none 0 0] 44)) = W at *
  clear hgw
  refine (unhide hI).mono ?_
  rintro q w1 ⟨hb1, h1⟩
  rcases h1 with ⟨h2, -⟩ | ⟨L, v, h2, rfl, hT, hL⟩
  · rw [unhide HN] at h2
    cases h2
  rw [unhide HN] at h2
  obtain ⟨⟨_, c0⟩, ⟨_, c1⟩, ⟨_, c2⟩, rfl⟩ := three_of (L := L) (by have := congrArg List.length (Option.some.inj h2); simpa using this.symm)
  simp only [List.map_cons, List.map_nil, Option.some.injEq, List.cons.injEq, and_true] at h2
  obtain ⟨rfl, rfl, rfl⟩ := h2
  obtain ⟨op3, n3, s3, a3, len3, cap3⟩ := c0
  obtain ⟨op4, n4, s4, a4, len4, cap4⟩ := c1
  obtain ⟨op5, n5, s5, a5, len5, cap5⟩ := c2
  have HK0 := hide ((hL (k0, ⟨op3, n3, s3, a3, len3, cap3⟩) (by simp)).below hb1)
  have HPU := hide ((hL (pub, ⟨op4, n4, s4, a4, len4, cap4⟩) (by simp)).below hb1)
  have HSE := hide ((hL (sealed, ⟨op5, n5, s5, a5, len5, cap5⟩) (by simp)).below hb1)
  simp only [Tc.cells] at HK0 HPU HSE
  have HB1 := hide (bt (unhide HB0) hb1 (Nat.le_refl _))
  have HR1 := hide ((unhide HR0).below hb1)
  have HE1 := hide ((unhide HE0).below hb1)
  have HLE1 := hide ((unhide HLE).below hb1)
  have HER1 := hide ((unhide HER).on hb1)
  have HTB1 := hide ((unhide HTB).on hb1)
  have HT1 := hide hT
  obtain ⟨gv, cv, rfl, hgv, m0, m1, m2, m3, m4, m5, m6, m7, m8, m9, m10, m11⟩ := TRw.three hT
  simp only [List.map_cons, List.map_nil] at HT1
  clear hb1 hT hL hI HB0 HR0 HE0 HLE HER HTB
  have h47 := hide (wordI (⟨#[114, 101, 112, 108, 121]⟩ : ByteArray))
  have h53 := hide (fun V (hV : Below w1.heap.size w1 V) => same15 k0 (textT replyW) op3 n3 s3 a3 len3 cap3 2 0 (⟨#[114, 101, 112, 108, 121]⟩ : ByteArray) none 0 0 V ((unhide HK0).below hV) (text_lies replyW (by decide) V) (by have := unhide HKZ; omega))
  rw [hs] at h53
  go_wp2_with fail
  go_region_held3 (fun x => x.cell? ⟨gv, 0, none⟩ = some (.int .i64 op3) ∧ x.cell? ⟨gv, 1, none⟩ = some (.int .i64 n3) ∧ x.cell? ⟨gv, 2, none⟩ = some (.string s3) ∧ x.cell? ⟨gv, 3, none⟩ = some (.slice a3 len3 cap3)) (go_keep)
    (first
      | (go_at_call 33
         refine (unhide h47 _).mono ?_
         rintro e w2 ⟨rfl, hb2⟩
         have C2 := hide (below_drew' hb2)
         have f0 := kpc (unhide C2) m0
         have f1 := kpc (unhide C2) m1
         have f2 := kpc (unhide C2) m2
         have f3 := kpc (unhide C2) m3
         clear hb2)
      | (go_at_call 32
         refine (unhide h53 _ (unhide C2)).mono ?_
         rintro e w3 ⟨rfl, hb3⟩
         have C3 := hide (bt (unhide C2) hb3 (Nat.le_refl _))
         have i0 := kpc hb3 f0
         have i1 := kpc hb3 f1
         have i2 := kpc hb3 f2
         have i3 := kpc hb3 f3
         clear hb3))
  clear f0 f1 f2 f3 i0 i1 i2 i3 h47 h53
  have HB3 := hide (bt (unhide HB1) (unhide C3) (Nat.le_refl _))
  have HR3 := hide ((unhide HR1).below (unhide C3))
  have HE3 := hide ((unhide HE1).below (unhide C3))
  have HLE3 := hide ((unhide HLE1).below (unhide C3))
  have HER3 := hide ((unhide HER1).on (unhide C3))
  have HTB3 := hide ((unhide HTB1).on (unhide C3))
  have ex := (unhide HER3).cell
  have z0 : w3.cell? ⟨w.heap.size + 1 + 1, 0, none⟩ = some (.int .i64 0) := by simpa using (unhide HR3).cells 0 _ rfl
  have z1 : w3.cell? ⟨w.heap.size + 1 + 1, 1, none⟩ = some (.int .i64 0) := by simpa using (unhide HR3).cells 1 _ rfl
  have z2 : w3.cell? ⟨w.heap.size + 1 + 1, 2, none⟩ = some (.string ⟨#[]⟩) := by simpa using (unhide HR3).cells 2 _ rfl
  have z3 : w3.cell? ⟨w.heap.size + 1 + 1, 3, none⟩ = some (.slice none 0 0) := by simpa using (unhide HR3).cells 3 _ rfl
  have z4 : w3.cell? ⟨w.heap.size + 1 + 1, 4, none⟩ = some (.int .i64 0) := by simpa using (unhide HR3).cells 4 _ rfl
  have z5 : w3.cell? ⟨w.heap.size + 1 + 1, 5, none⟩ = some (.int .i64 0) := by simpa using (unhide HR3).cells 5 _ rfl
  have z6 : w3.cell? ⟨w.heap.size + 1 + 1, 6, none⟩ = some (.string ⟨#[]⟩) := by simpa using (unhide HR3).cells 6 _ rfl
  have z7 : w3.cell? ⟨w.heap.size + 1 + 1, 7, none⟩ = some (.slice none 0 0) := by simpa using (unhide HR3).cells 7 _ rfl
  have z8 : w3.cell? ⟨w.heap.size + 1 + 1, 8, none⟩ = some (.int .i64 0) := by simpa using (unhide HR3).cells 8 _ rfl
  have z9 : w3.cell? ⟨w.heap.size + 1 + 1, 9, none⟩ = some (.int .i64 0) := by simpa using (unhide HR3).cells 9 _ rfl
  have z10 : w3.cell? ⟨w.heap.size + 1 + 1, 10, none⟩ = some (.string ⟨#[]⟩) := by simpa using (unhide HR3).cells 10 _ rfl
  have z11 : w3.cell? ⟨w.heap.size + 1 + 1, 11, none⟩ = some (.slice none 0 0) := by simpa using (unhide HR3).cells 11 _ rfl
  have z12 : w3.cell? ⟨w.heap.size + 1 + 1, 12, none⟩ = some (.int .i64 0) := by simpa using (unhide HR3).cells 12 _ rfl
  have z13 : w3.cell? ⟨w.heap.size + 1 + 1, 13, none⟩ = some (.int .i64 0) := by simpa using (unhide HR3).cells 13 _ rfl
  have z14 : w3.cell? ⟨w.heap.size + 1 + 1, 14, none⟩ = some (.string ⟨#[]⟩) := by simpa using (unhide HR3).cells 14 _ rfl
  have z15 : w3.cell? ⟨w.heap.size + 1 + 1, 15, none⟩ = some (.slice none 0 0) := by simpa using (unhide HR3).cells 15 _ rfl
  have y0 : w3.frozen? ⟨w.heap.size + 1 + 1, 0, none⟩ = false := by simpa using ((unhide HR3).there 0 (by omega)).2
  have y1 : w3.frozen? ⟨w.heap.size + 1 + 1, 1, none⟩ = false := by simpa using ((unhide HR3).there 1 (by omega)).2
  have y2 : w3.frozen? ⟨w.heap.size + 1 + 1, 2, none⟩ = false := by simpa using ((unhide HR3).there 2 (by omega)).2
  have y3 : w3.frozen? ⟨w.heap.size + 1 + 1, 3, none⟩ = false := by simpa using ((unhide HR3).there 3 (by omega)).2
  have y4 : w3.frozen? ⟨w.heap.size + 1 + 1, 4, none⟩ = false := by simpa using ((unhide HR3).there 4 (by omega)).2
  have y5 : w3.frozen? ⟨w.heap.size + 1 + 1, 5, none⟩ = false := by simpa using ((unhide HR3).there 5 (by omega)).2
  have y6 : w3.frozen? ⟨w.heap.size + 1 + 1, 6, none⟩ = false := by simpa using ((unhide HR3).there 6 (by omega)).2
  have y7 : w3.frozen? ⟨w.heap.size + 1 + 1, 7, none⟩ = false := by simpa using ((unhide HR3).there 7 (by omega)).2
  have y8 : w3.frozen? ⟨w.heap.size + 1 + 1, 8, none⟩ = false := by simpa using ((unhide HR3).there 8 (by omega)).2
  have y9 : w3.frozen? ⟨w.heap.size + 1 + 1, 9, none⟩ = false := by simpa using ((unhide HR3).there 9 (by omega)).2
  have y10 : w3.frozen? ⟨w.heap.size + 1 + 1, 10, none⟩ = false := by simpa using ((unhide HR3).there 10 (by omega)).2
  have y11 : w3.frozen? ⟨w.heap.size + 1 + 1, 11, none⟩ = false := by simpa using ((unhide HR3).there 11 (by omega)).2
  have y12 : w3.frozen? ⟨w.heap.size + 1 + 1, 12, none⟩ = false := by simpa using ((unhide HR3).there 12 (by omega)).2
  have y13 : w3.frozen? ⟨w.heap.size + 1 + 1, 13, none⟩ = false := by simpa using ((unhide HR3).there 13 (by omega)).2
  have y14 : w3.frozen? ⟨w.heap.size + 1 + 1, 14, none⟩ = false := by simpa using ((unhide HR3).there 14 (by omega)).2
  have y15 : w3.frozen? ⟨w.heap.size + 1 + 1, 15, none⟩ = false := by simpa using ((unhide HR3).there 15 (by omega)).2
  go_wp2_with fail
  go_region
  all_goals
    go_wp2_with fail
    refine bodyPost_ret (v := .tuple #[.agg #[.int .i64 0, .int .i64 0, .string ⟨#[]⟩, .slice none 0 0, .int .i64 0, .int .i64 0, .string ⟨#[]⟩, .slice none 0 0, .int .i64 0, .int .i64 0, .string ⟨#[]⟩, .slice none 0 0, .int .i64 0, .int .i64 0, .string ⟨#[]⟩, .slice none 0 0], .iface 128 (.pointer (some x))]) (results_cell_tmp Tryz.results18 rfl (RowV.load (C := #[.int .i64 0, .int .i64 0, .string ⟨#[]⟩, .slice none 0 0, .int .i64 0, .int .i64 0, .string ⟨#[]⟩, .slice none 0 0, .int .i64 0, .int .i64 0, .string ⟨#[]⟩, .slice none 0 0, .int .i64 0, .int .i64 0, .string ⟨#[]⟩, .slice none 0 0]) ?_)) rfl ⟨rfl, ?_⟩
    · rw [set16]
      exact ((unhide HR3).store #[.int .i64 0, .int .i64 0, .string ⟨#[]⟩, .slice none 0 0, .int .i64 0, .int .i64 0, .string ⟨#[]⟩, .slice none 0 0, .int .i64 0, .int .i64 0, .string ⟨#[]⟩, .slice none 0 0, .int .i64 0, .int .i64 0, .string ⟨#[]⟩, .slice none 0 0] rfl).drew
    · rw [set16]
      exact (below_setCells (unhide HB3) (by omega) _ 0).drew

/-- The box of what came, and what came beside it. -/
def CutS (w2 : World) (op n : Int) (s : ByteArray) (a : Option Addr) (len cap : Nat) (ev : Value) (p q : Value) (wx : World) : Prop := ∃ b, p = .pointer (some ⟨b, 0, none⟩) ∧ q = ev ∧ w2.heap.size ≤ b ∧ RowT 28 wx b op n s a len cap ∧ Below w2.heap.size w2 wx
theorem CutS.late {w2 w5 : World} {op n : Int} {s : ByteArray} {a : Option Addr} {len cap : Nat} {ev : Value} (hb : Below w2.heap.size w2 w5) : CutS w2 op n s a len cap ev (.pointer (some ⟨w5.heap.size, 0, none⟩)) ev (w5.alloc (.cells #[.int .i64 op, .int .i64 n, .string s, .slice a len cap] 28)) :=
  ⟨_, rfl, rfl, hb.size, RowT.new 28 w5 op n s a len cap, bt hb (ab _) (Nat.le_refl _)⟩
theorem CutS.early {w2 w5 : World} {g : Nat} {op n : Int} {s : ByteArray} {a : Option Addr} {len cap : Nat} {ev : Value} (hb : Below w2.heap.size w2 w5) (hz : ZBox w5 g) (hg : w2.heap.size ≤ g) : CutS w2 op n s a len cap ev (.pointer (some ⟨g, 0, none⟩)) ev ((((w5.setCell ⟨g, 0, none⟩ (.int .i64 op)).setCell ⟨g, 1, none⟩ (.int .i64 n)).setCell ⟨g, 2, none⟩ (.string s)).setCell ⟨g, 3, none⟩ (.slice a len cap)) :=
  ⟨_, rfl, rfl, hg, fill26 hz op n s a len cap, set4_below hb hg⟩

set_option maxRecDepth 100000 in
set_option maxHeartbeats 4000000 in
theorem read_no3 (e t k0 pub sealed : Tm) (op n : Int) (s : ByteArray) (a : Option Addr) (len cap : Nat) (op2 n2 : Int) (s2 : ByteArray) (a2 : Option Addr) (len2 cap2 : Nat) (x : Addr) (w : World) (he : ErrAt x w) (htab : Tab w) (hl : Lies w 0 e (tmCells op n s a len cap)) (hl2 : Lies w 0 t (tmCells op2 n2 s2 a2 len2 cap2)) (hst : e.size + t.size ≤ 1100000) (hn : inO 2 t = some [k0, pub, sealed]) (hs : sameB k0 (textT replyW) = true) (hsh : shrB e pub = false) : Calls Tryz.prog 18 #[.agg #[.int .i64 op, .int .i64 n, .string s, .slice a len cap], .agg #[.int .i64 op2, .int .i64 n2, .string s2, .slice a2 len2 cap2]] w fun q w' => q = .returned (.tuple #[.agg #[.int .i64 0, .int .i64 0, .string ⟨#[]⟩, .slice none 0 0, .int .i64 0, .int .i64 0, .string ⟨#[]⟩, .slice none 0 0, .int .i64 0, .int .i64 0, .string ⟨#[]⟩, .slice none 0 0, .int .i64 0, .int .i64 0, .string ⟨#[]⟩, .slice none 0 0], .iface 128 (.pointer (some x))]) ∧ Below w.heap.size w w' := by
  have hb0 : Below w.heap.size w (((w.alloc (.cells #[.int .i64 op, .int .i64 n, .string s, .slice a len cap] 28)).alloc (.cells #[.int .i64 op2, .int .i64 n2, .string s2, .slice a2 len2 cap2] 28)).alloc (.cells #[.int .i64 0, .int .i64 0, .string ⟨#[]⟩, .slice none 0 0, .int .i64 0, .int .i64 0, .string ⟨#[]⟩, .slice none 0 0, .int .i64 0, .int .i64 0, .string ⟨#[]⟩, .slice none 0 0, .int .i64 0, .int .i64 0, .string ⟨#[]⟩, .slice none 0 0] 44)) := bt (bt (ab _) (ab _) (Nat.le_refl _)) (ab _) (Nat.le_refl _)
  have hI := hide (inRow 2 (by omega) t op2 n2 s2 a2 len2 cap2 x _ (he.on hb0) (hl2.below hb0) (by omega))
  have HB0 := hide hb0
  have HR0 : Hid (RowV (((w.alloc (.cells #[.int .i64 op, .int .i64 n, .string s, .slice a len cap] 28)).alloc (.cells #[.int .i64 op2, .int .i64 n2, .string s2, .slice a2 len2 cap2] 28)).alloc (.cells #[.int .i64 0, .int .i64 0, .string ⟨#[]⟩, .slice none 0 0, .int .i64 0, .int .i64 0, .string ⟨#[]⟩, .slice none 0 0, .int .i64 0, .int .i64 0, .string ⟨#[]⟩, .slice none 0 0, .int .i64 0, .int .i64 0, .string ⟨#[]⟩, .slice none 0 0] 44)) (w.heap.size + 1 + 1) #[.int .i64 0, .int .i64 0, .string ⟨#[]⟩, .slice none 0 0, .int .i64 0, .int .i64 0, .string ⟨#[]⟩, .slice none 0 0, .int .i64 0, .int .i64 0, .string ⟨#[]⟩, .slice none 0 0, .int .i64 0, .int .i64 0, .string ⟨#[]⟩, .slice none 0 0]) := by have := RowV.new ((w.alloc (.cells #[.int .i64 op, .int .i64 n, .string s, .slice a len cap] 28)).alloc (.cells #[.int .i64 op2, .int .i64 n2, .string s2, .slice a2 len2 cap2] 28)) #[.int .i64 0, .int .i64 0, .string ⟨#[]⟩, .slice none 0 0, .int .i64 0, .int .i64 0, .string ⟨#[]⟩, .slice none 0 0, .int .i64 0, .int .i64 0, .string ⟨#[]⟩, .slice none 0 0, .int .i64 0, .int .i64 0, .string ⟨#[]⟩, .slice none 0 0] rfl; rwa [heap_size_alloc, heap_size_alloc] at this
  have HE0 : Hid (RowT 28 (((w.alloc (.cells #[.int .i64 op, .int .i64 n, .string s, .slice a len cap] 28)).alloc (.cells #[.int .i64 op2, .int .i64 n2, .string s2, .slice a2 len2 cap2] 28)).alloc (.cells #[.int .i64 0, .int .i64 0, .string ⟨#[]⟩, .slice none 0 0, .int .i64 0, .int .i64 0, .string ⟨#[]⟩, .slice none 0 0, .int .i64 0, .int .i64 0, .string ⟨#[]⟩, .slice none 0 0, .int .i64 0, .int .i64 0, .string ⟨#[]⟩, .slice none 0 0] 44)) w.heap.size op n s a len cap) := ((RowT.new 28 w op n s a len cap).below (ab _)).below (ab _)
  have HLE := hide (hl.below hb0)
  have HER := hide (he.on hb0)
  have HTB := hide (htab.on hb0)
  have HN := hide hn
  have HKZ : Hid (k0.size + pub.size + sealed.size ≤ t.size) := inO_size hn
  clear he hl hl2 hb0 hn htab
  go_enter Tryz.func18, Tryz.ntmps18
  go_wp2_with fail
  generalize hgw : (((w.alloc (.cells #[.int .i64 op, .int .i64 n, .string s, .slice a len cap] 28)).alloc (.cells #[.int .i64 op2, .int .i64 n2, .string s2, .slice a2 len2 cap2] 28)).alloc (.cells #[.int .i64 0, .int .i64 0, .string ⟨#[]⟩, .slice none 0 0, .int .i64 0, .int .i64 0, .string ⟨#[]⟩, .slice none 0 0, .int .i64 0, .int .i64 0, .string ⟨#[]⟩, .slice none 0 0, .int .i64 0, .int .i64 0, .string ⟨#[]⟩, .slice none 0 0] 44)) = W at *
  clear hgw
  refine (unhide hI).mono ?_
  rintro q w1 ⟨hb1, h1⟩
  rcases h1 with ⟨h2, -⟩ | ⟨L, v, h2, rfl, hT, hL⟩
  · rw [unhide HN] at h2
    cases h2
  rw [unhide HN] at h2
  obtain ⟨⟨_, c0⟩, ⟨_, c1⟩, ⟨_, c2⟩, rfl⟩ := three_of (L := L) (by have := congrArg List.length (Option.some.inj h2); simpa using this.symm)
  simp only [List.map_cons, List.map_nil, Option.some.injEq, List.cons.injEq, and_true] at h2
  obtain ⟨rfl, rfl, rfl⟩ := h2
  obtain ⟨op3, n3, s3, a3, len3, cap3⟩ := c0
  obtain ⟨op4, n4, s4, a4, len4, cap4⟩ := c1
  obtain ⟨op5, n5, s5, a5, len5, cap5⟩ := c2
  have HK0 := hide ((hL (k0, ⟨op3, n3, s3, a3, len3, cap3⟩) (by simp)).below hb1)
  have HPU := hide ((hL (pub, ⟨op4, n4, s4, a4, len4, cap4⟩) (by simp)).below hb1)
  have HSE := hide ((hL (sealed, ⟨op5, n5, s5, a5, len5, cap5⟩) (by simp)).below hb1)
  simp only [Tc.cells] at HK0 HPU HSE
  have HB1 := hide (bt (unhide HB0) hb1 (Nat.le_refl _))
  have HR1 := hide ((unhide HR0).below hb1)
  have HE1 := hide ((unhide HE0).below hb1)
  have HLE1 := hide ((unhide HLE).below hb1)
  have HER1 := hide ((unhide HER).on hb1)
  have HTB1 := hide ((unhide HTB).on hb1)
  have HT1 := hide hT
  obtain ⟨gv, cv, rfl, hgv, m0, m1, m2, m3, m4, m5, m6, m7, m8, m9, m10, m11⟩ := TRw.three hT
  simp only [List.map_cons, List.map_nil] at HT1
  clear hb1 hT hL hI HB0 HR0 HE0 HLE HER HTB
  have h47 := hide (wordI (⟨#[114, 101, 112, 108, 121]⟩ : ByteArray))
  have h53 := hide (fun V (hV : Below w1.heap.size w1 V) => same15 k0 (textT replyW) op3 n3 s3 a3 len3 cap3 2 0 (⟨#[114, 101, 112, 108, 121]⟩ : ByteArray) none 0 0 V ((unhide HK0).below hV) (text_lies replyW (by decide) V) (by have := unhide HKZ; omega))
  rw [hs] at h53
  go_wp2_with fail
  go_region_held3 (fun x => x.cell? ⟨gv, 0, none⟩ = some (.int .i64 op3) ∧ x.cell? ⟨gv, 1, none⟩ = some (.int .i64 n3) ∧ x.cell? ⟨gv, 2, none⟩ = some (.string s3) ∧ x.cell? ⟨gv, 3, none⟩ = some (.slice a3 len3 cap3)) (go_keep)
    (first
      | (go_at_call 33
         refine (unhide h47 _).mono ?_
         rintro e w2 ⟨rfl, hb2⟩
         have C2 := hide (below_drew' hb2)
         have f0 := kpc (unhide C2) m0
         have f1 := kpc (unhide C2) m1
         have f2 := kpc (unhide C2) m2
         have f3 := kpc (unhide C2) m3
         clear hb2)
      | (go_at_call 32
         refine (unhide h53 _ (unhide C2)).mono ?_
         rintro e w3 ⟨rfl, hb3⟩
         have C3 := hide (bt (unhide C2) hb3 (Nat.le_refl _))
         have i0 := kpc hb3 f0
         have i1 := kpc hb3 f1
         have i2 := kpc hb3 f2
         have i3 := kpc hb3 f3
         clear hb3))
  clear f0 f1 f2 f3 i0 i1 i2 i3 h47 h53
  have HB3 := hide (bt (unhide HB1) (unhide C3) (Nat.le_refl _))
  have HR3 := hide ((unhide HR1).below (unhide C3))
  have HE3 := hide ((unhide HE1).below (unhide C3))
  have HLE3 := hide ((unhide HLE1).below (unhide C3))
  have HER3 := hide ((unhide HER1).on (unhide C3))
  have HTB3 := hide ((unhide HTB1).on (unhide C3))
  have h41 := hide (fun V (hV : Below w3.heap.size w3 V) => shareI_no e pub op n s a len cap op4 n4 s4 a4 len4 cap4 x V ((unhide HER3).on hV) ((unhide HLE3).below hV) (((unhide HPU).below (unhide C3)).below hV) (by have := unhide HKZ; omega) hsh)
  clear m0 m1 m2 m3 m8 m9 m10 m11 HK0
  have r4 := kpc (unhide C3) m4
  have r5 := kpc (unhide C3) m5
  have r6 := kpc (unhide C3) m6
  have r7 := kpc (unhide C3) m7
  obtain ⟨e0, e1, e2, e3⟩ := (unhide HE3).facts
  have lx := lt_of_cell e0
  have ly := lt_of_cell r4
  have lxn := Nat.ne_of_lt lx
  have lxm := Ne.symm lxn
  have lyn := Nat.ne_of_lt ly
  have lym := Ne.symm lyn
  clear m4 m5 m6 m7
  go_wp2_with fail
  go_cut [8, 7] (fun p q wx => CutS w3 0 0 ByteArray.empty none 0 0 (.iface 128 (.pointer (some x))) p q wx)
  case first =>
    go_region_held3 (fun x => x.cell? ⟨w.heap.size, 0, none⟩ = some (.int .i64 op) ∧ x.cell? ⟨w.heap.size, 1, none⟩ = some (.int .i64 n) ∧ x.cell? ⟨w.heap.size, 2, none⟩ = some (.string s) ∧ x.cell? ⟨w.heap.size, 3, none⟩ = some (.slice a len cap) ∧ x.cell? ⟨gv, 4, none⟩ = some (.int .i64 op4) ∧ x.cell? ⟨gv, 5, none⟩ = some (.int .i64 n4) ∧ x.cell? ⟨gv, 6, none⟩ = some (.string s4) ∧ x.cell? ⟨gv, 7, none⟩ = some (.slice a4 len4 cap4)) (go_keep)
      (first
        | (go_at_call 34
           refine (unhide h41 _ ?_).mono ?_
           first
             | exact (Below.refl _ _).drew
             | exact ((Below.refl _ _).drew).alloc (Nat.le_refl _) _
             | exact (ab _).drew
           rintro e9 w4 ⟨rfl, hb4⟩
           try have zz4 := hide (((ZBox.new w3).drew).below hb4)
           have C4 : Hid (Below w3.heap.size w3 w4) := by
             first
               | exact below_drew' hb4
               | exact bt (ab _) (below_drew' hb4) (Nat.le_refl _)
           have g0 := kpc (unhide C4) e0
           have g1 := kpc (unhide C4) e1
           have g2 := kpc (unhide C4) e2
           have g3 := kpc (unhide C4) e3
           have j4 := kpc (unhide C4) r4
           have j5 := kpc (unhide C4) r5
           have j6 := kpc (unhide C4) r6
           have j7 := kpc (unhide C4) r7
           try obtain ⟨p0, p1, p2, p3, q0, q1, q2, q3⟩ := (unhide zz4).facts
           have lz := lt_of_cell g0
           have lzn := Nat.ne_of_lt lz
           have lzm := Ne.symm lzn))
    all_goals
      go_wp2_with fail
      go_meet
      first
        | (with_reducible refine CutS.late ?_
           exact unhide C4)
        | (with_reducible refine CutS.early ?_ ?_ ?_
           exact unhide C4
           exact unhide zz4
           omega)
  case rest =>
    obtain ⟨bS, rfl, rfl, hge, hRS, hbc⟩ := hcut
    have HRS := hide hRS
    have C5 := hide (bt (unhide C3) hbc (Nat.le_refl _))
    have HCC := hide hbc
    clear hbc hRS e0 e1 e2 e3 r4 r5 r6 r7
    have HB5 := hide (bt (unhide HB1) (unhide C5) (Nat.le_refl _))
    have HR5 := hide ((unhide HR1).below (unhide C5))
    have HE5 := hide ((unhide HE1).below (unhide C5))
    have HLE5 := hide ((unhide HLE1).below (unhide C5))
    have HER5 := hide ((unhide HER1).on (unhide C5))
    have HTB5 := hide ((unhide HTB1).on (unhide C5))
    go_wp2_with (refine wpList_storeR rfl (.tmp 4) (.tmp 38) rfl #[.int .i64 0, .int .i64 0, .string ⟨#[]⟩, .slice none 0 0, .int .i64 0, .int .i64 0, .string ⟨#[]⟩, .slice none 0 0, .int .i64 0, .int .i64 0, .string ⟨#[]⟩, .slice none 0 0, .int .i64 0, .int .i64 0, .string ⟨#[]⟩, .slice none 0 0] (unhide HR5) rfl (by simp [Value.oneCell']) rfl rfl (unhide HB5) (by omega) ?_; intro WX hW hBW; have HW := hide hW; have HBW := hide hBW; clear hW hBW)
    have hLV := (unhide HW).load
    exact bodyPost_ret (v := .tuple #[.agg #[.int .i64 0, .int .i64 0, .string ⟨#[]⟩, .slice none 0 0, .int .i64 0, .int .i64 0, .string ⟨#[]⟩, .slice none 0 0, .int .i64 0, .int .i64 0, .string ⟨#[]⟩, .slice none 0 0, .int .i64 0, .int .i64 0, .string ⟨#[]⟩, .slice none 0 0], .iface 128 (.pointer (some x))]) (results_cell_tmp Tryz.results18 rfl hLV) rfl ⟨rfl, unhide HBW⟩

theorem ok_op {op n : Int} {s : ByteArray} {ks : List Tm} (h : okT (.node op n s ks) = true) : op ≠ 0 := by
  rintro rfl
  simp [okT, rightT, headB, kidsOf] at h
theorem zbox_int {w : World} {g o : Nat} {op : Int} (hz : ZBox w g) (h : w.cell? ⟨g, o, none⟩ = some (.int .i64 op)) : op = 0 := by
  unfold ZBox at hz
  simp only [World.cell?, hz] at h
  match o with
  | 0 => simpa using h.symm
  | 1 => simpa using h.symm
  | 2 => simp at h
  | 3 => simp at h
  | o + 4 => simp at h

mutual
theorem Lies.apartZ {w w' : World} {L g : Nat} (hz : ZBox w g) (hc : ∀ b o, b ≠ g → w'.cell? ⟨b, o, none⟩ = w.cell? ⟨b, o, none⟩) : ∀ (t : Tm) (cs : List Value), okT t = true → Lies w L t cs → Lies w' L t cs
  | .node op n s ks, cs, hok, h => by
    simp only [Lies] at h ⊢
    obtain ⟨a, cap, rfl, h1, h2, h4⟩ := h
    exact ⟨a, cap, rfl, h1, h2, LiesAll.apartZ hz hc a 0 ks (fun x hx => okT_kid hok hx) h4⟩
theorem LiesAll.apartZ {w w' : World} {L g : Nat} (hz : ZBox w g) (hc : ∀ b o, b ≠ g → w'.cell? ⟨b, o, none⟩ = w.cell? ⟨b, o, none⟩) (a : Option Addr) : ∀ (i : Nat) (ks : List Tm), (∀ x ∈ ks, okT x = true) → LiesAll w L a i ks → LiesAll w' L a i ks
  | i, [], _, _ => by simp [LiesAll]
  | i, t :: r, hok, h => by
    simp only [LiesAll] at h ⊢
    obtain ⟨⟨b, o, cs, ha, hb, hr, ht⟩, h2⟩ := h
    have hne : b ≠ g := by
      rintro rfl
      obtain ⟨op, n, s, ks⟩ := t
      have hh := ht
      simp only [Lies] at hh
      obtain ⟨a', cap, rfl, _⟩ := hh
      exact ok_op (hok (.node op n s ks) (by simp)) (zbox_int hz (hr 0 _ rfl))
    exact ⟨⟨b, o, cs, ha, hb, fun j v hj => by rw [hc b _ hne]; exact hr j v hj, Lies.apartZ hz hc t cs (hok t (by simp)) ht⟩, LiesAll.apartZ hz hc a (i + 1) r (fun x hx => hok x (by simp [hx])) h2⟩
end

/-- The box of a term that came, and what came beside it. -/
def CutY (T : Tm) (w2 : World) (ev : Value) (p q : Value) (wx : World) : Prop := ∃ b op n s a len cap, p = .pointer (some ⟨b, 0, none⟩) ∧ q = ev ∧ w2.heap.size ≤ b ∧ RowT 28 wx b op n s a len cap ∧ Lies wx 0 T (tmCells op n s a len cap) ∧ Below w2.heap.size w2 wx
theorem CutY.late {T : Tm} {w2 w5 : World} {op n : Int} {s : ByteArray} {a : Option Addr} {len cap : Nat} {ev : Value} (hb : Below w2.heap.size w2 w5) (hl : Lies w5 0 T (tmCells op n s a len cap)) : CutY T w2 ev (.pointer (some ⟨w5.heap.size, 0, none⟩)) ev (w5.alloc (.cells #[.int .i64 op, .int .i64 n, .string s, .slice a len cap] 28)) :=
  ⟨_, _, _, _, _, _, _, rfl, rfl, hb.size, RowT.new 28 w5 op n s a len cap, hl.below (ab _), bt hb (ab _) (Nat.le_refl _)⟩
theorem CutY.early {T : Tm} {w2 w5 : World} {g : Nat} {op n : Int} {s : ByteArray} {a : Option Addr} {len cap : Nat} {ev : Value} (hb : Below w2.heap.size w2 w5) (hz : ZBox w5 g) (hg : w2.heap.size ≤ g) (hok : okT T = true) (hl : Lies w5 0 T (tmCells op n s a len cap)) : CutY T w2 ev (.pointer (some ⟨g, 0, none⟩)) ev ((((w5.setCell ⟨g, 0, none⟩ (.int .i64 op)).setCell ⟨g, 1, none⟩ (.int .i64 n)).setCell ⟨g, 2, none⟩ (.string s)).setCell ⟨g, 3, none⟩ (.slice a len cap)) :=
  ⟨_, _, _, _, _, _, _, rfl, rfl, hg, fill26 hz op n s a len cap, Lies.apartZ hz (fun b _ hne => World.cell?_of_block (set4_heap _ _ _ _ _ _ b hne)) T _ hok hl, set4_below hb hg⟩
theorem shr_ok {e u : Tm} (h : shrB e u = true) : okT (shrT e u) = true := by
  obtain ⟨op, n, s, ks⟩ := u
  match ks with
  | [] => simp [shrB] at h
  | _ :: _ :: _ => simp [shrB] at h
  | [k] =>
    simp only [shrB, Bool.and_eq_true] at h
    simp only [shrT]
    first
      | exact h.2
      | simpa using h.2

set_option maxRecDepth 100000 in
set_option maxHeartbeats 1200000 in
theorem read_no4 (e t k0 pub sealed : Tm) (op n : Int) (s : ByteArray) (a : Option Addr) (len cap : Nat) (op2 n2 : Int) (s2 : ByteArray) (a2 : Option Addr) (len2 cap2 : Nat) (x : Addr) (w : World) (he : ErrAt x w) (htab : Tab w) (hl : Lies w 0 e (tmCells op n s a len cap)) (hl2 : Lies w 0 t (tmCells op2 n2 s2 a2 len2 cap2)) (hst : e.size + t.size ≤ 1100000) (hn : inO 2 t = some [k0, pub, sealed]) (hs : sameB k0 (textT replyW) = true) (hsh : shrB e pub = true) (hop : openO (keyT (shrT e pub) 0) 0 sealed = none) : Calls Tryz.prog 18 #[.agg #[.int .i64 op, .int .i64 n, .string s, .slice a len cap], .agg #[.int .i64 op2, .int .i64 n2, .string s2, .slice a2 len2 cap2]] w fun q w' => q = .returned (.tuple #[.agg #[.int .i64 0, .int .i64 0, .string ⟨#[]⟩, .slice none 0 0, .int .i64 0, .int .i64 0, .string ⟨#[]⟩, .slice none 0 0, .int .i64 0, .int .i64 0, .string ⟨#[]⟩, .slice none 0 0, .int .i64 0, .int .i64 0, .string ⟨#[]⟩, .slice none 0 0], .iface 128 (.pointer (some x))]) ∧ Below w.heap.size w w' := by
  have hb0 : Below w.heap.size w (((w.alloc (.cells #[.int .i64 op, .int .i64 n, .string s, .slice a len cap] 28)).alloc (.cells #[.int .i64 op2, .int .i64 n2, .string s2, .slice a2 len2 cap2] 28)).alloc (.cells #[.int .i64 0, .int .i64 0, .string ⟨#[]⟩, .slice none 0 0, .int .i64 0, .int .i64 0, .string ⟨#[]⟩, .slice none 0 0, .int .i64 0, .int .i64 0, .string ⟨#[]⟩, .slice none 0 0, .int .i64 0, .int .i64 0, .string ⟨#[]⟩, .slice none 0 0] 44)) := bt (bt (ab _) (ab _) (Nat.le_refl _)) (ab _) (Nat.le_refl _)
  have hI := hide (inRow 2 (by omega) t op2 n2 s2 a2 len2 cap2 x _ (he.on hb0) (hl2.below hb0) (by omega))
  have HB0 := hide hb0
  have HR0 : Hid (RowV (((w.alloc (.cells #[.int .i64 op, .int .i64 n, .string s, .slice a len cap] 28)).alloc (.cells #[.int .i64 op2, .int .i64 n2, .string s2, .slice a2 len2 cap2] 28)).alloc (.cells #[.int .i64 0, .int .i64 0, .string ⟨#[]⟩, .slice none 0 0, .int .i64 0, .int .i64 0, .string ⟨#[]⟩, .slice none 0 0, .int .i64 0, .int .i64 0, .string ⟨#[]⟩, .slice none 0 0, .int .i64 0, .int .i64 0, .string ⟨#[]⟩, .slice none 0 0] 44)) (w.heap.size + 1 + 1) #[.int .i64 0, .int .i64 0, .string ⟨#[]⟩, .slice none 0 0, .int .i64 0, .int .i64 0, .string ⟨#[]⟩, .slice none 0 0, .int .i64 0, .int .i64 0, .string ⟨#[]⟩, .slice none 0 0, .int .i64 0, .int .i64 0, .string ⟨#[]⟩, .slice none 0 0]) := by have := RowV.new ((w.alloc (.cells #[.int .i64 op, .int .i64 n, .string s, .slice a len cap] 28)).alloc (.cells #[.int .i64 op2, .int .i64 n2, .string s2, .slice a2 len2 cap2] 28)) #[.int .i64 0, .int .i64 0, .string ⟨#[]⟩, .slice none 0 0, .int .i64 0, .int .i64 0, .string ⟨#[]⟩, .slice none 0 0, .int .i64 0, .int .i64 0, .string ⟨#[]⟩, .slice none 0 0, .int .i64 0, .int .i64 0, .string ⟨#[]⟩, .slice none 0 0] rfl; rwa [heap_size_alloc, heap_size_alloc] at this
  have HE0 : Hid (RowT 28 (((w.alloc (.cells #[.int .i64 op, .int .i64 n, .string s, .slice a len cap] 28)).alloc (.cells #[.int .i64 op2, .int .i64 n2, .string s2, .slice a2 len2 cap2] 28)).alloc (.cells #[.int .i64 0, .int .i64 0, .string ⟨#[]⟩, .slice none 0 0, .int .i64 0, .int .i64 0, .string ⟨#[]⟩, .slice none 0 0, .int .i64 0, .int .i64 0, .string ⟨#[]⟩, .slice none 0 0, .int .i64 0, .int .i64 0, .string ⟨#[]⟩, .slice none 0 0] 44)) w.heap.size op n s a len cap) := ((RowT.new 28 w op n s a len cap).below (ab _)).below (ab _)
  have HLE := hide (hl.below hb0)
  have HER := hide (he.on hb0)
  have HTB := hide (htab.on hb0)
  have HN := hide hn
  have HKZ : Hid (k0.size + pub.size + sealed.size ≤ t.size) := inO_size hn
  clear he hl hl2 hb0 hn htab
  go_enter Tryz.func18, Tryz.ntmps18
  go_wp2_with fail
  generalize hgw : (((w.alloc (.cells #[.int .i64 op, .int .i64 n, .string s, .slice a len cap] 28)).alloc (.cells #[.int .i64 op2, .int .i64 n2, .string s2, .slice a2 len2 cap2] 28)).alloc (.cells #[.int .i64 0, .int .i64 0, .string ⟨#[]⟩, .slice none 0 0, .int .i64 0, .int .i64 0, .string ⟨#[]⟩, .slice none 0 0, .int .i64 0, .int .i64 0, .string ⟨#[]⟩, .slice none 0 0, .int .i64 0, .int .i64 0, .string ⟨#[]⟩, .slice none 0 0] 44)) = W at *
  clear hgw
  refine (unhide hI).mono ?_
  rintro q w1 ⟨hb1, h1⟩
  rcases h1 with ⟨h2, -⟩ | ⟨L, v, h2, rfl, hT, hL⟩
  · rw [unhide HN] at h2
    cases h2
  rw [unhide HN] at h2
  obtain ⟨⟨_, c0⟩, ⟨_, c1⟩, ⟨_, c2⟩, rfl⟩ := three_of (L := L) (by have := congrArg List.length (Option.some.inj h2); simpa using this.symm)
  simp only [List.map_cons, List.map_nil, Option.some.injEq, List.cons.injEq, and_true] at h2
  obtain ⟨rfl, rfl, rfl⟩ := h2
  obtain ⟨op3, n3, s3, a3, len3, cap3⟩ := c0
  obtain ⟨op4, n4, s4, a4, len4, cap4⟩ := c1
  obtain ⟨op5, n5, s5, a5, len5, cap5⟩ := c2
  have HK0 := hide ((hL (k0, ⟨op3, n3, s3, a3, len3, cap3⟩) (by simp)).below hb1)
  have HPU := hide ((hL (pub, ⟨op4, n4, s4, a4, len4, cap4⟩) (by simp)).below hb1)
  have HSE := hide ((hL (sealed, ⟨op5, n5, s5, a5, len5, cap5⟩) (by simp)).below hb1)
  simp only [Tc.cells] at HK0 HPU HSE
  have HB1 := hide (bt (unhide HB0) hb1 (Nat.le_refl _))
  have HR1 := hide ((unhide HR0).below hb1)
  have HE1 := hide ((unhide HE0).below hb1)
  have HLE1 := hide ((unhide HLE).below hb1)
  have HER1 := hide ((unhide HER).on hb1)
  have HTB1 := hide ((unhide HTB).on hb1)
  have HT1 := hide hT
  obtain ⟨gv, cv, rfl, hgv, m0, m1, m2, m3, m4, m5, m6, m7, m8, m9, m10, m11⟩ := TRw.three hT
  simp only [List.map_cons, List.map_nil] at HT1
  clear hb1 hT hL hI HB0 HR0 HE0 HLE HER HTB
  have h47 := hide (wordI (⟨#[114, 101, 112, 108, 121]⟩ : ByteArray))
  have h53 := hide (fun V (hV : Below w1.heap.size w1 V) => same15 k0 (textT replyW) op3 n3 s3 a3 len3 cap3 2 0 (⟨#[114, 101, 112, 108, 121]⟩ : ByteArray) none 0 0 V ((unhide HK0).below hV) (text_lies replyW (by decide) V) (by have := unhide HKZ; omega))
  rw [hs] at h53
  go_wp2_with fail
  go_region_held3 (fun x => x.cell? ⟨gv, 0, none⟩ = some (.int .i64 op3) ∧ x.cell? ⟨gv, 1, none⟩ = some (.int .i64 n3) ∧ x.cell? ⟨gv, 2, none⟩ = some (.string s3) ∧ x.cell? ⟨gv, 3, none⟩ = some (.slice a3 len3 cap3)) (go_keep)
    (first
      | (go_at_call 33
         refine (unhide h47 _).mono ?_
         rintro e w2 ⟨rfl, hb2⟩
         have C2 := hide (below_drew' hb2)
         have f0 := kpc (unhide C2) m0
         have f1 := kpc (unhide C2) m1
         have f2 := kpc (unhide C2) m2
         have f3 := kpc (unhide C2) m3
         clear hb2)
      | (go_at_call 32
         refine (unhide h53 _ (unhide C2)).mono ?_
         rintro e w3 ⟨rfl, hb3⟩
         have C3 := hide (bt (unhide C2) hb3 (Nat.le_refl _))
         have i0 := kpc hb3 f0
         have i1 := kpc hb3 f1
         have i2 := kpc hb3 f2
         have i3 := kpc hb3 f3
         clear hb3))
  clear f0 f1 f2 f3 i0 i1 i2 i3 h47 h53
  have HB3 := hide (bt (unhide HB1) (unhide C3) (Nat.le_refl _))
  have HR3 := hide ((unhide HR1).below (unhide C3))
  have HE3 := hide ((unhide HE1).below (unhide C3))
  have HLE3 := hide ((unhide HLE1).below (unhide C3))
  have HER3 := hide ((unhide HER1).on (unhide C3))
  have HTB3 := hide ((unhide HTB1).on (unhide C3))
  have h41 := hide (fun V (hV : Below w3.heap.size w3 V) => shareI_yes e pub op n s a len cap op4 n4 s4 a4 len4 cap4 x V ((unhide HER3).on hV) ((unhide HLE3).below hV) (((unhide HPU).below (unhide C3)).below hV) (by have := unhide HKZ; omega) hsh)
  have HOKS := hide (shr_ok hsh)
  clear m0 m1 m2 m3 HK0
  have r4 := kpc (unhide C3) m4
  have r5 := kpc (unhide C3) m5
  have r6 := kpc (unhide C3) m6
  have r7 := kpc (unhide C3) m7
  obtain ⟨e0, e1, e2, e3⟩ := (unhide HE3).facts
  have lx := lt_of_cell e0
  have ly := lt_of_cell r4
  have lxn := Nat.ne_of_lt lx
  have lxm := Ne.symm lxn
  have lyn := Nat.ne_of_lt ly
  have lym := Ne.symm lyn
  have M4 := hide m4
  have M5 := hide m5
  have M6 := hide m6
  have M7 := hide m7
  have M8 := hide m8
  have M9 := hide m9
  have M10 := hide m10
  have M11 := hide m11
  clear m4 m5 m6 m7 m8 m9 m10 m11
  go_wp2_with fail
  go_cut [8, 7] (fun p q wx => CutY (shrT e pub) w3 .nilIface p q wx)
  case first =>
    go_region_held3 (fun x => x.cell? ⟨w.heap.size, 0, none⟩ = some (.int .i64 op) ∧ x.cell? ⟨w.heap.size, 1, none⟩ = some (.int .i64 n) ∧ x.cell? ⟨w.heap.size, 2, none⟩ = some (.string s) ∧ x.cell? ⟨w.heap.size, 3, none⟩ = some (.slice a len cap) ∧ x.cell? ⟨gv, 4, none⟩ = some (.int .i64 op4) ∧ x.cell? ⟨gv, 5, none⟩ = some (.int .i64 n4) ∧ x.cell? ⟨gv, 6, none⟩ = some (.string s4) ∧ x.cell? ⟨gv, 7, none⟩ = some (.slice a4 len4 cap4)) (go_keep)
      (first
        | (go_at_call 34
           refine (unhide h41 _ ?_).mono ?_
           first
             | exact (Below.refl _ _).drew
             | exact (ab _).drew
           rintro e9 w4 ⟨aS, rfl, hlS, hb4⟩
           try have zz4 := hide (((ZBox.new w3).drew).below hb4)
           have HLS := hide hlS
           have C4 : Hid (Below w3.heap.size w3 w4) := by
             first
               | exact below_drew' hb4
               | exact bt (ab _) (below_drew' hb4) (Nat.le_refl _)
           have g0 := kpc (unhide C4) e0
           have g1 := kpc (unhide C4) e1
           have g2 := kpc (unhide C4) e2
           have g3 := kpc (unhide C4) e3
           have j4 := kpc (unhide C4) r4
           have j5 := kpc (unhide C4) r5
           have j6 := kpc (unhide C4) r6
           have j7 := kpc (unhide C4) r7
           try obtain ⟨p0, p1, p2, p3, q0, q1, q2, q3⟩ := (unhide zz4).facts
           clear hlS
           have lz := lt_of_cell g0
           have lzn := Nat.ne_of_lt lz
           have lzm := Ne.symm lzn))
    all_goals
      go_wp2_with fail
      go_meet
      first
        | (with_reducible refine CutY.late ?_ ?_
           exact unhide C4
           exact unhide HLS)
        | (with_reducible refine CutY.early ?_ ?_ ?_ ?_ ?_
           exact unhide C4
           exact unhide zz4
           omega
           exact unhide HOKS
           exact unhide HLS)
  case rest =>
    obtain ⟨bS, op6, n6, s6, a6, len6, cap6, rfl, rfl, hge, hRS, hlS, hbc⟩ := hcut
    have HRS := hide hRS
    have HLS := hide hlS
    have C5 := hide (bt (unhide C3) hbc (Nat.le_refl _))
    clear hbc hRS hlS e0 e1 e2 e3 r4 r5 r6 r7 h41
    have HB5 := hide (bt (unhide HB1) (unhide C5) (Nat.le_refl _))
    have HR5 := hide ((unhide HR1).below (unhide C5))
    have HE5 := hide ((unhide HE1).below (unhide C5))
    have HLE5 := hide ((unhide HLE1).below (unhide C5))
    have HER5 := hide ((unhide HER1).on (unhide C5))
    have HTB5 := hide ((unhide HTB1).on (unhide C5))
    have HSE5 := hide ((unhide HSE).below (unhide C5))
    have HPU5 := hide ((unhide HPU).below (unhide C5))
    have b0 := kpc (unhide C5) (unhide M8)
    have b1 := kpc (unhide C5) (unhide M9)
    have b2 := kpc (unhide C5) (unhide M10)
    have b3 := kpc (unhide C5) (unhide M11)
    obtain ⟨e0, e1, e2, e3⟩ := (unhide HRS).facts
    have h49 := hide (fun V (hV : Below wc.heap.size wc V) => keyI (shrT e pub) 0 op6 n6 s6 a6 len6 cap6 V ((unhide HLS).below hV) (by have := okT_small (unhide HOKS); omega) (by decide) (by decide) ((unhide HTB5).on hV) ⟨x, (unhide HER5).on hV⟩)
    have h54 := hide (fun op7 n7 s7 a7 len7 cap7 V (hV : Below wc.heap.size wc V) hk => body_none (keyT (shrT e pub) 0) sealed 0 op7 n7 s7 a7 len7 cap7 op5 n5 s5 a5 len5 cap5 x V ((unhide HER5).on hV) ((unhide HTB5).on hV) hk ((unhide HSE5).below hV) (by have := unhide HKZ; omega) (by decide) (by decide) hop)
    have lx5 := lt_of_cell e0
    have ly5 := lt_of_cell b0
    have lxn5 := Nat.ne_of_lt lx5
    have lxm5 := Ne.symm lxn5
    have lyn5 := Nat.ne_of_lt ly5
    have lym5 := Ne.symm lyn5
    clear lx ly lxn lxm lyn lym
    go_wp2_with fail
    go_cut [9, 7] (fun p q wx => CutS wc 0 0 ByteArray.empty none 0 0 (.iface 128 (.pointer (some x))) p q wx)
    case first =>
      go_region_held3 (fun x => x.cell? ⟨bS, 0, none⟩ = some (.int .i64 op6) ∧ x.cell? ⟨bS, 1, none⟩ = some (.int .i64 n6) ∧ x.cell? ⟨bS, 2, none⟩ = some (.string s6) ∧ x.cell? ⟨bS, 3, none⟩ = some (.slice a6 len6 cap6) ∧ x.cell? ⟨gv, 8, none⟩ = some (.int .i64 op5) ∧ x.cell? ⟨gv, 9, none⟩ = some (.int .i64 n5) ∧ x.cell? ⟨gv, 10, none⟩ = some (.string s5) ∧ x.cell? ⟨gv, 11, none⟩ = some (.slice a5 len5 cap5)) (go_keep)
        (first
          | (go_at_call 36
             refine (unhide h49 _ ?_).mono ?_
             first
               | exact (Below.refl _ _).drew
               | exact (ab _).drew
             rintro e9 w6 ⟨op7, n7, s7, a7, len7, cap7, fp7, rfl, hO7, -, hb6⟩
             try have zz6 := hide (((ZBox.new wc).drew).below hb6)
             have HLK := hide hO7.lies0
             have C6 : Hid (Below wc.heap.size wc w6) := by
               first
                 | exact below_drew' hb6
                 | exact bt (ab _) (below_drew' hb6) (Nat.le_refl _)
             have g0 := kpc (unhide C6) e0
             have g1 := kpc (unhide C6) e1
             have g2 := kpc (unhide C6) e2
             have g3 := kpc (unhide C6) e3
             have j0 := kpc (unhide C6) b0
             have j1 := kpc (unhide C6) b1
             have j2 := kpc (unhide C6) b2
             have j3 := kpc (unhide C6) b3
             clear hO7
             have lz := lt_of_cell g0
             have lzn := Nat.ne_of_lt lz
             have lzm := Ne.symm lzn
             have ls := lt_of_cell j0
             have lsn := Nat.ne_of_lt ls
             have lsm := Ne.symm lsn)
          | (go_at_call 35
             refine (unhide h54 _ _ _ _ _ _ _ ?_ ?_).mono ?_
             first
               | exact unhide C6
               | exact bt (unhide C6) (ab _) (Nat.le_refl _)
             first
               | exact unhide HLK
               | exact (unhide HLK).below (ab _)
             rintro e9 w7 ⟨rfl, hb7⟩
             try have zz7 := hide ((unhide zz6).below hb7)
             try have zz7 := hide ((ZBox.new w6).below hb7)
             have C7 : Hid (Below w6.heap.size w6 w7) := by
               first
                 | exact hb7
                 | exact bt (ab _) hb7 (Nat.le_refl _)
             have h0 := kpc (unhide C7) g0
             have h1 := kpc (unhide C7) g1
             have h2 := kpc (unhide C7) g2
             have h3 := kpc (unhide C7) g3
             have i0 := kpc (unhide C7) j0
             have i1 := kpc (unhide C7) j1
             have i2 := kpc (unhide C7) j2
             have i3 := kpc (unhide C7) j3
             try obtain ⟨p0, p1, p2, p3, q0, q1, q2, q3⟩ := (unhide zz7).facts
             have lt7 := lt_of_cell h0
             have ltn := Nat.ne_of_lt lt7
             have ltm := Ne.symm ltn))
      all_goals
        go_wp2_with fail
        go_meet
        have s56 := (unhide C6).size
        first
          | (with_reducible refine CutS.late ?_
             exact bt (unhide C6) (unhide C7) (Nat.le_refl _))
          | (with_reducible refine CutS.early ?_ ?_ ?_
             exact bt (unhide C6) (unhide C7) (Nat.le_refl _)
             exact unhide zz7
             omega)
    case rest =>
      obtain ⟨bB, rfl, rfl, hge2, hRB, hbc⟩ := hcut
      have HB8 := hide (bt (unhide HB5) hbc (Nat.le_refl _))
      have HR8 := hide ((unhide HR5).below hbc)
      clear hbc hRB e0 e1 e2 e3 b0 b1 b2 b3
      go_wp2_with (refine wpList_storeR rfl (.tmp 4) (.tmp 51) rfl #[.int .i64 0, .int .i64 0, .string ⟨#[]⟩, .slice none 0 0, .int .i64 0, .int .i64 0, .string ⟨#[]⟩, .slice none 0 0, .int .i64 0, .int .i64 0, .string ⟨#[]⟩, .slice none 0 0, .int .i64 0, .int .i64 0, .string ⟨#[]⟩, .slice none 0 0] (unhide HR8) rfl (by simp [Value.oneCell']) rfl rfl (unhide HB8) (by omega) ?_; intro WX hW hBW; have HW := hide hW; have HBW := hide hBW; clear hW hBW)
      have hLV := (unhide HW).load
      exact bodyPost_ret (v := .tuple #[.agg #[.int .i64 0, .int .i64 0, .string ⟨#[]⟩, .slice none 0 0, .int .i64 0, .int .i64 0, .string ⟨#[]⟩, .slice none 0 0, .int .i64 0, .int .i64 0, .string ⟨#[]⟩, .slice none 0 0, .int .i64 0, .int .i64 0, .string ⟨#[]⟩, .slice none 0 0], .iface 128 (.pointer (some x))]) (results_cell_tmp Tryz.results18 rfl hLV) rfl ⟨rfl, unhide HBW⟩

theorem openO_ok {k t v : Tm} {m : Int} (h : openO k m t = some v) : okT v = true := by
  obtain ⟨y, _, h2⟩ := Option.bind_eq_some_iff.1 h
  obtain ⟨n, s, k0, rfl, hok, _⟩ := behO_some h2
  exact okT_kid hok (by simp)

set_option maxRecDepth 100000 in
set_option maxHeartbeats 1200000 in
theorem read_no5 (e t k0 pub sealed body : Tm) (op n : Int) (s : ByteArray) (a : Option Addr) (len cap : Nat) (op2 n2 : Int) (s2 : ByteArray) (a2 : Option Addr) (len2 cap2 : Nat) (x : Addr) (w : World) (he : ErrAt x w) (htab : Tab w) (hl : Lies w 0 e (tmCells op n s a len cap)) (hl2 : Lies w 0 t (tmCells op2 n2 s2 a2 len2 cap2)) (hst : e.size + t.size ≤ 1100000) (hn : inO 2 t = some [k0, pub, sealed]) (hs : sameB k0 (textT replyW) = true) (hsh : shrB e pub = true) (hop : openO (keyT (shrT e pub) 0) 0 sealed = some body) (hin : inO 1 body = none) : Calls Tryz.prog 18 #[.agg #[.int .i64 op, .int .i64 n, .string s, .slice a len cap], .agg #[.int .i64 op2, .int .i64 n2, .string s2, .slice a2 len2 cap2]] w fun q w' => q = .returned (.tuple #[.agg #[.int .i64 0, .int .i64 0, .string ⟨#[]⟩, .slice none 0 0, .int .i64 0, .int .i64 0, .string ⟨#[]⟩, .slice none 0 0, .int .i64 0, .int .i64 0, .string ⟨#[]⟩, .slice none 0 0, .int .i64 0, .int .i64 0, .string ⟨#[]⟩, .slice none 0 0], .iface 128 (.pointer (some x))]) ∧ Below w.heap.size w w' := by
  have hb0 : Below w.heap.size w (((w.alloc (.cells #[.int .i64 op, .int .i64 n, .string s, .slice a len cap] 28)).alloc (.cells #[.int .i64 op2, .int .i64 n2, .string s2, .slice a2 len2 cap2] 28)).alloc (.cells #[.int .i64 0, .int .i64 0, .string ⟨#[]⟩, .slice none 0 0, .int .i64 0, .int .i64 0, .string ⟨#[]⟩, .slice none 0 0, .int .i64 0, .int .i64 0, .string ⟨#[]⟩, .slice none 0 0, .int .i64 0, .int .i64 0, .string ⟨#[]⟩, .slice none 0 0] 44)) := bt (bt (ab _) (ab _) (Nat.le_refl _)) (ab _) (Nat.le_refl _)
  have hI := hide (inRow 2 (by omega) t op2 n2 s2 a2 len2 cap2 x _ (he.on hb0) (hl2.below hb0) (by omega))
  have HB0 := hide hb0
  have HR0 : Hid (RowV (((w.alloc (.cells #[.int .i64 op, .int .i64 n, .string s, .slice a len cap] 28)).alloc (.cells #[.int .i64 op2, .int .i64 n2, .string s2, .slice a2 len2 cap2] 28)).alloc (.cells #[.int .i64 0, .int .i64 0, .string ⟨#[]⟩, .slice none 0 0, .int .i64 0, .int .i64 0, .string ⟨#[]⟩, .slice none 0 0, .int .i64 0, .int .i64 0, .string ⟨#[]⟩, .slice none 0 0, .int .i64 0, .int .i64 0, .string ⟨#[]⟩, .slice none 0 0] 44)) (w.heap.size + 1 + 1) #[.int .i64 0, .int .i64 0, .string ⟨#[]⟩, .slice none 0 0, .int .i64 0, .int .i64 0, .string ⟨#[]⟩, .slice none 0 0, .int .i64 0, .int .i64 0, .string ⟨#[]⟩, .slice none 0 0, .int .i64 0, .int .i64 0, .string ⟨#[]⟩, .slice none 0 0]) := by have := RowV.new ((w.alloc (.cells #[.int .i64 op, .int .i64 n, .string s, .slice a len cap] 28)).alloc (.cells #[.int .i64 op2, .int .i64 n2, .string s2, .slice a2 len2 cap2] 28)) #[.int .i64 0, .int .i64 0, .string ⟨#[]⟩, .slice none 0 0, .int .i64 0, .int .i64 0, .string ⟨#[]⟩, .slice none 0 0, .int .i64 0, .int .i64 0, .string ⟨#[]⟩, .slice none 0 0, .int .i64 0, .int .i64 0, .string ⟨#[]⟩, .slice none 0 0] rfl; rwa [heap_size_alloc, heap_size_alloc] at this
  have HE0 : Hid (RowT 28 (((w.alloc (.cells #[.int .i64 op, .int .i64 n, .string s, .slice a len cap] 28)).alloc (.cells #[.int .i64 op2, .int .i64 n2, .string s2, .slice a2 len2 cap2] 28)).alloc (.cells #[.int .i64 0, .int .i64 0, .string ⟨#[]⟩, .slice none 0 0, .int .i64 0, .int .i64 0, .string ⟨#[]⟩, .slice none 0 0, .int .i64 0, .int .i64 0, .string ⟨#[]⟩, .slice none 0 0, .int .i64 0, .int .i64 0, .string ⟨#[]⟩, .slice none 0 0] 44)) w.heap.size op n s a len cap) := ((RowT.new 28 w op n s a len cap).below (ab _)).below (ab _)
  have HLE := hide (hl.below hb0)
  have HER := hide (he.on hb0)
  have HTB := hide (htab.on hb0)
  have HN := hide hn
  have HKZ : Hid (k0.size + pub.size + sealed.size ≤ t.size) := inO_size hn
  clear he hl hl2 hb0 hn htab
  go_enter Tryz.func18, Tryz.ntmps18
  go_wp2_with fail
  generalize hgw : (((w.alloc (.cells #[.int .i64 op, .int .i64 n, .string s, .slice a len cap] 28)).alloc (.cells #[.int .i64 op2, .int .i64 n2, .string s2, .slice a2 len2 cap2] 28)).alloc (.cells #[.int .i64 0, .int .i64 0, .string ⟨#[]⟩, .slice none 0 0, .int .i64 0, .int .i64 0, .string ⟨#[]⟩, .slice none 0 0, .int .i64 0, .int .i64 0, .string ⟨#[]⟩, .slice none 0 0, .int .i64 0, .int .i64 0, .string ⟨#[]⟩, .slice none 0 0] 44)) = W at *
  clear hgw
  refine (unhide hI).mono ?_
  rintro q w1 ⟨hb1, h1⟩
  rcases h1 with ⟨h2, -⟩ | ⟨L, v, h2, rfl, hT, hL⟩
  · rw [unhide HN] at h2
    cases h2
  rw [unhide HN] at h2
  obtain ⟨⟨_, c0⟩, ⟨_, c1⟩, ⟨_, c2⟩, rfl⟩ := three_of (L := L) (by have := congrArg List.length (Option.some.inj h2); simpa using this.symm)
  simp only [List.map_cons, List.map_nil, Option.some.injEq, List.cons.injEq, and_true] at h2
  obtain ⟨rfl, rfl, rfl⟩ := h2
  obtain ⟨op3, n3, s3, a3, len3, cap3⟩ := c0
  obtain ⟨op4, n4, s4, a4, len4, cap4⟩ := c1
  obtain ⟨op5, n5, s5, a5, len5, cap5⟩ := c2
  have HK0 := hide ((hL (k0, ⟨op3, n3, s3, a3, len3, cap3⟩) (by simp)).below hb1)
  have HPU := hide ((hL (pub, ⟨op4, n4, s4, a4, len4, cap4⟩) (by simp)).below hb1)
  have HSE := hide ((hL (sealed, ⟨op5, n5, s5, a5, len5, cap5⟩) (by simp)).below hb1)
  simp only [Tc.cells] at HK0 HPU HSE
  have HB1 := hide (bt (unhide HB0) hb1 (Nat.le_refl _))
  have HR1 := hide ((unhide HR0).below hb1)
  have HE1 := hide ((unhide HE0).below hb1)
  have HLE1 := hide ((unhide HLE).below hb1)
  have HER1 := hide ((unhide HER).on hb1)
  have HTB1 := hide ((unhide HTB).on hb1)
  have HT1 := hide hT
  obtain ⟨gv, cv, rfl, hgv, m0, m1, m2, m3, m4, m5, m6, m7, m8, m9, m10, m11⟩ := TRw.three hT
  simp only [List.map_cons, List.map_nil] at HT1
  clear hb1 hT hL hI HB0 HR0 HE0 HLE HER HTB
  have h47 := hide (wordI (⟨#[114, 101, 112, 108, 121]⟩ : ByteArray))
  have h53 := hide (fun V (hV : Below w1.heap.size w1 V) => same15 k0 (textT replyW) op3 n3 s3 a3 len3 cap3 2 0 (⟨#[114, 101, 112, 108, 121]⟩ : ByteArray) none 0 0 V ((unhide HK0).below hV) (text_lies replyW (by decide) V) (by have := unhide HKZ; omega))
  rw [hs] at h53
  go_wp2_with fail
  go_region_held3 (fun x => x.cell? ⟨gv, 0, none⟩ = some (.int .i64 op3) ∧ x.cell? ⟨gv, 1, none⟩ = some (.int .i64 n3) ∧ x.cell? ⟨gv, 2, none⟩ = some (.string s3) ∧ x.cell? ⟨gv, 3, none⟩ = some (.slice a3 len3 cap3)) (go_keep)
    (first
      | (go_at_call 33
         refine (unhide h47 _).mono ?_
         rintro e w2 ⟨rfl, hb2⟩
         have C2 := hide (below_drew' hb2)
         have f0 := kpc (unhide C2) m0
         have f1 := kpc (unhide C2) m1
         have f2 := kpc (unhide C2) m2
         have f3 := kpc (unhide C2) m3
         clear hb2)
      | (go_at_call 32
         refine (unhide h53 _ (unhide C2)).mono ?_
         rintro e w3 ⟨rfl, hb3⟩
         have C3 := hide (bt (unhide C2) hb3 (Nat.le_refl _))
         have i0 := kpc hb3 f0
         have i1 := kpc hb3 f1
         have i2 := kpc hb3 f2
         have i3 := kpc hb3 f3
         clear hb3))
  clear f0 f1 f2 f3 i0 i1 i2 i3 h47 h53
  have HB3 := hide (bt (unhide HB1) (unhide C3) (Nat.le_refl _))
  have HR3 := hide ((unhide HR1).below (unhide C3))
  have HE3 := hide ((unhide HE1).below (unhide C3))
  have HLE3 := hide ((unhide HLE1).below (unhide C3))
  have HER3 := hide ((unhide HER1).on (unhide C3))
  have HTB3 := hide ((unhide HTB1).on (unhide C3))
  have h41 := hide (fun V (hV : Below w3.heap.size w3 V) => shareI_yes e pub op n s a len cap op4 n4 s4 a4 len4 cap4 x V ((unhide HER3).on hV) ((unhide HLE3).below hV) (((unhide HPU).below (unhide C3)).below hV) (by have := unhide HKZ; omega) hsh)
  have HOKS := hide (shr_ok hsh)
  clear m0 m1 m2 m3 HK0
  have r4 := kpc (unhide C3) m4
  have r5 := kpc (unhide C3) m5
  have r6 := kpc (unhide C3) m6
  have r7 := kpc (unhide C3) m7
  obtain ⟨e0, e1, e2, e3⟩ := (unhide HE3).facts
  have lx := lt_of_cell e0
  have ly := lt_of_cell r4
  have lxn := Nat.ne_of_lt lx
  have lxm := Ne.symm lxn
  have lyn := Nat.ne_of_lt ly
  have lym := Ne.symm lyn
  have M4 := hide m4
  have M5 := hide m5
  have M6 := hide m6
  have M7 := hide m7
  have M8 := hide m8
  have M9 := hide m9
  have M10 := hide m10
  have M11 := hide m11
  clear m4 m5 m6 m7 m8 m9 m10 m11
  go_wp2_with fail
  go_cut [8, 7] (fun p q wx => CutY (shrT e pub) w3 .nilIface p q wx)
  case first =>
    go_region_held3 (fun x => x.cell? ⟨w.heap.size, 0, none⟩ = some (.int .i64 op) ∧ x.cell? ⟨w.heap.size, 1, none⟩ = some (.int .i64 n) ∧ x.cell? ⟨w.heap.size, 2, none⟩ = some (.string s) ∧ x.cell? ⟨w.heap.size, 3, none⟩ = some (.slice a len cap) ∧ x.cell? ⟨gv, 4, none⟩ = some (.int .i64 op4) ∧ x.cell? ⟨gv, 5, none⟩ = some (.int .i64 n4) ∧ x.cell? ⟨gv, 6, none⟩ = some (.string s4) ∧ x.cell? ⟨gv, 7, none⟩ = some (.slice a4 len4 cap4)) (go_keep)
      (first
        | (go_at_call 34
           refine (unhide h41 _ ?_).mono ?_
           first
             | exact (Below.refl _ _).drew
             | exact (ab _).drew
           rintro e9 w4 ⟨aS, rfl, hlS, hb4⟩
           try have zz4 := hide (((ZBox.new w3).drew).below hb4)
           have HLS := hide hlS
           have C4 : Hid (Below w3.heap.size w3 w4) := by
             first
               | exact below_drew' hb4
               | exact bt (ab _) (below_drew' hb4) (Nat.le_refl _)
           have g0 := kpc (unhide C4) e0
           have g1 := kpc (unhide C4) e1
           have g2 := kpc (unhide C4) e2
           have g3 := kpc (unhide C4) e3
           have j4 := kpc (unhide C4) r4
           have j5 := kpc (unhide C4) r5
           have j6 := kpc (unhide C4) r6
           have j7 := kpc (unhide C4) r7
           try obtain ⟨p0, p1, p2, p3, q0, q1, q2, q3⟩ := (unhide zz4).facts
           clear hlS
           have lz := lt_of_cell g0
           have lzn := Nat.ne_of_lt lz
           have lzm := Ne.symm lzn))
    all_goals
      go_wp2_with fail
      go_meet
      first
        | (with_reducible refine CutY.late ?_ ?_
           exact unhide C4
           exact unhide HLS)
        | (with_reducible refine CutY.early ?_ ?_ ?_ ?_ ?_
           exact unhide C4
           exact unhide zz4
           omega
           exact unhide HOKS
           exact unhide HLS)
  case rest =>
    obtain ⟨bS, op6, n6, s6, a6, len6, cap6, rfl, rfl, hge, hRS, hlS, hbc⟩ := hcut
    have HRS := hide hRS
    have HLS := hide hlS
    have C5 := hide (bt (unhide C3) hbc (Nat.le_refl _))
    clear hbc hRS hlS e0 e1 e2 e3 r4 r5 r6 r7 h41
    have HB5 := hide (bt (unhide HB1) (unhide C5) (Nat.le_refl _))
    have HR5 := hide ((unhide HR1).below (unhide C5))
    have HE5 := hide ((unhide HE1).below (unhide C5))
    have HLE5 := hide ((unhide HLE1).below (unhide C5))
    have HER5 := hide ((unhide HER1).on (unhide C5))
    have HTB5 := hide ((unhide HTB1).on (unhide C5))
    have HSE5 := hide ((unhide HSE).below (unhide C5))
    have HPU5 := hide ((unhide HPU).below (unhide C5))
    have b0 := kpc (unhide C5) (unhide M8)
    have b1 := kpc (unhide C5) (unhide M9)
    have b2 := kpc (unhide C5) (unhide M10)
    have b3 := kpc (unhide C5) (unhide M11)
    obtain ⟨e0, e1, e2, e3⟩ := (unhide HRS).facts
    have h49 := hide (fun V (hV : Below wc.heap.size wc V) => keyI (shrT e pub) 0 op6 n6 s6 a6 len6 cap6 V ((unhide HLS).below hV) (by have := okT_small (unhide HOKS); omega) (by decide) (by decide) ((unhide HTB5).on hV) ⟨x, (unhide HER5).on hV⟩)
    have h54 := hide (fun op7 n7 s7 a7 len7 cap7 V (hV : Below wc.heap.size wc V) hk => body_some (keyT (shrT e pub) 0) sealed 0 op7 n7 s7 a7 len7 cap7 op5 n5 s5 a5 len5 cap5 x V ((unhide HER5).on hV) ((unhide HTB5).on hV) hk ((unhide HSE5).below hV) (by have := unhide HKZ; omega) (by decide) (by decide) body hop)
    have HOKB := hide (openO_ok hop)
    have lx5 := lt_of_cell e0
    have ly5 := lt_of_cell b0
    have lxn5 := Nat.ne_of_lt lx5
    have lxm5 := Ne.symm lxn5
    have lyn5 := Nat.ne_of_lt ly5
    have lym5 := Ne.symm lyn5
    clear lx ly lxn lxm lyn lym
    go_wp2_with fail
    go_cut [9, 7] (fun p q wx => CutY body wc .nilIface p q wx)
    case first =>
      go_region_held3 (fun x => x.cell? ⟨bS, 0, none⟩ = some (.int .i64 op6) ∧ x.cell? ⟨bS, 1, none⟩ = some (.int .i64 n6) ∧ x.cell? ⟨bS, 2, none⟩ = some (.string s6) ∧ x.cell? ⟨bS, 3, none⟩ = some (.slice a6 len6 cap6) ∧ x.cell? ⟨gv, 8, none⟩ = some (.int .i64 op5) ∧ x.cell? ⟨gv, 9, none⟩ = some (.int .i64 n5) ∧ x.cell? ⟨gv, 10, none⟩ = some (.string s5) ∧ x.cell? ⟨gv, 11, none⟩ = some (.slice a5 len5 cap5)) (go_keep)
        (first
          | (go_at_call 36
             refine (unhide h49 _ ?_).mono ?_
             first
               | exact (Below.refl _ _).drew
               | exact (ab _).drew
             rintro e9 w6 ⟨op7, n7, s7, a7, len7, cap7, fp7, rfl, hO7, -, hb6⟩
             try have zz6 := hide (((ZBox.new wc).drew).below hb6)
             have HLK := hide hO7.lies0
             have C6 : Hid (Below wc.heap.size wc w6) := by
               first
                 | exact below_drew' hb6
                 | exact bt (ab _) (below_drew' hb6) (Nat.le_refl _)
             have g0 := kpc (unhide C6) e0
             have g1 := kpc (unhide C6) e1
             have g2 := kpc (unhide C6) e2
             have g3 := kpc (unhide C6) e3
             have j0 := kpc (unhide C6) b0
             have j1 := kpc (unhide C6) b1
             have j2 := kpc (unhide C6) b2
             have j3 := kpc (unhide C6) b3
             clear hO7
             have lz := lt_of_cell g0
             have lzn := Nat.ne_of_lt lz
             have lzm := Ne.symm lzn
             have ls := lt_of_cell j0
             have lsn := Nat.ne_of_lt ls
             have lsm := Ne.symm lsn)
          | (go_at_call 35
             refine (unhide h54 _ _ _ _ _ _ _ ?_ ?_).mono ?_
             first
               | exact unhide C6
               | exact bt (unhide C6) (ab _) (Nat.le_refl _)
             first
               | exact unhide HLK
               | exact (unhide HLK).below (ab _)
             rintro e9 w7 ⟨op8, n8, s8, a8, len8, cap8, rfl, hlB, hb7⟩
             have HLB := hide hlB
             clear hlB
             try have zz7 := hide ((unhide zz6).below hb7)
             try have zz7 := hide ((ZBox.new w6).below hb7)
             have C7 : Hid (Below w6.heap.size w6 w7) := by
               first
                 | exact hb7
                 | exact bt (ab _) hb7 (Nat.le_refl _)
             have h0 := kpc (unhide C7) g0
             have h1 := kpc (unhide C7) g1
             have h2 := kpc (unhide C7) g2
             have h3 := kpc (unhide C7) g3
             have i0 := kpc (unhide C7) j0
             have i1 := kpc (unhide C7) j1
             have i2 := kpc (unhide C7) j2
             have i3 := kpc (unhide C7) j3
             try obtain ⟨p0, p1, p2, p3, q0, q1, q2, q3⟩ := (unhide zz7).facts
             have lt7 := lt_of_cell h0
             have ltn := Nat.ne_of_lt lt7
             have ltm := Ne.symm ltn))
      all_goals
        go_wp2_with fail
        go_meet
        have s56 := (unhide C6).size
        first
          | (with_reducible refine CutY.late ?_ ?_
             exact bt (unhide C6) (unhide C7) (Nat.le_refl _)
             exact unhide HLB)
          | (with_reducible refine CutY.early ?_ ?_ ?_ ?_ ?_
             exact bt (unhide C6) (unhide C7) (Nat.le_refl _)
             exact unhide zz7
             omega
             exact unhide HOKB
             exact unhide HLB)
    case rest =>
      obtain ⟨bB, op8, n8, s8, a8, len8, cap8, rfl, rfl, hge2, hRB, hlB, hbc⟩ := hcut
      have C8 := hide (bt (unhide C5) hbc (Nat.le_refl _))
      have hI2 := hide (inRow 1 (by omega) body op8 n8 s8 a8 len8 cap8 x _ ((unhide HER5).on hbc) hlB (by have := okT_small (unhide HOKB); omega))
      have HRS8 := hide ((unhide HRS).below hbc)
      have HLS8 := hide ((unhide HLS).below hbc)
      have HPU8 := hide ((unhide HPU5).below hbc)
      have HB8 := hide (bt (unhide HB5) hbc (Nat.le_refl _))
      have HR8 := hide ((unhide HR5).below hbc)
      clear e0 e1 e2 e3 b0 b1 b2 b3
      obtain ⟨e0, e1, e2, e3⟩ := hRB.facts
      clear hbc hRB hlB
      go_wp2_with fail
      refine (unhide hI2).mono ?_
      rintro q w9 ⟨hb9, h9⟩
      rcases h9 with ⟨-, rfl⟩ | ⟨L, v, h2, -⟩
      · have HB9 := hide (bt (unhide HB8) hb9 (Nat.le_refl _))
        have HR9 := hide ((unhide HR8).below hb9)
        clear hb9 e0 e1 e2 e3
        go_wp2_with (refine wpList_storeR rfl (.tmp 4) (.tmp 60) rfl #[.int .i64 0, .int .i64 0, .string ⟨#[]⟩, .slice none 0 0, .int .i64 0, .int .i64 0, .string ⟨#[]⟩, .slice none 0 0, .int .i64 0, .int .i64 0, .string ⟨#[]⟩, .slice none 0 0, .int .i64 0, .int .i64 0, .string ⟨#[]⟩, .slice none 0 0] (unhide HR9) rfl (by simp [Value.oneCell']) rfl rfl (unhide HB9) (by omega) ?_; intro WX hW hBW; have HW := hide hW; have HBW := hide hBW; clear hW hBW)
        have hLV := (unhide HW).load
        exact bodyPost_ret (v := .tuple #[.agg #[.int .i64 0, .int .i64 0, .string ⟨#[]⟩, .slice none 0 0, .int .i64 0, .int .i64 0, .string ⟨#[]⟩, .slice none 0 0, .int .i64 0, .int .i64 0, .string ⟨#[]⟩, .slice none 0 0, .int .i64 0, .int .i64 0, .string ⟨#[]⟩, .slice none 0 0], .iface 128 (.pointer (some x))]) (results_cell_tmp Tryz.results18 rfl hLV) rfl ⟨rfl, unhide HBW⟩
      · rw [hin] at h2
        cases h2

mutual
theorem Lies.apartN {w w' : World} {L g : Nat} (hz : ∀ o op, w.cell? ⟨g, o, none⟩ = some (.int .i64 op) → op = 0) (hc : ∀ b o, b ≠ g → w'.cell? ⟨b, o, none⟩ = w.cell? ⟨b, o, none⟩) : ∀ (t : Tm) (cs : List Value), okT t = true → Lies w L t cs → Lies w' L t cs
  | .node op n s ks, cs, hok, h => by
    simp only [Lies] at h ⊢
    obtain ⟨a, cap, rfl, h1, h2, h4⟩ := h
    exact ⟨a, cap, rfl, h1, h2, LiesAll.apartN hz hc a 0 ks (fun x hx => okT_kid hok hx) h4⟩
theorem LiesAll.apartN {w w' : World} {L g : Nat} (hz : ∀ o op, w.cell? ⟨g, o, none⟩ = some (.int .i64 op) → op = 0) (hc : ∀ b o, b ≠ g → w'.cell? ⟨b, o, none⟩ = w.cell? ⟨b, o, none⟩) (a : Option Addr) : ∀ (i : Nat) (ks : List Tm), (∀ x ∈ ks, okT x = true) → LiesAll w L a i ks → LiesAll w' L a i ks
  | i, [], _, _ => by simp [LiesAll]
  | i, t :: r, hok, h => by
    simp only [LiesAll] at h ⊢
    obtain ⟨⟨b, o, cs, ha, hb, hr, ht⟩, h2⟩ := h
    have hne : b ≠ g := by
      rintro rfl
      obtain ⟨op, n, s, ks⟩ := t
      have hh := ht
      simp only [Lies] at hh
      obtain ⟨a', cap, rfl, _⟩ := hh
      exact ok_op (hok (.node op n s ks) (by simp)) (hz _ _ (hr 0 _ rfl))
    exact ⟨⟨b, o, cs, ha, hb, fun j v hj => by rw [hc b _ hne]; exact hr j v hj, Lies.apartN hz hc t cs (hok t (by simp)) ht⟩, LiesAll.apartN hz hc a (i + 1) r (fun x hx => hok x (by simp [hx])) h2⟩
end

theorem zero16 {w : World} {g : Nat} (h : w.heap[g]? = some (.cells #[.int .i64 0, .int .i64 0, .string ⟨#[]⟩, .slice none 0 0, .int .i64 0, .int .i64 0, .string ⟨#[]⟩, .slice none 0 0, .int .i64 0, .int .i64 0, .string ⟨#[]⟩, .slice none 0 0, .int .i64 0, .int .i64 0, .string ⟨#[]⟩, .slice none 0 0] 44 (0, 0))) : ∀ o op, w.cell? ⟨g, o, none⟩ = some (.int .i64 op) → op = 0 := fun o op hc => by
  simp only [World.cell?, h] at hc
  match o with
  | 0 => simpa using hc.symm
  | 1 => simpa using hc.symm
  | 2 => simp at hc
  | 3 => simp at hc
  | 4 => simpa using hc.symm
  | 5 => simpa using hc.symm
  | 6 => simp at hc
  | 7 => simp at hc
  | 8 => simpa using hc.symm
  | 9 => simpa using hc.symm
  | 10 => simp at hc
  | 11 => simp at hc
  | 12 => simpa using hc.symm
  | 13 => simpa using hc.symm
  | 14 => simp at hc
  | 15 => simp at hc
  | o + 16 => simp at hc
theorem setCells_heap (w : World) (g b : Nat) (h : b ≠ g) : ∀ (vs : List Value) (o : Nat), (w.setCells g o vs).heap[b]? = w.heap[b]? := by
  intro vs
  induction vs generalizing w with
  | nil => intro o; rfl
  | cons x r ih => intro o; rw [World.setCells, ih, Below.heap_setCell _ _ _ _ h]
theorem Lies.read {w : World} {g : Nat} {t : Tm} {cs : List Value} (h : Lies w 0 t cs) (hz : w.heap[g]? = some (.cells #[.int .i64 0, .int .i64 0, .string ⟨#[]⟩, .slice none 0 0, .int .i64 0, .int .i64 0, .string ⟨#[]⟩, .slice none 0 0, .int .i64 0, .int .i64 0, .string ⟨#[]⟩, .slice none 0 0, .int .i64 0, .int .i64 0, .string ⟨#[]⟩, .slice none 0 0] 44 (0, 0))) (hok : okT t = true) (vs : List Value) : Lies (w.setCells g 0 vs) 0 t cs :=
  Lies.apartN (zero16 hz) (fun b _ hne => World.cell?_of_block (setCells_heap w g b hne vs 0)) t cs hok h
theorem TRw.two {B : Nat} {p q : Tc} {v : Value} {w : World} (h : TRw B [p, q] v w) :
    ∃ g c, v = .slice (some ⟨g, 0, none⟩) 2 c ∧ B ≤ g ∧ w.cell? ⟨g, 0, none⟩ = some (.int .i64 p.op) ∧ w.cell? ⟨g, 1, none⟩ = some (.int .i64 p.n) ∧ w.cell? ⟨g, 2, none⟩ = some (.string p.s) ∧ w.cell? ⟨g, 3, none⟩ = some (.slice p.a p.len p.cap) ∧ w.cell? ⟨g, 4, none⟩ = some (.int .i64 q.op) ∧ w.cell? ⟨g, 5, none⟩ = some (.int .i64 q.n) ∧ w.cell? ⟨g, 6, none⟩ = some (.string q.s) ∧ w.cell? ⟨g, 7, none⟩ = some (.slice q.a q.len q.cap) := by
  obtain ⟨g, c, rfl, h1, _, e0, e1, e2, e3⟩ := TRw.cells h (i := 0) (p := p) rfl
  obtain ⟨g', c', h2, _, _, e4, e5, e6, e7⟩ := TRw.cells h (i := 1) (p := q) rfl
  cases h2
  exact ⟨g, c, rfl, h1, e0, e1, e2, e3, e4, e5, e6, e7⟩
theorem rowO_ok : ∀ (m : Nat) (t : Tm) (l : List Tm), okT t = true → rowO m t = some l → ∀ x ∈ l, okT x = true
  | 0, t, l, hok, h => by simp only [rowO, Option.some.injEq] at h; subst h; intro x hx; simp only [List.mem_singleton] at hx; subst hx; exact hok
  | m + 1, .node op n s ks, l, hok, h => by
    match ks with
    | [] => simp [rowO] at h
    | [_] => simp [rowO] at h
    | _ :: _ :: _ :: _ => simp [rowO] at h
    | [a, b] =>
      simp only [rowO] at h
      split at h
      · obtain ⟨r, h1, h2⟩ := Option.map_eq_some_iff.1 h
        subst h2
        intro x hx
        rcases List.mem_cons.1 hx with rfl | hx
        · exact okT_kid hok (by simp)
        · exact rowO_ok m b r (okT_kid hok (by simp)) h1 x hx
      · cases h
theorem inO_ok {m : Nat} {t : Tm} {l : List Tm} (h : inO m t = some l) : ∀ x ∈ l, okT x = true := by
  unfold inO at h
  split at h
  · rename_i hok
    exact rowO_ok m t l hok h
  · cases h

set_option maxRecDepth 100000 in
set_option maxHeartbeats 1200000 in
theorem read_yes (e t k0 pub sealed body c g : Tm) (op n : Int) (s : ByteArray) (a : Option Addr) (len cap : Nat) (op2 n2 : Int) (s2 : ByteArray) (a2 : Option Addr) (len2 cap2 : Nat) (x : Addr) (w : World) (he : ErrAt x w) (htab : Tab w) (hl : Lies w 0 e (tmCells op n s a len cap)) (hl2 : Lies w 0 t (tmCells op2 n2 s2 a2 len2 cap2)) (hst : e.size + t.size ≤ 1100000) (hn : inO 2 t = some [k0, pub, sealed]) (hs : sameB k0 (textT replyW) = true) (hsh : shrB e pub = true) (hop : openO (keyT (shrT e pub) 0) 0 sealed = some body) (hin : inO 1 body = some [c, g]) : Calls Tryz.prog 18 #[.agg #[.int .i64 op, .int .i64 n, .string s, .slice a len cap], .agg #[.int .i64 op2, .int .i64 n2, .string s2, .slice a2 len2 cap2]] w fun q w' => ∃ op4 n4 s4 a4 len4 cap4 op6 n6 s6 a6 len6 cap6 op9 n9 s9 a9 len9 cap9 op10 n10 s10 a10 len10 cap10, q = .returned (.tuple #[.agg #[.int .i64 op4, .int .i64 n4, .string s4, .slice a4 len4 cap4, .int .i64 op6, .int .i64 n6, .string s6, .slice a6 len6 cap6, .int .i64 op9, .int .i64 n9, .string s9, .slice a9 len9 cap9, .int .i64 op10, .int .i64 n10, .string s10, .slice a10 len10 cap10], .nilIface]) ∧ Lies w' 0 pub (tmCells op4 n4 s4 a4 len4 cap4) ∧ Lies w' 0 (shrT e pub) (tmCells op6 n6 s6 a6 len6 cap6) ∧ Lies w' 0 c (tmCells op9 n9 s9 a9 len9 cap9) ∧ Lies w' 0 g (tmCells op10 n10 s10 a10 len10 cap10) ∧ Below w.heap.size w w' := by
  have HOP : Hid (okT pub = true) := inO_ok hn pub (by simp)
  have HOC : Hid (okT c = true) := inO_ok hin c (by simp)
  have HOG : Hid (okT g = true) := inO_ok hin g (by simp)
  have hb0 : Below w.heap.size w (((w.alloc (.cells #[.int .i64 op, .int .i64 n, .string s, .slice a len cap] 28)).alloc (.cells #[.int .i64 op2, .int .i64 n2, .string s2, .slice a2 len2 cap2] 28)).alloc (.cells #[.int .i64 0, .int .i64 0, .string ⟨#[]⟩, .slice none 0 0, .int .i64 0, .int .i64 0, .string ⟨#[]⟩, .slice none 0 0, .int .i64 0, .int .i64 0, .string ⟨#[]⟩, .slice none 0 0, .int .i64 0, .int .i64 0, .string ⟨#[]⟩, .slice none 0 0] 44)) := bt (bt (ab _) (ab _) (Nat.le_refl _)) (ab _) (Nat.le_refl _)
  have hI := hide (inRow 2 (by omega) t op2 n2 s2 a2 len2 cap2 x _ (he.on hb0) (hl2.below hb0) (by omega))
  have HB0 := hide hb0
  have HR0 : Hid (RowV (((w.alloc (.cells #[.int .i64 op, .int .i64 n, .string s, .slice a len cap] 28)).alloc (.cells #[.int .i64 op2, .int .i64 n2, .string s2, .slice a2 len2 cap2] 28)).alloc (.cells #[.int .i64 0, .int .i64 0, .string ⟨#[]⟩, .slice none 0 0, .int .i64 0, .int .i64 0, .string ⟨#[]⟩, .slice none 0 0, .int .i64 0, .int .i64 0, .string ⟨#[]⟩, .slice none 0 0, .int .i64 0, .int .i64 0, .string ⟨#[]⟩, .slice none 0 0] 44)) (w.heap.size + 1 + 1) #[.int .i64 0, .int .i64 0, .string ⟨#[]⟩, .slice none 0 0, .int .i64 0, .int .i64 0, .string ⟨#[]⟩, .slice none 0 0, .int .i64 0, .int .i64 0, .string ⟨#[]⟩, .slice none 0 0, .int .i64 0, .int .i64 0, .string ⟨#[]⟩, .slice none 0 0]) := by have := RowV.new ((w.alloc (.cells #[.int .i64 op, .int .i64 n, .string s, .slice a len cap] 28)).alloc (.cells #[.int .i64 op2, .int .i64 n2, .string s2, .slice a2 len2 cap2] 28)) #[.int .i64 0, .int .i64 0, .string ⟨#[]⟩, .slice none 0 0, .int .i64 0, .int .i64 0, .string ⟨#[]⟩, .slice none 0 0, .int .i64 0, .int .i64 0, .string ⟨#[]⟩, .slice none 0 0, .int .i64 0, .int .i64 0, .string ⟨#[]⟩, .slice none 0 0] rfl; rwa [heap_size_alloc, heap_size_alloc] at this
  have HZ0 : Hid ((((w.alloc (.cells #[.int .i64 op, .int .i64 n, .string s, .slice a len cap] 28)).alloc (.cells #[.int .i64 op2, .int .i64 n2, .string s2, .slice a2 len2 cap2] 28)).alloc (.cells #[.int .i64 0, .int .i64 0, .string ⟨#[]⟩, .slice none 0 0, .int .i64 0, .int .i64 0, .string ⟨#[]⟩, .slice none 0 0, .int .i64 0, .int .i64 0, .string ⟨#[]⟩, .slice none 0 0, .int .i64 0, .int .i64 0, .string ⟨#[]⟩, .slice none 0 0] 44)).heap[w.heap.size + 1 + 1]? = some (.cells #[.int .i64 0, .int .i64 0, .string ⟨#[]⟩, .slice none 0 0, .int .i64 0, .int .i64 0, .string ⟨#[]⟩, .slice none 0 0, .int .i64 0, .int .i64 0, .string ⟨#[]⟩, .slice none 0 0, .int .i64 0, .int .i64 0, .string ⟨#[]⟩, .slice none 0 0] 44 (0, 0))) := by have := heap_alloc_new ((w.alloc (.cells #[.int .i64 op, .int .i64 n, .string s, .slice a len cap] 28)).alloc (.cells #[.int .i64 op2, .int .i64 n2, .string s2, .slice a2 len2 cap2] 28)) (.cells #[.int .i64 0, .int .i64 0, .string ⟨#[]⟩, .slice none 0 0, .int .i64 0, .int .i64 0, .string ⟨#[]⟩, .slice none 0 0, .int .i64 0, .int .i64 0, .string ⟨#[]⟩, .slice none 0 0, .int .i64 0, .int .i64 0, .string ⟨#[]⟩, .slice none 0 0] 44); rwa [heap_size_alloc, heap_size_alloc] at this
  have HE0 : Hid (RowT 28 (((w.alloc (.cells #[.int .i64 op, .int .i64 n, .string s, .slice a len cap] 28)).alloc (.cells #[.int .i64 op2, .int .i64 n2, .string s2, .slice a2 len2 cap2] 28)).alloc (.cells #[.int .i64 0, .int .i64 0, .string ⟨#[]⟩, .slice none 0 0, .int .i64 0, .int .i64 0, .string ⟨#[]⟩, .slice none 0 0, .int .i64 0, .int .i64 0, .string ⟨#[]⟩, .slice none 0 0, .int .i64 0, .int .i64 0, .string ⟨#[]⟩, .slice none 0 0] 44)) w.heap.size op n s a len cap) := ((RowT.new 28 w op n s a len cap).below (ab _)).below (ab _)
  have HLE := hide (hl.below hb0)
  have HER := hide (he.on hb0)
  have HTB := hide (htab.on hb0)
  have HN := hide hn
  have HKZ : Hid (k0.size + pub.size + sealed.size ≤ t.size) := inO_size hn
  clear he hl hl2 hb0 hn htab
  go_enter Tryz.func18, Tryz.ntmps18
  go_wp2_with fail
  generalize hgw : (((w.alloc (.cells #[.int .i64 op, .int .i64 n, .string s, .slice a len cap] 28)).alloc (.cells #[.int .i64 op2, .int .i64 n2, .string s2, .slice a2 len2 cap2] 28)).alloc (.cells #[.int .i64 0, .int .i64 0, .string ⟨#[]⟩, .slice none 0 0, .int .i64 0, .int .i64 0, .string ⟨#[]⟩, .slice none 0 0, .int .i64 0, .int .i64 0, .string ⟨#[]⟩, .slice none 0 0, .int .i64 0, .int .i64 0, .string ⟨#[]⟩, .slice none 0 0] 44)) = W at *
  clear hgw
  refine (unhide hI).mono ?_
  rintro q w1 ⟨hb1, h1⟩
  rcases h1 with ⟨h2, -⟩ | ⟨L, v, h2, rfl, hT, hL⟩
  · rw [unhide HN] at h2
    cases h2
  rw [unhide HN] at h2
  obtain ⟨⟨_, c0⟩, ⟨_, c1⟩, ⟨_, c2⟩, rfl⟩ := three_of (L := L) (by have := congrArg List.length (Option.some.inj h2); simpa using this.symm)
  simp only [List.map_cons, List.map_nil, Option.some.injEq, List.cons.injEq, and_true] at h2
  obtain ⟨rfl, rfl, rfl⟩ := h2
  obtain ⟨op3, n3, s3, a3, len3, cap3⟩ := c0
  obtain ⟨op4, n4, s4, a4, len4, cap4⟩ := c1
  obtain ⟨op5, n5, s5, a5, len5, cap5⟩ := c2
  have HK0 := hide ((hL (k0, ⟨op3, n3, s3, a3, len3, cap3⟩) (by simp)).below hb1)
  have HPU := hide ((hL (pub, ⟨op4, n4, s4, a4, len4, cap4⟩) (by simp)).below hb1)
  have HSE := hide ((hL (sealed, ⟨op5, n5, s5, a5, len5, cap5⟩) (by simp)).below hb1)
  simp only [Tc.cells] at HK0 HPU HSE
  have HB1 := hide (bt (unhide HB0) hb1 (Nat.le_refl _))
  have HR1 := hide ((unhide HR0).below hb1)
  have HE1 := hide ((unhide HE0).below hb1)
  have HLE1 := hide ((unhide HLE).below hb1)
  have HER1 := hide ((unhide HER).on hb1)
  have HTB1 := hide ((unhide HTB).on hb1)
  have HT1 := hide hT
  have HZ1 := hide ((hb1.block _ (lt_of_heap (unhide HZ0))).trans (unhide HZ0))
  obtain ⟨gv, cv, rfl, hgv, m0, m1, m2, m3, m4, m5, m6, m7, m8, m9, m10, m11⟩ := TRw.three hT
  simp only [List.map_cons, List.map_nil] at HT1
  clear hb1 hT hL hI HB0 HR0 HE0 HLE HER HTB
  have h47 := hide (wordI (⟨#[114, 101, 112, 108, 121]⟩ : ByteArray))
  have h53 := hide (fun V (hV : Below w1.heap.size w1 V) => same15 k0 (textT replyW) op3 n3 s3 a3 len3 cap3 2 0 (⟨#[114, 101, 112, 108, 121]⟩ : ByteArray) none 0 0 V ((unhide HK0).below hV) (text_lies replyW (by decide) V) (by have := unhide HKZ; omega))
  rw [hs] at h53
  go_wp2_with fail
  go_region_held3 (fun x => x.cell? ⟨gv, 0, none⟩ = some (.int .i64 op3) ∧ x.cell? ⟨gv, 1, none⟩ = some (.int .i64 n3) ∧ x.cell? ⟨gv, 2, none⟩ = some (.string s3) ∧ x.cell? ⟨gv, 3, none⟩ = some (.slice a3 len3 cap3)) (go_keep)
    (first
      | (go_at_call 33
         refine (unhide h47 _).mono ?_
         rintro e w2 ⟨rfl, hb2⟩
         have C2 := hide (below_drew' hb2)
         have f0 := kpc (unhide C2) m0
         have f1 := kpc (unhide C2) m1
         have f2 := kpc (unhide C2) m2
         have f3 := kpc (unhide C2) m3
         clear hb2)
      | (go_at_call 32
         refine (unhide h53 _ (unhide C2)).mono ?_
         rintro e w3 ⟨rfl, hb3⟩
         have C3 := hide (bt (unhide C2) hb3 (Nat.le_refl _))
         have i0 := kpc hb3 f0
         have i1 := kpc hb3 f1
         have i2 := kpc hb3 f2
         have i3 := kpc hb3 f3
         clear hb3))
  clear f0 f1 f2 f3 i0 i1 i2 i3 h47 h53
  have HB3 := hide (bt (unhide HB1) (unhide C3) (Nat.le_refl _))
  have HR3 := hide ((unhide HR1).below (unhide C3))
  have HE3 := hide ((unhide HE1).below (unhide C3))
  have HLE3 := hide ((unhide HLE1).below (unhide C3))
  have HER3 := hide ((unhide HER1).on (unhide C3))
  have HTB3 := hide ((unhide HTB1).on (unhide C3))
  have h41 := hide (fun V (hV : Below w3.heap.size w3 V) => shareI_yes e pub op n s a len cap op4 n4 s4 a4 len4 cap4 x V ((unhide HER3).on hV) ((unhide HLE3).below hV) (((unhide HPU).below (unhide C3)).below hV) (by have := unhide HKZ; omega) hsh)
  have HOKS := hide (shr_ok hsh)
  clear m0 m1 m2 m3 HK0
  have r4 := kpc (unhide C3) m4
  have r5 := kpc (unhide C3) m5
  have r6 := kpc (unhide C3) m6
  have r7 := kpc (unhide C3) m7
  obtain ⟨e0, e1, e2, e3⟩ := (unhide HE3).facts
  have lx := lt_of_cell e0
  have ly := lt_of_cell r4
  have lxn := Nat.ne_of_lt lx
  have lxm := Ne.symm lxn
  have lyn := Nat.ne_of_lt ly
  have lym := Ne.symm lyn
  have M4 := hide m4
  have M5 := hide m5
  have M6 := hide m6
  have M7 := hide m7
  have M8 := hide m8
  have M9 := hide m9
  have M10 := hide m10
  have M11 := hide m11
  clear m4 m5 m6 m7 m8 m9 m10 m11
  go_wp2_with fail
  go_cut [8, 7] (fun p q wx => CutY (shrT e pub) w3 .nilIface p q wx)
  case first =>
    go_region_held3 (fun x => x.cell? ⟨w.heap.size, 0, none⟩ = some (.int .i64 op) ∧ x.cell? ⟨w.heap.size, 1, none⟩ = some (.int .i64 n) ∧ x.cell? ⟨w.heap.size, 2, none⟩ = some (.string s) ∧ x.cell? ⟨w.heap.size, 3, none⟩ = some (.slice a len cap) ∧ x.cell? ⟨gv, 4, none⟩ = some (.int .i64 op4) ∧ x.cell? ⟨gv, 5, none⟩ = some (.int .i64 n4) ∧ x.cell? ⟨gv, 6, none⟩ = some (.string s4) ∧ x.cell? ⟨gv, 7, none⟩ = some (.slice a4 len4 cap4)) (go_keep)
      (first
        | (go_at_call 34
           refine (unhide h41 _ ?_).mono ?_
           first
             | exact (Below.refl _ _).drew
             | exact (ab _).drew
           rintro e9 w4 ⟨aS, rfl, hlS, hb4⟩
           try have zz4 := hide (((ZBox.new w3).drew).below hb4)
           have HLS := hide hlS
           have C4 : Hid (Below w3.heap.size w3 w4) := by
             first
               | exact below_drew' hb4
               | exact bt (ab _) (below_drew' hb4) (Nat.le_refl _)
           have g0 := kpc (unhide C4) e0
           have g1 := kpc (unhide C4) e1
           have g2 := kpc (unhide C4) e2
           have g3 := kpc (unhide C4) e3
           have j4 := kpc (unhide C4) r4
           have j5 := kpc (unhide C4) r5
           have j6 := kpc (unhide C4) r6
           have j7 := kpc (unhide C4) r7
           try obtain ⟨p0, p1, p2, p3, q0, q1, q2, q3⟩ := (unhide zz4).facts
           clear hlS
           have lz := lt_of_cell g0
           have lzn := Nat.ne_of_lt lz
           have lzm := Ne.symm lzn))
    all_goals
      go_wp2_with fail
      go_meet
      first
        | (with_reducible refine CutY.late ?_ ?_
           exact unhide C4
           exact unhide HLS)
        | (with_reducible refine CutY.early ?_ ?_ ?_ ?_ ?_
           exact unhide C4
           exact unhide zz4
           omega
           exact unhide HOKS
           exact unhide HLS)
  case rest =>
    obtain ⟨bS, op6, n6, s6, a6, len6, cap6, rfl, rfl, hge, hRS, hlS, hbc⟩ := hcut
    have HRS := hide hRS
    have HLS := hide hlS
    have C5 := hide (bt (unhide C3) hbc (Nat.le_refl _))
    clear hbc hRS hlS e0 e1 e2 e3 r4 r5 r6 r7 h41
    have HB5 := hide (bt (unhide HB1) (unhide C5) (Nat.le_refl _))
    have HR5 := hide ((unhide HR1).below (unhide C5))
    have HE5 := hide ((unhide HE1).below (unhide C5))
    have HLE5 := hide ((unhide HLE1).below (unhide C5))
    have HER5 := hide ((unhide HER1).on (unhide C5))
    have HTB5 := hide ((unhide HTB1).on (unhide C5))
    have HSE5 := hide ((unhide HSE).below (unhide C5))
    have HPU5 := hide ((unhide HPU).below (unhide C5))
    have b0 := kpc (unhide C5) (unhide M8)
    have b1 := kpc (unhide C5) (unhide M9)
    have b2 := kpc (unhide C5) (unhide M10)
    have b3 := kpc (unhide C5) (unhide M11)
    obtain ⟨e0, e1, e2, e3⟩ := (unhide HRS).facts
    have h49 := hide (fun V (hV : Below wc.heap.size wc V) => keyI (shrT e pub) 0 op6 n6 s6 a6 len6 cap6 V ((unhide HLS).below hV) (by have := okT_small (unhide HOKS); omega) (by decide) (by decide) ((unhide HTB5).on hV) ⟨x, (unhide HER5).on hV⟩)
    have h54 := hide (fun op7 n7 s7 a7 len7 cap7 V (hV : Below wc.heap.size wc V) hk => body_some (keyT (shrT e pub) 0) sealed 0 op7 n7 s7 a7 len7 cap7 op5 n5 s5 a5 len5 cap5 x V ((unhide HER5).on hV) ((unhide HTB5).on hV) hk ((unhide HSE5).below hV) (by have := unhide HKZ; omega) (by decide) (by decide) body hop)
    have HOKB := hide (openO_ok hop)
    have lx5 := lt_of_cell e0
    have ly5 := lt_of_cell b0
    have lxn5 := Nat.ne_of_lt lx5
    have lxm5 := Ne.symm lxn5
    have lyn5 := Nat.ne_of_lt ly5
    have lym5 := Ne.symm lyn5
    clear lx ly lxn lxm lyn lym
    go_wp2_with fail
    go_cut [9, 7] (fun p q wx => CutY body wc .nilIface p q wx)
    case first =>
      go_region_held3 (fun x => x.cell? ⟨bS, 0, none⟩ = some (.int .i64 op6) ∧ x.cell? ⟨bS, 1, none⟩ = some (.int .i64 n6) ∧ x.cell? ⟨bS, 2, none⟩ = some (.string s6) ∧ x.cell? ⟨bS, 3, none⟩ = some (.slice a6 len6 cap6) ∧ x.cell? ⟨gv, 8, none⟩ = some (.int .i64 op5) ∧ x.cell? ⟨gv, 9, none⟩ = some (.int .i64 n5) ∧ x.cell? ⟨gv, 10, none⟩ = some (.string s5) ∧ x.cell? ⟨gv, 11, none⟩ = some (.slice a5 len5 cap5)) (go_keep)
        (first
          | (go_at_call 36
             refine (unhide h49 _ ?_).mono ?_
             first
               | exact (Below.refl _ _).drew
               | exact (ab _).drew
             rintro e9 w6 ⟨op7, n7, s7, a7, len7, cap7, fp7, rfl, hO7, -, hb6⟩
             try have zz6 := hide (((ZBox.new wc).drew).below hb6)
             have HLK := hide hO7.lies0
             have C6 : Hid (Below wc.heap.size wc w6) := by
               first
                 | exact below_drew' hb6
                 | exact bt (ab _) (below_drew' hb6) (Nat.le_refl _)
             have g0 := kpc (unhide C6) e0
             have g1 := kpc (unhide C6) e1
             have g2 := kpc (unhide C6) e2
             have g3 := kpc (unhide C6) e3
             have j0 := kpc (unhide C6) b0
             have j1 := kpc (unhide C6) b1
             have j2 := kpc (unhide C6) b2
             have j3 := kpc (unhide C6) b3
             clear hO7
             have lz := lt_of_cell g0
             have lzn := Nat.ne_of_lt lz
             have lzm := Ne.symm lzn
             have ls := lt_of_cell j0
             have lsn := Nat.ne_of_lt ls
             have lsm := Ne.symm lsn)
          | (go_at_call 35
             refine (unhide h54 _ _ _ _ _ _ _ ?_ ?_).mono ?_
             first
               | exact unhide C6
               | exact bt (unhide C6) (ab _) (Nat.le_refl _)
             first
               | exact unhide HLK
               | exact (unhide HLK).below (ab _)
             rintro e9 w7 ⟨op8, n8, s8, a8, len8, cap8, rfl, hlB, hb7⟩
             have HLB := hide hlB
             clear hlB
             try have zz7 := hide ((unhide zz6).below hb7)
             try have zz7 := hide ((ZBox.new w6).below hb7)
             have C7 : Hid (Below w6.heap.size w6 w7) := by
               first
                 | exact hb7
                 | exact bt (ab _) hb7 (Nat.le_refl _)
             have h0 := kpc (unhide C7) g0
             have h1 := kpc (unhide C7) g1
             have h2 := kpc (unhide C7) g2
             have h3 := kpc (unhide C7) g3
             have i0 := kpc (unhide C7) j0
             have i1 := kpc (unhide C7) j1
             have i2 := kpc (unhide C7) j2
             have i3 := kpc (unhide C7) j3
             try obtain ⟨p0, p1, p2, p3, q0, q1, q2, q3⟩ := (unhide zz7).facts
             have lt7 := lt_of_cell h0
             have ltn := Nat.ne_of_lt lt7
             have ltm := Ne.symm ltn))
      all_goals
        go_wp2_with fail
        go_meet
        have s56 := (unhide C6).size
        first
          | (with_reducible refine CutY.late ?_ ?_
             exact bt (unhide C6) (unhide C7) (Nat.le_refl _)
             exact unhide HLB)
          | (with_reducible refine CutY.early ?_ ?_ ?_ ?_ ?_
             exact bt (unhide C6) (unhide C7) (Nat.le_refl _)
             exact unhide zz7
             omega
             exact unhide HOKB
             exact unhide HLB)
    case rest =>
      obtain ⟨bB, op8, n8, s8, a8, len8, cap8, rfl, rfl, hge2, hRB, hlB, hbc⟩ := hcut
      have C8 := hide (bt (unhide C5) hbc (Nat.le_refl _))
      have hI2 := hide (inRow 1 (by omega) body op8 n8 s8 a8 len8 cap8 x _ ((unhide HER5).on hbc) hlB (by have := okT_small (unhide HOKB); omega))
      have HRS8 := hide ((unhide HRS).below hbc)
      have HLS8 := hide ((unhide HLS).below hbc)
      have HPU8 := hide ((unhide HPU5).below hbc)
      have HB8 := hide (bt (unhide HB5) hbc (Nat.le_refl _))
      have HR8 := hide ((unhide HR5).below hbc)
      clear e0 e1 e2 e3 b0 b1 b2 b3
      obtain ⟨e0, e1, e2, e3⟩ := hRB.facts
      clear hbc hRB hlB
      go_wp2_with fail
      refine (unhide hI2).mono ?_
      rintro q w9 ⟨hb9, h9⟩
      rcases h9 with ⟨h2, -⟩ | ⟨L, v, h2, rfl, hT, hL⟩
      · rw [hin] at h2
        cases h2
      rw [hin] at h2
      obtain ⟨⟨_, c9⟩, ⟨_, c10⟩, rfl⟩ := two_ofL (L := L) (by have := congrArg List.length (Option.some.inj h2); simpa using this.symm)
      simp only [List.map_cons, List.map_nil, Option.some.injEq, List.cons.injEq, and_true] at h2
      obtain ⟨rfl, rfl⟩ := h2
      obtain ⟨op9, n9, s9, a9, len9, cap9⟩ := c9
      obtain ⟨op10, n10, s10, a10, len10, cap10⟩ := c10
      have HLC := hide ((hL (c, ⟨op9, n9, s9, a9, len9, cap9⟩) (by simp)).below hb9)
      have HLG := hide ((hL (g, ⟨op10, n10, s10, a10, len10, cap10⟩) (by simp)).below hb9)
      simp only [Tc.cells] at HLC HLG
      have C9 := hide (bt (unhide C8) hb9 (Nat.le_refl _))
      have HB9 := hide (bt (unhide HB8) hb9 (Nat.le_refl _))
      have HR9 := hide ((unhide HR8).below hb9)
      have HLP9 := hide ((unhide HPU8).below hb9)
      have HLS9 := hide ((unhide HLS8).below hb9)
      have HZ9 := hide (((unhide C9).block _ (lt_of_heap (unhide HZ1))).trans (unhide HZ1))
      obtain ⟨gp, cp, rfl, hgp, k0', k1, k2, k3, k4, k5, k6, k7⟩ := TRw.two hT
      clear e0 e1 e2 e3
      obtain ⟨e0, e1, e2, e3⟩ := ((unhide HRS8).below hb9).facts
      have r4 := kpc (unhide C9) (unhide M4)
      have r5 := kpc (unhide C9) (unhide M5)
      have r6 := kpc (unhide C9) (unhide M6)
      have r7 := kpc (unhide C9) (unhide M7)
      have z0 : w9.cell? ⟨w.heap.size + 1 + 1, 0, none⟩ = some (.int .i64 0) := by simpa using (unhide HR9).cells 0 _ rfl
      have z1 : w9.cell? ⟨w.heap.size + 1 + 1, 1, none⟩ = some (.int .i64 0) := by simpa using (unhide HR9).cells 1 _ rfl
      have z2 : w9.cell? ⟨w.heap.size + 1 + 1, 2, none⟩ = some (.string ⟨#[]⟩) := by simpa using (unhide HR9).cells 2 _ rfl
      have z3 : w9.cell? ⟨w.heap.size + 1 + 1, 3, none⟩ = some (.slice none 0 0) := by simpa using (unhide HR9).cells 3 _ rfl
      have z4 : w9.cell? ⟨w.heap.size + 1 + 1, 4, none⟩ = some (.int .i64 0) := by simpa using (unhide HR9).cells 4 _ rfl
      have z5 : w9.cell? ⟨w.heap.size + 1 + 1, 5, none⟩ = some (.int .i64 0) := by simpa using (unhide HR9).cells 5 _ rfl
      have z6 : w9.cell? ⟨w.heap.size + 1 + 1, 6, none⟩ = some (.string ⟨#[]⟩) := by simpa using (unhide HR9).cells 6 _ rfl
      have z7 : w9.cell? ⟨w.heap.size + 1 + 1, 7, none⟩ = some (.slice none 0 0) := by simpa using (unhide HR9).cells 7 _ rfl
      have z8 : w9.cell? ⟨w.heap.size + 1 + 1, 8, none⟩ = some (.int .i64 0) := by simpa using (unhide HR9).cells 8 _ rfl
      have z9 : w9.cell? ⟨w.heap.size + 1 + 1, 9, none⟩ = some (.int .i64 0) := by simpa using (unhide HR9).cells 9 _ rfl
      have z10 : w9.cell? ⟨w.heap.size + 1 + 1, 10, none⟩ = some (.string ⟨#[]⟩) := by simpa using (unhide HR9).cells 10 _ rfl
      have z11 : w9.cell? ⟨w.heap.size + 1 + 1, 11, none⟩ = some (.slice none 0 0) := by simpa using (unhide HR9).cells 11 _ rfl
      have z12 : w9.cell? ⟨w.heap.size + 1 + 1, 12, none⟩ = some (.int .i64 0) := by simpa using (unhide HR9).cells 12 _ rfl
      have z13 : w9.cell? ⟨w.heap.size + 1 + 1, 13, none⟩ = some (.int .i64 0) := by simpa using (unhide HR9).cells 13 _ rfl
      have z14 : w9.cell? ⟨w.heap.size + 1 + 1, 14, none⟩ = some (.string ⟨#[]⟩) := by simpa using (unhide HR9).cells 14 _ rfl
      have z15 : w9.cell? ⟨w.heap.size + 1 + 1, 15, none⟩ = some (.slice none 0 0) := by simpa using (unhide HR9).cells 15 _ rfl
      have y0 : w9.frozen? ⟨w.heap.size + 1 + 1, 0, none⟩ = false := by simpa using ((unhide HR9).there 0 (by omega)).2
      have y1 : w9.frozen? ⟨w.heap.size + 1 + 1, 1, none⟩ = false := by simpa using ((unhide HR9).there 1 (by omega)).2
      have y2 : w9.frozen? ⟨w.heap.size + 1 + 1, 2, none⟩ = false := by simpa using ((unhide HR9).there 2 (by omega)).2
      have y3 : w9.frozen? ⟨w.heap.size + 1 + 1, 3, none⟩ = false := by simpa using ((unhide HR9).there 3 (by omega)).2
      have y4 : w9.frozen? ⟨w.heap.size + 1 + 1, 4, none⟩ = false := by simpa using ((unhide HR9).there 4 (by omega)).2
      have y5 : w9.frozen? ⟨w.heap.size + 1 + 1, 5, none⟩ = false := by simpa using ((unhide HR9).there 5 (by omega)).2
      have y6 : w9.frozen? ⟨w.heap.size + 1 + 1, 6, none⟩ = false := by simpa using ((unhide HR9).there 6 (by omega)).2
      have y7 : w9.frozen? ⟨w.heap.size + 1 + 1, 7, none⟩ = false := by simpa using ((unhide HR9).there 7 (by omega)).2
      have y8 : w9.frozen? ⟨w.heap.size + 1 + 1, 8, none⟩ = false := by simpa using ((unhide HR9).there 8 (by omega)).2
      have y9 : w9.frozen? ⟨w.heap.size + 1 + 1, 9, none⟩ = false := by simpa using ((unhide HR9).there 9 (by omega)).2
      have y10 : w9.frozen? ⟨w.heap.size + 1 + 1, 10, none⟩ = false := by simpa using ((unhide HR9).there 10 (by omega)).2
      have y11 : w9.frozen? ⟨w.heap.size + 1 + 1, 11, none⟩ = false := by simpa using ((unhide HR9).there 11 (by omega)).2
      have y12 : w9.frozen? ⟨w.heap.size + 1 + 1, 12, none⟩ = false := by simpa using ((unhide HR9).there 12 (by omega)).2
      have y13 : w9.frozen? ⟨w.heap.size + 1 + 1, 13, none⟩ = false := by simpa using ((unhide HR9).there 13 (by omega)).2
      have y14 : w9.frozen? ⟨w.heap.size + 1 + 1, 14, none⟩ = false := by simpa using ((unhide HR9).there 14 (by omega)).2
      have y15 : w9.frozen? ⟨w.heap.size + 1 + 1, 15, none⟩ = false := by simpa using ((unhide HR9).there 15 (by omega)).2
      clear hb9 hT hL hI2
      go_wp2_with fail
      go_region
      all_goals
        go_wp2_with fail
        refine bodyPost_ret (v := .tuple #[.agg #[.int .i64 op4, .int .i64 n4, .string s4, .slice a4 len4 cap4, .int .i64 op6, .int .i64 n6, .string s6, .slice a6 len6 cap6, .int .i64 op9, .int .i64 n9, .string s9, .slice a9 len9 cap9, .int .i64 op10, .int .i64 n10, .string s10, .slice a10 len10 cap10], .nilIface]) (results_cell_tmp Tryz.results18 rfl (RowV.load (C := #[.int .i64 op4, .int .i64 n4, .string s4, .slice a4 len4 cap4, .int .i64 op6, .int .i64 n6, .string s6, .slice a6 len6 cap6, .int .i64 op9, .int .i64 n9, .string s9, .slice a9 len9 cap9, .int .i64 op10, .int .i64 n10, .string s10, .slice a10 len10 cap10]) ?_)) rfl ⟨_, _, _, _, _, _, _, _, _, _, _, _, _, _, _, _, _, _, _, _, _, _, _, _, rfl, ?_, ?_, ?_, ?_, ?_⟩
        · rw [set16]
          first
            | exact ((unhide HR9).store #[.int .i64 op4, .int .i64 n4, .string s4, .slice a4 len4 cap4, .int .i64 op6, .int .i64 n6, .string s6, .slice a6 len6 cap6, .int .i64 op9, .int .i64 n9, .string s9, .slice a9 len9 cap9, .int .i64 op10, .int .i64 n10, .string s10, .slice a10 len10 cap10] rfl).drew
            | exact (unhide HR9).store #[.int .i64 op4, .int .i64 n4, .string s4, .slice a4 len4 cap4, .int .i64 op6, .int .i64 n6, .string s6, .slice a6 len6 cap6, .int .i64 op9, .int .i64 n9, .string s9, .slice a9 len9 cap9, .int .i64 op10, .int .i64 n10, .string s10, .slice a10 len10 cap10] rfl
        · rw [set16]
          exact ((unhide HLP9).read (unhide HZ9) (unhide HOP) _).below (Below.refl _ _).drew
        · rw [set16]
          exact ((unhide HLS9).read (unhide HZ9) (unhide HOKS) _).below (Below.refl _ _).drew
        · rw [set16]
          exact ((unhide HLC).read (unhide HZ9) (unhide HOC) _).below (Below.refl _ _).drew
        · rw [set16]
          exact ((unhide HLG).read (unhide HZ9) (unhide HOG) _).below (Below.refl _ _).drew
        · rw [set16]
          first
            | exact (below_setCells (unhide HB9) (by omega) _ 0).drew
            | exact below_setCells (unhide HB9) (by omega) _ 0

theorem three_ofT {l : List Tm} (h : l.length = 3) : ∃ p q r, l = [p, q, r] := by
  match l, h with
  | [p, q, r], _ => exact ⟨p, q, r, rfl⟩
theorem two_ofT {l : List Tm} (h : l.length = 2) : ∃ p q, l = [p, q] := by
  match l, h with
  | [p, q], _ => exact ⟨p, q, rfl⟩

theorem readI_none (e t : Tm) (op n : Int) (s : ByteArray) (a : Option Addr) (len cap : Nat) (op2 n2 : Int) (s2 : ByteArray) (a2 : Option Addr) (len2 cap2 : Nat) (x : Addr) (w : World) (he : ErrAt x w) (htab : Tab w) (hl : Lies w 0 e (tmCells op n s a len cap)) (hl2 : Lies w 0 t (tmCells op2 n2 s2 a2 len2 cap2)) (hst : e.size + t.size ≤ 1048578) (h : replyO e t = none) : Calls Tryz.prog 18 #[.agg #[.int .i64 op, .int .i64 n, .string s, .slice a len cap], .agg #[.int .i64 op2, .int .i64 n2, .string s2, .slice a2 len2 cap2]] w fun q w' => q = .returned (.tuple #[.agg #[.int .i64 0, .int .i64 0, .string ⟨#[]⟩, .slice none 0 0, .int .i64 0, .int .i64 0, .string ⟨#[]⟩, .slice none 0 0, .int .i64 0, .int .i64 0, .string ⟨#[]⟩, .slice none 0 0, .int .i64 0, .int .i64 0, .string ⟨#[]⟩, .slice none 0 0], .iface 128 (.pointer (some x))]) ∧ Below w.heap.size w w' := by
  cases hn : inO 2 t with
  | none => exact read_no1 t op n s a len cap op2 n2 s2 a2 len2 cap2 x w he hl2 (by have := e.size_pos; omega) hn
  | some l =>
    obtain ⟨k0, pub, sealed, rfl⟩ := three_ofT (inO_len hn)
    cases hs : sameB k0 (textT replyW) with
    | false => exact read_no2 e t k0 pub sealed op n s a len cap op2 n2 s2 a2 len2 cap2 x w he htab hl hl2 (by omega) hn hs
    | true =>
      cases hsh : shrB e pub with
      | false => exact read_no3 e t k0 pub sealed op n s a len cap op2 n2 s2 a2 len2 cap2 x w he htab hl hl2 (by omega) hn hs hsh
      | true =>
        cases hop : openO (keyT (shrT e pub) 0) 0 sealed with
        | none => exact read_no4 e t k0 pub sealed op n s a len cap op2 n2 s2 a2 len2 cap2 x w he htab hl hl2 (by omega) hn hs hsh hop
        | some body =>
          cases hin : inO 1 body with
          | none => exact read_no5 e t k0 pub sealed body op n s a len cap op2 n2 s2 a2 len2 cap2 x w he htab hl hl2 (by omega) hn hs hsh hop hin
          | some l2 =>
            obtain ⟨c, g, rfl⟩ := two_ofT (inO_len hin)
            exfalso
            simp only [replyO, hn, hs, hsh, hop, hin, if_true] at h
            cases h

theorem replyO_some {e t pub sh c g : Tm} (h : replyO e t = some (pub, sh, c, g)) : ∃ k0 sealed body, inO 2 t = some [k0, pub, sealed] ∧ sameB k0 (textT replyW) = true ∧ shrB e pub = true ∧ sh = shrT e pub ∧ openO (keyT (shrT e pub) 0) 0 sealed = some body ∧ inO 1 body = some [c, g] := by
  cases hn : inO 2 t with
  | none => simp only [replyO, hn] at h; cases h
  | some l =>
    obtain ⟨k0, pub', sealed, rfl⟩ := three_ofT (inO_len hn)
    cases hs : sameB k0 (textT replyW) with
    | false => simp only [replyO, hn, hs] at h; simp at h
    | true =>
      cases hsh : shrB e pub' with
      | false => simp only [replyO, hn, hs, hsh] at h; simp at h
      | true =>
        cases hop : openO (keyT (shrT e pub') 0) 0 sealed with
        | none => simp only [replyO, hn, hs, hsh, hop] at h; simp at h
        | some body =>
          cases hin : inO 1 body with
          | none => simp only [replyO, hn, hs, hsh, hop, hin] at h; simp at h
          | some l2 =>
            obtain ⟨c', g', rfl⟩ := two_ofT (inO_len hin)
            simp only [replyO, hn, hs, hsh, hop, hin, if_true, Option.some.injEq, Prod.mk.injEq] at h
            obtain ⟨rfl, rfl, rfl, rfl⟩ := h
            exact ⟨k0, sealed, body, rfl, hs, hsh, rfl, hop, hin⟩

/-- What is read is right. -/
theorem replyO_ok {e t pub sh c g : Tm} (h : replyO e t = some (pub, sh, c, g)) : okT pub = true ∧ okT sh = true ∧ okT c = true ∧ okT g = true := by
  obtain ⟨k0, sealed, body, h1, _, h3, rfl, _, h6⟩ := replyO_some h
  exact ⟨inO_ok h1 pub (by simp), shr_ok h3, inO_ok h6 c (by simp), inO_ok h6 g (by simp)⟩

theorem readI_some (e t pub sh c g : Tm) (op n : Int) (s : ByteArray) (a : Option Addr) (len cap : Nat) (op2 n2 : Int) (s2 : ByteArray) (a2 : Option Addr) (len2 cap2 : Nat) (x : Addr) (w : World) (he : ErrAt x w) (htab : Tab w) (hl : Lies w 0 e (tmCells op n s a len cap)) (hl2 : Lies w 0 t (tmCells op2 n2 s2 a2 len2 cap2)) (hst : e.size + t.size ≤ 1048578) (h : replyO e t = some (pub, sh, c, g)) : Calls Tryz.prog 18 #[.agg #[.int .i64 op, .int .i64 n, .string s, .slice a len cap], .agg #[.int .i64 op2, .int .i64 n2, .string s2, .slice a2 len2 cap2]] w fun q w' => ∃ op4 n4 s4 a4 len4 cap4 op6 n6 s6 a6 len6 cap6 op9 n9 s9 a9 len9 cap9 op10 n10 s10 a10 len10 cap10, q = .returned (.tuple #[.agg #[.int .i64 op4, .int .i64 n4, .string s4, .slice a4 len4 cap4, .int .i64 op6, .int .i64 n6, .string s6, .slice a6 len6 cap6, .int .i64 op9, .int .i64 n9, .string s9, .slice a9 len9 cap9, .int .i64 op10, .int .i64 n10, .string s10, .slice a10 len10 cap10], .nilIface]) ∧ Lies w' 0 pub (tmCells op4 n4 s4 a4 len4 cap4) ∧ Lies w' 0 sh (tmCells op6 n6 s6 a6 len6 cap6) ∧ Lies w' 0 c (tmCells op9 n9 s9 a9 len9 cap9) ∧ Lies w' 0 g (tmCells op10 n10 s10 a10 len10 cap10) ∧ Below w.heap.size w w' := by
  obtain ⟨k0, sealed, body, h1, h2, h3, rfl, h5, h6⟩ := replyO_some h
  exact read_yes e t k0 pub sealed body c g op n s a len cap op2 n2 s2 a2 len2 cap2 x w he htab hl hl2 (by omega) h1 h2 h3 h5 h6

end Go.Proofs.YtafoonabmijcdaaGreatDoor
