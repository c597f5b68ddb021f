
/- The walks of impl.Same and impl.behind: the second kid of a term that is right, of the operator that is asked for, and whose first kid is the one that is asked for; else zero and the named error; nothing that was there is written. The walk of impl.behind at a right term of the operator that is asked for: whether its first kid is the one that is asked for. The walk of impl.behind at a right term of the operator that is asked for: whether its first kid is the one that is asked for. impl.behind as a plain function, and its walk at whatever term: the second kid, or the named error. The walk of impl.certFields: the three that the atom 1 has signed in a term, laid in a new row; else none and the named error; nothing that was there is written. The walks of impl.leafOf and impl.plainOf: what a certificate has of texts and numbers, as it is written; nothing that was there is written. Numbers as they are written in digits: what strconv.Atoi reads of them; and its contract at whatever text. The walk of impl.readCert. A term that is what a certificate comes to; impl.readCert at whatever term: the certificate of which it is that, or the named error. The walks of impl.CertOf, impl.goodPub and impl.CertGood at whatever term; the answers in new blocks of their own; nothing that was there is written. The walks of spec.Pub and impl.Pub: of whatever term lies in memory they answer its open half where that is right, else the zero term; the second in new blocks of its own; nothing that was there is written. The walks of spec.l2Pub and spec.Signed, asked by the open half of the atom 1: what lies behind its signature, or zero and false; nothing that was there is written. -/
import Derived.Test.YtmklgikbajhcpaaGreatDoorTx
import Derived.Deep.RegionWith
import Derived.Deep.RegionHeld3
import Derived.Test.YtmklgikbajhcpaaGreatDoorHj
import Derived.Test.YtmklgikbajhcpaaGreatDoorCv
import Derived.ArgAppend
import Derived.Lib.AtoiTie
import Derived.Lib.AtoiAllCases
import Derived.Lib.SmallJoins
namespace Go.Proofs.YtmklgikbajhcpaaGreatDoor
open Go.RowKit Go.Deep

theorem same15 (t t' : Tm) (op n : Int) (s : ByteArray) (a : Option Addr) (len cap : Nat) (op' n' : Int) (s' : ByteArray) (a' : Option Addr) (len' cap' : Nat) (w : World) (hl : Lies w 0 t (tmCells op n s a len cap)) (hl' : Lies w 0 t' (tmCells op' n' s' a' len' cap'))
    (hsz : t.size ≤ 2097152) :
    Calls Tryz.prog 21 #[.agg #[.int .i64 op, .int .i64 n, .string s, .slice a len cap], .agg #[.int .i64 op', .int .i64 n', .string s', .slice a' len' cap']] w fun e w' => e = .returned (.bool (sameB t t')) ∧ Below w.heap.size w w' := by
  have h24 := hide (cmp24 t t' op n s a len cap op' n' s' a' len' cap')
  have HL := hide hl
  have HL' := hide hl'
  have HB : Hid (∀ c : Int, c = cmpT t t' → sameB t t' = (c == 0)) := fun c hc => by rw [hc]; unfold sameB; rw [Bool.eq_iff_iff]; simp
  generalize cmpT t t' = C at *
  clear hl hl'
  go_enter Tryz.func21, Tryz.ntmps21
  go_wp2_with fail
  refine (unhide h24 _ ((unhide HL).below (((Below.refl _ _).alloc (Nat.le_refl _) _).alloc (by simp) _)) ((unhide HL').below (((Below.refl _ _).alloc (Nat.le_refl _) _).alloc (by simp) _)) hsz).mono ?_
  rintro e w2 ⟨rfl, hb2⟩
  go_wp2_with fail
  go_ret
  exact ⟨ret_bool (unhide HB _ rfl).symm, (((Below.refl _ _).alloc (Nat.le_refl _) _).alloc (by simp) _).trans (hb2.mono (by simp; omega))⟩

/-- The three boxes of impl.behind: what they hold, and that what was there stays. -/
structure Three (w W0 : World) (op n : Int) (s : ByteArray) (a : Option Addr) (len cap : Nat) (op2 n2 : Int) (s2 : ByteArray) (a2 : Option Addr) (len2 cap2 : Nat) : Prop where
  ra : RowT 29 W0 w.heap.size op n s a len cap
  rb : RowT 29 W0 (w.heap.size + 1) op2 n2 s2 a2 len2 cap2
  rz : RowT 29 W0 (w.heap.size + 1 + 1) 0 0 ByteArray.empty none 0 0
  bel : Below w.heap.size w W0

theorem threeB (w : World) (op n : Int) (s : ByteArray) (a : Option Addr) (len cap : Nat) (op2 n2 : Int) (s2 : ByteArray) (a2 : Option Addr) (len2 cap2 : Nat) :
    Three w (((w.alloc (.cells #[.int .i64 op, .int .i64 n, .string s, .slice a len cap] 29)).alloc (.cells #[.int .i64 op2, .int .i64 n2, .string s2, .slice a2 len2 cap2] 29)).alloc (.cells #[.int .i64 0, .int .i64 0, .string ByteArray.empty, .slice none 0 0] 29)) op n s a len cap op2 n2 s2 a2 len2 cap2 where
  ra := ((RowT.new 29 w op n s a len cap).below (ab _)).below (ab _)
  rb := by
    have := (RowT.new 29 (w.alloc (.cells #[.int .i64 op, .int .i64 n, .string s, .slice a len cap] 29)) op2 n2 s2 a2 len2 cap2).below (ab (.cells #[.int .i64 0, .int .i64 0, .string ByteArray.empty, .slice none 0 0] 29))
    rwa [heap_size_alloc] at this
  rz := by
    have := RowT.new 29 ((w.alloc (.cells #[.int .i64 op, .int .i64 n, .string s, .slice a len cap] 29)).alloc (.cells #[.int .i64 op2, .int .i64 n2, .string s2, .slice a2 len2 cap2] 29)) 0 0 ByteArray.empty none 0 0
    rwa [heap_size_alloc, heap_size_alloc] at this
  bel := bt (bt (ab _) (ab _) (Nat.le_refl _)) (ab _) (Nat.le_refl _)

set_option maxRecDepth 100000 in
set_option maxHeartbeats 2000000 in
theorem behind_no1 (o : Int) (op n : Int) (s : ByteArray) (a : Option Addr) (len cap : Nat) (op2 n2 : Int) (s2 : ByteArray) (a2 : Option Addr) (len2 cap2 : Nat) (x : Addr) (w : World) (he : ErrAt x w) (ho : op2 ≠ o) :
    Calls Tryz.prog 131 #[.int .i64 o, .agg #[.int .i64 op, .int .i64 n, .string s, .slice a len cap], .agg #[.int .i64 op2, .int .i64 n2, .string s2, .slice a2 len2 cap2]] w fun e w' => e = .returned (.tuple #[.agg #[.int .i64 0, .int .i64 0, .string ByteArray.empty, .slice none 0 0], .iface 202 (.pointer (some x))]) ∧ Below w.heap.size w w' := by
  have h3 := threeB w op n s a len cap op2 n2 s2 a2 len2 cap2
  have q1 : (op2 != o) = true := by simpa using ho
  go_enter Tryz.func131, Tryz.ntmps131
  go_wp2_with fail
  generalize hgw : (((w.alloc (.cells #[.int .i64 op, .int .i64 n, .string s, .slice a len cap] 29)).alloc (.cells #[.int .i64 op2, .int .i64 n2, .string s2, .slice a2 len2 cap2] 29)).alloc (.cells #[.int .i64 0, .int .i64 0, .string ByteArray.empty, .slice none 0 0] 29)) = W0 at *
  refine gw_world hgw ?_
  clear hgw
  have HB := hide h3.bel
  have g0 := (he.on h3.bel).cell
  obtain ⟨c0, c1, c2, c3⟩ := h3.rb.facts
  obtain ⟨d0, d1, d2, d3⟩ := h3.rz.facts
  obtain ⟨e0, e1, e2, e3⟩ := h3.rz.frozen
  have hne : (w.heap.size + 1 + 1 = 0) = False := by simp
  have hne' : (0 = w.heap.size + 1 + 1) = False := by simp
  clear h3 he
  first
    | go_region_with fail
    | fail
  all_goals go_wp2_with fail
  all_goals go_region
  all_goals go_wp2_with fail
  all_goals
    exact bodyPost_ret (v := .tuple #[.agg #[.int .i64 0, .int .i64 0, .string ByteArray.empty, .slice none 0 0], .iface 202 (.pointer (some x))]) (by simp [results, Tryz.results131, go_sem, d0, d1, d2, d3]; try rfl) rfl ⟨rfl, (set4_below (unhide HB) (by omega)).drew.drew⟩

set_option maxRecDepth 100000 in
set_option maxHeartbeats 2000000 in
theorem behind_no2 (t : Tm) (o : Int) (op n : Int) (s : ByteArray) (a : Option Addr) (len cap : Nat) (op2 n2 : Int) (s2 : ByteArray) (a2 : Option Addr) (len2 cap2 : Nat) (x : Addr) (w : World) (he : ErrAt x w) (ho : op2 = o) (hl : Lies w 0 t (tmCells op2 n2 s2 a2 len2 cap2)) (hsz : t.size ≤ 2097152) (hok : okT t = false) :
    Calls Tryz.prog 131 #[.int .i64 o, .agg #[.int .i64 op, .int .i64 n, .string s, .slice a len cap], .agg #[.int .i64 op2, .int .i64 n2, .string s2, .slice a2 len2 cap2]] w fun e w' => e = .returned (.tuple #[.agg #[.int .i64 0, .int .i64 0, .string ByteArray.empty, .slice none 0 0], .iface 202 (.pointer (some x))]) ∧ Below w.heap.size w w' := by
  subst ho
  have h29 := hide (ok10 t op2 n2 s2 a2 len2 cap2)
  rw [hok] at h29
  have h3 := threeB w op n s a len cap op2 n2 s2 a2 len2 cap2
  have q1 : (op2 != op2) = false := by simp
  go_enter Tryz.func131, Tryz.ntmps131
  go_wp2_with fail
  generalize hgw : (((w.alloc (.cells #[.int .i64 op, .int .i64 n, .string s, .slice a len cap] 29)).alloc (.cells #[.int .i64 op2, .int .i64 n2, .string s2, .slice a2 len2 cap2] 29)).alloc (.cells #[.int .i64 0, .int .i64 0, .string ByteArray.empty, .slice none 0 0] 29)) = W0 at *
  refine gw_world hgw ?_
  clear hgw
  have HB0 := hide h3.bel
  have HE := hide (he.on h3.bel)
  have HL := hide (hl.below h3.bel)
  have HR := hide h3.rz
  have HR1 := hide h3.rb
  obtain ⟨c0, c1, c2, c3⟩ := h3.rb.facts
  have hne : (w.heap.size + 1 + 1 = 0) = False := by simp
  have hne' : (0 = w.heap.size + 1 + 1) = False := by simp
  clear h3 he hl hok
  first
    | go_region_with (go_at_call 36; refine (unhide h29 _ ((unhide HL).below (Below.refl _ _).drew) hsz).mono ?_; rintro e w2 ⟨rfl, hb2⟩; have hb2' := below_drew' hb2; have HB := hide (bt (unhide HB0) hb2' (Nat.le_refl _)); have g0 := ((unhide HE).on hb2').cell; obtain ⟨d0, d1, d2, d3⟩ := ((unhide HR).below hb2').facts; obtain ⟨e0, e1, e2, e3⟩ := ((unhide HR).below hb2').frozen; have k0 := kpc hb2' c0; have k1 := kpc hb2' c1; have k2 := kpc hb2' c2; have k3 := kpc hb2' c3)
    | fail
  all_goals go_wp2_with fail
  all_goals go_region
  all_goals go_wp2_with fail
  all_goals
    exact bodyPost_ret (v := .tuple #[.agg #[.int .i64 0, .int .i64 0, .string ByteArray.empty, .slice none 0 0], .iface 202 (.pointer (some x))]) (by simp [results, Tryz.results131, go_sem, d0, d1, d2, d3]; try rfl) rfl ⟨rfl, (set4_below (unhide HB) (by omega)).drew⟩

set_option maxRecDepth 100000 in
set_option maxHeartbeats 2000000 in
theorem behind_no3 (f k0 k1 : Tm) (op n : Int) (s : ByteArray) (a : Option Addr) (len cap : Nat) (op2 n2 : Int) (s2 : ByteArray) (b q cap2 : Nat) (op3 n3 : Int) (s3 : ByteArray) (a3 : Option Addr) (len3 cap3 : Nat) (op4 n4 : Int) (s4 : ByteArray) (a4 : Option Addr) (len4 cap4 : Nat) (x : Addr) (w : World) (he : ErrAt x w)
    (hlf : Lies w 0 f (tmCells op n s a len cap)) (hl : Lies w 0 (.node op2 n2 s2 [k0, k1]) (tmCells op2 n2 s2 (some ⟨b, q, none⟩) 2 cap2)) (hsz : (Tm.node op2 n2 s2 [k0, k1]).size ≤ 2097152) (hok : okT (.node op2 n2 s2 [k0, k1]) = true)
    (r0 : w.cell? ⟨b, q, none⟩ = some (.int .i64 op3)) (r1 : w.cell? ⟨b, q + 1, none⟩ = some (.int .i64 n3)) (r2 : w.cell? ⟨b, q + 2, none⟩ = some (.string s3)) (r3 : w.cell? ⟨b, q + 3, none⟩ = some (.slice a3 len3 cap3)) (hk0 : Lies w 0 k0 (tmCells op3 n3 s3 a3 len3 cap3))
    (r4 : w.cell? ⟨b, q + 4, none⟩ = some (.int .i64 op4)) (r5 : w.cell? ⟨b, q + 5, none⟩ = some (.int .i64 n4)) (r6 : w.cell? ⟨b, q + 6, none⟩ = some (.string s4)) (r7 : w.cell? ⟨b, q + 7, none⟩ = some (.slice a4 len4 cap4)) (hsm : sameB k0 f = false) :
    Calls Tryz.prog 131 #[.int .i64 op2, .agg #[.int .i64 op, .int .i64 n, .string s, .slice a len cap], .agg #[.int .i64 op2, .int .i64 n2, .string s2, .slice (some ⟨b, q, none⟩) 2 cap2]] w fun e w' => e = .returned (.tuple #[.agg #[.int .i64 0, .int .i64 0, .string ByteArray.empty, .slice none 0 0], .iface 202 (.pointer (some x))]) ∧ Below w.heap.size w w' := by
  have h29 := hide (ok10 (.node op2 n2 s2 [k0, k1]) op2 n2 s2 (some ⟨b, q, none⟩) 2 cap2)
  rw [hok] at h29
  have h24 := hide (same15 k0 f op3 n3 s3 a3 len3 cap3 op n s a len cap)
  rw [hsm] at h24
  have HZ0 : Hid (k0.size ≤ 2097152) := by show _ ≤ _; simp only [Tm.size, Tm.sizes] at hsz; omega
  have h3 := threeB w op n s a len cap op2 n2 s2 (some ⟨b, q, none⟩) 2 cap2
  have q1 : (op2 != op2) = false := by simp
  go_enter Tryz.func131, Tryz.ntmps131
  go_wp2_with fail
  generalize hgw : (((w.alloc (.cells #[.int .i64 op, .int .i64 n, .string s, .slice a len cap] 29)).alloc (.cells #[.int .i64 op2, .int .i64 n2, .string s2, .slice (some ⟨b, q, none⟩) 2 cap2] 29)).alloc (.cells #[.int .i64 0, .int .i64 0, .string ByteArray.empty, .slice none 0 0] 29)) = W0 at *
  refine gw_world hgw ?_
  clear hgw
  have HB0 := hide h3.bel
  have HE := hide (he.on h3.bel)
  have HL := hide (hl.below h3.bel)
  have HLF := hide (hlf.below h3.bel)
  have HLK := hide (hk0.below h3.bel)
  have HR := hide h3.rz
  have HRA := hide h3.ra
  have HRB := hide h3.rb
  have HK := hide (And.intro (kpc h3.bel r0) (And.intro (kpc h3.bel r1) (And.intro (kpc h3.bel r2) (kpc h3.bel r3))))
  have HK1 := hide (And.intro (kpc h3.bel r4) (And.intro (kpc h3.bel r5) (And.intro (kpc h3.bel r6) (kpc h3.bel r7))))
  obtain ⟨c0, c1, c2, c3⟩ := h3.rb.facts
  have hne : (w.heap.size + 1 + 1 = 0) = False := by simp
  have hne' : (0 = w.heap.size + 1 + 1) = False := by simp
  clear h3 he hl hlf hk0 hok hsm r0 r1 r2 r3 r4 r5 r6 r7
  first
    | go_region_with (first | (go_at_call 36; refine (unhide h29 _ ((unhide HL).below (Below.refl _ _).drew) hsz).mono ?_; rintro e w2 ⟨rfl, hb2⟩; have hb2' := hide (below_drew' hb2); clear hb2; obtain ⟨k0, k1, k2, k3⟩ := ((unhide HRB).below (unhide hb2')).facts; obtain ⟨j0, j1, j2, j3⟩ := ((unhide HRA).below (unhide hb2')).facts; have i0 := kpc (unhide hb2') (unhide HK).1; have i1 := kpc (unhide hb2') (unhide HK).2.1; have i2 := kpc (unhide hb2') (unhide HK).2.2.1; have i3 := kpc (unhide hb2') (unhide HK).2.2.2) | (go_at_call 21; refine (unhide h24 _ ((unhide HLK).below (unhide hb2')) ((unhide HLF).below (unhide hb2')) (unhide HZ0)).mono ?_; rintro e w3 ⟨rfl, hb3⟩; have hb3' := hide hb3; clear hb3 k0 k1 k2 k3 j0 j1 j2 j3 i0 i1 i2 i3; have HB := hide (bt (bt (unhide HB0) (unhide hb2') (Nat.le_refl _)) (unhide hb3') (Nat.le_refl _)); have g0 := (((unhide HE).on (unhide hb2')).on (unhide hb3')).cell; obtain ⟨d0, d1, d2, d3⟩ := (((unhide HR).below (unhide hb2')).below (unhide hb3')).facts; obtain ⟨e0, e1, e2, e3⟩ := (((unhide HR).below (unhide hb2')).below (unhide hb3')).frozen; obtain ⟨k0, k1, k2, k3⟩ := (((unhide HRB).below (unhide hb2')).below (unhide hb3')).facts; have i4 := kpc (unhide hb3') (kpc (unhide hb2') (unhide HK1).1); have i5 := kpc (unhide hb3') (kpc (unhide hb2') (unhide HK1).2.1); have i6 := kpc (unhide hb3') (kpc (unhide hb2') (unhide HK1).2.2.1); have i7 := kpc (unhide hb3') (kpc (unhide hb2') (unhide HK1).2.2.2)))
    | fail
  all_goals go_wp2_with fail
  all_goals go_region
  all_goals go_wp2_with fail
  all_goals
    exact bodyPost_ret (v := .tuple #[.agg #[.int .i64 0, .int .i64 0, .string ByteArray.empty, .slice none 0 0], .iface 202 (.pointer (some x))]) (by simp [results, Tryz.results131, go_sem, d0, d1, d2, d3]; try rfl) rfl ⟨rfl, (set4_below (unhide HB) (by omega)).drew⟩

set_option maxRecDepth 100000 in
set_option maxHeartbeats 2000000 in
theorem behind_yes (f k0 k1 : Tm) (op n : Int) (s : ByteArray) (a : Option Addr) (len cap : Nat) (op2 n2 : Int) (s2 : ByteArray) (b q cap2 : Nat) (op3 n3 : Int) (s3 : ByteArray) (a3 : Option Addr) (len3 cap3 : Nat) (op4 n4 : Int) (s4 : ByteArray) (a4 : Option Addr) (len4 cap4 : Nat) (x : Addr) (w : World) (he : ErrAt x w)
    (hlf : Lies w 0 f (tmCells op n s a len cap)) (hl : Lies w 0 (.node op2 n2 s2 [k0, k1]) (tmCells op2 n2 s2 (some ⟨b, q, none⟩) 2 cap2)) (hsz : (Tm.node op2 n2 s2 [k0, k1]).size ≤ 2097152) (hok : okT (.node op2 n2 s2 [k0, k1]) = true)
    (r0 : w.cell? ⟨b, q, none⟩ = some (.int .i64 op3)) (r1 : w.cell? ⟨b, q + 1, none⟩ = some (.int .i64 n3)) (r2 : w.cell? ⟨b, q + 2, none⟩ = some (.string s3)) (r3 : w.cell? ⟨b, q + 3, none⟩ = some (.slice a3 len3 cap3)) (hk0 : Lies w 0 k0 (tmCells op3 n3 s3 a3 len3 cap3))
    (r4 : w.cell? ⟨b, q + 4, none⟩ = some (.int .i64 op4)) (r5 : w.cell? ⟨b, q + 5, none⟩ = some (.int .i64 n4)) (r6 : w.cell? ⟨b, q + 6, none⟩ = some (.string s4)) (r7 : w.cell? ⟨b, q + 7, none⟩ = some (.slice a4 len4 cap4)) (hsm : sameB k0 f = true) :
    Calls Tryz.prog 131 #[.int .i64 op2, .agg #[.int .i64 op, .int .i64 n, .string s, .slice a len cap], .agg #[.int .i64 op2, .int .i64 n2, .string s2, .slice (some ⟨b, q, none⟩) 2 cap2]] w fun e w' => e = .returned (.tuple #[.agg #[.int .i64 op4, .int .i64 n4, .string s4, .slice a4 len4 cap4], .nilIface]) ∧ Below w.heap.size w w' := by
  have h29 := hide (ok10 (.node op2 n2 s2 [k0, k1]) op2 n2 s2 (some ⟨b, q, none⟩) 2 cap2)
  rw [hok] at h29
  have h24 := hide (same15 k0 f op3 n3 s3 a3 len3 cap3 op n s a len cap)
  rw [hsm] at h24
  have HZ0 : Hid (k0.size ≤ 2097152) := by show _ ≤ _; simp only [Tm.size, Tm.sizes] at hsz; omega
  have h3 := threeB w op n s a len cap op2 n2 s2 (some ⟨b, q, none⟩) 2 cap2
  have q1 : (op2 != op2) = false := by simp
  go_enter Tryz.func131, Tryz.ntmps131
  go_wp2_with fail
  generalize hgw : (((w.alloc (.cells #[.int .i64 op, .int .i64 n, .string s, .slice a len cap] 29)).alloc (.cells #[.int .i64 op2, .int .i64 n2, .string s2, .slice (some ⟨b, q, none⟩) 2 cap2] 29)).alloc (.cells #[.int .i64 0, .int .i64 0, .string ByteArray.empty, .slice none 0 0] 29)) = W0 at *
  refine gw_world hgw ?_
  clear hgw
  have HB0 := hide h3.bel
  have HE := hide (he.on h3.bel)
  have HL := hide (hl.below h3.bel)
  have HLF := hide (hlf.below h3.bel)
  have HLK := hide (hk0.below h3.bel)
  have HR := hide h3.rz
  have HRA := hide h3.ra
  have HRB := hide h3.rb
  have HK := hide (And.intro (kpc h3.bel r0) (And.intro (kpc h3.bel r1) (And.intro (kpc h3.bel r2) (kpc h3.bel r3))))
  have HK1 := hide (And.intro (kpc h3.bel r4) (And.intro (kpc h3.bel r5) (And.intro (kpc h3.bel r6) (kpc h3.bel r7))))
  obtain ⟨c0, c1, c2, c3⟩ := h3.rb.facts
  have hne : (w.heap.size + 1 + 1 = 0) = False := by simp
  have hne' : (0 = w.heap.size + 1 + 1) = False := by simp
  clear h3 he hl hlf hk0 hok hsm r0 r1 r2 r3 r4 r5 r6 r7
  first
    | go_region_with (first | (go_at_call 36; refine (unhide h29 _ ((unhide HL).below (Below.refl _ _).drew) hsz).mono ?_; rintro e w2 ⟨rfl, hb2⟩; have hb2' := hide (below_drew' hb2); clear hb2; obtain ⟨k0, k1, k2, k3⟩ := ((unhide HRB).below (unhide hb2')).facts; obtain ⟨j0, j1, j2, j3⟩ := ((unhide HRA).below (unhide hb2')).facts; have i0 := kpc (unhide hb2') (unhide HK).1; have i1 := kpc (unhide hb2') (unhide HK).2.1; have i2 := kpc (unhide hb2') (unhide HK).2.2.1; have i3 := kpc (unhide hb2') (unhide HK).2.2.2) | (go_at_call 21; refine (unhide h24 _ ((unhide HLK).below (unhide hb2')) ((unhide HLF).below (unhide hb2')) (unhide HZ0)).mono ?_; rintro e w3 ⟨rfl, hb3⟩; have hb3' := hide hb3; clear hb3 k0 k1 k2 k3 j0 j1 j2 j3 i0 i1 i2 i3; have HB := hide (bt (bt (unhide HB0) (unhide hb2') (Nat.le_refl _)) (unhide hb3') (Nat.le_refl _)); have g0 := (((unhide HE).on (unhide hb2')).on (unhide hb3')).cell; obtain ⟨d0, d1, d2, d3⟩ := (((unhide HR).below (unhide hb2')).below (unhide hb3')).facts; obtain ⟨e0, e1, e2, e3⟩ := (((unhide HR).below (unhide hb2')).below (unhide hb3')).frozen; obtain ⟨k0, k1, k2, k3⟩ := (((unhide HRB).below (unhide hb2')).below (unhide hb3')).facts; have i4 := kpc (unhide hb3') (kpc (unhide hb2') (unhide HK1).1); have i5 := kpc (unhide hb3') (kpc (unhide hb2') (unhide HK1).2.1); have i6 := kpc (unhide hb3') (kpc (unhide hb2') (unhide HK1).2.2.1); have i7 := kpc (unhide hb3') (kpc (unhide hb2') (unhide HK1).2.2.2)))
    | fail
  all_goals go_wp2_with fail
  all_goals
    exact bodyPost_ret (v := .tuple #[.agg #[.int .i64 op4, .int .i64 n4, .string s4, .slice a4 len4 cap4], .nilIface]) (by simp [results, Tryz.results131, go_sem, d0, d1, d2, d3]; try rfl) rfl ⟨rfl, set4_below (unhide HB) (by omega)⟩

/-- The second kid of a right term of that operator and of that first kid. -/
def behO (o : Int) (f : Tm) : Tm → Option Tm
  | .node op n s ks => match ks with
    | [k0, k1] => if (decide (op = o) && okT (.node op n s [k0, k1]) && sameB k0 f) = true then some k1 else none
    | _ => none

theorem ok_two {o n : Int} {s : ByteArray} {ks : List Tm} (ho : o = 3 ∨ o = 7 ∨ o = 8) (h : okT (.node o n s ks) = true) : ∃ k0 k1, ks = [k0, k1] := by
  have hl : ks.length = 2 := by
    simp only [okT, rightT, Bool.and_eq_true, headB, decide_eq_true_eq] at h
    have hk : kidsOf o = 2 := by rcases ho with rfl | rfl | rfl <;> decide
    rcases ho with rfl | rfl | rfl
    · have := h.2.1.1
      simp [kidsOf] at this
      omega
    · have := h.2.1.1
      simp [kidsOf] at this
      omega
    · have := h.2.1.1
      simp [kidsOf] at this
      omega
  match ks, hl with
  | [k0, k1], _ => exact ⟨k0, k1, rfl⟩

/-- The two kids of a term that lies in memory. -/
theorem lies_kids {w : World} {op n : Int} {s : ByteArray} {k0 k1 : Tm} {op2 n2 : Int} {s2 : ByteArray} {a2 : Option Addr} {len2 cap2 : Nat} (hl : Lies w 0 (.node op n s [k0, k1]) (tmCells op2 n2 s2 a2 len2 cap2)) :
    op2 = op ∧ n2 = n ∧ s2 = s ∧ len2 = 2 ∧ ∃ b q op3 n3 s3 a3 len3 cap3 op4 n4 s4 a4 len4 cap4, a2 = some ⟨b, q, none⟩ ∧
      (w.cell? ⟨b, q, none⟩ = some (.int .i64 op3) ∧ w.cell? ⟨b, q + 1, none⟩ = some (.int .i64 n3) ∧ w.cell? ⟨b, q + 2, none⟩ = some (.string s3) ∧ w.cell? ⟨b, q + 3, none⟩ = some (.slice a3 len3 cap3) ∧ Lies w 0 k0 (tmCells op3 n3 s3 a3 len3 cap3)) ∧
      (w.cell? ⟨b, q + 4, none⟩ = some (.int .i64 op4) ∧ w.cell? ⟨b, q + 5, none⟩ = some (.int .i64 n4) ∧ w.cell? ⟨b, q + 6, none⟩ = some (.string s4) ∧ w.cell? ⟨b, q + 7, none⟩ = some (.slice a4 len4 cap4) ∧ Lies w 0 k1 (tmCells op4 n4 s4 a4 len4 cap4)) := by
  have hx := hl
  simp only [Lies, tmCells, List.cons.injEq, Value.int.injEq, Value.string.injEq, Value.slice.injEq, true_and, and_true] at hx
  obtain ⟨a9, c9, ⟨rfl, rfl, rfl, rfl, rfl, rfl⟩, _, _, hka⟩ := hx
  obtain ⟨b, q, op3, n3, s3, a3, len3, cap3, rfl, _, _, r0, r1, r2, r3, hk0⟩ := hka.elem (k := 0) (by simp)
  obtain ⟨b', q', op4, n4, s4, a4, len4, cap4, hab, _, _, r4, r5, r6, r7, hk1⟩ := hka.elem (k := 1) (by simp)
  simp only [Option.some.injEq, Addr.mk.injEq, and_true] at hab
  obtain ⟨rfl, rfl⟩ := hab
  simp only [Nat.zero_mul, Nat.add_zero, Nat.one_mul] at r0 r1 r2 r3 r4 r5 r6 r7
  refine ⟨rfl, rfl, rfl, by simp, b, q, op3, n3, s3, a3, len3, cap3, op4, n4, s4, a4, len4, cap4, rfl, ⟨r0, r1, r2, r3, hk0⟩, ⟨r4, ?_, ?_, ?_, hk1⟩⟩
  · exact r5
  · exact r6
  · exact r7

theorem behind_none (o : Int) (ho : o = 3 ∨ o = 7 ∨ o = 8) (f t : Tm) (op n : Int) (s : ByteArray) (a : Option Addr) (len cap : Nat) (op2 n2 : Int) (s2 : ByteArray) (a2 : Option Addr) (len2 cap2 : Nat) (x : Addr) (w : World) (he : ErrAt x w) (hlf : Lies w 0 f (tmCells op n s a len cap)) (hl : Lies w 0 t (tmCells op2 n2 s2 a2 len2 cap2)) (hsz : t.size ≤ 2097152) (hb : behO o f t = none) :
    Calls Tryz.prog 131 #[.int .i64 o, .agg #[.int .i64 op, .int .i64 n, .string s, .slice a len cap], .agg #[.int .i64 op2, .int .i64 n2, .string s2, .slice a2 len2 cap2]] w fun e w' => e = .returned (.tuple #[.agg #[.int .i64 0, .int .i64 0, .string ByteArray.empty, .slice none 0 0], .iface 202 (.pointer (some x))]) ∧ Below w.heap.size w w' := by
  by_cases h1 : op2 = o
  · cases hok : okT t with
    | false => exact behind_no2 t o op n s a len cap op2 n2 s2 a2 len2 cap2 x w he h1 hl hsz hok
    | true =>
      obtain ⟨opt, nt, st, ks⟩ := t
      have h2 : op2 = opt := by
        have hx := hl
        simp only [Lies, tmCells, List.cons.injEq, Value.int.injEq, true_and] at hx
        obtain ⟨_, _, ⟨h, _⟩, _⟩ := hx
        exact h
      subst h2
      subst h1
      obtain ⟨k0, k1, rfl⟩ := ok_two ho hok
      obtain ⟨-, rfl, rfl, rfl, b, q, op3, n3, s3, a3, len3, cap3, op4, n4, s4, a4, len4, cap4, rfl, ⟨r0, r1, r2, r3, hk0⟩, r4, r5, r6, r7, hk1⟩ := lies_kids hl
      refine behind_no3 f k0 k1 op n s a len cap op2 n2 s2 b q cap2 op3 n3 s3 a3 len3 cap3 op4 n4 s4 a4 len4 cap4 x w he hlf hl hsz hok r0 r1 r2 r3 hk0 r4 r5 r6 r7 ?_
      simp only [behO, hok, decide_true, Bool.true_and] at hb
      cases hs : sameB k0 f with
      | false => rfl
      | true => rw [hs] at hb; simp at hb
  · exact behind_no1 o op n s a len cap op2 n2 s2 a2 len2 cap2 x w he h1

theorem behO_some {o : Int} {f t k : Tm} (h : behO o f t = some k) : ∃ n s k0, t = .node o n s [k0, k] ∧ okT t = true ∧ sameB k0 f = true := by
  obtain ⟨opt, nt, st, ks⟩ := t
  simp only [behO] at h
  split at h
  · rename_i k0 k1
    split at h
    · rename_i hc
      simp only [Bool.and_eq_true, decide_eq_true_eq] at hc
      obtain ⟨⟨rfl, hok⟩, hs⟩ := hc
      simp only [Option.some.injEq] at h
      subst h
      exact ⟨_, _, _, rfl, hok, hs⟩
    · cases h
  · cases h

theorem behind_some (o : Int) (f t k : Tm) (op n : Int) (s : ByteArray) (a : Option Addr) (len cap : Nat) (op2 n2 : Int) (s2 : ByteArray) (a2 : Option Addr) (len2 cap2 : Nat) (x : Addr) (w : World) (he : ErrAt x w) (hlf : Lies w 0 f (tmCells op n s a len cap)) (hl : Lies w 0 t (tmCells op2 n2 s2 a2 len2 cap2)) (hsz : t.size ≤ 2097152) (hb : behO o f t = some k) :
    Calls Tryz.prog 131 #[.int .i64 o, .agg #[.int .i64 op, .int .i64 n, .string s, .slice a len cap], .agg #[.int .i64 op2, .int .i64 n2, .string s2, .slice a2 len2 cap2]] w fun e w' => ∃ op4 n4 s4 a4 len4 cap4, e = .returned (.tuple #[.agg #[.int .i64 op4, .int .i64 n4, .string s4, .slice a4 len4 cap4], .nilIface]) ∧ Lies w' 0 k (tmCells op4 n4 s4 a4 len4 cap4) ∧ Below w.heap.size w w' := by
  obtain ⟨nt, st, k0, rfl, hok, hs⟩ := behO_some hb
  obtain ⟨rfl, rfl, rfl, rfl, b, q, op3, n3, s3, a3, len3, cap3, op4, n4, s4, a4, len4, cap4, rfl, ⟨r0, r1, r2, r3, hk0⟩, r4, r5, r6, r7, hk1⟩ := lies_kids hl
  refine (behind_yes f k0 k op n s a len cap op2 n2 s2 b q cap2 op3 n3 s3 a3 len3 cap3 op4 n4 s4 a4 len4 cap4 x w he hlf hl hsz hok r0 r1 r2 r3 hk0 r4 r5 r6 r7 hs).mono ?_
  rintro e w' ⟨he', hb'⟩
  exact ⟨_, _, _, _, _, _, he', hk1.below hb', hb'⟩

/-- The box of what lies behind the signature. -/
def BodyCut (W0 : World) (p : Value) (wx : World) (op4 n4 : Int) (s4 : ByteArray) (a4 : Option Addr) (len4 cap4 : Nat) : Prop := ∃ g, p = .pointer (some ⟨g, 0, none⟩) ∧ RowT 29 wx g op4 n4 s4 a4 len4 cap4 ∧ Below W0.heap.size W0 wx
theorem BodyCut.late {W0 X : World} {op4 n4 : Int} {s4 : ByteArray} {a4 : Option Addr} {len4 cap4 : Nat} (hb : Below W0.heap.size W0 X) :
    BodyCut W0 (.pointer (some ⟨X.heap.size, 0, none⟩)) (X.alloc (.cells #[.int .i64 op4, .int .i64 n4, .string s4, .slice a4 len4 cap4] 29)) op4 n4 s4 a4 len4 cap4 := ⟨_, rfl, RowT.new 29 X op4 n4 s4 a4 len4 cap4, bt hb (ab _) (Nat.le_refl _)⟩
theorem BodyCut.early {W0 X Y : World} {g : Nat} {op4 n4 : Int} {s4 : ByteArray} {a4 : Option Addr} {len4 cap4 : Nat} (hb : Below W0.heap.size W0 X) (hz : ZBox X g) (hg : W0.heap.size ≤ g)
    (hY : Y = ((((X.setCell ⟨g, 0, none⟩ (.int .i64 op4)).setCell ⟨g, 1, none⟩ (.int .i64 n4)).setCell ⟨g, 2, none⟩ (.string s4)).setCell ⟨g, 3, none⟩ (.slice a4 len4 cap4))) : BodyCut W0 (.pointer (some ⟨g, 0, none⟩)) Y op4 n4 s4 a4 len4 cap4 :=
  ⟨g, rfl, by rw [hY]; exact fill26 hz op4 n4 s4 a4 len4 cap4, by rw [hY]; exact set4_below hb hg⟩

set_option maxRecDepth 100000 in
set_option maxHeartbeats 4000000 in
theorem fields_no1 (op2 n2 : Int) (s2 : ByteArray) (a2 : Option Addr) (len2 cap2 : Nat) (x : Addr) (w : World) (he : ErrAt x w)
    (hb54 : ∀ v, Below w.heap.size w v → ErrAt x v → Calls Tryz.prog 131 #[.int .i64 8, .agg #[.int .i64 1, .int .i64 1, .string ByteArray.empty, .slice none 0 0], .agg #[.int .i64 op2, .int .i64 n2, .string s2, .slice a2 len2 cap2]] v fun e w' => e = .returned (.tuple #[.agg #[.int .i64 0, .int .i64 0, .string ByteArray.empty, .slice none 0 0], .iface 202 (.pointer (some x))]) ∧ Below v.heap.size v w') :
    Calls Tryz.prog 139 #[.agg #[.int .i64 op2, .int .i64 n2, .string s2, .slice a2 len2 cap2]] w fun e w' => e = .returned (.tuple #[.slice none 0 0, .iface 202 (.pointer (some x))]) ∧ Below w.heap.size w w' := by
  have h54 := hide hb54
  clear hb54
  have hB0 : Below w.heap.size w (w.alloc (.cells #[.int .i64 op2, .int .i64 n2, .string s2, .slice a2 len2 cap2] 29)) := ab _
  have HR : Hid (RowT 29 (w.alloc (.cells #[.int .i64 op2, .int .i64 n2, .string s2, .slice a2 len2 cap2] 29)) w.heap.size op2 n2 s2 a2 len2 cap2) := RowT.new 29 w op2 n2 s2 a2 len2 cap2
  have HER := hide (he.on hB0)
  have HB0 := hide hB0
  have h55 := hide (fun v (h : ErrAt x v) => atom1I v ⟨x, h⟩)
  clear hB0 he
  go_enter Tryz.func139, Tryz.ntmps139
  go_wp2_with fail
  generalize hgw : w.alloc (.cells #[.int .i64 op2, .int .i64 n2, .string s2, .slice a2 len2 cap2] 29) = W0 at *
  clear hgw
  obtain ⟨c0, c1, c2, c3⟩ := (unhide HR).facts
  have l0 := lt_of_cell c0
  have n0 := Nat.ne_of_lt l0
  have m0 := Ne.symm n0
  go_cut [4, 5] (fun p e wx => e = .iface 202 (.pointer (some x)) ∧ BodyCut W0 p wx 0 0 ByteArray.empty none 0 0)
  case first =>
    go_region_held3 (fun y => y.cell? ⟨w.heap.size, 0, none⟩ = some (.int .i64 op2) ∧ y.cell? ⟨w.heap.size, 1, none⟩ = some (.int .i64 n2) ∧ y.cell? ⟨w.heap.size, 2, none⟩ = some (.string s2) ∧ y.cell? ⟨w.heap.size, 3, none⟩ = some (.slice a2 len2 cap2)) (go_keep)
      (first
        | (go_at_call 103
           refine (unhide h55 _ ?_).mono ?_
           first
             | exact (unhide HER).on ((Below.refl _ _).drew)
             | exact (unhide HER).on ((ab _).drew)
           rintro e w2 ⟨rfl, hb2⟩
           try have zz2 := hide ((ZBox.new W0).drew.below hb2)
           have hb02 : Hid (Below W0.heap.size W0 w2) := by
             first
               | exact below_drew' hb2
               | exact bt (ab _) (below_drew' hb2) (Nat.le_refl _)
           have f0 := kpc (unhide hb02) c0
           have f1 := kpc (unhide hb02) c1
           have f2 := kpc (unhide hb02) c2
           have f3 := kpc (unhide hb02) c3
           have l2 := lt_of_cell f0
           have n2' := Nat.ne_of_lt l2
           have m2 := Ne.symm n2'
           clear hb2)
        | (go_at_call 131
           refine (unhide h54 _ ?_ ?_).mono ?_
           first
             | exact bt (unhide HB0) (unhide hb02) (Nat.le_refl _)
             | exact bt (bt (unhide HB0) (unhide hb02) (Nat.le_refl _)) (ab _) (Nat.le_refl _)
           first
             | exact (unhide HER).on (unhide hb02)
             | exact (unhide HER).on (bt (unhide hb02) (ab _) (Nat.le_refl _))
           rintro e w3 ⟨rfl, hb3⟩
           first
             | (have zz3 := hide ((ZBox.new w2).below hb3)
                have hb03 : Hid (Below W0.heap.size W0 w3) := bt (bt (unhide hb02) (ab _) (Nat.le_refl _)) hb3 (Nat.le_refl _)
                have hg3 : Hid (W0.heap.size ≤ w2.heap.size) := (unhide hb02).size)
             | (have zz3 := hide ((unhide zz2).below hb3)
                have hb03 : Hid (Below W0.heap.size W0 w3) := bt (unhide hb02) hb3 (Nat.le_refl _)
                have hg3 : Hid (W0.heap.size ≤ W0.heap.size) := Nat.le_refl _)
             | have hb03 : Hid (Below W0.heap.size W0 w3) := bt (unhide hb02) hb3 (Nat.le_refl _)
           have i0 := kpc (unhide hb03) c0
           have i1 := kpc (unhide hb03) c1
           have i2 := kpc (unhide hb03) c2
           have i3 := kpc (unhide hb03) c3
           try obtain ⟨p0, p1, p2, p3, q0, q1, q2, q3⟩ := (unhide zz3).facts
           try have nz := Nat.ne_of_lt (lt_of_heap (unhide zz3))
           try have mz := Ne.symm nz
           try have nz' := eq_false nz
           try have mz' := eq_false mz
           try have lz := lt_of_heap (unhide zz3)
           have l3 := lt_of_cell i0
           have n3' := Nat.ne_of_lt l3
           have m3 := Ne.symm n3'
           clear hb3))
    all_goals
      go_wp2_with fail
      go_meet
      refine ⟨rfl, ?_⟩
      first
        | (with_reducible refine BodyCut.late ?_
           exact unhide hb03)
        | (with_reducible refine BodyCut.early ?_ ?_ ?_ rfl
           · exact unhide hb03
           · exact unhide zz3
           · exact unhide hg3)
  case rest =>
    obtain ⟨rfl, g7, rfl, hR7, hb7⟩ := hcut
    have HB7 := hide (bt (unhide HB0) hb7 (Nat.le_refl _))
    have HER7 := hide ((unhide HER).on hb7)
    have HRR := hide hR7
    clear c0 c1 c2 c3 l0 n0 m0 hb7 hR7
    obtain ⟨d0, d1, d2, d3⟩ := (unhide HRR).facts
    have g0 := (unhide HER7).cell
    go_wp2_with fail
    exact bodyPost_ret (v := .tuple #[.slice none 0 0, .iface 202 (.pointer (some x))]) (by simp [results, Tryz.results139, go_sem]; try rfl) rfl ⟨rfl, unhide HB7⟩

set_option maxRecDepth 100000 in
set_option maxHeartbeats 4000000 in
theorem fields_no2 (op2 n2 : Int) (s2 : ByteArray) (a2 : Option Addr) (len2 cap2 : Nat) (op4 n4 : Int) (s4 : ByteArray) (a4 : Option Addr) (len4 cap4 : Nat) (x : Addr) (w : World) (he : ErrAt x w) (hop : op4 ≠ 3)
    (hb54 : ∀ v, Below w.heap.size w v → ErrAt x v → Calls Tryz.prog 131 #[.int .i64 8, .agg #[.int .i64 1, .int .i64 1, .string ByteArray.empty, .slice none 0 0], .agg #[.int .i64 op2, .int .i64 n2, .string s2, .slice a2 len2 cap2]] v fun e w' => e = .returned (.tuple #[.agg #[.int .i64 op4, .int .i64 n4, .string s4, .slice a4 len4 cap4], .nilIface]) ∧ Below v.heap.size v w') :
    Calls Tryz.prog 139 #[.agg #[.int .i64 op2, .int .i64 n2, .string s2, .slice a2 len2 cap2]] w fun e w' => e = .returned (.tuple #[.slice none 0 0, .iface 202 (.pointer (some x))]) ∧ Below w.heap.size w w' := by
  have h54 := hide hb54
  have q1 : (op4 != 3) = true := by simpa using hop
  clear hb54 hop
  have hB0 : Below w.heap.size w (w.alloc (.cells #[.int .i64 op2, .int .i64 n2, .string s2, .slice a2 len2 cap2] 29)) := ab _
  have HR : Hid (RowT 29 (w.alloc (.cells #[.int .i64 op2, .int .i64 n2, .string s2, .slice a2 len2 cap2] 29)) w.heap.size op2 n2 s2 a2 len2 cap2) := RowT.new 29 w op2 n2 s2 a2 len2 cap2
  have HER := hide (he.on hB0)
  have HB0 := hide hB0
  have h55 := hide (fun v (h : ErrAt x v) => atom1I v ⟨x, h⟩)
  clear hB0 he
  go_enter Tryz.func139, Tryz.ntmps139
  go_wp2_with fail
  generalize hgw : w.alloc (.cells #[.int .i64 op2, .int .i64 n2, .string s2, .slice a2 len2 cap2] 29) = W0 at *
  clear hgw
  obtain ⟨c0, c1, c2, c3⟩ := (unhide HR).facts
  have l0 := lt_of_cell c0
  have n0 := Nat.ne_of_lt l0
  have m0 := Ne.symm n0
  go_cut [4, 5] (fun p e wx => e = .nilIface ∧ BodyCut W0 p wx op4 n4 s4 a4 len4 cap4)
  case first =>
    go_region_held3 (fun y => y.cell? ⟨w.heap.size, 0, none⟩ = some (.int .i64 op2) ∧ y.cell? ⟨w.heap.size, 1, none⟩ = some (.int .i64 n2) ∧ y.cell? ⟨w.heap.size, 2, none⟩ = some (.string s2) ∧ y.cell? ⟨w.heap.size, 3, none⟩ = some (.slice a2 len2 cap2)) (go_keep)
      (first
        | (go_at_call 103
           refine (unhide h55 _ ?_).mono ?_
           first
             | exact (unhide HER).on ((Below.refl _ _).drew)
             | exact (unhide HER).on ((ab _).drew)
           rintro e w2 ⟨rfl, hb2⟩
           try have zz2 := hide ((ZBox.new W0).drew.below hb2)
           have hb02 : Hid (Below W0.heap.size W0 w2) := by
             first
               | exact below_drew' hb2
               | exact bt (ab _) (below_drew' hb2) (Nat.le_refl _)
           have f0 := kpc (unhide hb02) c0
           have f1 := kpc (unhide hb02) c1
           have f2 := kpc (unhide hb02) c2
           have f3 := kpc (unhide hb02) c3
           have l2 := lt_of_cell f0
           have n2' := Nat.ne_of_lt l2
           have m2 := Ne.symm n2'
           clear hb2)
        | (go_at_call 131
           refine (unhide h54 _ ?_ ?_).mono ?_
           first
             | exact bt (unhide HB0) (unhide hb02) (Nat.le_refl _)
             | exact bt (bt (unhide HB0) (unhide hb02) (Nat.le_refl _)) (ab _) (Nat.le_refl _)
           first
             | exact (unhide HER).on (unhide hb02)
             | exact (unhide HER).on (bt (unhide hb02) (ab _) (Nat.le_refl _))
           rintro e w3 ⟨rfl, hb3⟩
           first
             | (have zz3 := hide ((ZBox.new w2).below hb3)
                have hb03 : Hid (Below W0.heap.size W0 w3) := bt (bt (unhide hb02) (ab _) (Nat.le_refl _)) hb3 (Nat.le_refl _)
                have hg3 : Hid (W0.heap.size ≤ w2.heap.size) := (unhide hb02).size)
             | (have zz3 := hide ((unhide zz2).below hb3)
                have hb03 : Hid (Below W0.heap.size W0 w3) := bt (unhide hb02) hb3 (Nat.le_refl _)
                have hg3 : Hid (W0.heap.size ≤ W0.heap.size) := Nat.le_refl _)
             | have hb03 : Hid (Below W0.heap.size W0 w3) := bt (unhide hb02) hb3 (Nat.le_refl _)
           have i0 := kpc (unhide hb03) c0
           have i1 := kpc (unhide hb03) c1
           have i2 := kpc (unhide hb03) c2
           have i3 := kpc (unhide hb03) c3
           try obtain ⟨p0, p1, p2, p3, q0, q1, q2, q3⟩ := (unhide zz3).facts
           try have nz := Nat.ne_of_lt (lt_of_heap (unhide zz3))
           try have mz := Ne.symm nz
           try have nz' := eq_false nz
           try have mz' := eq_false mz
           try have lz := lt_of_heap (unhide zz3)
           have l3 := lt_of_cell i0
           have n3' := Nat.ne_of_lt l3
           have m3 := Ne.symm n3'
           clear hb3))
    all_goals
      go_wp2_with fail
      go_meet
      refine ⟨rfl, ?_⟩
      first
        | (with_reducible refine BodyCut.late ?_
           exact unhide hb03)
        | (with_reducible refine BodyCut.early ?_ ?_ ?_ rfl
           · exact unhide hb03
           · exact unhide zz3
           · exact unhide hg3)
  case rest =>
    obtain ⟨rfl, g7, rfl, hR7, hb7⟩ := hcut
    have HB7 := hide (bt (unhide HB0) hb7 (Nat.le_refl _))
    have HER7 := hide ((unhide HER).on hb7)
    have HRR := hide hR7
    clear c0 c1 c2 c3 l0 n0 m0 hb7 hR7
    obtain ⟨d0, d1, d2, d3⟩ := (unhide HRR).facts
    have g0 := (unhide HER7).cell
    go_wp2_with fail
    go_region
    all_goals go_wp2_with fail
    all_goals exact bodyPost_ret (v := .tuple #[.slice none 0 0, .iface 202 (.pointer (some x))]) (by simp [results, Tryz.results139, go_sem]; try rfl) rfl ⟨rfl, (unhide HB7).drew⟩

set_option maxRecDepth 100000 in
set_option maxHeartbeats 4000000 in
theorem fields_no3 (op2 n2 : Int) (s2 : ByteArray) (a2 : Option Addr) (len2 cap2 : Nat) (n4 : Int) (s4 : ByteArray) (b q cap4 : Nat) (op6 : Int) (x : Addr) (w : World) (he : ErrAt x w) (hop : op6 ≠ 3) (r4 : w.cell? ⟨b, q + 4, none⟩ = some (.int .i64 op6))
    (hb54 : ∀ v, Below w.heap.size w v → ErrAt x v → Calls Tryz.prog 131 #[.int .i64 8, .agg #[.int .i64 1, .int .i64 1, .string ByteArray.empty, .slice none 0 0], .agg #[.int .i64 op2, .int .i64 n2, .string s2, .slice a2 len2 cap2]] v fun e w' => e = .returned (.tuple #[.agg #[.int .i64 3, .int .i64 n4, .string s4, .slice (some ⟨b, q, none⟩) 2 cap4], .nilIface]) ∧ Below v.heap.size v w') :
    Calls Tryz.prog 139 #[.agg #[.int .i64 op2, .int .i64 n2, .string s2, .slice a2 len2 cap2]] w fun e w' => e = .returned (.tuple #[.slice none 0 0, .iface 202 (.pointer (some x))]) ∧ Below w.heap.size w w' := by
  have h54 := hide hb54
  have q1 : (op6 != 3) = true := by simpa using hop
  clear hb54 hop
  have hB0 : Below w.heap.size w (w.alloc (.cells #[.int .i64 op2, .int .i64 n2, .string s2, .slice a2 len2 cap2] 29)) := ab _
  have HR : Hid (RowT 29 (w.alloc (.cells #[.int .i64 op2, .int .i64 n2, .string s2, .slice a2 len2 cap2] 29)) w.heap.size op2 n2 s2 a2 len2 cap2) := RowT.new 29 w op2 n2 s2 a2 len2 cap2
  have HER := hide (he.on hB0)
  have HB0 := hide hB0
  have h55 := hide (fun v (h : ErrAt x v) => atom1I v ⟨x, h⟩)
  clear hB0 he
  go_enter Tryz.func139, Tryz.ntmps139
  go_wp2_with fail
  generalize hgw : w.alloc (.cells #[.int .i64 op2, .int .i64 n2, .string s2, .slice a2 len2 cap2] 29) = W0 at *
  clear hgw
  obtain ⟨c0, c1, c2, c3⟩ := (unhide HR).facts
  have l0 := lt_of_cell c0
  have n0 := Nat.ne_of_lt l0
  have m0 := Ne.symm n0
  go_cut [4, 5] (fun p e wx => e = .nilIface ∧ BodyCut W0 p wx 3 n4 s4 (some ⟨b, q, none⟩) 2 cap4)
  case first =>
    go_region_held3 (fun y => y.cell? ⟨w.heap.size, 0, none⟩ = some (.int .i64 op2) ∧ y.cell? ⟨w.heap.size, 1, none⟩ = some (.int .i64 n2) ∧ y.cell? ⟨w.heap.size, 2, none⟩ = some (.string s2) ∧ y.cell? ⟨w.heap.size, 3, none⟩ = some (.slice a2 len2 cap2)) (go_keep)
      (first
        | (go_at_call 103
           refine (unhide h55 _ ?_).mono ?_
           first
             | exact (unhide HER).on ((Below.refl _ _).drew)
             | exact (unhide HER).on ((ab _).drew)
           rintro e w2 ⟨rfl, hb2⟩
           try have zz2 := hide ((ZBox.new W0).drew.below hb2)
           have hb02 : Hid (Below W0.heap.size W0 w2) := by
             first
               | exact below_drew' hb2
               | exact bt (ab _) (below_drew' hb2) (Nat.le_refl _)
           have f0 := kpc (unhide hb02) c0
           have f1 := kpc (unhide hb02) c1
           have f2 := kpc (unhide hb02) c2
           have f3 := kpc (unhide hb02) c3
           have l2 := lt_of_cell f0
           have n2' := Nat.ne_of_lt l2
           have m2 := Ne.symm n2'
           clear hb2)
        | (go_at_call 131
           refine (unhide h54 _ ?_ ?_).mono ?_
           first
             | exact bt (unhide HB0) (unhide hb02) (Nat.le_refl _)
             | exact bt (bt (unhide HB0) (unhide hb02) (Nat.le_refl _)) (ab _) (Nat.le_refl _)
           first
             | exact (unhide HER).on (unhide hb02)
             | exact (unhide HER).on (bt (unhide hb02) (ab _) (Nat.le_refl _))
           rintro e w3 ⟨rfl, hb3⟩
           first
             | (have zz3 := hide ((ZBox.new w2).below hb3)
                have hb03 : Hid (Below W0.heap.size W0 w3) := bt (bt (unhide hb02) (ab _) (Nat.le_refl _)) hb3 (Nat.le_refl _)
                have hg3 : Hid (W0.heap.size ≤ w2.heap.size) := (unhide hb02).size)
             | (have zz3 := hide ((unhide zz2).below hb3)
                have hb03 : Hid (Below W0.heap.size W0 w3) := bt (unhide hb02) hb3 (Nat.le_refl _)
                have hg3 : Hid (W0.heap.size ≤ W0.heap.size) := Nat.le_refl _)
             | have hb03 : Hid (Below W0.heap.size W0 w3) := bt (unhide hb02) hb3 (Nat.le_refl _)
           have i0 := kpc (unhide hb03) c0
           have i1 := kpc (unhide hb03) c1
           have i2 := kpc (unhide hb03) c2
           have i3 := kpc (unhide hb03) c3
           try obtain ⟨p0, p1, p2, p3, q0, q1, q2, q3⟩ := (unhide zz3).facts
           try have nz := Nat.ne_of_lt (lt_of_heap (unhide zz3))
           try have mz := Ne.symm nz
           try have nz' := eq_false nz
           try have mz' := eq_false mz
           try have lz := lt_of_heap (unhide zz3)
           have l3 := lt_of_cell i0
           have n3' := Nat.ne_of_lt l3
           have m3 := Ne.symm n3'
           clear hb3))
    all_goals
      go_wp2_with fail
      go_meet
      refine ⟨rfl, ?_⟩
      first
        | (with_reducible refine BodyCut.late ?_
           exact unhide hb03)
        | (with_reducible refine BodyCut.early ?_ ?_ ?_ rfl
           · exact unhide hb03
           · exact unhide zz3
           · exact unhide hg3)
  case rest =>
    obtain ⟨rfl, g7, rfl, hR7, hb7⟩ := hcut
    have HB7 := hide (bt (unhide HB0) hb7 (Nat.le_refl _))
    have HER7 := hide ((unhide HER).on hb7)
    have HRR := hide hR7
    clear c0 c1 c2 c3 l0 n0 m0 hb7 hR7
    obtain ⟨d0, d1, d2, d3⟩ := (unhide HRR).facts
    have g0 := (unhide HER7).cell
    have r4 := kpc (unhide HB7) r4
    go_wp2_with fail
    go_region
    all_goals go_wp2_with fail
    all_goals exact bodyPost_ret (v := .tuple #[.slice none 0 0, .iface 202 (.pointer (some x))]) (by simp [results, Tryz.results139, go_sem]; try rfl) rfl ⟨rfl, (unhide HB7).drew⟩

/-- A row of three terms, laid anew. -/
def ThreeRow (W : World) (cs : List Value) (v' : Value) (w' : World) : Prop := ∃ g cp, v' = .slice (some ⟨g, 0, none⟩) 3 cp ∧ (∀ j u, cs[j]? = some u → w'.cell? ⟨g, j, none⟩ = some u) ∧ Below W.heap.size W w'

theorem three_row (W : World) (b q cap1 b' q' cap2 : Nat) (olds news : List Value) (hlo : olds.length = 4) (hln : news.length = 8) (ho : ∀ j u, olds[j]? = some u → W.cell? ⟨b, q + j, none⟩ = some u) (hn : ∀ j u, news[j]? = some u → W.cell? ⟨b', q' + j, none⟩ = some u) (hc : cap1 < 3) (ty : TypeId) :
    ∃ v' w', (Builtin.append_ #[27, 27] ty #[.slice (some ⟨b, q, none⟩) 1 cap1, .slice (some ⟨b', q', none⟩) 2 cap2]).run Tryz.prog W = .ok v' w' ∧ ThreeRow W (olds ++ news) v' w' := by
  obtain ⟨i, hi, hzz⟩ := Option.map_eq_some_iff.1 info29
  simp only [Prod.mk.injEq] at hzz
  obtain ⟨hz, hs, hby⟩ := hzz
  obtain ⟨v', w', h1, h2, h3⟩ := run_append_arg_grows (P := Tryz.prog) W 27 ty 29 i _ 4 56 Tryz.underlying27 hi hz hs hby rfl (by omega) ⟨b, q, none⟩ 1 cap1 olds (by omega) (fun j u hj => by rw [Addr.add_mid]; exact ho j u hj) ⟨b', q', none⟩ 2 cap2 news (by omega) (fun j u hj => by rw [Addr.add_mid]; exact hn j u hj) (by omega) (by unfold maxLen; omega) (by omega)
  refine ⟨v', w', h1, ?_⟩
  rcases h2.2 with ⟨_, h⟩ | ⟨g, cap, cur, e1, e2, e3, e4, e5, e6, e7⟩
  · omega
  · refine ⟨g, cap, e1, fun j u hj => ?_, ⟨h3.os, h3.tape, h3.output, h3.size, fun k hk => h3.block k hk (by simp)⟩⟩
    have hjl : j < (olds ++ news).length := (List.getElem?_eq_some_iff.1 hj).1
    rw [List.length_append, hlo, hln] at hjl
    have hjc : j < cur.size := by omega
    have e : (cur.toList.take (3 * 4))[j]? = some u := by rw [e7]; exact hj
    rw [List.getElem?_take, if_pos (by omega), Array.getElem?_toList, Array.getElem?_eq_getElem hjc] at e
    rw [cell_of_row e3 hjc, e]

set_option maxRecDepth 100000 in
set_option maxHeartbeats 4000000 in
theorem fields_yes (op2 n2 : Int) (s2 : ByteArray) (a2 : Option Addr) (len2 cap2 : Nat) (n4 : Int) (s4 : ByteArray) (b q cap4 : Nat) (b' q' cap7 : Nat) (olds news : List Value) (hlo : olds.length = 4) (hln : news.length = 8) (x : Addr) (w : World) (he : ErrAt x w) (r4 : w.cell? ⟨b, q + 4, none⟩ = some (.int .i64 3)) (r7 : w.cell? ⟨b, q + 7, none⟩ = some (.slice (some ⟨b', q', none⟩) 2 cap7))
    (ho : ∀ j u, olds[j]? = some u → w.cell? ⟨b, q + j, none⟩ = some u) (hn : ∀ j u, news[j]? = some u → w.cell? ⟨b', q' + j, none⟩ = some u) (hcp : 2 ≤ cap4)
    (hb54 : ∀ v, Below w.heap.size w v → ErrAt x v → Calls Tryz.prog 131 #[.int .i64 8, .agg #[.int .i64 1, .int .i64 1, .string ByteArray.empty, .slice none 0 0], .agg #[.int .i64 op2, .int .i64 n2, .string s2, .slice a2 len2 cap2]] v fun e w' => e = .returned (.tuple #[.agg #[.int .i64 3, .int .i64 n4, .string s4, .slice (some ⟨b, q, none⟩) 2 cap4], .nilIface]) ∧ Below v.heap.size v w') :
    Calls Tryz.prog 139 #[.agg #[.int .i64 op2, .int .i64 n2, .string s2, .slice a2 len2 cap2]] w fun e w' => ∃ v', e = .returned (.tuple #[v', .nilIface]) ∧ ThreeRow w (olds ++ news) v' w' := by
  have h54 := hide hb54
  have HRUN : Hid (∀ W, Below w.heap.size w W → ∃ v' w', (Builtin.append_ #[27, 27] 27 #[.slice (some ⟨b, q, none⟩) 1 1, .slice (some ⟨b', q', none⟩) 2 cap7]).run Tryz.prog W = .ok v' w' ∧ ThreeRow w (olds ++ news) v' w' ∧ Below W.heap.size W w') := fun W hW => by
    obtain ⟨v', w', h1, g, cp, h2, h3, h4⟩ := three_row W b q 1 b' q' cap7 olds news hlo hln (fun j u hj => kpc hW (ho j u hj)) (fun j u hj => kpc hW (hn j u hj)) (by omega) 27
    exact ⟨v', w', h1, ⟨g, cp, h2, h3, bt hW h4 (Nat.le_refl _)⟩, h4⟩
  have hc4 : ¬ (cap4 : Int) < 1 := by omega
  clear hb54 hlo hln ho hn
  have hB0 : Below w.heap.size w (w.alloc (.cells #[.int .i64 op2, .int .i64 n2, .string s2, .slice a2 len2 cap2] 29)) := ab _
  have HR : Hid (RowT 29 (w.alloc (.cells #[.int .i64 op2, .int .i64 n2, .string s2, .slice a2 len2 cap2] 29)) w.heap.size op2 n2 s2 a2 len2 cap2) := RowT.new 29 w op2 n2 s2 a2 len2 cap2
  have HER := hide (he.on hB0)
  have HB0 := hide hB0
  have h55 := hide (fun v (h : ErrAt x v) => atom1I v ⟨x, h⟩)
  clear hB0 he
  go_enter Tryz.func139, Tryz.ntmps139
  go_wp2_with fail
  generalize hgw : w.alloc (.cells #[.int .i64 op2, .int .i64 n2, .string s2, .slice a2 len2 cap2] 29) = W0 at *
  clear hgw
  obtain ⟨c0, c1, c2, c3⟩ := (unhide HR).facts
  have l0 := lt_of_cell c0
  have n0 := Nat.ne_of_lt l0
  have m0 := Ne.symm n0
  go_cut [4, 5] (fun p e wx => e = .nilIface ∧ BodyCut W0 p wx 3 n4 s4 (some ⟨b, q, none⟩) 2 cap4)
  case first =>
    go_region_held3 (fun y => y.cell? ⟨w.heap.size, 0, none⟩ = some (.int .i64 op2) ∧ y.cell? ⟨w.heap.size, 1, none⟩ = some (.int .i64 n2) ∧ y.cell? ⟨w.heap.size, 2, none⟩ = some (.string s2) ∧ y.cell? ⟨w.heap.size, 3, none⟩ = some (.slice a2 len2 cap2)) (go_keep)
      (first
        | (go_at_call 103
           refine (unhide h55 _ ?_).mono ?_
           first
             | exact (unhide HER).on ((Below.refl _ _).drew)
             | exact (unhide HER).on ((ab _).drew)
           rintro e w2 ⟨rfl, hb2⟩
           try have zz2 := hide ((ZBox.new W0).drew.below hb2)
           have hb02 : Hid (Below W0.heap.size W0 w2) := by
             first
               | exact below_drew' hb2
               | exact bt (ab _) (below_drew' hb2) (Nat.le_refl _)
           have f0 := kpc (unhide hb02) c0
           have f1 := kpc (unhide hb02) c1
           have f2 := kpc (unhide hb02) c2
           have f3 := kpc (unhide hb02) c3
           have l2 := lt_of_cell f0
           have n2' := Nat.ne_of_lt l2
           have m2 := Ne.symm n2'
           clear hb2)
        | (go_at_call 131
           refine (unhide h54 _ ?_ ?_).mono ?_
           first
             | exact bt (unhide HB0) (unhide hb02) (Nat.le_refl _)
             | exact bt (bt (unhide HB0) (unhide hb02) (Nat.le_refl _)) (ab _) (Nat.le_refl _)
           first
             | exact (unhide HER).on (unhide hb02)
             | exact (unhide HER).on (bt (unhide hb02) (ab _) (Nat.le_refl _))
           rintro e w3 ⟨rfl, hb3⟩
           first
             | (have zz3 := hide ((ZBox.new w2).below hb3)
                have hb03 : Hid (Below W0.heap.size W0 w3) := bt (bt (unhide hb02) (ab _) (Nat.le_refl _)) hb3 (Nat.le_refl _)
                have hg3 : Hid (W0.heap.size ≤ w2.heap.size) := (unhide hb02).size)
             | (have zz3 := hide ((unhide zz2).below hb3)
                have hb03 : Hid (Below W0.heap.size W0 w3) := bt (unhide hb02) hb3 (Nat.le_refl _)
                have hg3 : Hid (W0.heap.size ≤ W0.heap.size) := Nat.le_refl _)
             | have hb03 : Hid (Below W0.heap.size W0 w3) := bt (unhide hb02) hb3 (Nat.le_refl _)
           have i0 := kpc (unhide hb03) c0
           have i1 := kpc (unhide hb03) c1
           have i2 := kpc (unhide hb03) c2
           have i3 := kpc (unhide hb03) c3
           try obtain ⟨p0, p1, p2, p3, q0, q1, q2, q3⟩ := (unhide zz3).facts
           try have nz := Nat.ne_of_lt (lt_of_heap (unhide zz3))
           try have mz := Ne.symm nz
           try have nz' := eq_false nz
           try have mz' := eq_false mz
           try have lz := lt_of_heap (unhide zz3)
           have l3 := lt_of_cell i0
           have n3' := Nat.ne_of_lt l3
           have m3 := Ne.symm n3'
           clear hb3))
    all_goals
      go_wp2_with fail
      go_meet
      refine ⟨rfl, ?_⟩
      first
        | (with_reducible refine BodyCut.late ?_
           exact unhide hb03)
        | (with_reducible refine BodyCut.early ?_ ?_ ?_ rfl
           · exact unhide hb03
           · exact unhide zz3
           · exact unhide hg3)
  case rest =>
    obtain ⟨rfl, g7, rfl, hR7, hb7⟩ := hcut
    have HB7 := hide (bt (unhide HB0) hb7 (Nat.le_refl _))
    have HER7 := hide ((unhide HER).on hb7)
    have HRR := hide hR7
    clear c0 c1 c2 c3 l0 n0 m0 hb7 hR7
    obtain ⟨d0, d1, d2, d3⟩ := (unhide HRR).facts
    have g0 := (unhide HER7).cell
    have r4 := kpc (unhide HB7) r4
    have r7 := kpc (unhide HB7) r7
    go_wp2_with fail
    go_region_held3 (fun y => y.cell? ⟨g7, 3, none⟩ = some (.slice (some ⟨b, q, none⟩) 2 cap4) ∧ y.cell? ⟨b, q + 7, none⟩ = some (.slice (some ⟨b', q', none⟩) 2 cap7)) (go_keep)
      (first
        | (refine cz_append_run rfl _ _ 27 rfl _ _ rfl rfl (fun v' w' => ThreeRow w (olds ++ news) v' w' ∧ Below wc.drew.heap.size wc.drew w') (unhide HRUN _ (unhide HB7).drew) ?_
           rintro v' w' ⟨⟨gR, cR, rfl, hR1, hR2⟩, hR3⟩
           have HR1 := hide hR1
           have HR2 := hide hR2
           have hR3' := below_drew' hR3
           have t3 := kpc hR3' d3
           have t7 := kpc hR3' r7
           clear hR1 hR2 hR3))
    all_goals go_wp2_with fail
    all_goals exact bodyPost_ret (v := .tuple #[.slice (some ⟨gR, 0, none⟩) 3 cR, .nilIface]) (by simp [results, Tryz.results139, go_sem]; try rfl) rfl ⟨_, rfl, gR, cR, rfl, unhide HR1, unhide HR2⟩

/-- Cells in a block of their own. -/
def RowV (ty : TypeId) (w : World) (b : Nat) (cs : Array Value) : Prop := w.heap[b]? = some (.cells cs ty (0, 0))
theorem RowV.new (ty : TypeId) (w : World) (cs : Array Value) : RowV ty (w.alloc (.cells cs ty)) w.heap.size cs := heap_alloc_new w _
theorem RowV.lt {ty : TypeId} {w : World} {b : Nat} {cs : Array Value} (h : RowV ty w b cs) : b < w.heap.size := lt_of_heap h
theorem RowV.below {ty : TypeId} {w w' : World} {b : Nat} {cs : Array Value} (h : RowV ty w b cs) (hb : Below w.heap.size w w') : RowV ty w' b cs := (hb.block b h.lt).trans h
theorem RowV.four {ty : TypeId} {w : World} {b : Nat} {c0 c1 c2 c3 : Value} (h : RowV ty w b #[c0, c1, c2, c3]) :
    (w.cell? ⟨b, 0, none⟩ = some c0 ∧ w.cell? ⟨b, 1, none⟩ = some c1 ∧ w.cell? ⟨b, 2, none⟩ = some c2 ∧ w.cell? ⟨b, 3, none⟩ = some c3) ∧ w.frozen? ⟨b, 0, none⟩ = false ∧ w.frozen? ⟨b, 1, none⟩ = false ∧ w.frozen? ⟨b, 2, none⟩ = false ∧ w.frozen? ⟨b, 3, none⟩ = false :=
  ⟨⟨cell_of_row h (by simp), cell_of_row h (by simp), cell_of_row h (by simp), cell_of_row h (by simp)⟩, frozen_of_row h, frozen_of_row h, frozen_of_row h, frozen_of_row h⟩

set_option maxRecDepth 100000 in
theorem leaf44 (op n : Int) (s : ByteArray) (a : Option Addr) (len cap : Nat) (w : World) :
    Calls Tryz.prog 141 #[.agg #[.int .i64 op, .int .i64 n, .string s, .slice a len cap]] w fun e w' => e = .returned (.agg #[.int .i64 op, .string s]) ∧ Below w.heap.size w w' := by
  have hB0 : Below w.heap.size w ((w.alloc (.cells #[.int .i64 op, .int .i64 n, .string s, .slice a len cap] 29)).alloc (.cells #[.int .i64 op, .string s] 136)) := bt (ab _) (ab _) (Nat.le_refl _)
  have HB0 := hide hB0
  clear hB0
  go_enter Tryz.func141, Tryz.ntmps141
  go_wp2_with fail
  have p0 := box_cell (w.alloc (.cells #[.int .i64 op, .int .i64 n, .string s, .slice a len cap] 29)) #[.int .i64 op, .string s] 136 0 _ rfl
  have p1 := box_cell (w.alloc (.cells #[.int .i64 op, .int .i64 n, .string s, .slice a len cap] 29)) #[.int .i64 op, .string s] 136 1 _ rfl
  rw [heap_size_alloc] at p0 p1
  exact bodyPost_ret (v := .agg #[.int .i64 op, .string s]) (by simp [results, Tryz.results141, go_sem, p0, p1]; try rfl) rfl ⟨rfl, unhide HB0⟩

set_option maxRecDepth 100000 in
set_option maxHeartbeats 1000000 in
theorem plain46 (h : ByteArray) (op n : Int) (s : ByteArray) (a : Option Addr) (len cap : Nat) (u : Int) (w : World) (h0 : -9223372036854775808 ≤ u) (h1 : u ≤ 9223372036854775807) (htab : Tab w) :
    Calls Tryz.prog 142 #[.agg #[.string h, .int .i64 op, .int .i64 n, .string s, .slice a len cap, .int .i64 u]] w fun e w' => e = .returned (.agg #[.int .i64 2, .string h, .int .i64 2, .string ⟨(Lib.itoa u).toArray⟩]) ∧ Below w.heap.size w w' := by
  have h60 := hide (hostText24 h op n s a len cap u)
  have h61 := hide (fun v ht => digitsI u v h0 h1 ht)
  have h44 := hide (fun s v => leaf44 2 0 s none 0 0 v)
  generalize (⟨(Lib.itoa u).toArray⟩ : ByteArray) = ns at *
  have hB0 : Below w.heap.size w ((w.alloc (.cells #[.string h, .int .i64 op, .int .i64 n, .string s, .slice a len cap, .int .i64 u] 57)).alloc (.cells #[.int .i64 0, .string ⟨#[]⟩, .int .i64 0, .string ⟨#[]⟩] 139)) := bt (ab _) (ab _) (Nat.le_refl _)
  have HX : Hid (RowV 139 ((w.alloc (.cells #[.string h, .int .i64 op, .int .i64 n, .string s, .slice a len cap, .int .i64 u] 57)).alloc (.cells #[.int .i64 0, .string ⟨#[]⟩, .int .i64 0, .string ⟨#[]⟩] 139)) (w.heap.size + 1) #[.int .i64 0, .string ⟨#[]⟩, .int .i64 0, .string ⟨#[]⟩]) := by
    have := RowV.new 139 (w.alloc (.cells #[.string h, .int .i64 op, .int .i64 n, .string s, .slice a len cap, .int .i64 u] 57)) #[.int .i64 0, .string ⟨#[]⟩, .int .i64 0, .string ⟨#[]⟩]
    rwa [heap_size_alloc] at this
  have HR : Hid (RowC 57 ((w.alloc (.cells #[.string h, .int .i64 op, .int .i64 n, .string s, .slice a len cap, .int .i64 u] 57)).alloc (.cells #[.int .i64 0, .string ⟨#[]⟩, .int .i64 0, .string ⟨#[]⟩] 139)) w.heap.size h op n s a len cap u) := (RowC.new 57 w h op n s a len cap u).below (ab _)
  have HTB := hide (htab.on hB0)
  have HB0 := hide hB0
  clear htab hB0 h0 h1
  go_enter Tryz.func142, Tryz.ntmps142
  go_wp2_with fail
  generalize hgw : (w.alloc (.cells #[.string h, .int .i64 op, .int .i64 n, .string s, .slice a len cap, .int .i64 u] 57)).alloc (.cells #[.int .i64 0, .string ⟨#[]⟩, .int .i64 0, .string ⟨#[]⟩] 139) = W0 at *
  clear hgw
  obtain ⟨c0, c1, c2, c3, c4, c5⟩ := (unhide HR).facts
  have hne1 : (w.heap.size = w.heap.size + 1) = False := by simp
  have hne2 : (w.heap.size + 1 = w.heap.size) = False := by simp
  go_region_held3 (fun x => x.cell? ⟨w.heap.size, 0, none⟩ = some (.string h) ∧ x.cell? ⟨w.heap.size, 1, none⟩ = some (.int .i64 op) ∧ x.cell? ⟨w.heap.size, 2, none⟩ = some (.int .i64 n) ∧ x.cell? ⟨w.heap.size, 3, none⟩ = some (.string s) ∧ x.cell? ⟨w.heap.size, 4, none⟩ = some (.slice a len cap) ∧ x.cell? ⟨w.heap.size, 5, none⟩ = some (.int .i64 u)) (go_keep)
    (first
      | (go_at_call 104
         refine (unhide h60 _).mono ?_
         rintro e w2 ⟨rfl, hb2⟩
         have hb2' := hide (below_drew' hb2)
         obtain ⟨f0, f1, f2, f3, f4, f5⟩ := ((unhide HR).below (unhide hb2')).facts)
      | (go_at_call 102
         refine (unhide h61 _ (((unhide HTB).on (unhide hb2')).on (unhide hb3'))).mono ?_
         rintro e w4 ⟨rfl, hb4⟩
         have hb4' := hide hb4
         obtain ⟨i0, i1, i2, i3, i4, i5⟩ := ((((unhide HR).below (unhide hb2')).below (unhide hb3')).below hb4).facts)
      | (go_at_call 141
         refine (unhide h44 ns _).mono ?_
         rintro e w5 ⟨rfl, hb5⟩
         have hb5' := hide hb5
         obtain ⟨j0, j1, j2, j3, j4, j5⟩ := (((((unhide HR).below (unhide hb2')).below (unhide hb3')).below (unhide hb4')).below hb5).facts
         obtain ⟨⟨p0, p1, p2, p3⟩, q0, q1, q2, q3⟩ := (((((unhide HX).below (unhide hb2')).below (unhide hb3')).below (unhide hb4')).below hb5).four)
      | (go_at_call 141
         refine (unhide h44 h _).mono ?_
         rintro e w3 ⟨rfl, hb3⟩
         have hb3' := hide hb3
         obtain ⟨g0, g1, g2, g3, g4, g5⟩ := (((unhide HR).below (unhide hb2')).below hb3).facts))
  have HB5 := hide (bt (bt (bt (bt (unhide HB0) (unhide hb2') (Nat.le_refl _)) (unhide hb3') (Nat.le_refl _)) (unhide hb4') (Nat.le_refl _)) (unhide hb5') (Nat.le_refl _))
  go_wp2_with fail
  exact bodyPost_ret (v := .agg #[.int .i64 2, .string h, .int .i64 2, .string ns]) (by simp [results, Tryz.results142, go_sem, p0, p1, p2, p3]; try rfl) rfl ⟨rfl, set4_below (unhide HB5) (by omega)⟩

theorem decFrom_snoc (b : UInt8) : ∀ (l : List UInt8) (acc m d : Nat), Lib.decFrom acc l = some m → Lib.digitVal b = some d → Lib.decFrom acc (l ++ [b]) = some (m * 10 + d)
  | [], acc, m, d, h, hd => by
    simp only [Lib.decFrom, Option.some.injEq] at h
    subst h
    simp [Lib.decFrom, hd]
  | c :: r, acc, m, d, h, hd => by
    simp only [List.cons_append, Lib.decFrom] at h ⊢
    cases hc : Lib.digitVal c with
    | none => rw [hc] at h; cases h
    | some x =>
      rw [hc] at h
      exact decFrom_snoc b r _ m d h hd
theorem digitVal_of (k : Nat) (h : k < 10) : Lib.digitVal (UInt8.ofNat (48 + k)) = some k := by
  have e : (UInt8.ofNat (48 + k)).toNat = 48 + k := by rw [UInt8.toNat_ofNat']; omega
  simp only [Lib.digitVal, e]
  rw [if_pos (by omega)]
  congr 1
  omega
theorem decFrom_digits : ∀ u : Nat, Lib.decFrom 0 (Lib.decDigits u) = some u := by
  intro u
  induction u using Nat.strongRecOn with
  | ind u ih =>
    by_cases h : u < 10
    · rw [Lib.decDigits_one h]
      simp only [Lib.decFrom, digitVal_of u h, Nat.zero_mul, Nat.zero_add]
    · rw [Lib.decDigits, dif_neg h, decFrom_snoc _ _ 0 (u / 10) (u % 10) (ih (u / 10) (by omega)) (digitVal_of _ (by omega))]
      congr 1
      omega
theorem digits_ne (u : Nat) : Lib.decDigits u ≠ [] := by
  rw [Lib.decDigits]
  split
  · simp
  · simp
theorem digits_first {u : Nat} {b : UInt8} {r : List UInt8} (h : Lib.decDigits u = b :: r) : ∃ d, Lib.digitVal b = some d := by
  have := decFrom_digits u
  rw [h] at this
  simp only [Lib.decFrom] at this
  cases hb : Lib.digitVal b with
  | none => rw [hb] at this; cases this
  | some d => exact ⟨d, rfl⟩
theorem atoi_digits (u : Nat) : Lib.atoi (Lib.decDigits u) = some (u : Int) := by
  have h1 := decFrom_digits u
  cases hd : Lib.decDigits u with
  | nil => exact absurd hd (digits_ne u)
  | cons b r =>
    obtain ⟨d, hb⟩ := digits_first hd
    have hr : 48 ≤ b.toNat := by
      unfold Lib.digitVal at hb
      split at hb
      · rename_i h; exact h.1
      · cases hb
    have e1 : (b == 45) = false := by
      rw [beq_eq_false_iff_ne]
      intro e
      subst e
      exact absurd hr (by decide)
    have e2 : (b == 43) = false := by
      rw [beq_eq_false_iff_ne]
      intro e
      subst e
      exact absurd hr (by decide)
    rw [hd] at h1
    simp [Lib.atoi, e1, e2, Lib.decNat, h1]
/-- The text is this number in digits, from 0 to 100000. -/
def isNum (s : ByteArray) (u : Int) : Prop := 0 ≤ u ∧ u ≤ 100000 ∧ s = ⟨(Lib.itoa u).toArray⟩
theorem isNum_digits {s : ByteArray} {u : Int} (h : isNum s u) : s = ⟨(Lib.decDigits u.toNat).toArray⟩ := by
  rw [h.2.2]
  unfold Lib.itoa
  rw [if_neg (by have := h.1; omega)]
theorem isNum_list {s : ByteArray} {u : Int} (h : isNum s u) : s.data.toList = Lib.decDigits u.toNat := by
  rw [isNum_digits h]
theorem isNum_len {s : ByteArray} {u : Int} (h : isNum s u) : s.data.toList.length ≤ 18 := by
  rw [isNum_list h]
  have h0 := h.1
  have h1 := h.2.1
  have hl : ∀ (k u : Nat), u < 10 ^ k → 1 ≤ k → (Lib.decDigits u).length ≤ k := by
    intro k
    induction k with
    | zero => intro u _ h; omega
    | succ k ih =>
      intro u hu _
      by_cases h : u < 10
      · rw [Lib.decDigits_one h]; simp
      · rw [Lib.decDigits, dif_neg h]
        have hk : 1 ≤ k := by
          rcases Nat.eq_zero_or_pos k with rfl | hp
          · simp at hu; omega
          · exact hp
        have := ih (u / 10) (by rw [Nat.pow_succ] at hu; omega) hk
        simp
        omega
  have := hl 6 u.toNat (by omega) (by omega)
  omega
theorem isNum_atoi {s : ByteArray} {u : Int} (h : isNum s u) : Lib.atoiAll s.data.toList = .ok u := by
  rw [Lib.atoiAll_short _ (isNum_len h), isNum_list h, atoi_digits]
  have : ((u.toNat : Nat) : Int) = u := by have := h.1; omega
  rw [this]
  rfl
theorem isNum_one {s : ByteArray} {u v : Int} (h : isNum s u) (h' : isNum s v) : u = v := by
  have e1 := isNum_atoi h
  rw [isNum_atoi h'] at e1
  cases e1
  rfl

/-- The two errors of strconv hold what an error may hold. -/
def Var12 (w : World) : Prop := (∃ ev, w.cell? ⟨1, 0, none⟩ = some ev ∧ (ev = .nilIface ∨ ∃ te pe, ev = .iface te pe)) ∧ (∃ ev, w.cell? ⟨2, 0, none⟩ = some ev ∧ (ev = .nilIface ∨ ∃ te pe, ev = .iface te pe))
theorem Var12.on {w w' : World} (h : Var12 w) (hb : Below w.heap.size w w') : Var12 w' := by
  obtain ⟨⟨e1, h1, k1⟩, e2, h2, k2⟩ := h
  exact ⟨⟨e1, kpc hb h1, k1⟩, e2, kpc hb h2, k2⟩

theorem atoi43 (s : ByteArray) (w : World) (hs : s.size ≤ 2097152) (hv : Var12 w) :
    Calls Tryz.prog 140 #[.string s] w fun e w' => ∃ v er, e = .returned (.tuple #[.int .i64 v, er]) ∧ Below w.heap.size w w' ∧ (-9223372036854775808 ≤ v ∧ v ≤ 9223372036854775807) ∧ ∀ u, isNum s u → v = u := by
  obtain ⟨⟨e1, h1, k1⟩, e2, h2, k2⟩ := hv
  cases h : Lib.atoiAll s.data.toList with
  | ok v =>
    refine (Tryz.strconv_Atoi_ok s (by omega) v h w).mono ?_
    rintro e w' ⟨he, hw⟩
    refine ⟨v, _, he, ?_, ?_, fun u hu => ?_⟩
    · rcases hw with rfl | ⟨t, rfl⟩
      · exact Below.refl _ _
      · exact ⟨rfl, rfl, rfl, by rw [Lib.bytesWorld_size]; omega, fun j hj => Lib.bytesWorld_at_old w 5 t j hj⟩
    · exact Lib.atoiAll_bounds h
    · have := isNum_atoi hu
      rw [h] at this
      cases this
      rfl
  | «syntax» =>
    refine (Tryz.strconv_Atoi_syntax s (by omega) h e1 w h1 k1).mono ?_
    rintro e w' ⟨N, he, _, _, hb⟩
    exact ⟨0, _, he, hb, by omega, fun u hu => by have := isNum_atoi hu; rw [h] at this; cases this⟩
  | range =>
    refine (Tryz.strconv_Atoi_range s (by omega) h e2 w h2 k2).mono ?_
    rintro e w' ⟨N, he, _, _, hb⟩
    refine ⟨_, _, he, hb, ?_, fun u hu => by have := isNum_atoi hu; rw [h] at this; cases this⟩
    unfold Lib.atoiSat
    split <;> omega

/-- Three terms, each in a box of its own. -/
def ThreeBox (w2 : World) (p6 p7 p8 : Value) (wx : World) (oh nh : Int) (sh : ByteArray) (ah : Option Addr) (lh ch : Nat) (op n : Int) (s : ByteArray) (a : Option Addr) (len cap : Nat) (ou nu : Int) (su : ByteArray) (au : Option Addr) (lu cu : Nat) : Prop :=
  ∃ b6 b7 b8, p6 = .pointer (some ⟨b6, 0, none⟩) ∧ p7 = .pointer (some ⟨b7, 0, none⟩) ∧ p8 = .pointer (some ⟨b8, 0, none⟩) ∧ RowT 29 wx b6 oh nh sh ah lh ch ∧ RowT 29 wx b7 op n s a len cap ∧ RowT 29 wx b8 ou nu su au lu cu ∧ Below w2.heap.size w2 wx

theorem held12 {w2 v : World} {g : Nat} {x0 x1 x2 x3 x4 x5 x6 x7 x8 x9 x10 x11 : Value} (hb : Below w2.heap.size w2 v) (t0 : w2.cell? ⟨g, 0, none⟩ = some x0) (t1 : w2.cell? ⟨g, 1, none⟩ = some x1) (t2 : w2.cell? ⟨g, 2, none⟩ = some x2) (t3 : w2.cell? ⟨g, 3, none⟩ = some x3) (t4 : w2.cell? ⟨g, 4, none⟩ = some x4) (t5 : w2.cell? ⟨g, 5, none⟩ = some x5) (t6 : w2.cell? ⟨g, 6, none⟩ = some x6) (t7 : w2.cell? ⟨g, 7, none⟩ = some x7) (t8 : w2.cell? ⟨g, 8, none⟩ = some x8) (t9 : w2.cell? ⟨g, 9, none⟩ = some x9) (t10 : w2.cell? ⟨g, 10, none⟩ = some x10) (t11 : w2.cell? ⟨g, 11, none⟩ = some x11) :
    v.cell? ⟨g, 0, none⟩ = some x0 ∧ v.cell? ⟨g, 1, none⟩ = some x1 ∧ v.cell? ⟨g, 2, none⟩ = some x2 ∧ v.cell? ⟨g, 3, none⟩ = some x3 ∧ v.cell? ⟨g, 4, none⟩ = some x4 ∧ v.cell? ⟨g, 5, none⟩ = some x5 ∧ v.cell? ⟨g, 6, none⟩ = some x6 ∧ v.cell? ⟨g, 7, none⟩ = some x7 ∧ v.cell? ⟨g, 8, none⟩ = some x8 ∧ v.cell? ⟨g, 9, none⟩ = some x9 ∧ v.cell? ⟨g, 10, none⟩ = some x10 ∧ v.cell? ⟨g, 11, none⟩ = some x11 :=
  ⟨kpc hb t0, kpc hb t1, kpc hb t2, kpc hb t3, kpc hb t4, kpc hb t5, kpc hb t6, kpc hb t7, kpc hb t8, kpc hb t9, kpc hb t10, kpc hb t11⟩

theorem row3a {w : World} {A B C : Obj} {op n : Int} {s : ByteArray} {a : Option Addr} {len cap : Nat} (hA : A = .cells #[.int .i64 op, .int .i64 n, .string s, .slice a len cap] 29) : RowT 29 (((w.alloc A).alloc B).alloc C).drew w.heap.size op n s a len cap := by
  subst hA
  exact ((RowT.new 29 w op n s a len cap).below (ab B)).below (ab C).drew
theorem row3b {w : World} {A B C : Obj} {op n : Int} {s : ByteArray} {a : Option Addr} {len cap : Nat} (hB : B = .cells #[.int .i64 op, .int .i64 n, .string s, .slice a len cap] 29) : RowT 29 (((w.alloc A).alloc B).alloc C).drew (w.heap.size + 1) op n s a len cap := by
  subst hB
  have := RowT.new 29 (w.alloc A) op n s a len cap
  rw [heap_size_alloc] at this
  exact this.below (ab C).drew
theorem row3c {w : World} {A B C : Obj} {op n : Int} {s : ByteArray} {a : Option Addr} {len cap : Nat} (hC : C = .cells #[.int .i64 op, .int .i64 n, .string s, .slice a len cap] 29) : RowT 29 (((w.alloc A).alloc B).alloc C).drew (w.heap.size + 1 + 1) op n s a len cap := by
  subst hC
  have := RowT.new 29 ((w.alloc A).alloc B) op n s a len cap
  rw [heap_size_alloc, heap_size_alloc] at this
  exact this
theorem bel3 {w : World} {A B C : Obj} : Below w.heap.size w (((w.alloc A).alloc B).alloc C).drew := (bt (bt (ab _) (ab _) (Nat.le_refl _)) (ab _) (Nat.le_refl _)).drew

theorem RowV.drew {ty : TypeId} {w : World} {b : Nat} {cs : Array Value} (h : RowV ty w b cs) : RowV ty w.drew b cs := h

/-- What was written of texts and numbers, in a box of its own. -/
def PlainCut (W0 : World) (p : Value) (wx : World) (oh : Int) (sh : ByteArray) (ou : Int) (su : ByteArray) : Prop := ∃ g, p = .pointer (some ⟨g, 0, none⟩) ∧ W0.heap.size ≤ g ∧ RowV 139 wx g #[.int .i64 oh, .string sh, .int .i64 ou, .string su] ∧ Below W0.heap.size W0 wx
theorem PlainCut.late {W0 X : World} {oh : Int} {sh : ByteArray} {ou : Int} {su : ByteArray} (hb : Below W0.heap.size W0 X) :
    PlainCut W0 (.pointer (some ⟨X.heap.size, 0, none⟩)) (X.alloc (.cells #[.int .i64 oh, .string sh, .int .i64 ou, .string su] 139)) oh sh ou su := ⟨_, rfl, hb.size, RowV.new 139 X _, bt hb (ab _) (Nat.le_refl _)⟩
theorem fillV {w : World} {g : Nat} {c0 c1 c2 c3 : Value} (h : RowV 139 w g #[c0, c1, c2, c3]) (x0 x1 x2 x3 : Value) : RowV 139 ((((w.setCell ⟨g, 0, none⟩ x0).setCell ⟨g, 1, none⟩ x1).setCell ⟨g, 2, none⟩ x2).setCell ⟨g, 3, none⟩ x3) g #[x0, x1, x2, x3] := by
  unfold RowV at h ⊢
  have r : ∀ {w : World} {b o : Nat} {C : Array Value} {t : TypeId} {fr : Nat × Nat} (v : Value), w.heap[b]? = some (.cells C t fr) → (w.setCell ⟨b, o, none⟩ v).heap[b]? = some (.cells (C.setIfInBounds o v) t fr) := fun v h => by
    simp only [World.setCell, Array.getElem?_modify]
    simp [h]
  exact r (o := 3) x3 (r (o := 2) x2 (r (o := 1) x1 (r (o := 0) x0 h)))
theorem PlainCut.early {W0 X Y : World} {g : Nat} {oh : Int} {sh : ByteArray} {ou : Int} {su : ByteArray} (hb : Below W0.heap.size W0 X) (hz : RowV 139 X g #[.int .i64 0, .string ⟨#[]⟩, .int .i64 0, .string ⟨#[]⟩]) (hg : W0.heap.size ≤ g)
    (hY : Y = ((((X.setCell ⟨g, 0, none⟩ (.int .i64 oh)).setCell ⟨g, 1, none⟩ (.string sh)).setCell ⟨g, 2, none⟩ (.int .i64 ou)).setCell ⟨g, 3, none⟩ (.string su))) : PlainCut W0 (.pointer (some ⟨g, 0, none⟩)) Y oh sh ou su :=
  ⟨g, rfl, hg, by rw [hY]; exact fillV hz _ _ _ _, by rw [hY]; exact set4_below hb hg⟩

theorem RowC.frozen {ty : TypeId} {w : World} {b : Nat} {h : ByteArray} {op n : Int} {s : ByteArray} {a : Option Addr} {len cap : Nat} {u : Int} (hr : RowC ty w b h op n s a len cap u) :
    w.frozen? ⟨b, 0, none⟩ = false ∧ w.frozen? ⟨b, 1, none⟩ = false ∧ w.frozen? ⟨b, 2, none⟩ = false ∧ w.frozen? ⟨b, 3, none⟩ = false ∧ w.frozen? ⟨b, 4, none⟩ = false ∧ w.frozen? ⟨b, 5, none⟩ = false :=
  ⟨frozen_of_row hr, frozen_of_row hr, frozen_of_row hr, frozen_of_row hr, frozen_of_row hr, frozen_of_row hr⟩
theorem set6_below {B : Nat} {w v : World} {g : Nat} {x0 x1 x2 x3 x4 x5 : Value} (h : Below B w v) (hg : B ≤ g) : Below B w ((((((v.setCell ⟨g, 0, none⟩ x0).setCell ⟨g, 1, none⟩ x1).setCell ⟨g, 2, none⟩ x2).setCell ⟨g, 3, none⟩ x3).setCell ⟨g, 4, none⟩ x4).setCell ⟨g, 5, none⟩ x5) :=
  (((((h.setCell hg _).setCell hg _).setCell hg _).setCell hg _).setCell hg _).setCell hg _
/-- The three are those of a certificate. -/
def ReadOk (oh : Int) (sh : ByteArray) (t : Tm) (ou : Int) (su : ByteArray) (v : Int) : Prop := certB sh t v = true ∧ oh = 2 ∧ ou = 2 ∧ su = ⟨(Lib.itoa v).toArray⟩
theorem ReadOk.num {oh : Int} {sh : ByteArray} {t : Tm} {ou : Int} {su : ByteArray} {v : Int} (h : ReadOk oh sh t ou su v) : isNum su v := ⟨(certB_ok h.1).2.2.2.1, (certB_ok h.1).2.2.2.2, h.2.2.2⟩

set_option maxRecDepth 100000 in
set_option maxHeartbeats 8000000 in
theorem read_all (op2 n2 : Int) (s2 : ByteArray) (a2 : Option Addr) (len2 cap2 : Nat) (oh nh : Int) (sh : ByteArray) (ah : Option Addr) (lh ch : Nat) (op n : Int) (s : ByteArray) (a : Option Addr) (len cap : Nat) (ou nu : Int) (su : ByteArray) (au : Option Addr) (lu cu : Nat) (x : Addr) (w : World) (he : ErrAt x w) (hv : Var12 w) (htab : Tab w) (hsu : su.size ≤ 2097152) (t : Tm) (hl : Lies w 0 t (tmCells op n s a len cap)) (htz : t.size ≤ 2097152) (hsh : sh.size ≤ 2097152)
    (hf : ∀ v, Below w.heap.size w v → Calls Tryz.prog 139 #[.agg #[.int .i64 op2, .int .i64 n2, .string s2, .slice a2 len2 cap2]] v fun e w' => ∃ v', e = .returned (.tuple #[v', .nilIface]) ∧ ThreeRow v (tmCells oh nh sh ah lh ch ++ (tmCells op n s a len cap ++ tmCells ou nu su au lu cu)) v' w') :
    Calls Tryz.prog 108 #[.agg #[.int .i64 op2, .int .i64 n2, .string s2, .slice a2 len2 cap2]] w fun e w' => Below w.heap.size w w' ∧ ((∃ v, ReadOk oh sh t ou su v ∧ e = .returned (.tuple #[.agg #[.string sh, .int .i64 op, .int .i64 n, .string s, .slice a len cap, .int .i64 v], .nilIface])) ∨ ((¬ ∃ v, ReadOk oh sh t ou su v) ∧ e = .returned (.tuple #[.agg #[.string ByteArray.empty, .int .i64 0, .int .i64 0, .string ByteArray.empty, .slice none 0 0, .int .i64 0], .iface 202 (.pointer (some x))]))) := by
  have h42 := hide hf
  have h43 := hide (fun v hv => atoi43 su v hsu hv)
  have h44 := hide leaf44
  clear hf hsu
  have hB0 : Below w.heap.size w ((w.alloc (.cells #[.int .i64 op2, .int .i64 n2, .string s2, .slice a2 len2 cap2] 29)).alloc (.cells #[.string ⟨#[]⟩, .int .i64 0, .int .i64 0, .string ⟨#[]⟩, .slice none 0 0, .int .i64 0] 57)) := bt (ab _) (ab _) (Nat.le_refl _)
  have HX : Hid (RowC 57 ((w.alloc (.cells #[.int .i64 op2, .int .i64 n2, .string s2, .slice a2 len2 cap2] 29)).alloc (.cells #[.string ⟨#[]⟩, .int .i64 0, .int .i64 0, .string ⟨#[]⟩, .slice none 0 0, .int .i64 0] 57)) (w.heap.size + 1) ⟨#[]⟩ 0 0 ⟨#[]⟩ none 0 0 0) := by
    have := RowC.new 57 (w.alloc (.cells #[.int .i64 op2, .int .i64 n2, .string s2, .slice a2 len2 cap2] 29)) ⟨#[]⟩ 0 0 ⟨#[]⟩ none 0 0 0
    rwa [heap_size_alloc] at this
  have HER := hide (he.on hB0)
  have HVR := hide (hv.on hB0)
  have HTB := hide (htab.on hB0)
  have HB0 := hide hB0
  clear hB0 he hv htab
  go_enter Tryz.func108, Tryz.ntmps108
  go_wp2_with fail
  refine (unhide h42 _ (unhide HB0)).mono ?_
  rintro e w2 ⟨v', rfl, g, cp, rfl, hcs, hb2⟩
  have t0 := hcs 0 _ rfl
  have t1 := hcs 1 _ rfl
  have t2 := hcs 2 _ rfl
  have t3 := hcs 3 _ rfl
  have t4 := hcs 4 _ rfl
  have t5 := hcs 5 _ rfl
  have t6 := hcs 6 _ rfl
  have t7 := hcs 7 _ rfl
  have t8 := hcs 8 _ rfl
  have t9 := hcs 9 _ rfl
  have t10 := hcs 10 _ rfl
  have t11 := hcs 11 _ rfl
  have l0 := lt_of_cell t0
  have n0 := Nat.ne_of_lt l0
  have m0 := Ne.symm n0
  have HB2 := hide (bt (unhide HB0) hb2 (Nat.le_refl _))
  have HER2 := hide ((unhide HER).on hb2)
  have HVR2 := hide ((unhide HVR).on hb2)
  have HTB2 := hide ((unhide HTB).on hb2)
  have HX2 := hide ((unhide HX).below hb2)
  clear hcs hb2 HB0 HER HVR HTB HX h42
  go_wp2_with fail
  go_cut [6, 7, 8] (fun p6 p7 p8 wx => ThreeBox w2 p6 p7 p8 wx oh nh sh ah lh ch op n s a len cap ou nu su au lu cu)
  case first =>
    go_region_held3 (fun y => y.cell? ⟨g, 0, none⟩ = some (.int .i64 oh) ∧ y.cell? ⟨g, 1, none⟩ = some (.int .i64 nh) ∧ y.cell? ⟨g, 2, none⟩ = some (.string sh) ∧ y.cell? ⟨g, 3, none⟩ = some (.slice ah lh ch) ∧
        y.cell? ⟨g, 4, none⟩ = some (.int .i64 op) ∧ y.cell? ⟨g, 5, none⟩ = some (.int .i64 n) ∧ y.cell? ⟨g, 6, none⟩ = some (.string s) ∧ y.cell? ⟨g, 7, none⟩ = some (.slice a len cap) ∧
        y.cell? ⟨g, 8, none⟩ = some (.int .i64 ou) ∧ y.cell? ⟨g, 9, none⟩ = some (.int .i64 nu) ∧ y.cell? ⟨g, 10, none⟩ = some (.string su) ∧ y.cell? ⟨g, 11, none⟩ = some (.slice au lu cu)) ((refine held12 ?_ t0 t1 t2 t3 t4 t5 t6 t7 t8 t9 t10 t11; repeat (first | exact Below.refl _ _ | refine Below.drew ?_ | refine Below.alloc ?_ (by simp <;> omega) _ | refine Below.setCell ?_ (by simp <;> omega) _))) (fail)
    all_goals go_wp2_with fail
    all_goals go_meet
    all_goals
      refine ⟨_, _, _, rfl, rfl, rfl, ?_, ?_, ?_, bel3⟩
      all_goals first
        | exact row3a rfl
        | exact row3b rfl
        | exact row3c rfl
  case rest =>
    obtain ⟨b6, b7, b8, rfl, rfl, rfl, hR6, hR7, hR8, hb3⟩ := hcut
    have HB3 := hide (bt (unhide HB2) hb3 (Nat.le_refl _))
    have HER3 := hide ((unhide HER2).on hb3)
    have HVR3 := hide ((unhide HVR2).on hb3)
    have HTB3 := hide ((unhide HTB2).on hb3)
    have HX3 := hide ((unhide HX2).below hb3)
    have HR6 := hide hR6
    have HR7 := hide hR7
    have HR8 := hide hR8
    clear hb3 hR6 hR7 hR8 HB2 HER2 HVR2 HTB2 HX2 l0 n0 m0 t0 t1 t2 t3 t4 t5 t6 t7 t8 t9 t10 t11
    obtain ⟨c0, c1, c2, c3⟩ := (unhide HR8).facts
    go_wp2_with fail
    refine (unhide h43 _ (unhide HVR3)).mono ?_
    rintro e w4 ⟨v, er, rfl, hb4, hvb, hnum⟩
    have HB4 := hide (bt (unhide HB3) hb4 (Nat.le_refl _))
    have HER4 := hide ((unhide HER3).on hb4)
    have HTB4 := hide ((unhide HTB3).on hb4)
    have HX4 := hide ((unhide HX3).below hb4)
    have HR64 := hide ((unhide HR6).below hb4)
    have HR74 := hide ((unhide HR7).below hb4)
    have HR84 := hide ((unhide HR8).below hb4)
    have HVB := hide hvb
    have HNUM := hide hnum
    clear hb4 hvb hnum c0 c1 c2 c3 HB3 HER3 HVR3 HTB3 HX3 HR6 HR7 HR8 h43
    obtain ⟨c0, c1, c2, c3⟩ := (unhide HR64).facts
    obtain ⟨d0, d1, d2, d3⟩ := (unhide HR74).facts
    have hb5 := ab (w := w4) (.cells #[.string sh, .int .i64 op, .int .i64 n, .string s, .slice a len cap, .int .i64 v] 57)
    have HB5 := hide (bt (unhide HB4) hb5 (Nat.le_refl _))
    have HER5 := hide ((unhide HER4).on hb5)
    have HTB5 := hide ((unhide HTB4).on hb5)
    have HX5 := hide ((unhide HX4).below hb5)
    have HR65 := hide ((unhide HR64).below hb5)
    have HR75 := hide ((unhide HR74).below hb5)
    have HR85 := hide ((unhide HR84).below hb5)
    have HRC := hide (RowC.new 57 w4 sh op n s a len cap v)
    clear hb5
    go_wp2_with fail
    generalize hV5 : w4.alloc (.cells #[.string sh, .int .i64 op, .int .i64 n, .string s, .slice a len cap, .int .i64 v] 57) = V5 at *
    generalize w4.heap.size = bC at *
    clear hV5 c0 c1 c2 c3 d0 d1 d2 d3 HB4 HER4 HTB4 HX4 HR64 HR74 HR84
    obtain ⟨c0, c1, c2, c3⟩ := (unhide HR65).facts
    obtain ⟨d0, d1, d2, d3⟩ := (unhide HR85).facts
    have l6 := lt_of_cell c0
    have n6 := Nat.ne_of_lt l6
    have m6 := Ne.symm n6
    have l8 := lt_of_cell d0
    have n8 := Nat.ne_of_lt l8
    have m8 := Ne.symm n8
    go_cut [12] (fun p wx => PlainCut V5 p wx oh sh ou su)
    case first =>
      go_region_held3 (fun y => y.cell? ⟨b6, 0, none⟩ = some (.int .i64 oh) ∧ y.cell? ⟨b6, 1, none⟩ = some (.int .i64 nh) ∧ y.cell? ⟨b6, 2, none⟩ = some (.string sh) ∧ y.cell? ⟨b6, 3, none⟩ = some (.slice ah lh ch) ∧
          y.cell? ⟨b8, 0, none⟩ = some (.int .i64 ou) ∧ y.cell? ⟨b8, 1, none⟩ = some (.int .i64 nu) ∧ y.cell? ⟨b8, 2, none⟩ = some (.string su) ∧ y.cell? ⟨b8, 3, none⟩ = some (.slice au lu cu)) (go_keep)
        (first
          | (go_at_call 141
             refine (unhide h44 ou nu su au lu cu _).mono ?_
             rintro e w7 ⟨rfl, hb7⟩
             first
               | (have zz7 := hide ((unhide zz6).below hb7)
                  have hb07 : Hid (Below V5.heap.size V5 w7) := bt (unhide hb06) hb7 (Nat.le_refl _)
                  have hg7 : Hid (V5.heap.size ≤ V5.heap.size) := Nat.le_refl _)
               | (have zz7 := hide ((RowV.new 139 w6 #[.int .i64 0, .string ⟨#[]⟩, .int .i64 0, .string ⟨#[]⟩]).below hb7)
                  have hb07 : Hid (Below V5.heap.size V5 w7) := bt (bt (unhide hb06) (ab _) (Nat.le_refl _)) hb7 (Nat.le_refl _)
                  have hg7 : Hid (V5.heap.size ≤ w6.heap.size) := (unhide hb06).size)
               | have hb07 : Hid (Below V5.heap.size V5 w7) := bt (unhide hb06) hb7 (Nat.le_refl _)
             have i0 := kpc (unhide hb07) c0
             have i1 := kpc (unhide hb07) c1
             have i2 := kpc (unhide hb07) c2
             have i3 := kpc (unhide hb07) c3
             have j0 := kpc (unhide hb07) d0
             have j1 := kpc (unhide hb07) d1
             have j2 := kpc (unhide hb07) d2
             have j3 := kpc (unhide hb07) d3
             try obtain ⟨⟨p0, p1, p2, p3⟩, q0, q1, q2, q3⟩ := (unhide zz7).four
             try have nz := Nat.ne_of_lt (lt_of_heap (unhide zz7))
             try have mz := Ne.symm nz
             try have nz' := eq_false nz
             try have mz' := eq_false mz
             try have lz := lt_of_heap (unhide zz7)
             have l7 := lt_of_cell i0
             have n7 := Nat.ne_of_lt l7
             have m7 := Ne.symm n7
             have l9 := lt_of_cell j0
             have n9 := Nat.ne_of_lt l9
             have m9 := Ne.symm n9
             clear hb7)
          | (go_at_call 141
             refine (unhide h44 oh nh sh ah lh ch _).mono ?_
             rintro e w6 ⟨rfl, hb6⟩
             try have zz6 := hide ((RowV.new 139 V5 #[.int .i64 0, .string ⟨#[]⟩, .int .i64 0, .string ⟨#[]⟩]).drew.below hb6)
             have hb06 : Hid (Below V5.heap.size V5 w6) := by
               first
                 | exact below_drew' hb6
                 | exact bt (ab _) (below_drew' hb6) (Nat.le_refl _)
             have f0 := kpc (unhide hb06) c0
             have f1 := kpc (unhide hb06) c1
             have f2 := kpc (unhide hb06) c2
             have f3 := kpc (unhide hb06) c3
             have k0 := kpc (unhide hb06) d0
             have k1 := kpc (unhide hb06) d1
             have k2 := kpc (unhide hb06) d2
             have k3 := kpc (unhide hb06) d3
             have la := lt_of_cell f0
             have na := Nat.ne_of_lt la
             have ma := Ne.symm na
             have lb := lt_of_cell k0
             have nb := Nat.ne_of_lt lb
             have mb := Ne.symm nb
             clear hb6))
      all_goals go_wp2_with fail
      all_goals go_meet
      all_goals first
        | (with_reducible refine PlainCut.late ?_
           exact unhide hb07)
        | (with_reducible refine PlainCut.early ?_ ?_ ?_ rfl
           · exact unhide hb07
           · exact unhide zz7
           · exact unhide hg7)
    case rest =>
      obtain ⟨bP, rfl, hgP, hRP, hbP⟩ := hcut
      have HB8 := hide (bt (unhide HB5) hbP (Nat.le_refl _))
      have HER8 := hide ((unhide HER5).on hbP)
      have HTB8 := hide ((unhide HTB5).on hbP)
      have HX8 := hide ((unhide HX5).below hbP)
      have HR78 := hide ((unhide HR75).below hbP)
      have HRC8 := hide ((unhide HRC).below hbP)
      have HRP := hide hRP
      have hCP : bC < bP := by have := (unhide HRC).lt; omega
      clear hbP hRP c0 c1 c2 c3 d0 d1 d2 d3 l6 n6 m6 l8 n8 m8 HB5 HER5 HTB5 HX5 HR65 HR75 HR85 HRC
      obtain ⟨c0, c1, c2, c3, c4, c5⟩ := (unhide HRC8).facts
      obtain ⟨⟨d0, d1, d2, d3⟩, -⟩ := (unhide HRP).four
      have hne : (w.heap.size + 1 = 0) = False := by simp
      have hne' : (0 = w.heap.size + 1) = False := by simp
      have HLP := hide (hl.below (unhide HB8))
      have h46 := hide (fun w' ht => plain46 sh op n s a len cap v w' (unhide HVB).1 (unhide HVB).2 ht)
      have h45 := hide (fun w' hl' => certI t sh op n s a len cap v w' hl' htz hsh)
      cases hC : certB sh t v with
      | false =>
        rw [hC] at h45
        have HNO : Hid (¬ ∃ v', ReadOk oh sh t ou su v') := by
          rintro ⟨v', hr⟩
          rw [unhide HNUM v' hr.num, hr.1] at hC
          cases hC
        clear hC
        go_wp2_with fail
        first
          | go_region_with (go_at_call 56
                            refine (unhide h45 _ ((unhide HLP).below (Below.refl _ _).drew)).mono ?_
                            rintro e w9 ⟨rfl, hb9⟩
                            have hb9' := hide (below_drew' hb9)
                            obtain ⟨e0, e1, e2, e3, e4, e5⟩ := ((unhide HRC8).below (unhide hb9')).facts
                            obtain ⟨⟨f0, f1, f2, f3⟩, -⟩ := ((unhide HRP).below (unhide hb9')).four
                            have HB9 := hide (bt (unhide HB8) (unhide hb9') (Nat.le_refl _))
                            have g0 := ((unhide HER8).on (unhide hb9')).cell
                            obtain ⟨p0, p1, p2, p3, p4, p5⟩ := ((unhide HX8).below (unhide hb9')).facts
                            obtain ⟨q0, q1, q2, q3, q4, q5⟩ := ((unhide HX8).below (unhide hb9')).frozen)
          | fail
        all_goals go_wp2_with fail
        all_goals go_region
        all_goals go_wp2_with fail
        all_goals exact bodyPost_ret (v := .tuple #[.agg #[.string ByteArray.empty, .int .i64 0, .int .i64 0, .string ByteArray.empty, .slice none 0 0, .int .i64 0], .iface 202 (.pointer (some x))]) (by simp [results, Tryz.results108, go_sem, p0, p1, p2, p3, p4, p5]; try rfl) rfl ⟨by first | exact (set6_below (unhide HB9) (by omega)).drew | exact set6_below (unhide HB9) (by omega), Or.inr ⟨unhide HNO, rfl⟩⟩
      | true =>
        rw [hC] at h45
        by_cases h1 : oh = 2
        · by_cases h2 : ou = 2
          · by_cases h3 : su = ⟨(Lib.itoa v).toArray⟩
            · have HYES : Hid (ReadOk oh sh t ou su v) := ⟨hC, h1, h2, h3⟩
              rw [← h3] at h46
              subst h1 h2
              clear hC h3
              go_wp2_with fail
              go_region_held3 (fun y => y.cell? ⟨bC, 0, none⟩ = some (.string sh) ∧ y.cell? ⟨bC, 1, none⟩ = some (.int .i64 op) ∧ y.cell? ⟨bC, 2, none⟩ = some (.int .i64 n) ∧ y.cell? ⟨bC, 3, none⟩ = some (.string s) ∧ y.cell? ⟨bC, 4, none⟩ = some (.slice a len cap) ∧ y.cell? ⟨bC, 5, none⟩ = some (.int .i64 v) ∧
                  y.cell? ⟨bP, 0, none⟩ = some (.int .i64 2) ∧ y.cell? ⟨bP, 1, none⟩ = some (.string sh) ∧ y.cell? ⟨bP, 2, none⟩ = some (.int .i64 2) ∧ y.cell? ⟨bP, 3, none⟩ = some (.string su)) (go_keep)
                (first
                  | (go_at_call 56
                     refine (unhide h45 _ ((unhide HLP).below (Below.refl _ _).drew)).mono ?_
                     rintro e w9 ⟨rfl, hb9⟩
                     have hb9' := hide (below_drew' hb9)
                     obtain ⟨e0, e1, e2, e3, e4, e5⟩ := ((unhide HRC8).below (unhide hb9')).facts
                     obtain ⟨⟨f0, f1, f2, f3⟩, -⟩ := ((unhide HRP).below (unhide hb9')).four)
                  | (go_at_call 142
                     refine (unhide h46 _ ((unhide HTB8).on (unhide hb9'))).mono ?_
                     rintro e w10 ⟨rfl, hb10⟩
                     have hb10' := hide hb10
                     obtain ⟨i0, i1, i2, i3, i4, i5⟩ := (((unhide HRC8).below (unhide hb9')).below hb10).facts
                     obtain ⟨⟨j0, j1, j2, j3⟩, -⟩ := (((unhide HRP).below (unhide hb9')).below hb10).four
                     have HB9 := hide (bt (bt (unhide HB8) (unhide hb9') (Nat.le_refl _)) hb10 (Nat.le_refl _))
                     have g0 := (((unhide HER8).on (unhide hb9')).on hb10).cell
                     obtain ⟨p0, p1, p2, p3, p4, p5⟩ := (((unhide HX8).below (unhide hb9')).below hb10).facts
                     obtain ⟨q0, q1, q2, q3, q4, q5⟩ := (((unhide HX8).below (unhide hb9')).below hb10).frozen))
              all_goals go_wp2_with fail
              all_goals exact bodyPost_ret (v := .tuple #[.agg #[.string sh, .int .i64 op, .int .i64 n, .string s, .slice a len cap, .int .i64 v], .nilIface]) (by simp [results, Tryz.results108, go_sem, p0, p1, p2, p3, p4, p5]; try rfl) rfl ⟨set6_below (unhide HB9) (by omega), Or.inl ⟨v, unhide HYES, rfl⟩⟩
            · have q3 : (su.toList == (⟨(Lib.itoa v).toArray⟩ : ByteArray).toList) = false := by
                rw [beq_eq_false_iff_ne]
                intro e
                exact h3 (toList_inj e)
              have HNO : Hid (¬ ∃ v', ReadOk oh sh t ou su v') := by
                rintro ⟨v', hr⟩
                have e := unhide HNUM v' hr.num
                subst e
                exact h3 hr.2.2.2
              clear hC h3
              subst h1 h2
              generalize (⟨(Lib.itoa v).toArray⟩ : ByteArray) = ns at *
              go_wp2_with fail
              go_region_held3 (fun y => y.cell? ⟨bC, 0, none⟩ = some (.string sh) ∧ y.cell? ⟨bC, 1, none⟩ = some (.int .i64 op) ∧ y.cell? ⟨bC, 2, none⟩ = some (.int .i64 n) ∧ y.cell? ⟨bC, 3, none⟩ = some (.string s) ∧ y.cell? ⟨bC, 4, none⟩ = some (.slice a len cap) ∧ y.cell? ⟨bC, 5, none⟩ = some (.int .i64 v) ∧
                  y.cell? ⟨bP, 0, none⟩ = some (.int .i64 2) ∧ y.cell? ⟨bP, 1, none⟩ = some (.string sh) ∧ y.cell? ⟨bP, 2, none⟩ = some (.int .i64 2) ∧ y.cell? ⟨bP, 3, none⟩ = some (.string su)) (go_keep)
                (first
                  | (go_at_call 56
                     refine (unhide h45 _ ((unhide HLP).below (Below.refl _ _).drew)).mono ?_
                     rintro e w9 ⟨rfl, hb9⟩
                     have hb9' := hide (below_drew' hb9)
                     obtain ⟨e0, e1, e2, e3, e4, e5⟩ := ((unhide HRC8).below (unhide hb9')).facts
                     obtain ⟨⟨f0, f1, f2, f3⟩, -⟩ := ((unhide HRP).below (unhide hb9')).four)
                  | (go_at_call 142
                     refine (unhide h46 _ ((unhide HTB8).on (unhide hb9'))).mono ?_
                     rintro e w10 ⟨rfl, hb10⟩
                     have hb10' := hide hb10
                     obtain ⟨i0, i1, i2, i3, i4, i5⟩ := (((unhide HRC8).below (unhide hb9')).below hb10).facts
                     obtain ⟨⟨j0, j1, j2, j3⟩, -⟩ := (((unhide HRP).below (unhide hb9')).below hb10).four
                     have HB9 := hide (bt (bt (unhide HB8) (unhide hb9') (Nat.le_refl _)) hb10 (Nat.le_refl _))
                     have g0 := (((unhide HER8).on (unhide hb9')).on hb10).cell
                     obtain ⟨p0, p1, p2, p3, p4, p5⟩ := (((unhide HX8).below (unhide hb9')).below hb10).facts
                     obtain ⟨q0, q1, q2, q3, q4, q5⟩ := (((unhide HX8).below (unhide hb9')).below hb10).frozen))
              all_goals go_wp2_with fail
              all_goals go_region
              all_goals go_wp2_with fail
              all_goals exact bodyPost_ret (v := .tuple #[.agg #[.string ByteArray.empty, .int .i64 0, .int .i64 0, .string ByteArray.empty, .slice none 0 0, .int .i64 0], .iface 202 (.pointer (some x))]) (by simp [results, Tryz.results108, go_sem, p0, p1, p2, p3, p4, p5]; try rfl) rfl ⟨by first | exact (set6_below (unhide HB9) (by omega)).drew | exact set6_below (unhide HB9) (by omega), Or.inr ⟨unhide HNO, rfl⟩⟩
          · have q2 : (ou == 2) = false := by simpa using h2
            have HNO : Hid (¬ ∃ v', ReadOk oh sh t ou su v') := fun ⟨v', hr⟩ => h2 hr.2.2.1
            clear hC h2
            subst h1
            go_wp2_with fail
            go_region_held3 (fun y => y.cell? ⟨bC, 0, none⟩ = some (.string sh) ∧ y.cell? ⟨bC, 1, none⟩ = some (.int .i64 op) ∧ y.cell? ⟨bC, 2, none⟩ = some (.int .i64 n) ∧ y.cell? ⟨bC, 3, none⟩ = some (.string s) ∧ y.cell? ⟨bC, 4, none⟩ = some (.slice a len cap) ∧ y.cell? ⟨bC, 5, none⟩ = some (.int .i64 v) ∧
                y.cell? ⟨bP, 0, none⟩ = some (.int .i64 2) ∧ y.cell? ⟨bP, 1, none⟩ = some (.string sh) ∧ y.cell? ⟨bP, 2, none⟩ = some (.int .i64 ou) ∧ y.cell? ⟨bP, 3, none⟩ = some (.string su)) (go_keep)
              (first
                | (go_at_call 56
                   refine (unhide h45 _ ((unhide HLP).below (Below.refl _ _).drew)).mono ?_
                   rintro e w9 ⟨rfl, hb9⟩
                   have hb9' := hide (below_drew' hb9)
                   obtain ⟨e0, e1, e2, e3, e4, e5⟩ := ((unhide HRC8).below (unhide hb9')).facts
                   obtain ⟨⟨f0, f1, f2, f3⟩, -⟩ := ((unhide HRP).below (unhide hb9')).four)
                | (go_at_call 142
                   refine (unhide h46 _ ((unhide HTB8).on (unhide hb9'))).mono ?_
                   rintro e w10 ⟨rfl, hb10⟩
                   have hb10' := hide hb10
                   obtain ⟨i0, i1, i2, i3, i4, i5⟩ := (((unhide HRC8).below (unhide hb9')).below hb10).facts
                   obtain ⟨⟨j0, j1, j2, j3⟩, -⟩ := (((unhide HRP).below (unhide hb9')).below hb10).four
                   have HB9 := hide (bt (bt (unhide HB8) (unhide hb9') (Nat.le_refl _)) hb10 (Nat.le_refl _))
                   have g0 := (((unhide HER8).on (unhide hb9')).on hb10).cell
                   obtain ⟨p0, p1, p2, p3, p4, p5⟩ := (((unhide HX8).below (unhide hb9')).below hb10).facts
                   obtain ⟨q0, q1, q2, q3, q4, q5⟩ := (((unhide HX8).below (unhide hb9')).below hb10).frozen))
            all_goals go_wp2_with fail
            all_goals go_region
            all_goals go_wp2_with fail
            all_goals exact bodyPost_ret (v := .tuple #[.agg #[.string ByteArray.empty, .int .i64 0, .int .i64 0, .string ByteArray.empty, .slice none 0 0, .int .i64 0], .iface 202 (.pointer (some x))]) (by simp [results, Tryz.results108, go_sem, p0, p1, p2, p3, p4, p5]; try rfl) rfl ⟨by first | exact (set6_below (unhide HB9) (by omega)).drew | exact set6_below (unhide HB9) (by omega), Or.inr ⟨unhide HNO, rfl⟩⟩
        · have q1 : (oh == 2) = false := by simpa using h1
          have HNO : Hid (¬ ∃ v', ReadOk oh sh t ou su v') := fun ⟨v', hr⟩ => h1 hr.2.1
          clear hC h1
          go_wp2_with fail
          go_region_held3 (fun y => y.cell? ⟨bC, 0, none⟩ = some (.string sh) ∧ y.cell? ⟨bC, 1, none⟩ = some (.int .i64 op) ∧ y.cell? ⟨bC, 2, none⟩ = some (.int .i64 n) ∧ y.cell? ⟨bC, 3, none⟩ = some (.string s) ∧ y.cell? ⟨bC, 4, none⟩ = some (.slice a len cap) ∧ y.cell? ⟨bC, 5, none⟩ = some (.int .i64 v) ∧
              y.cell? ⟨bP, 0, none⟩ = some (.int .i64 oh) ∧ y.cell? ⟨bP, 1, none⟩ = some (.string sh) ∧ y.cell? ⟨bP, 2, none⟩ = some (.int .i64 ou) ∧ y.cell? ⟨bP, 3, none⟩ = some (.string su)) (go_keep)
            (first
              | (go_at_call 56
                 refine (unhide h45 _ ((unhide HLP).below (Below.refl _ _).drew)).mono ?_
                 rintro e w9 ⟨rfl, hb9⟩
                 have hb9' := hide (below_drew' hb9)
                 obtain ⟨e0, e1, e2, e3, e4, e5⟩ := ((unhide HRC8).below (unhide hb9')).facts
                 obtain ⟨⟨f0, f1, f2, f3⟩, -⟩ := ((unhide HRP).below (unhide hb9')).four)
              | (go_at_call 142
                 refine (unhide h46 _ ((unhide HTB8).on (unhide hb9'))).mono ?_
                 rintro e w10 ⟨rfl, hb10⟩
                 have hb10' := hide hb10
                 obtain ⟨i0, i1, i2, i3, i4, i5⟩ := (((unhide HRC8).below (unhide hb9')).below hb10).facts
                 obtain ⟨⟨j0, j1, j2, j3⟩, -⟩ := (((unhide HRP).below (unhide hb9')).below hb10).four
                 have HB9 := hide (bt (bt (unhide HB8) (unhide hb9') (Nat.le_refl _)) hb10 (Nat.le_refl _))
                 have g0 := (((unhide HER8).on (unhide hb9')).on hb10).cell
                 obtain ⟨p0, p1, p2, p3, p4, p5⟩ := (((unhide HX8).below (unhide hb9')).below hb10).facts
                 obtain ⟨q0, q1, q2, q3, q4, q5⟩ := (((unhide HX8).below (unhide hb9')).below hb10).frozen))
          all_goals go_wp2_with fail
          all_goals go_region
          all_goals go_wp2_with fail
          all_goals exact bodyPost_ret (v := .tuple #[.agg #[.string ByteArray.empty, .int .i64 0, .int .i64 0, .string ByteArray.empty, .slice none 0 0, .int .i64 0], .iface 202 (.pointer (some x))]) (by simp [results, Tryz.results108, go_sem, p0, p1, p2, p3, p4, p5]; try rfl) rfl ⟨by first | exact (set6_below (unhide HB9) (by omega)).drew | exact set6_below (unhide HB9) (by omega), Or.inr ⟨unhide HNO, rfl⟩⟩

mutual
theorem cmpT_alike : ∀ (t u : Tm), cmpT t u = 0 → t = u
  | .node op n s ks, .node op' n' s' ks', h => by
    simp only [cmpT] at h
    obtain ⟨h1, h2⟩ := orI_eq_zero.1 h
    obtain ⟨rfl, rfl, rfl, h3⟩ := headC_zero.1 h1
    rw [cmpL_alike ks ks' h3 h2]
theorem cmpL_alike : ∀ (ks ks' : List Tm), ks.length = ks'.length → cmpL ks ks' = 0 → ks = ks'
  | [], [], _, _ => rfl
  | [], _ :: _, h, _ => by simp at h
  | _ :: _, [], h, _ => by simp at h
  | t :: r, u :: r', h, h0 => by
    simp only [cmpL] at h0
    obtain ⟨h1, h2⟩ := orI_eq_zero.1 h0
    rw [cmpT_alike t u h1, cmpL_alike r r' (by simpa using h) h2]
end

mutual
theorem cmpT_me : ∀ t : Tm, cmpT t t = 0
  | .node op n s ks => by
    simp only [cmpT]
    exact orI_eq_zero.2 ⟨headC_zero.2 ⟨rfl, rfl, rfl, rfl⟩, cmpL_me ks⟩
theorem cmpL_me : ∀ ks : List Tm, cmpL ks ks = 0
  | [] => by simp [cmpL]
  | t :: r => by
    simp only [cmpL]
    exact orI_eq_zero.2 ⟨cmpT_me t, cmpL_me r⟩
end

theorem same_alike {t u : Tm} : sameB t u = true ↔ t = u := by
  constructor
  · intro h
    exact cmpT_alike t u (by simpa [sameB] using h)
  · rintro rfl
    simp [sameB, cmpT_me]

theorem empty_of_size {s : ByteArray} (h : s.size = 0) : s = ByteArray.empty := by
  apply toList_inj
  rw [ByteArray.toList_eq, ByteArray.toList_eq]
  have : s.data.toList.length = 0 := by simpa using h
  rw [List.length_eq_zero_iff.1 this]
  rfl
theorem ok_head {op n : Int} {s : ByteArray} {ks : List Tm} (h : okT (.node op n s ks) = true) : kidsOf op = ks.length ∧ (op = 1 ∨ n = 0) ∧ (op = 2 ∨ s.size = 0) ∧ s.size ≤ 300 := by
  simp only [okT, rightT, Bool.and_eq_true, headB, decide_eq_true_eq] at h
  exact ⟨h.2.1.1.1, h.2.1.1.2.1, h.2.1.1.2.2.1, h.2.1.1.2.2.2.2⟩
theorem ok_text {n : Int} {s : ByteArray} {ks : List Tm} (h : okT (.node 2 n s ks) = true) : Tm.node 2 n s ks = textT s := by
  obtain ⟨h1, h2, _, _⟩ := ok_head h
  have hn : n = 0 := by rcases h2 with h | h <;> omega
  have hk : ks = [] := by
    simp [kidsOf] at h1
    exact List.length_eq_zero_iff.1 (by omega)
  rw [hn, hk]
  rfl
theorem ok_pair {o n : Int} {s : ByteArray} {ks : List Tm} (ho : o = 3 ∨ o = 8) (h : okT (.node o n s ks) = true) : ∃ k0 k1, Tm.node o n s ks = .node o 0 ByteArray.empty [k0, k1] ∧ okT k0 = true ∧ okT k1 = true := by
  obtain ⟨h1, h2, h3, _⟩ := ok_head h
  have hn : n = 0 := by rcases h2 with h | h <;> omega
  have hs : s = ByteArray.empty := empty_of_size (by rcases h3 with h | h <;> omega)
  obtain ⟨k0, k1, rfl⟩ := ok_two (by omega) h
  exact ⟨k0, k1, by rw [hn, hs], okT_kid h (by simp), okT_kid h (by simp)⟩

/-- What a certificate comes to, laid out. -/
def certL (h : ByteArray) (p : Tm) (v : Int) : Tm := .node 8 0 ByteArray.empty [oneT, .node 3 0 ByteArray.empty [textT h, .node 3 0 ByteArray.empty [p, numT v]]]
/-- The term is what this certificate comes to. -/
def CP (t : Tm) (h : ByteArray) (p : Tm) (v : Int) : Prop := t = certL h p v ∧ certB h p v = true ∧ okT t = true
theorem numT_text (v : Int) : numT v = textT ⟨(Lib.itoa v).toArray⟩ := rfl
theorem textT_inj {a b : ByteArray} (h : textT a = textT b) : a = b := by
  unfold textT at h
  cases h
  rfl
theorem CP.one {t : Tm} {h h' : ByteArray} {p p' : Tm} {v v' : Int} (c : CP t h p v) (c' : CP t h' p' v') : h = h' ∧ p = p' ∧ v = v' := by
  have e := c.1.symm.trans c'.1
  unfold certL at e
  simp only [Tm.node.injEq, List.cons.injEq, and_true, true_and] at e
  obtain ⟨e1, e2, e3⟩ := e
  refine ⟨textT_inj e1, e2, ?_⟩
  rw [numT_text, numT_text] at e3
  have e4 := textT_inj e3
  have b1 := certB_ok c.2.1
  have b2 := certB_ok c'.2.1
  exact isNum_one (s := ⟨(Lib.itoa v).toArray⟩) ⟨b1.2.2.2.1, b1.2.2.2.2, rfl⟩ ⟨b2.2.2.2.1, b2.2.2.2.2, e4⟩
theorem CP.beh {t : Tm} {h : ByteArray} {p : Tm} {v : Int} (c : CP t h p v) : behO 8 oneT t = some (.node 3 0 ByteArray.empty [textT h, .node 3 0 ByteArray.empty [p, numT v]]) := by
  have hok := c.2.2
  rw [c.1] at hok ⊢
  unfold certL at hok ⊢
  simp only [behO, hok, decide_true, Bool.true_and, same_alike.2 rfl, if_true]

theorem lies_cap {w : World} {L : Nat} {t : Tm} {op n : Int} {s : ByteArray} {a : Option Addr} {len cap : Nat} (h : Lies w L t (tmCells op n s a len cap)) : len ≤ cap := by
  cases t with
  | node op' n' s' ks =>
    simp only [Lies, tmCells, List.cons.injEq, Value.int.injEq, Value.string.injEq, Value.slice.injEq, true_and, and_true] at h
    obtain ⟨a', cap', ⟨_, _, _, _, e1, e2⟩, ⟨_, h2, _⟩, _⟩ := h
    rw [e1, e2]
    exact h2

def zeroC : Value := .agg #[.string ByteArray.empty, .int .i64 0, .int .i64 0, .string ByteArray.empty, .slice none 0 0, .int .i64 0]

set_option maxRecDepth 100000 in
set_option maxHeartbeats 1000000 in
/-- impl.readCert where impl.certFields has the named error. -/
theorem read_no (op2 n2 : Int) (s2 : ByteArray) (a2 : Option Addr) (len2 cap2 : Nat) (x : Addr) (w : World)
    (hf : ∀ v, Below w.heap.size w v → Calls Tryz.prog 139 #[.agg #[.int .i64 op2, .int .i64 n2, .string s2, .slice a2 len2 cap2]] v fun e w' => e = .returned (.tuple #[.slice none 0 0, .iface 202 (.pointer (some x))]) ∧ Below v.heap.size v w') :
    Calls Tryz.prog 108 #[.agg #[.int .i64 op2, .int .i64 n2, .string s2, .slice a2 len2 cap2]] w fun e w' => e = .returned (.tuple #[zeroC, .iface 202 (.pointer (some x))]) ∧ Below w.heap.size w w' := by
  have h42 := hide hf
  clear hf
  have hB0 : Below w.heap.size w ((w.alloc (.cells #[.int .i64 op2, .int .i64 n2, .string s2, .slice a2 len2 cap2] 29)).alloc (.cells #[.string ⟨#[]⟩, .int .i64 0, .int .i64 0, .string ⟨#[]⟩, .slice none 0 0, .int .i64 0] 57)) := bt (ab _) (ab _) (Nat.le_refl _)
  have HX : Hid (RowC 57 ((w.alloc (.cells #[.int .i64 op2, .int .i64 n2, .string s2, .slice a2 len2 cap2] 29)).alloc (.cells #[.string ⟨#[]⟩, .int .i64 0, .int .i64 0, .string ⟨#[]⟩, .slice none 0 0, .int .i64 0] 57)) (w.heap.size + 1) ⟨#[]⟩ 0 0 ⟨#[]⟩ none 0 0 0) := by
    have := RowC.new 57 (w.alloc (.cells #[.int .i64 op2, .int .i64 n2, .string s2, .slice a2 len2 cap2] 29)) ⟨#[]⟩ 0 0 ⟨#[]⟩ none 0 0 0
    rwa [heap_size_alloc] at this
  have HB0 := hide hB0
  clear hB0
  go_enter Tryz.func108, Tryz.ntmps108
  go_wp2_with fail
  refine (unhide h42 _ (unhide HB0)).mono ?_
  rintro e w2 ⟨rfl, hb2⟩
  have HB2 := hide (bt (unhide HB0) hb2 (Nat.le_refl _))
  obtain ⟨p0, p1, p2, p3, p4, p5⟩ := ((unhide HX).below hb2).facts
  obtain ⟨q0, q1, q2, q3, q4, q5⟩ := ((unhide HX).below hb2).frozen
  clear hb2
  go_wp2_with fail
  exact bodyPost_ret (v := .tuple #[.agg #[.string ByteArray.empty, .int .i64 0, .int .i64 0, .string ByteArray.empty, .slice none 0 0, .int .i64 0], .iface 202 (.pointer (some x))]) (by simp [results, Tryz.results108, go_sem, p0, p1, p2, p3, p4, p5]; try rfl) rfl ⟨rfl, set6_below (unhide HB2) (by omega)⟩

/-- impl.readCert at whatever term. -/
theorem read26 (t : Tm) (op2 n2 : Int) (s2 : ByteArray) (a2 : Option Addr) (len2 cap2 : Nat) (x : Addr) (w0 w : World) (hl0 : Lies w0 0 t (tmCells op2 n2 s2 a2 len2 cap2)) (hw0 : Below w0.heap.size w0 w) (hsz : t.size ≤ 2097152) (he : ErrAt x w) (hv : Var12 w) (htab : Tab w) :
    Calls Tryz.prog 108 #[.agg #[.int .i64 op2, .int .i64 n2, .string s2, .slice a2 len2 cap2]] w fun e w' => Below w.heap.size w w' ∧
      ((∃ h p v op n s a len cap, CP t h p v ∧ e = .returned (.tuple #[.agg #[.string h, .int .i64 op, .int .i64 n, .string s, .slice a len cap, .int .i64 v], .nilIface]) ∧ Lies w0 0 p (tmCells op n s a len cap)) ∨
        ((¬ ∃ h p v, CP t h p v) ∧ e = .returned (.tuple #[zeroC, .iface 202 (.pointer (some x))]))) := by
  have hl := hl0.below hw0
  have hone : ∀ v : World, Lies v 0 oneT (tmCells 1 1 ByteArray.empty none 0 0) := fun v => lies_leaf v 1 1 _ (by simp [maxLen]) (by decide) (by decide)
  cases hb : behO 8 oneT t with
  | none =>
    refine (read_no op2 n2 s2 a2 len2 cap2 x w fun v hbv => ?_).mono fun e w' h => ⟨h.2, Or.inr ⟨fun ⟨h1, p, v, c⟩ => ?_, h.1⟩⟩
    · exact fields_no1 op2 n2 s2 a2 len2 cap2 x v (he.on hbv) fun v' hbv' he' => behind_none 8 (by omega) oneT t 1 1 ByteArray.empty none 0 0 op2 n2 s2 a2 len2 cap2 x v' he' (hone _) ((hl.below hbv).below hbv') hsz hb
    · rw [c.beh] at hb
      cases hb
  | some body =>
    obtain ⟨nt, st, k0, rfl, hok, hs⟩ := behO_some hb
    have hokb : okT body = true := okT_kid hok (by simp)
    obtain ⟨rfl, rfl, rfl, rfl, b, q, op3, n3, s3, a3, len3, cap3, op4, n4, s4, a4, len4, cap4, rfl, ⟨r0, r1, r2, r3, hk0⟩, r4, r5, r6, r7, hk1⟩ := lies_kids hl0
    have hk1' := hk1
    replace r0 := kpc hw0 r0
    replace r1 := kpc hw0 r1
    replace r2 := kpc hw0 r2
    replace r3 := kpc hw0 r3
    replace r4 := kpc hw0 r4
    replace r5 := kpc hw0 r5
    replace r6 := kpc hw0 r6
    replace r7 := kpc hw0 r7
    replace hk0 := hk0.below hw0
    replace hk1 := hk1.below hw0
    have hB : ∀ v, Below w.heap.size w v → ErrAt x v → Calls Tryz.prog 131 #[.int .i64 8, .agg #[.int .i64 1, .int .i64 1, .string ByteArray.empty, .slice none 0 0], .agg #[.int .i64 8, .int .i64 n2, .string s2, .slice (some ⟨b, q, none⟩) 2 cap2]] v fun e w' => e = .returned (.tuple #[.agg #[.int .i64 op4, .int .i64 n4, .string s4, .slice a4 len4 cap4], .nilIface]) ∧ Below v.heap.size v w' := fun v hbv he' =>
      behind_yes oneT k0 body 1 1 ByteArray.empty none 0 0 8 n2 s2 b q cap2 op3 n3 s3 a3 len3 cap3 op4 n4 s4 a4 len4 cap4 x v he' (hone _) (hl.below hbv) hsz hok (kpc hbv r0) (kpc hbv r1) (kpc hbv r2) (kpc hbv r3) (hk0.below hbv) (kpc hbv r4) (kpc hbv r5) (kpc hbv r6) (kpc hbv r7) hs
    obtain ⟨ob, nb, sb, kb⟩ := body
    have hob : ob = op4 := lies_op hk1
    subst hob
    by_cases h3 : ob = 3
    · subst h3
      obtain ⟨b0, b1, eb, hokb0, hokb1⟩ := ok_pair (Or.inl rfl) hokb
      rw [eb] at hk1 hk1' hb hokb
      obtain ⟨-, -, -, rfl, b', q', op5, n5, s5, a5, len5, cap5, op6, n6, s6, a6, len6, cap6, rfl, ⟨y0, y1, y2, y3, hy0⟩, y4, y5, y6, y7, hy1⟩ := lies_kids hk1'
      have hy1' := hy1
      replace y0 := kpc hw0 y0
      replace y1 := kpc hw0 y1
      replace y2 := kpc hw0 y2
      replace y3 := kpc hw0 y3
      replace y4 := kpc hw0 y4
      replace y5 := kpc hw0 y5
      replace y6 := kpc hw0 y6
      replace y7 := kpc hw0 y7
      replace hy0 := hy0.below hw0
      replace hy1 := hy1.below hw0
      obtain ⟨o1, m1, z1, kk1⟩ := b1
      have ho1 : o1 = op6 := lies_op hy1
      subst ho1
      by_cases h6 : o1 = 3
      · subst h6
        obtain ⟨c0, c1, ec, hokc0, hokc1⟩ := ok_pair (Or.inl rfl) hokb1
        rw [ec] at hy1 hy1' hb
        obtain ⟨-, -, -, rfl, b'', q'', op7, n7, s7, a7, len7, cap7, op8, n8, s8, a8, len8, cap8, rfl, ⟨z0, z1', z2, z3, hz0⟩, z4, z5, z6, z7, hz1⟩ := lies_kids hy1'
        have hz0' := hz0
        replace z0 := kpc hw0 z0
        replace z1' := kpc hw0 z1'
        replace z2 := kpc hw0 z2
        replace z3 := kpc hw0 z3
        replace z4 := kpc hw0 z4
        replace z5 := kpc hw0 z5
        replace z6 := kpc hw0 z6
        replace z7 := kpc hw0 z7
        replace hz0 := hz0.below hw0
        replace hz1 := hz1.below hw0
        obtain ⟨oh, nh, sh, kh⟩ := b0
        obtain ⟨ou, nu, su, ku⟩ := c1
        have hh := hy0
        simp only [Lies, tmCells, List.cons.injEq, Value.int.injEq, Value.string.injEq, true_and] at hh
        obtain ⟨_, _, ⟨rfl, rfl, rfl, _⟩, _⟩ := hh
        have hh := hz1
        simp only [Lies, tmCells, List.cons.injEq, Value.int.injEq, Value.string.injEq, true_and] at hh
        obtain ⟨_, _, ⟨rfl, rfl, rfl, _⟩, _⟩ := hh
        have hcp : 2 ≤ cap4 := lies_cap hk1
        have hsz0 : c0.size ≤ 2097152 := by have := okT_200 hokc0; omega
        have hshz : s5.size ≤ 2097152 := by have := (ok_head hokb0).2.2.2; omega
        have hsuz : s8.size ≤ 2097152 := by have := (ok_head hokc1).2.2.2; omega
        have hF : ∀ v, Below w.heap.size w v → Calls Tryz.prog 139 #[.agg #[.int .i64 8, .int .i64 n2, .string s2, .slice (some ⟨b, q, none⟩) 2 cap2]] v fun e w' => ∃ v', e = .returned (.tuple #[v', .nilIface]) ∧ ThreeRow v (tmCells op5 n5 s5 a5 len5 cap5 ++ (tmCells op7 n7 s7 a7 len7 cap7 ++ tmCells op8 n8 s8 a8 len8 cap8)) v' w' := fun v hbv =>
          fields_yes 8 n2 s2 (some ⟨b, q, none⟩) 2 cap2 n4 s4 b' q' cap4 b'' q'' cap6 (tmCells op5 n5 s5 a5 len5 cap5) (tmCells op7 n7 s7 a7 len7 cap7 ++ tmCells op8 n8 s8 a8 len8 cap8) rfl rfl x v (he.on hbv) (kpc hbv y4) (kpc hbv y7)
            (fun j u hj => by
              match j, hj with
              | 0, hj => simp [tmCells] at hj; subst hj; exact kpc hbv y0
              | 1, hj => simp [tmCells] at hj; subst hj; exact kpc hbv y1
              | 2, hj => simp [tmCells] at hj; subst hj; exact kpc hbv y2
              | 3, hj => simp [tmCells] at hj; subst hj; exact kpc hbv y3
              | j + 4, hj => simp [tmCells] at hj)
            (fun j u hj => by
              match j, hj with
              | 0, hj => simp [tmCells] at hj; subst hj; exact kpc hbv z0
              | 1, hj => simp [tmCells] at hj; subst hj; exact kpc hbv z1'
              | 2, hj => simp [tmCells] at hj; subst hj; exact kpc hbv z2
              | 3, hj => simp [tmCells] at hj; subst hj; exact kpc hbv z3
              | 4, hj => simp [tmCells] at hj; subst hj; exact kpc hbv z4
              | 5, hj => simp [tmCells] at hj; subst hj; exact kpc hbv z5
              | 6, hj => simp [tmCells] at hj; subst hj; exact kpc hbv z6
              | 7, hj => simp [tmCells] at hj; subst hj; exact kpc hbv z7
              | j + 8, hj => simp [tmCells] at hj) hcp (fun v' hbv' he' => hB v' (bt hbv hbv' (Nat.le_refl _)) he')
        refine (read_all 8 n2 s2 (some ⟨b, q, none⟩) 2 cap2 op5 n5 s5 a5 len5 cap5 op7 n7 s7 a7 len7 cap7 op8 n8 s8 a8 len8 cap8 x w he hv htab hsuz c0 hz0 hsz0 hshz hF).mono ?_
        rintro e w' ⟨hbw, h | h⟩
        · obtain ⟨v, hr, hev⟩ := h
          refine ⟨hbw, Or.inl ⟨s5, c0, v, op7, n7, s7, a7, len7, cap7, ⟨?_, hr.1, hok⟩, hev, hz0'⟩⟩
          obtain ⟨k0', kb', ek, -, -⟩ := ok_pair (Or.inr rfl) hok
          simp only [Tm.node.injEq, List.cons.injEq, and_true, true_and] at ek
          obtain ⟨en, es, -, -⟩ := ek
          have e1 := hr.2.1
          have e2 := hr.2.2.1
          have e3 := hr.2.2.2
          subst e1 e2 e3
          rw [en, es, same_alike.1 hs, eb, ec, ok_text hokb0, ok_text hokc1]
          rfl
        · refine ⟨hbw, Or.inr ⟨fun ⟨h1, p1, v1, c⟩ => h.1 ⟨v1, ?_⟩, h.2⟩⟩
          have e := c.beh
          rw [eb, ec] at e
          rw [e] at hb
          simp only [Option.some.injEq, Tm.node.injEq, List.cons.injEq, and_true, true_and, textT, numT] at hb
          obtain ⟨⟨g1, -, g2, -⟩, g3, g4, -, g5, -⟩ := hb
          refine ⟨?_, g1.symm, g4.symm, g5.symm⟩
          rw [← g2, ← g3]
          exact c.2.1
      · refine (read_no 8 n2 s2 _ 2 cap2 x w fun v hbv => fields_no3 8 n2 s2 _ 2 cap2 n4 s4 b' q' cap4 o1 x v (he.on hbv) h6 (kpc hbv y4) fun v' hbv' he' => hB v' (bt hbv hbv' (Nat.le_refl _)) he').mono fun e w' h => ⟨h.2, Or.inr ⟨fun ⟨h1, p1, v1, c⟩ => ?_, h.1⟩⟩
        have e := c.beh
        rw [eb] at e
        rw [e] at hb
        simp only [Option.some.injEq, Tm.node.injEq, List.cons.injEq, and_true, true_and] at hb
        exact h6 hb.2.1.symm
    · refine (read_no 8 n2 s2 _ 2 cap2 x w fun v hbv => fields_no2 8 n2 s2 _ 2 cap2 ob n4 s4 a4 len4 cap4 x v (he.on hbv) h3 fun v' hbv' he' => hB v' (bt hbv hbv' (Nat.le_refl _)) he').mono fun e w' h => ⟨h.2, Or.inr ⟨fun ⟨h1, p1, v1, c⟩ => ?_, h.1⟩⟩
      have e := c.beh
      rw [e] at hb
      simp only [Option.some.injEq, Tm.node.injEq] at hb
      exact h3 hb.1.symm

theorem set_old {w : World} {o : Obj} {b : Nat} (h : b < w.heap.size) : (w.alloc o).heap[b]? = w.heap[b]? := heap_alloc_old w o h

theorem fillC {w : World} {g : Nat} {h0 : ByteArray} {op0 n0 : Int} {s0 : ByteArray} {a0 : Option Addr} {len0 cap0 : Nat} {u0 : Int} (hr : RowC 57 w g h0 op0 n0 s0 a0 len0 cap0 u0) (h : ByteArray) (op n : Int) (s : ByteArray) (a : Option Addr) (len cap : Nat) (u : Int) :
    RowC 57 ((((((w.setCell ⟨g, 0, none⟩ (.string h)).setCell ⟨g, 1, none⟩ (.int .i64 op)).setCell ⟨g, 2, none⟩ (.int .i64 n)).setCell ⟨g, 3, none⟩ (.string s)).setCell ⟨g, 4, none⟩ (.slice a len cap)).setCell ⟨g, 5, none⟩ (.int .i64 u)) g h op n s a len cap u := by
  unfold RowC at hr ⊢
  have r : ∀ {w : World} {b o : Nat} {C : Array Value} {t : TypeId} {fr : Nat × Nat} (v : Value), w.heap[b]? = some (.cells C t fr) → (w.setCell ⟨b, o, none⟩ v).heap[b]? = some (.cells (C.setIfInBounds o v) t fr) := fun v h => by
    simp only [World.setCell, Array.getElem?_modify]
    simp [h]
  exact r (o := 5) (.int .i64 u) (r (o := 4) (.slice a len cap) (r (o := 3) (.string s) (r (o := 2) (.int .i64 n) (r (o := 1) (.int .i64 op) (r (o := 0) (.string h) hr)))))
theorem RowC.far {ty : TypeId} {w : World} {b : Nat} {h : ByteArray} {op n : Int} {s : ByteArray} {a : Option Addr} {len cap : Nat} {u : Int} (hr : RowC ty w b h op n s a len cap u) {g o : Nat} (hne : b ≠ g) (x : Value) : RowC ty (w.setCell ⟨g, o, none⟩ x) b h op n s a len cap u := (set_heap w g o x b hne).trans hr
theorem set_size (w : World) (g o : Nat) (x : Value) : (w.setCell ⟨g, o, none⟩ x).heap.size = w.heap.size := by simp [World.setCell]

set_option maxRecDepth 100000 in
set_option maxHeartbeats 1000000 in
theorem pubS (t : Tm) (op n : Int) (s : ByteArray) (a : Option Addr) (len cap : Nat) (w : World) (hl : Lies w 0 t (tmCells op n s a len cap)) (hsz : t.size ≤ 2097151) :
    Calls Tryz.prog 61 #[.agg #[.int .i64 op, .int .i64 n, .string s, .slice a len cap]] w fun e w' => ∃ op' n' s' a' len' cap', e = .returned (.agg #[.int .i64 op', .int .i64 n', .string s', .slice a' len' cap']) ∧ Lies w' w.heap.size (madeT 4 [t]) (tmCells op' n' s' a' len' cap') ∧ Below w.heap.size w w' ∧ len' = cap' := by
  have h25 := hide (cz_calls t op n s a len cap)
  have h17 := hide (l3any (.node 4 0 ByteArray.empty [t]))
  have HZ : Hid ((Tm.node 4 0 ByteArray.empty [t]).size ≤ 2097152) := by show _ ≤ _; simp only [Tm.size, Tm.sizes]; omega
  have hB0 : Below w.heap.size w ((w.alloc (.cells #[.int .i64 op, .int .i64 n, .string s, .slice a len cap] 29)).alloc (.cells #[.int .i64 0, .int .i64 0, .string ByteArray.empty, .slice none 0 0] 29)) := bt (ab _) (ab _) (Nat.le_refl _)
  have HL := hide (hl.below hB0)
  have HB0 := hide hB0
  have HX : Hid (ZBox ((w.alloc (.cells #[.int .i64 op, .int .i64 n, .string s, .slice a len cap] 29)).alloc (.cells #[.int .i64 0, .int .i64 0, .string ByteArray.empty, .slice none 0 0] 29)) (w.heap.size + 1)) := by
    have := ZBox.new (w.alloc (.cells #[.int .i64 op, .int .i64 n, .string s, .slice a len cap] 29))
    rwa [heap_size_alloc] at this
  clear hl hB0
  go_enter Tryz.func61, Tryz.ntmps61
  go_wp2_with fail
  refine (unhide h25 _ (unhide HL) (by omega)).mono ?_
  rintro e w2 ⟨a2, cap2, f2, rfl, hO2, ⟨_, hge2⟩, hb2⟩
  have hB3 := bt (bt (unhide HB0) hb2 (Nat.le_refl _)) (ab (.cells #[.int .i64 op, .int .i64 n, .string s, .slice a2 len cap2] 29)) (Nat.le_refl _)
  have HB3 := hide hB3
  have HX3 := hide (((unhide HX).below hb2).below (ab (.cells #[.int .i64 op, .int .i64 n, .string s, .slice a2 len cap2] 29)))
  have HT3 := hide (lies_one (Own.lies _ _ _ hO2 hge2) hb2.size 4 (by decide))
  simp only [heap_size_alloc] at HT3
  clear hO2 hb2 hB3 HB0 HX HL hge2
  go_wp2_with fail
  refine (unhide h17 _ _ _ _ _ _ _ _ (unhide HT3) (unhide HZ)).mono ?_
  rintro e w4 ⟨op', n', s', a', len', cap', rfl, hL4, hb4, htt⟩
  have HTT := hide (htt rfl)
  have HB4 := hide (bt (unhide HB3) hb4 (Nat.le_refl _))
  have hX4 := (unhide HX3).below hb4
  have HL4 := hide hL4
  obtain ⟨d0, d1, d2, d3, e0, e1, e2, e3⟩ := hX4.facts
  clear hb4 hL4 hX4 HB3 HX3 HT3 htt
  go_wp2_with fail
  exact bodyPost_ret (v := .agg #[.int .i64 op', .int .i64 n', .string s', .slice a' len' cap']) (by simp [results, Tryz.results61, go_sem, d0, d1, d2, d3]) rfl ⟨op', n', s', a', len', cap', rfl, set4_lies (unhide HL4) (by omega) _ (by omega), set4_below (unhide HB4) (by omega), unhide HTT⟩

set_option maxRecDepth 100000 in
set_option maxHeartbeats 1000000 in
theorem l2pub33 (t : Tm) (op n : Int) (s : ByteArray) (a : Option Addr) (len cap : Nat) (w : World) (hl : Lies w 0 t (tmCells op n s a len cap)) :
    Calls Tryz.prog 116 #[.agg #[.int .i64 op, .int .i64 n, .string s, .slice a len cap]] w fun e w' => ∃ a', e = .returned (.agg #[.int .i64 4, .int .i64 0, .string ByteArray.empty, .slice a' 1 1]) ∧ Lies w' 0 (.node 4 0 ByteArray.empty [t]) (tmCells 4 0 ByteArray.empty a' 1 1) ∧ Below w.heap.size w w' := by
  have hB2 : Below w.heap.size w ((w.alloc (.cells #[.int .i64 op, .int .i64 n, .string s, .slice a len cap] 29)).alloc (.cells #[.int .i64 4, .int .i64 0, .string ⟨#[]⟩, .slice (some ⟨w.heap.size + 1 + 1, 0, none⟩) 1 1] 29)) := bt (ab _) (ab _) (Nat.le_refl _)
  have HO := lies_one (hl.below hB2) (Nat.zero_le _) 4 (by decide)
  simp only [heap_size_alloc, tmCells] at HO
  have HL := hide HO
  have HB := hide (bt hB2 (ab (.cells #[.int .i64 op, .int .i64 n, .string s, .slice a len cap] 29)) (Nat.le_refl _))
  clear hl HO hB2
  go_enter Tryz.func116, Tryz.ntmps116
  go_wp2_with fail
  have HR := RowT.new 29 (w.alloc (.cells #[.int .i64 op, .int .i64 n, .string s, .slice a len cap] 29)) 4 0 ⟨#[]⟩ (some ⟨w.heap.size + 1 + 1, 0, none⟩) 1 1
  rw [heap_size_alloc] at HR
  obtain ⟨p0, p1, p2, p3⟩ := (HR.below (ab (.cells #[.int .i64 op, .int .i64 n, .string s, .slice a len cap] 29))).facts
  exact bodyPost_ret (v := .agg #[.int .i64 4, .int .i64 0, .string ByteArray.empty, .slice (some ⟨w.heap.size + 1 + 1, 0, none⟩) 1 1]) (by simp [results, Tryz.results116, go_sem, p0, p1, p2, p3]; try rfl) rfl ⟨_, rfl, unhide HL, unhide HB⟩

/-- The open half of the atom that signs. -/
def halfT : Tm := .node 4 0 ByteArray.empty [oneT]
theorem half_same (k : Tm) : sameB halfT (.node 4 0 ByteArray.empty [k]) = sameB k oneT := by
  rw [Bool.eq_iff_iff, same_alike, same_alike]
  unfold halfT
  simp only [Tm.node.injEq, List.cons.injEq, and_true, true_and]
  exact eq_comm

set_option maxRecDepth 100000 in
set_option maxHeartbeats 2000000 in
theorem signed_no1 (t : Tm) (op n : Int) (s : ByteArray) (a : Option Addr) (len cap : Nat) (op2 n2 : Int) (s2 : ByteArray) (a2 : Option Addr) (len2 cap2 : Nat) (w : World) (hl : Lies w 0 t (tmCells op2 n2 s2 a2 len2 cap2)) (hsz : t.size ≤ 2097152) (hok : okT t = false) :
    Calls Tryz.prog 59 #[.agg #[.int .i64 op, .int .i64 n, .string s, .slice a len cap], .agg #[.int .i64 op2, .int .i64 n2, .string s2, .slice a2 len2 cap2]] w fun e w' => e = .returned (.tuple #[.agg #[.int .i64 0, .int .i64 0, .string ByteArray.empty, .slice none 0 0], .bool false]) ∧ Below w.heap.size w w' := by
  have h32 := hide (ok8 t op2 n2 s2 a2 len2 cap2)
  rw [hok] at h32
  have h3 := threeB w op n s a len cap op2 n2 s2 a2 len2 cap2
  go_enter Tryz.func59, Tryz.ntmps59
  go_wp2_with fail
  generalize hgw : (((w.alloc (.cells #[.int .i64 op, .int .i64 n, .string s, .slice a len cap] 29)).alloc (.cells #[.int .i64 op2, .int .i64 n2, .string s2, .slice a2 len2 cap2] 29)).alloc (.cells #[.int .i64 0, .int .i64 0, .string ByteArray.empty, .slice none 0 0] 29)) = W0 at *
  refine gw_world hgw ?_
  clear hgw
  have HB0 := hide h3.bel
  have HL := hide (hl.below h3.bel)
  have HR := hide h3.rz
  have HRA := hide h3.ra
  have HRB := hide h3.rb
  obtain ⟨c0, c1, c2, c3⟩ := h3.rb.facts
  clear h3 hl hok
  first
    | go_region_with (go_at_call 114; refine (unhide h32 _ ((unhide HL).below (Below.refl _ _).drew) hsz).mono ?_; rintro e w2 ⟨rfl, hb2⟩; have hb2' := below_drew' hb2; have HB := hide (bt (unhide HB0) hb2' (Nat.le_refl _)); obtain ⟨d0, d1, d2, d3⟩ := ((unhide HR).below hb2').facts; obtain ⟨e0, e1, e2, e3⟩ := ((unhide HR).below hb2').frozen; obtain ⟨k0, k1, k2, k3⟩ := ((unhide HRB).below hb2').facts; obtain ⟨j0, j1, j2, j3⟩ := ((unhide HRA).below hb2').facts)
    | fail
  all_goals go_wp2_with fail
  all_goals
    exact bodyPost_ret (v := .tuple #[.agg #[.int .i64 0, .int .i64 0, .string ByteArray.empty, .slice none 0 0], .bool false]) (by simp [results, Tryz.results59, go_sem, d0, d1, d2, d3]; try rfl) rfl ⟨rfl, set4_below (unhide HB) (by omega)⟩

set_option maxRecDepth 100000 in
set_option maxHeartbeats 2000000 in
theorem signed_no2 (t : Tm) (op n : Int) (s : ByteArray) (a : Option Addr) (len cap : Nat) (op2 n2 : Int) (s2 : ByteArray) (a2 : Option Addr) (len2 cap2 : Nat) (w : World) (hl : Lies w 0 t (tmCells op2 n2 s2 a2 len2 cap2)) (hsz : t.size ≤ 2097152) (hok : okT t = true) (h8 : op2 ≠ 8) :
    Calls Tryz.prog 59 #[.agg #[.int .i64 op, .int .i64 n, .string s, .slice a len cap], .agg #[.int .i64 op2, .int .i64 n2, .string s2, .slice a2 len2 cap2]] w fun e w' => e = .returned (.tuple #[.agg #[.int .i64 0, .int .i64 0, .string ByteArray.empty, .slice none 0 0], .bool false]) ∧ Below w.heap.size w w' := by
  have h32 := hide (ok8 t op2 n2 s2 a2 len2 cap2)
  rw [hok] at h32
  have q1 : (op2 != 8) = true := by simpa using h8
  have h3 := threeB w op n s a len cap op2 n2 s2 a2 len2 cap2
  go_enter Tryz.func59, Tryz.ntmps59
  go_wp2_with fail
  generalize hgw : (((w.alloc (.cells #[.int .i64 op, .int .i64 n, .string s, .slice a len cap] 29)).alloc (.cells #[.int .i64 op2, .int .i64 n2, .string s2, .slice a2 len2 cap2] 29)).alloc (.cells #[.int .i64 0, .int .i64 0, .string ByteArray.empty, .slice none 0 0] 29)) = W0 at *
  refine gw_world hgw ?_
  clear hgw
  have HB0 := hide h3.bel
  have HL := hide (hl.below h3.bel)
  have HR := hide h3.rz
  have HRA := hide h3.ra
  have HRB := hide h3.rb
  obtain ⟨c0, c1, c2, c3⟩ := h3.rb.facts
  clear h3 hl hok
  first
    | go_region_with (go_at_call 114; refine (unhide h32 _ ((unhide HL).below (Below.refl _ _).drew) hsz).mono ?_; rintro e w2 ⟨rfl, hb2⟩; have hb2' := below_drew' hb2; have HB := hide (bt (unhide HB0) hb2' (Nat.le_refl _)); obtain ⟨d0, d1, d2, d3⟩ := ((unhide HR).below hb2').facts; obtain ⟨e0, e1, e2, e3⟩ := ((unhide HR).below hb2').frozen; obtain ⟨k0, k1, k2, k3⟩ := ((unhide HRB).below hb2').facts; obtain ⟨j0, j1, j2, j3⟩ := ((unhide HRA).below hb2').facts)
    | fail
  all_goals go_wp2_with fail
  all_goals
    exact bodyPost_ret (v := .tuple #[.agg #[.int .i64 0, .int .i64 0, .string ByteArray.empty, .slice none 0 0], .bool false]) (by simp [results, Tryz.results59, go_sem, d0, d1, d2, d3]; try rfl) rfl ⟨rfl, set4_below (unhide HB) (by omega)⟩

set_option maxRecDepth 100000 in
set_option maxHeartbeats 4000000 in
theorem signed_no3 (k0 k1 : Tm) (op n : Int) (s : ByteArray) (a : Option Addr) (len cap : Nat) (n2 : Int) (s2 : ByteArray) (b q cap2 : Nat) (op3 n3 : Int) (s3 : ByteArray) (a3 : Option Addr) (len3 cap3 : Nat) (op4 n4 : Int) (s4 : ByteArray) (a4 : Option Addr) (len4 cap4 : Nat) (w : World)
    (hlf : Lies w 0 halfT (tmCells op n s a len cap)) (hl : Lies w 0 (.node 8 n2 s2 [k0, k1]) (tmCells 8 n2 s2 (some ⟨b, q, none⟩) 2 cap2)) (hsz : (Tm.node 8 n2 s2 [k0, k1]).size ≤ 2097152) (hok : okT (.node 8 n2 s2 [k0, k1]) = true)
    (r0 : w.cell? ⟨b, q, none⟩ = some (.int .i64 op3)) (r1 : w.cell? ⟨b, q + 1, none⟩ = some (.int .i64 n3)) (r2 : w.cell? ⟨b, q + 2, none⟩ = some (.string s3)) (r3 : w.cell? ⟨b, q + 3, none⟩ = some (.slice a3 len3 cap3)) (hk0 : Lies w 0 k0 (tmCells op3 n3 s3 a3 len3 cap3))
    (r4 : w.cell? ⟨b, q + 4, none⟩ = some (.int .i64 op4)) (r5 : w.cell? ⟨b, q + 5, none⟩ = some (.int .i64 n4)) (r6 : w.cell? ⟨b, q + 6, none⟩ = some (.string s4)) (r7 : w.cell? ⟨b, q + 7, none⟩ = some (.slice a4 len4 cap4)) (hk1 : Lies w 0 k1 (tmCells op4 n4 s4 a4 len4 cap4)) (hsm : sameB k0 oneT = false) :
    Calls Tryz.prog 59 #[.agg #[.int .i64 op, .int .i64 n, .string s, .slice a len cap], .agg #[.int .i64 8, .int .i64 n2, .string s2, .slice (some ⟨b, q, none⟩) 2 cap2]] w fun e w' => e = .returned (.tuple #[.agg #[.int .i64 0, .int .i64 0, .string ByteArray.empty, .slice none 0 0], .bool false]) ∧ Below w.heap.size w w' := by
  have h32 := hide (ok8 (.node 8 n2 s2 [k0, k1]) 8 n2 s2 (some ⟨b, q, none⟩) 2 cap2)
  rw [hok] at h32
  have h33 := hide (l2pub33 k0 op3 n3 s3 a3 len3 cap3)
  have h23 := hide (fun aH v hl1 hl2 => sa_calls halfT (.node 4 0 ByteArray.empty [k0]) op n s a len cap 4 0 ByteArray.empty aH 1 1 v hl1 hl2)
  rw [half_same, hsm] at h23
  have h3 := threeB w op n s a len cap 8 n2 s2 (some ⟨b, q, none⟩) 2 cap2
  go_enter Tryz.func59, Tryz.ntmps59
  go_wp2_with fail
  generalize hgw : (((w.alloc (.cells #[.int .i64 op, .int .i64 n, .string s, .slice a len cap] 29)).alloc (.cells #[.int .i64 8, .int .i64 n2, .string s2, .slice (some ⟨b, q, none⟩) 2 cap2] 29)).alloc (.cells #[.int .i64 0, .int .i64 0, .string ByteArray.empty, .slice none 0 0] 29)) = W0 at *
  refine gw_world hgw ?_
  clear hgw
  have HB0 := hide h3.bel
  have HL := hide (hl.below h3.bel)
  have HR := hide h3.rz
  have HRA := hide h3.ra
  have HRB := hide h3.rb
  obtain ⟨c0, c1, c2, c3⟩ := h3.rb.facts
  have HLF := hide (hlf.below h3.bel)
  have HLK := hide (hk0.below h3.bel)
  have HLK1 := hide (hk1.below h3.bel)
  have HK := hide (And.intro (kpc h3.bel r0) (And.intro (kpc h3.bel r1) (And.intro (kpc h3.bel r2) (kpc h3.bel r3))))
  have HK1 := hide (And.intro (kpc h3.bel r4) (And.intro (kpc h3.bel r5) (And.intro (kpc h3.bel r6) (kpc h3.bel r7))))
  obtain ⟨a0', a1', a2', a3'⟩ := h3.ra.facts
  obtain ⟨i0, i1, i2, i3⟩ := unhide HK
  clear h3 hl hlf hk0 hk1 hok r0 r1 r2 r3 r4 r5 r6 r7
  go_region_held3 (fun y => y.cell? ⟨w.heap.size, 0, none⟩ = some (.int .i64 op) ∧ y.cell? ⟨w.heap.size, 1, none⟩ = some (.int .i64 n) ∧ y.cell? ⟨w.heap.size, 2, none⟩ = some (.string s) ∧ y.cell? ⟨w.heap.size, 3, none⟩ = some (.slice a len cap) ∧
      y.cell? ⟨w.heap.size + 1, 0, none⟩ = some (.int .i64 8) ∧ y.cell? ⟨w.heap.size + 1, 1, none⟩ = some (.int .i64 n2) ∧ y.cell? ⟨w.heap.size + 1, 2, none⟩ = some (.string s2) ∧ y.cell? ⟨w.heap.size + 1, 3, none⟩ = some (.slice (some ⟨b, q, none⟩) 2 cap2) ∧
      y.cell? ⟨b, q, none⟩ = some (.int .i64 op3) ∧ y.cell? ⟨b, q + 1, none⟩ = some (.int .i64 n3) ∧ y.cell? ⟨b, q + 2, none⟩ = some (.string s3) ∧ y.cell? ⟨b, q + 3, none⟩ = some (.slice a3 len3 cap3)) (go_keep)
    (first
      | (go_at_call 114
         refine (unhide h32 _ ((unhide HL).below (Below.refl _ _).drew) hsz).mono ?_
         rintro e w2 ⟨rfl, hb2⟩
         have hb2' := hide (below_drew' hb2)
         obtain ⟨b0', b1', b2', b3'⟩ := ((unhide HRA).below (unhide hb2')).facts
         obtain ⟨k0', k1', k2', k3'⟩ := ((unhide HRB).below (unhide hb2')).facts
         have x0 := kpc (unhide hb2') (unhide HK).1
         have x1 := kpc (unhide hb2') (unhide HK).2.1
         have x2 := kpc (unhide hb2') (unhide HK).2.2.1
         have x3 := kpc (unhide hb2') (unhide HK).2.2.2)
      | (go_at_call 116
         refine (unhide h33 _ ((unhide HLK).below (unhide hb2'))).mono ?_
         rintro e w3 ⟨aH, rfl, hL3, hb3⟩
         have hb3' := hide hb3
         have HL3 := hide hL3
         obtain ⟨e0', e1', e2', e3'⟩ := (((unhide HRA).below (unhide hb2')).below hb3).facts
         obtain ⟨f0', f1', f2', f3'⟩ := (((unhide HRB).below (unhide hb2')).below hb3).facts
         have y0 := kpc hb3 x0
         have y1 := kpc hb3 x1
         have y2 := kpc hb3 x2
         have y3 := kpc hb3 x3)
      | (go_at_call 60
         refine (unhide h23 _ _ (((unhide HLF).below (unhide hb2')).below (unhide hb3')) (unhide HL3)).mono ?_
         rintro e w4 ⟨rfl, hb4⟩
         have hb4' := hide hb4
         have HB := hide (bt (bt (bt (unhide HB0) (unhide hb2') (Nat.le_refl _)) (unhide hb3') (Nat.le_refl _)) hb4 (Nat.le_refl _))
         have HRZ := hide ((((unhide HR).below (unhide hb2')).below (unhide hb3')).below hb4)
         obtain ⟨d0, d1, d2, d3⟩ := (unhide HRZ).facts
         obtain ⟨e0, e1, e2, e3⟩ := (unhide HRZ).frozen
         obtain ⟨g0', g1', g2', g3'⟩ := ((((unhide HRA).below (unhide hb2')).below (unhide hb3')).below hb4).facts
         obtain ⟨m0', m1', m2', m3'⟩ := ((((unhide HRB).below (unhide hb2')).below (unhide hb3')).below hb4).facts
         have z0 := kpc hb4 y0
         have z1 := kpc hb4 y1
         have z2 := kpc hb4 y2
         have z3 := kpc hb4 y3))
  all_goals go_wp2_with fail
  all_goals
    exact bodyPost_ret (v := .tuple #[.agg #[.int .i64 0, .int .i64 0, .string ByteArray.empty, .slice none 0 0], .bool false]) (by simp [results, Tryz.results59, go_sem, d0, d1, d2, d3]; try rfl) rfl ⟨rfl, set4_below (unhide HB) (by omega)⟩

set_option maxRecDepth 100000 in
set_option maxHeartbeats 4000000 in
theorem signed_yes (k0 k1 : Tm) (op n : Int) (s : ByteArray) (a : Option Addr) (len cap : Nat) (n2 : Int) (s2 : ByteArray) (b q cap2 : Nat) (op3 n3 : Int) (s3 : ByteArray) (a3 : Option Addr) (len3 cap3 : Nat) (op4 n4 : Int) (s4 : ByteArray) (a4 : Option Addr) (len4 cap4 : Nat) (w : World)
    (hlf : Lies w 0 halfT (tmCells op n s a len cap)) (hl : Lies w 0 (.node 8 n2 s2 [k0, k1]) (tmCells 8 n2 s2 (some ⟨b, q, none⟩) 2 cap2)) (hsz : (Tm.node 8 n2 s2 [k0, k1]).size ≤ 2097152) (hok : okT (.node 8 n2 s2 [k0, k1]) = true)
    (r0 : w.cell? ⟨b, q, none⟩ = some (.int .i64 op3)) (r1 : w.cell? ⟨b, q + 1, none⟩ = some (.int .i64 n3)) (r2 : w.cell? ⟨b, q + 2, none⟩ = some (.string s3)) (r3 : w.cell? ⟨b, q + 3, none⟩ = some (.slice a3 len3 cap3)) (hk0 : Lies w 0 k0 (tmCells op3 n3 s3 a3 len3 cap3))
    (r4 : w.cell? ⟨b, q + 4, none⟩ = some (.int .i64 op4)) (r5 : w.cell? ⟨b, q + 5, none⟩ = some (.int .i64 n4)) (r6 : w.cell? ⟨b, q + 6, none⟩ = some (.string s4)) (r7 : w.cell? ⟨b, q + 7, none⟩ = some (.slice a4 len4 cap4)) (hk1 : Lies w 0 k1 (tmCells op4 n4 s4 a4 len4 cap4)) (hsm : sameB k0 oneT = true) :
    Calls Tryz.prog 59 #[.agg #[.int .i64 op, .int .i64 n, .string s, .slice a len cap], .agg #[.int .i64 8, .int .i64 n2, .string s2, .slice (some ⟨b, q, none⟩) 2 cap2]] w fun e w' => ∃ a' cap', e = .returned (.tuple #[.agg #[.int .i64 op4, .int .i64 n4, .string s4, .slice a' len4 cap'], .bool true]) ∧ Lies w' w.heap.size k1 (tmCells op4 n4 s4 a' len4 cap') ∧ Below w.heap.size w w' := by
  have h32 := hide (ok8 (.node 8 n2 s2 [k0, k1]) 8 n2 s2 (some ⟨b, q, none⟩) 2 cap2)
  rw [hok] at h32
  have h33 := hide (l2pub33 k0 op3 n3 s3 a3 len3 cap3)
  have h23 := hide (fun aH v hl1 hl2 => sa_calls halfT (.node 4 0 ByteArray.empty [k0]) op n s a len cap 4 0 ByteArray.empty aH 1 1 v hl1 hl2)
  rw [half_same, hsm] at h23
  have hk1z : k1.size ≤ 2097152 := by simp only [Tm.size, Tm.sizes] at hsz; omega
  have h34 := hide (fun v hl => cz_calls k1 op4 n4 s4 a4 len4 cap4 v hl hk1z)
  have h3 := threeB w op n s a len cap 8 n2 s2 (some ⟨b, q, none⟩) 2 cap2
  go_enter Tryz.func59, Tryz.ntmps59
  go_wp2_with fail
  generalize hgw : (((w.alloc (.cells #[.int .i64 op, .int .i64 n, .string s, .slice a len cap] 29)).alloc (.cells #[.int .i64 8, .int .i64 n2, .string s2, .slice (some ⟨b, q, none⟩) 2 cap2] 29)).alloc (.cells #[.int .i64 0, .int .i64 0, .string ByteArray.empty, .slice none 0 0] 29)) = W0 at *
  refine gw_world hgw ?_
  clear hgw
  have HB0 := hide h3.bel
  have HL := hide (hl.below h3.bel)
  have HR := hide h3.rz
  have HRA := hide h3.ra
  have HRB := hide h3.rb
  obtain ⟨c0, c1, c2, c3⟩ := h3.rb.facts
  have HLF := hide (hlf.below h3.bel)
  have HLK := hide (hk0.below h3.bel)
  have HLK1 := hide (hk1.below h3.bel)
  have HK := hide (And.intro (kpc h3.bel r0) (And.intro (kpc h3.bel r1) (And.intro (kpc h3.bel r2) (kpc h3.bel r3))))
  have HK1 := hide (And.intro (kpc h3.bel r4) (And.intro (kpc h3.bel r5) (And.intro (kpc h3.bel r6) (kpc h3.bel r7))))
  obtain ⟨a0', a1', a2', a3'⟩ := h3.ra.facts
  obtain ⟨i0, i1, i2, i3⟩ := unhide HK
  clear h3 hl hlf hk0 hk1 hok r0 r1 r2 r3 r4 r5 r6 r7
  go_region_held3 (fun y => y.cell? ⟨w.heap.size, 0, none⟩ = some (.int .i64 op) ∧ y.cell? ⟨w.heap.size, 1, none⟩ = some (.int .i64 n) ∧ y.cell? ⟨w.heap.size, 2, none⟩ = some (.string s) ∧ y.cell? ⟨w.heap.size, 3, none⟩ = some (.slice a len cap) ∧
      y.cell? ⟨w.heap.size + 1, 0, none⟩ = some (.int .i64 8) ∧ y.cell? ⟨w.heap.size + 1, 1, none⟩ = some (.int .i64 n2) ∧ y.cell? ⟨w.heap.size + 1, 2, none⟩ = some (.string s2) ∧ y.cell? ⟨w.heap.size + 1, 3, none⟩ = some (.slice (some ⟨b, q, none⟩) 2 cap2) ∧
      y.cell? ⟨b, q, none⟩ = some (.int .i64 op3) ∧ y.cell? ⟨b, q + 1, none⟩ = some (.int .i64 n3) ∧ y.cell? ⟨b, q + 2, none⟩ = some (.string s3) ∧ y.cell? ⟨b, q + 3, none⟩ = some (.slice a3 len3 cap3)) (go_keep)
    (first
      | (go_at_call 114
         refine (unhide h32 _ ((unhide HL).below (Below.refl _ _).drew) hsz).mono ?_
         rintro e w2 ⟨rfl, hb2⟩
         have hb2' := hide (below_drew' hb2)
         obtain ⟨b0', b1', b2', b3'⟩ := ((unhide HRA).below (unhide hb2')).facts
         obtain ⟨k0', k1', k2', k3'⟩ := ((unhide HRB).below (unhide hb2')).facts
         have x0 := kpc (unhide hb2') (unhide HK).1
         have x1 := kpc (unhide hb2') (unhide HK).2.1
         have x2 := kpc (unhide hb2') (unhide HK).2.2.1
         have x3 := kpc (unhide hb2') (unhide HK).2.2.2)
      | (go_at_call 116
         refine (unhide h33 _ ((unhide HLK).below (unhide hb2'))).mono ?_
         rintro e w3 ⟨aH, rfl, hL3, hb3⟩
         have hb3' := hide hb3
         have HL3 := hide hL3
         obtain ⟨e0', e1', e2', e3'⟩ := (((unhide HRA).below (unhide hb2')).below hb3).facts
         obtain ⟨f0', f1', f2', f3'⟩ := (((unhide HRB).below (unhide hb2')).below hb3).facts
         have y0 := kpc hb3 x0
         have y1 := kpc hb3 x1
         have y2 := kpc hb3 x2
         have y3 := kpc hb3 x3)
      | (go_at_call 60
         refine (unhide h23 _ _ (((unhide HLF).below (unhide hb2')).below (unhide hb3')) (unhide HL3)).mono ?_
         rintro e w4 ⟨rfl, hb4⟩
         have hb4' := hide hb4
         have HB := hide (bt (bt (bt (unhide HB0) (unhide hb2') (Nat.le_refl _)) (unhide hb3') (Nat.le_refl _)) hb4 (Nat.le_refl _))
         have HRZ := hide ((((unhide HR).below (unhide hb2')).below (unhide hb3')).below hb4)
         obtain ⟨d0, d1, d2, d3⟩ := (unhide HRZ).facts
         obtain ⟨e0, e1, e2, e3⟩ := (unhide HRZ).frozen
         obtain ⟨g0', g1', g2', g3'⟩ := ((((unhide HRA).below (unhide hb2')).below (unhide hb3')).below hb4).facts
         obtain ⟨m0', m1', m2', m3'⟩ := ((((unhide HRB).below (unhide hb2')).below (unhide hb3')).below hb4).facts
         have z0 := kpc hb4 y0
         have z1 := kpc hb4 y1
         have z2 := kpc hb4 y2
         have z3 := kpc hb4 y3))
  have HLK4 := hide ((((unhide HLK1).below (unhide hb2')).below (unhide hb3')).below (unhide hb4'))
  obtain ⟨v4, v5, v6, v7⟩ := unhide HK1
  have v4 := kpc (unhide hb4') (kpc (unhide hb3') (kpc (unhide hb2') v4))
  have v5 := kpc (unhide hb4') (kpc (unhide hb3') (kpc (unhide hb2') v5))
  have v6 := kpc (unhide hb4') (kpc (unhide hb3') (kpc (unhide hb2') v6))
  have v7 := kpc (unhide hb4') (kpc (unhide hb3') (kpc (unhide hb2') v7))
  go_wp2_with fail
  refine (unhide h34 _ (unhide HLK4)).mono ?_
  rintro e w5 ⟨a', cap', fp, rfl, hO5, hfp, hb5⟩
  have HB5 := hide (bt (unhide HB) hb5 (Nat.le_refl _))
  have HFP := hide hfp.2
  have HO5 := hide hO5
  have HZ4 : Hid (w.heap.size + 1 + 1 < w4.heap.size) := (unhide HRZ).lt
  clear d0 d1 d2 d3 e0 e1 e2 e3
  obtain ⟨d0, d1, d2, d3⟩ := ((unhide HRZ).below hb5).facts
  obtain ⟨e0, e1, e2, e3⟩ := ((unhide HRZ).below hb5).frozen
  clear hO5 hb5 hfp
  go_wp2_with fail
  exact bodyPost_ret (v := .tuple #[.agg #[.int .i64 op4, .int .i64 n4, .string s4, .slice a' len4 cap'], .bool true]) (by simp [results, Tryz.results59, go_sem, d0, d1, d2, d3]; try rfl) rfl ⟨a', cap', rfl, Own.lies _ _ _ (Own.keep _ _ _ (unhide HO5) fun y hy => set4_heap _ _ _ _ _ _ y (by have := unhide HFP y hy; have := unhide HZ4; omega)) (fun y hy => by have := unhide HFP y hy; have := unhide HZ4; omega), set4_below (unhide HB5) (by omega)⟩

end Go.Proofs.YtmklgikbajhcpaaGreatDoor
