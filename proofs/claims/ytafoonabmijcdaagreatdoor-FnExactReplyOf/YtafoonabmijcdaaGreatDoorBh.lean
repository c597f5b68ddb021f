
/- The walks of impl.Same and impl.behind: the second kid of a term that is right, of the operator that is asked for, and whose first kid is the one that is asked for; else zero and the named error; nothing that was there is written. The walk of impl.behind at a right term of the operator that is asked for: whether its first kid is the one that is asked for. The walk of impl.behind at a right term of the operator that is asked for: whether its first kid is the one that is asked for. impl.behind as a plain function, and its walk at whatever term: the second kid, or the named error. -/
import Derived.Test.YtafoonabmijcdaaGreatDoorPr
import Derived.Deep.RegionWith
import Derived.Deep.RegionHeld3
import Derived.Test.YtafoonabmijcdaaGreatDoorSl
namespace Go.Proofs.YtafoonabmijcdaaGreatDoor
open Go.RowKit Go.Deep

theorem same15 (t t' : Tm) (op n : Int) (s : ByteArray) (a : Option Addr) (len cap : Nat) (op' n' : Int) (s' : ByteArray) (a' : Option Addr) (len' cap' : Nat) (w : World) (hl : Lies w 0 t (tmCells op n s a len cap)) (hl' : Lies w 0 t' (tmCells op' n' s' a' len' cap'))
    (hsz : t.size ≤ 2097152) :
    Calls Tryz.prog 32 #[.agg #[.int .i64 op, .int .i64 n, .string s, .slice a len cap], .agg #[.int .i64 op', .int .i64 n', .string s', .slice a' len' cap']] w fun e w' => e = .returned (.bool (sameB t t')) ∧ Below w.heap.size w w' := by
  have h24 := hide (cmp24 t t' op n s a len cap op' n' s' a' len' cap')
  have HL := hide hl
  have HL' := hide hl'
  have HB : Hid (∀ c : Int, c = cmpT t t' → sameB t t' = (c == 0)) := fun c hc => by rw [hc]; unfold sameB; rw [Bool.eq_iff_iff]; simp
  generalize cmpT t t' = C at *
  clear hl hl'
  go_enter Tryz.func32, Tryz.ntmps32
  go_wp2_with fail
  refine (unhide h24 _ ((unhide HL).below (((Below.refl _ _).alloc (Nat.le_refl _) _).alloc (by simp) _)) ((unhide HL').below (((Below.refl _ _).alloc (Nat.le_refl _) _).alloc (by simp) _)) hsz).mono ?_
  rintro e w2 ⟨rfl, hb2⟩
  go_wp2_with fail
  go_ret
  exact ⟨ret_bool (unhide HB _ rfl).symm, (((Below.refl _ _).alloc (Nat.le_refl _) _).alloc (by simp) _).trans (hb2.mono (by simp; omega))⟩

/-- The three boxes of impl.behind: what they hold, and that what was there stays. -/
structure Three (w W0 : World) (op n : Int) (s : ByteArray) (a : Option Addr) (len cap : Nat) (op2 n2 : Int) (s2 : ByteArray) (a2 : Option Addr) (len2 cap2 : Nat) : Prop where
  ra : RowT 28 W0 w.heap.size op n s a len cap
  rb : RowT 28 W0 (w.heap.size + 1) op2 n2 s2 a2 len2 cap2
  rz : RowT 28 W0 (w.heap.size + 1 + 1) 0 0 ByteArray.empty none 0 0
  bel : Below w.heap.size w W0

theorem threeB (w : World) (op n : Int) (s : ByteArray) (a : Option Addr) (len cap : Nat) (op2 n2 : Int) (s2 : ByteArray) (a2 : Option Addr) (len2 cap2 : Nat) :
    Three w (((w.alloc (.cells #[.int .i64 op, .int .i64 n, .string s, .slice a len cap] 28)).alloc (.cells #[.int .i64 op2, .int .i64 n2, .string s2, .slice a2 len2 cap2] 28)).alloc (.cells #[.int .i64 0, .int .i64 0, .string ByteArray.empty, .slice none 0 0] 28)) op n s a len cap op2 n2 s2 a2 len2 cap2 where
  ra := ((RowT.new 28 w op n s a len cap).below (ab _)).below (ab _)
  rb := by
    have := (RowT.new 28 (w.alloc (.cells #[.int .i64 op, .int .i64 n, .string s, .slice a len cap] 28)) op2 n2 s2 a2 len2 cap2).below (ab (.cells #[.int .i64 0, .int .i64 0, .string ByteArray.empty, .slice none 0 0] 28))
    rwa [heap_size_alloc] at this
  rz := by
    have := RowT.new 28 ((w.alloc (.cells #[.int .i64 op, .int .i64 n, .string s, .slice a len cap] 28)).alloc (.cells #[.int .i64 op2, .int .i64 n2, .string s2, .slice a2 len2 cap2] 28)) 0 0 ByteArray.empty none 0 0
    rwa [heap_size_alloc, heap_size_alloc] at this
  bel := bt (bt (ab _) (ab _) (Nat.le_refl _)) (ab _) (Nat.le_refl _)

set_option maxRecDepth 100000 in
set_option maxHeartbeats 2000000 in
theorem behind_no1 (o : Int) (op n : Int) (s : ByteArray) (a : Option Addr) (len cap : Nat) (op2 n2 : Int) (s2 : ByteArray) (a2 : Option Addr) (len2 cap2 : Nat) (x : Addr) (w : World) (he : ErrAt x w) (ho : op2 ≠ o) :
    Calls Tryz.prog 48 #[.int .i64 o, .agg #[.int .i64 op, .int .i64 n, .string s, .slice a len cap], .agg #[.int .i64 op2, .int .i64 n2, .string s2, .slice a2 len2 cap2]] w fun e w' => e = .returned (.tuple #[.agg #[.int .i64 0, .int .i64 0, .string ByteArray.empty, .slice none 0 0], .iface 128 (.pointer (some x))]) ∧ Below w.heap.size w w' := by
  have h3 := threeB w op n s a len cap op2 n2 s2 a2 len2 cap2
  have q1 : (op2 != o) = true := by simpa using ho
  go_enter Tryz.func48, Tryz.ntmps48
  go_wp2_with fail
  generalize hgw : (((w.alloc (.cells #[.int .i64 op, .int .i64 n, .string s, .slice a len cap] 28)).alloc (.cells #[.int .i64 op2, .int .i64 n2, .string s2, .slice a2 len2 cap2] 28)).alloc (.cells #[.int .i64 0, .int .i64 0, .string ByteArray.empty, .slice none 0 0] 28)) = W0 at *
  refine gw_world hgw ?_
  clear hgw
  have HB := hide h3.bel
  have g0 := (he.on h3.bel).cell
  obtain ⟨c0, c1, c2, c3⟩ := h3.rb.facts
  obtain ⟨d0, d1, d2, d3⟩ := h3.rz.facts
  obtain ⟨e0, e1, e2, e3⟩ := h3.rz.frozen
  have hne : (w.heap.size + 1 + 1 = 0) = False := by simp
  have hne' : (0 = w.heap.size + 1 + 1) = False := by simp
  clear h3 he
  first
    | go_region_with fail
    | fail
  all_goals go_wp2_with fail
  all_goals go_region
  all_goals go_wp2_with fail
  all_goals
    exact bodyPost_ret (v := .tuple #[.agg #[.int .i64 0, .int .i64 0, .string ByteArray.empty, .slice none 0 0], .iface 128 (.pointer (some x))]) (by simp [results, Tryz.results48, go_sem, d0, d1, d2, d3]; try rfl) rfl ⟨rfl, (set4_below (unhide HB) (by omega)).drew.drew⟩

set_option maxRecDepth 100000 in
set_option maxHeartbeats 2000000 in
theorem behind_no2 (t : Tm) (o : Int) (op n : Int) (s : ByteArray) (a : Option Addr) (len cap : Nat) (op2 n2 : Int) (s2 : ByteArray) (a2 : Option Addr) (len2 cap2 : Nat) (x : Addr) (w : World) (he : ErrAt x w) (ho : op2 = o) (hl : Lies w 0 t (tmCells op2 n2 s2 a2 len2 cap2)) (hsz : t.size ≤ 2097152) (hok : okT t = false) :
    Calls Tryz.prog 48 #[.int .i64 o, .agg #[.int .i64 op, .int .i64 n, .string s, .slice a len cap], .agg #[.int .i64 op2, .int .i64 n2, .string s2, .slice a2 len2 cap2]] w fun e w' => e = .returned (.tuple #[.agg #[.int .i64 0, .int .i64 0, .string ByteArray.empty, .slice none 0 0], .iface 128 (.pointer (some x))]) ∧ Below w.heap.size w w' := by
  subst ho
  have h29 := hide (ok10 t op2 n2 s2 a2 len2 cap2)
  rw [hok] at h29
  have h3 := threeB w op n s a len cap op2 n2 s2 a2 len2 cap2
  have q1 : (op2 != op2) = false := by simp
  go_enter Tryz.func48, Tryz.ntmps48
  go_wp2_with fail
  generalize hgw : (((w.alloc (.cells #[.int .i64 op, .int .i64 n, .string s, .slice a len cap] 28)).alloc (.cells #[.int .i64 op2, .int .i64 n2, .string s2, .slice a2 len2 cap2] 28)).alloc (.cells #[.int .i64 0, .int .i64 0, .string ByteArray.empty, .slice none 0 0] 28)) = W0 at *
  refine gw_world hgw ?_
  clear hgw
  have HB0 := hide h3.bel
  have HE := hide (he.on h3.bel)
  have HL := hide (hl.below h3.bel)
  have HR := hide h3.rz
  have HR1 := hide h3.rb
  obtain ⟨c0, c1, c2, c3⟩ := h3.rb.facts
  have hne : (w.heap.size + 1 + 1 = 0) = False := by simp
  have hne' : (0 = w.heap.size + 1 + 1) = False := by simp
  clear h3 he hl hok
  first
    | go_region_with (go_at_call 57; refine (unhide h29 _ ((unhide HL).below (Below.refl _ _).drew) hsz).mono ?_; rintro e w2 ⟨rfl, hb2⟩; have hb2' := below_drew' hb2; have HB := hide (bt (unhide HB0) hb2' (Nat.le_refl _)); have g0 := ((unhide HE).on hb2').cell; obtain ⟨d0, d1, d2, d3⟩ := ((unhide HR).below hb2').facts; obtain ⟨e0, e1, e2, e3⟩ := ((unhide HR).below hb2').frozen; have k0 := kpc hb2' c0; have k1 := kpc hb2' c1; have k2 := kpc hb2' c2; have k3 := kpc hb2' c3)
    | fail
  all_goals go_wp2_with fail
  all_goals go_region
  all_goals go_wp2_with fail
  all_goals
    exact bodyPost_ret (v := .tuple #[.agg #[.int .i64 0, .int .i64 0, .string ByteArray.empty, .slice none 0 0], .iface 128 (.pointer (some x))]) (by simp [results, Tryz.results48, go_sem, d0, d1, d2, d3]; try rfl) rfl ⟨rfl, (set4_below (unhide HB) (by omega)).drew⟩

set_option maxRecDepth 100000 in
set_option maxHeartbeats 2000000 in
theorem behind_no3 (f k0 k1 : Tm) (op n : Int) (s : ByteArray) (a : Option Addr) (len cap : Nat) (op2 n2 : Int) (s2 : ByteArray) (b q cap2 : Nat) (op3 n3 : Int) (s3 : ByteArray) (a3 : Option Addr) (len3 cap3 : Nat) (op4 n4 : Int) (s4 : ByteArray) (a4 : Option Addr) (len4 cap4 : Nat) (x : Addr) (w : World) (he : ErrAt x w)
    (hlf : Lies w 0 f (tmCells op n s a len cap)) (hl : Lies w 0 (.node op2 n2 s2 [k0, k1]) (tmCells op2 n2 s2 (some ⟨b, q, none⟩) 2 cap2)) (hsz : (Tm.node op2 n2 s2 [k0, k1]).size ≤ 2097152) (hok : okT (.node op2 n2 s2 [k0, k1]) = true)
    (r0 : w.cell? ⟨b, q, none⟩ = some (.int .i64 op3)) (r1 : w.cell? ⟨b, q + 1, none⟩ = some (.int .i64 n3)) (r2 : w.cell? ⟨b, q + 2, none⟩ = some (.string s3)) (r3 : w.cell? ⟨b, q + 3, none⟩ = some (.slice a3 len3 cap3)) (hk0 : Lies w 0 k0 (tmCells op3 n3 s3 a3 len3 cap3))
    (r4 : w.cell? ⟨b, q + 4, none⟩ = some (.int .i64 op4)) (r5 : w.cell? ⟨b, q + 5, none⟩ = some (.int .i64 n4)) (r6 : w.cell? ⟨b, q + 6, none⟩ = some (.string s4)) (r7 : w.cell? ⟨b, q + 7, none⟩ = some (.slice a4 len4 cap4)) (hsm : sameB k0 f = false) :
    Calls Tryz.prog 48 #[.int .i64 op2, .agg #[.int .i64 op, .int .i64 n, .string s, .slice a len cap], .agg #[.int .i64 op2, .int .i64 n2, .string s2, .slice (some ⟨b, q, none⟩) 2 cap2]] w fun e w' => e = .returned (.tuple #[.agg #[.int .i64 0, .int .i64 0, .string ByteArray.empty, .slice none 0 0], .iface 128 (.pointer (some x))]) ∧ Below w.heap.size w w' := by
  have h29 := hide (ok10 (.node op2 n2 s2 [k0, k1]) op2 n2 s2 (some ⟨b, q, none⟩) 2 cap2)
  rw [hok] at h29
  have h24 := hide (same15 k0 f op3 n3 s3 a3 len3 cap3 op n s a len cap)
  rw [hsm] at h24
  have HZ0 : Hid (k0.size ≤ 2097152) := by show _ ≤ _; simp only [Tm.size, Tm.sizes] at hsz; omega
  have h3 := threeB w op n s a len cap op2 n2 s2 (some ⟨b, q, none⟩) 2 cap2
  have q1 : (op2 != op2) = false := by simp
  go_enter Tryz.func48, Tryz.ntmps48
  go_wp2_with fail
  generalize hgw : (((w.alloc (.cells #[.int .i64 op, .int .i64 n, .string s, .slice a len cap] 28)).alloc (.cells #[.int .i64 op2, .int .i64 n2, .string s2, .slice (some ⟨b, q, none⟩) 2 cap2] 28)).alloc (.cells #[.int .i64 0, .int .i64 0, .string ByteArray.empty, .slice none 0 0] 28)) = W0 at *
  refine gw_world hgw ?_
  clear hgw
  have HB0 := hide h3.bel
  have HE := hide (he.on h3.bel)
  have HL := hide (hl.below h3.bel)
  have HLF := hide (hlf.below h3.bel)
  have HLK := hide (hk0.below h3.bel)
  have HR := hide h3.rz
  have HRA := hide h3.ra
  have HRB := hide h3.rb
  have HK := hide (And.intro (kpc h3.bel r0) (And.intro (kpc h3.bel r1) (And.intro (kpc h3.bel r2) (kpc h3.bel r3))))
  have HK1 := hide (And.intro (kpc h3.bel r4) (And.intro (kpc h3.bel r5) (And.intro (kpc h3.bel r6) (kpc h3.bel r7))))
  obtain ⟨c0, c1, c2, c3⟩ := h3.rb.facts
  have hne : (w.heap.size + 1 + 1 = 0) = False := by simp
  have hne' : (0 = w.heap.size + 1 + 1) = False := by simp
  clear h3 he hl hlf hk0 hok hsm r0 r1 r2 r3 r4 r5 r6 r7
  first
    | go_region_with (first | (go_at_call 57; refine (unhide h29 _ ((unhide HL).below (Below.refl _ _).drew) hsz).mono ?_; rintro e w2 ⟨rfl, hb2⟩; have hb2' := hide (below_drew' hb2); clear hb2; obtain ⟨k0, k1, k2, k3⟩ := ((unhide HRB).below (unhide hb2')).facts; obtain ⟨j0, j1, j2, j3⟩ := ((unhide HRA).below (unhide hb2')).facts; have i0 := kpc (unhide hb2') (unhide HK).1; have i1 := kpc (unhide hb2') (unhide HK).2.1; have i2 := kpc (unhide hb2') (unhide HK).2.2.1; have i3 := kpc (unhide hb2') (unhide HK).2.2.2) | (go_at_call 32; refine (unhide h24 _ ((unhide HLK).below (unhide hb2')) ((unhide HLF).below (unhide hb2')) (unhide HZ0)).mono ?_; rintro e w3 ⟨rfl, hb3⟩; have hb3' := hide hb3; clear hb3 k0 k1 k2 k3 j0 j1 j2 j3 i0 i1 i2 i3; have HB := hide (bt (bt (unhide HB0) (unhide hb2') (Nat.le_refl _)) (unhide hb3') (Nat.le_refl _)); have g0 := (((unhide HE).on (unhide hb2')).on (unhide hb3')).cell; obtain ⟨d0, d1, d2, d3⟩ := (((unhide HR).below (unhide hb2')).below (unhide hb3')).facts; obtain ⟨e0, e1, e2, e3⟩ := (((unhide HR).below (unhide hb2')).below (unhide hb3')).frozen; obtain ⟨k0, k1, k2, k3⟩ := (((unhide HRB).below (unhide hb2')).below (unhide hb3')).facts; have i4 := kpc (unhide hb3') (kpc (unhide hb2') (unhide HK1).1); have i5 := kpc (unhide hb3') (kpc (unhide hb2') (unhide HK1).2.1); have i6 := kpc (unhide hb3') (kpc (unhide hb2') (unhide HK1).2.2.1); have i7 := kpc (unhide hb3') (kpc (unhide hb2') (unhide HK1).2.2.2)))
    | fail
  all_goals go_wp2_with fail
  all_goals go_region
  all_goals go_wp2_with fail
  all_goals
    exact bodyPost_ret (v := .tuple #[.agg #[.int .i64 0, .int .i64 0, .string ByteArray.empty, .slice none 0 0], .iface 128 (.pointer (some x))]) (by simp [results, Tryz.results48, go_sem, d0, d1, d2, d3]; try rfl) rfl ⟨rfl, (set4_below (unhide HB) (by omega)).drew⟩

set_option maxRecDepth 100000 in
set_option maxHeartbeats 2000000 in
theorem behind_yes (f k0 k1 : Tm) (op n : Int) (s : ByteArray) (a : Option Addr) (len cap : Nat) (op2 n2 : Int) (s2 : ByteArray) (b q cap2 : Nat) (op3 n3 : Int) (s3 : ByteArray) (a3 : Option Addr) (len3 cap3 : Nat) (op4 n4 : Int) (s4 : ByteArray) (a4 : Option Addr) (len4 cap4 : Nat) (x : Addr) (w : World) (he : ErrAt x w)
    (hlf : Lies w 0 f (tmCells op n s a len cap)) (hl : Lies w 0 (.node op2 n2 s2 [k0, k1]) (tmCells op2 n2 s2 (some ⟨b, q, none⟩) 2 cap2)) (hsz : (Tm.node op2 n2 s2 [k0, k1]).size ≤ 2097152) (hok : okT (.node op2 n2 s2 [k0, k1]) = true)
    (r0 : w.cell? ⟨b, q, none⟩ = some (.int .i64 op3)) (r1 : w.cell? ⟨b, q + 1, none⟩ = some (.int .i64 n3)) (r2 : w.cell? ⟨b, q + 2, none⟩ = some (.string s3)) (r3 : w.cell? ⟨b, q + 3, none⟩ = some (.slice a3 len3 cap3)) (hk0 : Lies w 0 k0 (tmCells op3 n3 s3 a3 len3 cap3))
    (r4 : w.cell? ⟨b, q + 4, none⟩ = some (.int .i64 op4)) (r5 : w.cell? ⟨b, q + 5, none⟩ = some (.int .i64 n4)) (r6 : w.cell? ⟨b, q + 6, none⟩ = some (.string s4)) (r7 : w.cell? ⟨b, q + 7, none⟩ = some (.slice a4 len4 cap4)) (hsm : sameB k0 f = true) :
    Calls Tryz.prog 48 #[.int .i64 op2, .agg #[.int .i64 op, .int .i64 n, .string s, .slice a len cap], .agg #[.int .i64 op2, .int .i64 n2, .string s2, .slice (some ⟨b, q, none⟩) 2 cap2]] w fun e w' => e = .returned (.tuple #[.agg #[.int .i64 op4, .int .i64 n4, .string s4, .slice a4 len4 cap4], .nilIface]) ∧ Below w.heap.size w w' := by
  have h29 := hide (ok10 (.node op2 n2 s2 [k0, k1]) op2 n2 s2 (some ⟨b, q, none⟩) 2 cap2)
  rw [hok] at h29
  have h24 := hide (same15 k0 f op3 n3 s3 a3 len3 cap3 op n s a len cap)
  rw [hsm] at h24
  have HZ0 : Hid (k0.size ≤ 2097152) := by show _ ≤ _; simp only [Tm.size, Tm.sizes] at hsz; omega
  have h3 := threeB w op n s a len cap op2 n2 s2 (some ⟨b, q, none⟩) 2 cap2
  have q1 : (op2 != op2) = false := by simp
  go_enter Tryz.func48, Tryz.ntmps48
  go_wp2_with fail
  generalize hgw : (((w.alloc (.cells #[.int .i64 op, .int .i64 n, .string s, .slice a len cap] 28)).alloc (.cells #[.int .i64 op2, .int .i64 n2, .string s2, .slice (some ⟨b, q, none⟩) 2 cap2] 28)).alloc (.cells #[.int .i64 0, .int .i64 0, .string ByteArray.empty, .slice none 0 0] 28)) = W0 at *
  refine gw_world hgw ?_
  clear hgw
  have HB0 := hide h3.bel
  have HE := hide (he.on h3.bel)
  have HL := hide (hl.below h3.bel)
  have HLF := hide (hlf.below h3.bel)
  have HLK := hide (hk0.below h3.bel)
  have HR := hide h3.rz
  have HRA := hide h3.ra
  have HRB := hide h3.rb
  have HK := hide (And.intro (kpc h3.bel r0) (And.intro (kpc h3.bel r1) (And.intro (kpc h3.bel r2) (kpc h3.bel r3))))
  have HK1 := hide (And.intro (kpc h3.bel r4) (And.intro (kpc h3.bel r5) (And.intro (kpc h3.bel r6) (kpc h3.bel r7))))
  obtain ⟨c0, c1, c2, c3⟩ := h3.rb.facts
  have hne : (w.heap.size + 1 + 1 = 0) = False := by simp
  have hne' : (0 = w.heap.size + 1 + 1) = False := by simp
  clear h3 he hl hlf hk0 hok hsm r0 r1 r2 r3 r4 r5 r6 r7
  first
    | go_region_with (first | (go_at_call 57; refine (unhide h29 _ ((unhide HL).below (Below.refl _ _).drew) hsz).mono ?_; rintro e w2 ⟨rfl, hb2⟩; have hb2' := hide (below_drew' hb2); clear hb2; obtain ⟨k0, k1, k2, k3⟩ := ((unhide HRB).below (unhide hb2')).facts; obtain ⟨j0, j1, j2, j3⟩ := ((unhide HRA).below (unhide hb2')).facts; have i0 := kpc (unhide hb2') (unhide HK).1; have i1 := kpc (unhide hb2') (unhide HK).2.1; have i2 := kpc (unhide hb2') (unhide HK).2.2.1; have i3 := kpc (unhide hb2') (unhide HK).2.2.2) | (go_at_call 32; refine (unhide h24 _ ((unhide HLK).below (unhide hb2')) ((unhide HLF).below (unhide hb2')) (unhide HZ0)).mono ?_; rintro e w3 ⟨rfl, hb3⟩; have hb3' := hide hb3; clear hb3 k0 k1 k2 k3 j0 j1 j2 j3 i0 i1 i2 i3; have HB := hide (bt (bt (unhide HB0) (unhide hb2') (Nat.le_refl _)) (unhide hb3') (Nat.le_refl _)); have g0 := (((unhide HE).on (unhide hb2')).on (unhide hb3')).cell; obtain ⟨d0, d1, d2, d3⟩ := (((unhide HR).below (unhide hb2')).below (unhide hb3')).facts; obtain ⟨e0, e1, e2, e3⟩ := (((unhide HR).below (unhide hb2')).below (unhide hb3')).frozen; obtain ⟨k0, k1, k2, k3⟩ := (((unhide HRB).below (unhide hb2')).below (unhide hb3')).facts; have i4 := kpc (unhide hb3') (kpc (unhide hb2') (unhide HK1).1); have i5 := kpc (unhide hb3') (kpc (unhide hb2') (unhide HK1).2.1); have i6 := kpc (unhide hb3') (kpc (unhide hb2') (unhide HK1).2.2.1); have i7 := kpc (unhide hb3') (kpc (unhide hb2') (unhide HK1).2.2.2)))
    | fail
  all_goals go_wp2_with fail
  all_goals
    exact bodyPost_ret (v := .tuple #[.agg #[.int .i64 op4, .int .i64 n4, .string s4, .slice a4 len4 cap4], .nilIface]) (by simp [results, Tryz.results48, go_sem, d0, d1, d2, d3]; try rfl) rfl ⟨rfl, set4_below (unhide HB) (by omega)⟩

/-- The second kid of a right term of that operator and of that first kid. -/
def behO (o : Int) (f : Tm) : Tm → Option Tm
  | .node op n s ks => match ks with
    | [k0, k1] => if (decide (op = o) && okT (.node op n s [k0, k1]) && sameB k0 f) = true then some k1 else none
    | _ => none

theorem ok_two {o n : Int} {s : ByteArray} {ks : List Tm} (ho : o = 3 ∨ o = 7) (h : okT (.node o n s ks) = true) : ∃ k0 k1, ks = [k0, k1] := by
  have hl : ks.length = 2 := by
    simp only [okT, rightT, Bool.and_eq_true, headB, decide_eq_true_eq] at h
    have hk : kidsOf o = 2 := by rcases ho with rfl | rfl <;> decide
    rcases ho with rfl | rfl
    · have := h.2.1.1
      simp [kidsOf] at this
      omega
    · have := h.2.1.1
      simp [kidsOf] at this
      omega
  match ks, hl with
  | [k0, k1], _ => exact ⟨k0, k1, rfl⟩

/-- The two kids of a term that lies in memory. -/
theorem lies_kids {w : World} {op n : Int} {s : ByteArray} {k0 k1 : Tm} {op2 n2 : Int} {s2 : ByteArray} {a2 : Option Addr} {len2 cap2 : Nat} (hl : Lies w 0 (.node op n s [k0, k1]) (tmCells op2 n2 s2 a2 len2 cap2)) :
    op2 = op ∧ n2 = n ∧ s2 = s ∧ len2 = 2 ∧ ∃ b q op3 n3 s3 a3 len3 cap3 op4 n4 s4 a4 len4 cap4, a2 = some ⟨b, q, none⟩ ∧
      (w.cell? ⟨b, q, none⟩ = some (.int .i64 op3) ∧ w.cell? ⟨b, q + 1, none⟩ = some (.int .i64 n3) ∧ w.cell? ⟨b, q + 2, none⟩ = some (.string s3) ∧ w.cell? ⟨b, q + 3, none⟩ = some (.slice a3 len3 cap3) ∧ Lies w 0 k0 (tmCells op3 n3 s3 a3 len3 cap3)) ∧
      (w.cell? ⟨b, q + 4, none⟩ = some (.int .i64 op4) ∧ w.cell? ⟨b, q + 5, none⟩ = some (.int .i64 n4) ∧ w.cell? ⟨b, q + 6, none⟩ = some (.string s4) ∧ w.cell? ⟨b, q + 7, none⟩ = some (.slice a4 len4 cap4) ∧ Lies w 0 k1 (tmCells op4 n4 s4 a4 len4 cap4)) := by
  have hx := hl
  simp only [Lies, tmCells, List.cons.injEq, Value.int.injEq, Value.string.injEq, Value.slice.injEq, true_and, and_true] at hx
  obtain ⟨a9, c9, ⟨rfl, rfl, rfl, rfl, rfl, rfl⟩, _, _, hka⟩ := hx
  obtain ⟨b, q, op3, n3, s3, a3, len3, cap3, rfl, _, _, r0, r1, r2, r3, hk0⟩ := hka.elem (k := 0) (by simp)
  obtain ⟨b', q', op4, n4, s4, a4, len4, cap4, hab, _, _, r4, r5, r6, r7, hk1⟩ := hka.elem (k := 1) (by simp)
  simp only [Option.some.injEq, Addr.mk.injEq, and_true] at hab
  obtain ⟨rfl, rfl⟩ := hab
  simp only [Nat.zero_mul, Nat.add_zero, Nat.one_mul] at r0 r1 r2 r3 r4 r5 r6 r7
  refine ⟨rfl, rfl, rfl, by simp, b, q, op3, n3, s3, a3, len3, cap3, op4, n4, s4, a4, len4, cap4, rfl, ⟨r0, r1, r2, r3, hk0⟩, ⟨r4, ?_, ?_, ?_, hk1⟩⟩
  · exact r5
  · exact r6
  · exact r7

theorem behind_none (o : Int) (ho : o = 3 ∨ o = 7) (f t : Tm) (op n : Int) (s : ByteArray) (a : Option Addr) (len cap : Nat) (op2 n2 : Int) (s2 : ByteArray) (a2 : Option Addr) (len2 cap2 : Nat) (x : Addr) (w : World) (he : ErrAt x w) (hlf : Lies w 0 f (tmCells op n s a len cap)) (hl : Lies w 0 t (tmCells op2 n2 s2 a2 len2 cap2)) (hsz : t.size ≤ 2097152) (hb : behO o f t = none) :
    Calls Tryz.prog 48 #[.int .i64 o, .agg #[.int .i64 op, .int .i64 n, .string s, .slice a len cap], .agg #[.int .i64 op2, .int .i64 n2, .string s2, .slice a2 len2 cap2]] w fun e w' => e = .returned (.tuple #[.agg #[.int .i64 0, .int .i64 0, .string ByteArray.empty, .slice none 0 0], .iface 128 (.pointer (some x))]) ∧ Below w.heap.size w w' := by
  by_cases h1 : op2 = o
  · cases hok : okT t with
    | false => exact behind_no2 t o op n s a len cap op2 n2 s2 a2 len2 cap2 x w he h1 hl hsz hok
    | true =>
      obtain ⟨opt, nt, st, ks⟩ := t
      have h2 : op2 = opt := by
        have hx := hl
        simp only [Lies, tmCells, List.cons.injEq, Value.int.injEq, true_and] at hx
        obtain ⟨_, _, ⟨h, _⟩, _⟩ := hx
        exact h
      subst h2
      subst h1
      obtain ⟨k0, k1, rfl⟩ := ok_two ho hok
      obtain ⟨-, rfl, rfl, rfl, b, q, op3, n3, s3, a3, len3, cap3, op4, n4, s4, a4, len4, cap4, rfl, ⟨r0, r1, r2, r3, hk0⟩, r4, r5, r6, r7, hk1⟩ := lies_kids hl
      refine behind_no3 f k0 k1 op n s a len cap op2 n2 s2 b q cap2 op3 n3 s3 a3 len3 cap3 op4 n4 s4 a4 len4 cap4 x w he hlf hl hsz hok r0 r1 r2 r3 hk0 r4 r5 r6 r7 ?_
      simp only [behO, hok, decide_true, Bool.true_and] at hb
      cases hs : sameB k0 f with
      | false => rfl
      | true => rw [hs] at hb; simp at hb
  · exact behind_no1 o op n s a len cap op2 n2 s2 a2 len2 cap2 x w he h1

theorem behO_some {o : Int} {f t k : Tm} (h : behO o f t = some k) : ∃ n s k0, t = .node o n s [k0, k] ∧ okT t = true ∧ sameB k0 f = true := by
  obtain ⟨opt, nt, st, ks⟩ := t
  simp only [behO] at h
  split at h
  · rename_i k0 k1
    split at h
    · rename_i hc
      simp only [Bool.and_eq_true, decide_eq_true_eq] at hc
      obtain ⟨⟨rfl, hok⟩, hs⟩ := hc
      simp only [Option.some.injEq] at h
      subst h
      exact ⟨_, _, _, rfl, hok, hs⟩
    · cases h
  · cases h

theorem behind_some (o : Int) (f t k : Tm) (op n : Int) (s : ByteArray) (a : Option Addr) (len cap : Nat) (op2 n2 : Int) (s2 : ByteArray) (a2 : Option Addr) (len2 cap2 : Nat) (x : Addr) (w : World) (he : ErrAt x w) (hlf : Lies w 0 f (tmCells op n s a len cap)) (hl : Lies w 0 t (tmCells op2 n2 s2 a2 len2 cap2)) (hsz : t.size ≤ 2097152) (hb : behO o f t = some k) :
    Calls Tryz.prog 48 #[.int .i64 o, .agg #[.int .i64 op, .int .i64 n, .string s, .slice a len cap], .agg #[.int .i64 op2, .int .i64 n2, .string s2, .slice a2 len2 cap2]] w fun e w' => ∃ op4 n4 s4 a4 len4 cap4, e = .returned (.tuple #[.agg #[.int .i64 op4, .int .i64 n4, .string s4, .slice a4 len4 cap4], .nilIface]) ∧ Lies w' 0 k (tmCells op4 n4 s4 a4 len4 cap4) ∧ Below w.heap.size w w' := by
  obtain ⟨nt, st, k0, rfl, hok, hs⟩ := behO_some hb
  obtain ⟨rfl, rfl, rfl, rfl, b, q, op3, n3, s3, a3, len3, cap3, op4, n4, s4, a4, len4, cap4, rfl, ⟨r0, r1, r2, r3, hk0⟩, r4, r5, r6, r7, hk1⟩ := lies_kids hl
  refine (behind_yes f k0 k op n s a len cap op2 n2 s2 b q cap2 op3 n3 s3 a3 len3 cap3 op4 n4 s4 a4 len4 cap4 x w he hlf hl hsz hok r0 r1 r2 r3 hk0 r4 r5 r6 r7 hs).mono ?_
  rintro e w' ⟨he', hb'⟩
  exact ⟨_, _, _, _, _, _, he', hk1.below hb', hb'⟩

end Go.Proofs.YtafoonabmijcdaaGreatDoor
