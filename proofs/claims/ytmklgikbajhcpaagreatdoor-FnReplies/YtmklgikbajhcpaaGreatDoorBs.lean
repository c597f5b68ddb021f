
/- The walk of spec.Open where what is sealed is no pair: zero and false. -/
import Derived.Test.YtmklgikbajhcpaaGreatDoorSx
import Derived.Deep.RegionWith
import Derived.Deep.RegionHeld3
namespace Go.Proofs.YtmklgikbajhcpaaGreatDoor
open Go.RowKit Go.Deep

set_option maxRecDepth 100000 in
set_option maxHeartbeats 4000000 in
theorem openS_no4 (k k0 k1 : Tm) (op n : Int) (s : ByteArray) (a : Option Addr) (len cap : Nat) (m n2 : Int) (s2 : ByteArray) (b q cap2 : Nat) (op3 n3 : Int) (s3 : ByteArray) (a3 : Option Addr) (len3 cap3 : Nat) (op4 n4 : Int) (s4 : ByteArray) (a4 : Option Addr) (len4 cap4 : Nat) (w : World)
    (hlf : Lies w 0 k (tmCells op n s a len cap)) (hl : Lies w 0 (.node 7 n2 s2 [k0, k1]) (tmCells 7 n2 s2 (some ⟨b, q, none⟩) 2 cap2)) (hsz : (Tm.node 7 n2 s2 [k0, k1]).size ≤ 2097152) (hok : okT (.node 7 n2 s2 [k0, k1]) = true)
    (r0 : w.cell? ⟨b, q, none⟩ = some (.int .i64 op3)) (r1 : w.cell? ⟨b, q + 1, none⟩ = some (.int .i64 n3)) (r2 : w.cell? ⟨b, q + 2, none⟩ = some (.string s3)) (r3 : w.cell? ⟨b, q + 3, none⟩ = some (.slice a3 len3 cap3)) (hk0 : Lies w 0 k0 (tmCells op3 n3 s3 a3 len3 cap3))
    (r4 : w.cell? ⟨b, q + 4, none⟩ = some (.int .i64 op4)) (r5 : w.cell? ⟨b, q + 5, none⟩ = some (.int .i64 n4)) (r6 : w.cell? ⟨b, q + 6, none⟩ = some (.string s4)) (r7 : w.cell? ⟨b, q + 7, none⟩ = some (.slice a4 len4 cap4)) (hsm : sameB k0 k = true) (h3n : op4 ≠ 3) :
    Calls Tryz.prog 82 #[.agg #[.int .i64 op, .int .i64 n, .string s, .slice a len cap], .int .i64 m, .agg #[.int .i64 7, .int .i64 n2, .string s2, .slice (some ⟨b, q, none⟩) 2 cap2]] w fun e w' => e = .returned (.tuple #[.agg #[.int .i64 0, .int .i64 0, .string ByteArray.empty, .slice none 0 0], .bool false]) ∧ Below w.heap.size w w' := by
  have h39 := hide (ok8 (.node 7 n2 s2 [k0, k1]) 7 n2 s2 (some ⟨b, q, none⟩) 2 cap2)
  rw [hok] at h39
  have h40 := hide (sa_calls k0 k op3 n3 s3 a3 len3 cap3 op n s a len cap)
  rw [hsm] at h40
  have q3 : (op4 != 3) = true := by simpa using h3n
  have h3 := threeB w op n s a len cap 7 n2 s2 (some ⟨b, q, none⟩) 2 cap2
  go_enter Tryz.func82, Tryz.ntmps82
  go_wp2_with fail
  generalize hgw : (((w.alloc (.cells #[.int .i64 op, .int .i64 n, .string s, .slice a len cap] 29)).alloc (.cells #[.int .i64 7, .int .i64 n2, .string s2, .slice (some ⟨b, q, none⟩) 2 cap2] 29)).alloc (.cells #[.int .i64 0, .int .i64 0, .string ByteArray.empty, .slice none 0 0] 29)) = W0 at *
  refine gw_world hgw ?_
  clear hgw
  have HB0 := hide h3.bel
  have HL := hide (hl.below h3.bel)
  have HLF := hide (hlf.below h3.bel)
  have HLK := hide (hk0.below h3.bel)
  have HR := hide h3.rz
  have HRA := hide h3.ra
  have HRB := hide h3.rb
  have HK := hide (And.intro (kpc h3.bel r0) (And.intro (kpc h3.bel r1) (And.intro (kpc h3.bel r2) (kpc h3.bel r3))))
  have HK1 := hide (And.intro (kpc h3.bel r4) (And.intro (kpc h3.bel r5) (And.intro (kpc h3.bel r6) (kpc h3.bel r7))))
  obtain ⟨c0, c1, c2, c3⟩ := h3.rb.facts
  clear h3 hl hlf hk0 hok hsm r0 r1 r2 r3 r4 r5 r6 r7
  first
    | go_region_with (first | (go_at_call 114; refine (unhide h39 _ ((unhide HL).below (Below.refl _ _).drew) hsz).mono ?_; rintro e w2 ⟨rfl, hb2⟩; have hb2' := hide (below_drew' hb2); clear hb2; obtain ⟨k0, k1, k2, k3⟩ := ((unhide HRB).below (unhide hb2')).facts; obtain ⟨j0, j1, j2, j3⟩ := ((unhide HRA).below (unhide hb2')).facts; have i0 := kpc (unhide hb2') (unhide HK).1; have i1 := kpc (unhide hb2') (unhide HK).2.1; have i2 := kpc (unhide hb2') (unhide HK).2.2.1; have i3 := kpc (unhide hb2') (unhide HK).2.2.2) | (go_at_call 60; refine (unhide h40 _ ((unhide HLK).below (unhide hb2')) ((unhide HLF).below (unhide hb2'))).mono ?_; rintro e w3 ⟨rfl, hb3⟩; have hb3' := hide hb3; clear hb3 k0 k1 k2 k3 j0 j1 j2 j3 i0 i1 i2 i3; have HB := hide (bt (bt (unhide HB0) (unhide hb2') (Nat.le_refl _)) (unhide hb3') (Nat.le_refl _)); have HRZ := hide (((unhide HR).below (unhide hb2')).below (unhide hb3')); obtain ⟨d0, d1, d2, d3⟩ := (unhide HRZ).facts; obtain ⟨e0, e1, e2, e3⟩ := (unhide HRZ).frozen; obtain ⟨k0, k1, k2, k3⟩ := (((unhide HRB).below (unhide hb2')).below (unhide hb3')).facts; have i4 := kpc (unhide hb3') (kpc (unhide hb2') (unhide HK1).1); have i5 := kpc (unhide hb3') (kpc (unhide hb2') (unhide HK1).2.1); have i6 := kpc (unhide hb3') (kpc (unhide hb2') (unhide HK1).2.2.1); have i7 := kpc (unhide hb3') (kpc (unhide hb2') (unhide HK1).2.2.2)))
    | fail
  all_goals go_wp2_with fail
  all_goals
    have hbX := ab (w := w3) (.cells #[.int .i64 op4, .int .i64 n4, .string s4, .slice a4 len4 cap4] 29)
    have HU := hide (RowT.new 29 w3 op4 n4 s4 a4 len4 cap4)
    have HRX := hide ((unhide HRZ).below hbX)
    have HBX := hide (bt (unhide HB) hbX (Nat.le_refl _))
    have hltX : w.heap.size + 1 + 1 < w3.heap.size := (unhide HRZ).lt
    clear hbX d0 d1 d2 d3 e0 e1 e2 e3 k0 k1 k2 k3 i4 i5 i6 i7 c0 c1 c2 c3 hb2' hb3' HRZ HB HR HRA HRB HK HK1 HL HLF HLK h39 h40 HB0
    generalize w3.alloc (.cells #[.int .i64 op4, .int .i64 n4, .string s4, .slice a4 len4 cap4] 29) = W3 at *
    generalize w3.heap.size = bU at *
    have hnU : (bU = w.heap.size + 1 + 1) = False := eq_false (by omega)
    have hnU' : (w.heap.size + 1 + 1 = bU) = False := eq_false (by omega)
    obtain ⟨c0, c1, c2, c3⟩ := (unhide HU).facts
    obtain ⟨d0, d1, d2, d3⟩ := (unhide HRX).facts
    obtain ⟨e0, e1, e2, e3⟩ := (unhide HRX).frozen
    first
      | go_region_with fail
      | fail
  all_goals go_wp2_with fail
  all_goals
    exact bodyPost_ret (v := .tuple #[.agg #[.int .i64 0, .int .i64 0, .string ByteArray.empty, .slice none 0 0], .bool false]) (by simp [results, Tryz.results82, go_sem, d0, d1, d2, d3]; try rfl) rfl ⟨rfl, (set4_below (unhide HBX) (by omega)).drew⟩

end Go.Proofs.YtmklgikbajhcpaaGreatDoor
