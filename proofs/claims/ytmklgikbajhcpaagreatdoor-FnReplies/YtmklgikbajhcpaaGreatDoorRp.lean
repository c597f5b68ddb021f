
/- The walk of impl.readReply where three came in a row. -/
import Derived.Test.YtmklgikbajhcpaaGreatDoorRo
import Derived.Test.YtmklgikbajhcpaaGreatDoorG1
namespace Go.Proofs.YtmklgikbajhcpaaGreatDoor
open Go.RowKit Go.Deep

theorem rowO_size : ∀ (m : Nat) (t : Tm) (l : List Tm), rowO m t = some l → Tm.sizes l ≤ t.size
  | 0, t, l, h => by simp only [rowO, Option.some.injEq] at h; subst h; simp [Tm.sizes]
  | m + 1, .node op n s ks, l, h => by
    match ks with
    | [] => simp [rowO] at h
    | [_] => simp [rowO] at h
    | _ :: _ :: _ :: _ => simp [rowO] at h
    | [a, b] =>
      simp only [rowO] at h
      split at h
      · obtain ⟨r, h1, h2⟩ := Option.map_eq_some_iff.1 h
        subst h2
        have := rowO_size m b r h1
        simp only [Tm.sizes, Tm.size]
        omega
      · cases h
theorem inO_size {t k0 pub sealed : Tm} (h : inO 2 t = some [k0, pub, sealed]) : k0.size + pub.size + sealed.size ≤ t.size := by
  unfold inO at h
  split at h
  · have := rowO_size 2 t _ h
    simp only [Tm.sizes] at this
    omega
  · cases h
theorem TRw.three {B : Nat} {p q r : Tc} {v : Value} {w : World} (h : TRw B [p, q, r] v w) :
    ∃ g c, v = .slice (some ⟨g, 0, none⟩) 3 c ∧ B ≤ g ∧ w.cell? ⟨g, 0, none⟩ = some (.int .i64 p.op) ∧ w.cell? ⟨g, 1, none⟩ = some (.int .i64 p.n) ∧ w.cell? ⟨g, 2, none⟩ = some (.string p.s) ∧ w.cell? ⟨g, 3, none⟩ = some (.slice p.a p.len p.cap) ∧ w.cell? ⟨g, 4, none⟩ = some (.int .i64 q.op) ∧ w.cell? ⟨g, 5, none⟩ = some (.int .i64 q.n) ∧ w.cell? ⟨g, 6, none⟩ = some (.string q.s) ∧ w.cell? ⟨g, 7, none⟩ = some (.slice q.a q.len q.cap) ∧ w.cell? ⟨g, 8, none⟩ = some (.int .i64 r.op) ∧ w.cell? ⟨g, 9, none⟩ = some (.int .i64 r.n) ∧ w.cell? ⟨g, 10, none⟩ = some (.string r.s) ∧ w.cell? ⟨g, 11, none⟩ = some (.slice r.a r.len r.cap) := by
  obtain ⟨g, c, rfl, h1, _, e0, e1, e2, e3⟩ := TRw.cells h (i := 0) (p := p) rfl
  obtain ⟨g', c', h2, _, _, e4, e5, e6, e7⟩ := TRw.cells h (i := 1) (p := q) rfl
  obtain ⟨g'', c'', h3, _, _, e8, e9, e10, e11⟩ := TRw.cells h (i := 2) (p := r) rfl
  cases h2
  cases h3
  exact ⟨g, c, rfl, h1, e0, e1, e2, e3, e4, e5, e6, e7, e8, e9, e10, e11⟩

set_option maxRecDepth 100000 in
set_option maxHeartbeats 4000000 in
theorem read_no2 (e t k0 pub sealed : Tm) (op n : Int) (s : ByteArray) (a : Option Addr) (len cap : Nat) (op2 n2 : Int) (s2 : ByteArray) (a2 : Option Addr) (len2 cap2 : Nat) (x : Addr) (w : World) (he : ErrAt x w) (htab : Tab w) (hl : Lies w 0 e (tmCells op n s a len cap)) (hl2 : Lies w 0 t (tmCells op2 n2 s2 a2 len2 cap2)) (hst : e.size + t.size ≤ 1100000) (hn : inO 2 t = some [k0, pub, sealed]) (hs : sameB k0 (textT replyW) = false) : Calls Tryz.prog 80 #[.agg #[.int .i64 op, .int .i64 n, .string s, .slice a len cap], .agg #[.int .i64 op2, .int .i64 n2, .string s2, .slice a2 len2 cap2]] w fun q w' => q = .returned (.tuple #[.agg #[.int .i64 0, .int .i64 0, .string ⟨#[]⟩, .slice none 0 0, .int .i64 0, .int .i64 0, .string ⟨#[]⟩, .slice none 0 0, .int .i64 0, .int .i64 0, .string ⟨#[]⟩, .slice none 0 0, .int .i64 0, .int .i64 0, .string ⟨#[]⟩, .slice none 0 0], .iface 202 (.pointer (some x))]) ∧ Below w.heap.size w w' := by
  have hb0 : Below w.heap.size w (((w.alloc (.cells #[.int .i64 op, .int .i64 n, .string s, .slice a len cap] 29)).alloc (.cells #[.int .i64 op2, .int .i64 n2, .string s2, .slice a2 len2 cap2] 29)).alloc (.cells #[.int .i64 0, .int .i64 0, .string ⟨#[]⟩, .slice none 0 0, .int .i64 0, .int .i64 0, .string ⟨#[]⟩, .slice none 0 0, .int .i64 0, .int .i64 0, .string ⟨#[]⟩, .slice none 0 0, .int .i64 0, .int .i64 0, .string ⟨#[]⟩, .slice none 0 0] 89)) := bt (bt (ab _) (ab _) (Nat.le_refl _)) (ab _) (Nat.le_refl _)
  have hI := hide (inRow 2 (by omega) t op2 n2 s2 a2 len2 cap2 x _ (he.on hb0) (hl2.below hb0) (by omega))
  have HB0 := hide hb0
  have HR0 : Hid (RowVR (((w.alloc (.cells #[.int .i64 op, .int .i64 n, .string s, .slice a len cap] 29)).alloc (.cells #[.int .i64 op2, .int .i64 n2, .string s2, .slice a2 len2 cap2] 29)).alloc (.cells #[.int .i64 0, .int .i64 0, .string ⟨#[]⟩, .slice none 0 0, .int .i64 0, .int .i64 0, .string ⟨#[]⟩, .slice none 0 0, .int .i64 0, .int .i64 0, .string ⟨#[]⟩, .slice none 0 0, .int .i64 0, .int .i64 0, .string ⟨#[]⟩, .slice none 0 0] 89)) (w.heap.size + 1 + 1) #[.int .i64 0, .int .i64 0, .string ⟨#[]⟩, .slice none 0 0, .int .i64 0, .int .i64 0, .string ⟨#[]⟩, .slice none 0 0, .int .i64 0, .int .i64 0, .string ⟨#[]⟩, .slice none 0 0, .int .i64 0, .int .i64 0, .string ⟨#[]⟩, .slice none 0 0]) := by have := RowVR.new ((w.alloc (.cells #[.int .i64 op, .int .i64 n, .string s, .slice a len cap] 29)).alloc (.cells #[.int .i64 op2, .int .i64 n2, .string s2, .slice a2 len2 cap2] 29)) #[.int .i64 0, .int .i64 0, .string ⟨#[]⟩, .slice none 0 0, .int .i64 0, .int .i64 0, .string ⟨#[]⟩, .slice none 0 0, .int .i64 0, .int .i64 0, .string ⟨#[]⟩, .slice none 0 0, .int .i64 0, .int .i64 0, .string ⟨#[]⟩, .slice none 0 0] rfl; rwa [heap_size_alloc, heap_size_alloc] at this
  have HE0 : Hid (RowT 29 (((w.alloc (.cells #[.int .i64 op, .int .i64 n, .string s, .slice a len cap] 29)).alloc (.cells #[.int .i64 op2, .int .i64 n2, .string s2, .slice a2 len2 cap2] 29)).alloc (.cells #[.int .i64 0, .int .i64 0, .string ⟨#[]⟩, .slice none 0 0, .int .i64 0, .int .i64 0, .string ⟨#[]⟩, .slice none 0 0, .int .i64 0, .int .i64 0, .string ⟨#[]⟩, .slice none 0 0, .int .i64 0, .int .i64 0, .string ⟨#[]⟩, .slice none 0 0] 89)) w.heap.size op n s a len cap) := ((RowT.new 29 w op n s a len cap).below (ab _)).below (ab _)
  have HLE := hide (hl.below hb0)
  have HER := hide (he.on hb0)
  have HTB := hide (htab.on hb0)
  have HN := hide hn
  have HKZ : Hid (k0.size + pub.size + sealed.size ≤ t.size) := inO_size hn
  clear he hl hl2 hb0 hn htab
  go_enter Tryz.func80, Tryz.ntmps80
  go_wp2_with fail
  generalize hgw : (((w.alloc (.cells #[.int .i64 op, .int .i64 n, .string s, .slice a len cap] 29)).alloc (.cells #[.int .i64 op2, .int .i64 n2, .string s2, .slice a2 len2 cap2] 29)).alloc (.cells #[.int .i64 0, .int .i64 0, .string ⟨#[]⟩, .slice none 0 0, .int .i64 0, .int .i64 0, .string ⟨#[]⟩, .slice none 0 0, .int .i64 0, .int .i64 0, .string ⟨#[]⟩, .slice none 0 0, .int .i64 0, .int .i64 0, .string ⟨#[]⟩, .slice none 0 0] 89)) = W at *
  clear hgw
  refine (unhide hI).mono ?_
  rintro q w1 ⟨hb1, h1⟩
  rcases h1 with ⟨h2, -⟩ | ⟨L, v, h2, rfl, hT, hL⟩
  · rw [unhide HN] at h2
    cases h2
  rw [unhide HN] at h2
  obtain ⟨⟨_, c0⟩, ⟨_, c1⟩, ⟨_, c2⟩, rfl⟩ := three_of (L := L) (by have := congrArg List.length (Option.some.inj h2); simpa using this.symm)
  simp only [List.map_cons, List.map_nil, Option.some.injEq, List.cons.injEq, and_true] at h2
  obtain ⟨rfl, rfl, rfl⟩ := h2
  obtain ⟨op3, n3, s3, a3, len3, cap3⟩ := c0
  obtain ⟨op4, n4, s4, a4, len4, cap4⟩ := c1
  obtain ⟨op5, n5, s5, a5, len5, cap5⟩ := c2
  have HK0 := hide ((hL (k0, ⟨op3, n3, s3, a3, len3, cap3⟩) (by simp)).below hb1)
  have HPU := hide ((hL (pub, ⟨op4, n4, s4, a4, len4, cap4⟩) (by simp)).below hb1)
  have HSE := hide ((hL (sealed, ⟨op5, n5, s5, a5, len5, cap5⟩) (by simp)).below hb1)
  simp only [Tc.cells] at HK0 HPU HSE
  have HB1 := hide (bt (unhide HB0) hb1 (Nat.le_refl _))
  have HR1 := hide ((unhide HR0).below hb1)
  have HE1 := hide ((unhide HE0).below hb1)
  have HLE1 := hide ((unhide HLE).below hb1)
  have HER1 := hide ((unhide HER).on hb1)
  have HTB1 := hide ((unhide HTB).on hb1)
  have HT1 := hide hT
  obtain ⟨gv, cv, rfl, hgv, m0, m1, m2, m3, m4, m5, m6, m7, m8, m9, m10, m11⟩ := TRw.three hT
  simp only [List.map_cons, List.map_nil] at HT1
  clear hb1 hT hL hI HB0 HR0 HE0 HLE HER HTB
  have h47 := hide (wordI (⟨#[114, 101, 112, 108, 121]⟩ : ByteArray))
  have h53 := hide (fun V (hV : Below w1.heap.size w1 V) => same15 k0 (textT replyW) op3 n3 s3 a3 len3 cap3 2 0 (⟨#[114, 101, 112, 108, 121]⟩ : ByteArray) none 0 0 V ((unhide HK0).below hV) (text_lies replyW (by decide) V) (by have := unhide HKZ; omega))
  rw [hs] at h53
  go_wp2_with fail
  go_region_held3 (fun x => x.cell? ⟨gv, 0, none⟩ = some (.int .i64 op3) ∧ x.cell? ⟨gv, 1, none⟩ = some (.int .i64 n3) ∧ x.cell? ⟨gv, 2, none⟩ = some (.string s3) ∧ x.cell? ⟨gv, 3, none⟩ = some (.slice a3 len3 cap3)) (go_keep)
    (first
      | (go_at_call 92
         refine (unhide h47 _).mono ?_
         rintro e w2 ⟨rfl, hb2⟩
         have C2 := hide (below_drew' hb2)
         have f0 := kpc (unhide C2) m0
         have f1 := kpc (unhide C2) m1
         have f2 := kpc (unhide C2) m2
         have f3 := kpc (unhide C2) m3
         clear hb2)
      | (go_at_call 21
         refine (unhide h53 _ (unhide C2)).mono ?_
         rintro e w3 ⟨rfl, hb3⟩
         have C3 := hide (bt (unhide C2) hb3 (Nat.le_refl _))
         have i0 := kpc hb3 f0
         have i1 := kpc hb3 f1
         have i2 := kpc hb3 f2
         have i3 := kpc hb3 f3
         clear hb3))
  clear f0 f1 f2 f3 i0 i1 i2 i3 h47 h53
  have HB3 := hide (bt (unhide HB1) (unhide C3) (Nat.le_refl _))
  have HR3 := hide ((unhide HR1).below (unhide C3))
  have HE3 := hide ((unhide HE1).below (unhide C3))
  have HLE3 := hide ((unhide HLE1).below (unhide C3))
  have HER3 := hide ((unhide HER1).on (unhide C3))
  have HTB3 := hide ((unhide HTB1).on (unhide C3))
  have ex := (unhide HER3).cell
  have z0 : w3.cell? ⟨w.heap.size + 1 + 1, 0, none⟩ = some (.int .i64 0) := by simpa using (unhide HR3).cells 0 _ rfl
  have z1 : w3.cell? ⟨w.heap.size + 1 + 1, 1, none⟩ = some (.int .i64 0) := by simpa using (unhide HR3).cells 1 _ rfl
  have z2 : w3.cell? ⟨w.heap.size + 1 + 1, 2, none⟩ = some (.string ⟨#[]⟩) := by simpa using (unhide HR3).cells 2 _ rfl
  have z3 : w3.cell? ⟨w.heap.size + 1 + 1, 3, none⟩ = some (.slice none 0 0) := by simpa using (unhide HR3).cells 3 _ rfl
  have z4 : w3.cell? ⟨w.heap.size + 1 + 1, 4, none⟩ = some (.int .i64 0) := by simpa using (unhide HR3).cells 4 _ rfl
  have z5 : w3.cell? ⟨w.heap.size + 1 + 1, 5, none⟩ = some (.int .i64 0) := by simpa using (unhide HR3).cells 5 _ rfl
  have z6 : w3.cell? ⟨w.heap.size + 1 + 1, 6, none⟩ = some (.string ⟨#[]⟩) := by simpa using (unhide HR3).cells 6 _ rfl
  have z7 : w3.cell? ⟨w.heap.size + 1 + 1, 7, none⟩ = some (.slice none 0 0) := by simpa using (unhide HR3).cells 7 _ rfl
  have z8 : w3.cell? ⟨w.heap.size + 1 + 1, 8, none⟩ = some (.int .i64 0) := by simpa using (unhide HR3).cells 8 _ rfl
  have z9 : w3.cell? ⟨w.heap.size + 1 + 1, 9, none⟩ = some (.int .i64 0) := by simpa using (unhide HR3).cells 9 _ rfl
  have z10 : w3.cell? ⟨w.heap.size + 1 + 1, 10, none⟩ = some (.string ⟨#[]⟩) := by simpa using (unhide HR3).cells 10 _ rfl
  have z11 : w3.cell? ⟨w.heap.size + 1 + 1, 11, none⟩ = some (.slice none 0 0) := by simpa using (unhide HR3).cells 11 _ rfl
  have z12 : w3.cell? ⟨w.heap.size + 1 + 1, 12, none⟩ = some (.int .i64 0) := by simpa using (unhide HR3).cells 12 _ rfl
  have z13 : w3.cell? ⟨w.heap.size + 1 + 1, 13, none⟩ = some (.int .i64 0) := by simpa using (unhide HR3).cells 13 _ rfl
  have z14 : w3.cell? ⟨w.heap.size + 1 + 1, 14, none⟩ = some (.string ⟨#[]⟩) := by simpa using (unhide HR3).cells 14 _ rfl
  have z15 : w3.cell? ⟨w.heap.size + 1 + 1, 15, none⟩ = some (.slice none 0 0) := by simpa using (unhide HR3).cells 15 _ rfl
  have y0 : w3.frozen? ⟨w.heap.size + 1 + 1, 0, none⟩ = false := by simpa using ((unhide HR3).there 0 (by omega)).2
  have y1 : w3.frozen? ⟨w.heap.size + 1 + 1, 1, none⟩ = false := by simpa using ((unhide HR3).there 1 (by omega)).2
  have y2 : w3.frozen? ⟨w.heap.size + 1 + 1, 2, none⟩ = false := by simpa using ((unhide HR3).there 2 (by omega)).2
  have y3 : w3.frozen? ⟨w.heap.size + 1 + 1, 3, none⟩ = false := by simpa using ((unhide HR3).there 3 (by omega)).2
  have y4 : w3.frozen? ⟨w.heap.size + 1 + 1, 4, none⟩ = false := by simpa using ((unhide HR3).there 4 (by omega)).2
  have y5 : w3.frozen? ⟨w.heap.size + 1 + 1, 5, none⟩ = false := by simpa using ((unhide HR3).there 5 (by omega)).2
  have y6 : w3.frozen? ⟨w.heap.size + 1 + 1, 6, none⟩ = false := by simpa using ((unhide HR3).there 6 (by omega)).2
  have y7 : w3.frozen? ⟨w.heap.size + 1 + 1, 7, none⟩ = false := by simpa using ((unhide HR3).there 7 (by omega)).2
  have y8 : w3.frozen? ⟨w.heap.size + 1 + 1, 8, none⟩ = false := by simpa using ((unhide HR3).there 8 (by omega)).2
  have y9 : w3.frozen? ⟨w.heap.size + 1 + 1, 9, none⟩ = false := by simpa using ((unhide HR3).there 9 (by omega)).2
  have y10 : w3.frozen? ⟨w.heap.size + 1 + 1, 10, none⟩ = false := by simpa using ((unhide HR3).there 10 (by omega)).2
  have y11 : w3.frozen? ⟨w.heap.size + 1 + 1, 11, none⟩ = false := by simpa using ((unhide HR3).there 11 (by omega)).2
  have y12 : w3.frozen? ⟨w.heap.size + 1 + 1, 12, none⟩ = false := by simpa using ((unhide HR3).there 12 (by omega)).2
  have y13 : w3.frozen? ⟨w.heap.size + 1 + 1, 13, none⟩ = false := by simpa using ((unhide HR3).there 13 (by omega)).2
  have y14 : w3.frozen? ⟨w.heap.size + 1 + 1, 14, none⟩ = false := by simpa using ((unhide HR3).there 14 (by omega)).2
  have y15 : w3.frozen? ⟨w.heap.size + 1 + 1, 15, none⟩ = false := by simpa using ((unhide HR3).there 15 (by omega)).2
  go_wp2_with fail
  go_region
  all_goals
    go_wp2_with fail
    refine bodyPost_ret (v := .tuple #[.agg #[.int .i64 0, .int .i64 0, .string ⟨#[]⟩, .slice none 0 0, .int .i64 0, .int .i64 0, .string ⟨#[]⟩, .slice none 0 0, .int .i64 0, .int .i64 0, .string ⟨#[]⟩, .slice none 0 0, .int .i64 0, .int .i64 0, .string ⟨#[]⟩, .slice none 0 0], .iface 202 (.pointer (some x))]) (results_cell_tmp Tryz.results80 rfl (RowVR.load (C := #[.int .i64 0, .int .i64 0, .string ⟨#[]⟩, .slice none 0 0, .int .i64 0, .int .i64 0, .string ⟨#[]⟩, .slice none 0 0, .int .i64 0, .int .i64 0, .string ⟨#[]⟩, .slice none 0 0, .int .i64 0, .int .i64 0, .string ⟨#[]⟩, .slice none 0 0]) ?_)) rfl ⟨rfl, ?_⟩
    · rw [set16]
      exact ((unhide HR3).store #[.int .i64 0, .int .i64 0, .string ⟨#[]⟩, .slice none 0 0, .int .i64 0, .int .i64 0, .string ⟨#[]⟩, .slice none 0 0, .int .i64 0, .int .i64 0, .string ⟨#[]⟩, .slice none 0 0, .int .i64 0, .int .i64 0, .string ⟨#[]⟩, .slice none 0 0] rfl).drew
    · rw [set16]
      exact (below_setCells (unhide HB3) (by omega) _ 0).drew

/-- The box of what came, and what came beside it. -/
def CutS (w2 : World) (op n : Int) (s : ByteArray) (a : Option Addr) (len cap : Nat) (ev : Value) (p q : Value) (wx : World) : Prop := ∃ b, p = .pointer (some ⟨b, 0, none⟩) ∧ q = ev ∧ w2.heap.size ≤ b ∧ RowT 29 wx b op n s a len cap ∧ Below w2.heap.size w2 wx
theorem CutS.late {w2 w5 : World} {op n : Int} {s : ByteArray} {a : Option Addr} {len cap : Nat} {ev : Value} (hb : Below w2.heap.size w2 w5) : CutS w2 op n s a len cap ev (.pointer (some ⟨w5.heap.size, 0, none⟩)) ev (w5.alloc (.cells #[.int .i64 op, .int .i64 n, .string s, .slice a len cap] 29)) :=
  ⟨_, rfl, rfl, hb.size, RowT.new 29 w5 op n s a len cap, bt hb (ab _) (Nat.le_refl _)⟩
theorem CutS.early {w2 w5 : World} {g : Nat} {op n : Int} {s : ByteArray} {a : Option Addr} {len cap : Nat} {ev : Value} (hb : Below w2.heap.size w2 w5) (hz : ZBox w5 g) (hg : w2.heap.size ≤ g) : CutS w2 op n s a len cap ev (.pointer (some ⟨g, 0, none⟩)) ev ((((w5.setCell ⟨g, 0, none⟩ (.int .i64 op)).setCell ⟨g, 1, none⟩ (.int .i64 n)).setCell ⟨g, 2, none⟩ (.string s)).setCell ⟨g, 3, none⟩ (.slice a len cap)) :=
  ⟨_, rfl, rfl, hg, fill26 hz op n s a len cap, set4_below hb hg⟩

set_option maxRecDepth 100000 in
set_option maxHeartbeats 4000000 in
theorem read_no3 (e t k0 pub sealed : Tm) (op n : Int) (s : ByteArray) (a : Option Addr) (len cap : Nat) (op2 n2 : Int) (s2 : ByteArray) (a2 : Option Addr) (len2 cap2 : Nat) (x : Addr) (w : World) (he : ErrAt x w) (htab : Tab w) (hl : Lies w 0 e (tmCells op n s a len cap)) (hl2 : Lies w 0 t (tmCells op2 n2 s2 a2 len2 cap2)) (hst : e.size + t.size ≤ 1100000) (hn : inO 2 t = some [k0, pub, sealed]) (hs : sameB k0 (textT replyW) = true) (hsh : shrB e pub = false) : Calls Tryz.prog 80 #[.agg #[.int .i64 op, .int .i64 n, .string s, .slice a len cap], .agg #[.int .i64 op2, .int .i64 n2, .string s2, .slice a2 len2 cap2]] w fun q w' => q = .returned (.tuple #[.agg #[.int .i64 0, .int .i64 0, .string ⟨#[]⟩, .slice none 0 0, .int .i64 0, .int .i64 0, .string ⟨#[]⟩, .slice none 0 0, .int .i64 0, .int .i64 0, .string ⟨#[]⟩, .slice none 0 0, .int .i64 0, .int .i64 0, .string ⟨#[]⟩, .slice none 0 0], .iface 202 (.pointer (some x))]) ∧ Below w.heap.size w w' := by
  have hb0 : Below w.heap.size w (((w.alloc (.cells #[.int .i64 op, .int .i64 n, .string s, .slice a len cap] 29)).alloc (.cells #[.int .i64 op2, .int .i64 n2, .string s2, .slice a2 len2 cap2] 29)).alloc (.cells #[.int .i64 0, .int .i64 0, .string ⟨#[]⟩, .slice none 0 0, .int .i64 0, .int .i64 0, .string ⟨#[]⟩, .slice none 0 0, .int .i64 0, .int .i64 0, .string ⟨#[]⟩, .slice none 0 0, .int .i64 0, .int .i64 0, .string ⟨#[]⟩, .slice none 0 0] 89)) := bt (bt (ab _) (ab _) (Nat.le_refl _)) (ab _) (Nat.le_refl _)
  have hI := hide (inRow 2 (by omega) t op2 n2 s2 a2 len2 cap2 x _ (he.on hb0) (hl2.below hb0) (by omega))
  have HB0 := hide hb0
  have HR0 : Hid (RowVR (((w.alloc (.cells #[.int .i64 op, .int .i64 n, .string s, .slice a len cap] 29)).alloc (.cells #[.int .i64 op2, .int .i64 n2, .string s2, .slice a2 len2 cap2] 29)).alloc (.cells #[.int .i64 0, .int .i64 0, .string ⟨#[]⟩, .slice none 0 0, .int .i64 0, .int .i64 0, .string ⟨#[]⟩, .slice none 0 0, .int .i64 0, .int .i64 0, .string ⟨#[]⟩, .slice none 0 0, .int .i64 0, .int .i64 0, .string ⟨#[]⟩, .slice none 0 0] 89)) (w.heap.size + 1 + 1) #[.int .i64 0, .int .i64 0, .string ⟨#[]⟩, .slice none 0 0, .int .i64 0, .int .i64 0, .string ⟨#[]⟩, .slice none 0 0, .int .i64 0, .int .i64 0, .string ⟨#[]⟩, .slice none 0 0, .int .i64 0, .int .i64 0, .string ⟨#[]⟩, .slice none 0 0]) := by have := RowVR.new ((w.alloc (.cells #[.int .i64 op, .int .i64 n, .string s, .slice a len cap] 29)).alloc (.cells #[.int .i64 op2, .int .i64 n2, .string s2, .slice a2 len2 cap2] 29)) #[.int .i64 0, .int .i64 0, .string ⟨#[]⟩, .slice none 0 0, .int .i64 0, .int .i64 0, .string ⟨#[]⟩, .slice none 0 0, .int .i64 0, .int .i64 0, .string ⟨#[]⟩, .slice none 0 0, .int .i64 0, .int .i64 0, .string ⟨#[]⟩, .slice none 0 0] rfl; rwa [heap_size_alloc, heap_size_alloc] at this
  have HE0 : Hid (RowT 29 (((w.alloc (.cells #[.int .i64 op, .int .i64 n, .string s, .slice a len cap] 29)).alloc (.cells #[.int .i64 op2, .int .i64 n2, .string s2, .slice a2 len2 cap2] 29)).alloc (.cells #[.int .i64 0, .int .i64 0, .string ⟨#[]⟩, .slice none 0 0, .int .i64 0, .int .i64 0, .string ⟨#[]⟩, .slice none 0 0, .int .i64 0, .int .i64 0, .string ⟨#[]⟩, .slice none 0 0, .int .i64 0, .int .i64 0, .string ⟨#[]⟩, .slice none 0 0] 89)) w.heap.size op n s a len cap) := ((RowT.new 29 w op n s a len cap).below (ab _)).below (ab _)
  have HLE := hide (hl.below hb0)
  have HER := hide (he.on hb0)
  have HTB := hide (htab.on hb0)
  have HN := hide hn
  have HKZ : Hid (k0.size + pub.size + sealed.size ≤ t.size) := inO_size hn
  clear he hl hl2 hb0 hn htab
  go_enter Tryz.func80, Tryz.ntmps80
  go_wp2_with fail
  generalize hgw : (((w.alloc (.cells #[.int .i64 op, .int .i64 n, .string s, .slice a len cap] 29)).alloc (.cells #[.int .i64 op2, .int .i64 n2, .string s2, .slice a2 len2 cap2] 29)).alloc (.cells #[.int .i64 0, .int .i64 0, .string ⟨#[]⟩, .slice none 0 0, .int .i64 0, .int .i64 0, .string ⟨#[]⟩, .slice none 0 0, .int .i64 0, .int .i64 0, .string ⟨#[]⟩, .slice none 0 0, .int .i64 0, .int .i64 0, .string ⟨#[]⟩, .slice none 0 0] 89)) = W at *
  clear hgw
  refine (unhide hI).mono ?_
  rintro q w1 ⟨hb1, h1⟩
  rcases h1 with ⟨h2, -⟩ | ⟨L, v, h2, rfl, hT, hL⟩
  · rw [unhide HN] at h2
    cases h2
  rw [unhide HN] at h2
  obtain ⟨⟨_, c0⟩, ⟨_, c1⟩, ⟨_, c2⟩, rfl⟩ := three_of (L := L) (by have := congrArg List.length (Option.some.inj h2); simpa using this.symm)
  simp only [List.map_cons, List.map_nil, Option.some.injEq, List.cons.injEq, and_true] at h2
  obtain ⟨rfl, rfl, rfl⟩ := h2
  obtain ⟨op3, n3, s3, a3, len3, cap3⟩ := c0
  obtain ⟨op4, n4, s4, a4, len4, cap4⟩ := c1
  obtain ⟨op5, n5, s5, a5, len5, cap5⟩ := c2
  have HK0 := hide ((hL (k0, ⟨op3, n3, s3, a3, len3, cap3⟩) (by simp)).below hb1)
  have HPU := hide ((hL (pub, ⟨op4, n4, s4, a4, len4, cap4⟩) (by simp)).below hb1)
  have HSE := hide ((hL (sealed, ⟨op5, n5, s5, a5, len5, cap5⟩) (by simp)).below hb1)
  simp only [Tc.cells] at HK0 HPU HSE
  have HB1 := hide (bt (unhide HB0) hb1 (Nat.le_refl _))
  have HR1 := hide ((unhide HR0).below hb1)
  have HE1 := hide ((unhide HE0).below hb1)
  have HLE1 := hide ((unhide HLE).below hb1)
  have HER1 := hide ((unhide HER).on hb1)
  have HTB1 := hide ((unhide HTB).on hb1)
  have HT1 := hide hT
  obtain ⟨gv, cv, rfl, hgv, m0, m1, m2, m3, m4, m5, m6, m7, m8, m9, m10, m11⟩ := TRw.three hT
  simp only [List.map_cons, List.map_nil] at HT1
  clear hb1 hT hL hI HB0 HR0 HE0 HLE HER HTB
  have h47 := hide (wordI (⟨#[114, 101, 112, 108, 121]⟩ : ByteArray))
  have h53 := hide (fun V (hV : Below w1.heap.size w1 V) => same15 k0 (textT replyW) op3 n3 s3 a3 len3 cap3 2 0 (⟨#[114, 101, 112, 108, 121]⟩ : ByteArray) none 0 0 V ((unhide HK0).below hV) (text_lies replyW (by decide) V) (by have := unhide HKZ; omega))
  rw [hs] at h53
  go_wp2_with fail
  go_region_held3 (fun x => x.cell? ⟨gv, 0, none⟩ = some (.int .i64 op3) ∧ x.cell? ⟨gv, 1, none⟩ = some (.int .i64 n3) ∧ x.cell? ⟨gv, 2, none⟩ = some (.string s3) ∧ x.cell? ⟨gv, 3, none⟩ = some (.slice a3 len3 cap3)) (go_keep)
    (first
      | (go_at_call 92
         refine (unhide h47 _).mono ?_
         rintro e w2 ⟨rfl, hb2⟩
         have C2 := hide (below_drew' hb2)
         have f0 := kpc (unhide C2) m0
         have f1 := kpc (unhide C2) m1
         have f2 := kpc (unhide C2) m2
         have f3 := kpc (unhide C2) m3
         clear hb2)
      | (go_at_call 21
         refine (unhide h53 _ (unhide C2)).mono ?_
         rintro e w3 ⟨rfl, hb3⟩
         have C3 := hide (bt (unhide C2) hb3 (Nat.le_refl _))
         have i0 := kpc hb3 f0
         have i1 := kpc hb3 f1
         have i2 := kpc hb3 f2
         have i3 := kpc hb3 f3
         clear hb3))
  clear f0 f1 f2 f3 i0 i1 i2 i3 h47 h53
  have HB3 := hide (bt (unhide HB1) (unhide C3) (Nat.le_refl _))
  have HR3 := hide ((unhide HR1).below (unhide C3))
  have HE3 := hide ((unhide HE1).below (unhide C3))
  have HLE3 := hide ((unhide HLE1).below (unhide C3))
  have HER3 := hide ((unhide HER1).on (unhide C3))
  have HTB3 := hide ((unhide HTB1).on (unhide C3))
  have h41 := hide (fun V (hV : Below w3.heap.size w3 V) => shareI_no e pub op n s a len cap op4 n4 s4 a4 len4 cap4 x V ((unhide HER3).on hV) ((unhide HLE3).below hV) (((unhide HPU).below (unhide C3)).below hV) (by have := unhide HKZ; omega) hsh)
  clear m0 m1 m2 m3 m8 m9 m10 m11 HK0
  have r4 := kpc (unhide C3) m4
  have r5 := kpc (unhide C3) m5
  have r6 := kpc (unhide C3) m6
  have r7 := kpc (unhide C3) m7
  obtain ⟨e0, e1, e2, e3⟩ := (unhide HE3).facts
  have lx := lt_of_cell e0
  have ly := lt_of_cell r4
  have lxn := Nat.ne_of_lt lx
  have lxm := Ne.symm lxn
  have lyn := Nat.ne_of_lt ly
  have lym := Ne.symm lyn
  clear m4 m5 m6 m7
  go_wp2_with fail
  go_cut [8, 7] (fun p q wx => CutS w3 0 0 ByteArray.empty none 0 0 (.iface 202 (.pointer (some x))) p q wx)
  case first =>
    go_region_held3 (fun x => x.cell? ⟨w.heap.size, 0, none⟩ = some (.int .i64 op) ∧ x.cell? ⟨w.heap.size, 1, none⟩ = some (.int .i64 n) ∧ x.cell? ⟨w.heap.size, 2, none⟩ = some (.string s) ∧ x.cell? ⟨w.heap.size, 3, none⟩ = some (.slice a len cap) ∧ x.cell? ⟨gv, 4, none⟩ = some (.int .i64 op4) ∧ x.cell? ⟨gv, 5, none⟩ = some (.int .i64 n4) ∧ x.cell? ⟨gv, 6, none⟩ = some (.string s4) ∧ x.cell? ⟨gv, 7, none⟩ = some (.slice a4 len4 cap4)) (go_keep)
      (first
        | (go_at_call 100
           refine (unhide h41 _ ?_).mono ?_
           first
             | exact (Below.refl _ _).drew
             | exact ((Below.refl _ _).drew).alloc (Nat.le_refl _) _
             | exact (ab _).drew
           rintro e9 w4 ⟨rfl, hb4⟩
           try have zz4 := hide (((ZBox.new w3).drew).below hb4)
           have C4 : Hid (Below w3.heap.size w3 w4) := by
             first
               | exact below_drew' hb4
               | exact bt (ab _) (below_drew' hb4) (Nat.le_refl _)
           have g0 := kpc (unhide C4) e0
           have g1 := kpc (unhide C4) e1
           have g2 := kpc (unhide C4) e2
           have g3 := kpc (unhide C4) e3
           have j4 := kpc (unhide C4) r4
           have j5 := kpc (unhide C4) r5
           have j6 := kpc (unhide C4) r6
           have j7 := kpc (unhide C4) r7
           try obtain ⟨p0, p1, p2, p3, q0, q1, q2, q3⟩ := (unhide zz4).facts
           have lz := lt_of_cell g0
           have lzn := Nat.ne_of_lt lz
           have lzm := Ne.symm lzn))
    all_goals
      go_wp2_with fail
      go_meet
      first
        | (with_reducible refine CutS.late ?_
           exact unhide C4)
        | (with_reducible refine CutS.early ?_ ?_ ?_
           exact unhide C4
           exact unhide zz4
           omega)
  case rest =>
    obtain ⟨bS, rfl, rfl, hge, hRS, hbc⟩ := hcut
    have HRS := hide hRS
    have C5 := hide (bt (unhide C3) hbc (Nat.le_refl _))
    have HCC := hide hbc
    clear hbc hRS e0 e1 e2 e3 r4 r5 r6 r7
    have HB5 := hide (bt (unhide HB1) (unhide C5) (Nat.le_refl _))
    have HR5 := hide ((unhide HR1).below (unhide C5))
    have HE5 := hide ((unhide HE1).below (unhide C5))
    have HLE5 := hide ((unhide HLE1).below (unhide C5))
    have HER5 := hide ((unhide HER1).on (unhide C5))
    have HTB5 := hide ((unhide HTB1).on (unhide C5))
    go_wp2_with (refine wpList_storeR rfl (.tmp 4) (.tmp 38) rfl #[.int .i64 0, .int .i64 0, .string ⟨#[]⟩, .slice none 0 0, .int .i64 0, .int .i64 0, .string ⟨#[]⟩, .slice none 0 0, .int .i64 0, .int .i64 0, .string ⟨#[]⟩, .slice none 0 0, .int .i64 0, .int .i64 0, .string ⟨#[]⟩, .slice none 0 0] (unhide HR5) rfl (by simp [Value.oneCell']) rfl rfl (unhide HB5) (by omega) ?_; intro WX hW hBW; have HW := hide hW; have HBW := hide hBW; clear hW hBW)
    have hLV := (unhide HW).load
    exact bodyPost_ret (v := .tuple #[.agg #[.int .i64 0, .int .i64 0, .string ⟨#[]⟩, .slice none 0 0, .int .i64 0, .int .i64 0, .string ⟨#[]⟩, .slice none 0 0, .int .i64 0, .int .i64 0, .string ⟨#[]⟩, .slice none 0 0, .int .i64 0, .int .i64 0, .string ⟨#[]⟩, .slice none 0 0], .iface 202 (.pointer (some x))]) (results_cell_tmp Tryz.results80 rfl hLV) rfl ⟨rfl, unhide HBW⟩


end Go.Proofs.YtmklgikbajhcpaaGreatDoor
