
/- The walk of impl.readReply where the reply is read. -/
import Derived.Test.YtmklgikbajhcpaaGreatDoorRe
namespace Go.Proofs.YtmklgikbajhcpaaGreatDoor
open Go.RowKit Go.Deep

mutual
theorem Lies.apartN {w w' : World} {L g : Nat} (hz : ∀ o op, w.cell? ⟨g, o, none⟩ = some (.int .i64 op) → op = 0) (hc : ∀ b o, b ≠ g → w'.cell? ⟨b, o, none⟩ = w.cell? ⟨b, o, none⟩) : ∀ (t : Tm) (cs : List Value), okT t = true → Lies w L t cs → Lies w' L t cs
  | .node op n s ks, cs, hok, h => by
    simp only [Lies] at h ⊢
    obtain ⟨a, cap, rfl, h1, h2, h4⟩ := h
    exact ⟨a, cap, rfl, h1, h2, LiesAll.apartN hz hc a 0 ks (fun x hx => okT_kid hok hx) h4⟩
theorem LiesAll.apartN {w w' : World} {L g : Nat} (hz : ∀ o op, w.cell? ⟨g, o, none⟩ = some (.int .i64 op) → op = 0) (hc : ∀ b o, b ≠ g → w'.cell? ⟨b, o, none⟩ = w.cell? ⟨b, o, none⟩) (a : Option Addr) : ∀ (i : Nat) (ks : List Tm), (∀ x ∈ ks, okT x = true) → LiesAll w L a i ks → LiesAll w' L a i ks
  | i, [], _, _ => by simp [LiesAll]
  | i, t :: r, hok, h => by
    simp only [LiesAll] at h ⊢
    obtain ⟨⟨b, o, cs, ha, hb, hr, ht⟩, h2⟩ := h
    have hne : b ≠ g := by
      rintro rfl
      obtain ⟨op, n, s, ks⟩ := t
      have hh := ht
      simp only [Lies] at hh
      obtain ⟨a', cap, rfl, _⟩ := hh
      exact ok_op (hok (.node op n s ks) (by simp)) (hz _ _ (hr 0 _ rfl))
    exact ⟨⟨b, o, cs, ha, hb, fun j v hj => by rw [hc b _ hne]; exact hr j v hj, Lies.apartN hz hc t cs (hok t (by simp)) ht⟩, LiesAll.apartN hz hc a (i + 1) r (fun x hx => hok x (by simp [hx])) h2⟩
end

theorem zero16 {w : World} {g : Nat} (h : w.heap[g]? = some (.cells #[.int .i64 0, .int .i64 0, .string ⟨#[]⟩, .slice none 0 0, .int .i64 0, .int .i64 0, .string ⟨#[]⟩, .slice none 0 0, .int .i64 0, .int .i64 0, .string ⟨#[]⟩, .slice none 0 0, .int .i64 0, .int .i64 0, .string ⟨#[]⟩, .slice none 0 0] 89 (0, 0))) : ∀ o op, w.cell? ⟨g, o, none⟩ = some (.int .i64 op) → op = 0 := fun o op hc => by
  simp only [World.cell?, h] at hc
  match o with
  | 0 => simpa using hc.symm
  | 1 => simpa using hc.symm
  | 2 => simp at hc
  | 3 => simp at hc
  | 4 => simpa using hc.symm
  | 5 => simpa using hc.symm
  | 6 => simp at hc
  | 7 => simp at hc
  | 8 => simpa using hc.symm
  | 9 => simpa using hc.symm
  | 10 => simp at hc
  | 11 => simp at hc
  | 12 => simpa using hc.symm
  | 13 => simpa using hc.symm
  | 14 => simp at hc
  | 15 => simp at hc
  | o + 16 => simp at hc
theorem setCells_heap (w : World) (g b : Nat) (h : b ≠ g) : ∀ (vs : List Value) (o : Nat), (w.setCells g o vs).heap[b]? = w.heap[b]? := by
  intro vs
  induction vs generalizing w with
  | nil => intro o; rfl
  | cons x r ih => intro o; rw [World.setCells, ih, Below.heap_setCell _ _ _ _ h]
theorem Lies.read {w : World} {g : Nat} {t : Tm} {cs : List Value} (h : Lies w 0 t cs) (hz : w.heap[g]? = some (.cells #[.int .i64 0, .int .i64 0, .string ⟨#[]⟩, .slice none 0 0, .int .i64 0, .int .i64 0, .string ⟨#[]⟩, .slice none 0 0, .int .i64 0, .int .i64 0, .string ⟨#[]⟩, .slice none 0 0, .int .i64 0, .int .i64 0, .string ⟨#[]⟩, .slice none 0 0] 89 (0, 0))) (hok : okT t = true) (vs : List Value) : Lies (w.setCells g 0 vs) 0 t cs :=
  Lies.apartN (zero16 hz) (fun b _ hne => World.cell?_of_block (setCells_heap w g b hne vs 0)) t cs hok h
theorem TRw.two {B : Nat} {p q : Tc} {v : Value} {w : World} (h : TRw B [p, q] v w) :
    ∃ g c, v = .slice (some ⟨g, 0, none⟩) 2 c ∧ B ≤ g ∧ w.cell? ⟨g, 0, none⟩ = some (.int .i64 p.op) ∧ w.cell? ⟨g, 1, none⟩ = some (.int .i64 p.n) ∧ w.cell? ⟨g, 2, none⟩ = some (.string p.s) ∧ w.cell? ⟨g, 3, none⟩ = some (.slice p.a p.len p.cap) ∧ w.cell? ⟨g, 4, none⟩ = some (.int .i64 q.op) ∧ w.cell? ⟨g, 5, none⟩ = some (.int .i64 q.n) ∧ w.cell? ⟨g, 6, none⟩ = some (.string q.s) ∧ w.cell? ⟨g, 7, none⟩ = some (.slice q.a q.len q.cap) := by
  obtain ⟨g, c, rfl, h1, _, e0, e1, e2, e3⟩ := TRw.cells h (i := 0) (p := p) rfl
  obtain ⟨g', c', h2, _, _, e4, e5, e6, e7⟩ := TRw.cells h (i := 1) (p := q) rfl
  cases h2
  exact ⟨g, c, rfl, h1, e0, e1, e2, e3, e4, e5, e6, e7⟩
theorem rowO_ok : ∀ (m : Nat) (t : Tm) (l : List Tm), okT t = true → rowO m t = some l → ∀ x ∈ l, okT x = true
  | 0, t, l, hok, h => by simp only [rowO, Option.some.injEq] at h; subst h; intro x hx; simp only [List.mem_singleton] at hx; subst hx; exact hok
  | m + 1, .node op n s ks, l, hok, h => by
    match ks with
    | [] => simp [rowO] at h
    | [_] => simp [rowO] at h
    | _ :: _ :: _ :: _ => simp [rowO] at h
    | [a, b] =>
      simp only [rowO] at h
      split at h
      · obtain ⟨r, h1, h2⟩ := Option.map_eq_some_iff.1 h
        subst h2
        intro x hx
        rcases List.mem_cons.1 hx with rfl | hx
        · exact okT_kid hok (by simp)
        · exact rowO_ok m b r (okT_kid hok (by simp)) h1 x hx
      · cases h
theorem inO_ok {m : Nat} {t : Tm} {l : List Tm} (h : inO m t = some l) : ∀ x ∈ l, okT x = true := by
  unfold inO at h
  split at h
  · rename_i hok
    exact rowO_ok m t l hok h
  · cases h

set_option maxRecDepth 100000 in
set_option maxHeartbeats 1200000 in
theorem read_yes (e t k0 pub sealed body c g : Tm) (op n : Int) (s : ByteArray) (a : Option Addr) (len cap : Nat) (op2 n2 : Int) (s2 : ByteArray) (a2 : Option Addr) (len2 cap2 : Nat) (x : Addr) (w : World) (he : ErrAt x w) (htab : Tab w) (hl : Lies w 0 e (tmCells op n s a len cap)) (hl2 : Lies w 0 t (tmCells op2 n2 s2 a2 len2 cap2)) (hst : e.size + t.size ≤ 1100000) (hn : inO 2 t = some [k0, pub, sealed]) (hs : sameB k0 (textT replyW) = true) (hsh : shrB e pub = true) (hop : openO (keyT (shrT e pub) 0) 0 sealed = some body) (hin : inO 1 body = some [c, g]) : Calls Tryz.prog 80 #[.agg #[.int .i64 op, .int .i64 n, .string s, .slice a len cap], .agg #[.int .i64 op2, .int .i64 n2, .string s2, .slice a2 len2 cap2]] w fun q w' => ∃ op4 n4 s4 a4 len4 cap4 op6 n6 s6 a6 len6 cap6 op9 n9 s9 a9 len9 cap9 op10 n10 s10 a10 len10 cap10, q = .returned (.tuple #[.agg #[.int .i64 op4, .int .i64 n4, .string s4, .slice a4 len4 cap4, .int .i64 op6, .int .i64 n6, .string s6, .slice a6 len6 cap6, .int .i64 op9, .int .i64 n9, .string s9, .slice a9 len9 cap9, .int .i64 op10, .int .i64 n10, .string s10, .slice a10 len10 cap10], .nilIface]) ∧ Lies w' 0 pub (tmCells op4 n4 s4 a4 len4 cap4) ∧ Lies w' 0 (shrT e pub) (tmCells op6 n6 s6 a6 len6 cap6) ∧ Lies w' 0 c (tmCells op9 n9 s9 a9 len9 cap9) ∧ Lies w' 0 g (tmCells op10 n10 s10 a10 len10 cap10) ∧ Below w.heap.size w w' := by
  have HOP : Hid (okT pub = true) := inO_ok hn pub (by simp)
  have HOC : Hid (okT c = true) := inO_ok hin c (by simp)
  have HOG : Hid (okT g = true) := inO_ok hin g (by simp)
  have hb0 : Below w.heap.size w (((w.alloc (.cells #[.int .i64 op, .int .i64 n, .string s, .slice a len cap] 29)).alloc (.cells #[.int .i64 op2, .int .i64 n2, .string s2, .slice a2 len2 cap2] 29)).alloc (.cells #[.int .i64 0, .int .i64 0, .string ⟨#[]⟩, .slice none 0 0, .int .i64 0, .int .i64 0, .string ⟨#[]⟩, .slice none 0 0, .int .i64 0, .int .i64 0, .string ⟨#[]⟩, .slice none 0 0, .int .i64 0, .int .i64 0, .string ⟨#[]⟩, .slice none 0 0] 89)) := bt (bt (ab _) (ab _) (Nat.le_refl _)) (ab _) (Nat.le_refl _)
  have hI := hide (inRow 2 (by omega) t op2 n2 s2 a2 len2 cap2 x _ (he.on hb0) (hl2.below hb0) (by omega))
  have HB0 := hide hb0
  have HR0 : Hid (RowVR (((w.alloc (.cells #[.int .i64 op, .int .i64 n, .string s, .slice a len cap] 29)).alloc (.cells #[.int .i64 op2, .int .i64 n2, .string s2, .slice a2 len2 cap2] 29)).alloc (.cells #[.int .i64 0, .int .i64 0, .string ⟨#[]⟩, .slice none 0 0, .int .i64 0, .int .i64 0, .string ⟨#[]⟩, .slice none 0 0, .int .i64 0, .int .i64 0, .string ⟨#[]⟩, .slice none 0 0, .int .i64 0, .int .i64 0, .string ⟨#[]⟩, .slice none 0 0] 89)) (w.heap.size + 1 + 1) #[.int .i64 0, .int .i64 0, .string ⟨#[]⟩, .slice none 0 0, .int .i64 0, .int .i64 0, .string ⟨#[]⟩, .slice none 0 0, .int .i64 0, .int .i64 0, .string ⟨#[]⟩, .slice none 0 0, .int .i64 0, .int .i64 0, .string ⟨#[]⟩, .slice none 0 0]) := by have := RowVR.new ((w.alloc (.cells #[.int .i64 op, .int .i64 n, .string s, .slice a len cap] 29)).alloc (.cells #[.int .i64 op2, .int .i64 n2, .string s2, .slice a2 len2 cap2] 29)) #[.int .i64 0, .int .i64 0, .string ⟨#[]⟩, .slice none 0 0, .int .i64 0, .int .i64 0, .string ⟨#[]⟩, .slice none 0 0, .int .i64 0, .int .i64 0, .string ⟨#[]⟩, .slice none 0 0, .int .i64 0, .int .i64 0, .string ⟨#[]⟩, .slice none 0 0] rfl; rwa [heap_size_alloc, heap_size_alloc] at this
  have HZ0 : Hid ((((w.alloc (.cells #[.int .i64 op, .int .i64 n, .string s, .slice a len cap] 29)).alloc (.cells #[.int .i64 op2, .int .i64 n2, .string s2, .slice a2 len2 cap2] 29)).alloc (.cells #[.int .i64 0, .int .i64 0, .string ⟨#[]⟩, .slice none 0 0, .int .i64 0, .int .i64 0, .string ⟨#[]⟩, .slice none 0 0, .int .i64 0, .int .i64 0, .string ⟨#[]⟩, .slice none 0 0, .int .i64 0, .int .i64 0, .string ⟨#[]⟩, .slice none 0 0] 89)).heap[w.heap.size + 1 + 1]? = some (.cells #[.int .i64 0, .int .i64 0, .string ⟨#[]⟩, .slice none 0 0, .int .i64 0, .int .i64 0, .string ⟨#[]⟩, .slice none 0 0, .int .i64 0, .int .i64 0, .string ⟨#[]⟩, .slice none 0 0, .int .i64 0, .int .i64 0, .string ⟨#[]⟩, .slice none 0 0] 89 (0, 0))) := by have := heap_alloc_new ((w.alloc (.cells #[.int .i64 op, .int .i64 n, .string s, .slice a len cap] 29)).alloc (.cells #[.int .i64 op2, .int .i64 n2, .string s2, .slice a2 len2 cap2] 29)) (.cells #[.int .i64 0, .int .i64 0, .string ⟨#[]⟩, .slice none 0 0, .int .i64 0, .int .i64 0, .string ⟨#[]⟩, .slice none 0 0, .int .i64 0, .int .i64 0, .string ⟨#[]⟩, .slice none 0 0, .int .i64 0, .int .i64 0, .string ⟨#[]⟩, .slice none 0 0] 89); rwa [heap_size_alloc, heap_size_alloc] at this
  have HE0 : Hid (RowT 29 (((w.alloc (.cells #[.int .i64 op, .int .i64 n, .string s, .slice a len cap] 29)).alloc (.cells #[.int .i64 op2, .int .i64 n2, .string s2, .slice a2 len2 cap2] 29)).alloc (.cells #[.int .i64 0, .int .i64 0, .string ⟨#[]⟩, .slice none 0 0, .int .i64 0, .int .i64 0, .string ⟨#[]⟩, .slice none 0 0, .int .i64 0, .int .i64 0, .string ⟨#[]⟩, .slice none 0 0, .int .i64 0, .int .i64 0, .string ⟨#[]⟩, .slice none 0 0] 89)) w.heap.size op n s a len cap) := ((RowT.new 29 w op n s a len cap).below (ab _)).below (ab _)
  have HLE := hide (hl.below hb0)
  have HER := hide (he.on hb0)
  have HTB := hide (htab.on hb0)
  have HN := hide hn
  have HKZ : Hid (k0.size + pub.size + sealed.size ≤ t.size) := inO_size hn
  clear he hl hl2 hb0 hn htab
  go_enter Tryz.func80, Tryz.ntmps80
  go_wp2_with fail
  generalize hgw : (((w.alloc (.cells #[.int .i64 op, .int .i64 n, .string s, .slice a len cap] 29)).alloc (.cells #[.int .i64 op2, .int .i64 n2, .string s2, .slice a2 len2 cap2] 29)).alloc (.cells #[.int .i64 0, .int .i64 0, .string ⟨#[]⟩, .slice none 0 0, .int .i64 0, .int .i64 0, .string ⟨#[]⟩, .slice none 0 0, .int .i64 0, .int .i64 0, .string ⟨#[]⟩, .slice none 0 0, .int .i64 0, .int .i64 0, .string ⟨#[]⟩, .slice none 0 0] 89)) = W at *
  clear hgw
  refine (unhide hI).mono ?_
  rintro q w1 ⟨hb1, h1⟩
  rcases h1 with ⟨h2, -⟩ | ⟨L, v, h2, rfl, hT, hL⟩
  · rw [unhide HN] at h2
    cases h2
  rw [unhide HN] at h2
  obtain ⟨⟨_, c0⟩, ⟨_, c1⟩, ⟨_, c2⟩, rfl⟩ := three_of (L := L) (by have := congrArg List.length (Option.some.inj h2); simpa using this.symm)
  simp only [List.map_cons, List.map_nil, Option.some.injEq, List.cons.injEq, and_true] at h2
  obtain ⟨rfl, rfl, rfl⟩ := h2
  obtain ⟨op3, n3, s3, a3, len3, cap3⟩ := c0
  obtain ⟨op4, n4, s4, a4, len4, cap4⟩ := c1
  obtain ⟨op5, n5, s5, a5, len5, cap5⟩ := c2
  have HK0 := hide ((hL (k0, ⟨op3, n3, s3, a3, len3, cap3⟩) (by simp)).below hb1)
  have HPU := hide ((hL (pub, ⟨op4, n4, s4, a4, len4, cap4⟩) (by simp)).below hb1)
  have HSE := hide ((hL (sealed, ⟨op5, n5, s5, a5, len5, cap5⟩) (by simp)).below hb1)
  simp only [Tc.cells] at HK0 HPU HSE
  have HB1 := hide (bt (unhide HB0) hb1 (Nat.le_refl _))
  have HR1 := hide ((unhide HR0).below hb1)
  have HE1 := hide ((unhide HE0).below hb1)
  have HLE1 := hide ((unhide HLE).below hb1)
  have HER1 := hide ((unhide HER).on hb1)
  have HTB1 := hide ((unhide HTB).on hb1)
  have HT1 := hide hT
  have HZ1 := hide ((hb1.block _ (lt_of_heap (unhide HZ0))).trans (unhide HZ0))
  obtain ⟨gv, cv, rfl, hgv, m0, m1, m2, m3, m4, m5, m6, m7, m8, m9, m10, m11⟩ := TRw.three hT
  simp only [List.map_cons, List.map_nil] at HT1
  clear hb1 hT hL hI HB0 HR0 HE0 HLE HER HTB
  have h47 := hide (wordI (⟨#[114, 101, 112, 108, 121]⟩ : ByteArray))
  have h53 := hide (fun V (hV : Below w1.heap.size w1 V) => same15 k0 (textT replyW) op3 n3 s3 a3 len3 cap3 2 0 (⟨#[114, 101, 112, 108, 121]⟩ : ByteArray) none 0 0 V ((unhide HK0).below hV) (text_lies replyW (by decide) V) (by have := unhide HKZ; omega))
  rw [hs] at h53
  go_wp2_with fail
  go_region_held3 (fun x => x.cell? ⟨gv, 0, none⟩ = some (.int .i64 op3) ∧ x.cell? ⟨gv, 1, none⟩ = some (.int .i64 n3) ∧ x.cell? ⟨gv, 2, none⟩ = some (.string s3) ∧ x.cell? ⟨gv, 3, none⟩ = some (.slice a3 len3 cap3)) (go_keep)
    (first
      | (go_at_call 92
         refine (unhide h47 _).mono ?_
         rintro e w2 ⟨rfl, hb2⟩
         have C2 := hide (below_drew' hb2)
         have f0 := kpc (unhide C2) m0
         have f1 := kpc (unhide C2) m1
         have f2 := kpc (unhide C2) m2
         have f3 := kpc (unhide C2) m3
         clear hb2)
      | (go_at_call 21
         refine (unhide h53 _ (unhide C2)).mono ?_
         rintro e w3 ⟨rfl, hb3⟩
         have C3 := hide (bt (unhide C2) hb3 (Nat.le_refl _))
         have i0 := kpc hb3 f0
         have i1 := kpc hb3 f1
         have i2 := kpc hb3 f2
         have i3 := kpc hb3 f3
         clear hb3))
  clear f0 f1 f2 f3 i0 i1 i2 i3 h47 h53
  have HB3 := hide (bt (unhide HB1) (unhide C3) (Nat.le_refl _))
  have HR3 := hide ((unhide HR1).below (unhide C3))
  have HE3 := hide ((unhide HE1).below (unhide C3))
  have HLE3 := hide ((unhide HLE1).below (unhide C3))
  have HER3 := hide ((unhide HER1).on (unhide C3))
  have HTB3 := hide ((unhide HTB1).on (unhide C3))
  have h41 := hide (fun V (hV : Below w3.heap.size w3 V) => shareI_yes e pub op n s a len cap op4 n4 s4 a4 len4 cap4 x V ((unhide HER3).on hV) ((unhide HLE3).below hV) (((unhide HPU).below (unhide C3)).below hV) (by have := unhide HKZ; omega) hsh)
  have HOKS := hide (shr_ok hsh)
  clear m0 m1 m2 m3 HK0
  have r4 := kpc (unhide C3) m4
  have r5 := kpc (unhide C3) m5
  have r6 := kpc (unhide C3) m6
  have r7 := kpc (unhide C3) m7
  obtain ⟨e0, e1, e2, e3⟩ := (unhide HE3).facts
  have lx := lt_of_cell e0
  have ly := lt_of_cell r4
  have lxn := Nat.ne_of_lt lx
  have lxm := Ne.symm lxn
  have lyn := Nat.ne_of_lt ly
  have lym := Ne.symm lyn
  have M4 := hide m4
  have M5 := hide m5
  have M6 := hide m6
  have M7 := hide m7
  have M8 := hide m8
  have M9 := hide m9
  have M10 := hide m10
  have M11 := hide m11
  clear m4 m5 m6 m7 m8 m9 m10 m11
  go_wp2_with fail
  go_cut [8, 7] (fun p q wx => CutY (shrT e pub) w3 .nilIface p q wx)
  case first =>
    go_region_held3 (fun x => x.cell? ⟨w.heap.size, 0, none⟩ = some (.int .i64 op) ∧ x.cell? ⟨w.heap.size, 1, none⟩ = some (.int .i64 n) ∧ x.cell? ⟨w.heap.size, 2, none⟩ = some (.string s) ∧ x.cell? ⟨w.heap.size, 3, none⟩ = some (.slice a len cap) ∧ x.cell? ⟨gv, 4, none⟩ = some (.int .i64 op4) ∧ x.cell? ⟨gv, 5, none⟩ = some (.int .i64 n4) ∧ x.cell? ⟨gv, 6, none⟩ = some (.string s4) ∧ x.cell? ⟨gv, 7, none⟩ = some (.slice a4 len4 cap4)) (go_keep)
      (first
        | (go_at_call 100
           refine (unhide h41 _ ?_).mono ?_
           first
             | exact (Below.refl _ _).drew
             | exact (ab _).drew
           rintro e9 w4 ⟨aS, rfl, hlS, hb4⟩
           try have zz4 := hide (((ZBox.new w3).drew).below hb4)
           have HLS := hide hlS
           have C4 : Hid (Below w3.heap.size w3 w4) := by
             first
               | exact below_drew' hb4
               | exact bt (ab _) (below_drew' hb4) (Nat.le_refl _)
           have g0 := kpc (unhide C4) e0
           have g1 := kpc (unhide C4) e1
           have g2 := kpc (unhide C4) e2
           have g3 := kpc (unhide C4) e3
           have j4 := kpc (unhide C4) r4
           have j5 := kpc (unhide C4) r5
           have j6 := kpc (unhide C4) r6
           have j7 := kpc (unhide C4) r7
           try obtain ⟨p0, p1, p2, p3, q0, q1, q2, q3⟩ := (unhide zz4).facts
           clear hlS
           have lz := lt_of_cell g0
           have lzn := Nat.ne_of_lt lz
           have lzm := Ne.symm lzn))
    all_goals
      go_wp2_with fail
      go_meet
      first
        | (with_reducible refine CutY.late ?_ ?_
           exact unhide C4
           exact unhide HLS)
        | (with_reducible refine CutY.early ?_ ?_ ?_ ?_ ?_
           exact unhide C4
           exact unhide zz4
           omega
           exact unhide HOKS
           exact unhide HLS)
  case rest =>
    obtain ⟨bS, op6, n6, s6, a6, len6, cap6, rfl, rfl, hge, hRS, hlS, hbc⟩ := hcut
    have HRS := hide hRS
    have HLS := hide hlS
    have C5 := hide (bt (unhide C3) hbc (Nat.le_refl _))
    clear hbc hRS hlS e0 e1 e2 e3 r4 r5 r6 r7 h41
    have HB5 := hide (bt (unhide HB1) (unhide C5) (Nat.le_refl _))
    have HR5 := hide ((unhide HR1).below (unhide C5))
    have HE5 := hide ((unhide HE1).below (unhide C5))
    have HLE5 := hide ((unhide HLE1).below (unhide C5))
    have HER5 := hide ((unhide HER1).on (unhide C5))
    have HTB5 := hide ((unhide HTB1).on (unhide C5))
    have HSE5 := hide ((unhide HSE).below (unhide C5))
    have HPU5 := hide ((unhide HPU).below (unhide C5))
    have b0 := kpc (unhide C5) (unhide M8)
    have b1 := kpc (unhide C5) (unhide M9)
    have b2 := kpc (unhide C5) (unhide M10)
    have b3 := kpc (unhide C5) (unhide M11)
    obtain ⟨e0, e1, e2, e3⟩ := (unhide HRS).facts
    have h49 := hide (fun V (hV : Below wc.heap.size wc V) => keyI (shrT e pub) 0 op6 n6 s6 a6 len6 cap6 V ((unhide HLS).below hV) (by have := okT_small (unhide HOKS); omega) (by decide) (by decide) ((unhide HTB5).on hV) ⟨x, (unhide HER5).on hV⟩)
    have h54 := hide (fun op7 n7 s7 a7 len7 cap7 V (hV : Below wc.heap.size wc V) hk => body_some (keyT (shrT e pub) 0) sealed 0 op7 n7 s7 a7 len7 cap7 op5 n5 s5 a5 len5 cap5 x V ((unhide HER5).on hV) ((unhide HTB5).on hV) hk ((unhide HSE5).below hV) (by have := unhide HKZ; omega) (by decide) (by decide) body hop)
    have HOKB := hide (openO_ok hop)
    have lx5 := lt_of_cell e0
    have ly5 := lt_of_cell b0
    have lxn5 := Nat.ne_of_lt lx5
    have lxm5 := Ne.symm lxn5
    have lyn5 := Nat.ne_of_lt ly5
    have lym5 := Ne.symm lyn5
    clear lx ly lxn lxm lyn lym
    go_wp2_with fail
    go_cut [9, 7] (fun p q wx => CutY body wc .nilIface p q wx)
    case first =>
      go_region_held3 (fun x => x.cell? ⟨bS, 0, none⟩ = some (.int .i64 op6) ∧ x.cell? ⟨bS, 1, none⟩ = some (.int .i64 n6) ∧ x.cell? ⟨bS, 2, none⟩ = some (.string s6) ∧ x.cell? ⟨bS, 3, none⟩ = some (.slice a6 len6 cap6) ∧ x.cell? ⟨gv, 8, none⟩ = some (.int .i64 op5) ∧ x.cell? ⟨gv, 9, none⟩ = some (.int .i64 n5) ∧ x.cell? ⟨gv, 10, none⟩ = some (.string s5) ∧ x.cell? ⟨gv, 11, none⟩ = some (.slice a5 len5 cap5)) (go_keep)
        (first
          | (go_at_call 94
             refine (unhide h49 _ ?_).mono ?_
             first
               | exact (Below.refl _ _).drew
               | exact (ab _).drew
             rintro e9 w6 ⟨op7, n7, s7, a7, len7, cap7, fp7, rfl, hO7, -, hb6⟩
             try have zz6 := hide (((ZBox.new wc).drew).below hb6)
             have HLK := hide hO7.lies0
             have C6 : Hid (Below wc.heap.size wc w6) := by
               first
                 | exact below_drew' hb6
                 | exact bt (ab _) (below_drew' hb6) (Nat.le_refl _)
             have g0 := kpc (unhide C6) e0
             have g1 := kpc (unhide C6) e1
             have g2 := kpc (unhide C6) e2
             have g3 := kpc (unhide C6) e3
             have j0 := kpc (unhide C6) b0
             have j1 := kpc (unhide C6) b1
             have j2 := kpc (unhide C6) b2
             have j3 := kpc (unhide C6) b3
             clear hO7
             have lz := lt_of_cell g0
             have lzn := Nat.ne_of_lt lz
             have lzm := Ne.symm lzn
             have ls := lt_of_cell j0
             have lsn := Nat.ne_of_lt ls
             have lsm := Ne.symm lsn)
          | (go_at_call 128
             refine (unhide h54 _ _ _ _ _ _ _ ?_ ?_).mono ?_
             first
               | exact unhide C6
               | exact bt (unhide C6) (ab _) (Nat.le_refl _)
             first
               | exact unhide HLK
               | exact (unhide HLK).below (ab _)
             rintro e9 w7 ⟨op8, n8, s8, a8, len8, cap8, rfl, hlB, hb7⟩
             have HLB := hide hlB
             clear hlB
             try have zz7 := hide ((unhide zz6).below hb7)
             try have zz7 := hide ((ZBox.new w6).below hb7)
             have C7 : Hid (Below w6.heap.size w6 w7) := by
               first
                 | exact hb7
                 | exact bt (ab _) hb7 (Nat.le_refl _)
             have h0 := kpc (unhide C7) g0
             have h1 := kpc (unhide C7) g1
             have h2 := kpc (unhide C7) g2
             have h3 := kpc (unhide C7) g3
             have i0 := kpc (unhide C7) j0
             have i1 := kpc (unhide C7) j1
             have i2 := kpc (unhide C7) j2
             have i3 := kpc (unhide C7) j3
             try obtain ⟨p0, p1, p2, p3, q0, q1, q2, q3⟩ := (unhide zz7).facts
             have lt7 := lt_of_cell h0
             have ltn := Nat.ne_of_lt lt7
             have ltm := Ne.symm ltn))
      all_goals
        go_wp2_with fail
        go_meet
        have s56 := (unhide C6).size
        first
          | (with_reducible refine CutY.late ?_ ?_
             exact bt (unhide C6) (unhide C7) (Nat.le_refl _)
             exact unhide HLB)
          | (with_reducible refine CutY.early ?_ ?_ ?_ ?_ ?_
             exact bt (unhide C6) (unhide C7) (Nat.le_refl _)
             exact unhide zz7
             omega
             exact unhide HOKB
             exact unhide HLB)
    case rest =>
      obtain ⟨bB, op8, n8, s8, a8, len8, cap8, rfl, rfl, hge2, hRB, hlB, hbc⟩ := hcut
      have C8 := hide (bt (unhide C5) hbc (Nat.le_refl _))
      have hI2 := hide (inRow 1 (by omega) body op8 n8 s8 a8 len8 cap8 x _ ((unhide HER5).on hbc) hlB (by have := okT_small (unhide HOKB); omega))
      have HRS8 := hide ((unhide HRS).below hbc)
      have HLS8 := hide ((unhide HLS).below hbc)
      have HPU8 := hide ((unhide HPU5).below hbc)
      have HB8 := hide (bt (unhide HB5) hbc (Nat.le_refl _))
      have HR8 := hide ((unhide HR5).below hbc)
      clear e0 e1 e2 e3 b0 b1 b2 b3
      obtain ⟨e0, e1, e2, e3⟩ := hRB.facts
      clear hbc hRB hlB
      go_wp2_with fail
      refine (unhide hI2).mono ?_
      rintro q w9 ⟨hb9, h9⟩
      rcases h9 with ⟨h2, -⟩ | ⟨L, v, h2, rfl, hT, hL⟩
      · rw [hin] at h2
        cases h2
      rw [hin] at h2
      obtain ⟨⟨_, c9⟩, ⟨_, c10⟩, rfl⟩ := two_ofL (L := L) (by have := congrArg List.length (Option.some.inj h2); simpa using this.symm)
      simp only [List.map_cons, List.map_nil, Option.some.injEq, List.cons.injEq, and_true] at h2
      obtain ⟨rfl, rfl⟩ := h2
      obtain ⟨op9, n9, s9, a9, len9, cap9⟩ := c9
      obtain ⟨op10, n10, s10, a10, len10, cap10⟩ := c10
      have HLC := hide ((hL (c, ⟨op9, n9, s9, a9, len9, cap9⟩) (by simp)).below hb9)
      have HLG := hide ((hL (g, ⟨op10, n10, s10, a10, len10, cap10⟩) (by simp)).below hb9)
      simp only [Tc.cells] at HLC HLG
      have C9 := hide (bt (unhide C8) hb9 (Nat.le_refl _))
      have HB9 := hide (bt (unhide HB8) hb9 (Nat.le_refl _))
      have HR9 := hide ((unhide HR8).below hb9)
      have HLP9 := hide ((unhide HPU8).below hb9)
      have HLS9 := hide ((unhide HLS8).below hb9)
      have HZ9 := hide (((unhide C9).block _ (lt_of_heap (unhide HZ1))).trans (unhide HZ1))
      obtain ⟨gp, cp, rfl, hgp, k0', k1, k2, k3, k4, k5, k6, k7⟩ := TRw.two hT
      clear e0 e1 e2 e3
      obtain ⟨e0, e1, e2, e3⟩ := ((unhide HRS8).below hb9).facts
      have r4 := kpc (unhide C9) (unhide M4)
      have r5 := kpc (unhide C9) (unhide M5)
      have r6 := kpc (unhide C9) (unhide M6)
      have r7 := kpc (unhide C9) (unhide M7)
      have z0 : w9.cell? ⟨w.heap.size + 1 + 1, 0, none⟩ = some (.int .i64 0) := by simpa using (unhide HR9).cells 0 _ rfl
      have z1 : w9.cell? ⟨w.heap.size + 1 + 1, 1, none⟩ = some (.int .i64 0) := by simpa using (unhide HR9).cells 1 _ rfl
      have z2 : w9.cell? ⟨w.heap.size + 1 + 1, 2, none⟩ = some (.string ⟨#[]⟩) := by simpa using (unhide HR9).cells 2 _ rfl
      have z3 : w9.cell? ⟨w.heap.size + 1 + 1, 3, none⟩ = some (.slice none 0 0) := by simpa using (unhide HR9).cells 3 _ rfl
      have z4 : w9.cell? ⟨w.heap.size + 1 + 1, 4, none⟩ = some (.int .i64 0) := by simpa using (unhide HR9).cells 4 _ rfl
      have z5 : w9.cell? ⟨w.heap.size + 1 + 1, 5, none⟩ = some (.int .i64 0) := by simpa using (unhide HR9).cells 5 _ rfl
      have z6 : w9.cell? ⟨w.heap.size + 1 + 1, 6, none⟩ = some (.string ⟨#[]⟩) := by simpa using (unhide HR9).cells 6 _ rfl
      have z7 : w9.cell? ⟨w.heap.size + 1 + 1, 7, none⟩ = some (.slice none 0 0) := by simpa using (unhide HR9).cells 7 _ rfl
      have z8 : w9.cell? ⟨w.heap.size + 1 + 1, 8, none⟩ = some (.int .i64 0) := by simpa using (unhide HR9).cells 8 _ rfl
      have z9 : w9.cell? ⟨w.heap.size + 1 + 1, 9, none⟩ = some (.int .i64 0) := by simpa using (unhide HR9).cells 9 _ rfl
      have z10 : w9.cell? ⟨w.heap.size + 1 + 1, 10, none⟩ = some (.string ⟨#[]⟩) := by simpa using (unhide HR9).cells 10 _ rfl
      have z11 : w9.cell? ⟨w.heap.size + 1 + 1, 11, none⟩ = some (.slice none 0 0) := by simpa using (unhide HR9).cells 11 _ rfl
      have z12 : w9.cell? ⟨w.heap.size + 1 + 1, 12, none⟩ = some (.int .i64 0) := by simpa using (unhide HR9).cells 12 _ rfl
      have z13 : w9.cell? ⟨w.heap.size + 1 + 1, 13, none⟩ = some (.int .i64 0) := by simpa using (unhide HR9).cells 13 _ rfl
      have z14 : w9.cell? ⟨w.heap.size + 1 + 1, 14, none⟩ = some (.string ⟨#[]⟩) := by simpa using (unhide HR9).cells 14 _ rfl
      have z15 : w9.cell? ⟨w.heap.size + 1 + 1, 15, none⟩ = some (.slice none 0 0) := by simpa using (unhide HR9).cells 15 _ rfl
      have y0 : w9.frozen? ⟨w.heap.size + 1 + 1, 0, none⟩ = false := by simpa using ((unhide HR9).there 0 (by omega)).2
      have y1 : w9.frozen? ⟨w.heap.size + 1 + 1, 1, none⟩ = false := by simpa using ((unhide HR9).there 1 (by omega)).2
      have y2 : w9.frozen? ⟨w.heap.size + 1 + 1, 2, none⟩ = false := by simpa using ((unhide HR9).there 2 (by omega)).2
      have y3 : w9.frozen? ⟨w.heap.size + 1 + 1, 3, none⟩ = false := by simpa using ((unhide HR9).there 3 (by omega)).2
      have y4 : w9.frozen? ⟨w.heap.size + 1 + 1, 4, none⟩ = false := by simpa using ((unhide HR9).there 4 (by omega)).2
      have y5 : w9.frozen? ⟨w.heap.size + 1 + 1, 5, none⟩ = false := by simpa using ((unhide HR9).there 5 (by omega)).2
      have y6 : w9.frozen? ⟨w.heap.size + 1 + 1, 6, none⟩ = false := by simpa using ((unhide HR9).there 6 (by omega)).2
      have y7 : w9.frozen? ⟨w.heap.size + 1 + 1, 7, none⟩ = false := by simpa using ((unhide HR9).there 7 (by omega)).2
      have y8 : w9.frozen? ⟨w.heap.size + 1 + 1, 8, none⟩ = false := by simpa using ((unhide HR9).there 8 (by omega)).2
      have y9 : w9.frozen? ⟨w.heap.size + 1 + 1, 9, none⟩ = false := by simpa using ((unhide HR9).there 9 (by omega)).2
      have y10 : w9.frozen? ⟨w.heap.size + 1 + 1, 10, none⟩ = false := by simpa using ((unhide HR9).there 10 (by omega)).2
      have y11 : w9.frozen? ⟨w.heap.size + 1 + 1, 11, none⟩ = false := by simpa using ((unhide HR9).there 11 (by omega)).2
      have y12 : w9.frozen? ⟨w.heap.size + 1 + 1, 12, none⟩ = false := by simpa using ((unhide HR9).there 12 (by omega)).2
      have y13 : w9.frozen? ⟨w.heap.size + 1 + 1, 13, none⟩ = false := by simpa using ((unhide HR9).there 13 (by omega)).2
      have y14 : w9.frozen? ⟨w.heap.size + 1 + 1, 14, none⟩ = false := by simpa using ((unhide HR9).there 14 (by omega)).2
      have y15 : w9.frozen? ⟨w.heap.size + 1 + 1, 15, none⟩ = false := by simpa using ((unhide HR9).there 15 (by omega)).2
      clear hb9 hT hL hI2
      go_wp2_with fail
      go_region
      all_goals
        go_wp2_with fail
        refine bodyPost_ret (v := .tuple #[.agg #[.int .i64 op4, .int .i64 n4, .string s4, .slice a4 len4 cap4, .int .i64 op6, .int .i64 n6, .string s6, .slice a6 len6 cap6, .int .i64 op9, .int .i64 n9, .string s9, .slice a9 len9 cap9, .int .i64 op10, .int .i64 n10, .string s10, .slice a10 len10 cap10], .nilIface]) (results_cell_tmp Tryz.results80 rfl (RowVR.load (C := #[.int .i64 op4, .int .i64 n4, .string s4, .slice a4 len4 cap4, .int .i64 op6, .int .i64 n6, .string s6, .slice a6 len6 cap6, .int .i64 op9, .int .i64 n9, .string s9, .slice a9 len9 cap9, .int .i64 op10, .int .i64 n10, .string s10, .slice a10 len10 cap10]) ?_)) rfl ⟨_, _, _, _, _, _, _, _, _, _, _, _, _, _, _, _, _, _, _, _, _, _, _, _, rfl, ?_, ?_, ?_, ?_, ?_⟩
        · rw [set16]
          first
            | exact ((unhide HR9).store #[.int .i64 op4, .int .i64 n4, .string s4, .slice a4 len4 cap4, .int .i64 op6, .int .i64 n6, .string s6, .slice a6 len6 cap6, .int .i64 op9, .int .i64 n9, .string s9, .slice a9 len9 cap9, .int .i64 op10, .int .i64 n10, .string s10, .slice a10 len10 cap10] rfl).drew
            | exact (unhide HR9).store #[.int .i64 op4, .int .i64 n4, .string s4, .slice a4 len4 cap4, .int .i64 op6, .int .i64 n6, .string s6, .slice a6 len6 cap6, .int .i64 op9, .int .i64 n9, .string s9, .slice a9 len9 cap9, .int .i64 op10, .int .i64 n10, .string s10, .slice a10 len10 cap10] rfl
        · rw [set16]
          exact ((unhide HLP9).read (unhide HZ9) (unhide HOP) _).below (Below.refl _ _).drew
        · rw [set16]
          exact ((unhide HLS9).read (unhide HZ9) (unhide HOKS) _).below (Below.refl _ _).drew
        · rw [set16]
          exact ((unhide HLC).read (unhide HZ9) (unhide HOC) _).below (Below.refl _ _).drew
        · rw [set16]
          exact ((unhide HLG).read (unhide HZ9) (unhide HOG) _).below (Below.refl _ _).drew
        · rw [set16]
          first
            | exact (below_setCells (unhide HB9) (by omega) _ 0).drew
            | exact below_setCells (unhide HB9) (by omega) _ 0


end Go.Proofs.YtmklgikbajhcpaaGreatDoor
