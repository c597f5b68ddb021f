/- The draw of what Proved reads. -/
import Derived.Test.YtmklgikbajhcpaaGreatDoorDrc
import Derived.Test.YtmklgikbajhcpaaGreatDoorPw
namespace Go.Proofs.YtmklgikbajhcpaaGreatDoor
open Go.RowKit Go.Deep

theorem certOf_spec (X : Tm) (op n : Int) (s : ByteArray) (a : Option Addr) (len cap : Nat) (V : World) (hl : Lies V 0 X (tmCells op n s a len cap)) (hz : X.size ≤ 2097152) :
    Calls Tryz.prog 48 #[.agg #[.int .i64 op, .int .i64 n, .string s, .slice a len cap]] V fun e w' => ∃ HD op2 n2 s2 a2 len2 cap2 VD O, e = .returned (.tuple #[.agg #[.string HD, .int .i64 op2, .int .i64 n2, .string s2, .slice a2 len2 cap2, .int .i64 VD], .bool O]) ∧ Below V.heap.size V w' := by
  by_cases hc : ∃ h p v, CP X h p v
  · obtain ⟨h, p, v, c⟩ := hc
    refine (six_yes c op n s a len cap V hl hz V (Below.refl _ _)).mono ?_
    rintro e w' ⟨hb, o1, n1, s1, a1, l1, p1, he', hL⟩
    exact ⟨h, o1, n1, s1, a1, l1, p1, v, true, he', hb⟩
  · refine (six_no hc op n s a len cap V hl hz V (Below.refl _ _)).mono ?_
    rintro e w' ⟨hb, he'⟩
    exact ⟨_, 0, 0, ByteArray.empty, none, 0, 0, _, false, he', hb⟩
/-- A term that is right, or none. -/
def OkZ (t : Tm) : Prop := okT t = true ∨ t = .node 0 0 ByteArray.empty []
theorem OkZ.size {t : Tm} (h : OkZ t) : t.size ≤ 200 := by
  rcases h with h | rfl
  · exact okT_200 h
  · decide
mutual
theorem Lies.apartC {w w' : World} {L g : Nat} (hn : ∀ o s, w.cell? ⟨g, o, none⟩ ≠ some (.string s)) (hc : ∀ b o, b ≠ g → b < w.heap.size → w'.cell? ⟨b, o, none⟩ = w.cell? ⟨b, o, none⟩) : ∀ (t : Tm) (cs : List Value), Lies w L t cs → Lies w' L t cs
  | .node op n s ks, cs, h => by
    simp only [Lies] at h ⊢
    obtain ⟨a, cap, rfl, h1, h2, h4⟩ := h
    exact ⟨a, cap, rfl, h1, h2, LiesAll.apartC hn hc a 0 ks h4⟩
theorem LiesAll.apartC {w w' : World} {L g : Nat} (hn : ∀ o s, w.cell? ⟨g, o, none⟩ ≠ some (.string s)) (hc : ∀ b o, b ≠ g → b < w.heap.size → w'.cell? ⟨b, o, none⟩ = w.cell? ⟨b, o, none⟩) (a : Option Addr) : ∀ (i : Nat) (ks : List Tm), LiesAll w L a i ks → LiesAll w' L a i ks
  | i, [], _ => by simp [LiesAll]
  | i, t :: r, h => by
    simp only [LiesAll] at h ⊢
    obtain ⟨⟨b, o, cs, ha, hb, hr, ht⟩, h2⟩ := h
    have hlt := rangeAt_lt hr (by rw [ht.length]; omega)
    have hne : b ≠ g := by
      rintro rfl
      obtain ⟨op, n, s, ks⟩ := t
      have hh := ht
      simp only [Lies] at hh
      obtain ⟨a', cap, rfl, _⟩ := hh
      exact hn _ s (hr 2 _ rfl)
    exact ⟨⟨b, o, cs, ha, hb, fun j v hj => by rw [hc b _ hne hlt]; exact hr j v hj, Lies.apartC hn hc t cs ht⟩, LiesAll.apartC hn hc a (i + 1) r h2⟩
end
theorem Lies.turn {y y' : World} {c L : Nat} {t : Tm} {cs : List Value} (h : Lies y L t cs) (hC : Cur y c) (ho : Only [c] y y') : Lies y' L t cs := by
  obtain ⟨a, len, cap, i, z, hc, _⟩ := hC
  refine Lies.apartC (g := c) (fun o s he => ?_) (fun b o hb hlt => World.cell?_of_block (ho.block b hlt (nin hb))) t cs h
  simp only [World.cell?, hc] at he
  match o with
  | 0 => simp at he
  | 1 => simp at he
  | 2 => simp at he
  | o + 3 => simp at he
theorem fill_z {w : World} {g : Nat} {op n : Int} {s : ByteArray} {a : Option Addr} {len cap : Nat} {t : Tm} {cs : List Value} (hz : RowT 29 w g 0 0 ⟨#[]⟩ none 0 0) (hok : OkZ t) (h : Lies w 0 t cs) : Lies (fill4 w g op n s a len cap) 0 t cs := by
  rcases hok with hok | rfl
  · exact fill_lies hz hok h
  · simp only [Lies] at h ⊢
    simpa [LiesAll] using h
theorem fill_four_z {w : World} {g : Nat} {op0 n0 op1 n1 op2 n2 op3 n3 : Int} {s0 s1 s2 s3 : ByteArray} {a0 a1 a2 a3 : Option Addr} {l0 k0 l1 k1 l2 k2 l3 k3 : Nat} {t : Tm} {cs : List Value} (h0 : RowT 29 w g 0 0 ⟨#[]⟩ none 0 0) (h1 : RowT 29 w (g + 1) 0 0 ⟨#[]⟩ none 0 0) (h2 : RowT 29 w (g + 1 + 1) 0 0 ⟨#[]⟩ none 0 0) (h3 : RowT 29 w (g + 1 + 1 + 1) 0 0 ⟨#[]⟩ none 0 0) (hok : OkZ t) (h : Lies w 0 t cs) :
    Lies (fill4 (fill4 (fill4 (fill4 w g op0 n0 s0 a0 l0 k0) (g + 1) op1 n1 s1 a1 l1 k1) (g + 1 + 1) op2 n2 s2 a2 l2 k2) (g + 1 + 1 + 1) op3 n3 s3 a3 l3 k3) 0 t cs :=
  fill_z (RowT.other (RowT.other (RowT.other h3 (zne _).1.2.2) (zne _).2.1.2) (zne _).2.2) hok (fill_z (RowT.other (RowT.other h2 (zne _).1.2.1) (zne _).2.1.1) hok (fill_z (RowT.other h1 (zne _).1.1) hok (fill_z h0 hok h)))
theorem Car.blk {c g : Nat} {O : Obj} (hg : g ≠ c) : Car c fun y => y.heap[g]? = some O := ⟨fun _ _ h hb => (hb.block g (lt_of_heap h)).trans h, fun _ _ h ho => (ho.block g (lt_of_heap h) (nin hg)).trans h⟩
theorem blk_new (w : World) (O : Obj) : (w.alloc O).heap[w.heap.size]? = some O := heap_alloc_new w _
theorem rof_any (e t : Tm) (op n : Int) (s : ByteArray) (a : Option Addr) (len cap : Nat) (op2 n2 : Int) (s2 : ByteArray) (a2 : Option Addr) (len2 cap2 : Nat) (w : World) (hl : Lies w 0 e (tmCells op n s a len cap)) (hl2 : Lies w 0 t (tmCells op2 n2 s2 a2 len2 cap2)) (hst : e.size + t.size ≤ 1048578) :
    Calls Tryz.prog 20 #[.agg #[.int .i64 op, .int .i64 n, .string s, .slice a len cap], .agg #[.int .i64 op2, .int .i64 n2, .string s2, .slice a2 len2 cap2]] w fun q w' => ∃ P S C G op4 n4 s4 a4 len4 cap4 op5 n5 s5 a5 len5 cap5 op6 n6 s6 a6 len6 cap6 op7 n7 s7 a7 len7 cap7 ok, q = .returned (.tuple #[.agg #[.int .i64 op4, .int .i64 n4, .string s4, .slice a4 len4 cap4], .agg #[.int .i64 op5, .int .i64 n5, .string s5, .slice a5 len5 cap5], .agg #[.int .i64 op6, .int .i64 n6, .string s6, .slice a6 len6 cap6], .agg #[.int .i64 op7, .int .i64 n7, .string s7, .slice a7 len7 cap7], .bool ok]) ∧ (Lies w' 0 P (tmCells op4 n4 s4 a4 len4 cap4) ∧ OkZ P) ∧ (Lies w' 0 S (tmCells op5 n5 s5 a5 len5 cap5) ∧ OkZ S) ∧ (Lies w' 0 C (tmCells op6 n6 s6 a6 len6 cap6) ∧ OkZ C) ∧ (Lies w' 0 G (tmCells op7 n7 s7 a7 len7 cap7) ∧ OkZ G) ∧ Below w.heap.size w w' := by
  cases h : replyO e t with
  | none =>
    refine (rofS_no e t op n s a len cap op2 n2 s2 a2 len2 cap2 w hl hl2 hst h).mono ?_
    rintro q w' ⟨rfl, hb⟩
    exact ⟨_, _, _, _, _, _, _, _, _, _, _, _, _, _, _, _, _, _, _, _, _, _, _, _, _, _, _, _, _, rfl, ⟨zero_lies _ _, Or.inr rfl⟩, ⟨zero_lies _ _, Or.inr rfl⟩, ⟨zero_lies _ _, Or.inr rfl⟩, ⟨zero_lies _ _, Or.inr rfl⟩, hb⟩
  | some x =>
    obtain ⟨P, S, C, G⟩ := x
    obtain ⟨o1, o2, o3, o4⟩ := replyO_ok h
    refine (rofS_yes e t P S C G op n s a len cap op2 n2 s2 a2 len2 cap2 w hl hl2 hst h).mono ?_
    rintro q w' ⟨op4, n4, s4, a4, len4, cap4, op5, n5, s5, a5, len5, cap5, op6, n6, s6, a6, len6, cap6, op7, n7, s7, a7, len7, cap7, rfl, h4, h5, h6, h7, hb⟩
    exact ⟨P, S, C, G, _, _, _, _, _, _, _, _, _, _, _, _, _, _, _, _, _, _, _, _, _, _, _, _, true, rfl, ⟨h4, Or.inl o1⟩, ⟨h5, Or.inl o2⟩, ⟨h6, Or.inl o3⟩, ⟨h7, Or.inl o4⟩, hb⟩
def PrD (w : World) (q : Ending) (w' : World) : Prop := ∃ T0 T1 T2 T3 op0 n0 s0 a0 len0 cap0 op1 n1 s1 a1 len1 cap1 op2 n2 s2 a2 len2 cap2 op3 n3 s3 a3 len3 cap3 hs m, q = .returned (.tuple #[.agg #[.int .i64 op0, .int .i64 n0, .string s0, .slice a0 len0 cap0], .agg #[.int .i64 op1, .int .i64 n1, .string s1, .slice a1 len1 cap1], .agg #[.int .i64 op2, .int .i64 n2, .string s2, .slice a2 len2 cap2], .agg #[.int .i64 op3, .int .i64 n3, .string s3, .slice a3 len3 cap3], .string hs, .int .i64 m]) ∧ (Lies w' 0 T0 (tmCells op0 n0 s0 a0 len0 cap0) ∧ T0.size ≤ 61010) ∧ (Lies w' 0 T1 (tmCells op1 n1 s1 a1 len1 cap1) ∧ T1.size ≤ 200) ∧ (Lies w' 0 T2 (tmCells op2 n2 s2 a2 len2 cap2) ∧ T2.size ≤ 200) ∧ (Lies w' 0 T3 (tmCells op3 n3 s3 a3 len3 cap3) ∧ T3.size ≤ 200) ∧ Below w.heap.size w w'

theorem results_cells4u {P : Program} {fn : Func} {c0 c1 c2 c3 u0 u1 : Tmp} {t0 t1 t2 t3 : TypeId} (h : fn.results = #[.cell c0 t0, .cell c1 t1, .cell c2 t2, .cell c3 t3, .tmp u0, .tmp u1]) {tmps : Array Value} {w : World} {v0 v1 v2 v3 : Value} {b0 b1 b2 b3 : Addr} (p0 : tmps.getD c0 undef = .pointer (some b0)) (p1 : tmps.getD c1 undef = .pointer (some b1)) (p2 : tmps.getD c2 undef = .pointer (some b2)) (p3 : tmps.getD c3 undef = .pointer (some b3))
    (l0 : (loadVar t0 b0).run P w = .ok v0 w) (l1 : (loadVar t1 b1).run P w = .ok v1 w) (l2 : (loadVar t2 b2).run P w = .ok v2 w) (l3 : (loadVar t3 b3).run P w = .ok v3 w) :
    (results fn tmps).run P w = .ok (.tuple #[v0, v1, v2, v3, tmps.getD u0 undef, tmps.getD u1 undef]) w := by
  have p0' : tmps[c0]?.getD undef = .pointer (some b0) := by simpa using p0
  have p1' : tmps[c1]?.getD undef = .pointer (some b1) := by simpa using p1
  have p2' : tmps[c2]?.getD undef = .pointer (some b2) := by simpa using p2
  have p3' : tmps[c3]?.getD undef = .pointer (some b3) := by simpa using p3
  simp [results, h, p0', p1', p2', p3', l0, l1, l2, l3, asAddr]
theorem step_three {ops : Array Oper} {Q : Exit → Act → World → Prop} {i d : Nat} {ty : TypeId} {pos : String} {after : Array Edge} {K : Act → World → Prop} {a : Act} {w : World}
    (ho : ops[i]? = some { dst := some d, op := .buildSlice 98 3 #[(0, .const (.int .i64 0)), (1, .const (.int .i64 5)), (2, .const (.int .i64 6))], type := ty, pos := pos, after := after, guard := none })
    (h : K (a.put (some d) (.slice (some ⟨w.heap.size, 0, none⟩) 3 3)) (w.alloc (.cells #[.int .i64 0, .int .i64 5, .int .i64 6] 3))) :
    wpOp Tryz.prog ops Q i K a w := by
  refine wpOp_step ho fun K' hK => ?_
  have H := hide (hK _ _ h)
  clear h hK ho
  go_simp
  exact unhide H
theorem three_cells {y : World} {b : Nat} (h : y.heap[b]? = some (.cells #[.int .i64 0, .int .i64 5, .int .i64 6] 3)) : ∀ k, k < 3 → ∃ z, y.cell? ⟨b, k, none⟩ = some (.int .i64 z) ∧ True := by
  intro k hk
  match k, hk with
  | 0, _ => exact ⟨0, cell_of_row h (by simp), trivial⟩
  | 1, _ => exact ⟨5, cell_of_row h (by simp), trivial⟩
  | 2, _ => exact ⟨6, cell_of_row h (by simp), trivial⟩
set_option maxRecDepth 100000 in
set_option maxHeartbeats 4000000 in
theorem proved_draw (ad : Option Addr) (ln cp : Nat) (w : World) (hB : Bytes w w.heap.size ad ln) (hl : ln ≤ 1048576) (hlc : ln ≤ cp) :
    Calls Tryz.prog 22 #[.slice ad ln cp] w fun q w' => PrD w q w' := by
  have hb0 : Below w.heap.size w ((((w.alloc (.cells #[.int .i64 0, .int .i64 0, .string ⟨#[]⟩, .slice none 0 0] 29)).alloc (.cells #[.int .i64 0, .int .i64 0, .string ⟨#[]⟩, .slice none 0 0] 29)).alloc (.cells #[.int .i64 0, .int .i64 0, .string ⟨#[]⟩, .slice none 0 0] 29)).alloc (.cells #[.int .i64 0, .int .i64 0, .string ⟨#[]⟩, .slice none 0 0] 29)) := bt (bt (bt (ab _) (ab _) (Nat.le_refl _)) (ab _) (Nat.le_refl _)) (ab _) (Nat.le_refl _)
  have HZ0 : Hid (RowT 29 ((((w.alloc (.cells #[.int .i64 0, .int .i64 0, .string ⟨#[]⟩, .slice none 0 0] 29)).alloc (.cells #[.int .i64 0, .int .i64 0, .string ⟨#[]⟩, .slice none 0 0] 29)).alloc (.cells #[.int .i64 0, .int .i64 0, .string ⟨#[]⟩, .slice none 0 0] 29)).alloc (.cells #[.int .i64 0, .int .i64 0, .string ⟨#[]⟩, .slice none 0 0] 29)) (w.heap.size) 0 0 ⟨#[]⟩ none 0 0) := by
    have := (((RowT.new 29 w 0 0 ⟨#[]⟩ none 0 0).below (ab (.cells #[.int .i64 0, .int .i64 0, .string ⟨#[]⟩, .slice none 0 0] 29))).below (ab (.cells #[.int .i64 0, .int .i64 0, .string ⟨#[]⟩, .slice none 0 0] 29))).below (ab (.cells #[.int .i64 0, .int .i64 0, .string ⟨#[]⟩, .slice none 0 0] 29))
    exact this
  have HZ1 : Hid (RowT 29 ((((w.alloc (.cells #[.int .i64 0, .int .i64 0, .string ⟨#[]⟩, .slice none 0 0] 29)).alloc (.cells #[.int .i64 0, .int .i64 0, .string ⟨#[]⟩, .slice none 0 0] 29)).alloc (.cells #[.int .i64 0, .int .i64 0, .string ⟨#[]⟩, .slice none 0 0] 29)).alloc (.cells #[.int .i64 0, .int .i64 0, .string ⟨#[]⟩, .slice none 0 0] 29)) (w.heap.size + 1) 0 0 ⟨#[]⟩ none 0 0) := by
    have := ((RowT.new 29 (w.alloc (.cells #[.int .i64 0, .int .i64 0, .string ⟨#[]⟩, .slice none 0 0] 29)) 0 0 ⟨#[]⟩ none 0 0).below (ab (.cells #[.int .i64 0, .int .i64 0, .string ⟨#[]⟩, .slice none 0 0] 29))).below (ab (.cells #[.int .i64 0, .int .i64 0, .string ⟨#[]⟩, .slice none 0 0] 29))
    rwa [heap_size_alloc] at this
  have HZ2 : Hid (RowT 29 ((((w.alloc (.cells #[.int .i64 0, .int .i64 0, .string ⟨#[]⟩, .slice none 0 0] 29)).alloc (.cells #[.int .i64 0, .int .i64 0, .string ⟨#[]⟩, .slice none 0 0] 29)).alloc (.cells #[.int .i64 0, .int .i64 0, .string ⟨#[]⟩, .slice none 0 0] 29)).alloc (.cells #[.int .i64 0, .int .i64 0, .string ⟨#[]⟩, .slice none 0 0] 29)) (w.heap.size + 1 + 1) 0 0 ⟨#[]⟩ none 0 0) := by
    have := (RowT.new 29 ((w.alloc (.cells #[.int .i64 0, .int .i64 0, .string ⟨#[]⟩, .slice none 0 0] 29)).alloc (.cells #[.int .i64 0, .int .i64 0, .string ⟨#[]⟩, .slice none 0 0] 29)) 0 0 ⟨#[]⟩ none 0 0).below (ab (.cells #[.int .i64 0, .int .i64 0, .string ⟨#[]⟩, .slice none 0 0] 29))
    rwa [heap_size_alloc, heap_size_alloc] at this
  have HZ3 : Hid (RowT 29 ((((w.alloc (.cells #[.int .i64 0, .int .i64 0, .string ⟨#[]⟩, .slice none 0 0] 29)).alloc (.cells #[.int .i64 0, .int .i64 0, .string ⟨#[]⟩, .slice none 0 0] 29)).alloc (.cells #[.int .i64 0, .int .i64 0, .string ⟨#[]⟩, .slice none 0 0] 29)).alloc (.cells #[.int .i64 0, .int .i64 0, .string ⟨#[]⟩, .slice none 0 0] 29)) (w.heap.size + 1 + 1 + 1) 0 0 ⟨#[]⟩ none 0 0) := by
    have := RowT.new 29 (((w.alloc (.cells #[.int .i64 0, .int .i64 0, .string ⟨#[]⟩, .slice none 0 0] 29)).alloc (.cells #[.int .i64 0, .int .i64 0, .string ⟨#[]⟩, .slice none 0 0] 29)).alloc (.cells #[.int .i64 0, .int .i64 0, .string ⟨#[]⟩, .slice none 0 0] 29)) 0 0 ⟨#[]⟩ none 0 0
    rwa [heap_size_alloc, heap_size_alloc, heap_size_alloc] at this
  have hNew := hide (new_calls ad ln cp ((((w.alloc (.cells #[.int .i64 0, .int .i64 0, .string ⟨#[]⟩, .slice none 0 0] 29)).alloc (.cells #[.int .i64 0, .int .i64 0, .string ⟨#[]⟩, .slice none 0 0] 29)).alloc (.cells #[.int .i64 0, .int .i64 0, .string ⟨#[]⟩, .slice none 0 0] 29)).alloc (.cells #[.int .i64 0, .int .i64 0, .string ⟨#[]⟩, .slice none 0 0] 29)) (bytes_up hB hb0 hb0.size) hl hlc)
  have HB0 := hide hb0
  clear hb0 hB
  go_enter Tryz.func22, Tryz.ntmps22
  go_wp2_with fail
  generalize hgw : ((((w.alloc (.cells #[.int .i64 0, .int .i64 0, .string ⟨#[]⟩, .slice none 0 0] 29)).alloc (.cells #[.int .i64 0, .int .i64 0, .string ⟨#[]⟩, .slice none 0 0] 29)).alloc (.cells #[.int .i64 0, .int .i64 0, .string ⟨#[]⟩, .slice none 0 0] 29)).alloc (.cells #[.int .i64 0, .int .i64 0, .string ⟨#[]⟩, .slice none 0 0] 29)) = W0 at *
  clear hgw
  refine (unhide hNew).mono ?_
  rintro q w1 ⟨rfl, hc1, hb1, -⟩
  have HWL : Hid (w.heap.size ≤ W0.heap.size) := (unhide HB0).size
  have HCN : Hid (w.heap.size + 1 + 1 + 1 < W0.heap.size) := (unhide HZ3).lt
  obtain ⟨P0, hC0, hP0, hI0⟩ := Car.start ((Car.old (unhide HWL)).and ((Car.row (Nat.ne_of_lt (unhide HZ0).lt)).and ((Car.row (Nat.ne_of_lt (unhide HZ1).lt)).and ((Car.row (Nat.ne_of_lt (unhide HZ2).lt)).and (Car.row (Nat.ne_of_lt (unhide HZ3).lt)))))) ⟨bt (unhide HB0) hb1 (Nat.le_refl _), (unhide HZ0).below hb1, (unhide HZ1).below hb1, (unhide HZ2).below hb1, (unhide HZ3).below hb1⟩
  have IW := hide (fun y h => (hI0 y h).1)
  have IZ0 := hide (fun y h => (hI0 y h).2.1)
  have IZ1 := hide (fun y h => (hI0 y h).2.2.1)
  have IZ2 := hide (fun y h => (hI0 y h).2.2.2.1)
  have IZ3 := hide (fun y h => (hI0 y h).2.2.2.2)
  have CAR := hide hC0
  have HP := hide hP0
  have HC := hide hc1
  clear hc1 hb1 hI0 hC0 hP0 HB0 hNew HZ0 HZ1 HZ2 HZ3
  generalize W0.heap.size = c at *
  have hSe := hide (secret_draw c)
  have hHo := hide (host_draw c)
  have hOn := hide (once_calls c 4)
  have hPi := hide (pickInt_of (fun _ => True) c)
  go_wp2_with fail
  have M0 : Hid (c < w1.heap.size) := (unhide HC).lt
  refine (unhide hSe _ (unhide HC)).mono ?_
  rintro q v1 ⟨T0, T1, op0, n0, s0, a0, len0, cap0, op1, n1, s1, a1, len1, cap1, rfl, ⟨hl0, hz0⟩, ⟨hl1, hz1⟩, hc2, ho2⟩
  replace HP := hide ((unhide CAR).2 _ _ (unhide HP) ho2)
  replace HC := hide hc2
  clear hc2 ho2
  obtain ⟨P1, hC1, hP1, hJ1, hQ1⟩ := Car.grow (unhide CAR) (unhide HP) (Car.lies (unhide M0)) (hl0)
  have J1 := hide hJ1
  have QL0 := hide hQ1
  replace CAR := hide hC1
  replace HP := hide hP1
  clear hC1 hP1 hJ1 hQ1
  obtain ⟨P2, hC2, hP2, hJ2, hQ2⟩ := Car.grow (unhide CAR) (unhide HP) (Car.lies (unhide M0)) (hl1)
  have J2 := hide hJ2
  have QL1 := hide hQ2
  replace CAR := hide hC2
  replace HP := hide hP2
  clear hC2 hP2 hJ2 hQ2
  have HZ0 := hide hz0
  have HZ1 := hide hz1
  clear hl0 hl1 hz0 hz1
  generalize w1.heap.size = lT at *
  have hp := ab (w := v1) (.cells #[.int .i64 op0, .int .i64 n0, .string s0, .slice a0 len0 cap0] 29)
  have hrow := RowT.new 29 v1 op0 n0 s0 a0 len0 cap0
  have MbA : Hid (c < v1.heap.size) := (unhide HC).lt
  have NbA0 : Hid (v1.heap.size ≠ c) := Ne.symm (Nat.ne_of_lt (unhide MbA))
  replace HP := hide ((unhide CAR).1 _ _ (unhide HP) hp)
  replace HC := hide ((unhide HC).below hp)
  obtain ⟨P3, hC3, hP3, hJ3, hQ3⟩ := Car.grow (unhide CAR) (unhide HP) (Car.row (unhide NbA0)) (hrow)
  have J3 := hide hJ3
  have QA := hide hQ3
  replace CAR := hide hC3
  replace HP := hide hP3
  clear hC3 hP3 hJ3 hQ3
  clear hp hrow
  have hp := ab (w := (v1.alloc (.cells #[.int .i64 op0, .int .i64 n0, .string s0, .slice a0 len0 cap0] 29))) (.cells #[.int .i64 op1, .int .i64 n1, .string s1, .slice a1 len1 cap1] 29)
  have hrow := RowT.new 29 (v1.alloc (.cells #[.int .i64 op0, .int .i64 n0, .string s0, .slice a0 len0 cap0] 29)) op1 n1 s1 a1 len1 cap1
  rw [heap_size_alloc] at hrow
  have NbA1 : Hid (v1.heap.size + 1 ≠ c) := Ne.symm (Nat.ne_of_lt (Nat.lt_succ_of_lt (unhide MbA)))
  replace HP := hide ((unhide CAR).1 _ _ (unhide HP) hp)
  replace HC := hide ((unhide HC).below hp)
  obtain ⟨P4, hC4, hP4, hJ4, hQ4⟩ := Car.grow (unhide CAR) (unhide HP) (Car.row (unhide NbA1)) (hrow)
  have J4 := hide hJ4
  have QB := hide hQ4
  replace CAR := hide hC4
  replace HP := hide hP4
  clear hC4 hP4 hJ4 hQ4
  clear hp hrow
  go_wp2_with fail
  generalize hgw : (v1.alloc (.cells #[.int .i64 op0, .int .i64 n0, .string s0, .slice a0 len0 cap0] 29)).alloc (.cells #[.int .i64 op1, .int .i64 n1, .string s1, .slice a1 len1 cap1] 29) = V1 at *
  clear hgw
  generalize v1.heap.size = bA at *
  refine (rof_any T0 T1 op0 n0 s0 a0 len0 cap0 op1 n1 s1 a1 len1 cap1 V1 ((unhide QL0 _ (unhide J2 _ (unhide J3 _ (unhide J4 _ (unhide HP))))).any (Nat.zero_le _)) ((unhide QL1 _ (unhide J3 _ (unhide J4 _ (unhide HP)))).any (Nat.zero_le _)) (by have := unhide HZ0; have := unhide HZ1; omega)).mono ?_
  rintro q v2 ⟨P, S, C, G, op4, n4, s4, a4, len4, cap4, op5, n5, s5, a5, len5, cap5, op6, n6, s6, a6, len6, cap6, op7, n7, s7, a7, len7, cap7, ok, rfl, ⟨hl4, hz4⟩, ⟨hl5, hz5⟩, ⟨hl6, hz6⟩, ⟨hl7, hz7⟩, hb2⟩
  have hcv2 := 0
  clear hcv2
  have HL4 := hide hl4
  have HK4 := hide hz4
  have HL6 := hide hl6
  have HK6 := hide hz6
  have HL7 := hide hl7
  have HK7 := hide hz7
  clear hl4 hl5 hl6 hl7 hz4 hz5 hz6 hz7
  replace HP := hide ((unhide CAR).1 _ _ (unhide HP) hb2)
  replace HC := hide ((unhide HC).below hb2)
  clear hb2
  have hbV : Below v2.heap.size v2 ((((v2.alloc (.cells #[.int .i64 op4, .int .i64 n4, .string s4, .slice a4 len4 cap4] 29)).alloc (.cells #[.int .i64 op5, .int .i64 n5, .string s5, .slice a5 len5 cap5] 29)).alloc (.cells #[.int .i64 op6, .int .i64 n6, .string s6, .slice a6 len6 cap6] 29)).alloc (.cells #[.int .i64 op7, .int .i64 n7, .string s7, .slice a7 len7 cap7] 29)) := bt (bt (bt (ab (w := v2) (.cells #[.int .i64 op4, .int .i64 n4, .string s4, .slice a4 len4 cap4] 29)) (ab (w := (v2.alloc (.cells #[.int .i64 op4, .int .i64 n4, .string s4, .slice a4 len4 cap4] 29))) (.cells #[.int .i64 op5, .int .i64 n5, .string s5, .slice a5 len5 cap5] 29)) (Nat.le_refl _)) (ab (w := ((v2.alloc (.cells #[.int .i64 op4, .int .i64 n4, .string s4, .slice a4 len4 cap4] 29)).alloc (.cells #[.int .i64 op5, .int .i64 n5, .string s5, .slice a5 len5 cap5] 29))) (.cells #[.int .i64 op6, .int .i64 n6, .string s6, .slice a6 len6 cap6] 29)) (Nat.le_refl _)) (ab (w := (((v2.alloc (.cells #[.int .i64 op4, .int .i64 n4, .string s4, .slice a4 len4 cap4] 29)).alloc (.cells #[.int .i64 op5, .int .i64 n5, .string s5, .slice a5 len5 cap5] 29)).alloc (.cells #[.int .i64 op6, .int .i64 n6, .string s6, .slice a6 len6 cap6] 29))) (.cells #[.int .i64 op7, .int .i64 n7, .string s7, .slice a7 len7 cap7] 29)) (Nat.le_refl _)
  replace HL4 := hide ((unhide HL4).below hbV)
  replace HL6 := hide ((unhide HL6).below hbV)
  replace HL7 := hide ((unhide HL7).below hbV)
  clear hbV
  have hp := ab (w := v2) (.cells #[.int .i64 op4, .int .i64 n4, .string s4, .slice a4 len4 cap4] 29)
  have hrow := RowT.new 29 v2 op4 n4 s4 a4 len4 cap4
  have MbP : Hid (c < v2.heap.size) := (unhide HC).lt
  have NbP0 : Hid (v2.heap.size ≠ c) := Ne.symm (Nat.ne_of_lt (unhide MbP))
  replace HP := hide ((unhide CAR).1 _ _ (unhide HP) hp)
  replace HC := hide ((unhide HC).below hp)
  obtain ⟨P5, hC5, hP5, hJ5, hQ5⟩ := Car.grow (unhide CAR) (unhide HP) (Car.row (unhide NbP0)) (hrow)
  have J5 := hide hJ5
  have QP := hide hQ5
  replace CAR := hide hC5
  replace HP := hide hP5
  clear hC5 hP5 hJ5 hQ5
  clear hp hrow
  have hp := ab (w := (v2.alloc (.cells #[.int .i64 op4, .int .i64 n4, .string s4, .slice a4 len4 cap4] 29))) (.cells #[.int .i64 op5, .int .i64 n5, .string s5, .slice a5 len5 cap5] 29)
  have hrow := RowT.new 29 (v2.alloc (.cells #[.int .i64 op4, .int .i64 n4, .string s4, .slice a4 len4 cap4] 29)) op5 n5 s5 a5 len5 cap5
  rw [heap_size_alloc] at hrow
  have NbP1 : Hid (v2.heap.size + 1 ≠ c) := Ne.symm (Nat.ne_of_lt (Nat.lt_succ_of_lt (unhide MbP)))
  replace HP := hide ((unhide CAR).1 _ _ (unhide HP) hp)
  replace HC := hide ((unhide HC).below hp)
  obtain ⟨P6, hC6, hP6, hJ6, hQ6⟩ := Car.grow (unhide CAR) (unhide HP) (Car.row (unhide NbP1)) (hrow)
  have J6 := hide hJ6
  have QS := hide hQ6
  replace CAR := hide hC6
  replace HP := hide hP6
  clear hC6 hP6 hJ6 hQ6
  clear hp hrow
  have hp := ab (w := ((v2.alloc (.cells #[.int .i64 op4, .int .i64 n4, .string s4, .slice a4 len4 cap4] 29)).alloc (.cells #[.int .i64 op5, .int .i64 n5, .string s5, .slice a5 len5 cap5] 29))) (.cells #[.int .i64 op6, .int .i64 n6, .string s6, .slice a6 len6 cap6] 29)
  have hrow := RowT.new 29 ((v2.alloc (.cells #[.int .i64 op4, .int .i64 n4, .string s4, .slice a4 len4 cap4] 29)).alloc (.cells #[.int .i64 op5, .int .i64 n5, .string s5, .slice a5 len5 cap5] 29)) op6 n6 s6 a6 len6 cap6
  rw [heap_size_alloc, heap_size_alloc] at hrow
  have NbP2 : Hid (v2.heap.size + 1 + 1 ≠ c) := Ne.symm (Nat.ne_of_lt (Nat.lt_succ_of_lt (Nat.lt_succ_of_lt (unhide MbP))))
  replace HP := hide ((unhide CAR).1 _ _ (unhide HP) hp)
  replace HC := hide ((unhide HC).below hp)
  obtain ⟨P7, hC7, hP7, hJ7, hQ7⟩ := Car.grow (unhide CAR) (unhide HP) (Car.row (unhide NbP2)) (hrow)
  have J7 := hide hJ7
  have QC := hide hQ7
  replace CAR := hide hC7
  replace HP := hide hP7
  clear hC7 hP7 hJ7 hQ7
  clear hp hrow
  have hp := ab (w := (((v2.alloc (.cells #[.int .i64 op4, .int .i64 n4, .string s4, .slice a4 len4 cap4] 29)).alloc (.cells #[.int .i64 op5, .int .i64 n5, .string s5, .slice a5 len5 cap5] 29)).alloc (.cells #[.int .i64 op6, .int .i64 n6, .string s6, .slice a6 len6 cap6] 29))) (.cells #[.int .i64 op7, .int .i64 n7, .string s7, .slice a7 len7 cap7] 29)
  have hrow := RowT.new 29 (((v2.alloc (.cells #[.int .i64 op4, .int .i64 n4, .string s4, .slice a4 len4 cap4] 29)).alloc (.cells #[.int .i64 op5, .int .i64 n5, .string s5, .slice a5 len5 cap5] 29)).alloc (.cells #[.int .i64 op6, .int .i64 n6, .string s6, .slice a6 len6 cap6] 29)) op7 n7 s7 a7 len7 cap7
  rw [heap_size_alloc, heap_size_alloc, heap_size_alloc] at hrow
  have NbP3 : Hid (v2.heap.size + 1 + 1 + 1 ≠ c) := Ne.symm (Nat.ne_of_lt (Nat.lt_succ_of_lt (Nat.lt_succ_of_lt (Nat.lt_succ_of_lt (unhide MbP)))))
  replace HP := hide ((unhide CAR).1 _ _ (unhide HP) hp)
  replace HC := hide ((unhide HC).below hp)
  obtain ⟨P8, hC8, hP8, hJ8, hQ8⟩ := Car.grow (unhide CAR) (unhide HP) (Car.row (unhide NbP3)) (hrow)
  have J8 := hide hJ8
  have QG := hide hQ8
  replace CAR := hide hC8
  replace HP := hide hP8
  clear hC8 hP8 hJ8 hQ8
  clear hp hrow
  go_wp2_with fail
  generalize hgw : (((v2.alloc (.cells #[.int .i64 op4, .int .i64 n4, .string s4, .slice a4 len4 cap4] 29)).alloc (.cells #[.int .i64 op5, .int .i64 n5, .string s5, .slice a5 len5 cap5] 29)).alloc (.cells #[.int .i64 op6, .int .i64 n6, .string s6, .slice a6 len6 cap6] 29)).alloc (.cells #[.int .i64 op7, .int .i64 n7, .string s7, .slice a7 len7 cap7] 29) = V2 at *
  clear hgw
  generalize v2.heap.size = bP at *
  refine (unhide hHo _ (unhide HC)).mono ?_
  rintro q v3 ⟨hs, rfl, -, hc2, ho2⟩
  replace HL4 := hide ((unhide HL4).turn (unhide HC) ho2)
  replace HL6 := hide ((unhide HL6).turn (unhide HC) ho2)
  replace HL7 := hide ((unhide HL7).turn (unhide HC) ho2)
  replace HP := hide ((unhide CAR).2 _ _ (unhide HP) ho2)
  replace HC := hide hc2
  clear hc2 ho2
  obtain ⟨z0, z1, z2, z3⟩ := ((unhide QC _ (unhide J8 _ (unhide HP)))).facts
  go_wp2_with fail
  clear z0 z1 z2 z3
  refine (certOf_spec C op6 n6 s6 a6 len6 cap6 _ (unhide HL6) (Nat.le_trans (unhide HK6).size (by decide))).mono ?_
  rintro q v4 ⟨HD, op8, n8, s8, a8, len8, cap8, VD, O, rfl, hb4⟩
  replace HP := hide ((unhide CAR).1 _ _ (unhide HP) hb4)
  replace HC := hide ((unhide HC).below hb4)
  replace HL4 := hide ((unhide HL4).below hb4)
  replace HL6 := hide ((unhide HL6).below hb4)
  replace HL7 := hide ((unhide HL7).below hb4)
  clear hb4
  have hp := ab (w := v4) (.cells #[.string HD, .int .i64 op8, .int .i64 n8, .string s8, .slice a8 len8 cap8, .int .i64 VD] 57)
  have hrow := blk_new v4 (.cells #[.string HD, .int .i64 op8, .int .i64 n8, .string s8, .slice a8 len8 cap8, .int .i64 VD] 57)
  have MX : Hid (c < v4.heap.size) := (unhide HC).lt
  have NX : Hid (v4.heap.size ≠ c) := Ne.symm (Nat.ne_of_lt (unhide MX))
  replace HP := hide ((unhide CAR).1 _ _ (unhide HP) hp)
  replace HC := hide ((unhide HC).below hp)
  replace HL4 := hide ((unhide HL4).below hp)
  replace HL6 := hide ((unhide HL6).below hp)
  replace HL7 := hide ((unhide HL7).below hp)
  obtain ⟨P9, hC9, hP9, hJ9, hQ9⟩ := Car.grow (unhide CAR) (unhide HP) (Car.blk (unhide NX)) (hrow)
  have J9 := hide hJ9
  have QX := hide hQ9
  replace CAR := hide hC9
  replace HP := hide hP9
  clear hC9 hP9 hJ9 hQ9
  clear hp hrow
  cases O with
  | true =>
    go_wp2_with fail
    generalize hgw : v4.alloc (.cells #[.string HD, .int .i64 op8, .int .i64 n8, .string s8, .slice a8 len8 cap8, .int .i64 VD] 57) = V4 at *
    clear hgw
    refine (unhide hOn _ (unhide HC) (by decide)).mono ?_
    rintro q v5 ⟨b, rfl, hc2, ho2⟩
    replace HL4 := hide ((unhide HL4).turn (unhide HC) ho2)
    replace HL6 := hide ((unhide HL6).turn (unhide HC) ho2)
    replace HL7 := hide ((unhide HL7).turn (unhide HC) ho2)
    replace HP := hide ((unhide CAR).2 _ _ (unhide HP) ho2)
    replace HC := hide hc2
    clear hc2 ho2
    cases b with
    | true =>
      go_wp2_with fail
      have hd0 : Below v5.heap.size v5 v5.drew := (Below.refl _ _).drew
      have HPD := hide ((unhide CAR).1 _ _ (unhide HP) hd0)
      refine wp_region_held (S := fun y => RowT 29 y bA op0 n0 s0 a0 len0 cap0 ∧ RowT 29 y bP op4 n4 s4 a4 len4 cap4 ∧ RowT 29 y (bP + 1 + 1) op6 n6 s6 a6 len6 cap6 ∧ RowT 29 y (bP + 1 + 1 + 1) op7 n7 s7 a7 len7 cap7) (by kernel_rfl) ?_
      have hS : (fun y : World => RowT 29 y bA op0 n0 s0 a0 len0 cap0 ∧ RowT 29 y bP op4 n4 s4 a4 len4 cap4 ∧ RowT 29 y (bP + 1 + 1) op6 n6 s6 a6 len6 cap6 ∧ RowT 29 y (bP + 1 + 1 + 1) op7 n7 s7 a7 len7 cap7) v5.drew := ⟨(unhide QA _ (unhide J4 _ (unhide J5 _ (unhide J6 _ (unhide J7 _ (unhide J8 _ (unhide J9 _ (unhide HPD)))))))), (unhide QP _ (unhide J6 _ (unhide J7 _ (unhide J8 _ (unhide J9 _ (unhide HPD)))))), (unhide QC _ (unhide J8 _ (unhide J9 _ (unhide HPD)))), (unhide QG _ (unhide J9 _ (unhide HPD)))⟩
      show wpAnyH _ _ _ _ _ _ _ _ v5.drew
      replace HL4 := hide ((unhide HL4).below hd0)
      replace HL6 := hide ((unhide HL6).below hd0)
      replace HL7 := hide ((unhide HL7).below hd0)
      replace HC := hide (unhide HC).drew
      replace HP := HPD
      clear HPD hd0
      generalize v5.drew = y0 at *
      refine take_load (i := 0) rfl rfl (fun y h => h.1) (by kernel_rfl) (by kernel_rfl) (by kernel_rfl) (fun _ _ _ _ h => h) hS ?_
      simp only [Act.put, List.setIfInBounds_toArray, List.set_cons_succ, List.set_cons_zero]
      refine take_load (i := 1) rfl rfl (fun y h => h.2.1) (by kernel_rfl) (by kernel_rfl) (by kernel_rfl) (fun _ _ _ _ h => h) hS ?_
      simp only [Act.put, List.setIfInBounds_toArray, List.set_cons_succ, List.set_cons_zero]
      refine take_load (i := 2) rfl rfl (fun y h => h.2.2.1) (by kernel_rfl) (by kernel_rfl) (by kernel_rfl) (fun _ _ _ _ h => h) hS ?_
      simp only [Act.put, List.setIfInBounds_toArray, List.set_cons_succ, List.set_cons_zero]
      refine take_load (i := 3) rfl rfl (fun y h => h.2.2.2) (by kernel_rfl) (by kernel_rfl) (by kernel_rfl) (fun _ _ _ _ h => h) hS ?_
      simp only [Act.put, List.setIfInBounds_toArray, List.set_cons_succ, List.set_cons_zero]
      refine take_move (v := .string hs) (i := 4) rfl rfl (by kernel_rfl) (by kernel_rfl) (by kernel_rfl) (fun _ _ _ _ h => h) hS ?_
      simp only [Act.put, List.setIfInBounds_toArray, List.set_cons_succ, List.set_cons_zero]
      refine take_move (v := .pointer (some ⟨c, 0, none⟩)) (i := 5) rfl rfl (by kernel_rfl) (by kernel_rfl) (by kernel_rfl) (fun _ _ _ _ h => h) hS ?_
      simp only [Act.put, List.setIfInBounds_toArray, List.set_cons_succ, List.set_cons_zero]
      refine wpAnyH_all (rs := [6]) (by kernel_rfl) (by simp) fun j hj => ?_
      obtain rfl : j = 6 := by simpa using hj
      refine step_three rfl ?_
      have hp := ab (w := y0) (.cells #[.int .i64 0, .int .i64 5, .int .i64 6] 3)
      have hrow := blk_new y0 (.cells #[.int .i64 0, .int .i64 5, .int .i64 6] 3)
      have hcy := (unhide HC).lt
      replace HP := hide ((unhide CAR).1 _ _ (unhide HP) hp)
      replace HC := hide ((unhide HC).below hp)
      replace HL4 := hide ((unhide HL4).below hp)
      replace HL6 := hide ((unhide HL6).below hp)
      replace HL7 := hide ((unhide HL7).below hp)
      refine ⟨⟨(unhide QA _ (unhide J4 _ (unhide J5 _ (unhide J6 _ (unhide J7 _ (unhide J8 _ (unhide J9 _ (unhide HP)))))))), (unhide QP _ (unhide J6 _ (unhide J7 _ (unhide J8 _ (unhide J9 _ (unhide HP)))))), (unhide QC _ (unhide J8 _ (unhide J9 _ (unhide HP)))), (unhide QG _ (unhide J9 _ (unhide HP)))⟩, ?_⟩
      simp only [Act.put, List.setIfInBounds_toArray, List.set_cons_succ, List.set_cons_zero]
      clear hp
      obtain ⟨b3, hb3⟩ : ∃ b, b = y0.heap.size := ⟨_, rfl⟩
      rw [← hb3] at hrow hcy ⊢
      clear hb3
      generalize y0.alloc (.cells #[.int .i64 0, .int .i64 5, .int .i64 6] 3) = y1 at *
      have hpk := hide (unhide hPi b3 3 3 y1 (unhide HC) (by omega) (by decide) (by decide) (by decide) (by decide) (three_cells hrow))
      clear hrow
      refine wpAnyH_all (rs := [7]) (by kernel_rfl) (by simp) fun j hj => ?_
      obtain rfl : j = 7 := by simpa using hj
      refine step_call rfl Tryz.func87 (by kernel_rfl) (by kernel_rfl) ?_
      simp only [List.map_toArray, List.map_cons, List.map_nil]
      refine (unhide hpk).mono ?_
      rintro q y2 ⟨m, rfl, -, hc2, ho2⟩
      replace HL4 := hide ((unhide HL4).turn (unhide HC) ho2)
      replace HL6 := hide ((unhide HL6).turn (unhide HC) ho2)
      replace HL7 := hide ((unhide HL7).turn (unhide HC) ho2)
      replace HP := hide ((unhide CAR).2 _ _ (unhide HP) ho2)
      replace HC := hide hc2
      clear hc2 ho2
      refine ⟨_, rfl, ⟨(unhide QA _ (unhide J4 _ (unhide J5 _ (unhide J6 _ (unhide J7 _ (unhide J8 _ (unhide J9 _ (unhide HP)))))))), (unhide QP _ (unhide J6 _ (unhide J7 _ (unhide J8 _ (unhide J9 _ (unhide HP)))))), (unhide QC _ (unhide J8 _ (unhide J9 _ (unhide HP)))), (unhide QG _ (unhide J9 _ (unhide HP)))⟩, ?_⟩
      simp only [Act.put, List.setIfInBounds_toArray, List.set_cons_succ, List.set_cons_zero]
      have hS : (fun y : World => RowT 29 y bA op0 n0 s0 a0 len0 cap0 ∧ RowT 29 y bP op4 n4 s4 a4 len4 cap4 ∧ RowT 29 y (bP + 1 + 1) op6 n6 s6 a6 len6 cap6 ∧ RowT 29 y (bP + 1 + 1 + 1) op7 n7 s7 a7 len7 cap7) y2 := ⟨(unhide QA _ (unhide J4 _ (unhide J5 _ (unhide J6 _ (unhide J7 _ (unhide J8 _ (unhide J9 _ (unhide HP)))))))), (unhide QP _ (unhide J6 _ (unhide J7 _ (unhide J8 _ (unhide J9 _ (unhide HP)))))), (unhide QC _ (unhide J8 _ (unhide J9 _ (unhide HP)))), (unhide QG _ (unhide J9 _ (unhide HP)))⟩
      obtain ⟨fA0, fA1, fA2, fA3⟩ := far5 (unhide HCN) (unhide MbA)
      obtain ⟨fB0, fB1, fB2, fB3⟩ := far5 (unhide HCN) (unhide MbP)
      obtain ⟨fC0, fC1, fC2, fC3⟩ := far5 (unhide HCN) (show c < bP + 1 + 1 from Nat.lt_succ_of_lt (Nat.lt_succ_of_lt (unhide MbP)))
      obtain ⟨fD0, fD1, fD2, fD3⟩ := far5 (unhide HCN) (show c < bP + 1 + 1 + 1 from Nat.lt_succ_of_lt (Nat.lt_succ_of_lt (Nat.lt_succ_of_lt (unhide MbP))))
      refine all_store (i := 8) (by kernel_rfl) rfl rfl rfl (unhide IZ0 _ (unhide J1 _ (unhide J2 _ (unhide J3 _ (unhide J4 _ (unhide J5 _ (unhide J6 _ (unhide J7 _ (unhide J8 _ (unhide J9 _ (unhide HP))))))))))) ⟨RowT.other hS.1 fA0, RowT.other hS.2.1 fB0, RowT.other hS.2.2.1 fC0, RowT.other hS.2.2.2 fD0⟩ fun hS => ?_
      refine all_store (i := 9) (by kernel_rfl) rfl rfl rfl (RowT.other (unhide IZ1 _ (unhide J1 _ (unhide J2 _ (unhide J3 _ (unhide J4 _ (unhide J5 _ (unhide J6 _ (unhide J7 _ (unhide J8 _ (unhide J9 _ (unhide HP))))))))))) (zne _).1.1) ⟨RowT.other hS.1 fA1, RowT.other hS.2.1 fB1, RowT.other hS.2.2.1 fC1, RowT.other hS.2.2.2 fD1⟩ fun hS => ?_
      refine all_store (i := 10) (by kernel_rfl) rfl rfl rfl (RowT.other (RowT.other (unhide IZ2 _ (unhide J1 _ (unhide J2 _ (unhide J3 _ (unhide J4 _ (unhide J5 _ (unhide J6 _ (unhide J7 _ (unhide J8 _ (unhide J9 _ (unhide HP))))))))))) (zne _).1.2.1) (zne _).2.1.1) ⟨RowT.other hS.1 fA2, RowT.other hS.2.1 fB2, RowT.other hS.2.2.1 fC2, RowT.other hS.2.2.2 fD2⟩ fun hS => ?_
      refine all_store (i := 11) (by kernel_rfl) rfl rfl rfl (RowT.other (RowT.other (RowT.other (unhide IZ3 _ (unhide J1 _ (unhide J2 _ (unhide J3 _ (unhide J4 _ (unhide J5 _ (unhide J6 _ (unhide J7 _ (unhide J8 _ (unhide J9 _ (unhide HP))))))))))) (zne _).1.2.2) (zne _).2.1.2) (zne _).2.2) ⟨RowT.other hS.1 fA3, RowT.other hS.2.1 fB3, RowT.other hS.2.2.1 fC3, RowT.other hS.2.2.2 fD3⟩ fun hS => ?_
      refine all_assign (v := .string hs) (i := 12) (by kernel_rfl) rfl ?_ ?_ ?_
      · rfl
      · exact hS
      simp only [Act.put, List.setIfInBounds_toArray, List.set_cons_succ, List.set_cons_zero]
      refine all_assign (v := .int .i64 m) (i := 13) (by kernel_rfl) rfl ?_ ?_ ?_
      · rfl
      · exact hS
      refine wpAnyH_done (by kernel_rfl) ?_ _
      simp only [Act.put, List.setIfInBounds_toArray, List.set_cons_succ, List.set_cons_zero]
      go_wp2_with fail
      obtain ⟨r0, r1, r2, r3⟩ := fill_four (w := y2) (op0 := op0) (n0 := n0) (s0 := s0) (a0 := a0) (l0 := len0) (k0 := cap0) (op1 := op4) (n1 := n4) (s1 := s4) (a1 := a4) (l1 := len4) (k1 := cap4) (op2 := op6) (n2 := n6) (s2 := s6) (a2 := a6) (l2 := len6) (k2 := cap6) (op3 := op7) (n3 := n7) (s3 := s7) (a3 := a7) (l3 := len7) (k3 := cap7) (unhide IZ0 _ (unhide J1 _ (unhide J2 _ (unhide J3 _ (unhide J4 _ (unhide J5 _ (unhide J6 _ (unhide J7 _ (unhide J8 _ (unhide J9 _ (unhide HP))))))))))) (unhide IZ1 _ (unhide J1 _ (unhide J2 _ (unhide J3 _ (unhide J4 _ (unhide J5 _ (unhide J6 _ (unhide J7 _ (unhide J8 _ (unhide J9 _ (unhide HP))))))))))) (unhide IZ2 _ (unhide J1 _ (unhide J2 _ (unhide J3 _ (unhide J4 _ (unhide J5 _ (unhide J6 _ (unhide J7 _ (unhide J8 _ (unhide J9 _ (unhide HP))))))))))) (unhide IZ3 _ (unhide J1 _ (unhide J2 _ (unhide J3 _ (unhide J4 _ (unhide J5 _ (unhide J6 _ (unhide J7 _ (unhide J8 _ (unhide J9 _ (unhide HP)))))))))))
      exact bodyPost_ret (v := .tuple #[.agg #[.int .i64 op0, .int .i64 n0, .string s0, .slice a0 len0 cap0], .agg #[.int .i64 op4, .int .i64 n4, .string s4, .slice a4 len4 cap4], .agg #[.int .i64 op6, .int .i64 n6, .string s6, .slice a6 len6 cap6], .agg #[.int .i64 op7, .int .i64 n7, .string s7, .slice a7 len7 cap7], .string hs, .int .i64 m]) (results_cells4u Tryz.results22 rfl rfl rfl rfl (RowT.load r0) (RowT.load r1) (RowT.load r2) (RowT.load r3)) rfl ⟨T0, P, C, G, _, _, _, _, _, _, _, _, _, _, _, _, _, _, _, _, _, _, _, _, _, _, _, _, _, _, rfl, ⟨(fill_four_liesL (w := y2) (unhide QL0 _ (unhide J2 _ (unhide J3 _ (unhide J4 _ (unhide J5 _ (unhide J6 _ (unhide J7 _ (unhide J8 _ (unhide J9 _ (unhide HP)))))))))) (Nat.lt_trans (unhide HCN) (unhide M0))).any (Nat.zero_le _), unhide HZ0⟩, ⟨fill_four_z (w := y2) (unhide IZ0 _ (unhide J1 _ (unhide J2 _ (unhide J3 _ (unhide J4 _ (unhide J5 _ (unhide J6 _ (unhide J7 _ (unhide J8 _ (unhide J9 _ (unhide HP))))))))))) (unhide IZ1 _ (unhide J1 _ (unhide J2 _ (unhide J3 _ (unhide J4 _ (unhide J5 _ (unhide J6 _ (unhide J7 _ (unhide J8 _ (unhide J9 _ (unhide HP))))))))))) (unhide IZ2 _ (unhide J1 _ (unhide J2 _ (unhide J3 _ (unhide J4 _ (unhide J5 _ (unhide J6 _ (unhide J7 _ (unhide J8 _ (unhide J9 _ (unhide HP))))))))))) (unhide IZ3 _ (unhide J1 _ (unhide J2 _ (unhide J3 _ (unhide J4 _ (unhide J5 _ (unhide J6 _ (unhide J7 _ (unhide J8 _ (unhide J9 _ (unhide HP))))))))))) (unhide HK4) (unhide HL4), (unhide HK4).size⟩, ⟨fill_four_z (w := y2) (unhide IZ0 _ (unhide J1 _ (unhide J2 _ (unhide J3 _ (unhide J4 _ (unhide J5 _ (unhide J6 _ (unhide J7 _ (unhide J8 _ (unhide J9 _ (unhide HP))))))))))) (unhide IZ1 _ (unhide J1 _ (unhide J2 _ (unhide J3 _ (unhide J4 _ (unhide J5 _ (unhide J6 _ (unhide J7 _ (unhide J8 _ (unhide J9 _ (unhide HP))))))))))) (unhide IZ2 _ (unhide J1 _ (unhide J2 _ (unhide J3 _ (unhide J4 _ (unhide J5 _ (unhide J6 _ (unhide J7 _ (unhide J8 _ (unhide J9 _ (unhide HP))))))))))) (unhide IZ3 _ (unhide J1 _ (unhide J2 _ (unhide J3 _ (unhide J4 _ (unhide J5 _ (unhide J6 _ (unhide J7 _ (unhide J8 _ (unhide J9 _ (unhide HP))))))))))) (unhide HK6) (unhide HL6), (unhide HK6).size⟩, ⟨fill_four_z (w := y2) (unhide IZ0 _ (unhide J1 _ (unhide J2 _ (unhide J3 _ (unhide J4 _ (unhide J5 _ (unhide J6 _ (unhide J7 _ (unhide J8 _ (unhide J9 _ (unhide HP))))))))))) (unhide IZ1 _ (unhide J1 _ (unhide J2 _ (unhide J3 _ (unhide J4 _ (unhide J5 _ (unhide J6 _ (unhide J7 _ (unhide J8 _ (unhide J9 _ (unhide HP))))))))))) (unhide IZ2 _ (unhide J1 _ (unhide J2 _ (unhide J3 _ (unhide J4 _ (unhide J5 _ (unhide J6 _ (unhide J7 _ (unhide J8 _ (unhide J9 _ (unhide HP))))))))))) (unhide IZ3 _ (unhide J1 _ (unhide J2 _ (unhide J3 _ (unhide J4 _ (unhide J5 _ (unhide J6 _ (unhide J7 _ (unhide J8 _ (unhide J9 _ (unhide HP))))))))))) (unhide HK7) (unhide HL7), (unhide HK7).size⟩, fill_four_below (w := y2) (unhide IW _ (unhide J1 _ (unhide J2 _ (unhide J3 _ (unhide J4 _ (unhide J5 _ (unhide J6 _ (unhide J7 _ (unhide J8 _ (unhide J9 _ (unhide HP))))))))))) (Nat.le_refl _)⟩
    | false =>
      have x0 : v5.cell? ⟨v4.heap.size, 0, none⟩ = some (.string HD) := cell_of_row (j := 0) ((unhide QX _ (unhide HP))) (by simp)
      go_wp2_with fail
      clear x0
      have hd0 : Below v5.heap.size v5 v5.drew := (Below.refl _ _).drew
      have HPD := hide ((unhide CAR).1 _ _ (unhide HP) hd0)
      refine wp_region_held (S := fun y => RowT 29 y bA op0 n0 s0 a0 len0 cap0 ∧ RowT 29 y bP op4 n4 s4 a4 len4 cap4 ∧ RowT 29 y (bP + 1 + 1) op6 n6 s6 a6 len6 cap6 ∧ RowT 29 y (bP + 1 + 1 + 1) op7 n7 s7 a7 len7 cap7) (by kernel_rfl) ?_
      have hS : (fun y : World => RowT 29 y bA op0 n0 s0 a0 len0 cap0 ∧ RowT 29 y bP op4 n4 s4 a4 len4 cap4 ∧ RowT 29 y (bP + 1 + 1) op6 n6 s6 a6 len6 cap6 ∧ RowT 29 y (bP + 1 + 1 + 1) op7 n7 s7 a7 len7 cap7) v5.drew := ⟨(unhide QA _ (unhide J4 _ (unhide J5 _ (unhide J6 _ (unhide J7 _ (unhide J8 _ (unhide J9 _ (unhide HPD)))))))), (unhide QP _ (unhide J6 _ (unhide J7 _ (unhide J8 _ (unhide J9 _ (unhide HPD)))))), (unhide QC _ (unhide J8 _ (unhide J9 _ (unhide HPD)))), (unhide QG _ (unhide J9 _ (unhide HPD)))⟩
      show wpAnyH _ _ _ _ _ _ _ _ v5.drew
      replace HL4 := hide ((unhide HL4).below hd0)
      replace HL6 := hide ((unhide HL6).below hd0)
      replace HL7 := hide ((unhide HL7).below hd0)
      replace HC := hide (unhide HC).drew
      replace HP := HPD
      clear HPD hd0
      generalize v5.drew = y0 at *
      refine take_load (i := 0) rfl rfl (fun y h => h.1) (by kernel_rfl) (by kernel_rfl) (by kernel_rfl) (fun _ _ _ _ h => h) hS ?_
      simp only [Act.put, List.setIfInBounds_toArray, List.set_cons_succ, List.set_cons_zero]
      refine take_load (i := 1) rfl rfl (fun y h => h.2.1) (by kernel_rfl) (by kernel_rfl) (by kernel_rfl) (fun _ _ _ _ h => h) hS ?_
      simp only [Act.put, List.setIfInBounds_toArray, List.set_cons_succ, List.set_cons_zero]
      refine take_load (i := 2) rfl rfl (fun y h => h.2.2.1) (by kernel_rfl) (by kernel_rfl) (by kernel_rfl) (fun _ _ _ _ h => h) hS ?_
      simp only [Act.put, List.setIfInBounds_toArray, List.set_cons_succ, List.set_cons_zero]
      refine take_load (i := 3) rfl rfl (fun y h => h.2.2.2) (by kernel_rfl) (by kernel_rfl) (by kernel_rfl) (fun _ _ _ _ h => h) hS ?_
      simp only [Act.put, List.setIfInBounds_toArray, List.set_cons_succ, List.set_cons_zero]
      refine take_move (v := .string HD) (i := 4) rfl rfl (by kernel_rfl) (by kernel_rfl) (by kernel_rfl) (fun _ _ _ _ h => h) hS ?_
      simp only [Act.put, List.setIfInBounds_toArray, List.set_cons_succ, List.set_cons_zero]
      refine take_move (v := .pointer (some ⟨c, 0, none⟩)) (i := 5) rfl rfl (by kernel_rfl) (by kernel_rfl) (by kernel_rfl) (fun _ _ _ _ h => h) hS ?_
      simp only [Act.put, List.setIfInBounds_toArray, List.set_cons_succ, List.set_cons_zero]
      refine wpAnyH_all (rs := [6]) (by kernel_rfl) (by simp) fun j hj => ?_
      obtain rfl : j = 6 := by simpa using hj
      refine step_three rfl ?_
      have hp := ab (w := y0) (.cells #[.int .i64 0, .int .i64 5, .int .i64 6] 3)
      have hrow := blk_new y0 (.cells #[.int .i64 0, .int .i64 5, .int .i64 6] 3)
      have hcy := (unhide HC).lt
      replace HP := hide ((unhide CAR).1 _ _ (unhide HP) hp)
      replace HC := hide ((unhide HC).below hp)
      replace HL4 := hide ((unhide HL4).below hp)
      replace HL6 := hide ((unhide HL6).below hp)
      replace HL7 := hide ((unhide HL7).below hp)
      refine ⟨⟨(unhide QA _ (unhide J4 _ (unhide J5 _ (unhide J6 _ (unhide J7 _ (unhide J8 _ (unhide J9 _ (unhide HP)))))))), (unhide QP _ (unhide J6 _ (unhide J7 _ (unhide J8 _ (unhide J9 _ (unhide HP)))))), (unhide QC _ (unhide J8 _ (unhide J9 _ (unhide HP)))), (unhide QG _ (unhide J9 _ (unhide HP)))⟩, ?_⟩
      simp only [Act.put, List.setIfInBounds_toArray, List.set_cons_succ, List.set_cons_zero]
      clear hp
      obtain ⟨b3, hb3⟩ : ∃ b, b = y0.heap.size := ⟨_, rfl⟩
      rw [← hb3] at hrow hcy ⊢
      clear hb3
      generalize y0.alloc (.cells #[.int .i64 0, .int .i64 5, .int .i64 6] 3) = y1 at *
      have hpk := hide (unhide hPi b3 3 3 y1 (unhide HC) (by omega) (by decide) (by decide) (by decide) (by decide) (three_cells hrow))
      clear hrow
      refine wpAnyH_all (rs := [7]) (by kernel_rfl) (by simp) fun j hj => ?_
      obtain rfl : j = 7 := by simpa using hj
      refine step_call rfl Tryz.func87 (by kernel_rfl) (by kernel_rfl) ?_
      simp only [List.map_toArray, List.map_cons, List.map_nil]
      refine (unhide hpk).mono ?_
      rintro q y2 ⟨m, rfl, -, hc2, ho2⟩
      replace HL4 := hide ((unhide HL4).turn (unhide HC) ho2)
      replace HL6 := hide ((unhide HL6).turn (unhide HC) ho2)
      replace HL7 := hide ((unhide HL7).turn (unhide HC) ho2)
      replace HP := hide ((unhide CAR).2 _ _ (unhide HP) ho2)
      replace HC := hide hc2
      clear hc2 ho2
      refine ⟨_, rfl, ⟨(unhide QA _ (unhide J4 _ (unhide J5 _ (unhide J6 _ (unhide J7 _ (unhide J8 _ (unhide J9 _ (unhide HP)))))))), (unhide QP _ (unhide J6 _ (unhide J7 _ (unhide J8 _ (unhide J9 _ (unhide HP)))))), (unhide QC _ (unhide J8 _ (unhide J9 _ (unhide HP)))), (unhide QG _ (unhide J9 _ (unhide HP)))⟩, ?_⟩
      simp only [Act.put, List.setIfInBounds_toArray, List.set_cons_succ, List.set_cons_zero]
      have hS : (fun y : World => RowT 29 y bA op0 n0 s0 a0 len0 cap0 ∧ RowT 29 y bP op4 n4 s4 a4 len4 cap4 ∧ RowT 29 y (bP + 1 + 1) op6 n6 s6 a6 len6 cap6 ∧ RowT 29 y (bP + 1 + 1 + 1) op7 n7 s7 a7 len7 cap7) y2 := ⟨(unhide QA _ (unhide J4 _ (unhide J5 _ (unhide J6 _ (unhide J7 _ (unhide J8 _ (unhide J9 _ (unhide HP)))))))), (unhide QP _ (unhide J6 _ (unhide J7 _ (unhide J8 _ (unhide J9 _ (unhide HP)))))), (unhide QC _ (unhide J8 _ (unhide J9 _ (unhide HP)))), (unhide QG _ (unhide J9 _ (unhide HP)))⟩
      obtain ⟨fA0, fA1, fA2, fA3⟩ := far5 (unhide HCN) (unhide MbA)
      obtain ⟨fB0, fB1, fB2, fB3⟩ := far5 (unhide HCN) (unhide MbP)
      obtain ⟨fC0, fC1, fC2, fC3⟩ := far5 (unhide HCN) (show c < bP + 1 + 1 from Nat.lt_succ_of_lt (Nat.lt_succ_of_lt (unhide MbP)))
      obtain ⟨fD0, fD1, fD2, fD3⟩ := far5 (unhide HCN) (show c < bP + 1 + 1 + 1 from Nat.lt_succ_of_lt (Nat.lt_succ_of_lt (Nat.lt_succ_of_lt (unhide MbP))))
      refine all_store (i := 8) (by kernel_rfl) rfl rfl rfl (unhide IZ0 _ (unhide J1 _ (unhide J2 _ (unhide J3 _ (unhide J4 _ (unhide J5 _ (unhide J6 _ (unhide J7 _ (unhide J8 _ (unhide J9 _ (unhide HP))))))))))) ⟨RowT.other hS.1 fA0, RowT.other hS.2.1 fB0, RowT.other hS.2.2.1 fC0, RowT.other hS.2.2.2 fD0⟩ fun hS => ?_
      refine all_store (i := 9) (by kernel_rfl) rfl rfl rfl (RowT.other (unhide IZ1 _ (unhide J1 _ (unhide J2 _ (unhide J3 _ (unhide J4 _ (unhide J5 _ (unhide J6 _ (unhide J7 _ (unhide J8 _ (unhide J9 _ (unhide HP))))))))))) (zne _).1.1) ⟨RowT.other hS.1 fA1, RowT.other hS.2.1 fB1, RowT.other hS.2.2.1 fC1, RowT.other hS.2.2.2 fD1⟩ fun hS => ?_
      refine all_store (i := 10) (by kernel_rfl) rfl rfl rfl (RowT.other (RowT.other (unhide IZ2 _ (unhide J1 _ (unhide J2 _ (unhide J3 _ (unhide J4 _ (unhide J5 _ (unhide J6 _ (unhide J7 _ (unhide J8 _ (unhide J9 _ (unhide HP))))))))))) (zne _).1.2.1) (zne _).2.1.1) ⟨RowT.other hS.1 fA2, RowT.other hS.2.1 fB2, RowT.other hS.2.2.1 fC2, RowT.other hS.2.2.2 fD2⟩ fun hS => ?_
      refine all_store (i := 11) (by kernel_rfl) rfl rfl rfl (RowT.other (RowT.other (RowT.other (unhide IZ3 _ (unhide J1 _ (unhide J2 _ (unhide J3 _ (unhide J4 _ (unhide J5 _ (unhide J6 _ (unhide J7 _ (unhide J8 _ (unhide J9 _ (unhide HP))))))))))) (zne _).1.2.2) (zne _).2.1.2) (zne _).2.2) ⟨RowT.other hS.1 fA3, RowT.other hS.2.1 fB3, RowT.other hS.2.2.1 fC3, RowT.other hS.2.2.2 fD3⟩ fun hS => ?_
      refine all_assign (v := .string HD) (i := 12) (by kernel_rfl) rfl ?_ ?_ ?_
      · rfl
      · exact hS
      simp only [Act.put, List.setIfInBounds_toArray, List.set_cons_succ, List.set_cons_zero]
      refine all_assign (v := .int .i64 m) (i := 13) (by kernel_rfl) rfl ?_ ?_ ?_
      · rfl
      · exact hS
      refine wpAnyH_done (by kernel_rfl) ?_ _
      simp only [Act.put, List.setIfInBounds_toArray, List.set_cons_succ, List.set_cons_zero]
      go_wp2_with fail
      obtain ⟨r0, r1, r2, r3⟩ := fill_four (w := y2) (op0 := op0) (n0 := n0) (s0 := s0) (a0 := a0) (l0 := len0) (k0 := cap0) (op1 := op4) (n1 := n4) (s1 := s4) (a1 := a4) (l1 := len4) (k1 := cap4) (op2 := op6) (n2 := n6) (s2 := s6) (a2 := a6) (l2 := len6) (k2 := cap6) (op3 := op7) (n3 := n7) (s3 := s7) (a3 := a7) (l3 := len7) (k3 := cap7) (unhide IZ0 _ (unhide J1 _ (unhide J2 _ (unhide J3 _ (unhide J4 _ (unhide J5 _ (unhide J6 _ (unhide J7 _ (unhide J8 _ (unhide J9 _ (unhide HP))))))))))) (unhide IZ1 _ (unhide J1 _ (unhide J2 _ (unhide J3 _ (unhide J4 _ (unhide J5 _ (unhide J6 _ (unhide J7 _ (unhide J8 _ (unhide J9 _ (unhide HP))))))))))) (unhide IZ2 _ (unhide J1 _ (unhide J2 _ (unhide J3 _ (unhide J4 _ (unhide J5 _ (unhide J6 _ (unhide J7 _ (unhide J8 _ (unhide J9 _ (unhide HP))))))))))) (unhide IZ3 _ (unhide J1 _ (unhide J2 _ (unhide J3 _ (unhide J4 _ (unhide J5 _ (unhide J6 _ (unhide J7 _ (unhide J8 _ (unhide J9 _ (unhide HP)))))))))))
      exact bodyPost_ret (v := .tuple #[.agg #[.int .i64 op0, .int .i64 n0, .string s0, .slice a0 len0 cap0], .agg #[.int .i64 op4, .int .i64 n4, .string s4, .slice a4 len4 cap4], .agg #[.int .i64 op6, .int .i64 n6, .string s6, .slice a6 len6 cap6], .agg #[.int .i64 op7, .int .i64 n7, .string s7, .slice a7 len7 cap7], .string HD, .int .i64 m]) (results_cells4u Tryz.results22 rfl rfl rfl rfl (RowT.load r0) (RowT.load r1) (RowT.load r2) (RowT.load r3)) rfl ⟨T0, P, C, G, _, _, _, _, _, _, _, _, _, _, _, _, _, _, _, _, _, _, _, _, _, _, _, _, _, _, rfl, ⟨(fill_four_liesL (w := y2) (unhide QL0 _ (unhide J2 _ (unhide J3 _ (unhide J4 _ (unhide J5 _ (unhide J6 _ (unhide J7 _ (unhide J8 _ (unhide J9 _ (unhide HP)))))))))) (Nat.lt_trans (unhide HCN) (unhide M0))).any (Nat.zero_le _), unhide HZ0⟩, ⟨fill_four_z (w := y2) (unhide IZ0 _ (unhide J1 _ (unhide J2 _ (unhide J3 _ (unhide J4 _ (unhide J5 _ (unhide J6 _ (unhide J7 _ (unhide J8 _ (unhide J9 _ (unhide HP))))))))))) (unhide IZ1 _ (unhide J1 _ (unhide J2 _ (unhide J3 _ (unhide J4 _ (unhide J5 _ (unhide J6 _ (unhide J7 _ (unhide J8 _ (unhide J9 _ (unhide HP))))))))))) (unhide IZ2 _ (unhide J1 _ (unhide J2 _ (unhide J3 _ (unhide J4 _ (unhide J5 _ (unhide J6 _ (unhide J7 _ (unhide J8 _ (unhide J9 _ (unhide HP))))))))))) (unhide IZ3 _ (unhide J1 _ (unhide J2 _ (unhide J3 _ (unhide J4 _ (unhide J5 _ (unhide J6 _ (unhide J7 _ (unhide J8 _ (unhide J9 _ (unhide HP))))))))))) (unhide HK4) (unhide HL4), (unhide HK4).size⟩, ⟨fill_four_z (w := y2) (unhide IZ0 _ (unhide J1 _ (unhide J2 _ (unhide J3 _ (unhide J4 _ (unhide J5 _ (unhide J6 _ (unhide J7 _ (unhide J8 _ (unhide J9 _ (unhide HP))))))))))) (unhide IZ1 _ (unhide J1 _ (unhide J2 _ (unhide J3 _ (unhide J4 _ (unhide J5 _ (unhide J6 _ (unhide J7 _ (unhide J8 _ (unhide J9 _ (unhide HP))))))))))) (unhide IZ2 _ (unhide J1 _ (unhide J2 _ (unhide J3 _ (unhide J4 _ (unhide J5 _ (unhide J6 _ (unhide J7 _ (unhide J8 _ (unhide J9 _ (unhide HP))))))))))) (unhide IZ3 _ (unhide J1 _ (unhide J2 _ (unhide J3 _ (unhide J4 _ (unhide J5 _ (unhide J6 _ (unhide J7 _ (unhide J8 _ (unhide J9 _ (unhide HP))))))))))) (unhide HK6) (unhide HL6), (unhide HK6).size⟩, ⟨fill_four_z (w := y2) (unhide IZ0 _ (unhide J1 _ (unhide J2 _ (unhide J3 _ (unhide J4 _ (unhide J5 _ (unhide J6 _ (unhide J7 _ (unhide J8 _ (unhide J9 _ (unhide HP))))))))))) (unhide IZ1 _ (unhide J1 _ (unhide J2 _ (unhide J3 _ (unhide J4 _ (unhide J5 _ (unhide J6 _ (unhide J7 _ (unhide J8 _ (unhide J9 _ (unhide HP))))))))))) (unhide IZ2 _ (unhide J1 _ (unhide J2 _ (unhide J3 _ (unhide J4 _ (unhide J5 _ (unhide J6 _ (unhide J7 _ (unhide J8 _ (unhide J9 _ (unhide HP))))))))))) (unhide IZ3 _ (unhide J1 _ (unhide J2 _ (unhide J3 _ (unhide J4 _ (unhide J5 _ (unhide J6 _ (unhide J7 _ (unhide J8 _ (unhide J9 _ (unhide HP))))))))))) (unhide HK7) (unhide HL7), (unhide HK7).size⟩, fill_four_below (w := y2) (unhide IW _ (unhide J1 _ (unhide J2 _ (unhide J3 _ (unhide J4 _ (unhide J5 _ (unhide J6 _ (unhide J7 _ (unhide J8 _ (unhide J9 _ (unhide HP))))))))))) (Nat.le_refl _)⟩
  | false =>
    go_wp2_with fail
    generalize hgw : v4.alloc (.cells #[.string HD, .int .i64 op8, .int .i64 n8, .string s8, .slice a8 len8 cap8, .int .i64 VD] 57) = V4 at *
    clear hgw
    have hd0 : Below V4.heap.size V4 V4.drew := (Below.refl _ _).drew
    have HPD := hide ((unhide CAR).1 _ _ (unhide HP) hd0)
    refine wp_region_held (S := fun y => RowT 29 y bA op0 n0 s0 a0 len0 cap0 ∧ RowT 29 y bP op4 n4 s4 a4 len4 cap4 ∧ RowT 29 y (bP + 1 + 1) op6 n6 s6 a6 len6 cap6 ∧ RowT 29 y (bP + 1 + 1 + 1) op7 n7 s7 a7 len7 cap7) (by kernel_rfl) ?_
    have hS : (fun y : World => RowT 29 y bA op0 n0 s0 a0 len0 cap0 ∧ RowT 29 y bP op4 n4 s4 a4 len4 cap4 ∧ RowT 29 y (bP + 1 + 1) op6 n6 s6 a6 len6 cap6 ∧ RowT 29 y (bP + 1 + 1 + 1) op7 n7 s7 a7 len7 cap7) V4.drew := ⟨(unhide QA _ (unhide J4 _ (unhide J5 _ (unhide J6 _ (unhide J7 _ (unhide J8 _ (unhide J9 _ (unhide HPD)))))))), (unhide QP _ (unhide J6 _ (unhide J7 _ (unhide J8 _ (unhide J9 _ (unhide HPD)))))), (unhide QC _ (unhide J8 _ (unhide J9 _ (unhide HPD)))), (unhide QG _ (unhide J9 _ (unhide HPD)))⟩
    show wpAnyH _ _ _ _ _ _ _ _ V4.drew
    replace HL4 := hide ((unhide HL4).below hd0)
    replace HL6 := hide ((unhide HL6).below hd0)
    replace HL7 := hide ((unhide HL7).below hd0)
    replace HC := hide (unhide HC).drew
    replace HP := HPD
    clear HPD hd0
    generalize V4.drew = y0 at *
    refine take_load (i := 0) rfl rfl (fun y h => h.1) (by kernel_rfl) (by kernel_rfl) (by kernel_rfl) (fun _ _ _ _ h => h) hS ?_
    simp only [Act.put, List.setIfInBounds_toArray, List.set_cons_succ, List.set_cons_zero]
    refine take_load (i := 1) rfl rfl (fun y h => h.2.1) (by kernel_rfl) (by kernel_rfl) (by kernel_rfl) (fun _ _ _ _ h => h) hS ?_
    simp only [Act.put, List.setIfInBounds_toArray, List.set_cons_succ, List.set_cons_zero]
    refine take_load (i := 2) rfl rfl (fun y h => h.2.2.1) (by kernel_rfl) (by kernel_rfl) (by kernel_rfl) (fun _ _ _ _ h => h) hS ?_
    simp only [Act.put, List.setIfInBounds_toArray, List.set_cons_succ, List.set_cons_zero]
    refine take_load (i := 3) rfl rfl (fun y h => h.2.2.2) (by kernel_rfl) (by kernel_rfl) (by kernel_rfl) (fun _ _ _ _ h => h) hS ?_
    simp only [Act.put, List.setIfInBounds_toArray, List.set_cons_succ, List.set_cons_zero]
    refine take_move (v := .string hs) (i := 4) rfl rfl (by kernel_rfl) (by kernel_rfl) (by kernel_rfl) (fun _ _ _ _ h => h) hS ?_
    simp only [Act.put, List.setIfInBounds_toArray, List.set_cons_succ, List.set_cons_zero]
    refine take_move (v := .pointer (some ⟨c, 0, none⟩)) (i := 5) rfl rfl (by kernel_rfl) (by kernel_rfl) (by kernel_rfl) (fun _ _ _ _ h => h) hS ?_
    simp only [Act.put, List.setIfInBounds_toArray, List.set_cons_succ, List.set_cons_zero]
    refine wpAnyH_all (rs := [6]) (by kernel_rfl) (by simp) fun j hj => ?_
    obtain rfl : j = 6 := by simpa using hj
    refine step_three rfl ?_
    have hp := ab (w := y0) (.cells #[.int .i64 0, .int .i64 5, .int .i64 6] 3)
    have hrow := blk_new y0 (.cells #[.int .i64 0, .int .i64 5, .int .i64 6] 3)
    have hcy := (unhide HC).lt
    replace HP := hide ((unhide CAR).1 _ _ (unhide HP) hp)
    replace HC := hide ((unhide HC).below hp)
    replace HL4 := hide ((unhide HL4).below hp)
    replace HL6 := hide ((unhide HL6).below hp)
    replace HL7 := hide ((unhide HL7).below hp)
    refine ⟨⟨(unhide QA _ (unhide J4 _ (unhide J5 _ (unhide J6 _ (unhide J7 _ (unhide J8 _ (unhide J9 _ (unhide HP)))))))), (unhide QP _ (unhide J6 _ (unhide J7 _ (unhide J8 _ (unhide J9 _ (unhide HP)))))), (unhide QC _ (unhide J8 _ (unhide J9 _ (unhide HP)))), (unhide QG _ (unhide J9 _ (unhide HP)))⟩, ?_⟩
    simp only [Act.put, List.setIfInBounds_toArray, List.set_cons_succ, List.set_cons_zero]
    clear hp
    obtain ⟨b3, hb3⟩ : ∃ b, b = y0.heap.size := ⟨_, rfl⟩
    rw [← hb3] at hrow hcy ⊢
    clear hb3
    generalize y0.alloc (.cells #[.int .i64 0, .int .i64 5, .int .i64 6] 3) = y1 at *
    have hpk := hide (unhide hPi b3 3 3 y1 (unhide HC) (by omega) (by decide) (by decide) (by decide) (by decide) (three_cells hrow))
    clear hrow
    refine wpAnyH_all (rs := [7]) (by kernel_rfl) (by simp) fun j hj => ?_
    obtain rfl : j = 7 := by simpa using hj
    refine step_call rfl Tryz.func87 (by kernel_rfl) (by kernel_rfl) ?_
    simp only [List.map_toArray, List.map_cons, List.map_nil]
    refine (unhide hpk).mono ?_
    rintro q y2 ⟨m, rfl, -, hc2, ho2⟩
    replace HL4 := hide ((unhide HL4).turn (unhide HC) ho2)
    replace HL6 := hide ((unhide HL6).turn (unhide HC) ho2)
    replace HL7 := hide ((unhide HL7).turn (unhide HC) ho2)
    replace HP := hide ((unhide CAR).2 _ _ (unhide HP) ho2)
    replace HC := hide hc2
    clear hc2 ho2
    refine ⟨_, rfl, ⟨(unhide QA _ (unhide J4 _ (unhide J5 _ (unhide J6 _ (unhide J7 _ (unhide J8 _ (unhide J9 _ (unhide HP)))))))), (unhide QP _ (unhide J6 _ (unhide J7 _ (unhide J8 _ (unhide J9 _ (unhide HP)))))), (unhide QC _ (unhide J8 _ (unhide J9 _ (unhide HP)))), (unhide QG _ (unhide J9 _ (unhide HP)))⟩, ?_⟩
    simp only [Act.put, List.setIfInBounds_toArray, List.set_cons_succ, List.set_cons_zero]
    have hS : (fun y : World => RowT 29 y bA op0 n0 s0 a0 len0 cap0 ∧ RowT 29 y bP op4 n4 s4 a4 len4 cap4 ∧ RowT 29 y (bP + 1 + 1) op6 n6 s6 a6 len6 cap6 ∧ RowT 29 y (bP + 1 + 1 + 1) op7 n7 s7 a7 len7 cap7) y2 := ⟨(unhide QA _ (unhide J4 _ (unhide J5 _ (unhide J6 _ (unhide J7 _ (unhide J8 _ (unhide J9 _ (unhide HP)))))))), (unhide QP _ (unhide J6 _ (unhide J7 _ (unhide J8 _ (unhide J9 _ (unhide HP)))))), (unhide QC _ (unhide J8 _ (unhide J9 _ (unhide HP)))), (unhide QG _ (unhide J9 _ (unhide HP)))⟩
    obtain ⟨fA0, fA1, fA2, fA3⟩ := far5 (unhide HCN) (unhide MbA)
    obtain ⟨fB0, fB1, fB2, fB3⟩ := far5 (unhide HCN) (unhide MbP)
    obtain ⟨fC0, fC1, fC2, fC3⟩ := far5 (unhide HCN) (show c < bP + 1 + 1 from Nat.lt_succ_of_lt (Nat.lt_succ_of_lt (unhide MbP)))
    obtain ⟨fD0, fD1, fD2, fD3⟩ := far5 (unhide HCN) (show c < bP + 1 + 1 + 1 from Nat.lt_succ_of_lt (Nat.lt_succ_of_lt (Nat.lt_succ_of_lt (unhide MbP))))
    refine all_store (i := 8) (by kernel_rfl) rfl rfl rfl (unhide IZ0 _ (unhide J1 _ (unhide J2 _ (unhide J3 _ (unhide J4 _ (unhide J5 _ (unhide J6 _ (unhide J7 _ (unhide J8 _ (unhide J9 _ (unhide HP))))))))))) ⟨RowT.other hS.1 fA0, RowT.other hS.2.1 fB0, RowT.other hS.2.2.1 fC0, RowT.other hS.2.2.2 fD0⟩ fun hS => ?_
    refine all_store (i := 9) (by kernel_rfl) rfl rfl rfl (RowT.other (unhide IZ1 _ (unhide J1 _ (unhide J2 _ (unhide J3 _ (unhide J4 _ (unhide J5 _ (unhide J6 _ (unhide J7 _ (unhide J8 _ (unhide J9 _ (unhide HP))))))))))) (zne _).1.1) ⟨RowT.other hS.1 fA1, RowT.other hS.2.1 fB1, RowT.other hS.2.2.1 fC1, RowT.other hS.2.2.2 fD1⟩ fun hS => ?_
    refine all_store (i := 10) (by kernel_rfl) rfl rfl rfl (RowT.other (RowT.other (unhide IZ2 _ (unhide J1 _ (unhide J2 _ (unhide J3 _ (unhide J4 _ (unhide J5 _ (unhide J6 _ (unhide J7 _ (unhide J8 _ (unhide J9 _ (unhide HP))))))))))) (zne _).1.2.1) (zne _).2.1.1) ⟨RowT.other hS.1 fA2, RowT.other hS.2.1 fB2, RowT.other hS.2.2.1 fC2, RowT.other hS.2.2.2 fD2⟩ fun hS => ?_
    refine all_store (i := 11) (by kernel_rfl) rfl rfl rfl (RowT.other (RowT.other (RowT.other (unhide IZ3 _ (unhide J1 _ (unhide J2 _ (unhide J3 _ (unhide J4 _ (unhide J5 _ (unhide J6 _ (unhide J7 _ (unhide J8 _ (unhide J9 _ (unhide HP))))))))))) (zne _).1.2.2) (zne _).2.1.2) (zne _).2.2) ⟨RowT.other hS.1 fA3, RowT.other hS.2.1 fB3, RowT.other hS.2.2.1 fC3, RowT.other hS.2.2.2 fD3⟩ fun hS => ?_
    refine all_assign (v := .string hs) (i := 12) (by kernel_rfl) rfl ?_ ?_ ?_
    · rfl
    · exact hS
    simp only [Act.put, List.setIfInBounds_toArray, List.set_cons_succ, List.set_cons_zero]
    refine all_assign (v := .int .i64 m) (i := 13) (by kernel_rfl) rfl ?_ ?_ ?_
    · rfl
    · exact hS
    refine wpAnyH_done (by kernel_rfl) ?_ _
    simp only [Act.put, List.setIfInBounds_toArray, List.set_cons_succ, List.set_cons_zero]
    go_wp2_with fail
    obtain ⟨r0, r1, r2, r3⟩ := fill_four (w := y2) (op0 := op0) (n0 := n0) (s0 := s0) (a0 := a0) (l0 := len0) (k0 := cap0) (op1 := op4) (n1 := n4) (s1 := s4) (a1 := a4) (l1 := len4) (k1 := cap4) (op2 := op6) (n2 := n6) (s2 := s6) (a2 := a6) (l2 := len6) (k2 := cap6) (op3 := op7) (n3 := n7) (s3 := s7) (a3 := a7) (l3 := len7) (k3 := cap7) (unhide IZ0 _ (unhide J1 _ (unhide J2 _ (unhide J3 _ (unhide J4 _ (unhide J5 _ (unhide J6 _ (unhide J7 _ (unhide J8 _ (unhide J9 _ (unhide HP))))))))))) (unhide IZ1 _ (unhide J1 _ (unhide J2 _ (unhide J3 _ (unhide J4 _ (unhide J5 _ (unhide J6 _ (unhide J7 _ (unhide J8 _ (unhide J9 _ (unhide HP))))))))))) (unhide IZ2 _ (unhide J1 _ (unhide J2 _ (unhide J3 _ (unhide J4 _ (unhide J5 _ (unhide J6 _ (unhide J7 _ (unhide J8 _ (unhide J9 _ (unhide HP))))))))))) (unhide IZ3 _ (unhide J1 _ (unhide J2 _ (unhide J3 _ (unhide J4 _ (unhide J5 _ (unhide J6 _ (unhide J7 _ (unhide J8 _ (unhide J9 _ (unhide HP)))))))))))
    exact bodyPost_ret (v := .tuple #[.agg #[.int .i64 op0, .int .i64 n0, .string s0, .slice a0 len0 cap0], .agg #[.int .i64 op4, .int .i64 n4, .string s4, .slice a4 len4 cap4], .agg #[.int .i64 op6, .int .i64 n6, .string s6, .slice a6 len6 cap6], .agg #[.int .i64 op7, .int .i64 n7, .string s7, .slice a7 len7 cap7], .string hs, .int .i64 m]) (results_cells4u Tryz.results22 rfl rfl rfl rfl (RowT.load r0) (RowT.load r1) (RowT.load r2) (RowT.load r3)) rfl ⟨T0, P, C, G, _, _, _, _, _, _, _, _, _, _, _, _, _, _, _, _, _, _, _, _, _, _, _, _, _, _, rfl, ⟨(fill_four_liesL (w := y2) (unhide QL0 _ (unhide J2 _ (unhide J3 _ (unhide J4 _ (unhide J5 _ (unhide J6 _ (unhide J7 _ (unhide J8 _ (unhide J9 _ (unhide HP)))))))))) (Nat.lt_trans (unhide HCN) (unhide M0))).any (Nat.zero_le _), unhide HZ0⟩, ⟨fill_four_z (w := y2) (unhide IZ0 _ (unhide J1 _ (unhide J2 _ (unhide J3 _ (unhide J4 _ (unhide J5 _ (unhide J6 _ (unhide J7 _ (unhide J8 _ (unhide J9 _ (unhide HP))))))))))) (unhide IZ1 _ (unhide J1 _ (unhide J2 _ (unhide J3 _ (unhide J4 _ (unhide J5 _ (unhide J6 _ (unhide J7 _ (unhide J8 _ (unhide J9 _ (unhide HP))))))))))) (unhide IZ2 _ (unhide J1 _ (unhide J2 _ (unhide J3 _ (unhide J4 _ (unhide J5 _ (unhide J6 _ (unhide J7 _ (unhide J8 _ (unhide J9 _ (unhide HP))))))))))) (unhide IZ3 _ (unhide J1 _ (unhide J2 _ (unhide J3 _ (unhide J4 _ (unhide J5 _ (unhide J6 _ (unhide J7 _ (unhide J8 _ (unhide J9 _ (unhide HP))))))))))) (unhide HK4) (unhide HL4), (unhide HK4).size⟩, ⟨fill_four_z (w := y2) (unhide IZ0 _ (unhide J1 _ (unhide J2 _ (unhide J3 _ (unhide J4 _ (unhide J5 _ (unhide J6 _ (unhide J7 _ (unhide J8 _ (unhide J9 _ (unhide HP))))))))))) (unhide IZ1 _ (unhide J1 _ (unhide J2 _ (unhide J3 _ (unhide J4 _ (unhide J5 _ (unhide J6 _ (unhide J7 _ (unhide J8 _ (unhide J9 _ (unhide HP))))))))))) (unhide IZ2 _ (unhide J1 _ (unhide J2 _ (unhide J3 _ (unhide J4 _ (unhide J5 _ (unhide J6 _ (unhide J7 _ (unhide J8 _ (unhide J9 _ (unhide HP))))))))))) (unhide IZ3 _ (unhide J1 _ (unhide J2 _ (unhide J3 _ (unhide J4 _ (unhide J5 _ (unhide J6 _ (unhide J7 _ (unhide J8 _ (unhide J9 _ (unhide HP))))))))))) (unhide HK6) (unhide HL6), (unhide HK6).size⟩, ⟨fill_four_z (w := y2) (unhide IZ0 _ (unhide J1 _ (unhide J2 _ (unhide J3 _ (unhide J4 _ (unhide J5 _ (unhide J6 _ (unhide J7 _ (unhide J8 _ (unhide J9 _ (unhide HP))))))))))) (unhide IZ1 _ (unhide J1 _ (unhide J2 _ (unhide J3 _ (unhide J4 _ (unhide J5 _ (unhide J6 _ (unhide J7 _ (unhide J8 _ (unhide J9 _ (unhide HP))))))))))) (unhide IZ2 _ (unhide J1 _ (unhide J2 _ (unhide J3 _ (unhide J4 _ (unhide J5 _ (unhide J6 _ (unhide J7 _ (unhide J8 _ (unhide J9 _ (unhide HP))))))))))) (unhide IZ3 _ (unhide J1 _ (unhide J2 _ (unhide J3 _ (unhide J4 _ (unhide J5 _ (unhide J6 _ (unhide J7 _ (unhide J8 _ (unhide J9 _ (unhide HP))))))))))) (unhide HK7) (unhide HL7), (unhide HK7).size⟩, fill_four_below (w := y2) (unhide IW _ (unhide J1 _ (unhide J2 _ (unhide J3 _ (unhide J4 _ (unhide J5 _ (unhide J6 _ (unhide J7 _ (unhide J8 _ (unhide J9 _ (unhide HP))))))))))) (Nat.le_refl _)⟩

end Go.Proofs.YtmklgikbajhcpaaGreatDoor
