/- Draws of a secret and of what a reply is made of: four terms of so many at most; nothing that was there is written. -/
import Derived.Test.YtmklgikbajhcpaaGreatDoorDe
import Derived.Test.YtmklgikbajhcpaaGreatDoorOq
namespace Go.Proofs.YtmklgikbajhcpaaGreatDoor
open Go.RowKit Go.Deep

theorem atom20 (x : Int) (h0 : 0 ≤ x) (h1 : x < 3) (w : World) : Calls Tryz.prog 67 #[.int .i64 (20 + x)] w fun e w' => e = .returned (.agg #[.int .i64 1, .int .i64 (20 + x), .string ByteArray.empty, .slice none 0 0]) ∧ Below w.heap.size w w' := by
  have hok : okT (.node 1 (20 + x) ByteArray.empty []) = true := by
    rcases (by omega : x = 0 ∨ x = 1 ∨ x = 2) with rfl | rfl | rfl <;> decide
  refine (atom6 (20 + x) w (WalkArith.wf_i64 (by omega))).mono ?_
  rintro e w' ⟨he, hb⟩
  rw [show atOp (20 + x) = 1 from if_pos hok, show atN (20 + x) = 20 + x from if_pos hok] at he
  exact ⟨he, hb⟩
theorem nin {b c : Nat} (h : b ≠ c) : b ∉ [c] := by simpa using h

theorem results_box1 {P : Program} {fn : Func} {c0 : Tmp} {t0 : TypeId} (h : fn.results = #[.cell c0 t0]) {tmps : Array Value} {w : World} {v0 : Value} {b0 : Addr} (p0 : tmps.getD c0 undef = .pointer (some b0)) (l0 : (loadVar t0 b0).run P w = .ok v0 w) :
    (results fn tmps).run P w = .ok v0 w := by
  have p0' : tmps[c0]?.getD undef = .pointer (some b0) := by simpa using p0
  simp [results, h, p0', l0, asAddr]

set_option maxRecDepth 100000 in
set_option maxHeartbeats 2000000 in
theorem atom_draw (c : Nat) (w : World) (hc : Cur w c) :
    Calls Tryz.prog 66 #[.pointer (some ⟨c, 0, none⟩)] w fun e w' => ∃ x, e = .returned (.agg #[.int .i64 1, .int .i64 (20 + x), .string ByteArray.empty, .slice none 0 0]) ∧ (0 ≤ x ∧ x < 3) ∧ Cur w' c ∧ Only [c] w w' := by
  have h46 := hide (below_calls c 3)
  have hcl := hc.lt
  have HC0 := hide (hc.below (ab (.cells #[.int .i64 0, .int .i64 0, .string ⟨#[]⟩, .slice none 0 0] 29)))
  have HR0 : Hid (ZBox (w.alloc (.cells #[.int .i64 0, .int .i64 0, .string ⟨#[]⟩, .slice none 0 0] 29)) w.heap.size) := ZBox.new w
  have HO0 : Hid (Only [c] w (w.alloc (.cells #[.int .i64 0, .int .i64 0, .string ⟨#[]⟩, .slice none 0 0] 29))) := Only.of_below (ab _)
  clear hc
  go_enter Tryz.func66, Tryz.ntmps66
  go_wp2_with fail
  refine (unhide h46 _ (unhide HC0) (by omega)).mono ?_
  rintro e w2 ⟨x, rfl, ⟨_, hx⟩, hc2, ho2⟩
  obtain ⟨hx0, hx1⟩ := hx (by omega)
  have HO2 := hide ((unhide HO0).trans ho2)
  have HR2 := hide ((unhide HR0).only ho2 (Ne.symm (Nat.ne_of_lt hcl)))
  have HC2 := hide hc2
  have h29 := hide (atom20 x hx0 hx1)
  clear hx hc2 ho2 HC0 HR0 HO0
  go_wp2_with fail
  refine (unhide h29 _).mono ?_
  rintro e w3 ⟨rfl, hb3⟩
  have HO3 := hide ((unhide HO2).trans (Only.of_below hb3))
  have HR3 := hide ((unhide HR2).below hb3)
  have HC3 := hide ((unhide HC2).below hb3)
  clear hb3 HC2 HR2 HO2
  obtain ⟨p0, p1, p2, p3, q0, q1, q2, q3⟩ := (unhide HR3).facts
  go_wp2_with fail
  exact bodyPost_ret (v := .agg #[.int .i64 1, .int .i64 (20 + x), .string ByteArray.empty, .slice none 0 0]) (results_box1 Tryz.results66 rfl (RowT.load (fill26 (unhide HR3) 1 (20 + x) ByteArray.empty none 0 0))) rfl ⟨x, rfl, ⟨hx0, hx1⟩, ((((unhide HC3).set hcl).set hcl).set hcl).set hcl, only_set (only_set (only_set (only_set (unhide HO3) (Nat.le_refl _)) (Nat.le_refl _)) (Nat.le_refl _)) (Nat.le_refl _)⟩

/-- Four terms of so many at most, that lie somewhere. -/
def FourD (w : World) (q : Ending) (w' : World) : Prop := ∃ T0 T1 T2 T3 op0 n0 s0 a0 len0 cap0 op1 n1 s1 a1 len1 cap1 op2 n2 s2 a2 len2 cap2 op3 n3 s3 a3 len3 cap3, q = .returned (.tuple #[.agg #[.int .i64 op0, .int .i64 n0, .string s0, .slice a0 len0 cap0], .agg #[.int .i64 op1, .int .i64 n1, .string s1, .slice a1 len1 cap1], .agg #[.int .i64 op2, .int .i64 n2, .string s2, .slice a2 len2 cap2], .agg #[.int .i64 op3, .int .i64 n3, .string s3, .slice a3 len3 cap3]]) ∧ (Lies w' 0 T0 (tmCells op0 n0 s0 a0 len0 cap0) ∧ T0.size ≤ 61010) ∧ (Lies w' 0 T1 (tmCells op1 n1 s1 a1 len1 cap1) ∧ T1.size ≤ 61010) ∧ (Lies w' 0 T2 (tmCells op2 n2 s2 a2 len2 cap2) ∧ T2.size ≤ 61010) ∧ (Lies w' 0 T3 (tmCells op3 n3 s3 a3 len3 cap3) ∧ T3.size ≤ 61010) ∧ Below w.heap.size w w'
theorem results_cells4t {P : Program} {fn : Func} {c0 c1 c2 c3 : Tmp} {t0 t1 t2 t3 : TypeId} (h : fn.results = #[.cell c0 t0, .cell c1 t1, .cell c2 t2, .cell c3 t3]) {tmps : Array Value} {w : World} {v0 v1 v2 v3 : Value} {b0 b1 b2 b3 : Addr} (p0 : tmps.getD c0 undef = .pointer (some b0)) (p1 : tmps.getD c1 undef = .pointer (some b1)) (p2 : tmps.getD c2 undef = .pointer (some b2)) (p3 : tmps.getD c3 undef = .pointer (some b3))
    (l0 : (loadVar t0 b0).run P w = .ok v0 w) (l1 : (loadVar t1 b1).run P w = .ok v1 w) (l2 : (loadVar t2 b2).run P w = .ok v2 w) (l3 : (loadVar t3 b3).run P w = .ok v3 w) :
    (results fn tmps).run P w = .ok (.tuple #[v0, v1, v2, v3]) w := by
  have p0' : tmps[c0]?.getD undef = .pointer (some b0) := by simpa using p0
  have p1' : tmps[c1]?.getD undef = .pointer (some b1) := by simpa using p1
  have p2' : tmps[c2]?.getD undef = .pointer (some b2) := by simpa using p2
  have p3' : tmps[c3]?.getD undef = .pointer (some b3) := by simpa using p3
  simp [results, h, p0', p1', p2', p3', l0, l1, l2, l3, asAddr]
theorem bytes_up {w w' : World} {c c' : Nat} {a : Option Addr} {len : Nat} (h : Bytes w c a len) (hb : Below c w w') (hc : c ≤ c') : Bytes w' c' a len := fun k hk => by
  obtain ⟨b, o, z, h1, h2, h3, h4⟩ := h k hk
  exact ⟨b, o, z, h1, Nat.lt_of_lt_of_le h2 hc, (World.cell?_of_block (hb.block b h2)).trans h3, h4⟩
theorem far5 {c b n : Nat} (h0 : n + 1 + 1 + 1 < c) (h1 : c < b) : b ≠ n ∧ b ≠ n + 1 ∧ b ≠ n + 1 + 1 ∧ b ≠ n + 1 + 1 + 1 := by omega
theorem fill_four_liesL {w : World} {L g : Nat} {op0 n0 op1 n1 op2 n2 op3 n3 : Int} {s0 s1 s2 s3 : ByteArray} {a0 a1 a2 a3 : Option Addr} {l0 k0 l1 k1 l2 k2 l3 k3 : Nat} {t : Tm} {cs : List Value} (h : Lies w L t cs) (hg : g + 1 + 1 + 1 < L) :
    Lies (fill4 (fill4 (fill4 (fill4 w g op0 n0 s0 a0 l0 k0) (g + 1) op1 n1 s1 a1 l1 k1) (g + 1 + 1) op2 n2 s2 a2 l2 k2) (g + 1 + 1 + 1) op3 n3 s3 a3 l3 k3) L t cs :=
  set4_lies (set4_lies (set4_lies (set4_lies h (by omega) L (Nat.le_refl _)) (by omega) L (Nat.le_refl _)) (by omega) L (Nat.le_refl _)) (by omega) L (Nat.le_refl _)
theorem only_old {c : Nat} {w v v' : World} (h : Below w.heap.size w v) (ho : Only [c] v v') (hc : w.heap.size ≤ c) : Below w.heap.size w v' :=
  h.trans (ho.below h.size (by intro x hx; simp only [List.mem_singleton] at hx; subst hx; exact hc))

set_option maxRecDepth 100000 in
set_option maxHeartbeats 4000000 in
theorem reply_draw (ad : Option Addr) (ln cp : Nat) (w : World) (hB : Bytes w w.heap.size ad ln) (hl : ln ≤ 1048576) (hlc : ln ≤ cp) :
    Calls Tryz.prog 15 #[.slice ad ln cp] w fun q w' => FourD w q w' := by
  have hb0 : Below w.heap.size w ((((w.alloc (.cells #[.int .i64 0, .int .i64 0, .string ⟨#[]⟩, .slice none 0 0] 29)).alloc (.cells #[.int .i64 0, .int .i64 0, .string ⟨#[]⟩, .slice none 0 0] 29)).alloc (.cells #[.int .i64 0, .int .i64 0, .string ⟨#[]⟩, .slice none 0 0] 29)).alloc (.cells #[.int .i64 0, .int .i64 0, .string ⟨#[]⟩, .slice none 0 0] 29)) := bt (bt (bt (ab _) (ab _) (Nat.le_refl _)) (ab _) (Nat.le_refl _)) (ab _) (Nat.le_refl _)
  have HZ0 : Hid (RowT 29 ((((w.alloc (.cells #[.int .i64 0, .int .i64 0, .string ⟨#[]⟩, .slice none 0 0] 29)).alloc (.cells #[.int .i64 0, .int .i64 0, .string ⟨#[]⟩, .slice none 0 0] 29)).alloc (.cells #[.int .i64 0, .int .i64 0, .string ⟨#[]⟩, .slice none 0 0] 29)).alloc (.cells #[.int .i64 0, .int .i64 0, .string ⟨#[]⟩, .slice none 0 0] 29)) (w.heap.size) 0 0 ⟨#[]⟩ none 0 0) := by
    have := (((RowT.new 29 w 0 0 ⟨#[]⟩ none 0 0).below (ab (.cells #[.int .i64 0, .int .i64 0, .string ⟨#[]⟩, .slice none 0 0] 29))).below (ab (.cells #[.int .i64 0, .int .i64 0, .string ⟨#[]⟩, .slice none 0 0] 29))).below (ab (.cells #[.int .i64 0, .int .i64 0, .string ⟨#[]⟩, .slice none 0 0] 29))
    exact this
  have HZ1 : Hid (RowT 29 ((((w.alloc (.cells #[.int .i64 0, .int .i64 0, .string ⟨#[]⟩, .slice none 0 0] 29)).alloc (.cells #[.int .i64 0, .int .i64 0, .string ⟨#[]⟩, .slice none 0 0] 29)).alloc (.cells #[.int .i64 0, .int .i64 0, .string ⟨#[]⟩, .slice none 0 0] 29)).alloc (.cells #[.int .i64 0, .int .i64 0, .string ⟨#[]⟩, .slice none 0 0] 29)) (w.heap.size + 1) 0 0 ⟨#[]⟩ none 0 0) := by
    have := ((RowT.new 29 (w.alloc (.cells #[.int .i64 0, .int .i64 0, .string ⟨#[]⟩, .slice none 0 0] 29)) 0 0 ⟨#[]⟩ none 0 0).below (ab (.cells #[.int .i64 0, .int .i64 0, .string ⟨#[]⟩, .slice none 0 0] 29))).below (ab (.cells #[.int .i64 0, .int .i64 0, .string ⟨#[]⟩, .slice none 0 0] 29))
    rwa [heap_size_alloc] at this
  have HZ2 : Hid (RowT 29 ((((w.alloc (.cells #[.int .i64 0, .int .i64 0, .string ⟨#[]⟩, .slice none 0 0] 29)).alloc (.cells #[.int .i64 0, .int .i64 0, .string ⟨#[]⟩, .slice none 0 0] 29)).alloc (.cells #[.int .i64 0, .int .i64 0, .string ⟨#[]⟩, .slice none 0 0] 29)).alloc (.cells #[.int .i64 0, .int .i64 0, .string ⟨#[]⟩, .slice none 0 0] 29)) (w.heap.size + 1 + 1) 0 0 ⟨#[]⟩ none 0 0) := by
    have := (RowT.new 29 ((w.alloc (.cells #[.int .i64 0, .int .i64 0, .string ⟨#[]⟩, .slice none 0 0] 29)).alloc (.cells #[.int .i64 0, .int .i64 0, .string ⟨#[]⟩, .slice none 0 0] 29)) 0 0 ⟨#[]⟩ none 0 0).below (ab (.cells #[.int .i64 0, .int .i64 0, .string ⟨#[]⟩, .slice none 0 0] 29))
    rwa [heap_size_alloc, heap_size_alloc] at this
  have HZ3 : Hid (RowT 29 ((((w.alloc (.cells #[.int .i64 0, .int .i64 0, .string ⟨#[]⟩, .slice none 0 0] 29)).alloc (.cells #[.int .i64 0, .int .i64 0, .string ⟨#[]⟩, .slice none 0 0] 29)).alloc (.cells #[.int .i64 0, .int .i64 0, .string ⟨#[]⟩, .slice none 0 0] 29)).alloc (.cells #[.int .i64 0, .int .i64 0, .string ⟨#[]⟩, .slice none 0 0] 29)) (w.heap.size + 1 + 1 + 1) 0 0 ⟨#[]⟩ none 0 0) := by
    have := RowT.new 29 (((w.alloc (.cells #[.int .i64 0, .int .i64 0, .string ⟨#[]⟩, .slice none 0 0] 29)).alloc (.cells #[.int .i64 0, .int .i64 0, .string ⟨#[]⟩, .slice none 0 0] 29)).alloc (.cells #[.int .i64 0, .int .i64 0, .string ⟨#[]⟩, .slice none 0 0] 29)) 0 0 ⟨#[]⟩ none 0 0
    rwa [heap_size_alloc, heap_size_alloc, heap_size_alloc] at this
  have hNew := hide (new_calls ad ln cp ((((w.alloc (.cells #[.int .i64 0, .int .i64 0, .string ⟨#[]⟩, .slice none 0 0] 29)).alloc (.cells #[.int .i64 0, .int .i64 0, .string ⟨#[]⟩, .slice none 0 0] 29)).alloc (.cells #[.int .i64 0, .int .i64 0, .string ⟨#[]⟩, .slice none 0 0] 29)).alloc (.cells #[.int .i64 0, .int .i64 0, .string ⟨#[]⟩, .slice none 0 0] 29)) (bytes_up hB hb0 hb0.size) hl hlc)
  have HB0 := hide hb0
  clear hb0 hB
  go_enter Tryz.func15, Tryz.ntmps15
  go_wp2_with fail
  generalize hgw : ((((w.alloc (.cells #[.int .i64 0, .int .i64 0, .string ⟨#[]⟩, .slice none 0 0] 29)).alloc (.cells #[.int .i64 0, .int .i64 0, .string ⟨#[]⟩, .slice none 0 0] 29)).alloc (.cells #[.int .i64 0, .int .i64 0, .string ⟨#[]⟩, .slice none 0 0] 29)).alloc (.cells #[.int .i64 0, .int .i64 0, .string ⟨#[]⟩, .slice none 0 0] 29)) = W0 at *
  clear hgw
  refine (unhide hNew).mono ?_
  rintro q w1 ⟨rfl, hc1, hb1, hlt1⟩
  have hA := hide (atom_draw W0.heap.size)
  have hBl := hide (below_calls W0.heap.size)
  have hCT := hide (term_draw W0.heap.size)
  have hD1 := hide (draw_calls W0.heap.size)
  have HC := hide hc1
  have HLT := hide hlt1
  have HWL : Hid (w.heap.size ≤ W0.heap.size) := (unhide HB0).size
  have HCN : Hid (w.heap.size + 1 + 1 + 1 < W0.heap.size) := (unhide HZ3).lt
  have HBW := hide (bt (unhide HB0) hb1 (Nat.le_refl _))
  have NHZ0 : Hid (w.heap.size ≠ W0.heap.size) := Nat.ne_of_lt (unhide HZ0).lt
  have HZ0 := hide ((unhide HZ0).below hb1)
  have NHZ1 : Hid (w.heap.size + 1 ≠ W0.heap.size) := Nat.ne_of_lt (unhide HZ1).lt
  have HZ1 := hide ((unhide HZ1).below hb1)
  have NHZ2 : Hid (w.heap.size + 1 + 1 ≠ W0.heap.size) := Nat.ne_of_lt (unhide HZ2).lt
  have HZ2 := hide ((unhide HZ2).below hb1)
  have NHZ3 : Hid (w.heap.size + 1 + 1 + 1 ≠ W0.heap.size) := Nat.ne_of_lt (unhide HZ3).lt
  have HZ3 := hide ((unhide HZ3).below hb1)
  clear hc1 hb1 hlt1 hNew HB0
  generalize W0.heap.size = c at *
  go_wp2_with fail
  refine (unhide hA _ (unhide HC)).mono ?_
  rintro q v1 ⟨x, rfl, ⟨hx0, hx1⟩, hc2, ho2⟩
  have HBW := hide (only_old (unhide HBW) ho2 (unhide HWL))
  have HZ0 := hide ((unhide HZ0).only ho2 (nin (unhide NHZ0)))
  have HZ1 := hide ((unhide HZ1).only ho2 (nin (unhide NHZ1)))
  have HZ2 := hide ((unhide HZ2).only ho2 (nin (unhide NHZ2)))
  have HZ3 := hide ((unhide HZ3).only ho2 (nin (unhide NHZ3)))
  have HC := hide hc2
  clear hc2 ho2
  have hp := ab (w := v1) (.cells #[.int .i64 1, .int .i64 (20 + x), .string ByteArray.empty, .slice none 0 0] 29)
  have HS := hide (RowT.new 29 v1 1 (20 + x) ByteArray.empty none 0 0)
  have NHS : Hid (v1.heap.size ≠ c) := Ne.symm (Nat.ne_of_lt (unhide HC).lt)
  have HLbS : Hid (c < v1.heap.size) := (unhide HC).lt
  have HBW := hide (bt (unhide HBW) hp (Nat.le_refl _))
  have HZ0 := hide ((unhide HZ0).below hp)
  have HZ1 := hide ((unhide HZ1).below hp)
  have HZ2 := hide ((unhide HZ2).below hp)
  have HZ3 := hide ((unhide HZ3).below hp)
  have HC := hide ((unhide HC).below hp)
  clear hp
  go_wp2_with fail
  generalize hgw : v1.alloc (.cells #[.int .i64 1, .int .i64 (20 + x), .string ByteArray.empty, .slice none 0 0] 29) = V1 at *
  clear hgw
  generalize v1.heap.size = bS at *
  refine (unhide hA _ (unhide HC)).mono ?_
  rintro q v2 ⟨y, rfl, ⟨hy0, hy1⟩, hc2, ho2⟩
  have HBW := hide (only_old (unhide HBW) ho2 (unhide HWL))
  have HZ0 := hide ((unhide HZ0).only ho2 (nin (unhide NHZ0)))
  have HZ1 := hide ((unhide HZ1).only ho2 (nin (unhide NHZ1)))
  have HZ2 := hide ((unhide HZ2).only ho2 (nin (unhide NHZ2)))
  have HZ3 := hide ((unhide HZ3).only ho2 (nin (unhide NHZ3)))
  have HS := hide ((unhide HS).only ho2 (nin (unhide NHS)))
  have HC := hide hc2
  clear hc2 ho2
  have hP := hide (pubS (.node 1 (20 + y) ByteArray.empty []) 1 (20 + y) ByteArray.empty none 0 0)
  go_wp2_with fail
  refine (unhide hP _ (leaf_lies _ _ 1 (20 + y) ByteArray.empty (by simp [maxLen]) (by decide) (WalkArith.wf_i64 (by omega))) (by simp [Tm.size, Tm.sizes])).mono ?_
  rintro q v3 ⟨op1, n1, s1, a1, len1, cap1, rfl, hl1, hb3, -⟩
  have HLP := hide hl1
  have HGHLP : Hid (c < v2.heap.size) := (unhide HC).lt
  have HSLP : Hid (bS < v2.heap.size) := (unhide HS).lt
  have HBW := hide (bt (unhide HBW) hb3 (Nat.le_refl _))
  have HZ0 := hide ((unhide HZ0).below hb3)
  have HZ1 := hide ((unhide HZ1).below hb3)
  have HZ2 := hide ((unhide HZ2).below hb3)
  have HZ3 := hide ((unhide HZ3).below hb3)
  have HS := hide ((unhide HS).below hb3)
  have HC := hide ((unhide HC).below hb3)
  have HSP := hide hb3.size
  clear hl1 hb3 hP
  have hp := ab (w := v3) (.cells #[.int .i64 op1, .int .i64 n1, .string s1, .slice a1 len1 cap1] 29)
  have HP := hide (RowT.new 29 v3 op1 n1 s1 a1 len1 cap1)
  have NHP : Hid (v3.heap.size ≠ c) := Ne.symm (Nat.ne_of_lt (unhide HC).lt)
  have HLbP : Hid (c < v3.heap.size) := (unhide HC).lt
  have HObP : Hid (bS < v3.heap.size) := (unhide HS).lt
  have HBW := hide (bt (unhide HBW) hp (Nat.le_refl _))
  have HZ0 := hide ((unhide HZ0).below hp)
  have HZ1 := hide ((unhide HZ1).below hp)
  have HZ2 := hide ((unhide HZ2).below hp)
  have HZ3 := hide ((unhide HZ3).below hp)
  have HS := hide ((unhide HS).below hp)
  have HC := hide ((unhide HC).below hp)
  have HLP := hide ((unhide HLP).below hp)
  clear hp
  go_wp2_with fail
  generalize hgw : v3.alloc (.cells #[.int .i64 op1, .int .i64 n1, .string s1, .slice a1 len1 cap1] 29) = V3 at *
  clear hgw
  generalize v3.heap.size = bP at *
  generalize v2.heap.size = lP at *
  refine (unhide hBl 3 _ (unhide HC) (by omega)).mono ?_
  rintro q v4 ⟨z, rfl, ⟨_, hz⟩, hc2, ho2⟩
  obtain ⟨hz0, hz1⟩ := hz (by omega)
  have HBW := hide (only_old (unhide HBW) ho2 (unhide HWL))
  have HZ0 := hide ((unhide HZ0).only ho2 (nin (unhide NHZ0)))
  have HZ1 := hide ((unhide HZ1).only ho2 (nin (unhide NHZ1)))
  have HZ2 := hide ((unhide HZ2).only ho2 (nin (unhide NHZ2)))
  have HZ3 := hide ((unhide HZ3).only ho2 (nin (unhide NHZ3)))
  have HS := hide ((unhide HS).only ho2 (nin (unhide NHS)))
  have HP := hide ((unhide HP).only ho2 (nin (unhide NHP)))
  have HLP := hide ((unhide HLP).only ho2 (unhide HGHLP))
  have HC := hide hc2
  clear hc2 ho2 hz
  have hK := hide (atom10 z hz0 hz1)
  go_wp2_with fail
  refine (unhide hK _).mono ?_
  rintro q v5 ⟨rfl, hb3⟩
  have HBW := hide (bt (unhide HBW) hb3 (Nat.le_refl _))
  have HZ0 := hide ((unhide HZ0).below hb3)
  have HZ1 := hide ((unhide HZ1).below hb3)
  have HZ2 := hide ((unhide HZ2).below hb3)
  have HZ3 := hide ((unhide HZ3).below hb3)
  have HS := hide ((unhide HS).below hb3)
  have HP := hide ((unhide HP).below hb3)
  have HLP := hide ((unhide HLP).below hb3)
  have HC := hide ((unhide HC).below hb3)
  clear hb3 hK
  have hp := ab (w := v5) (.cells #[.int .i64 1, .int .i64 (10 + z), .string ByteArray.empty, .slice none 0 0] 29)
  have HK := hide (RowT.new 29 v5 1 (10 + z) ByteArray.empty none 0 0)
  have NHK : Hid (v5.heap.size ≠ c) := Ne.symm (Nat.ne_of_lt (unhide HC).lt)
  have HLbK : Hid (c < v5.heap.size) := (unhide HC).lt
  have HObK : Hid (bP < v5.heap.size) := (unhide HP).lt
  have HBW := hide (bt (unhide HBW) hp (Nat.le_refl _))
  have HZ0 := hide ((unhide HZ0).below hp)
  have HZ1 := hide ((unhide HZ1).below hp)
  have HZ2 := hide ((unhide HZ2).below hp)
  have HZ3 := hide ((unhide HZ3).below hp)
  have HS := hide ((unhide HS).below hp)
  have HP := hide ((unhide HP).below hp)
  have HLP := hide ((unhide HLP).below hp)
  have HC := hide ((unhide HC).below hp)
  clear hp
  go_wp2_with fail
  generalize hgw : v5.alloc (.cells #[.int .i64 1, .int .i64 (10 + z), .string ByteArray.empty, .slice none 0 0] 29) = V5 at *
  clear hgw
  generalize v5.heap.size = bK at *
  have HGHLT : Hid (c < V5.heap.size) := (unhide HC).lt
  have HKT : Hid (bK < V5.heap.size) := (unhide HK).lt
  refine (unhide hCT _ (unhide HC)).mono ?_
  rintro q v6 ⟨T, op3, n3, s3, a3, len3, cap3, rfl, ⟨hlT, hzT⟩, hc2, ho2⟩
  have HLT := hide hlT
  have HZT := hide hzT
  have HBW := hide (only_old (unhide HBW) ho2 (unhide HWL))
  have HZ0 := hide ((unhide HZ0).only ho2 (nin (unhide NHZ0)))
  have HZ1 := hide ((unhide HZ1).only ho2 (nin (unhide NHZ1)))
  have HZ2 := hide ((unhide HZ2).only ho2 (nin (unhide NHZ2)))
  have HZ3 := hide ((unhide HZ3).only ho2 (nin (unhide NHZ3)))
  have HS := hide ((unhide HS).only ho2 (nin (unhide NHS)))
  have HP := hide ((unhide HP).only ho2 (nin (unhide NHP)))
  have HLP := hide ((unhide HLP).only ho2 (unhide HGHLP))
  have HK := hide ((unhide HK).only ho2 (nin (unhide NHK)))
  have HC := hide hc2
  clear hc2 ho2 hlT hzT
  have hp := ab (w := v6) (.cells #[.int .i64 op3, .int .i64 n3, .string s3, .slice a3 len3 cap3] 29)
  have HT := hide (RowT.new 29 v6 op3 n3 s3 a3 len3 cap3)
  have NHT : Hid (v6.heap.size ≠ c) := Ne.symm (Nat.ne_of_lt (unhide HC).lt)
  have HLbT : Hid (c < v6.heap.size) := (unhide HC).lt
  have HObT : Hid (bK < v6.heap.size) := (unhide HK).lt
  have HBW := hide (bt (unhide HBW) hp (Nat.le_refl _))
  have HZ0 := hide ((unhide HZ0).below hp)
  have HZ1 := hide ((unhide HZ1).below hp)
  have HZ2 := hide ((unhide HZ2).below hp)
  have HZ3 := hide ((unhide HZ3).below hp)
  have HS := hide ((unhide HS).below hp)
  have HP := hide ((unhide HP).below hp)
  have HLP := hide ((unhide HLP).below hp)
  have HK := hide ((unhide HK).below hp)
  have HC := hide ((unhide HC).below hp)
  have HLT := hide ((unhide HLT).below hp)
  clear hp
  go_wp2_with fail
  generalize hgw : v6.alloc (.cells #[.int .i64 op3, .int .i64 n3, .string s3, .slice a3 len3 cap3] 29) = V6 at *
  clear hgw
  generalize v6.heap.size = bT at *
  generalize V5.heap.size = lT at *
  refine (unhide hBl 8 _ (unhide HC) (by omega)).mono ?_
  rintro q v7 ⟨u, rfl, ⟨_, hu⟩, hc2, ho2⟩
  have HBW := hide (only_old (unhide HBW) ho2 (unhide HWL))
  have HZ0 := hide ((unhide HZ0).only ho2 (nin (unhide NHZ0)))
  have HZ1 := hide ((unhide HZ1).only ho2 (nin (unhide NHZ1)))
  have HZ2 := hide ((unhide HZ2).only ho2 (nin (unhide NHZ2)))
  have HZ3 := hide ((unhide HZ3).only ho2 (nin (unhide NHZ3)))
  have HS := hide ((unhide HS).only ho2 (nin (unhide NHS)))
  have HP := hide ((unhide HP).only ho2 (nin (unhide NHP)))
  have HLP := hide ((unhide HLP).only ho2 (unhide HGHLP))
  have HK := hide ((unhide HK).only ho2 (nin (unhide NHK)))
  have HT := hide ((unhide HT).only ho2 (nin (unhide NHT)))
  have HLT := hide ((unhide HLT).only ho2 (unhide HGHLT))
  have HC := hide hc2
  clear hc2 ho2 hu
  generalize hgw : v7 = V7 at *
  clear hgw
  by_cases e0 : u = 0
  · subst e0
    go_wp2_with fail
    refine (unhide hD1 _ (unhide HC)).mono ?_
    rintro q v8 ⟨v, rfl, ⟨T9, op9, n9, s9, a9, len9, cap9, rfl, hl9, -, hz9⟩, hc2, ho2⟩
    have HLN := hide hl9
    have HZN := hide hz9
    have HGHLN : Hid (c < V7.heap.size) := (unhide HC).lt
    have HTN : Hid (bT < V7.heap.size) := (unhide HT).lt
    have HBW := hide (only_old (unhide HBW) ho2 (unhide HWL))
    have HZ0 := hide ((unhide HZ0).only ho2 (nin (unhide NHZ0)))
    have HZ1 := hide ((unhide HZ1).only ho2 (nin (unhide NHZ1)))
    have HZ2 := hide ((unhide HZ2).only ho2 (nin (unhide NHZ2)))
    have HZ3 := hide ((unhide HZ3).only ho2 (nin (unhide NHZ3)))
    have HS := hide ((unhide HS).only ho2 (nin (unhide NHS)))
    have HP := hide ((unhide HP).only ho2 (nin (unhide NHP)))
    have HLP := hide ((unhide HLP).only ho2 (unhide HGHLP))
    have HK := hide ((unhide HK).only ho2 (nin (unhide NHK)))
    have HT := hide ((unhide HT).only ho2 (nin (unhide NHT)))
    have HLT := hide ((unhide HLT).only ho2 (unhide HGHLT))
    have HC := hide hc2
    clear hc2 ho2 hl9 hz9
    obtain ⟨c0, c1, c2, c3⟩ := (unhide HP).facts
    obtain ⟨f0, f1, f2, f3⟩ := (unhide HP).frozen
    go_wp2_with fail
    clear c0 c1 c2 c3 f0 f1 f2 f3
    have HZ0 : Hid (RowT 29 ((((v8.setCell ⟨bP, 0, none⟩ (.int .i64 op9)).setCell ⟨bP, 1, none⟩ (.int .i64 n9)).setCell ⟨bP, 2, none⟩ (.string s9)).setCell ⟨bP, 3, none⟩ (.slice a9 len9 cap9)) (w.heap.size) 0 0 ⟨#[]⟩ none 0 0) := RowT.other (unhide HZ0) (Ne.symm (far5 (unhide HCN) (unhide HLbP)).1)
    have HZ1 : Hid (RowT 29 ((((v8.setCell ⟨bP, 0, none⟩ (.int .i64 op9)).setCell ⟨bP, 1, none⟩ (.int .i64 n9)).setCell ⟨bP, 2, none⟩ (.string s9)).setCell ⟨bP, 3, none⟩ (.slice a9 len9 cap9)) (w.heap.size + 1) 0 0 ⟨#[]⟩ none 0 0) := RowT.other (unhide HZ1) (Ne.symm (far5 (unhide HCN) (unhide HLbP)).2.1)
    have HZ2 : Hid (RowT 29 ((((v8.setCell ⟨bP, 0, none⟩ (.int .i64 op9)).setCell ⟨bP, 1, none⟩ (.int .i64 n9)).setCell ⟨bP, 2, none⟩ (.string s9)).setCell ⟨bP, 3, none⟩ (.slice a9 len9 cap9)) (w.heap.size + 1 + 1) 0 0 ⟨#[]⟩ none 0 0) := RowT.other (unhide HZ2) (Ne.symm (far5 (unhide HCN) (unhide HLbP)).2.2.1)
    have HZ3 : Hid (RowT 29 ((((v8.setCell ⟨bP, 0, none⟩ (.int .i64 op9)).setCell ⟨bP, 1, none⟩ (.int .i64 n9)).setCell ⟨bP, 2, none⟩ (.string s9)).setCell ⟨bP, 3, none⟩ (.slice a9 len9 cap9)) (w.heap.size + 1 + 1 + 1) 0 0 ⟨#[]⟩ none 0 0) := RowT.other (unhide HZ3) (Ne.symm (far5 (unhide HCN) (unhide HLbP)).2.2.2)
    have HS : Hid (RowT 29 ((((v8.setCell ⟨bP, 0, none⟩ (.int .i64 op9)).setCell ⟨bP, 1, none⟩ (.int .i64 n9)).setCell ⟨bP, 2, none⟩ (.string s9)).setCell ⟨bP, 3, none⟩ (.slice a9 len9 cap9)) bS 1 (20 + x) ByteArray.empty none 0 0) := RowT.other (unhide HS) (Nat.ne_of_lt (unhide HObP))
    have HP : Hid (RowT 29 ((((v8.setCell ⟨bP, 0, none⟩ (.int .i64 op9)).setCell ⟨bP, 1, none⟩ (.int .i64 n9)).setCell ⟨bP, 2, none⟩ (.string s9)).setCell ⟨bP, 3, none⟩ (.slice a9 len9 cap9)) bP op9 n9 s9 a9 len9 cap9) := RowT.fill (unhide HP) op9 n9 s9 a9 len9 cap9
    have HK : Hid (RowT 29 ((((v8.setCell ⟨bP, 0, none⟩ (.int .i64 op9)).setCell ⟨bP, 1, none⟩ (.int .i64 n9)).setCell ⟨bP, 2, none⟩ (.string s9)).setCell ⟨bP, 3, none⟩ (.slice a9 len9 cap9)) bK 1 (10 + z) ByteArray.empty none 0 0) := RowT.other (unhide HK) (Ne.symm (Nat.ne_of_lt (unhide HObK)))
    have HT : Hid (RowT 29 ((((v8.setCell ⟨bP, 0, none⟩ (.int .i64 op9)).setCell ⟨bP, 1, none⟩ (.int .i64 n9)).setCell ⟨bP, 2, none⟩ (.string s9)).setCell ⟨bP, 3, none⟩ (.slice a9 len9 cap9)) bT op3 n3 s3 a3 len3 cap3) := RowT.other (unhide HT) (Ne.symm (Nat.ne_of_lt (Nat.lt_trans (unhide HObK) (unhide HObT))))
    have HLT : Hid (Lies ((((v8.setCell ⟨bP, 0, none⟩ (.int .i64 op9)).setCell ⟨bP, 1, none⟩ (.int .i64 n9)).setCell ⟨bP, 2, none⟩ (.string s9)).setCell ⟨bP, 3, none⟩ (.slice a9 len9 cap9)) lT T (tmCells op3 n3 s3 a3 len3 cap3)) := set4_lies (unhide HLT) (Nat.lt_trans (unhide HObK) (unhide HKT)) lT (Nat.le_refl _)
    have HLN : Hid (Lies ((((v8.setCell ⟨bP, 0, none⟩ (.int .i64 op9)).setCell ⟨bP, 1, none⟩ (.int .i64 n9)).setCell ⟨bP, 2, none⟩ (.string s9)).setCell ⟨bP, 3, none⟩ (.slice a9 len9 cap9)) V7.heap.size T9 (tmCells op9 n9 s9 a9 len9 cap9)) := set4_lies (unhide HLN) (Nat.lt_trans (Nat.lt_trans (unhide HObK) (unhide HObT)) (unhide HTN)) _ (Nat.le_refl _)
    have HBW : Hid (Below w.heap.size w ((((v8.setCell ⟨bP, 0, none⟩ (.int .i64 op9)).setCell ⟨bP, 1, none⟩ (.int .i64 n9)).setCell ⟨bP, 2, none⟩ (.string s9)).setCell ⟨bP, 3, none⟩ (.slice a9 len9 cap9))) := set4_below (unhide HBW) (Nat.le_trans (unhide HWL) (Nat.le_of_lt (unhide HLbP)))
    generalize hgw : ((((v8.setCell ⟨bP, 0, none⟩ (.int .i64 op9)).setCell ⟨bP, 1, none⟩ (.int .i64 n9)).setCell ⟨bP, 2, none⟩ (.string s9)).setCell ⟨bP, 3, none⟩ (.slice a9 len9 cap9)) = V8 at *
    clear hgw HC
    generalize V7.heap.size = lN at *
    go_wp2_with fail
    have F0 := far5 (unhide HCN) (unhide HLbS)
    have F1 := far5 (unhide HCN) (unhide HLbP)
    have F2 := far5 (unhide HCN) (unhide HLbK)
    have F3 := far5 (unhide HCN) (unhide HLbT)
    refine wp_region_held (S := fun y => RowT 29 y bS 1 (20 + x) ByteArray.empty none 0 0 ∧ RowT 29 y bP op9 n9 s9 a9 len9 cap9 ∧ RowT 29 y bK 1 (10 + z) ByteArray.empty none 0 0 ∧ RowT 29 y bT op3 n3 s3 a3 len3 cap3) (by kernel_rfl) ?_
    have hS : (fun y : World => RowT 29 y bS 1 (20 + x) ByteArray.empty none 0 0 ∧ RowT 29 y bP op9 n9 s9 a9 len9 cap9 ∧ RowT 29 y bK 1 (10 + z) ByteArray.empty none 0 0 ∧ RowT 29 y bT op3 n3 s3 a3 len3 cap3) V8.drew := ⟨unhide HS, unhide HP, unhide HK, unhide HT⟩
    show wpAnyH _ _ _ _ _ _ _ _ V8.drew
    refine take_load (i := 0) rfl rfl (fun y h => h.1) (by kernel_rfl) (by kernel_rfl) (by kernel_rfl) (fun _ _ _ _ h => h) hS ?_
    simp only [Act.put, List.setIfInBounds_toArray, List.set_cons_succ, List.set_cons_zero]
    refine take_load (i := 1) rfl rfl (fun y h => h.2.1) (by kernel_rfl) (by kernel_rfl) (by kernel_rfl) (fun _ _ _ _ h => h) hS ?_
    simp only [Act.put, List.setIfInBounds_toArray, List.set_cons_succ, List.set_cons_zero]
    refine take_load (i := 2) rfl rfl (fun y h => h.2.2.1) (by kernel_rfl) (by kernel_rfl) (by kernel_rfl) (fun _ _ _ _ h => h) hS ?_
    simp only [Act.put, List.setIfInBounds_toArray, List.set_cons_succ, List.set_cons_zero]
    refine take_load (i := 3) rfl rfl (fun y h => h.2.2.2) (by kernel_rfl) (by kernel_rfl) (by kernel_rfl) (fun _ _ _ _ h => h) hS ?_
    simp only [Act.put, List.setIfInBounds_toArray, List.set_cons_succ, List.set_cons_zero]
    refine all_store (i := 4) (by kernel_rfl) rfl rfl rfl (unhide HZ0) (⟨RowT.other hS.1 F0.1, RowT.other hS.2.1 F1.1, RowT.other hS.2.2.1 F2.1, RowT.other hS.2.2.2 F3.1⟩) fun hS => ?_
    refine all_store (i := 5) (by kernel_rfl) rfl rfl rfl (RowT.other (unhide HZ1) (zne _).1.1) (⟨RowT.other hS.1 F0.2.1, RowT.other hS.2.1 F1.2.1, RowT.other hS.2.2.1 F2.2.1, RowT.other hS.2.2.2 F3.2.1⟩) fun hS => ?_
    refine all_store (i := 6) (by kernel_rfl) rfl rfl rfl (RowT.other (RowT.other (unhide HZ2) (zne _).1.2.1) (zne _).2.1.1) (⟨RowT.other hS.1 F0.2.2.1, RowT.other hS.2.1 F1.2.2.1, RowT.other hS.2.2.1 F2.2.2.1, RowT.other hS.2.2.2 F3.2.2.1⟩) fun hS => ?_
    refine all_store (i := 7) (by kernel_rfl) rfl rfl rfl (RowT.other (RowT.other (RowT.other (unhide HZ3) (zne _).1.2.2) (zne _).2.1.2) (zne _).2.2) (⟨RowT.other hS.1 F0.2.2.2, RowT.other hS.2.1 F1.2.2.2, RowT.other hS.2.2.1 F2.2.2.2, RowT.other hS.2.2.2 F3.2.2.2⟩) fun hS => ?_
    refine wpAnyH_done (by kernel_rfl) ?_ _
    go_wp2_with fail
    obtain ⟨r0, r1, r2, r3⟩ := fill_four (w := V8.drew) (op0 := 1) (n0 := (20 + x)) (s0 := ByteArray.empty) (a0 := none) (l0 := 0) (k0 := 0) (op1 := op9) (n1 := n9) (s1 := s9) (a1 := a9) (l1 := len9) (k1 := cap9) (op2 := 1) (n2 := (10 + z)) (s2 := ByteArray.empty) (a2 := none) (l2 := 0) (k2 := 0) (op3 := op3) (n3 := n3) (s3 := s3) (a3 := a3) (l3 := len3) (k3 := cap3) (unhide HZ0) (unhide HZ1) (unhide HZ2) (unhide HZ3)
    exact bodyPost_ret (v := .tuple #[.agg #[.int .i64 1, .int .i64 (20 + x), .string ByteArray.empty, .slice none 0 0], .agg #[.int .i64 op9, .int .i64 n9, .string s9, .slice a9 len9 cap9], .agg #[.int .i64 1, .int .i64 (10 + z), .string ByteArray.empty, .slice none 0 0], .agg #[.int .i64 op3, .int .i64 n3, .string s3, .slice a3 len3 cap3]]) (results_cells4t Tryz.results15 rfl rfl rfl rfl (RowT.load r0) (RowT.load r1) (RowT.load r2) (RowT.load r3)) rfl ⟨(.node 1 (20 + x) ByteArray.empty []), T9, (.node 1 (10 + z) ByteArray.empty []), T, _, _, _, _, _, _, _, _, _, _, _, _, _, _, _, _, _, _, _, _, _, _, _, _, rfl, ⟨leaf_lies _ _ 1 (20 + x) ByteArray.empty (by simp [maxLen]) (by decide) (WalkArith.wf_i64 (by omega)), by simp [Tm.size, Tm.sizes]⟩, ⟨(fill_four_liesL (w := V8.drew) ((unhide HLN).below (Below.refl _ _).drew) (Nat.lt_trans (unhide HCN) (unhide HGHLN))).any (Nat.zero_le _), Nat.le_trans (unhide HZN) (by decide)⟩, ⟨leaf_lies _ _ 1 (10 + z) ByteArray.empty (by simp [maxLen]) (by decide) (WalkArith.wf_i64 (by omega)), by simp [Tm.size, Tm.sizes]⟩, ⟨(fill_four_liesL (w := V8.drew) ((unhide HLT).below (Below.refl _ _).drew) (Nat.lt_trans (unhide HCN) (unhide HGHLT))).any (Nat.zero_le _), unhide HZT⟩, fill_four_below (w := V8.drew) (unhide HBW).drew (Nat.le_refl _)⟩
  · by_cases e1 : u = 1
    · subst e1
      go_wp2_with fail
      refine (unhide hD1 _ (unhide HC)).mono ?_
      rintro q v8 ⟨v, rfl, ⟨T9, op9, n9, s9, a9, len9, cap9, rfl, hl9, -, hz9⟩, hc2, ho2⟩
      have HLN := hide hl9
      have HZN := hide hz9
      have HGHLN : Hid (c < V7.heap.size) := (unhide HC).lt
      have HTN : Hid (bT < V7.heap.size) := (unhide HT).lt
      have HBW := hide (only_old (unhide HBW) ho2 (unhide HWL))
      have HZ0 := hide ((unhide HZ0).only ho2 (nin (unhide NHZ0)))
      have HZ1 := hide ((unhide HZ1).only ho2 (nin (unhide NHZ1)))
      have HZ2 := hide ((unhide HZ2).only ho2 (nin (unhide NHZ2)))
      have HZ3 := hide ((unhide HZ3).only ho2 (nin (unhide NHZ3)))
      have HS := hide ((unhide HS).only ho2 (nin (unhide NHS)))
      have HP := hide ((unhide HP).only ho2 (nin (unhide NHP)))
      have HLP := hide ((unhide HLP).only ho2 (unhide HGHLP))
      have HK := hide ((unhide HK).only ho2 (nin (unhide NHK)))
      have HT := hide ((unhide HT).only ho2 (nin (unhide NHT)))
      have HLT := hide ((unhide HLT).only ho2 (unhide HGHLT))
      have HC := hide hc2
      clear hc2 ho2 hl9 hz9
      obtain ⟨c0, c1, c2, c3⟩ := (unhide HS).facts
      obtain ⟨f0, f1, f2, f3⟩ := (unhide HS).frozen
      go_wp2_with fail
      clear c0 c1 c2 c3 f0 f1 f2 f3
      have HZ0 : Hid (RowT 29 ((((v8.setCell ⟨bS, 0, none⟩ (.int .i64 op9)).setCell ⟨bS, 1, none⟩ (.int .i64 n9)).setCell ⟨bS, 2, none⟩ (.string s9)).setCell ⟨bS, 3, none⟩ (.slice a9 len9 cap9)) (w.heap.size) 0 0 ⟨#[]⟩ none 0 0) := RowT.other (unhide HZ0) (Ne.symm (far5 (unhide HCN) (unhide HLbS)).1)
      have HZ1 : Hid (RowT 29 ((((v8.setCell ⟨bS, 0, none⟩ (.int .i64 op9)).setCell ⟨bS, 1, none⟩ (.int .i64 n9)).setCell ⟨bS, 2, none⟩ (.string s9)).setCell ⟨bS, 3, none⟩ (.slice a9 len9 cap9)) (w.heap.size + 1) 0 0 ⟨#[]⟩ none 0 0) := RowT.other (unhide HZ1) (Ne.symm (far5 (unhide HCN) (unhide HLbS)).2.1)
      have HZ2 : Hid (RowT 29 ((((v8.setCell ⟨bS, 0, none⟩ (.int .i64 op9)).setCell ⟨bS, 1, none⟩ (.int .i64 n9)).setCell ⟨bS, 2, none⟩ (.string s9)).setCell ⟨bS, 3, none⟩ (.slice a9 len9 cap9)) (w.heap.size + 1 + 1) 0 0 ⟨#[]⟩ none 0 0) := RowT.other (unhide HZ2) (Ne.symm (far5 (unhide HCN) (unhide HLbS)).2.2.1)
      have HZ3 : Hid (RowT 29 ((((v8.setCell ⟨bS, 0, none⟩ (.int .i64 op9)).setCell ⟨bS, 1, none⟩ (.int .i64 n9)).setCell ⟨bS, 2, none⟩ (.string s9)).setCell ⟨bS, 3, none⟩ (.slice a9 len9 cap9)) (w.heap.size + 1 + 1 + 1) 0 0 ⟨#[]⟩ none 0 0) := RowT.other (unhide HZ3) (Ne.symm (far5 (unhide HCN) (unhide HLbS)).2.2.2)
      have HS : Hid (RowT 29 ((((v8.setCell ⟨bS, 0, none⟩ (.int .i64 op9)).setCell ⟨bS, 1, none⟩ (.int .i64 n9)).setCell ⟨bS, 2, none⟩ (.string s9)).setCell ⟨bS, 3, none⟩ (.slice a9 len9 cap9)) bS op9 n9 s9 a9 len9 cap9) := RowT.fill (unhide HS) op9 n9 s9 a9 len9 cap9
      have HP : Hid (RowT 29 ((((v8.setCell ⟨bS, 0, none⟩ (.int .i64 op9)).setCell ⟨bS, 1, none⟩ (.int .i64 n9)).setCell ⟨bS, 2, none⟩ (.string s9)).setCell ⟨bS, 3, none⟩ (.slice a9 len9 cap9)) bP op1 n1 s1 a1 len1 cap1) := RowT.other (unhide HP) (Ne.symm (Nat.ne_of_lt (unhide HObP)))
      have HK : Hid (RowT 29 ((((v8.setCell ⟨bS, 0, none⟩ (.int .i64 op9)).setCell ⟨bS, 1, none⟩ (.int .i64 n9)).setCell ⟨bS, 2, none⟩ (.string s9)).setCell ⟨bS, 3, none⟩ (.slice a9 len9 cap9)) bK 1 (10 + z) ByteArray.empty none 0 0) := RowT.other (unhide HK) (Ne.symm (Nat.ne_of_lt (Nat.lt_trans (unhide HObP) (unhide HObK))))
      have HT : Hid (RowT 29 ((((v8.setCell ⟨bS, 0, none⟩ (.int .i64 op9)).setCell ⟨bS, 1, none⟩ (.int .i64 n9)).setCell ⟨bS, 2, none⟩ (.string s9)).setCell ⟨bS, 3, none⟩ (.slice a9 len9 cap9)) bT op3 n3 s3 a3 len3 cap3) := RowT.other (unhide HT) (Ne.symm (Nat.ne_of_lt (Nat.lt_trans (Nat.lt_trans (unhide HObP) (unhide HObK)) (unhide HObT))))
      have HLT : Hid (Lies ((((v8.setCell ⟨bS, 0, none⟩ (.int .i64 op9)).setCell ⟨bS, 1, none⟩ (.int .i64 n9)).setCell ⟨bS, 2, none⟩ (.string s9)).setCell ⟨bS, 3, none⟩ (.slice a9 len9 cap9)) lT T (tmCells op3 n3 s3 a3 len3 cap3)) := set4_lies (unhide HLT) (Nat.lt_trans (Nat.lt_trans (unhide HObP) (unhide HObK)) (unhide HKT)) lT (Nat.le_refl _)
      have HLP : Hid (Lies ((((v8.setCell ⟨bS, 0, none⟩ (.int .i64 op9)).setCell ⟨bS, 1, none⟩ (.int .i64 n9)).setCell ⟨bS, 2, none⟩ (.string s9)).setCell ⟨bS, 3, none⟩ (.slice a9 len9 cap9)) lP (madeT 4 [.node 1 (20 + y) ByteArray.empty []]) (tmCells op1 n1 s1 a1 len1 cap1)) := set4_lies (unhide HLP) (unhide HSLP) lP (Nat.le_refl _)
      have HLN : Hid (Lies ((((v8.setCell ⟨bS, 0, none⟩ (.int .i64 op9)).setCell ⟨bS, 1, none⟩ (.int .i64 n9)).setCell ⟨bS, 2, none⟩ (.string s9)).setCell ⟨bS, 3, none⟩ (.slice a9 len9 cap9)) V7.heap.size T9 (tmCells op9 n9 s9 a9 len9 cap9)) := set4_lies (unhide HLN) (Nat.lt_trans (Nat.lt_trans (Nat.lt_trans (unhide HObP) (unhide HObK)) (unhide HObT)) (unhide HTN)) _ (Nat.le_refl _)
      have HBW : Hid (Below w.heap.size w ((((v8.setCell ⟨bS, 0, none⟩ (.int .i64 op9)).setCell ⟨bS, 1, none⟩ (.int .i64 n9)).setCell ⟨bS, 2, none⟩ (.string s9)).setCell ⟨bS, 3, none⟩ (.slice a9 len9 cap9))) := set4_below (unhide HBW) (Nat.le_trans (unhide HWL) (Nat.le_of_lt (unhide HLbS)))
      generalize hgw : ((((v8.setCell ⟨bS, 0, none⟩ (.int .i64 op9)).setCell ⟨bS, 1, none⟩ (.int .i64 n9)).setCell ⟨bS, 2, none⟩ (.string s9)).setCell ⟨bS, 3, none⟩ (.slice a9 len9 cap9)) = V8 at *
      clear hgw HC
      generalize V7.heap.size = lN at *
      go_wp2_with fail
      have F0 := far5 (unhide HCN) (unhide HLbS)
      have F1 := far5 (unhide HCN) (unhide HLbP)
      have F2 := far5 (unhide HCN) (unhide HLbK)
      have F3 := far5 (unhide HCN) (unhide HLbT)
      refine wp_region_held (S := fun y => RowT 29 y bS op9 n9 s9 a9 len9 cap9 ∧ RowT 29 y bP op1 n1 s1 a1 len1 cap1 ∧ RowT 29 y bK 1 (10 + z) ByteArray.empty none 0 0 ∧ RowT 29 y bT op3 n3 s3 a3 len3 cap3) (by kernel_rfl) ?_
      have hS : (fun y : World => RowT 29 y bS op9 n9 s9 a9 len9 cap9 ∧ RowT 29 y bP op1 n1 s1 a1 len1 cap1 ∧ RowT 29 y bK 1 (10 + z) ByteArray.empty none 0 0 ∧ RowT 29 y bT op3 n3 s3 a3 len3 cap3) V8.drew := ⟨unhide HS, unhide HP, unhide HK, unhide HT⟩
      show wpAnyH _ _ _ _ _ _ _ _ V8.drew
      refine take_load (i := 0) rfl rfl (fun y h => h.1) (by kernel_rfl) (by kernel_rfl) (by kernel_rfl) (fun _ _ _ _ h => h) hS ?_
      simp only [Act.put, List.setIfInBounds_toArray, List.set_cons_succ, List.set_cons_zero]
      refine take_load (i := 1) rfl rfl (fun y h => h.2.1) (by kernel_rfl) (by kernel_rfl) (by kernel_rfl) (fun _ _ _ _ h => h) hS ?_
      simp only [Act.put, List.setIfInBounds_toArray, List.set_cons_succ, List.set_cons_zero]
      refine take_load (i := 2) rfl rfl (fun y h => h.2.2.1) (by kernel_rfl) (by kernel_rfl) (by kernel_rfl) (fun _ _ _ _ h => h) hS ?_
      simp only [Act.put, List.setIfInBounds_toArray, List.set_cons_succ, List.set_cons_zero]
      refine take_load (i := 3) rfl rfl (fun y h => h.2.2.2) (by kernel_rfl) (by kernel_rfl) (by kernel_rfl) (fun _ _ _ _ h => h) hS ?_
      simp only [Act.put, List.setIfInBounds_toArray, List.set_cons_succ, List.set_cons_zero]
      refine all_store (i := 4) (by kernel_rfl) rfl rfl rfl (unhide HZ0) (⟨RowT.other hS.1 F0.1, RowT.other hS.2.1 F1.1, RowT.other hS.2.2.1 F2.1, RowT.other hS.2.2.2 F3.1⟩) fun hS => ?_
      refine all_store (i := 5) (by kernel_rfl) rfl rfl rfl (RowT.other (unhide HZ1) (zne _).1.1) (⟨RowT.other hS.1 F0.2.1, RowT.other hS.2.1 F1.2.1, RowT.other hS.2.2.1 F2.2.1, RowT.other hS.2.2.2 F3.2.1⟩) fun hS => ?_
      refine all_store (i := 6) (by kernel_rfl) rfl rfl rfl (RowT.other (RowT.other (unhide HZ2) (zne _).1.2.1) (zne _).2.1.1) (⟨RowT.other hS.1 F0.2.2.1, RowT.other hS.2.1 F1.2.2.1, RowT.other hS.2.2.1 F2.2.2.1, RowT.other hS.2.2.2 F3.2.2.1⟩) fun hS => ?_
      refine all_store (i := 7) (by kernel_rfl) rfl rfl rfl (RowT.other (RowT.other (RowT.other (unhide HZ3) (zne _).1.2.2) (zne _).2.1.2) (zne _).2.2) (⟨RowT.other hS.1 F0.2.2.2, RowT.other hS.2.1 F1.2.2.2, RowT.other hS.2.2.1 F2.2.2.2, RowT.other hS.2.2.2 F3.2.2.2⟩) fun hS => ?_
      refine wpAnyH_done (by kernel_rfl) ?_ _
      go_wp2_with fail
      obtain ⟨r0, r1, r2, r3⟩ := fill_four (w := V8.drew) (op0 := op9) (n0 := n9) (s0 := s9) (a0 := a9) (l0 := len9) (k0 := cap9) (op1 := op1) (n1 := n1) (s1 := s1) (a1 := a1) (l1 := len1) (k1 := cap1) (op2 := 1) (n2 := (10 + z)) (s2 := ByteArray.empty) (a2 := none) (l2 := 0) (k2 := 0) (op3 := op3) (n3 := n3) (s3 := s3) (a3 := a3) (l3 := len3) (k3 := cap3) (unhide HZ0) (unhide HZ1) (unhide HZ2) (unhide HZ3)
      exact bodyPost_ret (v := .tuple #[.agg #[.int .i64 op9, .int .i64 n9, .string s9, .slice a9 len9 cap9], .agg #[.int .i64 op1, .int .i64 n1, .string s1, .slice a1 len1 cap1], .agg #[.int .i64 1, .int .i64 (10 + z), .string ByteArray.empty, .slice none 0 0], .agg #[.int .i64 op3, .int .i64 n3, .string s3, .slice a3 len3 cap3]]) (results_cells4t Tryz.results15 rfl rfl rfl rfl (RowT.load r0) (RowT.load r1) (RowT.load r2) (RowT.load r3)) rfl ⟨T9, _, (.node 1 (10 + z) ByteArray.empty []), T, _, _, _, _, _, _, _, _, _, _, _, _, _, _, _, _, _, _, _, _, _, _, _, _, rfl, ⟨(fill_four_liesL (w := V8.drew) ((unhide HLN).below (Below.refl _ _).drew) (Nat.lt_trans (unhide HCN) (unhide HGHLN))).any (Nat.zero_le _), Nat.le_trans (unhide HZN) (by decide)⟩, ⟨(fill_four_liesL (w := V8.drew) ((unhide HLP).below (Below.refl _ _).drew) (Nat.lt_trans (unhide HCN) (unhide HGHLP))).any (Nat.zero_le _), Nat.le_trans (madeT_200 4 _) (by decide)⟩, ⟨leaf_lies _ _ 1 (10 + z) ByteArray.empty (by simp [maxLen]) (by decide) (WalkArith.wf_i64 (by omega)), by simp [Tm.size, Tm.sizes]⟩, ⟨(fill_four_liesL (w := V8.drew) ((unhide HLT).below (Below.refl _ _).drew) (Nat.lt_trans (unhide HCN) (unhide HGHLT))).any (Nat.zero_le _), unhide HZT⟩, fill_four_below (w := V8.drew) (unhide HBW).drew (Nat.le_refl _)⟩
    · have d0 : (u == 0) = false := by simpa using e0
      have d1 : (u == 1) = false := by simpa using e1
      go_wp2_with fail
      have F0 := far5 (unhide HCN) (unhide HLbS)
      have F1 := far5 (unhide HCN) (unhide HLbP)
      have F2 := far5 (unhide HCN) (unhide HLbK)
      have F3 := far5 (unhide HCN) (unhide HLbT)
      refine wp_region_held (S := fun y => RowT 29 y bS 1 (20 + x) ByteArray.empty none 0 0 ∧ RowT 29 y bP op1 n1 s1 a1 len1 cap1 ∧ RowT 29 y bK 1 (10 + z) ByteArray.empty none 0 0 ∧ RowT 29 y bT op3 n3 s3 a3 len3 cap3) (by kernel_rfl) ?_
      have hS : (fun y : World => RowT 29 y bS 1 (20 + x) ByteArray.empty none 0 0 ∧ RowT 29 y bP op1 n1 s1 a1 len1 cap1 ∧ RowT 29 y bK 1 (10 + z) ByteArray.empty none 0 0 ∧ RowT 29 y bT op3 n3 s3 a3 len3 cap3) V7.drew := ⟨unhide HS, unhide HP, unhide HK, unhide HT⟩
      show wpAnyH _ _ _ _ _ _ _ _ V7.drew
      refine take_load (i := 0) rfl rfl (fun y h => h.1) (by kernel_rfl) (by kernel_rfl) (by kernel_rfl) (fun _ _ _ _ h => h) hS ?_
      simp only [Act.put, List.setIfInBounds_toArray, List.set_cons_succ, List.set_cons_zero]
      refine take_load (i := 1) rfl rfl (fun y h => h.2.1) (by kernel_rfl) (by kernel_rfl) (by kernel_rfl) (fun _ _ _ _ h => h) hS ?_
      simp only [Act.put, List.setIfInBounds_toArray, List.set_cons_succ, List.set_cons_zero]
      refine take_load (i := 2) rfl rfl (fun y h => h.2.2.1) (by kernel_rfl) (by kernel_rfl) (by kernel_rfl) (fun _ _ _ _ h => h) hS ?_
      simp only [Act.put, List.setIfInBounds_toArray, List.set_cons_succ, List.set_cons_zero]
      refine take_load (i := 3) rfl rfl (fun y h => h.2.2.2) (by kernel_rfl) (by kernel_rfl) (by kernel_rfl) (fun _ _ _ _ h => h) hS ?_
      simp only [Act.put, List.setIfInBounds_toArray, List.set_cons_succ, List.set_cons_zero]
      refine all_store (i := 4) (by kernel_rfl) rfl rfl rfl (unhide HZ0) (⟨RowT.other hS.1 F0.1, RowT.other hS.2.1 F1.1, RowT.other hS.2.2.1 F2.1, RowT.other hS.2.2.2 F3.1⟩) fun hS => ?_
      refine all_store (i := 5) (by kernel_rfl) rfl rfl rfl (RowT.other (unhide HZ1) (zne _).1.1) (⟨RowT.other hS.1 F0.2.1, RowT.other hS.2.1 F1.2.1, RowT.other hS.2.2.1 F2.2.1, RowT.other hS.2.2.2 F3.2.1⟩) fun hS => ?_
      refine all_store (i := 6) (by kernel_rfl) rfl rfl rfl (RowT.other (RowT.other (unhide HZ2) (zne _).1.2.1) (zne _).2.1.1) (⟨RowT.other hS.1 F0.2.2.1, RowT.other hS.2.1 F1.2.2.1, RowT.other hS.2.2.1 F2.2.2.1, RowT.other hS.2.2.2 F3.2.2.1⟩) fun hS => ?_
      refine all_store (i := 7) (by kernel_rfl) rfl rfl rfl (RowT.other (RowT.other (RowT.other (unhide HZ3) (zne _).1.2.2) (zne _).2.1.2) (zne _).2.2) (⟨RowT.other hS.1 F0.2.2.2, RowT.other hS.2.1 F1.2.2.2, RowT.other hS.2.2.1 F2.2.2.2, RowT.other hS.2.2.2 F3.2.2.2⟩) fun hS => ?_
      refine wpAnyH_done (by kernel_rfl) ?_ _
      go_wp2_with fail
      obtain ⟨r0, r1, r2, r3⟩ := fill_four (w := V7.drew) (op0 := 1) (n0 := (20 + x)) (s0 := ByteArray.empty) (a0 := none) (l0 := 0) (k0 := 0) (op1 := op1) (n1 := n1) (s1 := s1) (a1 := a1) (l1 := len1) (k1 := cap1) (op2 := 1) (n2 := (10 + z)) (s2 := ByteArray.empty) (a2 := none) (l2 := 0) (k2 := 0) (op3 := op3) (n3 := n3) (s3 := s3) (a3 := a3) (l3 := len3) (k3 := cap3) (unhide HZ0) (unhide HZ1) (unhide HZ2) (unhide HZ3)
      exact bodyPost_ret (v := .tuple #[.agg #[.int .i64 1, .int .i64 (20 + x), .string ByteArray.empty, .slice none 0 0], .agg #[.int .i64 op1, .int .i64 n1, .string s1, .slice a1 len1 cap1], .agg #[.int .i64 1, .int .i64 (10 + z), .string ByteArray.empty, .slice none 0 0], .agg #[.int .i64 op3, .int .i64 n3, .string s3, .slice a3 len3 cap3]]) (results_cells4t Tryz.results15 rfl rfl rfl rfl (RowT.load r0) (RowT.load r1) (RowT.load r2) (RowT.load r3)) rfl ⟨(.node 1 (20 + x) ByteArray.empty []), _, (.node 1 (10 + z) ByteArray.empty []), T, _, _, _, _, _, _, _, _, _, _, _, _, _, _, _, _, _, _, _, _, _, _, _, _, rfl, ⟨leaf_lies _ _ 1 (20 + x) ByteArray.empty (by simp [maxLen]) (by decide) (WalkArith.wf_i64 (by omega)), by simp [Tm.size, Tm.sizes]⟩, ⟨(fill_four_liesL (w := V7.drew) ((unhide HLP).below (Below.refl _ _).drew) (Nat.lt_trans (unhide HCN) (unhide HGHLP))).any (Nat.zero_le _), Nat.le_trans (madeT_200 4 _) (by decide)⟩, ⟨leaf_lies _ _ 1 (10 + z) ByteArray.empty (by simp [maxLen]) (by decide) (WalkArith.wf_i64 (by omega)), by simp [Tm.size, Tm.sizes]⟩, ⟨(fill_four_liesL (w := V7.drew) ((unhide HLT).below (Below.refl _ _).drew) (Nat.lt_trans (unhide HCN) (unhide HGHLT))).any (Nat.zero_le _), unhide HZT⟩, fill_four_below (w := V7.drew) (unhide HBW).drew (Nat.le_refl _)⟩


end Go.Proofs.YtmklgikbajhcpaaGreatDoor
