
/- The walks of spec.l3Two, spec.Pair and impl.Pair: of whatever two terms lie in memory they answer the term of both where that is right, else the zero term; the last in new blocks of its own; nothing that was there is written. -/
import Derived.Test.YtafoonabmijcdaaGreatDoorHs
import Derived.Deep.RegionHeld3
namespace Go.Proofs.YtafoonabmijcdaaGreatDoor
open Go.RowKit Go.Deep

set_option maxRecDepth 100000 in
/-- A term of two kids that were laid in a block of their own. -/
theorem lies_two {w : World} {t u : Tm} {op1 n1 op2 n2 : Int} {s1 s2 : ByteArray} {a1 a2 : Option Addr} {l1 c1 l2 c2 : Nat} {L : Nat} (h1 : Lies w L t (tmCells op1 n1 s1 a1 l1 c1)) (h2 : Lies w L u (tmCells op2 n2 s2 a2 l2 c2)) (hL : L ≤ w.heap.size) (op : Int) (hop : (Lit.int .i64 op).wf = true) :
    Lies (w.alloc (.cells #[.int .i64 op1, .int .i64 n1, .string s1, .slice a1 l1 c1, .int .i64 op2, .int .i64 n2, .string s2, .slice a2 l2 c2] 28)) L (.node op 0 ByteArray.empty [t, u]) (tmCells op 0 ByteArray.empty (some ⟨w.heap.size, 0, none⟩) 2 2) := by
  simp only [Lies, LiesAll]
  refine ⟨_, _, rfl, ⟨by simp [maxLen], by simp, by simp [maxLen]⟩, ⟨hop, by decide⟩, ⟨w.heap.size, 0, _, rfl, hL, fun j v hj => ?_, h1.below (ab _)⟩, ⟨w.heap.size, 0, _, rfl, hL, fun j v hj => ?_, h2.below (ab _)⟩, trivial⟩
  · rw [Nat.zero_mul, Nat.zero_add]
    refine box_cell w _ 28 j v ?_
    match j, hj with
    | 0, hj => simpa [tmCells] using hj
    | 1, hj => simpa [tmCells] using hj
    | 2, hj => simpa [tmCells] using hj
    | 3, hj => simpa [tmCells] using hj
    | j + 4, hj => simp [tmCells] at hj
  · rw [show 0 + (0 + 1) * 4 + j = 4 + j by omega]
    refine box_cell w _ 28 (4 + j) v ?_
    match j, hj with
    | 0, hj => simpa [tmCells] using hj
    | 1, hj => simpa [tmCells] using hj
    | 2, hj => simpa [tmCells] using hj
    | 3, hj => simpa [tmCells] using hj
    | j + 4, hj => simp [tmCells] at hj

set_option maxRecDepth 100000 in
theorem gw_world {P : Program} {c : Code} {Q : Exit → Act → World → Prop} {a : Act} {v w : World} (h : v = w) (hk : Code.wp P c Q a w) : Code.wp P c Q a v := h ▸ hk

set_option maxRecDepth 100000 in
set_option maxHeartbeats 1000000 in
theorem two23 (o : Int) (ho : (Lit.int .i64 o).wf = true) (t u : Tm) (op n : Int) (s : ByteArray) (a : Option Addr) (len cap : Nat) (op2 n2 : Int) (s2 : ByteArray) (a2 : Option Addr) (len2 cap2 : Nat) (w : World) (hl : Lies w 0 t (tmCells op n s a len cap)) (hl2 : Lies w 0 u (tmCells op2 n2 s2 a2 len2 cap2)) (hsz : t.size + u.size ≤ 2097151) :
    Calls Tryz.prog 27 #[.int .i64 o, .agg #[.int .i64 op, .int .i64 n, .string s, .slice a len cap], .agg #[.int .i64 op2, .int .i64 n2, .string s2, .slice a2 len2 cap2]] w fun e w' => ∃ op' n' s' a' len' cap', e = .returned (.agg #[.int .i64 op', .int .i64 n', .string s', .slice a' len' cap']) ∧ Lies w' w.heap.size (madeT o [t, u]) (tmCells op' n' s' a' len' cap') ∧ Below w.heap.size w w' ∧ len' = cap' := by
  have h25 := hide (cz_calls t op n s a len cap)
  have h25' := hide (cz_calls u op2 n2 s2 a2 len2 cap2)
  have h17 := hide (l3any (.node o 0 ByteArray.empty [t, u]))
  have HZ : Hid ((Tm.node o 0 ByteArray.empty [t, u]).size ≤ 2097152) := by show _ ≤ _; simp only [Tm.size, Tm.sizes]; omega
  have HO := hide ho
  have HLA := hide hl
  have HLB := hide hl2
  have hz1 : t.size ≤ 2097152 := by omega
  have hz2 : u.size ≤ 2097152 := by omega
  have hB0 : Below w.heap.size w (((w.alloc (.cells #[.int .i64 op, .int .i64 n, .string s, .slice a len cap] 28)).alloc (.cells #[.int .i64 op2, .int .i64 n2, .string s2, .slice a2 len2 cap2] 28)).alloc (.cells #[.int .i64 0, .int .i64 0, .string ByteArray.empty, .slice none 0 0] 28)) := bt (bt (ab _) (ab _) (Nat.le_refl _)) (ab _) (Nat.le_refl _)
  have HX : Hid (ZBox (((w.alloc (.cells #[.int .i64 op, .int .i64 n, .string s, .slice a len cap] 28)).alloc (.cells #[.int .i64 op2, .int .i64 n2, .string s2, .slice a2 len2 cap2] 28)).alloc (.cells #[.int .i64 0, .int .i64 0, .string ByteArray.empty, .slice none 0 0] 28)) (w.heap.size + 1 + 1)) := by
    have := ZBox.new ((w.alloc (.cells #[.int .i64 op, .int .i64 n, .string s, .slice a len cap] 28)).alloc (.cells #[.int .i64 op2, .int .i64 n2, .string s2, .slice a2 len2 cap2] 28))
    rwa [heap_size_alloc, heap_size_alloc] at this
  have HRA : Hid (RowT 28 (((w.alloc (.cells #[.int .i64 op, .int .i64 n, .string s, .slice a len cap] 28)).alloc (.cells #[.int .i64 op2, .int .i64 n2, .string s2, .slice a2 len2 cap2] 28)).alloc (.cells #[.int .i64 0, .int .i64 0, .string ByteArray.empty, .slice none 0 0] 28)) w.heap.size op n s a len cap) := ((RowT.new 28 w op n s a len cap).below (ab _)).below (ab _)
  have HRB : Hid (RowT 28 (((w.alloc (.cells #[.int .i64 op, .int .i64 n, .string s, .slice a len cap] 28)).alloc (.cells #[.int .i64 op2, .int .i64 n2, .string s2, .slice a2 len2 cap2] 28)).alloc (.cells #[.int .i64 0, .int .i64 0, .string ByteArray.empty, .slice none 0 0] 28)) (w.heap.size + 1) op2 n2 s2 a2 len2 cap2) := by
    have := (RowT.new 28 (w.alloc (.cells #[.int .i64 op, .int .i64 n, .string s, .slice a len cap] 28)) op2 n2 s2 a2 len2 cap2).below (ab (.cells #[.int .i64 0, .int .i64 0, .string ByteArray.empty, .slice none 0 0] 28))
    rwa [heap_size_alloc] at this
  have HLA := hide (hl.below hB0)
  have HLB := hide (hl2.below hB0)
  have HB0 := hide hB0
  have HS0 : Hid ((((w.alloc (.cells #[.int .i64 op, .int .i64 n, .string s, .slice a len cap] 28)).alloc (.cells #[.int .i64 op2, .int .i64 n2, .string s2, .slice a2 len2 cap2] 28)).alloc (.cells #[.int .i64 0, .int .i64 0, .string ByteArray.empty, .slice none 0 0] 28)).heap.size = w.heap.size + 3) := by show _ = _; simp
  clear hl hl2 ho hsz hB0
  go_enter Tryz.func27, Tryz.ntmps27
  go_wp2_with fail
  generalize hgw : (((w.alloc (.cells #[.int .i64 op, .int .i64 n, .string s, .slice a len cap] 28)).alloc (.cells #[.int .i64 op2, .int .i64 n2, .string s2, .slice a2 len2 cap2] 28)).alloc (.cells #[.int .i64 0, .int .i64 0, .string ByteArray.empty, .slice none 0 0] 28)) = W0 at *
  refine gw_world hgw ?_
  clear hgw
  obtain ⟨c0, c1, c2, c3⟩ := (unhide HRA).facts
  obtain ⟨d0, d1, d2, d3⟩ := (unhide HRB).facts
  have hne1 : (w.heap.size = w.heap.size + 1 + 1) = False := by simp; omega
  have hne2 : (w.heap.size + 1 + 1 = w.heap.size) = False := by simp; omega
  have hsA : w.heap.size + 1 + 1 < W0.heap.size := by have := unhide HS0; omega
  go_region_held3 (fun x => x.cell? ⟨w.heap.size, 0, none⟩ = some (.int .i64 op) ∧ x.cell? ⟨w.heap.size, 1, none⟩ = some (.int .i64 n) ∧ x.cell? ⟨w.heap.size, 2, none⟩ = some (.string s) ∧ x.cell? ⟨w.heap.size, 3, none⟩ = some (.slice a len cap) ∧
      x.cell? ⟨w.heap.size + 1, 0, none⟩ = some (.int .i64 op2) ∧ x.cell? ⟨w.heap.size + 1, 1, none⟩ = some (.int .i64 n2) ∧ x.cell? ⟨w.heap.size + 1, 2, none⟩ = some (.string s2) ∧ x.cell? ⟨w.heap.size + 1, 3, none⟩ = some (.slice a2 len2 cap2)) (go_keep)
    (first
      | (go_at_call_of 16 op
         refine (unhide h25 _ ((unhide HLA).below ((Below.refl _ _).drew)) hz1).mono ?_
         rintro e w2 ⟨aA, capA, fA, rfl, hOA, ⟨_, hgeA⟩, hb2⟩
         have hb2' := hide (below_drew' hb2)
         have HA2 := hide (Own.lies (L := W0.heap.size) _ _ _ hOA hgeA)
         have f0 := kpc (unhide hb2') c0
         have f1 := kpc (unhide hb2') c1
         have f2 := kpc (unhide hb2') c2
         have f3 := kpc (unhide hb2') c3
         have f4 := kpc (unhide hb2') d0
         have f5 := kpc (unhide hb2') d1
         have f6 := kpc (unhide hb2') d2
         have f7 := kpc (unhide hb2') d3)
      | (go_at_call_of 16 op2
         refine (unhide h25' _ ((unhide HLB).below (unhide hb2')) hz2).mono ?_
         rintro e w3 ⟨aB, capB, fB, rfl, hOB, ⟨_, hgeB⟩, hb3⟩
         have hb3' := hide hb3
         have HA3 := hide ((unhide HA2).below hb3)
         have HB3 := hide (Own.lies (L := W0.heap.size) _ _ _ hOB (fun x hx => Nat.le_trans (unhide hb2').size (hgeB x hx)))
         have g0 := kpc hb3 f0
         have g1 := kpc hb3 f1
         have g2 := kpc hb3 f2
         have g3 := kpc hb3 f3
         have g4 := kpc hb3 f4
         have g5 := kpc hb3 f5
         have g6 := kpc hb3 f6
         have g7 := kpc hb3 f7
         have hs3 := lt_of_cell g0
         have hs4 := lt_of_cell g4)
      | (go_at_call 42
         refine (unhide h17 _ _ _ _ _ _ _ _ (lies_two (unhide HA3) (unhide HB3) (Nat.le_trans (unhide hb2').size (unhide hb3').size) o (unhide HO)) (unhide HZ)).mono ?_
         rintro e w4 ⟨op', n', s', a', len', cap', rfl, hL4, hb4, htt⟩
         have HTT := hide (htt rfl)
         clear htt
         have hb34 := bt (ab _) hb4 (Nat.le_refl _)
         have hb4' := hide hb34
         have HL4 := hide hL4
         obtain ⟨p0, p1, p2, p3, q0, q1, q2, q3⟩ := ((((unhide HX).below (unhide hb2')).below (unhide hb3')).below hb34).facts
         have j0 := kpc hb34 g0
         have j1 := kpc hb34 g1
         have j2 := kpc hb34 g2
         have j3 := kpc hb34 g3
         have j4 := kpc hb34 g4
         have j5 := kpc hb34 g5
         have j6 := kpc hb34 g6
         have j7 := kpc hb34 g7))
  have HB4 := hide (bt (bt (bt (unhide HB0) (unhide hb2') (Nat.le_refl _)) (unhide hb3') (Nat.le_refl _)) (unhide hb4') (Nat.le_refl _))
  clear f0 f1 f2 f3 f4 f5 f6 f7 c0 c1 c2 c3 d0 d1 d2 d3 g0 g1 g2 g3 g4 g5 g6 g7 j0 j1 j2 j3 j4 j5 j6 j7 hb2' hb3' hb4'
  go_wp2_with fail
  exact bodyPost_ret (v := .agg #[.int .i64 op', .int .i64 n', .string s', .slice a' len' cap']) (by simp [results, Tryz.results27, go_sem, p0, p1, p2, p3]) rfl ⟨op', n', s', a', len', cap', rfl, set4_lies (unhide HL4) hsA _ (by omega), set4_below (unhide HB4) (by omega), unhide HTT⟩

set_option maxRecDepth 100000 in
set_option maxHeartbeats 1000000 in
theorem pair12 (t u : Tm) (op n : Int) (s : ByteArray) (a : Option Addr) (len cap : Nat) (op2 n2 : Int) (s2 : ByteArray) (a2 : Option Addr) (len2 cap2 : Nat) (w : World) (hl : Lies w 0 t (tmCells op n s a len cap)) (hl2 : Lies w 0 u (tmCells op2 n2 s2 a2 len2 cap2)) (hsz : t.size + u.size ≤ 2097151) :
    Calls Tryz.prog 30 #[.agg #[.int .i64 op, .int .i64 n, .string s, .slice a len cap], .agg #[.int .i64 op2, .int .i64 n2, .string s2, .slice a2 len2 cap2]] w fun e w' => ∃ op' n' s' a' len' cap', e = .returned (.agg #[.int .i64 op', .int .i64 n', .string s', .slice a' len' cap']) ∧ Lies w' w.heap.size (madeT 3 [t, u]) (tmCells op' n' s' a' len' cap') ∧ Below w.heap.size w w' ∧ len' = cap' := by
  have h23 := hide (two23 3 (by decide) t u op n s a len cap op2 n2 s2 a2 len2 cap2)
  have hB0 : Below w.heap.size w (((w.alloc (.cells #[.int .i64 op, .int .i64 n, .string s, .slice a len cap] 28)).alloc (.cells #[.int .i64 op2, .int .i64 n2, .string s2, .slice a2 len2 cap2] 28)).alloc (.cells #[.int .i64 0, .int .i64 0, .string ByteArray.empty, .slice none 0 0] 28)) := bt (bt (ab _) (ab _) (Nat.le_refl _)) (ab _) (Nat.le_refl _)
  have HX : Hid (ZBox (((w.alloc (.cells #[.int .i64 op, .int .i64 n, .string s, .slice a len cap] 28)).alloc (.cells #[.int .i64 op2, .int .i64 n2, .string s2, .slice a2 len2 cap2] 28)).alloc (.cells #[.int .i64 0, .int .i64 0, .string ByteArray.empty, .slice none 0 0] 28)) (w.heap.size + 1 + 1)) := by
    have := ZBox.new ((w.alloc (.cells #[.int .i64 op, .int .i64 n, .string s, .slice a len cap] 28)).alloc (.cells #[.int .i64 op2, .int .i64 n2, .string s2, .slice a2 len2 cap2] 28))
    rwa [heap_size_alloc, heap_size_alloc] at this
  have HLA := hide (hl.below hB0)
  have HLB := hide (hl2.below hB0)
  have HB0 := hide hB0
  clear hl hl2 hB0
  go_enter Tryz.func30, Tryz.ntmps30
  go_wp2_with fail
  refine (unhide h23 _ (unhide HLA) (unhide HLB) hsz).mono ?_
  rintro e w4 ⟨op', n', s', a', len', cap', rfl, hL4, hb4, htt⟩
  have HTT := hide htt
  have HB4 := hide (bt (unhide HB0) hb4 (Nat.le_refl _))
  have hX4 := (unhide HX).below hb4
  simp only [heap_size_alloc] at hL4
  have HL4 := hide hL4
  obtain ⟨d0, d1, d2, d3, e0, e1, e2, e3⟩ := hX4.facts
  clear hb4 hL4 hX4 HX HB0 HLA HLB htt
  go_wp2_with fail
  exact bodyPost_ret (v := .agg #[.int .i64 op', .int .i64 n', .string s', .slice a' len' cap']) (by simp [results, Tryz.results30, go_sem, d0, d1, d2, d3]) rfl ⟨op', n', s', a', len', cap', rfl, set4_lies (unhide HL4) (by omega) _ (by omega), set4_below (unhide HB4) (by omega), unhide HTT⟩

set_option maxRecDepth 100000 in
set_option maxHeartbeats 1000000 in
theorem pair14 (t u : Tm) (op n : Int) (s : ByteArray) (a : Option Addr) (len cap : Nat) (op2 n2 : Int) (s2 : ByteArray) (a2 : Option Addr) (len2 cap2 : Nat) (w : World) (hl : Lies w 0 t (tmCells op n s a len cap)) (hl2 : Lies w 0 u (tmCells op2 n2 s2 a2 len2 cap2)) (hsz : t.size + u.size ≤ 2097151) (herr : Err w) :
    Calls Tryz.prog 51 #[.agg #[.int .i64 op, .int .i64 n, .string s, .slice a len cap], .agg #[.int .i64 op2, .int .i64 n2, .string s2, .slice a2 len2 cap2]] w fun e w' => ∃ op' n' s' a' len' cap' fp, e = .returned (.agg #[.int .i64 op', .int .i64 n', .string s', .slice a' len' cap']) ∧ Own w' (madeT 3 [t, u]) (tmCells op' n' s' a' len' cap') fp ∧ (fp.Nodup ∧ ∀ x ∈ fp, w.heap.size ≤ x) ∧ Below w.heap.size w w' := by
  have HER := hide herr
  clear herr
  have h18 := hide (new_any (.node 3 0 ByteArray.empty [t, u]))
  have HZ : Hid ((Tm.node 3 0 ByteArray.empty [t, u]).size ≤ 2097152) := by show _ ≤ _; simp only [Tm.size, Tm.sizes]; omega
  have hB0 : Below w.heap.size w (((w.alloc (.cells #[.int .i64 op, .int .i64 n, .string s, .slice a len cap] 28)).alloc (.cells #[.int .i64 op2, .int .i64 n2, .string s2, .slice a2 len2 cap2] 28)).alloc (.cells #[.int .i64 0, .int .i64 0, .string ByteArray.empty, .slice none 0 0] 28)) := bt (bt (ab _) (ab _) (Nat.le_refl _)) (ab _) (Nat.le_refl _)
  have hX : ZBox (((w.alloc (.cells #[.int .i64 op, .int .i64 n, .string s, .slice a len cap] 28)).alloc (.cells #[.int .i64 op2, .int .i64 n2, .string s2, .slice a2 len2 cap2] 28)).alloc (.cells #[.int .i64 0, .int .i64 0, .string ByteArray.empty, .slice none 0 0] 28)) (w.heap.size + 1 + 1) := by
    have := ZBox.new ((w.alloc (.cells #[.int .i64 op, .int .i64 n, .string s, .slice a len cap] 28)).alloc (.cells #[.int .i64 op2, .int .i64 n2, .string s2, .slice a2 len2 cap2] 28))
    rwa [heap_size_alloc, heap_size_alloc] at this
  have HB3 := hide (bt hB0 (ab (.cells #[.int .i64 op, .int .i64 n, .string s, .slice a len cap, .int .i64 op2, .int .i64 n2, .string s2, .slice a2 len2 cap2] 28)) (Nat.le_refl _))
  have HX3 := hide (hX.below (ab (.cells #[.int .i64 op, .int .i64 n, .string s, .slice a len cap, .int .i64 op2, .int .i64 n2, .string s2, .slice a2 len2 cap2] 28)))
  have HT3 := hide (lies_two (hl.below hB0) (hl2.below hB0) (Nat.zero_le _) 3 (by decide))
  simp only [heap_size_alloc] at HT3
  clear hl hl2 hB0 hX hsz
  go_enter Tryz.func51, Tryz.ntmps51
  go_wp2_with fail
  refine (unhide h18 _ _ _ _ _ _ _ (unhide HT3) (unhide HZ) ((unhide HER).on (unhide HB3))).mono ?_
  rintro e w4 ⟨op', n', s', a', len', cap', fp, rfl, hO4, ⟨hnd, hge⟩, hb4⟩
  have HB4 := hide (bt (unhide HB3) hb4 (Nat.le_refl _))
  have hX4 := (unhide HX3).below hb4
  have HO4 := hide hO4
  have HND := hide hnd
  simp only [heap_size_alloc] at hge
  have HGE := hide hge
  obtain ⟨d0, d1, d2, d3, e0, e1, e2, e3⟩ := hX4.facts
  clear hb4 hO4 hX4 HB3 HX3 HT3 hnd hge
  go_wp2_with fail
  exact bodyPost_ret (v := .agg #[.int .i64 op', .int .i64 n', .string s', .slice a' len' cap']) (by simp [results, Tryz.results51, go_sem, d0, d1, d2, d3]) rfl ⟨op', n', s', a', len', cap', fp, rfl, Own.keep _ _ _ (unhide HO4) (fun b hb => set4_heap _ _ _ _ _ _ b (by have := unhide HGE b hb; omega)), ⟨unhide HND, fun x hx => by have := unhide HGE x hx; omega⟩, set4_below (unhide HB4) (by omega)⟩

end Go.Proofs.YtafoonabmijcdaaGreatDoor
