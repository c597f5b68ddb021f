
/- The walk of impl.compare: of whatever two terms lie in memory, the first of at most 2^21 within it, it answers how they stand to each other; nothing that was there is written. -/
import Derived.Test.YteminklafghgpaaGreatDoorCq
import Derived.Deep.LoopGhost
namespace Go.Proofs.YteminklafghgpaaGreatDoor
open Go.RowKit Go.Deep

theorem below_alls {B : Nat} {w v v' : World} (h : Below B w v) (hb : Below v.heap.size v v') (hB : B ≤ v.heap.size) : Below B w v' := h.trans (hb.mono hB)

theorem range_box (w : World) (cs : List Value) (t : TypeId) : (w.alloc (.cells cs.toArray t)).drew.rangeAt w.heap.size 0 cs := fun j v hj => by
  rw [Nat.zero_add]
  exact box_cell w cs.toArray t j v (by simpa using hj)

theorem cells8 (w : World) (g o : Nat) (cs : List Value) (c0 c1 c2 c3 c4 c5 c6 c7 : Value) (hc : cs = [c0, c1, c2, c3, c4, c5, c6, c7]) (h : ∀ j u, cs[j]? = some u → w.cell? ⟨g, o + j, none⟩ = some u) :
    w.cell? ⟨g, o, none⟩ = some c0 ∧ w.cell? ⟨g, o + 1, none⟩ = some c1 ∧ w.cell? ⟨g, o + 2, none⟩ = some c2 ∧ w.cell? ⟨g, o + 3, none⟩ = some c3 ∧
    w.cell? ⟨g, o + 4, none⟩ = some c4 ∧ w.cell? ⟨g, o + 5, none⟩ = some c5 ∧ w.cell? ⟨g, o + 6, none⟩ = some c6 ∧ w.cell? ⟨g, o + 7, none⟩ = some c7 := by
  subst hc
  exact ⟨h 0 _ rfl, h 1 _ rfl, h 2 _ rfl, h 3 _ rfl, h 4 _ rfl, h 5 _ rfl, h 6 _ rfl, h 7 _ rfl⟩

theorem Stq.on {w wr w2 : World} {ps : List Pr} {v : Value} (h : Stq w ps v wr) (hb : Below wr.heap.size wr w2) : Stq w ps v w2 :=
  ⟨h.below.trans (hb.mono h.below.size), h.own.kept (w' := w2) (row := none) ⟨hb.os, hb.tape, hb.output, hb.size, fun k hk _ => hb.block k hk⟩ (by cases v.ownBlock <;> simp), h.lies⟩

set_option maxHeartbeats 2000000 in
theorem cmp24 (t t' : Tm) (op n : Int) (s : ByteArray) (a : Option Addr) (len cap : Nat) (op' n' : Int) (s' : ByteArray) (a' : Option Addr) (len' cap' : Nat) (w : World) (hl : Lies w 0 t (tmCells op n s a len cap)) (hl' : Lies w 0 t' (tmCells op' n' s' a' len' cap'))
    (hsz : t.size ≤ 2097152) :
    Calls Tryz.prog 117 #[.agg #[.int .i64 op, .int .i64 n, .string s, .slice a len cap], .agg #[.int .i64 op', .int .i64 n', .string s', .slice a' len' cap']] w fun e w' => e = .returned (.int .i64 (cmpT t t')) ∧ Below w.heap.size w w' := by
  have HS : Stq w [⟨t, tmCells op n s a len cap, t', tmCells op' n' s' a' len' cap'⟩] (.slice (some ⟨w.heap.size + 1 + 1, 0, none⟩) 1 1)
      (((w.alloc (.cells #[.int .i64 op, .int .i64 n, .string s, .slice a len cap] 35)).alloc (.cells #[.int .i64 op', .int .i64 n', .string s', .slice a' len' cap'] 35)).alloc (.cells #[.int .i64 op, .int .i64 n, .string s, .slice a len cap, .int .i64 op', .int .i64 n', .string s', .slice a' len' cap'] 167)) := by
    have := Stq.start (w := w) (w0 := (w.alloc (.cells #[.int .i64 op, .int .i64 n, .string s, .slice a len cap] 35)).alloc (.cells #[.int .i64 op', .int .i64 n', .string s', .slice a' len' cap'] 35)) (p := ⟨t, tmCells op n s a len cap, t', tmCells op' n' s' a' len' cap'⟩)
      (((Below.refl _ _).alloc (Nat.le_refl _) _).alloc (by simp) _) ⟨hl, hl'⟩
    simpa [tmCells, Pr.cells] using this
  have HS' := hide HS
  have HC : Hid (cmpQ [⟨t, tmCells op n s a len cap, t', tmCells op' n' s' a' len' cap'⟩] = cmpT t t') := by
    show _ = _
    have := cmpQ_snoc [] ⟨t, tmCells op n s a len cap, t', tmCells op' n' s' a' len' cap'⟩
    rw [List.nil_append, cmpQ_nil] at this
    rw [this]
    simp only [orI]
    split <;> simp_all
  have HZ : Hid (sizesQ [⟨t, tmCells op n s a len cap, t', tmCells op' n' s' a' len' cap'⟩] = t.size) := sizesQ_one _
  clear HS
  generalize cmpT t t' = C at *
  generalize t.size = tot at *
  clear hl hl'
  go_enter Tryz.func117, Tryz.ntmps117
  go_wp2_with fail
  go_loopg [5] (tot + 1) (fun gk v wr => ∃ ps : List Pr, sizesQ ps < gk ∧ sizesQ ps ≤ tot ∧ cmpQ ps = C ∧ Stq w ps v wr)
  case atStart => exact ⟨_, by rw [HZ.out]; omega, by rw [HZ.out]; exact Nat.le_refl _, HC.out, unhide HS'⟩
  case round =>
    obtain ⟨ps, hgk, hpt, hC, hstk⟩ := hrel
    clear HS' HC HZ
    by_cases hps : ps = []
    · subst hps
      obtain ⟨av, c, hv, _⟩ := hstk.shape
      simp only [List.length_nil] at hv
      have HB := hide hstk.below
      have HC := hide hC
      clear hstk hpt hgk hC
      subst hv
      go_wp2_with fail
      go_ret
      exact ⟨ret_int (unhide HC), unhide HB⟩
    · obtain ⟨us, p, rfl⟩ : ∃ us p, ps = us ++ [p] := ⟨ps.dropLast, ps.getLast hps, (List.dropLast_concat_getLast hps).symm⟩
      obtain ⟨g, c, rfl, hc1, hc2, hcell, hus⟩ := hstk.top
      have hok := hstk.lies p (by simp)
      have hlen := length_le_sizesQ us
      rw [sizesQ_append, sizesQ_one] at hgk hpt
      rw [cmpQ_snoc] at hC
      obtain ⟨pt, pc, pt', pc'⟩ := p
      obtain ⟨op1, n1, s1, ks⟩ := pt
      obtain ⟨op2, n2, s2, ks'⟩ := pt'
      obtain ⟨hla, hlb⟩ := hok
      simp only [Lies] at hla hlb
      obtain ⟨a1, cap1, rfl, ⟨_, hk1, hk2⟩, _, hk⟩ := hla
      obtain ⟨a2, cap2, rfl, ⟨_, hk1', hk2'⟩, _, hk'⟩ := hlb
      simp only [cmpT] at hC
      obtain ⟨p0, p1, p2, p3, p4, p5, p6, p7⟩ := cells8 _ _ _ _ _ _ _ _ _ _ _ _ rfl hcell
      have hul : us.length ≤ 2097152 := by omega
      have hkb : ks.length ≤ 9223372036854775807 := by unfold maxLen at hk2; omega
      have hkb' : ks'.length ≤ 9223372036854775807 := by unfold maxLen at hk2'; omega
      have HT : Hid (g < wr.heap.size) := lt_of_cell p0
      have HU := hide hus
      have HC := hide hC
      have HG := hide hgk
      have HP := hide hpt
      have HK := hide hk
      have HK' := hide hk'
      unfold maxLen at hc2
      clear hgk hpt hC hstk hcell hus hlen hk hk' hk1 hk2 hk1' hk2' hps
      generalize hulg : us.length = ul at *
      have HUL := hide hulg
      clear hulg
      generalize hl1 : ks.length = l1 at *
      generalize hl2 : ks'.length = l2 at *
      have HL1 := hide hl1
      have HL2 := hide hl2
      clear hl1 hl2
      have hh := heads28 op1 n1 s1 a1 l1 cap1 op2 n2 s2 a2 l2 cap2
      have HN : Hid (Below wr.heap.size wr (wr.alloc (.cells #[.int .i64 op1, .int .i64 n1, .string s1, .slice a1 l1 cap1, .int .i64 op2, .int .i64 n2, .string s2, .slice a2 l2 cap2] 167))) := (Below.refl _ _).alloc (Nat.le_refl _) _
      have HN3 := hide (box_cell wr #[.int .i64 op1, .int .i64 n1, .string s1, .slice a1 l1 cap1, .int .i64 op2, .int .i64 n2, .string s2, .slice a2 l2 cap2] 167 3 _ rfl)
      have HN7 := hide (box_cell wr #[.int .i64 op1, .int .i64 n1, .string s1, .slice a1 l1 cap1, .int .i64 op2, .int .i64 n2, .string s2, .slice a2 l2 cap2] 167 7 _ rfl)
      by_cases hh0 : headC op1 n1 s1 l1 op2 n2 s2 l2 = 0
      · obtain ⟨e1, e2, e3, e4⟩ := headC_zero.1 hh0
        subst e4
        obtain ⟨prs, q1, q2, q3, q4⟩ := kid_prs (unhide HK) (unhide HK') ((unhide HL1).trans (unhide HL2).symm)
        have hpl : prs.length = l1 := by rw [← unhide HL1, ← q1]; simp
        have HPL := hide hpl
        have HQ1 := hide q1
        have HQ2 := hide q2
        have HQ3 := hide q3
        have HQ4 := hide q4
        have HH := hide hh0
        have hkz := Tm.length_le_sizes ks
        have hl1 : l1 ≤ 2097152 := by have h1 := unhide HP; have h2 := unhide HL1; simp only [Tm.size] at h1; omega
        have hnn : us.length + prs.length ≤ 4194304 := by have := unhide HUL; omega
        have HNN := hide hnn
        clear e1 e2 e3 hpl q1 q2 q3 q4 hh0 hnn hkz
        go_wp2_with fail
        refine (hh _).mono ?_
        rintro e w2 ⟨rfl, hb2⟩
        rw [unhide HH]
        have hM : Mid w us prs l1 wr.heap.size a1 cap1 a2 cap2 l1 (.slice (some ⟨g, 0, none⟩) ul c) w2 := by
          refine ⟨?_, ?_, ?_, ?_, ?_⟩
          · rw [List.drop_of_length_le (by rw [unhide HPL]; exact Nat.le_refl _), List.reverse_nil, List.append_nil]
            exact ((unhide HU).on (unhide HN)).on hb2
          · intro e
            simp only [Value.ownBlock, Option.some.injEq] at e
            have := unhide HT
            omega
          · have := hb2.size
            simp at this
            omega
          · exact (hb2.cell (p := ⟨wr.heap.size, 3, none⟩) (by simp)).trans (unhide HN3)
          · exact (hb2.cell (p := ⟨wr.heap.size, 7, none⟩) (by simp)).trans (unhide HN7)
        have n3 := hM.n3
        have HM := hide hM
        generalize wr.heap.size = nb at *
        clear hM HN HN3 HN7 hh p0 p1 p2 p3 p4 p5 p6 p7 HT HU hb2
        go_wp2_with fail
        go_loopw [5, 9] (fun v i wx => ∃ (k : Nat) (z : Int), k ≤ l1 ∧ i = .int .i64 z ∧ z + 1 = k ∧ Mid w us prs k nb a1 cap1 a2 cap2 l1 v wx) (fun _ i _ => (intOf i + 1).toNat)
        case atStart => exact ⟨l1, (l1 : Int) - 1, Nat.le_refl _, rfl, by omega, unhide HM⟩
        case round =>
          obtain ⟨k, z, hk, rfl, hzk, hM⟩ := hrel
          clear HM n3
          cases k with
          | zero =>
            obtain rfl : z = -1 := by omega
            have HM := hide hM
            clear hM hzk hk
            have HD : Hid (sizesQ (us ++ prs.reverse) = sizesQ us + Tm.sizes ks) := by
              show _ = _
              rw [sizesQ_append, sizesQ_reverse]
              unfold sizesQ
              rw [unhide HQ1]
            have HE : Hid (cmpQ (us ++ prs.reverse) = C) := by
              show _ = _
              rw [cmpQ_kids us prs (unhide HQ1) (unhide HQ2), ← unhide HC, unhide HH, orI_zero (b := cmpL ks ks') rfl]
            go_wp2_with fail
            go_roundg (sizesQ us + Tm.sizes ks + 1)
            case measure => have := unhide HG; simp only [Tm.size] at this; omega
            case rel =>
              exact ⟨us ++ prs.reverse, by rw [unhide HD]; omega, by have := unhide HP; simp only [Tm.size] at this; rw [unhide HD]; omega, unhide HE, by have := (unhide HM).stq; rwa [List.drop_zero] at this⟩
          | succ m =>
            obtain rfl : z = (m : Int) := by omega
            obtain ⟨q, hq⟩ : ∃ q, prs[m]? = some q := ⟨prs[m]'(by rw [unhide HPL]; omega), List.getElem?_eq_getElem _⟩
            obtain ⟨b, o, b', o', rfl, rfl, r1, r2⟩ := unhide HQ4 m q hq
            have hok := unhide HQ3 q (List.mem_of_getElem? hq)
            rw [Nat.zero_add] at r1 r2
            have r1' := rangeAt_below r1 hM.stq.below
            have r2' := rangeAt_below r2 hM.stq.below
            obtain ⟨qt, qc, qt', qc'⟩ := q
            obtain ⟨y0, y1, y2, y3, y4, y5, hy⟩ := hok.l.cells
            obtain ⟨y0', y1', y2', y3', y4', y5', hy'⟩ := hok.l'.cells
            simp only at hy hy' r1' r2'
            subst hy hy'
            have c0 := r1' 0 _ rfl
            have c1 := r1' 1 _ rfl
            have c2 := r1' 2 _ rfl
            have c3 := r1' 3 _ rfl
            have d0 := r2' 0 _ rfl
            have d1 := r2' 1 _ rfl
            have d2 := r2' 2 _ rfl
            have d3 := r2' 3 _ rfl
            rw [Nat.add_zero] at c0 d0
            have n3 := hM.n3
            have n7 := hM.n7
            have hml : (m : Int) < (l1 : Int) := by omega
            have HMS : Hid (∀ (w0 : World) (bb : Nat), Below wr.heap.size wr w0 → w0.rangeAt bb 0 [.int .i64 y0, .int .i64 y1, .string y2, .slice y3 y4 y5, .int .i64 y0', .int .i64 y1', .string y2', .slice y3' y4' y5'] →
                ∃ v' w', (Builtin.append_ #[168, 168] 168 #[u5, .slice (some ⟨bb, 0, none⟩) 1 1]).run Tryz.prog w0 = .ok v' w' ∧ Mid w us prs m nb (some ⟨b, o, none⟩) cap1 (some ⟨b', o', none⟩) cap2 l1 v' w') :=
              fun w0 bb h1 h2 => hM.step (w0 := w0) (b := bb) hq hok (unhide HNN) h1 h2 168
            have HR1 := hide r1
            have HR2 := hide r2
            clear hM r1 r2 r1' r2' hq hok hzk HQ1 HQ2 HQ3 HQ4 HG HP HC HK HK' HL1 HL2 HH HUL HPL HNN
            go_wp2_with fail
            go_region_held3 (fun x => x.cell? ⟨nb, 3, none⟩ = some (.slice (some ⟨b, o, none⟩) l1 cap1) ∧ x.cell? ⟨nb, 7, none⟩ = some (.slice (some ⟨b', o', none⟩) l1 cap2) ∧
                x.cell? ⟨b, o + m * 4, none⟩ = some (.int .i64 y0) ∧ x.cell? ⟨b, o + m * 4 + 1, none⟩ = some (.int .i64 y1) ∧ x.cell? ⟨b, o + m * 4 + 2, none⟩ = some (.string y2) ∧ x.cell? ⟨b, o + m * 4 + 3, none⟩ = some (.slice y3 y4 y5) ∧
                x.cell? ⟨b', o' + m * 4, none⟩ = some (.int .i64 y0') ∧ x.cell? ⟨b', o' + m * 4 + 1, none⟩ = some (.int .i64 y1') ∧ x.cell? ⟨b', o' + m * 4 + 2, none⟩ = some (.string y2') ∧ x.cell? ⟨b', o' + m * 4 + 3, none⟩ = some (.slice y3' y4' y5')) (go_keep)
              (first
                | (refine step_append_run rfl _ _ 168 rfl _ _ rfl rfl (fun v' w' => Mid w us prs m nb (some ⟨b, o, none⟩) cap1 (some ⟨b', o', none⟩) cap2 l1 v' w') (unhide HMS _ _ (((Below.refl _ _).alloc (Nat.le_refl _) _).drew) (range_box _ _ _)) ?_
                   intro v' w' hM'
                   have r3 := rangeAt_below (unhide HR1) hM'.stq.below
                   have r4 := rangeAt_below (unhide HR2) hM'.stq.below
                   have f0 := r3 0 _ rfl
                   have f1 := r3 1 _ rfl
                   have f2 := r3 2 _ rfl
                   have f3 := r3 3 _ rfl
                   have k0 := r4 0 _ rfl
                   have k1 := r4 1 _ rfl
                   have k2 := r4 2 _ rfl
                   have k3 := r4 3 _ rfl
                   rw [Nat.add_zero] at f0 k0
                   have m3 := hM'.n3
                   have m7 := hM'.n7))
            go_wp2_with fail
            go_roundw
            case rel => exact ⟨m, (m : Int) - 1, by omega, rfl, by omega, hM'⟩
            case measure => simp [intOf]
      · have hne : (headC op1 n1 s1 l1 op2 n2 s2 l2 != 0) = true := by simpa using hh0
        have HH := hide hh0
        have HE : Hid (headC op1 n1 s1 l1 op2 n2 s2 l2 = C) := by
          show _ = _
          rw [← unhide HC, orI_not (b := cmpL ks ks') hh0, orI_not hh0]
        clear hh0
        generalize headC op1 n1 s1 l1 op2 n2 s2 l2 = hd at *
        go_wp2_with fail
        refine (hh _).mono ?_
        rintro e w2 ⟨rfl, hb2⟩
        go_wp2_with fail
        go_ret
        exact ⟨ret_int (unhide HE), below_alls (below_alls (unhide HU).below (unhide HN) (unhide HU).below.size) hb2 (by have := (unhide HU).below.size; simp; omega)⟩

theorem ret_bool {a b : Bool} (h : a = b) : Ending.returned (.bool a) = .returned (.bool b) := by rw [h]

def sameB (t t' : Tm) : Bool := decide (cmpT t t' = 0)
def beforeB (t t' : Tm) : Bool := decide (cmpT t t' < 0)

theorem before17 (t t' : Tm) (op n : Int) (s : ByteArray) (a : Option Addr) (len cap : Nat) (op' n' : Int) (s' : ByteArray) (a' : Option Addr) (len' cap' : Nat) (w : World) (hl : Lies w 0 t (tmCells op n s a len cap)) (hl' : Lies w 0 t' (tmCells op' n' s' a' len' cap'))
    (hsz : t.size ≤ 2097152) :
    Calls Tryz.prog 116 #[.agg #[.int .i64 op, .int .i64 n, .string s, .slice a len cap], .agg #[.int .i64 op', .int .i64 n', .string s', .slice a' len' cap']] w fun e w' => e = .returned (.bool (beforeB t t')) ∧ Below w.heap.size w w' := by
  have h24 := hide (cmp24 t t' op n s a len cap op' n' s' a' len' cap')
  have HL := hide hl
  have HL' := hide hl'
  have HB : Hid (∀ c : Int, c = cmpT t t' → beforeB t t' = decide (c < 0)) := fun c hc => by rw [hc]; rfl
  generalize cmpT t t' = C at *
  clear hl hl'
  go_enter Tryz.func116, Tryz.ntmps116
  go_wp2_with fail
  refine (unhide h24 _ ((unhide HL).below (((Below.refl _ _).alloc (Nat.le_refl _) _).alloc (by simp) _)) ((unhide HL').below (((Below.refl _ _).alloc (Nat.le_refl _) _).alloc (by simp) _)) hsz).mono ?_
  rintro e w2 ⟨rfl, hb2⟩
  go_wp2_with fail
  go_ret
  exact ⟨ret_bool (unhide HB _ rfl).symm, (((Below.refl _ _).alloc (Nat.le_refl _) _).alloc (by simp) _).trans (hb2.mono (by simp; omega))⟩

end Go.Proofs.YteminklafghgpaaGreatDoor
