
/- The walk of spec.l1Copy: of whatever term lies in memory it makes the same term, in new blocks of its own; nothing that was there is written. -/
import Derived.Test.YteminklafghgpaaGreatDoorOx
import Derived.Deep.RegionLaw
namespace Go.Proofs.YteminklafghgpaaGreatDoor
open Go.RowKit Go.Deep

theorem Grow.blocks {B : Nat} {ks : List Tm} {v : Value} {f : List Nat} {w w' : World} (h : Grow B ks v f w) (hb : ∀ x, B ≤ x → w'.heap[x]? = w.heap[x]?) : Grow B ks v f w' := by
  obtain ⟨xs, ho, hr⟩ := h.row
  refine ⟨⟨xs, ⟨ho.1, ?_⟩, hr.keep fun b hbf => hb b (h.ge b hbf)⟩, h.nd, h.ge, h.out⟩
  rcases ho.2 with h1 | ⟨g, cap, cur, h1, h2, h3, h4⟩
  · exact Or.inl h1
  · exact Or.inr ⟨g, cap, cur, h1, h2, (hb g h2).trans h3, h4⟩

/-- In the middle of the copy: k of the kids are there, the list in the last cell of the block g. -/
structure CzMid (W0 : World) (op n : Int) (s : ByteArray) (ks : List Tm) (k : Nat) (wr : World) : Prop where
  below : Below W0.heap.size W0 wr
  grow : ∃ v f, wr.heap[W0.heap.size]? = some (.cells #[.int .i64 op, .int .i64 n, .string s, v] 35 (0, 0)) ∧ Grow (W0.heap.size + 1) (ks.take k) v f wr

theorem CzMid.start (W0 : World) (op n : Int) (s : ByteArray) (ks : List Tm) : CzMid W0 op n s ks 0 (W0.alloc (.cells #[.int .i64 op, .int .i64 n, .string s, .slice none 0 0] 35)) :=
  ⟨(Below.refl _ _).alloc (Nat.le_refl _) _, .slice none 0 0, [], heap_alloc_new W0 _, by simpa using Grow.start _ _⟩

theorem setCell3 {w : World} {b : Nat} {x0 x1 x2 x3 : Value} {t : TypeId} {fr : Nat × Nat} (v : Value) (h : w.heap[b]? = some (.cells #[x0, x1, x2, x3] t fr)) : (w.setCell ⟨b, 3, none⟩ v).heap[b]? = some (.cells #[x0, x1, x2, v] t fr) := by
  simp only [World.setCell, Array.getElem?_modify]
  simp [h]

theorem CzMid.lt {W0 wr : World} {op n : Int} {s : ByteArray} {ks : List Tm} {k : Nat} (h : CzMid W0 op n s ks k wr) : W0.heap.size < wr.heap.size := by
  obtain ⟨v, f, h1, _⟩ := h.grow
  exact lt_of_heap h1

theorem CzMid.cell {W0 wr : World} {op n : Int} {s : ByteArray} {ks : List Tm} {k : Nat} (h : CzMid W0 op n s ks k wr) : ∃ v, wr.cell? ⟨W0.heap.size, 3, none⟩ = some v ∧
    ∀ (w2 w3 : World) (cs : List Value) (f1 : List Nat) (b o : Nat), Below wr.heap.size wr w2 → (hk : k < ks.length) → Own w2 ks[k] cs f1 → f1.Nodup → (∀ x ∈ f1, wr.heap.size ≤ x) → Below w2.heap.size w2 w3 → w3.rangeAt b o cs → ∀ (c : Nat), ks.length ≤ 2097152 → ∀ ty : TypeId,
      ∃ v' w', (Builtin.append_ #[24, 24] ty #[v, .slice (some ⟨b, o, none⟩) 1 c]).run Tryz.prog w3 = .ok v' w' ∧ w'.cell? ⟨W0.heap.size, 3, none⟩ = some v ∧ w'.frozen? ⟨W0.heap.size, 3, none⟩ = false ∧ (∃ xa xl xc, v' = .slice xa xl xc) ∧ CzMid W0 op n s ks (k + 1) (w'.setCell ⟨W0.heap.size, 3, none⟩ v') := by
  have hlt0 := h.lt
  have hB := h.below.size
  have hbel := h.below
  obtain ⟨v, f, h1, hg⟩ := h.grow
  refine ⟨v, cell_of_row h1 (by simp), ?_⟩
  intro w2 w3 cs f1 b o hb hk hl hnd hge hb3 hr c hn ty
  have hb13 : Below wr.heap.size wr w3 := hb.trans (hb3.mono hb.size)
  have hg3 := hg.carry hb13
  have hl3 : Own w3 ks[k] cs f1 := Own.keep _ cs f1 hl fun x hx => hb3.block x (Own.lt _ _ _ hl x hx)
  obtain ⟨v', w', r1, r2, r3⟩ := hg3.push (t := ks[k]) hl3 hnd (fun x hx => by have := hge x hx; omega) (fun x hx hxf => by have := hge x hx; have := hg.lt x hxf; omega) (fun g hgv hx => by have := hge g hx; have := hg.own_lt g hgv; omega) hr c (by rw [List.length_take]; omega) (by have := hb13.size; omega) ty
  have hrow : w'.heap[W0.heap.size]? = some (.cells #[.int .i64 op, .int .i64 n, .string s, v] 35 (0, 0)) := by
    rw [r3.block _ (by omega), hb13.block _ hlt0]
    exact h1
  obtain ⟨xa, xc, hsh, _⟩ := r2.shape
  refine ⟨v', w', r1, cell_of_row hrow (by simp), frozen_of_row hrow, ⟨xa, _, xc, hsh⟩, ?_, v', f ++ f1, setCell3 v' hrow, ?_⟩
  · exact ((hbel.trans (hb13.mono hB)).trans (r3.mono (by omega))).setCell (Nat.le_refl _) _
  · rw [Tm.take_succ_get (List.getElem?_eq_getElem hk)]
    exact r2.blocks fun x hx => Below.heap_setCell _ _ _ _ (by show x ≠ _; simp only; omega)

theorem CzMid.kids {W0 wr : World} {op n : Int} {s : ByteArray} {ks : List Tm} (h : CzMid W0 op n s ks ks.length wr) : ∃ a cap fp, wr.heap[W0.heap.size]? = some (.cells #[.int .i64 op, .int .i64 n, .string s, .slice a ks.length cap] 35 (0, 0)) ∧
    ks.length ≤ cap ∧ cap ≤ maxLen ∧ KidsOwn wr a ks fp ∧ fp.Nodup ∧ ∀ x ∈ fp, W0.heap.size + 1 ≤ x := by
  obtain ⟨v, f, h1, hg⟩ := h.grow
  rw [List.take_length] at hg
  obtain ⟨a, cap, fp, rfl, h2, h3, h4, h5, h6⟩ := hg.kids
  exact ⟨a, cap, fp, h1, h2, h3, h4, h5, h6⟩

theorem box_at (w : World) (cs : List Value) (j : Nat) (v : Value) (h : cs[j]? = some v) : (w.alloc (.cells cs.toArray 35)).cell? ⟨w.heap.size, 0 + j, none⟩ = some v := by
  rw [Nat.zero_add]
  exact box_cell w _ 35 j v (by simpa using h)
theorem len_le {a b : Nat} (h : a = b) (hb : b ≤ 2097152) : a ≤ 2097152 := by omega

/-- An append in a region that draws its order, by what its run comes to. -/
theorem cz_append_run {P : Program} {ops : Array Oper} {o : Oper} {a : Act} {w : World} {K : Act → World → Prop} {Q : Exit → Act → World → Prop} {E : Prop}
    (hg : o.guard = none) (s x : Operand) (t : TypeId) (hop : o.op = Op.call { callee := Callee.builtin Builtin.append, args := #[s, x], argTypes := #[t, t] })
    (v xv : Value) (hs : a.eval s = v) (hx : a.eval x = xv) (R : Value → World → Prop) (hrun : ∃ v' w', (Builtin.append_ #[t, t] o.type #[v, xv]).run P w = .ok v' w' ∧ R v' w')
    (hK : ∀ v' w', R v' w' → K (a.put o.dst v') w') :
    if Region.wanted o (yielded ops a.tmps) = true then Oper.wp P o a w K Q else E := by
  have hw : Region.wanted o (yielded ops a.tmps) = true := by simp [Region.wanted, hg]
  rw [if_pos hw]
  obtain ⟨v', w', hr, h2⟩ := hrun
  unfold Oper.wp
  simp [execOp, hop, resolve, invoke, builtin, hs, hx, hr, Result.andThen]
  exact hK v' w' h2

def CzOk (t : Tm) : Prop := ∀ (op n : Int) (s : ByteArray) (a : Option Addr) (len cap : Nat) (w : World), Lies w 0 t (tmCells op n s a len cap) → t.size ≤ 2097152 →
  Calls Tryz.prog 30 #[.agg #[.int .i64 op, .int .i64 n, .string s, .slice a len cap]] w fun e w' => ∃ a' cap' fp, e = .returned (.agg #[.int .i64 op, .int .i64 n, .string s, .slice a' len cap']) ∧ Own w' t (tmCells op n s a' len cap') fp ∧ (fp.Nodup ∧ ∀ x ∈ fp, w.heap.size ≤ x) ∧ Below w.heap.size w w'

set_option maxRecDepth 100000 in
set_option maxHeartbeats 1000000 in
theorem cz_step (t : Tm) (h : ∀ x ∈ t.kids, CzOk x) : CzOk t := by
  intro op n s a len cap w hl hsz
  cases t with
  | node op' n' s' ks =>
    simp only [Lies, tmCells] at hl
    obtain ⟨a', cap', he, ⟨hs, hlc, hcm⟩, hwf, hk⟩ := hl
    simp only [List.cons.injEq, Value.int.injEq, Value.string.injEq, Value.slice.injEq, true_and, and_true] at he
    obtain ⟨rfl, rfl, rfl, rfl, rfl, rfl⟩ := he
    have hll := Tm.length_le_sizes ks
    have HSZ : Hid (∀ x ∈ ks, x.size ≤ 2097152) := fun x hx => by have := Tm.size_mem hx; simp only [Tm.size] at hsz; omega
    have hlb : ks.length ≤ 2097152 := by simp only [Tm.size] at hsz; omega
    have HS : Hid (s.size ≤ maxLen) := hs
    have HW : Hid ((Lit.int .i64 op).wf = true ∧ (Lit.int .i64 n).wf = true) := hwf
    have hbw0 : Below w.heap.size w ((w.alloc (.cells #[.int .i64 op, .int .i64 n, .string s, .slice a ks.length cap] 35)).alloc (.cells #[.int .i64 0, .int .i64 0, .string ByteArray.empty, .slice none 0 0] 35)) := ((Below.refl _ _).alloc (Nat.le_refl _) _).alloc (by simp) _
    have HK := hide (hk.below hbw0)
    have HB0 := hide hbw0
    have H' : Hid (∀ x ∈ ks, CzOk x) := h
    have hW0 : ((w.alloc (.cells #[.int .i64 op, .int .i64 n, .string s, .slice a ks.length cap] 35)).alloc (.cells #[.int .i64 0, .int .i64 0, .string ByteArray.empty, .slice none 0 0] 35)).heap.size = w.heap.size + 1 + 1 := by simp
    have HM := hide (CzMid.start ((w.alloc (.cells #[.int .i64 op, .int .i64 n, .string s, .slice a ks.length cap] 35)).alloc (.cells #[.int .i64 0, .int .i64 0, .string ByteArray.empty, .slice none 0 0] 35)) op n s ks)
    have HSW := hide hW0
    generalize hlen : ks.length = len at *
    have HL := hide hlen
    clear h hk hwf hs hlc hcm hsz hll hlen hbw0 hW0
    go_enter Tryz.func30, Tryz.ntmps30
    go_wp2_with fail
    generalize hgw : ((w.alloc (.cells #[.int .i64 op, .int .i64 n, .string s, .slice a len cap] 35)).alloc (.cells #[.int .i64 0, .int .i64 0, .string ByteArray.empty, .slice none 0 0] 35)) = W0 at *
    go_loopw [4] (fun i wr => ∃ k : Nat, k ≤ len ∧ i = .int .i64 k ∧ CzMid W0 op n s ks k wr) (fun i _ => len - (intOf i).toNat)
    case atStart => exact ⟨0, Nat.zero_le _, rfl, by have := unhide HM; rw [← hgw] at this ⊢; exact this⟩
    case round =>
      obtain ⟨k, hkl, rfl, hM⟩ := hrel
      obtain ⟨⟨p0, p1, p2, p3⟩, ⟨q0, q1, q2, q3⟩, e0, e1, e2, e3⟩ := boxes2 hgw hM.below
      by_cases hlt : k < len
      · have hlt' : k < ks.length := by have := unhide HL; omega
        obtain ⟨b, o, op1, n1, s1, a1, len1, cap1, rfl, _, hbs, c0, c1, c2, c3, hT⟩ := (unhide HK).elem (k := k) hlt'
        have c0' := (hM.below.cell (p := ⟨b, o + k * 4, none⟩) hbs).trans c0
        have c1' := (hM.below.cell (p := ⟨b, o + k * 4 + 1, none⟩) hbs).trans c1
        have c2' := (hM.below.cell (p := ⟨b, o + k * 4 + 2, none⟩) hbs).trans c2
        have c3' := (hM.below.cell (p := ⟨b, o + k * 4 + 3, none⟩) hbs).trans c3
        have HT : Hid (Lies wr 0 ks[k] (tmCells op1 n1 s1 a1 len1 cap1)) := hT.below hM.below
        have HCT := hide (unhide H' ks[k] (List.getElem_mem hlt'))
        have hz1 := unhide HSZ ks[k] (List.getElem_mem hlt')
        obtain ⟨v, g3, hpush⟩ := hM.cell
        rw [unhide HSW] at g3 hpush
        have HP := hide hpush
        clear c0 c1 c2 c3 hT hpush hM HM q0 q1 q2 q3 e0 e1 e2 e3 p0 p1 p2
        go_wp2_with fail
        go_region_law (first
          | (refine cz_append_run rfl _ _ 24 rfl _ _ rfl rfl (fun v' w' => w'.cell? ⟨w.heap.size + 1 + 1, 3, none⟩ = some v ∧ w'.frozen? ⟨w.heap.size + 1 + 1, 3, none⟩ = false ∧ (∃ xa xl xc, v' = .slice xa xl xc) ∧ CzMid W0 op n s ks (k + 1) (w'.setCell ⟨w.heap.size + 1 + 1, 3, none⟩ v')) (unhide HQ) ?_; rintro v' w' ⟨k1, k2, ⟨xa, xl, xc, rfl⟩, k3⟩; have HK3 := hide k3; clear k3)
          | (go_simp; go_at_call 30; refine (unhide HCT op1 n1 s1 a1 len1 cap1 _ ((unhide HT).below ((Below.refl _ _).drew)) hz1).mono ?_; rintro e w2 ⟨a2, cap2, f2, rfl, hO2, ⟨hnd2, hge2⟩, hb2⟩; have hb2' := below_drew' hb2; have g3 := kpc hb2' g3; have g4 := kpc ((Below.refl w2.heap.size w2).alloc (Nat.le_refl _) (.cells #[.int .i64 op1, .int .i64 n1, .string s1, .slice a2 len1 cap2] 35)) g3; have HQ := hide (unhide HP w2 (w2.alloc (.cells #[.int .i64 op1, .int .i64 n1, .string s1, .slice a2 len1 cap2] 35)) (tmCells op1 n1 s1 a2 len1 cap2) f2 w2.heap.size 0 hb2' hlt' hO2 hnd2 hge2 ((Below.refl _ _).alloc (Nat.le_refl _) _) (fun j v hj => box_at w2 _ j v hj) 1 (len_le (unhide HL) hlb) 27); clear hO2 hnd2 hge2 hb2 hb2'))
        all_goals
          go_wp2_with fail
          exact ⟨⟨k + 1, by omega, by go_num, unhide HK3⟩, by simp [intOf]; omega⟩
      · obtain rfl : k = len := by omega
        obtain ⟨av, cv, fp, hrow, hcv1, hcv2, hko, hnd, hge⟩ := CzMid.kids (ks := ks) (by rw [unhide HL]; exact hM)
        rw [unhide HSW, unhide HL] at hrow
        have g0 := cell_of_row hrow (j := 0) (by simp)
        have g1 := cell_of_row hrow (j := 1) (by simp)
        have g2 := cell_of_row hrow (j := 2) (by simp)
        have g3 := cell_of_row hrow (j := 3) (by simp)
        simp only [List.getElem_toArray, List.getElem_cons_zero, List.getElem_cons_succ] at g0 g1 g2 g3
        have HMM := hide hM.below
        have HKO := hide hko
        have HND := hide hnd
        have HGE := hide hge
        have HCV := hide (And.intro hcv1 hcv2)
        clear hM hko hnd hge hcv1 hcv2 hrow HM
        go_wp2_with fail
        refine bodyPost_ret (v := .agg #[.int .i64 op, .int .i64 n, .string s, .slice av k cv]) (by simp [results, Tryz.results30, go_sem, q0, q1, q2, q3]) rfl ⟨av, cv, fp, rfl, ?_, ⟨unhide HND, fun x hx => by have := unhide HGE x hx; have := unhide HSW; omega⟩, ?_⟩
        · have h1 := Own.of_kids (op := op) (n := n) (s := s) (cap := cv) ⟨unhide HS, unhide HCV⟩ (unhide HW) ((unhide HKO).keep (w' := ((((wr.setCell ⟨w.heap.size + 1, 0, none⟩ (.int .i64 op)).setCell ⟨w.heap.size + 1, 1, none⟩ (.int .i64 n)).setCell ⟨w.heap.size + 1, 2, none⟩ (.string s)).setCell ⟨w.heap.size + 1, 3, none⟩ (.slice av k cv))) fun b hb => by
            have hbb := unhide HGE b hb
            rw [unhide HSW] at hbb
            rw [Below.heap_setCell _ _ _ _ (by show b ≠ _; simp only; omega), Below.heap_setCell _ _ _ _ (by show b ≠ _; simp only; omega), Below.heap_setCell _ _ _ _ (by show b ≠ _; simp only; omega), Below.heap_setCell _ _ _ _ (by show b ≠ _; simp only; omega)])
          rw [unhide HL] at h1
          exact h1
        · have hb3 : Below w.heap.size w wr := (unhide HB0).trans ((unhide HMM).mono (unhide HB0).size)
          exact (((hb3.setCell (by show w.heap.size ≤ w.heap.size + 1; omega) _).setCell (by show w.heap.size ≤ w.heap.size + 1; omega) _).setCell (by show w.heap.size ≤ w.heap.size + 1; omega) _).setCell (by show w.heap.size ≤ w.heap.size + 1; omega) _

theorem cz_any : ∀ (k : Nat) (t : Tm), t.size ≤ k → CzOk t
  | 0, t, h => by have := t.size_pos; omega
  | k + 1, t, h => cz_step t fun x hx => cz_any k x (by
      cases t with
      | node op n s ks =>
        have := Tm.size_mem (ks := ks) hx
        simp only [Tm.size] at h
        omega)

theorem cz_calls (t : Tm) : CzOk t := cz_any t.size t (Nat.le_refl _)

end Go.Proofs.YteminklafghgpaaGreatDoor
