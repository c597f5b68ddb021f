
/- The walks of impl.copyTerm and spec.l1Copy: of whatever term lies in memory they make the same term, in new blocks of its own; nothing that was there is written. -/
import Derived.Test.YtdjbbcjnonkjpaaGreatDoorTp
import Derived.Test.YtdjbbcjnonkjpaaGreatDoorShelf
import Derived.Deep.RegionHeld3
namespace Go.Proofs.YtdjbbcjnonkjpaaGreatDoor
open Go.RowKit Go.Deep

/-- In the middle of the copy: k of the kids are there. -/
structure CyMid (W0 : World) (ks : List Tm) (k : Nat) (v : Value) (wr : World) : Prop where
  below : Below W0.heap.size W0 wr
  grow : ∃ f, Grow W0.heap.size (ks.take k) v f wr

theorem CyMid.start (W0 : World) (ks : List Tm) : CyMid W0 ks 0 (.slice none 0 0) W0 := ⟨Below.refl _ _, [], by simpa using Grow.start _ _⟩

/-- A kid more: its copy w2 makes lies in blocks from wr's end on; it is laid at b and then appended. -/
theorem CyMid.step {W0 wr w2 w3 : World} {ks : List Tm} {k : Nat} {v : Value} {cs : List Value} {f1 : List Nat} {b o : Nat} (h : CyMid W0 ks k v wr) (hb : Below wr.heap.size wr w2) (hk : k < ks.length) (hl : Own w2 ks[k] cs f1) (hnd : f1.Nodup) (hge : ∀ x ∈ f1, wr.heap.size ≤ x)
    (hb3 : Below w2.heap.size w2 w3) (hr : w3.rangeAt b o cs) (c : Nat) (hn : ks.length ≤ 2097152) (ty : TypeId) :
    ∃ v' w', (Builtin.append_ #[27, 27] ty #[v, .slice (some ⟨b, o, none⟩) 1 c]).run Tryz.prog w3 = .ok v' w' ∧ CyMid W0 ks (k + 1) v' w' := by
  obtain ⟨f, hg⟩ := h.grow
  have hb13 : Below wr.heap.size wr w3 := hb.trans (hb3.mono hb.size)
  have hg3 := hg.carry hb13
  have hl3 : Own w3 ks[k] cs f1 := Own.keep _ cs f1 hl fun x hx => hb3.block x (Own.lt _ _ _ hl x hx)
  have hB := h.below.size
  obtain ⟨v', w', r1, r2, r3⟩ := hg3.push (t := ks[k]) hl3 hnd (fun x hx => by have := hge x hx; omega) (fun x hx hxf => by have := hge x hx; have := hg.lt x hxf; omega) (fun g hgv hx => by have := hge g hx; have := hg.own_lt g hgv; omega) hr c (by rw [List.length_take]; omega) (Nat.le_trans hB hb13.size) ty
  refine ⟨v', w', r1, (h.below.trans (hb13.mono hB)).trans r3, f ++ f1, ?_⟩
  rw [Tm.take_succ_get (List.getElem?_eq_getElem hk)]
  exact r2

theorem CyMid.shape {W0 wr : World} {ks : List Tm} {k : Nat} {v : Value} (h : CyMid W0 ks k v wr) (hk : k ≤ ks.length) : ∃ a c, v = .slice a k c ∧ k ≤ c ∧ c ≤ maxLen := by
  obtain ⟨f, hg⟩ := h.grow
  have := hg.shape
  rwa [List.length_take, Nat.min_eq_left hk] at this

theorem CyMid.kids {W0 wr : World} {ks : List Tm} {v : Value} (h : CyMid W0 ks ks.length v wr) : ∃ a cap fp, v = .slice a ks.length cap ∧ ks.length ≤ cap ∧ cap ≤ maxLen ∧ KidsOwn wr a ks fp ∧ fp.Nodup ∧ ∀ x ∈ fp, W0.heap.size ≤ x := by
  obtain ⟨f, hg⟩ := h.grow
  rw [List.take_length] at hg
  exact hg.kids

theorem keepfY {v v' : World} (h : Below v.heap.size v v') {b o : Nat} (hb : b < v.heap.size) (hc : v.frozen? ⟨b, o, none⟩ = false) : v'.frozen? ⟨b, o, none⟩ = false :=
  (h.frozen (p := ⟨b, o, none⟩) hb).trans hc
theorem bt0 {w v v' : World} (h : Below w.heap.size w v) (hb : Below v.heap.size v v') : Below w.heap.size w v' := h.trans (hb.mono h.size)
theorem Tm.wt_mem {t : Tm} {ks : List Tm} (h : t ∈ ks) : t.wt ≤ Tm.wts ks := by
  induction ks with
  | nil => cases h
  | cons x r ih =>
    simp only [Tm.wts]
    rcases List.mem_cons.1 h with rfl | h
    · omega
    · have := ih h; omega

set_option maxRecDepth 100000 in
theorem cloneS (s : ByteArray) (w : World) (hs : s.size ≤ 4194304) :
    Calls Tryz.prog 109 #[.string s] w fun e w' => e = .returned (.string s) ∧ Below w.heap.size w w' := by
  have h := hide (fun v => Tryz.stringslite_Clone s v (by omega))
  go_enter Tryz.func109, Tryz.ntmps109
  go_wp2_with fail
  refine (unhide h _).mono ?_
  rintro e w2 ⟨rfl, hb2⟩
  go_wp2_with fail
  go_ret
  exact ⟨rfl, hb2⟩

def CyOk (t : Tm) : Prop := ∀ (op n : Int) (s : ByteArray) (a : Option Addr) (len cap : Nat) (w : World), Lies w 0 t (tmCells op n s a len cap) → t.size + t.wt ≤ 4194304 →
  Calls Tryz.prog 123 #[.agg #[.int .i64 op, .int .i64 n, .string s, .slice a len cap]] w fun e w' => ∃ a' cap' fp, e = .returned (.agg #[.int .i64 op, .int .i64 n, .string s, .slice a' len cap']) ∧ Own w' t (tmCells op n s a' len cap') fp ∧ (fp.Nodup ∧ ∀ x ∈ fp, w.heap.size ≤ x) ∧ Below w.heap.size w w'

set_option maxRecDepth 100000 in
set_option maxHeartbeats 1000000 in
theorem cy_step (t : Tm) (h : ∀ x ∈ t.kids, CyOk x) : CyOk t := by
  intro op n s a len cap w hl hsz
  cases t with
  | node op' n' s' ks =>
    simp only [Lies, tmCells] at hl
    obtain ⟨a', cap', he, ⟨hs, hlc, hcm⟩, hwf, hk⟩ := hl
    simp only [List.cons.injEq, Value.int.injEq, Value.string.injEq, Value.slice.injEq, true_and, and_true] at he
    obtain ⟨rfl, rfl, rfl, rfl, rfl, rfl⟩ := he
    have hll := Tm.length_le_sizes ks
    have HSZ : Hid (∀ x ∈ ks, x.size + x.wt ≤ 4194304) := fun x hx => by have := Tm.size_mem hx; have := Tm.wt_mem hx; simp only [Tm.size, Tm.wt] at hsz; omega
    have HCL := hide (fun v => cloneS s v (by simp only [Tm.size, Tm.wt] at hsz; omega))
    have hlb : ks.length ≤ 2097152 := by simp only [Tm.size, Tm.wt] at hsz; omega
    have HS : Hid (s.size ≤ maxLen) := hs
    have HW : Hid ((Lit.int .i64 op).wf = true ∧ (Lit.int .i64 n).wf = true) := hwf
    have hbw0 : Below w.heap.size w ((w.alloc (.cells #[.int .i64 op, .int .i64 n, .string s, .slice a ks.length cap] 29)).alloc (.cells #[.int .i64 0, .int .i64 0, .string ByteArray.empty, .slice none 0 0] 29)) := ((Below.refl _ _).alloc (Nat.le_refl _) _).alloc (by simp) _
    have HK := hide (hk.below hbw0)
    have HB0 := hide hbw0
    have H' : Hid (∀ x ∈ ks, CyOk x) := h
    have HM := hide (CyMid.start ((w.alloc (.cells #[.int .i64 op, .int .i64 n, .string s, .slice a ks.length cap] 29)).alloc (.cells #[.int .i64 0, .int .i64 0, .string ByteArray.empty, .slice none 0 0] 29)) ks)
    have hW0 : ((w.alloc (.cells #[.int .i64 op, .int .i64 n, .string s, .slice a ks.length cap] 29)).alloc (.cells #[.int .i64 0, .int .i64 0, .string ByteArray.empty, .slice none 0 0] 29)).heap.size = w.heap.size + 2 := by simp
    have HSW := hide hW0
    generalize hlen : ks.length = len at *
    have HL := hide hlen
    clear h hk hwf hs hlc hcm hsz hll hlen hbw0 hW0
    go_enter Tryz.func123, Tryz.ntmps123
    go_wp2_with fail
    generalize hgw : ((w.alloc (.cells #[.int .i64 op, .int .i64 n, .string s, .slice a len cap] 29)).alloc (.cells #[.int .i64 0, .int .i64 0, .string ByteArray.empty, .slice none 0 0] 29)) = W0 at *
    go_loopw [3, 9] (fun v i wr => ∃ k : Nat, k ≤ len ∧ i = .int .i64 k ∧ CyMid W0 ks k v wr) (fun _ i _ => len - (intOf i).toNat)
    case atStart => exact ⟨0, Nat.zero_le _, rfl, by have := unhide HM; rw [← hgw] at this ⊢; exact this⟩
    case round =>
      obtain ⟨k, hkl, rfl, hM⟩ := hrel
      by_cases hlt : k < len
      · have hlt' : k < ks.length := by have := unhide HL; omega
        obtain ⟨b, o, op1, n1, s1, a1, len1, cap1, rfl, _, hbs, c0, c1, c2, c3, hT⟩ := (unhide HK).elem (k := k) hlt'
        have c0' := (hM.below.cell (p := ⟨b, o + k * 4, none⟩) hbs).trans c0
        have c1' := (hM.below.cell (p := ⟨b, o + k * 4 + 1, none⟩) hbs).trans c1
        have c2' := (hM.below.cell (p := ⟨b, o + k * 4 + 2, none⟩) hbs).trans c2
        have c3' := (hM.below.cell (p := ⟨b, o + k * 4 + 3, none⟩) hbs).trans c3
        have HT : Hid (Lies wr 0 ks[k] (tmCells op1 n1 s1 a1 len1 cap1)) := hT.below hM.below
        have HCT := hide (unhide H' ks[k] (List.getElem_mem hlt'))
        clear c0 c1 c2 c3 hT
        have hbb : Below wr.heap.size wr (wr.alloc (.cells #[.int .i64 op1, .int .i64 n1, .string s1, .slice a1 len1 cap1] 29)) := (Below.refl _ _).alloc (Nat.le_refl _) _
        have HBB := hide hbb
        have HMM := hide hM
        have hz1 := unhide HSZ ks[k] (List.getElem_mem hlt')
        clear hbb hM
        go_wp2_with fail
        refine (unhide HCT op1 n1 s1 a1 len1 cap1 _ ((unhide HT).below (unhide HBB)) hz1).mono ?_
        rintro e w2 ⟨a2, cap2, f2, rfl, hO2, ⟨hnd2, hge2⟩, hb2⟩
        have HP := hide ((unhide HMM).step (w3 := w2.alloc (.cells #[.int .i64 op1, .int .i64 n1, .string s1, .slice a2 len1 cap2] 29)) (b := w2.heap.size) (o := 0) ((unhide HBB).trans (hb2.mono (unhide HBB).size)) hlt' hO2 hnd2 (fun x hx => Nat.le_trans (unhide HBB).size (hge2 x hx)) ((Below.refl _ _).alloc (Nat.le_refl _) _)
          (fun j v hj => by rw [Nat.zero_add]; exact box_cell w2 _ 29 j v (by simpa [tmCells] using hj)) 1 (by have := unhide HL; omega) 27)
        clear hO2 hnd2 hge2 hb2
        go_wp2_with (at_builtin; refine wpList_append_run rfl _ _ 27 rfl _ _ rfl rfl (fun v' w' => CyMid W0 ks (k + 1) v' w') (unhide HP) ?_; intro v' w' hst)
        exact ⟨⟨k + 1, by omega, by go_num, hst⟩, by simp [intOf]; omega⟩
      · obtain ⟨⟨p0, p1, p2, p3⟩, ⟨q0, q1, q2, q3⟩, e0, e1, e2, e3⟩ := boxes2 hgw hM.below
        obtain rfl : k = len := by omega
        obtain ⟨av, cv, fp, rfl, hcv1, hcv2, hko, hnd, hge⟩ := CyMid.kids (ks := ks) (by rw [unhide HL]; exact hM)
        have HMM := hide hM.below
        have HKO := hide hko
        have HND := hide hnd
        have HGE := hide hge
        have HCV := hide (And.intro hcv1 hcv2)
        have HP := hide (And.intro p0 (And.intro p1 (And.intro p2 p3)))
        have HQ := hide (And.intro q0 (And.intro q1 (And.intro q2 q3)))
        have HEE := hide (And.intro e0 (And.intro e1 (And.intro e2 e3)))
        have HLT := hide (lt_of_cell q0)
        clear p3 q0 q1 q2 q3 e0 e1 e2 e3
        rw [unhide HL]
        clear hM hko hnd hge hcv1 hcv2
        go_wp2_with fail
        go_region_held3 (fun x => x.cell? ⟨w.heap.size, 0, none⟩ = some (.int .i64 op) ∧ x.cell? ⟨w.heap.size, 1, none⟩ = some (.int .i64 n) ∧ x.cell? ⟨w.heap.size, 2, none⟩ = some (.string s)) (go_keep)
          (first | (go_at_call 109
                    refine (unhide HCL _).mono ?_
                    rintro e w2 ⟨rfl, hb2⟩
                    have hb2' := hide (below_drew' hb2)
                    have f0 := kpc (unhide hb2') p0
                    have f1 := kpc (unhide hb2') p1
                    have f2 := kpc (unhide hb2') p2
                    have q0 := kpc (unhide hb2') (unhide HQ).1
                    have q1 := kpc (unhide hb2') (unhide HQ).2.1
                    have q2 := kpc (unhide hb2') (unhide HQ).2.2.1
                    have q3 := kpc (unhide hb2') (unhide HQ).2.2.2
                    have e0 := keepfY (unhide hb2') (unhide HLT) (unhide HEE).1
                    have e1 := keepfY (unhide hb2') (unhide HLT) (unhide HEE).2.1
                    have e2 := keepfY (unhide hb2') (unhide HLT) (unhide HEE).2.2.1
                    have e3 := keepfY (unhide hb2') (unhide HLT) (unhide HEE).2.2.2))
        have HMM := hide (bt0 (unhide HMM) (unhide hb2'))
        have HKO := hide ((unhide HKO).keep (fun b hb => (unhide hb2').block b ((unhide HKO).lt b hb)))
        clear p0 p1 p2 f0 f1 f2 hb2 hb2'
        go_wp2_with fail
        refine bodyPost_ret (v := .agg #[.int .i64 op, .int .i64 n, .string s, .slice av k cv]) (by simp [results, Tryz.results123, go_sem, q0, q1, q2, q3]) rfl ⟨av, cv, fp, rfl, ?_, ⟨unhide HND, fun x hx => by have := unhide HGE x hx; have := unhide HSW; omega⟩, ?_⟩
        · have h1 := Own.of_kids (op := op) (n := n) (s := s) (cap := cv) ⟨unhide HS, unhide HCV⟩ (unhide HW) ((unhide HKO).keep (w' := ((((w2.setCell ⟨w.heap.size + 1, 0, none⟩ (.int .i64 op)).setCell ⟨w.heap.size + 1, 1, none⟩ (.int .i64 n)).setCell ⟨w.heap.size + 1, 2, none⟩ (.string s)).setCell ⟨w.heap.size + 1, 3, none⟩ (.slice av k cv))) fun b hb => by
            have hbb := unhide HGE b hb
            rw [unhide HSW] at hbb
            rw [Below.heap_setCell _ _ _ _ (by show b ≠ _; simp only; omega), Below.heap_setCell _ _ _ _ (by show b ≠ _; simp only; omega), Below.heap_setCell _ _ _ _ (by show b ≠ _; simp only; omega), Below.heap_setCell _ _ _ _ (by show b ≠ _; simp only; omega)])
          rw [unhide HL] at h1
          exact h1
        · have hb3 : Below w.heap.size w w2 := (unhide HB0).trans ((unhide HMM).mono (unhide HB0).size)
          exact (((hb3.setCell (by show w.heap.size ≤ w.heap.size + 1; omega) _).setCell (by show w.heap.size ≤ w.heap.size + 1; omega) _).setCell (by show w.heap.size ≤ w.heap.size + 1; omega) _).setCell (by show w.heap.size ≤ w.heap.size + 1; omega) _

theorem cy_any : ∀ (k : Nat) (t : Tm), t.size ≤ k → CyOk t
  | 0, t, h => by have := t.size_pos; omega
  | k + 1, t, h => cy_step t fun x hx => cy_any k x (by
      cases t with
      | node op n s ks =>
        have := Tm.size_mem (ks := ks) hx
        simp only [Tm.size] at h
        omega)

theorem cy_calls (t : Tm) : CyOk t := cy_any t.size t (Nat.le_refl _)

end Go.Proofs.YtdjbbcjnonkjpaaGreatDoor
