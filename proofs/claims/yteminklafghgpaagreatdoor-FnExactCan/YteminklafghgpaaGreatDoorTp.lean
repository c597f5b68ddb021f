
/- The walks of laws.toTerm and laws.toTermS, and of impl.copyTerm: of whatever term lies in memory they make the same term, in new blocks of its own; nothing that was there is written. -/
import Derived.Test.YteminklafghgpaaGreatDoorOx
namespace Go.Proofs.YteminklafghgpaaGreatDoor
open Go.RowKit Go.Deep

/-- In the middle of the copy: k of the kids are there. -/
structure TpMid (w : World) (ks : List Tm) (k : Nat) (wr : World) : Prop where
  below : Below w.heap.size w wr
  row : ∃ C, wr.heap[w.heap.size]? = some (.cells C 35 (0, 0)) ∧ C.size = ks.length * 4
  done : ∃ f, OwnAll wr w.heap.size 0 (ks.take k) f ∧ f.Nodup ∧ ∀ x ∈ f, w.heap.size < x

theorem TpMid.start (w : World) (ks : List Tm) : TpMid w ks 0 (w.alloc (.cells (madeTm ks.length) 35)) :=
  ⟨(Below.refl _ _).alloc (Nat.le_refl _) _, ⟨madeTm ks.length, heap_alloc_new w _, madeTm_size _⟩, [], by simp [OwnAll], by simp, by simp⟩

theorem TpMid.lt {w wr : World} {ks : List Tm} {k : Nat} (h : TpMid w ks k wr) : w.heap.size < wr.heap.size := by
  obtain ⟨C, h1, _⟩ := h.row
  exact lt_of_heap h1

theorem TpMid.row2 {w wr w2 : World} {ks : List Tm} {k : Nat} (h : TpMid w ks k wr) (hb : Below wr.heap.size wr w2) : ∃ C, w2.heap[w.heap.size]? = some (.cells C 35 (0, 0)) ∧ C.size = ks.length * 4 := by
  obtain ⟨C, h1, h2⟩ := h.row
  exact ⟨C, (hb.block _ h.lt).trans h1, h2⟩

theorem TpMid.there {w wr w2 : World} {ks : List Tm} {k : Nat} (h : TpMid w ks k wr) (hb : Below wr.heap.size wr w2) (hk : k < ks.length) : w2.there w.heap.size (k * 4) 4 := by
  obtain ⟨C, h1, h2⟩ := h.row2 hb
  intro j hj
  exact ⟨by rw [cell_of_row h1 (by omega)]; rfl, frozen_of_row h1⟩

theorem setCells_other (b : Nat) : ∀ (vs : List Value) (o : Nat) (v : World) (x : Nat), x ≠ b → (v.setCells b o vs).heap[x]? = v.heap[x]?
  | [], _, _, _, _ => rfl
  | u :: r, o, v, x, h => (setCells_other b r (o + 1) _ x h).trans (Below.heap_setCell v ⟨b, o, none⟩ u x h)

theorem setCells_below (B b : Nat) (hB : B ≤ b) : ∀ (vs : List Value) (o : Nat) (v : World), Below B v (v.setCells b o vs)
  | [], _, _ => Below.refl _ _
  | x :: r, o, v => ((Below.refl _ v).setCell (p := ⟨b, o, none⟩) hB x).trans (setCells_below B b hB r (o + 1) _)

theorem TpMid.step {w wr w2 : World} {ks : List Tm} {k : Nat} {cs : List Value} {f1 : List Nat} (h : TpMid w ks k wr) (hb : Below wr.heap.size wr w2) (hk : k < ks.length) (hl : Own w2 ks[k] cs f1) (hnd : f1.Nodup) (hge : ∀ x ∈ f1, wr.heap.size ≤ x) :
    TpMid w ks (k + 1) (w2.setCells w.heap.size (k * 4) cs) := by
  have hlt := h.lt
  have h4 := hl.length
  have hth := h.there hb hk
  have out : ∀ x, x ≠ w.heap.size → (w2.setCells w.heap.size (k * 4) cs).heap[x]? = w2.heap[x]? := setCells_other _ _ _ _
  obtain ⟨C, h1, h2⟩ := h.row2 hb
  obtain ⟨C', g1, g2⟩ := setCells_row cs (k * 4) w2 C h1
  obtain ⟨f, d1, d2, d3⟩ := h.done
  have hfl := OwnAll.lt _ _ _ f d1
  have hdis : ∀ x ∈ f, x ∉ f1 := fun x hx hx1 => by have := hge x hx1; have := hfl x hx; omega
  refine ⟨(h.below.trans (hb.mono (by omega))).trans (setCells_below _ _ (Nat.le_refl _) _ _ _), ⟨C', g1, g2.trans h2⟩, f ++ f1, ?_, List.nodup_append.2 ⟨d2, hnd, fun x hx y hy e => hdis x hx (e ▸ hy)⟩, fun x hx => ?_⟩
  · rw [Tm.take_succ_get (List.getElem?_eq_getElem hk)]
    have := OwnAll.join (w := w2.setCells w.heap.size (k * 4) cs) (b := w.heap.size) (t := ks[k]) (l2 := []) (f1 := f1) (fB := []) (cs := cs) (i := 0) (l1 := ks.take k) (fA := f) ?_ ?_ ?_ (by simp [OwnAll])
    · rw [List.append_nil] at this
      exact this
    · refine OwnAll.keep _ 0 _ f d1 (fun i _ hi => ?_) fun x hx => (out x (by have := d3 x hx; omega)).trans (hb.block x (hfl x hx))
      rw [List.length_take, Nat.min_eq_left (by omega)] at hi
      rw [World.cell?_setCells_out _ _ _ _ _ (fun _ => by simp only; omega)]
      exact World.cell?_of_block (hb.block _ hlt)
    · rw [List.length_take, Nat.min_eq_left (by omega), Nat.zero_add]
      exact World.rangeAt_setCells_same _ _ _ _ (by rw [h4]; exact hth)
    · exact Own.keep _ cs f1 hl fun x hx => out x (by have := hge x hx; omega)
  · rcases List.mem_append.1 hx with hx | hx
    · exact d3 x hx
    · have := hge x hx; omega

theorem TpMid.kids {w wr : World} {ks : List Tm} (h : TpMid w ks ks.length wr) : ∃ fp, KidsOwn wr (some ⟨w.heap.size, 0, none⟩) ks fp ∧ fp.Nodup ∧ ∀ x ∈ fp, w.heap.size ≤ x := by
  obtain ⟨C, h1, _⟩ := h.row
  obtain ⟨f, d1, d2, d3⟩ := h.done
  rw [List.take_length] at d1
  refine ⟨w.heap.size :: f, Or.inr ⟨_, C, f, rfl, rfl, h1, d1⟩, List.nodup_cons.2 ⟨fun hx => by have := d3 _ hx; omega, d2⟩, fun x hx => ?_⟩
  rcases List.mem_cons.1 hx with rfl | hx
  · exact Nat.le_refl _
  · exact Nat.le_of_lt (d3 x hx)

def TpOk (t : Tm) : Prop := ∀ (op n : Int) (s : ByteArray) (a : Option Addr) (len cap : Nat) (w : World), Lies w 0 t (tmCells op n s a len cap) → t.size ≤ 2097152 →
  Calls Tryz.prog 14 #[.agg #[.int .i64 op, .int .i64 n, .string s, .slice a len cap]] w fun e w' => ∃ a' fp, e = .returned (.agg #[.int .i64 op, .int .i64 n, .string s, .slice a' len len]) ∧ Own w' t (tmCells op n s a' len len) fp ∧ (fp.Nodup ∧ ∀ x ∈ fp, w.heap.size ≤ x) ∧ Below w.heap.size w w'

set_option maxHeartbeats 400000 in
theorem tpS_any (ks : List Tm) (hks : ∀ t ∈ ks, TpOk t) (a : Option Addr) (cap : Nat) (w : World) (hl : LiesAll w 0 a 0 ks) (hsz : Tm.sizes ks ≤ 2097152) :
    Calls Tryz.prog 7 #[.slice a ks.length cap] w fun e w' => e = .returned (.slice (some ⟨w.heap.size, 0, none⟩) ks.length ks.length) ∧ (∃ fp, KidsOwn w' (some ⟨w.heap.size, 0, none⟩) ks fp ∧ fp.Nodup ∧ ∀ x ∈ fp, w.heap.size ≤ x) ∧ Below w.heap.size w w' := by
  have hll := Tm.length_le_sizes ks
  have hmk := make_tm ks.length (by omega)
  have HS : Hid (∀ k (hk : k < ks.length), (ks[k]).size ≤ 2097152) := fun k hk => by have := Tm.size_mem (List.getElem_mem hk); omega
  have HM := TpMid.start w ks
  have HM' : Hid (TpMid w ks 0 (w.alloc (.cells (madeTm ks.length) 35))) := HM
  clear HM
  have hlb : ks.length ≤ 2097152 := by omega
  generalize hlen : ks.length = len at hmk hll hlb HM' ⊢
  have HL : Hid (ks.length = len) := hlen
  clear hlen
  go_enter Tryz.func7, Tryz.ntmps7
  go_wp2_with fail
  go_loopw [4] (fun i wr => ∃ k : Nat, k ≤ len ∧ i = .int .i64 k ∧ TpMid w ks k wr) (fun i _ => len - (intOf i).toNat)
  case atStart => exact ⟨0, Nat.zero_le _, rfl, HM'.out⟩
  case round =>
    obtain ⟨k, hkl, rfl, hM⟩ := hrel
    by_cases hlt : k < len
    · have hlt' : k < ks.length := by have := HL.out; omega
      obtain ⟨b, o, op1, n1, s1, a1, len1, cap1, rfl, _, hbs, c0, c1, c2, c3, hT⟩ := hl.elem (k := k) hlt'
      have c0' := (hM.below.cell (p := ⟨b, o + k * 4, none⟩) hbs).trans c0
      have c1' := (hM.below.cell (p := ⟨b, o + k * 4 + 1, none⟩) hbs).trans c1
      have c2' := (hM.below.cell (p := ⟨b, o + k * 4 + 2, none⟩) hbs).trans c2
      have c3' := (hM.below.cell (p := ⟨b, o + k * 4 + 3, none⟩) hbs).trans c3
      have HT : Hid (Lies wr 0 ks[k] (tmCells op1 n1 s1 a1 len1 cap1)) := hT.below hM.below
      have hct := hks ks[k] (List.getElem_mem hlt')
      clear c0 c1 c2 c3 hT
      go_wp2_with fail
      refine (hct op1 n1 s1 a1 len1 cap1 _ HT.out (HS.out k hlt')).mono ?_
      rintro e w2 ⟨a2, f2, rfl, hL2, ⟨hnd2, hge2⟩, hb2⟩
      have hth := hM.there hb2 hlt'
      obtain ⟨d0, f0⟩ := hth 0 (by omega)
      obtain ⟨d1, f1⟩ := hth 1 (by omega)
      obtain ⟨d2, f2⟩ := hth 2 (by omega)
      obtain ⟨d3, f3⟩ := hth 3 (by omega)
      obtain ⟨u0, d0⟩ := Option.isSome_iff_exists.1 d0
      obtain ⟨u1, d1⟩ := Option.isSome_iff_exists.1 d1
      obtain ⟨u2, d2⟩ := Option.isSome_iff_exists.1 d2
      obtain ⟨u3, d3⟩ := Option.isSome_iff_exists.1 d3
      rw [Nat.add_zero] at d0 f0
      have HM2 : Hid (TpMid w ks (k + 1) (w2.setCells w.heap.size (k * 4) (tmCells op1 n1 s1 a2 len1 len1))) := hM.step hb2 hlt' hL2 hnd2 hge2
      clear hL2 hth hnd2 hge2
      go_wp2_with fail
      go_roundw
      case rel => exact ⟨k + 1, by omega, by go_num, HM2.out⟩
      case measure => simp [intOf]; omega
    · go_wp2_with fail
      go_ret
      have hkk : k = ks.length := by have := HL.out; omega
      subst hkk
      exact ⟨rfl, hM.kids, hM.below⟩

set_option maxHeartbeats 400000 in
theorem tp_step (t : Tm) (h : ∀ x ∈ t.kids, TpOk x) : TpOk t := by
  intro op n s a len cap w hl hsz
  cases t with
  | node op' n' s' ks =>
    simp only [Lies, tmCells] at hl
    obtain ⟨a', cap', he, ⟨hs, hlc, hcm⟩, hwf, hk⟩ := hl
    simp only [List.cons.injEq, Value.int.injEq, Value.string.injEq, Value.slice.injEq, true_and, and_true] at he
    obtain ⟨rfl, rfl, rfl, rfl, rfl, rfl⟩ := he
    have hzs : Tm.sizes ks ≤ 2097152 := by simp only [Tm.size] at hsz; omega
    have hS := tpS_any ks h
    have HF : Hid (s.size ≤ maxLen ∧ ks.length ≤ ks.length ∧ ks.length ≤ maxLen) := ⟨hs, Nat.le_refl _, by omega⟩
    have HW : Hid ((Lit.int .i64 op).wf = true ∧ (Lit.int .i64 n).wf = true) := hwf
    have HK : Hid (LiesAll w 0 a 0 ks) := hk
    clear h hk hwf hs hlc hcm
    go_enter Tryz.func14, Tryz.ntmps14
    go_wp2_with fail
    refine (hS a cap _ (HK.out.below (below_alloc3 _ _ _ _)) hzs).mono ?_
    rintro e w2 ⟨rfl, ⟨fp, hL2, hnd, hge⟩, hb2⟩
    obtain ⟨hc, hf⟩ := bcell hb2
    go_wp2_with fail
    simp only [heap_size_alloc] at hL2 hb2 hc hge
    have hb3 : Below w.heap.size w w2 := (below_alloc3 _ _ _ _).trans (hb2.mono (by omega))
    refine bodyPost_ret (v := .agg #[.int .i64 op, .int .i64 n, .string s, .slice (some ⟨w.heap.size + 1 + 1 + 1, 0, none⟩) ks.length ks.length]) (by simp [results, Tryz.results14, go_sem, hc]) rfl ⟨_, fp, rfl, ?_, ⟨hnd, fun x hx => by have := hge x hx; omega⟩, ?_⟩
    · refine Own.of_kids HF.out HW.out (hL2.keep fun b hb => ?_)
      have hbb := hge b hb
      rw [Below.heap_setCell _ _ _ _ (by show b ≠ _; simp only; omega), Below.heap_setCell _ _ _ _ (by show b ≠ _; simp only; omega), Below.heap_setCell _ _ _ _ (by show b ≠ _; simp only; omega), Below.heap_setCell _ _ _ _ (by show b ≠ _; simp only; omega), Below.heap_setCell _ _ _ _ (by show b ≠ _; simp only; omega)]
    · exact ((((hb3.setCell (by show w.heap.size ≤ w.heap.size + 1 + 1; omega) _).setCell (by simp) _).setCell (by simp) _).setCell (by simp) _).setCell (by simp) _

theorem tp_any : ∀ (k : Nat) (t : Tm), t.size ≤ k → TpOk t
  | 0, t, h => by have := t.size_pos; omega
  | k + 1, t, h => tp_step t fun x hx => tp_any k x (by
      cases t with
      | node op n s ks =>
        have := Tm.size_mem (ks := ks) hx
        simp only [Tm.size] at h
        omega)

theorem tp_calls (t : Tm) : TpOk t := tp_any t.size t (Nat.le_refl _)

end Go.Proofs.YteminklafghgpaaGreatDoor
