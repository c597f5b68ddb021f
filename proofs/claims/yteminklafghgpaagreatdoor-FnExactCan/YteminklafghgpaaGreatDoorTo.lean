
/- The walks of laws.toTerm and laws.toTermS: of whatever term lies in memory, of at most 2^21 within it, they make the same term in new memory; nothing that was there is written. -/
import Derived.Test.YteminklafghgpaaGreatDoorTs
namespace Go.Proofs.YteminklafghgpaaGreatDoor
open Go.RowKit Go.Deep

theorem info29 : (Tryz.prog.info? 35).map (fun i => (i.zero, i.size, i.bytes)) = some (some (.agg #[.int .i64 0, .int .i64 0, .string ByteArray.empty, .slice none 0 0]), 4, 56) := by kernel_rfl

def madeTm (n : Nat) : Array Value := madeCells #[.int .i64 0, .int .i64 0, .string ByteArray.empty, .slice none 0 0] (n * 4)
theorem madeTm_size (n : Nat) : (madeTm n).size = n * 4 := size_madeCells _ _

theorem make_tm (n : Nat) (hn : n ≤ 2097152) (w : World) :
    (Instr.makeSlice 24 (.int .i64 (n : Int)) (.int .i64 (n : Int))).run Tryz.prog w = .ok (.slice (some ⟨w.heap.size, 0, none⟩) n n) (w.alloc (.cells (madeTm n) 35)) := by
  obtain ⟨i, hi, hzz⟩ := Option.map_eq_some_iff.1 info29
  simp only [Prod.mk.injEq] at hzz
  obtain ⟨hz, hs, hb⟩ := hzz
  have hr := run_make (P := Tryz.prog) w 24 35 i _ Tryz.underlying24 hi hz .i64 .i64 n n (by omega) (Int.le_refl _) (by rw [hb]; omega) (by omega)
  simp only [Int.toNat_natCast, hs] at hr
  exact hr

theorem setCells_row {b : Nat} {t : TypeId} {fr : Nat × Nat} : ∀ (vs : List Value) (o : Nat) (w : World) (C : Array Value), w.heap[b]? = some (.cells C t fr) →
    ∃ C', (w.setCells b o vs).heap[b]? = some (.cells C' t fr) ∧ C'.size = C.size
  | [], o, w, C, h => ⟨C, h, rfl⟩
  | v :: r, o, w, C, h => by
    have h1 : (w.setCell ⟨b, o, none⟩ v).heap[b]? = some (.cells (C.setIfInBounds o v) t fr) := by
      simp only [World.setCell, Array.getElem?_modify]
      simp [h]
    obtain ⟨C', h2, h3⟩ := setCells_row r (o + 1) _ _ h1
    exact ⟨C', h2, by simpa using h3⟩

theorem cell_of_row {w : World} {b j : Nat} {C : Array Value} {t : TypeId} {fr : Nat × Nat} (h : w.heap[b]? = some (.cells C t fr)) (hj : j < C.size) : w.cell? ⟨b, j, none⟩ = some C[j] := by
  unfold World.cell?
  rw [h]
  simp [hj]

theorem frozen_of_row {w : World} {b j : Nat} {C : Array Value} {t : TypeId} (h : w.heap[b]? = some (.cells C t (0, 0))) : w.frozen? ⟨b, j, none⟩ = false := by
  unfold World.frozen?
  rw [h]
  simp

/-- In the middle of the copy: k of the kids are there. -/
structure ToMid (w : World) (ks : List Tm) (k : Nat) (wr : World) : Prop where
  below : Below w.heap.size w wr
  row : ∃ C, wr.heap[w.heap.size]? = some (.cells C 35 (0, 0)) ∧ C.size = ks.length * 4
  done : ∀ j t, j < k → ks[j]? = some t → ∃ cs, wr.rangeAt w.heap.size (j * 4) cs ∧ Lies wr (w.heap.size + 1) t cs

theorem ToMid.start (w : World) (ks : List Tm) : ToMid w ks 0 (w.alloc (.cells (madeTm ks.length) 35)) :=
  ⟨(Below.refl _ _).alloc (Nat.le_refl _) _, ⟨madeTm ks.length, heap_alloc_new w _, madeTm_size _⟩, fun _ _ hj => absurd hj (Nat.not_lt_zero _)⟩

theorem ToMid.lt {w wr : World} {ks : List Tm} {k : Nat} (h : ToMid w ks k wr) : w.heap.size < wr.heap.size := by
  obtain ⟨C, h1, _⟩ := h.row
  by_cases hb : w.heap.size < wr.heap.size
  · exact hb
  · have : wr.heap[w.heap.size]? = none := by simp; omega
    rw [this] at h1
    cases h1

theorem ToMid.row2 {w wr w2 : World} {ks : List Tm} {k : Nat} (h : ToMid w ks k wr) (hb : Below wr.heap.size wr w2) : ∃ C, w2.heap[w.heap.size]? = some (.cells C 35 (0, 0)) ∧ C.size = ks.length * 4 := by
  obtain ⟨C, h1, h2⟩ := h.row
  exact ⟨C, (hb.block _ h.lt).trans h1, h2⟩

theorem ToMid.there {w wr w2 : World} {ks : List Tm} {k : Nat} (h : ToMid w ks k wr) (hb : Below wr.heap.size wr w2) (hk : k < ks.length) : w2.there w.heap.size (k * 4) 4 := by
  obtain ⟨C, h1, h2⟩ := h.row2 hb
  intro j hj
  exact ⟨by rw [cell_of_row h1 (by omega)]; rfl, frozen_of_row h1⟩

theorem ToMid.step {w wr w2 : World} {ks : List Tm} {k : Nat} {cs : List Value} (h : ToMid w ks k wr) (hb : Below wr.heap.size wr w2) (hk : k < ks.length) (hl : Lies w2 wr.heap.size ks[k] cs) :
    ToMid w ks (k + 1) (w2.setCells w.heap.size (k * 4) cs) := by
  have hlt := h.lt
  have h4 := hl.length
  have hth := h.there hb hk
  have out : ∀ b o, w.heap.size + 1 ≤ b → (w2.setCells w.heap.size (k * 4) cs).cell? ⟨b, o, none⟩ = w2.cell? ⟨b, o, none⟩ := fun b o hbb =>
    World.cell?_setCells_out _ _ _ _ _ (fun e => by simp only at e; omega)
  obtain ⟨C, h1, h2⟩ := h.row2 hb
  obtain ⟨C', g1, g2⟩ := setCells_row cs (k * 4) w2 C h1
  refine ⟨?_, ⟨C', g1, g2.trans h2⟩, fun j t hj ht => ?_⟩
  · refine (h.below.trans (hb.mono (by omega))).trans ?_
    have : ∀ (vs : List Value) (o : Nat) (v : World), Below w.heap.size v (v.setCells w.heap.size o vs) := by
      intro vs
      induction vs with
      | nil => exact fun o v => Below.refl _ _
      | cons x r ih => exact fun o v => ((Below.refl _ v).setCell (p := ⟨w.heap.size, o, none⟩) (Nat.le_refl _) x).trans (ih (o + 1) _)
    exact this _ _ _
  · rcases Nat.lt_succ_iff_lt_or_eq.1 hj with hjk | rfl
    · obtain ⟨cs', r1, r2⟩ := h.done j t hjk ht
      have r3 : w2.rangeAt w.heap.size (j * 4) cs' := rangeAt_below r1 hb
      refine ⟨cs', World.rangeAt_setCells_apart r3 _ _ _ (Or.inr (Or.inl (by rw [r2.length]; omega))), ?_⟩
      exact Lies.carry (Nat.le_refl _) (fun b o hb1 _ => out b o hb1) t cs' (r2.below hb)
    · rw [List.getElem?_eq_getElem hk] at ht
      cases ht
      exact ⟨cs, World.rangeAt_setCells_same _ _ _ _ (by rw [h4]; exact hth), Lies.carry (by omega) (fun b o hb1 _ => out b o (by omega)) _ cs hl⟩

theorem ToMid.lies {w wr : World} {ks : List Tm} (h : ToMid w ks ks.length wr) : LiesAll wr w.heap.size (some ⟨w.heap.size, 0, none⟩) 0 ks :=
  LiesAll.mk fun k t hk => by
    have hkl : k < ks.length := by
      by_cases hq : k < ks.length
      · exact hq
      · rw [List.getElem?_eq_none (by omega)] at hk; cases hk
    obtain ⟨cs, h1, h2⟩ := h.done k t hkl hk
    exact ⟨w.heap.size, 0, cs, rfl, Nat.le_refl _, by rw [Nat.zero_add, Nat.zero_add]; exact h1, h2.any (by omega)⟩

theorem below_alloc3 (w : World) (x y z : Obj) : Below w.heap.size w (((w.alloc x).alloc y).alloc z) :=
  (((Below.refl _ _).alloc (Nat.le_refl _) _).alloc (by simp) _).alloc (by simp; omega) _
theorem heap_size_alloc (w : World) (x : Obj) : (w.alloc x).heap.size = w.heap.size + 1 := by simp
theorem cell_set_other {w : World} {b o b' o' : Nat} {v : Value} (h : b' ≠ b) : (w.setCell ⟨b, o, none⟩ v).cell? ⟨b', o', none⟩ = w.cell? ⟨b', o', none⟩ :=
  World.cell?_setCell_other _ _ _ _ (fun e => h (by cases e; rfl))

def ToOk (t : Tm) : Prop := ∀ (op n : Int) (s : ByteArray) (a : Option Addr) (len cap : Nat) (w : World), Lies w 0 t (tmCells op n s a len cap) → t.size ≤ 2097152 →
  Calls Tryz.prog 14 #[.agg #[.int .i64 op, .int .i64 n, .string s, .slice a len cap]] w fun e w' => ∃ a', e = .returned (.agg #[.int .i64 op, .int .i64 n, .string s, .slice a' len len]) ∧ Lies w' w.heap.size t (tmCells op n s a' len len) ∧ Below w.heap.size w w'

set_option maxHeartbeats 400000 in
theorem toS_any (ks : List Tm) (hks : ∀ t ∈ ks, ToOk t) (a : Option Addr) (cap : Nat) (w : World) (hl : LiesAll w 0 a 0 ks) (hsz : Tm.sizes ks ≤ 2097152) :
    Calls Tryz.prog 7 #[.slice a ks.length cap] w fun e w' => e = .returned (.slice (some ⟨w.heap.size, 0, none⟩) ks.length ks.length) ∧ LiesAll w' w.heap.size (some ⟨w.heap.size, 0, none⟩) 0 ks ∧ Below w.heap.size w w' := by
  have hll := Tm.length_le_sizes ks
  have hmk := make_tm ks.length (by omega)
  have HS : Hid (∀ k (hk : k < ks.length), (ks[k]).size ≤ 2097152) := fun k hk => by have := Tm.size_mem (List.getElem_mem hk); omega
  have HM := ToMid.start w ks
  have HM' : Hid (ToMid w ks 0 (w.alloc (.cells (madeTm ks.length) 35))) := HM
  clear HM
  have hlb : ks.length ≤ 2097152 := by omega
  generalize hlen : ks.length = len at hmk hll hlb HM' ⊢
  have HL : Hid (ks.length = len) := hlen
  clear hlen
  go_enter Tryz.func7, Tryz.ntmps7
  go_wp2_with fail
  go_loopw [4] (fun i wr => ∃ k : Nat, k ≤ len ∧ i = .int .i64 k ∧ ToMid w ks k wr) (fun i _ => len - (intOf i).toNat)
  case atStart => exact ⟨0, Nat.zero_le _, rfl, HM'.out⟩
  case round =>
    obtain ⟨k, hkl, rfl, hM⟩ := hrel
    by_cases hlt : k < len
    · have hlt' : k < ks.length := by have := HL.out; omega
      obtain ⟨b, o, op1, n1, s1, a1, len1, cap1, rfl, _, hbs, c0, c1, c2, c3, hT⟩ := hl.elem (k := k) hlt'
      have c0' := (hM.below.cell (p := ⟨b, o + k * 4, none⟩) hbs).trans c0
      have c1' := (hM.below.cell (p := ⟨b, o + k * 4 + 1, none⟩) hbs).trans c1
      have c2' := (hM.below.cell (p := ⟨b, o + k * 4 + 2, none⟩) hbs).trans c2
      have c3' := (hM.below.cell (p := ⟨b, o + k * 4 + 3, none⟩) hbs).trans c3
      have HT : Hid (Lies wr 0 ks[k] (tmCells op1 n1 s1 a1 len1 cap1)) := hT.below hM.below
      have hct := hks ks[k] (List.getElem_mem hlt')
      clear c0 c1 c2 c3 hT
      go_wp2_with fail
      refine (hct op1 n1 s1 a1 len1 cap1 _ HT.out (HS.out k hlt')).mono ?_
      rintro e w2 ⟨a2, rfl, hL2, hb2⟩
      have hth := hM.there hb2 hlt'
      obtain ⟨d0, f0⟩ := hth 0 (by omega)
      obtain ⟨d1, f1⟩ := hth 1 (by omega)
      obtain ⟨d2, f2⟩ := hth 2 (by omega)
      obtain ⟨d3, f3⟩ := hth 3 (by omega)
      obtain ⟨u0, d0⟩ := Option.isSome_iff_exists.1 d0
      obtain ⟨u1, d1⟩ := Option.isSome_iff_exists.1 d1
      obtain ⟨u2, d2⟩ := Option.isSome_iff_exists.1 d2
      obtain ⟨u3, d3⟩ := Option.isSome_iff_exists.1 d3
      rw [Nat.add_zero] at d0 f0
      have HM2 : Hid (ToMid w ks (k + 1) (w2.setCells w.heap.size (k * 4) (tmCells op1 n1 s1 a2 len1 len1))) := hM.step hb2 hlt' hL2
      clear hL2 hth
      go_wp2_with fail
      go_roundw
      case rel => exact ⟨k + 1, by omega, by go_num, HM2.out⟩
      case measure => simp [intOf]; omega
    · go_wp2_with fail
      go_ret
      have hkk : k = ks.length := by have := HL.out; omega
      subst hkk
      exact ⟨rfl, hM.lies, hM.below⟩

set_option maxHeartbeats 400000 in
theorem to_step (t : Tm) (h : ∀ x ∈ t.kids, ToOk x) : ToOk t := by
  intro op n s a len cap w hl hsz
  cases t with
  | node op' n' s' ks =>
    simp only [Lies, tmCells] at hl
    obtain ⟨a', cap', he, ⟨hs, hlc, hcm⟩, hwf, hk⟩ := hl
    simp only [List.cons.injEq, Value.int.injEq, Value.string.injEq, Value.slice.injEq, true_and, and_true] at he
    obtain ⟨rfl, rfl, rfl, rfl, rfl, rfl⟩ := he
    have hzs : Tm.sizes ks ≤ 2097152 := by simp only [Tm.size] at hsz; omega
    have hS := toS_any ks h
    have HF : Hid (s.size ≤ maxLen ∧ ks.length ≤ ks.length ∧ ks.length ≤ maxLen) := ⟨hs, Nat.le_refl _, by omega⟩
    have HW : Hid ((Lit.int .i64 op).wf = true ∧ (Lit.int .i64 n).wf = true) := hwf
    have HK : Hid (LiesAll w 0 a 0 ks) := hk
    clear h hk hwf hs hlc hcm
    go_enter Tryz.func14, Tryz.ntmps14
    go_wp2_with fail
    refine (hS a cap _ (HK.out.below (below_alloc3 _ _ _ _)) hzs).mono ?_
    rintro e w2 ⟨rfl, hL2, hb2⟩
    obtain ⟨hc, hf⟩ := bcell hb2
    go_wp2_with fail
    simp only [heap_size_alloc] at hL2 hb2 hc
    have hb3 : Below w.heap.size w w2 := (below_alloc3 _ _ _ _).trans (hb2.mono (by omega))
    refine bodyPost_ret (v := .agg #[.int .i64 op, .int .i64 n, .string s, .slice (some ⟨w.heap.size + 1 + 1 + 1, 0, none⟩) ks.length ks.length]) (by simp [results, Tryz.results14, go_sem, hc]) rfl ⟨_, rfl, ?_, ?_⟩
    · simp only [Lies]
      refine ⟨_, _, rfl, HF.out, HW.out, ?_⟩
      refine LiesAll.carry (L := w.heap.size + 1 + 1 + 1) (by omega) (fun b o hb _ => ?_) _ _ _ hL2
      rw [cell_set_other (by omega), cell_set_other (by omega), cell_set_other (by omega), cell_set_other (by omega), cell_set_other (by omega)]
    · exact ((((hb3.setCell (by show w.heap.size ≤ w.heap.size + 1 + 1; omega) _).setCell (by simp) _).setCell (by simp) _).setCell (by simp) _).setCell (by simp) _

theorem to_any : ∀ (k : Nat) (t : Tm), t.size ≤ k → ToOk t
  | 0, t, h => by have := t.size_pos; omega
  | k + 1, t, h => to_step t fun x hx => to_any k x (by
      cases t with
      | node op n s ks =>
        have := Tm.size_mem (ks := ks) hx
        simp only [Tm.size] at h
        omega)

theorem to_calls (t : Tm) : ToOk t := to_any t.size t (Nat.le_refl _)

end Go.Proofs.YteminklafghgpaaGreatDoor
