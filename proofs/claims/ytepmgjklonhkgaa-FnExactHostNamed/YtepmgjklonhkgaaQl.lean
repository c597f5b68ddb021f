
/- Lists of policies in memory, and the walks of laws.szPolicyS, toPolicyS, eqPolicyS. -/
import Derived.Test.YtepmgjklonhkgaaPl
namespace Go.Proofs.Ytepmgjklonhkgaa
open Go.RowKit Go.Deep

structure Pol where
  d : ByteArray
  m : Int
  l : List ByteArray
  u : Int

/-- The cells of a policy. -/
def polCells (p : Pol) (a : Option Addr) (cap : Nat) : List Value := [.string p.d, .int .i64 p.m, .slice a p.l.length cap, .int .i64 p.u]
def pw (p : Pol) : Nat := p.d.size + (p.l.length + txw p.l)
def pws : List Pol → Nat
  | [] => 0
  | p :: r => pw p + pws r
theorem pws_append (a b : List Pol) : pws (a ++ b) = pws a + pws b := by
  induction a with
  | nil => simp [pws]
  | cons t r ih => simp only [List.cons_append, pws, ih]; omega
theorem pws_take (l : List Pol) {k : Nat} {t : Pol} (h : l[k]? = some t) : pws (l.take (k + 1)) = pws (l.take k) + pw t := by
  rw [List.take_add_one, h, pws_append]; simp [pws]
theorem pws_take_le (l : List Pol) (k : Nat) : pws (l.take k) ≤ pws l := by
  have := pws_append (l.take k) (l.drop k)
  rw [List.take_append_drop] at this
  omega
theorem pws_get {l : List Pol} {k : Nat} {t : Pol} (h : l[k]? = some t) : pw t ≤ pws l := by
  have h1 := pws_take l h
  have h2 := pws_take_le l (k + 1)
  omega

/-- The policies lie in the world, one behind the other, in blocks from L on. -/
def Pols (w : World) (L : Nat) (a : Option Addr) (P : List Pol) : Prop := ∀ k p, P[k]? = some p → ∃ b o x cap, a = some ⟨b, o, none⟩ ∧ L ≤ b ∧ w.rangeAt b (o + k * 4) (polCells p x cap) ∧ Txt w L x p.l
theorem Pols.on {w w' : World} {L : Nat} {a : Option Addr} {P : List Pol} (h : Pols w L a P) (hb : Below w.heap.size w w') : Pols w' L a P := fun k p hk => by
  obtain ⟨b, o, x, cap, h1, h2, h3, h4⟩ := h k p hk
  exact ⟨b, o, x, cap, h1, h2, rangeAt_below h3 hb, h4.on hb⟩
theorem Pols.low {w : World} {L L' : Nat} {a : Option Addr} {P : List Pol} (h : Pols w L a P) (hL : L' ≤ L) : Pols w L' a P := fun k p hk => by
  obtain ⟨b, o, x, cap, h1, h2, h3, h4⟩ := h k p hk
  exact ⟨b, o, x, cap, h1, by omega, h3, h4.low hL⟩
theorem Pols.elem {w : World} {L : Nat} {a : Option Addr} {P : List Pol} (h : Pols w L a P) {k : Nat} {p : Pol} (hk : P[k]? = some p) :
    ∃ b o x cap, a = some ⟨b, o, none⟩ ∧ L ≤ b ∧ b < w.heap.size ∧ w.cell? ⟨b, o + k * 4, none⟩ = some (.string p.d) ∧ w.cell? ⟨b, o + k * 4 + 1, none⟩ = some (.int .i64 p.m) ∧ w.cell? ⟨b, o + k * 4 + 2, none⟩ = some (.slice x p.l.length cap) ∧ w.cell? ⟨b, o + k * 4 + 3, none⟩ = some (.int .i64 p.u) ∧ Txt w L x p.l := by
  obtain ⟨b, o, x, cap, h1, h2, h3, h4⟩ := h k p hk
  exact ⟨b, o, x, cap, h1, h2, rangeAt_lt h3 (by simp [polCells]), h3 0 _ rfl, h3 1 _ rfl, h3 2 _ rfl, h3 3 _ rfl, h4⟩
/-- The texts of a policy are not too long. -/
def polFit (p : Pol) : Prop := p.l.length ≤ maxLen ∧ (∀ t ∈ p.l, t.size ≤ maxLen) ∧ p.d.size ≤ maxLen

set_option maxRecDepth 100000 in
set_option maxHeartbeats 1000000 in
theorem szPg (l : List ByteArray) (d : ByteArray) (m : Int) (a : Option Addr) (cap : Nat) (u : Int) (l0 : Int) (hl0 : 0 ≤ l0) (hl1 : l0 ≤ 1048576) (w : World) (hl : Txt w 0 a l) (hm : l.length ≤ maxLen) (ht : ∀ t ∈ l, t.size ≤ maxLen) (hd : d.size ≤ maxLen) :
    Calls Try.prog 32 #[.agg #[.string d, .int .i64 m, .slice a l.length cap, .int .i64 u], .int .i64 l0] w fun e w' => e = .returned (.int .i64 (szv l0 (d.size + (l.length + txw l)))) ∧ Below w.heap.size w w' := by
  have hmm : d.size ≤ 9223372036854775807 := by unfold maxLen at hd; omega
  obtain ⟨left, hleft⟩ : ∃ left : Int, left = l0 - (d.size : Int) := ⟨_, rfl⟩
  have w1 : wrap64 (l0 - (d.size : Int)) = left := by unfold wrap64; omega
  have HL := hide (hl.on (abP (.cells #[.string d, .int .i64 m, .slice a l.length cap, .int .i64 u] 74)))
  by_cases h1 : left < 0
  · have HE : Hid (szv l0 (d.size + (l.length + txw l)) = -1) := szv_no (by omega)
    clear hleft hl hm ht hd hmm
    go_enter Try.func32, Try.ntmps32
    go_wp2_with fail
    go_ret
    exact ⟨ret_int (unhide HE).symm, abP _⟩
  · have HC := hide (fun v hv => szT l a cap left v hv hm ht (by omega) (by omega))
    clear hl hm ht hd hmm
    by_cases h2 : ((l.length + txw l : Nat) : Int) ≤ left
    · have HE : Hid (szv l0 (d.size + (l.length + txw l)) = left - (l.length + txw l : Nat)) := by
        show _ = _
        rw [szv_yes (by omega)]; omega
      rw [szv_yes h2] at HC
      have h3 : ¬ left - ((l.length + txw l : Nat) : Int) < 0 := by omega
      generalize ((l.length + txw l : Nat) : Int) = q at *
      clear hleft
      go_enter Try.func32, Try.ntmps32
      go_wp2_with fail
      refine (unhide HC _ (unhide HL)).mono ?_
      rintro e w2 ⟨rfl, rfl⟩
      go_wp2_with fail
      go_ret
      exact ⟨ret_int (unhide HE).symm, abP _⟩
    · have HE : Hid (szv l0 (d.size + (l.length + txw l)) = -1) := szv_no (by omega)
      rw [szv_no (by omega)] at HC
      clear hleft
      go_enter Try.func32, Try.ntmps32
      go_wp2_with fail
      refine (unhide HC _ (unhide HL)).mono ?_
      rintro e w2 ⟨rfl, rfl⟩
      go_wp2_with fail
      go_ret
      exact ⟨ret_int (unhide HE).symm, abP _⟩


set_option maxRecDepth 100000 in
set_option maxHeartbeats 1000000 in
theorem szQ (P : List Pol) (a : Option Addr) (cap : Nat) (w : World) (hl : Pols w 0 a P) (hm : P.length ≤ maxLen) (hf : ∀ p ∈ P, polFit p) :
    Calls Try.prog 10 #[.slice a P.length cap, .int .i64 1048576] w fun e w' => e = .returned (.int .i64 (szv 1048576 (P.length + pws P))) ∧ Below w.heap.size w w' := by
  unfold maxLen at hm
  generalize hlen : P.length = len at *
  have HL : Hid (P.length = len) := hlen
  clear hlen
  have w0 : wrap64 (1048576 - (len : Int)) = 1048576 - (len : Int) := by unfold wrap64; omega
  by_cases hlt : (1048576 : Int) - len < 0
  · have HE : Hid (szv 1048576 (len + pws P) = -1) := szv_no (by omega)
    go_enter Try.func10, Try.ntmps10
    go_wp2_with fail
    go_ret
    exact ⟨ret_int (unhide HE).symm, Below.refl _ _⟩
  · go_enter Try.func10, Try.ntmps10
    go_wp2_with fail
    go_loopw [1, 5] (fun x i wr => ∃ k : Nat, k ≤ len ∧ i = .int .i64 k ∧ (len : Int) + (pws (P.take k) : Int) ≤ 1048576 ∧ x = .int .i64 (1048576 - len - (pws (P.take k) : Int)) ∧ Below w.heap.size w wr) (fun _ i _ => len - (intOf i).toNat)
    case atStart => exact ⟨0, Nat.zero_le _, rfl, by simp [pws]; omega, by simp [pws], Below.refl _ _⟩
    case round =>
      obtain ⟨k, hk, rfl, hle, rfl, hbr⟩ := hrel
      have HB := hide hbr
      by_cases hkl : k < len
      · have hkl' : k < P.length := by have := HL.out; omega
        obtain ⟨p, hkp⟩ : ∃ p, P[k]? = some p := ⟨_, List.getElem?_eq_getElem hkl'⟩
        obtain ⟨b, o, x, xc, rfl, -, -, c0, c1, c2, c3, hT⟩ := (hl.on hbr).elem hkp
        have hpf := hf p (List.mem_of_getElem? hkp)
        have HT := hide hT
        have HW := hide (pws_take P hkp)
        have HA := hide (pws_take_le P (k + 1))
        have q2 : (k : Int) < (len : Int) := by omega
        have q3 : (0 : Int) ≤ (k : Int) := by omega
        generalize hwl : pws (P.take k) = wl at *
        generalize hwk : pws (P.take (k + 1)) = wk at *
        have w2 : wrap64 ((k : Int) + 1) = ((k + 1 : Nat) : Int) := by unfold wrap64; omega
        have Hwk : Hid (pws (P.take (k + 1)) = wk) := hwk
        have HC := hide (fun v hv => szPg p.l p.d p.m x xc p.u (1048576 - len - wl) (by omega) (by omega) v hv hpf.1 hpf.2.1 hpf.2.2)
        have hpw : p.d.size + (p.l.length + txw p.l) = pw p := rfl
        rw [hpw] at HC
        clear hwl hwk hkp hl hf hT hpf hpw hbr
        generalize hq : pw p = q at *
        by_cases hw : (q : Int) ≤ 1048576 - len - wl
        · rw [szv_yes hw] at HC
          have hsv : ¬ (1048576 : Int) - len - wl - (q : Int) < 0 := by omega
          go_wp2_with fail
          refine (unhide HC _ (unhide HT)).mono ?_
          rintro e w3 ⟨rfl, hb3⟩
          have HB3 := hide (btP (unhide HB) hb3)
          clear hb3
          go_wp2_with fail
          go_roundw
          case rel => exact ⟨k + 1, by omega, rfl, by have := HW.out; have := Hwk.out; omega, by have := HW.out; have := Hwk.out; rw [this]; congr 1; omega, unhide HB3⟩
          case measure => simp [intOf]; omega
        · rw [szv_no (by omega)] at HC
          go_wp2_with fail
          refine (unhide HC _ (unhide HT)).mono ?_
          rintro e w3 ⟨rfl, hb3⟩
          have HB3 := hide (btP (unhide HB) hb3)
          clear hb3
          go_wp2_with fail
          go_ret
          exact ⟨ret_int (by rw [szv_no (by have := HW.out; have := HA.out; omega)]), unhide HB3⟩
      · have c2 : ¬ (k : Int) < (len : Int) := by omega
        clear hbr
        go_wp2_with fail
        go_ret
        have hkk : k = len := by omega
        exact ⟨ret_int (by rw [List.take_of_length_le (by have := HL.out; omega)] at hle ⊢; rw [szv_yes (by omega)]; omega), unhide HB⟩

theorem infoPol : (Try.prog.info? 93).map (fun i => (i.zero, i.size, i.bytes)) = some (some (.agg #[.string ByteArray.empty, .int .i64 0, .slice none 0 0, .int .i64 0]), 4, 56) := by kernel_rfl
def madePol (n : Nat) : Array Value := madeCells #[.string ByteArray.empty, .int .i64 0, .slice none 0 0, .int .i64 0] (n * 4)
theorem madePol_size (n : Nat) : (madePol n).size = n * 4 := size_madeCells _ _

theorem make_pol (n : Nat) (hn : n ≤ 2097152) (w : World) :
    (Instr.makeSlice 34 (.int .i64 (n : Int)) (.int .i64 (n : Int))).run Try.prog w = .ok (.slice (some ⟨w.heap.size, 0, none⟩) n n) (w.alloc (.cells (madePol n) 93)) := by
  obtain ⟨i, hi, hzz⟩ := Option.map_eq_some_iff.1 infoPol
  simp only [Prod.mk.injEq] at hzz
  obtain ⟨hz, hs, hb⟩ := hzz
  have hr := run_make (P := Try.prog) w 34 93 i _ Try.underlying34 hi hz .i64 .i64 n n (by omega) (Int.le_refl _) (by rw [hb]; omega) (by omega)
  simp only [Int.toNat_natCast, hs] at hr
  exact hr

/-- In the middle of the copy: k of the policies are there. -/
structure QMid (w : World) (P : List Pol) (k : Nat) (wr : World) : Prop where
  below : Below w.heap.size w wr
  row : ∃ C, wr.heap[w.heap.size]? = some (.cells C 93 (0, 0)) ∧ C.size = P.length * 4
  done : ∀ j p, j < k → P[j]? = some p → ∃ x, wr.rangeAt w.heap.size (j * 4) (polCells p x p.l.length) ∧ Txt wr (w.heap.size + 1) x p.l

theorem QMid.start (w : World) (P : List Pol) : QMid w P 0 (w.alloc (.cells (madePol P.length) 93)) :=
  ⟨(Below.refl _ _).alloc (Nat.le_refl _) _, ⟨madePol P.length, heap_alloc_new w _, madePol_size _⟩, fun _ _ hj => absurd hj (Nat.not_lt_zero _)⟩

theorem QMid.lt {w wr : World} {P : List Pol} {k : Nat} (h : QMid w P k wr) : w.heap.size < wr.heap.size := by
  obtain ⟨C, h1, _⟩ := h.row
  by_cases hb : w.heap.size < wr.heap.size
  · exact hb
  · have : wr.heap[w.heap.size]? = none := by simp; omega
    rw [this] at h1
    cases h1

theorem QMid.row2 {w wr w2 : World} {P : List Pol} {k : Nat} (h : QMid w P k wr) (hb : Below wr.heap.size wr w2) : ∃ C, w2.heap[w.heap.size]? = some (.cells C 93 (0, 0)) ∧ C.size = P.length * 4 := by
  obtain ⟨C, h1, h2⟩ := h.row
  exact ⟨C, (hb.block _ h.lt).trans h1, h2⟩

theorem QMid.there {w wr w2 : World} {P : List Pol} {k : Nat} (h : QMid w P k wr) (hb : Below wr.heap.size wr w2) (hk : k < P.length) : w2.there w.heap.size (k * 4) 4 := by
  obtain ⟨C, h1, h2⟩ := h.row2 hb
  intro j hj
  exact ⟨by rw [cell_of_row h1 (by omega)]; rfl, frozen_of_row h1⟩

theorem Txt.cells {w w' : World} {L : Nat} {a : Option Addr} {l : List ByteArray} (h : Txt w L a l) (hc : ∀ b o, L ≤ b → b < w.heap.size → w'.cell? ⟨b, o, none⟩ = w.cell? ⟨b, o, none⟩) : Txt w' L a l := fun k t hk => by
  obtain ⟨b, o, h1, h2, h3⟩ := h k t hk
  exact ⟨b, o, h1, h2, by rw [hc b _ h2 (lt_of_cell h3)]; exact h3⟩

theorem QMid.step {w wr w2 : World} {P : List Pol} {k : Nat} {p : Pol} {x : Option Addr} (h : QMid w P k wr) (hb : Below wr.heap.size wr w2) (hk : P[k]? = some p) (hl : Txt w2 wr.heap.size x p.l) :
    QMid w P (k + 1) (w2.setCells w.heap.size (k * 4) (polCells p x p.l.length)) := by
  have hlt := h.lt
  have hkl : k < P.length := (List.getElem?_eq_some_iff.1 hk).1
  have hth := h.there hb hkl
  have out : ∀ b o, w.heap.size + 1 ≤ b → (w2.setCells w.heap.size (k * 4) (polCells p x p.l.length)).cell? ⟨b, o, none⟩ = w2.cell? ⟨b, o, none⟩ := fun b o hbb =>
    World.cell?_setCells_out _ _ _ _ _ (fun e => by simp only at e; omega)
  obtain ⟨C, h1, h2⟩ := h.row2 hb
  obtain ⟨C', g1, g2⟩ := setCells_row (polCells p x p.l.length) (k * 4) w2 C h1
  refine ⟨?_, ⟨C', g1, g2.trans h2⟩, fun j t hj ht => ?_⟩
  · refine (h.below.trans (hb.mono (by omega))).trans ?_
    have : ∀ (vs : List Value) (o : Nat) (v : World), Below w.heap.size v (v.setCells w.heap.size o vs) := by
      intro vs
      induction vs with
      | nil => exact fun o v => Below.refl _ _
      | cons x r ih => exact fun o v => ((Below.refl _ v).setCell (p := ⟨w.heap.size, o, none⟩) (Nat.le_refl _) x).trans (ih (o + 1) _)
    exact this _ _ _
  · rcases Nat.lt_succ_iff_lt_or_eq.1 hj with hjk | rfl
    · obtain ⟨y, r1, r2⟩ := h.done j t hjk ht
      have r3 : w2.rangeAt w.heap.size (j * 4) (polCells t y t.l.length) := rangeAt_below r1 hb
      exact ⟨y, World.rangeAt_setCells_apart r3 _ _ _ (Or.inr (Or.inl (by simp [polCells]; omega))), (r2.on hb).cells fun b o hb1 _ => out b o hb1⟩
    · rw [hk] at ht
      cases ht
      exact ⟨x, World.rangeAt_setCells_same _ _ _ _ hth, (hl.low (by omega)).cells fun b o hb1 _ => out b o hb1⟩

theorem QMid.pols {w wr : World} {P : List Pol} (h : QMid w P P.length wr) : Pols wr w.heap.size (some ⟨w.heap.size, 0, none⟩) P := fun k p hk => by
  have hkl : k < P.length := (List.getElem?_eq_some_iff.1 hk).1
  obtain ⟨x, h1, h2⟩ := h.done k p hkl hk
  exact ⟨w.heap.size, 0, x, _, rfl, Nat.le_refl _, by rw [Nat.zero_add]; exact h1, h2.low (by omega)⟩

set_option maxRecDepth 100000 in
set_option maxHeartbeats 1000000 in
theorem toQ (P : List Pol) (a : Option Addr) (cap : Nat) (w : World) (hl : Pols w 0 a P) (hsz : P.length ≤ 2097152) (hz : ∀ p ∈ P, p.l.length ≤ 2097152) :
    Calls Try.prog 17 #[.slice a P.length cap] w fun e w' => e = .returned (.slice (some ⟨w.heap.size, 0, none⟩) P.length P.length) ∧ Pols w' w.heap.size (some ⟨w.heap.size, 0, none⟩) P ∧ Below w.heap.size w w' := by
  have hmk := make_pol P.length hsz
  have HM := hide (QMid.start w P)
  have HZ := hide hz
  have HT := hide hl
  clear hl hz
  generalize hlen : P.length = len at hmk hsz HM ⊢
  have HL : Hid (P.length = len) := hlen
  clear hlen
  go_enter Try.func17, Try.ntmps17
  go_wp2_with fail
  go_loopw [4] (fun i wr => ∃ k : Nat, k ≤ len ∧ i = .int .i64 k ∧ QMid w P k wr) (fun i _ => len - (intOf i).toNat)
  case atStart => exact ⟨0, Nat.zero_le _, rfl, HM.out⟩
  case round =>
    obtain ⟨k, hkl, rfl, hM⟩ := hrel
    by_cases hlt : k < len
    · have hlt' : k < P.length := by have := HL.out; omega
      obtain ⟨p, hkp⟩ : ∃ p, P[k]? = some p := ⟨_, List.getElem?_eq_getElem hlt'⟩
      obtain ⟨b, o, x, xc, rfl, -, -, c0, c1, c2, c3, hT⟩ := ((unhide HT).on hM.below).elem hkp
      have hTx := hide hT
      have HC := hide (fun v hv => toP p.l p.d p.m x xc p.u v hv (unhide HZ p (List.mem_of_getElem? hkp)))
      have HS : Hid (∀ w2 y, Below wr.heap.size wr w2 → Txt w2 wr.heap.size y p.l → QMid w P (k + 1) (w2.setCells w.heap.size (k * 4) (polCells p y p.l.length))) := fun w2 y hb hy => hM.step hb hkp hy
      have HH : Hid (∀ w2, Below wr.heap.size wr w2 → w2.there w.heap.size (k * 4) 4) := fun w2 hb => hM.there hb hlt'
      have q2 : (k : Int) < (len : Int) := by omega
      have q3 : (0 : Int) ≤ (k : Int) := by omega
      have w2 : wrap64 ((k : Int) + 1) = ((k + 1 : Nat) : Int) := by unfold wrap64; omega
      clear hM hkp hT
      go_wp2_with fail
      refine (unhide HC _ (unhide hTx)).mono ?_
      rintro e w2 ⟨a2, rfl, hL2, hb2⟩
      have hth := unhide HH _ hb2
      obtain ⟨d0, f0⟩ := hth 0 (by omega)
      obtain ⟨d1, f1⟩ := hth 1 (by omega)
      obtain ⟨d2, f2⟩ := hth 2 (by omega)
      obtain ⟨d3, f3⟩ := hth 3 (by omega)
      obtain ⟨u0, d0⟩ := Option.isSome_iff_exists.1 d0
      obtain ⟨u1, d1⟩ := Option.isSome_iff_exists.1 d1
      obtain ⟨u2, d2⟩ := Option.isSome_iff_exists.1 d2
      obtain ⟨u3, d3⟩ := Option.isSome_iff_exists.1 d3
      rw [Nat.add_zero] at d0 f0
      have HM2 := hide (unhide HS w2 a2 hb2 hL2)
      clear hL2 hth hb2
      go_wp2_with fail
      go_roundw
      case rel => exact ⟨k + 1, by omega, rfl, HM2.out⟩
      case measure => simp [intOf]; omega
    · have c2 : ¬ (k : Int) < (len : Int) := by omega
      go_wp2_with fail
      go_ret
      have hkk : k = P.length := by have := HL.out; omega
      subst hkk
      exact ⟨rfl, hM.pols, hM.below⟩

theorem below_drewQ {w v : World} (h : Below w.drew.heap.size w.drew v) : Below w.heap.size w v := ((Below.refl _ _).drew).trans h

set_option maxRecDepth 100000 in
set_option maxHeartbeats 1000000 in
theorem eqQ (P : List Pol) (a a' : Option Addr) (c c' : Nat) (w : World) (hl : P.length ≤ 2097153) (hz : ∀ p ∈ P, p.l.length ≤ 2097152) (h : Pols w 0 a P) (h' : Pols w 0 a' P) :
    Calls Try.prog 25 #[.slice a P.length c, .slice a' P.length c'] w fun e w' => e = .returned (.bool true) ∧ Below w.heap.size w w' := by
  have H := hide h
  have H' := hide h'
  have HZ := hide hz
  clear h h' hz
  generalize hlen : P.length = len at *
  have HL : Hid (P.length = len) := hlen
  clear hlen
  have hne : ((len : Int) != (len : Int)) = false := by simp
  go_enter Try.func25, Try.ntmps25
  go_wp2_with fail
  go_loopw [5] (fun n wr => ∃ k : Nat, n = .int .i64 k ∧ Below w.heap.size w wr ∧ k ≤ len) (fun n _ => len - (intOf n).toNat)
  case atStart => exact ⟨0, rfl, Below.refl _ _, by omega⟩
  case round =>
    obtain ⟨k, rfl, hb, hk⟩ := hrel
    have HB := hide hb
    by_cases hp : k < len
    · have hp' : k < P.length := by have := HL.out; omega
      obtain ⟨p, hkp⟩ : ∃ p, P[k]? = some p := ⟨_, List.getElem?_eq_getElem hp'⟩
      obtain ⟨b, o, x, xc, rfl, -, -, c0, c1, c2, c3, hT⟩ := ((unhide H).on hb).elem hkp
      obtain ⟨b', o', x', xc', rfl, -, -, d0, d1, d2, d3, hT'⟩ := ((unhide H').on hb).elem hkp
      have HT := hide (hT.on (Below.refl _ _).drew)
      have HT' := hide (hT'.on (Below.refl _ _).drew)
      have hct := hide (fun v hv hv' => eqP p.l p.d p.m x x' xc xc' p.u v hv hv' (unhide HZ p (List.mem_of_getElem? hkp)))
      have q2 : (k : Int) < (len : Int) := by omega
      have q3 : (0 : Int) ≤ (k : Int) := by omega
      have w1 : wrap64 ((k : Int) + 1) = ((k + 1 : Nat) : Int) := by unfold wrap64; omega
      clear hb hkp hT hT'
      go_wp2_with fail
      go_region_with (go_at_call 46; refine (unhide hct _ (unhide HT) (unhide HT')).mono ?_; rintro e w2 ⟨rfl, hb2⟩; have HB2 := hide (btP (unhide HB) (below_drewQ hb2)); clear hb2)
      all_goals
        go_wp2_with fail
        go_roundw
        case rel => exact ⟨k + 1, rfl, unhide HB2, by omega⟩
        case measure => simp only [intOf]; omega
    · have c2 : ¬ (k : Int) < (len : Int) := by omega
      clear hb
      go_wp2_with fail
      go_ret
      exact ⟨rfl, unhide HB⟩

end Go.Proofs.Ytepmgjklonhkgaa
