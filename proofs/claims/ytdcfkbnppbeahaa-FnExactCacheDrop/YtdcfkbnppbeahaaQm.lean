/- Policies in blocks of their own; laws.toPolicyS makes such. -/
import Derived.Test.YtdcfkbnppbeahaaQh
namespace Go.Proofs.Ytdcfkbnppbeahaa
open Go.RowKit Go.Deep

theorem TxMid.own {w wr : World} {l : List ByteArray} (h : TxMid w l l.length wr) : TxOwn wr (some ⟨w.heap.size, 0, none⟩) l (some w.heap.size) := by
  obtain ⟨C, h1, h2⟩ := h.row
  refine Or.inr ⟨w.heap.size, C, rfl, rfl, h1, by omega, fun j t hj => ?_⟩
  have hjl : j < l.length := (List.getElem?_eq_some_iff.1 hj).1
  have hjc : j < C.size := by omega
  have h3 := h.done j t hjl hj
  rw [cell_of_row h1 hjc] at h3
  rw [Array.getElem?_eq_getElem hjc]
  exact h3
/-- The block is there. -/
def There (w : World) (b : Nat) : Prop := b < w.heap.size

set_option maxRecDepth 100000 in
set_option maxHeartbeats 1000000 in
theorem toT2 (l : List ByteArray) (a : Option Addr) (cap : Nat) (w : World) (hl : Txt w 0 a l) (hsz : l.length ≤ 2097152) :
    Calls Try.prog 29 #[.slice a l.length cap] w fun e w' => e = .returned (.slice (some ⟨w.heap.size, 0, none⟩) l.length l.length) ∧ (TxOwn w' (some ⟨w.heap.size, 0, none⟩) l (some w.heap.size) ∧ There w' w.heap.size) ∧ Below w.heap.size w w' := by
  have hmk := make_tx l.length hsz
  have HM := hide (TxMid.start w l)
  have HT := hide hl
  clear hl
  generalize hlen : l.length = len at hmk hsz HM ⊢
  have HL : Hid (l.length = len) := hlen
  clear hlen
  go_enter Try.func29, Try.ntmps29
  go_wp2_with fail
  go_loopw [4] (fun i wr => ∃ k : Nat, k ≤ len ∧ i = .int .i64 k ∧ TxMid w l k wr) (fun i _ => len - (intOf i).toNat)
  case atStart => exact ⟨0, Nat.zero_le _, rfl, HM.out⟩
  case round =>
    obtain ⟨k, hkl, rfl, hM⟩ := hrel
    by_cases hlt : k < len
    · have hlt' : k < l.length := by have := HL.out; omega
      obtain ⟨t, hkt⟩ : ∃ t, l[k]? = some t := ⟨_, List.getElem?_eq_getElem hlt'⟩
      obtain ⟨b, o, rfl, -, c0⟩ := HT.out k t hkt
      have c0' := below_some hM.below c0
      obtain ⟨⟨u0, d0⟩, f0⟩ := hM.at hlt'
      have HM2 := hide (hM.step hkt)
      have c2 : (k : Int) < (len : Int) := by omega
      have c3 : (0 : Int) ≤ (k : Int) := by omega
      have w2 : wrap64 ((k : Int) + 1) = ((k + 1 : Nat) : Int) := by unfold wrap64; omega
      clear hM hkt c0
      go_wp2_with fail
      go_roundw
      case rel => exact ⟨k + 1, by omega, rfl, HM2.out⟩
      case measure => simp [intOf]; omega
    · have c2 : ¬ (k : Int) < (len : Int) := by omega
      go_wp2_with fail
      go_ret
      have hkk : k = l.length := by have := HL.out; omega
      subst hkk
      exact ⟨rfl, ⟨hM.own, by obtain ⟨C, h1, _⟩ := hM.row; exact (Array.getElem?_eq_some_iff.1 h1).1⟩, hM.below⟩

set_option maxRecDepth 100000 in
set_option maxHeartbeats 1000000 in
theorem toP2 (l : List ByteArray) (d : ByteArray) (m : Int) (a : Option Addr) (cap : Nat) (u : Int) (w : World) (hl : Txt w 0 a l) (hsz : l.length ≤ 2097152) :
    Calls Try.prog 9 #[.agg #[.string d, .int .i64 m, .slice a l.length cap, .int .i64 u]] w fun e w' => ∃ a' f, e = .returned (.agg #[.string d, .int .i64 m, .slice a' l.length l.length, .int .i64 u]) ∧ TxOwn w' a' l f ∧ (∀ b, f = some b → w.heap.size ≤ b ∧ b < w'.heap.size) ∧ Below w.heap.size w w' := by
  have hb0 : Below w.heap.size w (((w.alloc (.cells #[.string d, .int .i64 m, .slice a l.length cap, .int .i64 u] 24)).alloc (.cells #[.string ⟨#[]⟩, .int .i64 0, .slice none 0 0, .int .i64 0] 27)).alloc (.cells #[.string d, .int .i64 m, .slice none 0 0, .int .i64 0] 27)) := btP (btP (abP _) (abP _)) (abP _)
  have HL := hide (hl.on hb0)
  have HB0 := hide hb0
  have HC := hide (fun v hv => toT2 l a cap v hv hsz)
  clear hl hb0
  generalize hlen : l.length = len at *
  go_enter Try.func9, Try.ntmps9
  go_wp2_with fail
  refine (unhide HC _ (unhide HL)).mono ?_
  rintro e w2 ⟨rfl, ⟨hL2, hT2⟩, hb2⟩
  have HB2 := hide (btP (unhide HB0) hb2)
  have HSZ : Hid (_ < w2.heap.size) := hT2
  obtain ⟨hc, hf⟩ := bcell hb2
  clear hb2 HB0 HL HC
  go_wp2_with fail
  simp only [heap_size_alloc] at hL2 hc
  refine bodyPost_ret (v := .agg #[.string d, .int .i64 m, .slice (some ⟨w.heap.size + 1 + 1 + 1, 0, none⟩) len len, .int .i64 u]) (by simp [results, Try.results9, go_sem, hc]) rfl ⟨_, some (w.heap.size + 1 + 1 + 1), rfl, ?_, fun b hb => ?_, ?_⟩
  · refine hL2.keep fun b hb => ?_
    simp only [Option.some.injEq] at hb
    subst hb
    repeat rw [Below.heap_setCell _ _ _ _ (by simp <;> omega)]
  · simp only [Option.some.injEq] at hb
    subst hb
    have := unhide HSZ
    simp only [heap_size_alloc] at this
    simp only [World.setCell, Array.size_modify]
    omega
  · repeat refine Below.setCell ?_ (by simp <;> omega) _
    exact unhide HB2

/-- Policies in blocks of their own: the row b, and for each of them the block of its texts. -/
structure PO (w : World) (b : Nat) (F : Nat → Option Nat) (n : Nat) (Q : Nat → Pol) : Prop where
  row : ∃ C : Array Value, w.heap[b]? = some (.cells C 27 (0, 0)) ∧ n * 4 ≤ C.size
  at_ : ∀ i, i < n → ∃ x cap, w.rangeAt b (i * 4) (polCells (Q i) x cap) ∧ TxOwn w x (Q i).l (F i)
  lt : ∀ i g, i < n → F i = some g → g ≠ b ∧ g < w.heap.size
  apart : ∀ i j g, i < n → j < n → i ≠ j → F i = some g → F j ≠ some g
theorem PO.on {w w' : World} {b : Nat} {F : Nat → Option Nat} {n : Nat} {Q : Nat → Pol} (h : PO w b F n Q) (hb : Below w.heap.size w w') : PO w' b F n Q := by
  obtain ⟨C, h1, h2⟩ := h.row
  refine ⟨⟨C, by rw [hb.block b (Array.getElem?_eq_some_iff.1 h1).1, h1], h2⟩, fun i hi => ?_, fun i g hi hg => ⟨(h.lt i g hi hg).1, Nat.lt_of_lt_of_le (h.lt i g hi hg).2 hb.size⟩, h.apart⟩
  obtain ⟨x, cap, h3, h4⟩ := h.at_ i hi
  exact ⟨x, cap, rangeAt_below h3 hb, h4.on hb⟩
theorem PO.chg {w w' : World} {b : Nat} {F : Nat → Option Nat} {n : Nat} {Q : Nat → Pol} {S : Nat → Prop} (h : PO w b F n Q) (hc : Chg S w w') (hb : ¬ S b) (hf : ∀ i g, i < n → F i = some g → ¬ S g) : PO w' b F n Q := by
  obtain ⟨C, h1, h2⟩ := h.row
  have hbl := hc.block b (Array.getElem?_eq_some_iff.1 h1).1 hb
  refine ⟨⟨C, by rw [hbl, h1], h2⟩, fun i hi => ?_, fun i g hi hg => ⟨(h.lt i g hi hg).1, Nat.lt_of_lt_of_le (h.lt i g hi hg).2 hc.size⟩, h.apart⟩
  obtain ⟨x, cap, h3, h4⟩ := h.at_ i hi
  exact ⟨x, cap, fun j v hj => by rw [World.cell?_of_block hbl]; exact h3 j v hj, h4.chg hc fun g hg => hf i g hi hg⟩
def listQ (P : List Pol) (i : Nat) : Pol := P[i]?.getD zeroP
theorem listQ_get {P : List Pol} {i : Nat} {p : Pol} (h : P[i]? = some p) : listQ P i = p := by simp [listQ, h]
theorem PO.pols {w : World} {b : Nat} {F : Nat → Option Nat} {P : List Pol} (h : PO w b F P.length (listQ P)) : Pols w 0 (some ⟨b, 0, none⟩) P := fun k p hk => by
  obtain ⟨x, cap, h1, h2⟩ := h.at_ k (List.getElem?_eq_some_iff.1 hk).1
  rw [listQ_get hk] at h1 h2
  exact ⟨b, 0, x, cap, rfl, Nat.zero_le _, by rw [Nat.zero_add]; exact h1, h2.txt⟩
theorem setCells_belowQ {w : World} : ∀ (vs : List Value) (o : Nat) (v : World), Below w.heap.size v (v.setCells w.heap.size o vs) := by
  intro vs
  induction vs with
  | nil => exact fun o v => Below.refl _ _
  | cons x r ih => exact fun o v => ((Below.refl _ v).setCell (p := ⟨w.heap.size, o, none⟩) (Nat.le_refl _) x).trans (ih (o + 1) _)
theorem setCells_otherQ (b : Nat) : ∀ (vs : List Value) (o : Nat) (v : World) (x : Nat), x ≠ b → (v.setCells b o vs).heap[x]? = v.heap[x]?
  | [], _, _, _, _ => rfl
  | u :: r, o, v, x, h => (setCells_otherQ b r (o + 1) _ x h).trans (Below.heap_setCell v _ u x h)
theorem setCells_sizeQ (b : Nat) : ∀ (vs : List Value) (o : Nat) (v : World), (v.setCells b o vs).heap.size = v.heap.size
  | [], _, _ => rfl
  | u :: r, o, v => (setCells_sizeQ b r (o + 1) _).trans (by simp [World.setCell])

/-- In the middle of the copy. -/
structure RMid (w : World) (P : List Pol) (F : Nat → Option Nat) (k : Nat) (wr : World) : Prop where
  below : Below w.heap.size w wr
  row : ∃ C, wr.heap[w.heap.size]? = some (.cells C 27 (0, 0)) ∧ C.size = P.length * 4
  po : PO wr w.heap.size F k (listQ P)
  ge : ∀ i g, i < k → F i = some g → w.heap.size ≤ g

theorem RMid.start (w : World) (P : List Pol) : RMid w P (fun _ => none) 0 (w.alloc (.cells (madePol P.length) 27)) :=
  ⟨(Below.refl _ _).alloc (Nat.le_refl _) _, ⟨madePol P.length, heap_alloc_new w _, madePol_size _⟩, ⟨⟨madePol P.length, heap_alloc_new w _, by omega⟩, fun i hi => by omega, fun i g hi => by omega, fun i j g hi => by omega⟩, fun i g hi => by omega⟩

theorem RMid.lt {w wr : World} {P : List Pol} {F : Nat → Option Nat} {k : Nat} (h : RMid w P F k wr) : w.heap.size < wr.heap.size := by
  obtain ⟨C, h1, _⟩ := h.row
  exact (Array.getElem?_eq_some_iff.1 h1).1

theorem RMid.there {w wr w2 : World} {P : List Pol} {F : Nat → Option Nat} {k : Nat} (h : RMid w P F k wr) (hb : Below wr.heap.size wr w2) (hk : k < P.length) : w2.there w.heap.size (k * 4) 4 := by
  obtain ⟨C, h1, h2⟩ := h.row
  have h3 : w2.heap[w.heap.size]? = some (.cells C 27 (0, 0)) := (hb.block _ h.lt).trans h1
  intro j hj
  exact ⟨by rw [cell_of_row h3 (by omega)]; rfl, frozen_of_row h3⟩

theorem RMid.step {w wr w2 : World} {P : List Pol} {F : Nat → Option Nat} {k : Nat} {p : Pol} {x : Option Addr} {f : Option Nat} (h : RMid w P F k wr) (hb : Below wr.heap.size wr w2) (hk : P[k]? = some p) (hl : TxOwn w2 x p.l f) (hf : ∀ g, f = some g → wr.heap.size ≤ g ∧ g < w2.heap.size) :
    RMid w P (fun i => if i = k then f else F i) (k + 1) (w2.setCells w.heap.size (k * 4) (polCells p x p.l.length)) := by
  have hlt := h.lt
  have hkl : k < P.length := (List.getElem?_eq_some_iff.1 hk).1
  have hth := h.there hb hkl
  have hne : ∀ i, i < k → (if i = k then f else F i) = F i := fun i hi => if_neg (by omega)
  obtain ⟨C, h1, h2⟩ := h.row
  have h3 : w2.heap[w.heap.size]? = some (.cells C 27 (0, 0)) := (hb.block _ hlt).trans h1
  obtain ⟨C', g1, g2⟩ := setCells_row (polCells p x p.l.length) (k * 4) w2 C h3
  have hsz := setCells_sizeQ w.heap.size (polCells p x p.l.length) (k * 4) w2
  have hF : ∀ i g, i < k + 1 → (if i = k then f else F i) = some g → (i = k ∧ f = some g) ∨ (i < k ∧ F i = some g) := fun i g hi hg => by
    by_cases e : i = k
    · rw [if_pos e] at hg; exact Or.inl ⟨e, hg⟩
    · rw [if_neg e] at hg; exact Or.inr ⟨by omega, hg⟩
  refine ⟨(h.below.trans (hb.mono (by omega))).trans (setCells_belowQ _ _ _), ⟨C', g1, g2.trans h2⟩, ⟨⟨C', g1, by omega⟩, fun i hi => ?_, fun i g hi hg => ?_, fun i j g hi hj hij hg => ?_⟩, fun i g hi hg => ?_⟩
  · by_cases e : i = k
    · subst e
      rw [listQ_get hk, if_pos rfl]
      exact ⟨x, _, World.rangeAt_setCells_same _ _ _ _ hth, hl.keep fun g hg => setCells_otherQ _ _ _ _ _ (by have := (hf g hg).1; omega)⟩
    · obtain ⟨y, c, r1, r2⟩ := h.po.at_ i (by omega)
      rw [if_neg e]
      refine ⟨y, c, World.rangeAt_setCells_apart (rangeAt_below r1 hb) _ _ _ (Or.inr (Or.inl (by simp [polCells]; omega))), (r2.on hb).keep fun g hg => setCells_otherQ _ _ _ _ _ ?_⟩
      exact (h.po.lt i g (by omega) hg).1
  · rw [hsz]
    rcases hF i g hi hg with ⟨_, hg⟩ | ⟨hi, hg⟩
    · exact ⟨by have := (hf g hg).1; omega, (hf g hg).2⟩
    · exact ⟨(h.po.lt i g hi hg).1, Nat.lt_of_lt_of_le (h.po.lt i g hi hg).2 hb.size⟩
  · intro hg'
    rcases hF i g hi hg with ⟨rfl, hg1⟩ | ⟨hi1, hg1⟩
    · rcases hF j g hj hg' with ⟨rfl, _⟩ | ⟨hj1, hg2⟩
      · exact hij rfl
      · have := (hf g hg1).1; have := (h.po.lt j g hj1 hg2).2; omega
    · rcases hF j g hj hg' with ⟨rfl, hg2⟩ | ⟨hj1, hg2⟩
      · have := (hf g hg2).1; have := (h.po.lt i g hi1 hg1).2; omega
      · exact h.po.apart i j g hi1 hj1 hij hg1 hg2
  · rcases hF i g hi hg with ⟨_, hg⟩ | ⟨hi, hg⟩
    · have := (hf g hg).1; omega
    · exact h.ge i g hi hg

set_option maxRecDepth 100000 in
set_option maxHeartbeats 1000000 in
theorem toQ2 (P : List Pol) (a : Option Addr) (cap : Nat) (w : World) (hl : Pols w 0 a P) (hsz : P.length ≤ 2097152) (hz : ∀ p ∈ P, p.l.length ≤ 2097152) :
    Calls Try.prog 14 #[.slice a P.length cap] w fun e w' => e = .returned (.slice (some ⟨w.heap.size, 0, none⟩) P.length P.length) ∧ (∃ F, PO w' w.heap.size F P.length (listQ P) ∧ ∀ i g, i < P.length → F i = some g → w.heap.size ≤ g) ∧ Below w.heap.size w w' := by
  have hmk := make_pol P.length hsz
  have HM := hide (RMid.start w P)
  have HZ := hide hz
  have HT := hide hl
  clear hl hz
  generalize hlen : P.length = len at hmk hsz HM ⊢
  have HL : Hid (P.length = len) := hlen
  clear hlen
  go_enter Try.func14, Try.ntmps14
  go_wp2_with fail
  go_loopw [4] (fun i wr => ∃ k : Nat, k ≤ len ∧ i = .int .i64 k ∧ ∃ F, RMid w P F k wr) (fun i _ => len - (intOf i).toNat)
  case atStart => exact ⟨0, Nat.zero_le _, rfl, _, HM.out⟩
  case round =>
    obtain ⟨k, hkl, rfl, F, hM⟩ := hrel
    by_cases hlt : k < len
    · have hlt' : k < P.length := by have := HL.out; omega
      obtain ⟨p, hkp⟩ : ∃ p, P[k]? = some p := ⟨_, List.getElem?_eq_getElem hlt'⟩
      obtain ⟨b, o, x, xc, rfl, -, -, c0, c1, c2, c3, hT⟩ := ((unhide HT).on hM.below).elem hkp
      have hTx := hide hT
      have HC := hide (fun v hv => toP2 p.l p.d p.m x xc p.u v hv (unhide HZ p (List.mem_of_getElem? hkp)))
      have HS : Hid (∀ w2 y f, Below wr.heap.size wr w2 → TxOwn w2 y p.l f → (∀ g, f = some g → wr.heap.size ≤ g ∧ g < w2.heap.size) → ∃ F', RMid w P F' (k + 1) (w2.setCells w.heap.size (k * 4) (polCells p y p.l.length))) := fun w2 y f hb hy hf => ⟨_, hM.step hb hkp hy hf⟩
      have HH : Hid (∀ w2, Below wr.heap.size wr w2 → w2.there w.heap.size (k * 4) 4) := fun w2 hb => hM.there hb hlt'
      have q2 : (k : Int) < (len : Int) := by omega
      have q3 : (0 : Int) ≤ (k : Int) := by omega
      have w2 : wrap64 ((k : Int) + 1) = ((k + 1 : Nat) : Int) := by unfold wrap64; omega
      clear hM hkp hT
      go_wp2_with fail
      refine (unhide HC _ (unhide hTx)).mono ?_
      rintro e w2 ⟨a2, ff, rfl, hL2, hF2, hb2⟩
      have hth := unhide HH _ hb2
      obtain ⟨d0, f0⟩ := hth 0 (by omega)
      obtain ⟨d1, f1⟩ := hth 1 (by omega)
      obtain ⟨d2, f2⟩ := hth 2 (by omega)
      obtain ⟨d3, f3⟩ := hth 3 (by omega)
      obtain ⟨u0, d0⟩ := Option.isSome_iff_exists.1 d0
      obtain ⟨u1, d1⟩ := Option.isSome_iff_exists.1 d1
      obtain ⟨u2, d2⟩ := Option.isSome_iff_exists.1 d2
      obtain ⟨u3, d3⟩ := Option.isSome_iff_exists.1 d3
      rw [Nat.add_zero] at d0 f0
      have HM2 := hide (unhide HS w2 a2 ff hb2 hL2 hF2)
      clear hL2 hth hb2 hF2
      go_wp2_with fail
      go_roundw
      case rel => exact ⟨k + 1, by omega, rfl, HM2.out⟩
      case measure => simp [intOf]; omega
    · have c2 : ¬ (k : Int) < (len : Int) := by omega
      go_wp2_with fail
      go_ret
      have hkk : k = P.length := by have := HL.out; omega
      subst hkk
      have e := HL.out
      subst e
      exact ⟨rfl, ⟨F, hM.po, hM.ge⟩, hM.below⟩


end Go.Proofs.Ytdcfkbnppbeahaa
