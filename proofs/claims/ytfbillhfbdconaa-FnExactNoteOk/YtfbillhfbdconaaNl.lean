/- Lists of notes and of letters: the walks of laws.szNoteS, toNoteS, eqNoteS, eqLetterS; nothing that was there is written. -/
import Derived.Test.YtfbillhfbdconaaNe
import Derived.Test.YtfbillhfbdconaaNn
namespace Go.Proofs.Ytfbillhfbdconaa
open Go.RowKit Go.Deep

theorem ntC_len (p : Nt) : (ntC p).length = 5 := rfl
theorem ltC_len (p : Lt) : (ltC p).length = 5 := rfl
instance : Inhabited Nt := ⟨⟨0, 0, ⟨#[]⟩, 0, 0⟩⟩
instance : Inhabited Lt := ⟨⟨⟨#[]⟩, 0, 0, 0, 0⟩⟩
def listN (P : List Nt) (i : Nat) : Nt := P[i]?.getD default
theorem listN_get {P : List Nt} {i : Nat} {p : Nt} (h : P[i]? = some p) : listN P i = p := by simp [listN, h]
def listL (P : List Lt) (i : Nat) : Lt := P[i]?.getD default
theorem listL_get {P : List Lt} {i : Nat} {p : Lt} (h : P[i]? = some p) : listL P i = p := by simp [listL, h]
theorem EO.elsN {w : World} {b : Nat} {P : List Nt} {ty : TypeId} (h : EO ntC ty w b P.length (listN P)) : Els ntC w 0 (some ⟨b, 0, none⟩) P := h.els (Nat.le_refl _) fun _ _ hp => listN_get hp
def nws : List Nt → Nat
  | [] => 0
  | p :: r => p.d.size + nws r
theorem nws_append (a b : List Nt) : nws (a ++ b) = nws a + nws b := by
  induction a with
  | nil => simp [nws]
  | cons t r ih => simp only [List.cons_append, nws, ih]; omega
theorem nws_take (l : List Nt) {k : Nat} {t : Nt} (h : l[k]? = some t) : nws (l.take (k + 1)) = nws (l.take k) + t.d.size := by
  rw [List.take_add_one, h, nws_append]; simp [nws]
theorem nws_take_le (l : List Nt) (k : Nat) : nws (l.take k) ≤ nws l := by
  have := nws_append (l.take k) (l.drop k)
  rw [List.take_append_drop] at this
  omega
theorem nws_get {l : List Nt} {k : Nat} {t : Nt} (h : l[k]? = some t) : t.d.size ≤ nws l := by
  have h1 := nws_take l h
  have h2 := nws_take_le l (k + 1)
  omega
theorem below_drew5 {w v : World} (h : Below w.drew.heap.size w.drew v) : Below w.heap.size w v := ((Below.refl _ _).drew).trans h

set_option maxRecDepth 100000 in
set_option maxHeartbeats 2000000 in
theorem szNs (P : List Nt) (a : Option Addr) (cap : Nat) (w : World) (hl : Els ntC w 0 a P) (hm : P.length ≤ maxLen) (hf : ∀ p ∈ P, p.d.size ≤ maxLen) :
    Calls Try.prog 9 #[.slice a P.length cap, .int .i64 1048576] w fun e w' => e = .returned (.int .i64 (szv 1048576 (P.length + nws P))) ∧ Below w.heap.size w w' := by
  unfold maxLen at hm
  generalize hlen : P.length = len at *
  have HL : Hid (P.length = len) := hlen
  clear hlen
  have w0 : wrap64 (1048576 - (len : Int)) = 1048576 - (len : Int) := by unfold wrap64; omega
  by_cases hlt : (1048576 : Int) - len < 0
  · have HE : Hid (szv 1048576 (len + nws P) = -1) := szv_no (by omega)
    go_enter Try.func9, Try.ntmps9
    go_wp2_with fail
    go_ret
    exact ⟨ret_int (unhide HE).symm, Below.refl _ _⟩
  · go_enter Try.func9, Try.ntmps9
    go_wp2_with fail
    go_loopw [1, 5] (fun x i wr => ∃ k : Nat, k ≤ len ∧ i = .int .i64 k ∧ (len : Int) + (nws (P.take k) : Int) ≤ 1048576 ∧ x = .int .i64 (1048576 - len - (nws (P.take k) : Int)) ∧ Below w.heap.size w wr) (fun _ i _ => len - (intOf i).toNat)
    case atStart => exact ⟨0, Nat.zero_le _, rfl, by simp [nws]; omega, by simp [nws], Below.refl _ _⟩
    case round =>
      obtain ⟨k, hk, rfl, hle, rfl, hbr⟩ := hrel
      have HB := hide hbr
      by_cases hkl : k < len
      · have hkl' : k < P.length := by have := HL.out; omega
        obtain ⟨p, hkp⟩ : ∃ p, P[k]? = some p := ⟨_, List.getElem?_eq_getElem hkl'⟩
        obtain ⟨b, o, rfl, -, c0, c1, c2, c3, c4⟩ := (hl.on hbr).note hkp
        have hpf := hf p (List.mem_of_getElem? hkp)
        have HW := hide (nws_take P hkp)
        have HA := hide (nws_take_le P (k + 1))
        have q2 : (k : Int) < (len : Int) := by omega
        have q3 : (0 : Int) ≤ (k : Int) := by omega
        generalize hwl : nws (P.take k) = wl at *
        generalize hwk : nws (P.take (k + 1)) = wk at *
        have w2 : wrap64 ((k : Int) + 1) = ((k + 1 : Nat) : Int) := by unfold wrap64; omega
        have Hwk : Hid (nws (P.take (k + 1)) = wk) := hwk
        have HC := hide (fun v => szN p.k p.h p.d p.b p.t (1048576 - len - wl) (by omega) (by omega) v hpf)
        clear hwl hwk hkp hl hf hpf hbr
        generalize hq : p.d.size = q at *
        by_cases hw : (q : Int) ≤ 1048576 - len - wl
        · rw [szv_yes hw] at HC
          have hsv : ¬ (1048576 : Int) - len - wl - (q : Int) < 0 := by omega
          go_wp2_with fail
          refine (unhide HC _).mono ?_
          rintro e w3 ⟨rfl, hb3⟩
          have HB3 := hide (btP (unhide HB) hb3)
          clear hb3
          go_wp2_with fail
          go_roundw
          case rel => exact ⟨k + 1, by omega, rfl, by have := HW.out; have := Hwk.out; omega, by have := HW.out; have := Hwk.out; rw [this]; congr 1; omega, unhide HB3⟩
          case measure => simp [intOf]; omega
        · rw [szv_no (by omega)] at HC
          go_wp2_with fail
          refine (unhide HC _).mono ?_
          rintro e w3 ⟨rfl, hb3⟩
          have HB3 := hide (btP (unhide HB) hb3)
          clear hb3
          go_wp2_with fail
          go_ret
          exact ⟨ret_int (by rw [szv_no (by have := HW.out; have := HA.out; omega)]), unhide HB3⟩
      · have c2 : ¬ (k : Int) < (len : Int) := by omega
        clear hbr
        go_wp2_with fail
        go_ret
        have hkk : k = len := by omega
        exact ⟨ret_int (by rw [List.take_of_length_le (by have := HL.out; omega)] at hle ⊢; rw [szv_yes (by omega)]; omega), unhide HB⟩

theorem infoNt : (Try.prog.info? 26).map (fun i => (i.zero, i.size, i.bytes)) = some (some (.agg #[.int .i64 0, .int .i64 0, .string ByteArray.empty, .int .i64 0, .int .i64 0]), 5, 48) := by kernel_rfl
def madeNt (n : Nat) : Array Value := madeCells #[.int .i64 0, .int .i64 0, .string ByteArray.empty, .int .i64 0, .int .i64 0] (n * 5)
theorem madeNt_size (n : Nat) : (madeNt n).size = n * 5 := size_madeCells _ _
theorem make_nt (n : Nat) (hn : n ≤ 2097152) (w : World) :
    (Instr.makeSlice 33 (.int .i64 (n : Int)) (.int .i64 (n : Int))).run Try.prog w = .ok (.slice (some ⟨w.heap.size, 0, none⟩) n n) (w.alloc (.cells (madeNt n) 26)) := by
  obtain ⟨i, hi, hzz⟩ := Option.map_eq_some_iff.1 infoNt
  simp only [Prod.mk.injEq] at hzz
  obtain ⟨hz, hs, hb⟩ := hzz
  have hr := run_make (P := Try.prog) w 33 26 i _ Try.underlying33 hi hz .i64 .i64 n n (by omega) (Int.le_refl _) (by rw [hb]; omega) (by omega)
  simp only [Int.toNat_natCast, hs] at hr
  exact hr

/-- In the middle of the copy: k of the notes are there. -/
structure NMid (w : World) (P : List Nt) (k : Nat) (wr : World) : Prop where
  below : Below w.heap.size w wr
  row : ∃ C, wr.heap[w.heap.size]? = some (.cells C 26 (0, 0)) ∧ C.size = P.length * 5
  done : ∀ j p, j < k → P[j]? = some p → wr.rangeAt w.heap.size (j * 5) (ntC p)
theorem NMid.start (w : World) (P : List Nt) : NMid w P 0 (w.alloc (.cells (madeNt P.length) 26)) :=
  ⟨(Below.refl _ _).alloc (Nat.le_refl _) _, ⟨madeNt P.length, heap_alloc_new w _, madeNt_size _⟩, fun _ _ hj => absurd hj (Nat.not_lt_zero _)⟩
theorem NMid.lt {w wr : World} {P : List Nt} {k : Nat} (h : NMid w P k wr) : w.heap.size < wr.heap.size := by
  obtain ⟨C, h1, _⟩ := h.row
  exact (Array.getElem?_eq_some_iff.1 h1).1
theorem NMid.there {w wr w2 : World} {P : List Nt} {k : Nat} (h : NMid w P k wr) (hb : Below wr.heap.size wr w2) (hk : k < P.length) : w2.there w.heap.size (k * 5) 5 := by
  obtain ⟨C, h1, h2⟩ := h.row
  have h3 : w2.heap[w.heap.size]? = some (.cells C 26 (0, 0)) := (hb.block _ h.lt).trans h1
  intro j hj
  exact ⟨by rw [cell_of_row h3 (by omega)]; rfl, frozen_of_row h3⟩
theorem NMid.step {w wr w2 : World} {P : List Nt} {k : Nat} {p : Nt} (h : NMid w P k wr) (hb : Below wr.heap.size wr w2) (hk : P[k]? = some p) :
    NMid w P (k + 1) (w2.setCells w.heap.size (k * 5) (ntC p)) := by
  have hlt := h.lt
  have hkl : k < P.length := (List.getElem?_eq_some_iff.1 hk).1
  have hth := h.there hb hkl
  obtain ⟨C, h1, h2⟩ := h.row
  have h3 : w2.heap[w.heap.size]? = some (.cells C 26 (0, 0)) := (hb.block _ hlt).trans h1
  obtain ⟨C', g1, g2⟩ := setCells_row (ntC p) (k * 5) w2 C h3
  refine ⟨(h.below.trans (hb.mono (by omega))).trans ((setCells_chg (S := fun y => y = w.heap.size) rfl (ntC p) (k * 5) w2).below (by have := hb.size; omega) fun x hx => by omega), ⟨C', g1, g2.trans h2⟩, fun j t hj ht => ?_⟩
  rcases Nat.lt_succ_iff_lt_or_eq.1 hj with hjk | rfl
  · exact World.rangeAt_setCells_apart (rangeAt_below (h.done j t hjk ht) hb) _ _ _ (Or.inr (Or.inl (by simp [ntC]; omega)))
  · rw [hk] at ht
    cases ht
    exact World.rangeAt_setCells_same _ _ _ _ hth
theorem NMid.eo {w wr : World} {P : List Nt} (h : NMid w P P.length wr) : EO ntC 26 wr w.heap.size P.length (listN P) := by
  obtain ⟨C, h1, h2⟩ := h.row
  refine ⟨⟨C, h1, by omega⟩, fun i hi => ?_⟩
  obtain ⟨p, hp⟩ : ∃ p, P[i]? = some p := ⟨_, List.getElem?_eq_getElem hi⟩
  rw [listN_get hp]
  exact h.done i p hi hp

set_option maxRecDepth 100000 in
set_option maxHeartbeats 2000000 in
theorem toNs (P : List Nt) (a : Option Addr) (cap : Nat) (w : World) (hl : Els ntC w 0 a P) (hsz : P.length ≤ 2097152) :
    Calls Try.prog 11 #[.slice a P.length cap] w fun e w' => e = .returned (.slice (some ⟨w.heap.size, 0, none⟩) P.length P.length) ∧ EO ntC 26 w' w.heap.size P.length (listN P) ∧ Below w.heap.size w w' := by
  have hmk := make_nt P.length hsz
  have HM := hide (NMid.start w P)
  have HT := hide hl
  clear hl
  generalize hlen : P.length = len at hmk hsz HM ⊢
  have HL : Hid (P.length = len) := hlen
  clear hlen
  go_enter Try.func11, Try.ntmps11
  go_wp2_with fail
  go_loopw [4] (fun i wr => ∃ k : Nat, k ≤ len ∧ i = .int .i64 k ∧ NMid w P k wr) (fun i _ => len - (intOf i).toNat)
  case atStart => exact ⟨0, Nat.zero_le _, rfl, HM.out⟩
  case round =>
    obtain ⟨k, hkl, rfl, hM⟩ := hrel
    by_cases hlt : k < len
    · have hlt' : k < P.length := by have := HL.out; omega
      obtain ⟨p, hkp⟩ : ∃ p, P[k]? = some p := ⟨_, List.getElem?_eq_getElem hlt'⟩
      obtain ⟨b, o, rfl, -, c0, c1, c2, c3, c4⟩ := ((unhide HT).on hM.below).note hkp
      have HC := hide (fun v => toN p.k p.h p.d p.b p.t v)
      have HS : Hid (∀ w2, Below wr.heap.size wr w2 → NMid w P (k + 1) (w2.setCells w.heap.size (k * 5) (ntC p))) := fun w2 hb => hM.step hb hkp
      have HH : Hid (∀ w2, Below wr.heap.size wr w2 → w2.there w.heap.size (k * 5) 5) := fun w2 hb => hM.there hb hlt'
      have q2 : (k : Int) < (len : Int) := by omega
      have q3 : (0 : Int) ≤ (k : Int) := by omega
      have w2 : wrap64 ((k : Int) + 1) = ((k + 1 : Nat) : Int) := by unfold wrap64; omega
      clear hM hkp
      go_wp2_with fail
      refine (unhide HC _).mono ?_
      rintro e w2 ⟨rfl, hb2⟩
      have hth := unhide HH _ hb2
      obtain ⟨d0, f0⟩ := hth 0 (by omega)
      obtain ⟨d1, f1⟩ := hth 1 (by omega)
      obtain ⟨d2, f2⟩ := hth 2 (by omega)
      obtain ⟨d3, f3⟩ := hth 3 (by omega)
      obtain ⟨d4, f4⟩ := hth 4 (by omega)
      obtain ⟨u0, d0⟩ := Option.isSome_iff_exists.1 d0
      obtain ⟨u1, d1⟩ := Option.isSome_iff_exists.1 d1
      obtain ⟨u2, d2⟩ := Option.isSome_iff_exists.1 d2
      obtain ⟨u3, d3⟩ := Option.isSome_iff_exists.1 d3
      obtain ⟨u4, d4⟩ := Option.isSome_iff_exists.1 d4
      rw [Nat.add_zero] at d0 f0
      have HM2 := hide (unhide HS w2 hb2)
      clear hth hb2
      go_wp2_with fail
      go_roundw
      case rel => exact ⟨k + 1, by omega, rfl, HM2.out⟩
      case measure => simp [intOf]; omega
    · have c2 : ¬ (k : Int) < (len : Int) := by omega
      go_wp2_with fail
      go_ret
      have hkk : k = P.length := by have := HL.out; omega
      subst hkk
      have e := HL.out
      subst e
      exact ⟨rfl, hM.eo, hM.below⟩

set_option maxRecDepth 100000 in
set_option maxHeartbeats 2000000 in
theorem eqNs (P : List Nt) (a a' : Option Addr) (c c' : Nat) (w : World) (hl : P.length ≤ 9223372036854775806) (h : Els ntC w 0 a P) (h' : Els ntC w 0 a' P) :
    Calls Try.prog 14 #[.slice a P.length c, .slice a' P.length c'] w fun e w' => e = .returned (.bool true) ∧ Below w.heap.size w w' := by
  have H := hide h
  have H' := hide h'
  clear h h'
  generalize hlen : P.length = len at *
  have HL : Hid (P.length = len) := hlen
  clear hlen
  have hne : ((len : Int) != (len : Int)) = false := by simp
  go_enter Try.func14, Try.ntmps14
  go_wp2_with fail
  go_loopw [5] (fun n wr => ∃ k : Nat, n = .int .i64 k ∧ Below w.heap.size w wr ∧ k ≤ len) (fun n _ => len - (intOf n).toNat)
  case atStart => exact ⟨0, rfl, Below.refl _ _, by omega⟩
  case round =>
    obtain ⟨k, rfl, hb, hk⟩ := hrel
    have HB := hide hb
    by_cases hp : k < len
    · have hp' : k < P.length := by have := HL.out; omega
      obtain ⟨p, hkp⟩ : ∃ p, P[k]? = some p := ⟨_, List.getElem?_eq_getElem hp'⟩
      obtain ⟨b, o, rfl, -, c0, c1, c2, c3, c4⟩ := ((unhide H).on hb).note hkp
      obtain ⟨b', o', rfl, -, d0, d1, d2, d3, d4⟩ := ((unhide H').on hb).note hkp
      have hct := hide (fun v => eqN p.k p.h p.d p.b p.t v)
      have q2 : (k : Int) < (len : Int) := by omega
      have q3 : (0 : Int) ≤ (k : Int) := by omega
      have w1 : wrap64 ((k : Int) + 1) = ((k + 1 : Nat) : Int) := by unfold wrap64; omega
      clear hb hkp
      go_wp2_with fail
      go_region_with (go_at_call 26; refine (unhide hct _).mono ?_; rintro e w2 ⟨rfl, hb2⟩; have HB2 := hide (btP (unhide HB) (below_drew5 hb2)); clear hb2)
      all_goals
        go_wp2_with fail
        go_roundw
        case rel => exact ⟨k + 1, rfl, unhide HB2, by omega⟩
        case measure => simp only [intOf]; omega
    · have c2 : ¬ (k : Int) < (len : Int) := by omega
      clear hb
      go_wp2_with fail
      go_ret
      exact ⟨rfl, unhide HB⟩

set_option maxRecDepth 100000 in
set_option maxHeartbeats 2000000 in
theorem eqLs (P : List Lt) (a a' : Option Addr) (c c' : Nat) (w : World) (hl : P.length ≤ 9223372036854775806) (h : Els ltC w 0 a P) (h' : Els ltC w 0 a' P) :
    Calls Try.prog 13 #[.slice a P.length c, .slice a' P.length c'] w fun e w' => e = .returned (.bool true) ∧ Below w.heap.size w w' := by
  have H := hide h
  have H' := hide h'
  clear h h'
  generalize hlen : P.length = len at *
  have HL : Hid (P.length = len) := hlen
  clear hlen
  have hne : ((len : Int) != (len : Int)) = false := by simp
  go_enter Try.func13, Try.ntmps13
  go_wp2_with fail
  go_loopw [5] (fun n wr => ∃ k : Nat, n = .int .i64 k ∧ Below w.heap.size w wr ∧ k ≤ len) (fun n _ => len - (intOf n).toNat)
  case atStart => exact ⟨0, rfl, Below.refl _ _, by omega⟩
  case round =>
    obtain ⟨k, rfl, hb, hk⟩ := hrel
    have HB := hide hb
    by_cases hp : k < len
    · have hp' : k < P.length := by have := HL.out; omega
      obtain ⟨p, hkp⟩ : ∃ p, P[k]? = some p := ⟨_, List.getElem?_eq_getElem hp'⟩
      obtain ⟨b, o, rfl, -, c0, c1, c2, c3, c4⟩ := ((unhide H).on hb).letter hkp
      obtain ⟨b', o', rfl, -, d0, d1, d2, d3, d4⟩ := ((unhide H').on hb).letter hkp
      have hct := hide (fun v => eqL p.d p.b p.s p.t p.n v)
      have q2 : (k : Int) < (len : Int) := by omega
      have q3 : (0 : Int) ≤ (k : Int) := by omega
      have w1 : wrap64 ((k : Int) + 1) = ((k + 1 : Nat) : Int) := by unfold wrap64; omega
      clear hb hkp
      go_wp2_with fail
      go_region_with (go_at_call 25; refine (unhide hct _).mono ?_; rintro e w2 ⟨rfl, hb2⟩; have HB2 := hide (btP (unhide HB) (below_drew5 hb2)); clear hb2)
      all_goals
        go_wp2_with fail
        go_roundw
        case rel => exact ⟨k + 1, rfl, unhide HB2, by omega⟩
        case measure => simp only [intOf]; omega
    · have c2 : ¬ (k : Int) < (len : Int) := by omega
      clear hb
      go_wp2_with fail
      go_ret
      exact ⟨rfl, unhide HB⟩


end Go.Proofs.Ytfbillhfbdconaa
