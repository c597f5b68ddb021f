
/- A pattern and a host as plain texts, and the walks of spec.Fits, impl.Fits and laws.FnExactFits: whether the one fits the other; nothing that was there is written. -/
import Derived.Test.YtldbanflbjpfeaaHk
import Derived.Lib.IndexLaws
import Derived.OwnWalk
import Derived.Deep.RegionWith
namespace Go.Proofs.Ytldbanflbjpfeaa
open Go.RowKit Go.Deep

/-- Where the first byte 46 from a place on is. -/
theorem labs_first {s : ByteArray} : ∀ (f st : Nat), f ≤ s.size → (labs s f st = [s.extract st s.size] ∧ ∀ j, s.size - f ≤ j → j < s.size → ¬ byteAt s j = 46) ∨ (∃ i, s.size - f ≤ i ∧ i < s.size ∧ byteAt s i = 46 ∧ (∀ j, s.size - f ≤ j → j < i → ¬ byteAt s j = 46) ∧ labs s f st = s.extract st i :: labs s (s.size - (i + 1)) (i + 1))
  | 0, st, _ => Or.inl ⟨rfl, fun j h1 h2 => by omega⟩
  | f + 1, st, hf => by
    by_cases hd : byteAt s (s.size - (f + 1)) = 46
    · refine Or.inr ⟨s.size - (f + 1), Nat.le_refl _, by omega, hd, fun j h1 h2 => by omega, ?_⟩
      rw [labs, if_pos hd]
      congr 2
      omega
    · have e : labs s (f + 1) st = labs s f st := by rw [labs, if_neg hd]
      rcases labs_first (s := s) f st (by omega) with ⟨h1, h2⟩ | ⟨i, h1, h2, h3, h4, h5⟩
      · refine Or.inl ⟨by rw [e, h1], fun j a b => ?_⟩
        rcases Nat.eq_or_lt_of_le a with rfl | a
        · exact hd
        · exact h2 j (by omega) b
      · refine Or.inr ⟨i, by omega, h2, h3, fun j a b => ?_, by rw [e, h5]⟩
        rcases Nat.eq_or_lt_of_le a with rfl | a
        · exact hd
        · exact h4 j (by omega) b
/-- A host's first label ends where its first byte 46 stands. -/
theorem host_first {s : ByteArray} (h : hostP s) : ∃ i, i < s.size ∧ byteAt s i = 46 ∧ (∀ j, j < i → ¬ byteAt s j = 46) ∧ labsOf s = s.extract 0 i :: labs s (s.size - (i + 1)) (i + 1) := by
  rcases labs_first (s := s) s.size 0 (Nat.le_refl _) with ⟨h1, _⟩ | ⟨i, h1, h2, h3, h4, h5⟩
  · have := h.2.1
    unfold labsOf at this
    rw [h1] at this
    simp at this
  · exact ⟨i, h2, h3, fun j hj => h4 j (by omega) hj, h5⟩
theorem dataAt {s : ByteArray} {k : Nat} (c : UInt8) : s.data.toList[k]? = some c ↔ k < s.size ∧ byteAt s k = c.toNat := by
  constructor
  · intro h
    have hk : k < s.data.toList.length := (List.getElem?_eq_some_iff.1 h).1
    have hk2 : k < s.size := by rw [Lib.size_eq]; exact hk
    refine ⟨hk2, ?_⟩
    rw [← byteAt_lt hk2]
    have := (List.getElem?_eq_some_iff.1 h).2
    rw [← this]
    rfl
  · rintro ⟨hk, he⟩
    rw [← byteAt_lt hk] at he
    have hk2 : k < s.data.toList.length := by rw [← Lib.size_eq]; exact hk
    rw [List.getElem?_eq_getElem hk2]
    congr 1
    exact UInt8.toNat_inj.1 he
theorem index_first {s : ByteArray} {i : Nat} (hi : i < s.size) (hd : byteAt s i = 46) (hn : ∀ j, j < i → ¬ byteAt s j = 46) : Lib.indexByte s.data.toList 46 = (i : Int) := by
  rcases Lib.indexByte_ge s.data.toList 46 with _
  by_cases h : Lib.indexByte s.data.toList 46 = -1
  · exact absurd ((dataAt 46).2 ⟨hi, hd⟩) (Lib.indexByte_none h i)
  · have h0 := Lib.indexByte_ge s.data.toList 46
    obtain ⟨o, ho⟩ : ∃ o : Nat, Lib.indexByte s.data.toList 46 = (o : Int) := ⟨(Lib.indexByte s.data.toList 46).toNat, by omega⟩
    obtain ⟨h1, h2⟩ := Lib.indexByte_some ho
    have h3 := (dataAt 46).1 h1
    rw [ho]
    congr 1
    rcases Nat.lt_trichotomy o i with hl | hl | hl
    · exact absurd h3.2 (hn o hl)
    · exact hl
    · exact absurd ((dataAt 46).2 ⟨hi, hd⟩) (h2 i hl)

/-- A pattern fits a host. -/
def fitP (p h : ByteArray) : Prop := patP p ∧ hostP h ∧ (p = h ∨ (starE p ∧ ∃ i, i < h.size ∧ byteAt h i = 46 ∧ (∀ j, j < i → ¬ byteAt h j = 46) ∧ h.extract (i + 1) h.size = p.extract 2 p.size))
open Classical in
noncomputable def fitB (p h : ByteArray) : Bool := decide (fitP p h)
theorem fitB_yes {p h : ByteArray} (x : fitP p h) : fitB p h = true := by simp [fitB, x]
theorem fitB_no {p h : ByteArray} (x : ¬ fitP p h) : fitB p h = false := by simp [fitB, x]
theorem fitB_pat {p h : ByteArray} (x : patB p = false) : fitB p h = false := fitB_no fun f => by rw [patB_yes f.1] at x; cases x
theorem fitB_host {p h : ByteArray} (x : hostB h = false) : fitB p h = false := fitB_no fun f => by rw [hostB_yes f.2.1] at x; cases x
theorem first_one {h : ByteArray} {i k : Nat} (h1 : byteAt h i = 46) (h2 : ∀ j, j < i → ¬ byteAt h j = 46) (h3 : byteAt h k = 46) (h4 : ∀ j, j < k → ¬ byteAt h j = 46) : i = k := by
  rcases Nat.lt_trichotomy i k with hl | hl | hl
  · exact absurd h1 (h4 i hl)
  · exact hl
  · exact absurd h3 (h2 k hl)
theorem fitB_same {p : ByteArray} (x : patB p = true) (y : hostB p = true) : fitB p p = true := fitB_yes ⟨patB_iff.1 x, hostB_iff.1 y, Or.inl rfl⟩
theorem fitB_star {p h : ByteArray} {i : Nat} (x : patB p = true) (y : hostB h = true) (he : ¬ p = h) (hs : starE p) (h1 : byteAt h i = 46) (h2 : ∀ j, j < i → ¬ byteAt h j = 46) (hi : i < h.size) : fitB p h = decide (h.extract (i + 1) h.size = p.extract 2 p.size) := by
  by_cases hq : h.extract (i + 1) h.size = p.extract 2 p.size
  · rw [fitB_yes ⟨patB_iff.1 x, hostB_iff.1 y, Or.inr ⟨hs, i, hi, h1, h2, hq⟩⟩]
    simp [hq]
  · rw [fitB_no]
    · simp [hq]
    · rintro ⟨_, _, h | ⟨_, k, k1, k2, k3, k4⟩⟩
      · exact he h
      · rw [first_one h1 h2 k2 k3] at hq
        exact hq k4
theorem fitB_plain {p h : ByteArray} (he : ¬ p = h) (hs : ¬ starE p) : fitB p h = false := fitB_no fun f => f.2.2.elim he fun x => hs x.1

set_option maxRecDepth 100000 in
theorem cut51 (h : ByteArray) (w : World) (hs : h.size ≤ 2097152) (i : Nat) (hi : i < h.size) (h1 : byteAt h i = 46) (h2 : ∀ j, j < i → ¬ byteAt h j = 46) :
    Calls Try.prog 51 #[.string h, .string ⟨#[46]⟩] w fun e w' => e = .returned (.tuple #[.string (h.extract 0 i), .string (h.extract (i + 1) h.size), .bool true]) ∧ Below w.heap.size w w' := by
  have h64 := hide (fun v => Try.stringslite_Index_one h 46 v)
  rw [index_first hi h1 h2] at h64
  have c1 : (0 : Int) ≤ (i : Int) := by omega
  have c2 : (i : Int) ≤ (h.size : Int) := by omega
  have w1 : wrap64 ((i : Int) + 1) = ((i + 1 : Nat) : Int) := by unfold wrap64; omega
  have c3 : ((i + 1 : Nat) : Int) ≤ (h.size : Int) := by omega
  have c4 : (0 : Int) ≤ ((i + 1 : Nat) : Int) := by omega
  go_enter Try.func51, Try.ntmps51
  go_wp2_with fail
  refine (unhide h64 _).mono ?_
  rintro e w2 ⟨rfl, rfl⟩
  go_wp2_with fail
  go_region
  go_wp2_with fail
  go_ret3
  exact ⟨rfl, (Below.refl _ _).drew⟩

set_option maxRecDepth 100000 in
theorem cut35 (h : ByteArray) (w : World) (hs : h.size ≤ 2097152) (i : Nat) (hi : i < h.size) (h1 : byteAt h i = 46) (h2 : ∀ j, j < i → ¬ byteAt h j = 46) :
    Calls Try.prog 39 #[.string h, .string ⟨#[46]⟩] w fun e w' => e = .returned (.tuple #[.string (h.extract 0 i), .string (h.extract (i + 1) h.size), .bool true]) ∧ Below w.heap.size w w' := by
  have h51 := hide (fun v => cut51 h v hs i hi h1 h2)
  go_enter Try.func39, Try.ntmps39
  go_wp2_with fail
  refine (unhide h51 _).mono ?_
  rintro e w2 ⟨rfl, hb2⟩
  go_wp2_with fail
  go_ret3
  exact ⟨rfl, hb2⟩

theorem labs_pos (s : ByteArray) : 0 < (labsOf s).length := List.length_pos_iff.2 (labs_ne _ _ _)
theorem toList_inj {a b : ByteArray} (h : a.toList = b.toList) : a = b := by
  rw [Lib.toList_data, Lib.toList_data] at h
  rw [← Lib.mk_data a, ← Lib.mk_data b, h]
theorem str_ne {a b : ByteArray} (h : ¬ a = b) : ¬ a.toList = b.toList := fun e => h (toList_inj e)
theorem str_beq {a b : ByteArray} (h : ¬ a = b) : (a.toList == b.toList) = false := by simpa using str_ne h
theorem str_dec (a b : ByteArray) : decide (a = b) = (a.toList == b.toList) := by
  by_cases h : a = b
  · subst h; simp
  · have := str_ne h
    simp [h, this]
theorem below_two {w a b : World} (h1 : Below w.heap.size w a) (h2 : Below a.heap.size a b) : Below w.heap.size w b := h1.trans (h2.mono h1.size)

set_option maxRecDepth 100000 in
set_option maxHeartbeats 2000000 in
theorem fitI (p h : ByteArray) (w : World) (hp : p.size ≤ 2097152) (hh : h.size ≤ 2097152) :
    Calls Try.prog 23 #[.string p, .string h] w fun e w' => e = .returned (.bool (fitB p h)) ∧ Below w.heap.size w w' := by
  have h12 := hide (fun v => patI p v hp)
  have h10 := hide (fun v => hostI h v hh)
  have h34 := hide (fun v => cut34 p v)
  cases hP : patB p with
  | false =>
    have HE := hide (fitB_pat (h := h) hP)
    rw [hP] at h12
    go_enter Try.func23, Try.ntmps23
    go_wp2_with fail
    refine (unhide h12 _).mono ?_
    rintro e w2 ⟨rfl, hb2⟩
    go_wp2_with fail
    go_ret
    exact ⟨retB (unhide HE), hb2⟩
  | true =>
    rw [hP] at h12
    cases hH : hostB h with
    | false =>
      have HE := hide (fitB_host (p := p) hH)
      rw [hH] at h10
      go_enter Try.func23, Try.ntmps23
      go_wp2_with fail
      refine (unhide h12 _).mono ?_
      rintro e w2 ⟨rfl, hb2⟩
      have HB2 := hide hb2
      clear hb2
      go_wp2_with fail
      refine (unhide h10 _).mono ?_
      rintro e w3 ⟨rfl, hb3⟩
      have HB3 := hide (below_two (unhide HB2) hb3)
      clear hb3
      go_wp2_with fail
      go_ret
      exact ⟨retB (unhide HE), unhide HB3⟩
    | true =>
      rw [hH] at h10
      obtain ⟨i, hi, i1, i2, i3⟩ := host_first (hostB_iff.1 hH)
      have h35 := hide (fun v => cut35 h v hh i hi i1 i2)
      by_cases he : p = h
      · subst he
        have HE := hide (fitB_same hP hH)
        clear hP hH i3
        generalize (⟨(Lib.trimPrefix p.data.toList [42, 46]).toArray⟩ : ByteArray) = R at *
        generalize Lib.hasPrefix p.data.toList [42, 46] = M at *
        go_enter Try.func23, Try.ntmps23
        go_wp2_with fail
        refine (unhide h12 _).mono ?_
        rintro e w2 ⟨rfl, hb2⟩
        have HB2 := hide hb2
        clear hb2
        go_wp2_with fail
        refine (unhide h10 _).mono ?_
        rintro e w3 ⟨rfl, hb3⟩
        have HB3 := hide (below_two (unhide HB2) hb3)
        clear hb3
        go_wp2_with fail
        refine (unhide h34 _).mono ?_
        rintro e w4 ⟨rfl, rfl⟩
        go_wp2_with fail
        refine (unhide h35 _).mono ?_
        rintro e w5 ⟨rfl, hb5⟩
        have HB5 := hide (below_two (unhide HB3) hb5)
        clear hb5
        go_wp2_with fail
        go_ret
        exact ⟨retB (unhide HE), unhide HB5⟩
      · by_cases hs : starE p
        · have HE := hide (fitB_star hP hH he hs i1 i2 hi)
          rw [star_yes hs, trim_yes hs] at h34
          have q := str_beq he
          clear hP hH i3 hs he
          generalize h.extract (i + 1) h.size = X at *
          generalize p.extract 2 p.size = Y at *
          go_enter Try.func23, Try.ntmps23
          go_wp2_with fail
          refine (unhide h12 _).mono ?_
          rintro e w2 ⟨rfl, hb2⟩
          have HB2 := hide hb2
          clear hb2
          go_wp2_with fail
          refine (unhide h10 _).mono ?_
          rintro e w3 ⟨rfl, hb3⟩
          have HB3 := hide (below_two (unhide HB2) hb3)
          clear hb3
          go_wp2_with fail
          refine (unhide h34 _).mono ?_
          rintro e w4 ⟨rfl, rfl⟩
          go_wp2_with fail
          refine (unhide h35 _).mono ?_
          rintro e w5 ⟨rfl, hb5⟩
          have HB5 := hide (below_two (unhide HB3) hb5)
          clear hb5
          go_wp2_with fail
          go_ret
          exact ⟨retB (by rw [unhide HE, str_dec]), unhide HB5⟩
        · have HE := hide (fitB_plain he hs)
          rw [star_no hs, trim_no hs] at h34
          have q := str_beq he
          clear hP hH i3 hs he
          generalize h.extract (i + 1) h.size = X at *
          go_enter Try.func23, Try.ntmps23
          go_wp2_with fail
          refine (unhide h12 _).mono ?_
          rintro e w2 ⟨rfl, hb2⟩
          have HB2 := hide hb2
          clear hb2
          go_wp2_with fail
          refine (unhide h10 _).mono ?_
          rintro e w3 ⟨rfl, hb3⟩
          have HB3 := hide (below_two (unhide HB2) hb3)
          clear hb3
          go_wp2_with fail
          refine (unhide h34 _).mono ?_
          rintro e w4 ⟨rfl, rfl⟩
          go_wp2_with fail
          refine (unhide h35 _).mono ?_
          rintro e w5 ⟨rfl, hb5⟩
          have HB5 := hide (below_two (unhide HB3) hb5)
          clear hb5
          go_wp2_with fail
          go_ret
          exact ⟨retB (unhide HE), unhide HB5⟩

end Go.Proofs.Ytldbanflbjpfeaa
