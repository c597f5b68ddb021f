/- The walks of spec.May and impl.May. -/
import Derived.Test.YtldbanflbjpfeaaPl
import Derived.Test.YtldbanflbjpfeaaHm
namespace Go.Proofs.Ytldbanflbjpfeaa
open Go.RowKit Go.Deep

noncomputable def anyFit (l : List ByteArray) (h : ByteArray) : Bool := l.any (fun p => fitB p h)
noncomputable def mayB (m u now : Int) (l : List ByteArray) (h : ByteArray) : Bool := !holdB m u now || anyFit l h
theorem may_hit {m u now : Int} {l : List ByteArray} {h : ByteArray} {k : Nat} {t : ByteArray} (hk : l[k]? = some t) (hf : fitB t h = true) : mayB m u now l h = true := by
  simp only [mayB, anyFit, Bool.or_eq_true, List.any_eq_true]
  exact Or.inr ⟨t, List.mem_of_getElem? hk, hf⟩
theorem may_none {m u now : Int} {l : List ByteArray} {h : ByteArray} (hd : holdB m u now = true) (ha : ∀ j t, j < l.length → l[j]? = some t → fitB t h = false) : mayB m u now l h = false := by
  simp only [mayB, anyFit, hd, Bool.not_true, Bool.false_or, List.any_eq_false]
  intro t ht
  obtain ⟨j, hj, rfl⟩ := List.mem_iff_getElem.1 ht
  simp [ha j l[j] hj (List.getElem?_eq_getElem hj)]

set_option maxRecDepth 100000 in
set_option maxHeartbeats 1000000 in
theorem mayS (l : List ByteArray) (d : ByteArray) (m : Int) (a : Option Addr) (cap : Nat) (u : Int) (h : ByteArray) (now : Int) (w : World) (hl : Txt w 0 a l) (hsz : l.length ≤ 2097152) (ht : ∀ t ∈ l, t.size ≤ 2097152) (hh : h.size ≤ 2097152) :
    Calls Try.prog 11 #[.agg #[.string d, .int .i64 m, .slice a l.length cap, .int .i64 u], .string h, .int .i64 now] w fun e w' => e = .returned (.bool (mayB m u now l h)) ∧ Below w.heap.size w w' := by
  have HH := hide (fun v => holdS d m a l.length cap u now v)
  have HF := hide (fun t (hx : t ∈ l) v => fitS t h v (ht t hx) hh)
  have HT := hide hl
  have HX := hide (RowP.new 27 w d m a l.length cap u)
  have HB0 := hide (abP (w := w) (.cells #[.string d, .int .i64 m, .slice a l.length cap, .int .i64 u] 27))
  clear hl ht
  cases hd : holdB m u now with
  | false =>
    have HE : Hid (mayB m u now l h = true) := by show _ = _; simp [mayB, hd]
    rw [hd] at HH
    clear hd
    generalize hlen : l.length = len at *
    go_enter Try.func11, Try.ntmps11
    go_wp2_with fail
    refine (unhide HH _).mono ?_
    rintro e w2 ⟨rfl, hb2⟩
    have HB2 := hide (btP (unhide HB0) hb2)
    clear hb2
    go_wp2_with fail
    go_ret
    exact ⟨retB (unhide HE), unhide HB2⟩
  | true =>
    have HD := hide hd
    rw [hd] at HH
    clear hd
    generalize hlen : l.length = len at *
    have HL := hide hlen
    clear hlen
    go_enter Try.func11, Try.ntmps11
    go_wp2_with fail
    refine (unhide HH _).mono ?_
    rintro e w2 ⟨rfl, hb2⟩
    have HB2 := hide (btP (unhide HB0) hb2)
    have HX2 := hide ((unhide HX).below hb2)
    clear hb2 HX HH
    go_wp2_with fail
    go_loopw [7] (fun n wr => ∃ k : Nat, n = .int .i64 k ∧ Below w2.heap.size w2 wr ∧ k ≤ len ∧ ∀ j t, j < k → l[j]? = some t → fitB t h = false) (fun n _ => len - (intOf n).toNat)
    case atStart => exact ⟨0, rfl, Below.refl _ _, by omega, fun j t hj => by omega⟩
    case round =>
      obtain ⟨k, rfl, hb, hk, ha⟩ := hrel
      obtain ⟨x0, x1, x2, x3⟩ := ((unhide HX2).below hb).facts
      have HBr := hide hb
      have HA := hide ha
      clear ha
      by_cases hp : k < len
      · have hp' : k < l.length := by have := HL.out; omega
        obtain ⟨t, hkt⟩ : ∃ t, l[k]? = some t := ⟨_, List.getElem?_eq_getElem hp'⟩
        obtain ⟨b, o, rfl, -, d0⟩ := unhide HT k t hkt
        have c0 := below_some (btP (unhide HB2) hb) d0
        have c2 : (k : Int) < (len : Int) := by omega
        have c3 : (0 : Int) ≤ (k : Int) := by omega
        have w1 : wrap64 ((k : Int) + 1) = ((k + 1 : Nat) : Int) := by unfold wrap64; omega
        have hC := unhide HF t (List.mem_of_getElem? hkt)
        have HK := hide hkt
        clear hkt d0 hb
        cases hf : fitB t h with
        | false =>
          rw [hf] at hC
          have HM : Hid (∀ j t, j < k + 1 → l[j]? = some t → fitB t h = false) := fun j t' hj hjt => by
            rcases Nat.lt_or_ge j k with q | q
            · exact unhide HA j t' q hjt
            · obtain rfl : j = k := by omega
              rw [unhide HK] at hjt
              cases hjt
              exact hf
          have HC := hide hC
          clear hf hC
          go_wp2_with fail
          refine (unhide HC _).mono ?_
          rintro e w3 ⟨rfl, hb3⟩
          have HB3 := hide (btP (unhide HBr) hb3)
          clear hb3
          go_wp2_with fail
          go_roundw
          case rel => exact ⟨k + 1, rfl, unhide HB3, by omega, unhide HM⟩
          case measure => simp only [intOf]; omega
        | true =>
          rw [hf] at hC
          have HE : Hid (mayB m u now l h = true) := may_hit (unhide HK) hf
          have HC := hide hC
          clear hf hC
          go_wp2_with fail
          refine (unhide HC _).mono ?_
          rintro e w3 ⟨rfl, hb3⟩
          have HB3 := hide (btP (unhide HBr) hb3)
          clear hb3
          go_wp2_with fail
          go_ret
          exact ⟨retB (unhide HE), btP (unhide HB2) (unhide HB3)⟩
      · have c2 : ¬ (k : Int) < (len : Int) := by omega
        have HE : Hid (mayB m u now l h = false) := may_none (unhide HD) (fun j t hj => unhide HA j t (by have := HL.out; omega))
        clear hb
        go_wp2_with fail
        go_ret
        exact ⟨retB (unhide HE), btP (unhide HB2) (unhide HBr)⟩


set_option maxRecDepth 100000 in
/-- The function that holds a pattern against the host that was handed in. -/
theorem may1 (t h : ByteArray) (g : Nat) (w : World) (ht : t.size ≤ 2097152) (hh : h.size ≤ 2097152) (hg : w.cell? ⟨g, 0, none⟩ = some (.string h)) :
    Calls Try.prog 22 #[.string t, .pointer (some ⟨g, 0, none⟩)] w fun e w' => e = .returned (.bool (fitB t h)) ∧ Below w.heap.size w w' := by
  have HC := hide (fun v => fitI t h v ht hh)
  go_enter Try.func22, Try.ntmps22
  go_wp2_with fail
  refine (unhide HC _).mono ?_
  rintro e w2 ⟨rfl, hb2⟩
  have HB2 := hide hb2
  clear hb2
  go_wp2_with fail
  go_ret
  exact ⟨rfl, unhide HB2⟩

set_option maxRecDepth 100000 in
set_option maxHeartbeats 1000000 in
theorem idxFn (l : List ByteArray) (a : Option Addr) (cap : Nat) (h : ByteArray) (g : Nat) (w : World) (hl : Txt w 0 a l) (hsz : l.length ≤ 2097152) (ht : ∀ t ∈ l, t.size ≤ 2097152) (hh : h.size ≤ 2097152) (hg : w.cell? ⟨g, 0, none⟩ = some (.string h)) :
    Calls Try.prog 40 #[.slice a l.length cap, .func (.func 22) #[] #[.pointer (some ⟨g, 0, none⟩)]] w fun e w' => (∃ i : Int, e = .returned (.int .i64 i) ∧ ((0 ≤ i ∧ anyFit l h = true) ∨ (i < 0 ∧ anyFit l h = false))) ∧ Below w.heap.size w w' := by
  have HC := hide (fun t (hx : t ∈ l) v hv => may1 t h g v (ht t hx) hh hv)
  have HT := hide hl
  have HG := hide hg
  clear hl ht hg
  generalize hlen : l.length = len at *
  have HL := hide hlen
  clear hlen
  go_enter Try.func40, Try.ntmps40
  go_wp2_with fail
  go_loopw [8] (fun n wr => ∃ k : Nat, n = .int .i64 k ∧ Below w.heap.size w wr ∧ k ≤ len ∧ ∀ j t, j < k → l[j]? = some t → fitB t h = false) (fun n _ => len - (intOf n).toNat)
  case atStart => exact ⟨0, rfl, Below.refl _ _, by omega, fun j t hj => by omega⟩
  case round =>
    obtain ⟨k, rfl, hb, hk, ha⟩ := hrel
    have HBr := hide hb
    have HA := hide ha
    clear ha
    by_cases hp : k < len
    · have hp' : k < l.length := by have := HL.out; omega
      obtain ⟨t, hkt⟩ : ∃ t, l[k]? = some t := ⟨_, List.getElem?_eq_getElem hp'⟩
      obtain ⟨b, o, rfl, -, d0⟩ := unhide HT k t hkt
      have c0 := below_some hb d0
      have HG2 := hide (below_some hb (unhide HG))
      have c2 : (k : Int) < (len : Int) := by omega
      have c3 : (0 : Int) ≤ (k : Int) := by omega
      have w1 : wrap64 ((k : Int) + 1) = ((k + 1 : Nat) : Int) := by unfold wrap64; omega
      have hC := fun v hv => unhide HC t (List.mem_of_getElem? hkt) v hv
      have HK := hide hkt
      clear hkt d0 hb
      cases hf : fitB t h with
      | false =>
        rw [hf] at hC
        have HM : Hid (∀ j t, j < k + 1 → l[j]? = some t → fitB t h = false) := fun j t' hj hjt => by
          rcases Nat.lt_or_ge j k with q | q
          · exact unhide HA j t' q hjt
          · obtain rfl : j = k := by omega
            rw [unhide HK] at hjt
            cases hjt
            exact hf
        have HC2 := hide hC
        clear hf hC
        go_wp2_with fail
        refine (unhide HC2 _ (unhide HG2)).mono ?_
        rintro e w3 ⟨rfl, hb3⟩
        have HB3 := hide (btP (unhide HBr) hb3)
        clear hb3
        go_wp2_with fail
        go_roundw
        case rel => exact ⟨k + 1, rfl, unhide HB3, by omega, unhide HM⟩
        case measure => simp only [intOf]; omega
      | true =>
        rw [hf] at hC
        have HE : Hid (anyFit l h = true) := List.any_eq_true.2 ⟨t, List.mem_of_getElem? (unhide HK), hf⟩
        have HC2 := hide hC
        clear hf hC
        go_wp2_with fail
        refine (unhide HC2 _ (unhide HG2)).mono ?_
        rintro e w3 ⟨rfl, hb3⟩
        have HB3 := hide (btP (unhide HBr) hb3)
        clear hb3
        go_wp2_with fail
        go_ret
        exact ⟨⟨_, rfl, Or.inl ⟨c3, unhide HE⟩⟩, unhide HB3⟩
    · have c2 : ¬ (k : Int) < (len : Int) := by omega
      have HE : Hid (anyFit l h = false) := by
        show List.any _ _ = _
        rw [List.any_eq_false]
        intro t ht
        obtain ⟨j, hj, rfl⟩ := List.mem_iff_getElem.1 ht
        simp [unhide HA j l[j] (by have := HL.out; omega) (List.getElem?_eq_getElem hj)]
      clear hb
      go_wp2_with fail
      go_ret
      exact ⟨⟨_, rfl, Or.inr ⟨by omega, unhide HE⟩⟩, unhide HBr⟩

set_option maxRecDepth 100000 in
set_option maxHeartbeats 1000000 in
theorem conFn (l : List ByteArray) (a : Option Addr) (cap : Nat) (h : ByteArray) (g : Nat) (w : World) (hl : Txt w 0 a l) (hsz : l.length ≤ 2097152) (ht : ∀ t ∈ l, t.size ≤ 2097152) (hh : h.size ≤ 2097152) (hg : w.cell? ⟨g, 0, none⟩ = some (.string h)) :
    Calls Try.prog 24 #[.slice a l.length cap, .func (.func 22) #[] #[.pointer (some ⟨g, 0, none⟩)]] w fun e w' => e = .returned (.bool (anyFit l h)) ∧ Below w.heap.size w w' := by
  have HC := hide (idxFn l a cap h g w hl hsz ht hh hg)
  clear hl ht hg
  generalize hlen : l.length = len at *
  generalize anyFit l h = D at *
  go_enter Try.func24, Try.ntmps24
  go_wp2_with fail
  refine (unhide HC).mono ?_
  rintro e w2 ⟨⟨i, rfl, hi⟩, hb2⟩
  have HB2 := hide hb2
  clear hb2
  rcases hi with ⟨q, HE⟩ | ⟨q, HE⟩
  · have q2 : ¬ i < 0 := by omega
    subst HE
    go_wp2_with fail
    go_ret
    exact ⟨retB (by simp), unhide HB2⟩
  · subst HE
    go_wp2_with fail
    go_ret
    exact ⟨retB (by simp; omega), unhide HB2⟩

set_option maxRecDepth 100000 in
set_option maxHeartbeats 1000000 in
theorem mayI (l : List ByteArray) (d : ByteArray) (m : Int) (a : Option Addr) (cap : Nat) (u : Int) (h : ByteArray) (now : Int) (w : World) (hl : Txt w 0 a l) (hsz : l.length ≤ 2097152) (ht : ∀ t ∈ l, t.size ≤ 2097152) (hh : h.size ≤ 2097152) :
    Calls Try.prog 12 #[.agg #[.string d, .int .i64 m, .slice a l.length cap, .int .i64 u], .string h, .int .i64 now] w fun e w' => e = .returned (.bool (mayB m u now l h)) ∧ Below w.heap.size w w' := by
  have HH := hide (fun v => holdI d m a l.length cap u now v)
  have HF := hide (fun g v hv hg => conFn l a cap h g v hv hsz ht hh hg)
  have hb0 : Below w.heap.size w ((w.alloc (.cells #[.string d, .int .i64 m, .slice a l.length cap, .int .i64 u] 27)).alloc (.cells #[.string h] 9)) := btP (abP _) (abP _)
  have HX := hide ((RowP.new 27 w d m a l.length cap u).below (abP (.cells #[.string h] 9)))
  have HG : Hid (((w.alloc (.cells #[.string d, .int .i64 m, .slice a l.length cap, .int .i64 u] 27)).alloc (.cells #[.string h] 9)).cell? ⟨w.heap.size + 1, 0, none⟩ = some (.string h)) := by
    have := box_cell (w.alloc (.cells #[.string d, .int .i64 m, .slice a l.length cap, .int .i64 u] 27)) #[.string h] 9 0 _ rfl
    rwa [heap_size_alloc] at this
  have HT := hide (hl.on hb0)
  have HB0 := hide hb0
  clear hl ht hb0
  cases hd : holdB m u now with
  | false =>
    have HE : Hid (mayB m u now l h = true) := by show _ = _; simp [mayB, hd]
    rw [hd] at HH
    clear hd
    generalize hlen : l.length = len at *
    go_enter Try.func12, Try.ntmps12
    go_wp2_with fail
    refine (unhide HH _).mono ?_
    rintro e w2 ⟨rfl, hb2⟩
    have HB2 := hide (btP (unhide HB0) hb2)
    clear hb2
    go_wp2_with fail
    go_ret
    exact ⟨retB (unhide HE), unhide HB2⟩
  | true =>
    have HE : Hid (anyFit l h = mayB m u now l h) := by show _ = _; simp [mayB, hd]
    rw [hd] at HH
    clear hd
    generalize hlen : l.length = len at *
    generalize anyFit l h = D at *
    go_enter Try.func12, Try.ntmps12
    go_wp2_with fail
    refine (unhide HH _).mono ?_
    rintro e w2 ⟨rfl, hb2⟩
    have HB2 := hide (btP (unhide HB0) hb2)
    have HT2 := hide ((unhide HT).on hb2)
    have HG2 := hide (below_some hb2 (unhide HG))
    obtain ⟨x0, x1, x2, x3⟩ := ((unhide HX).below hb2).facts
    clear hb2 HH
    go_wp2_with fail
    refine (unhide HF _ _ (unhide HT2) (unhide HG2)).mono ?_
    rintro e w3 ⟨rfl, hb3⟩
    have HB3 := hide (btP (unhide HB2) hb3)
    clear hb3
    go_wp2_with fail
    go_ret
    exact ⟨retB (unhide HE).symm, unhide HB3⟩

end Go.Proofs.Ytldbanflbjpfeaa
