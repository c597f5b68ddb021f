
/- Right policies, and the walks of spec.PolicyOk and impl.PolicyOk: whether a policy is right; nothing that was there is written. -/
import Derived.Test.YtadfpheebpcjoaaDoorPk
namespace Go.Proofs.YtadfpheebpcjoaaDoor
open Go.RowKit Go.Deep

/-- A right policy. -/
noncomputable def polB (l : List ByteArray) (d : ByteArray) (m u : Int) : Bool := domB d && (decide (0 ≤ m ∧ m ≤ 2) && (mxB l m && decide (0 ≤ u ∧ u ≤ 100000)))

set_option maxRecDepth 100000 in
set_option maxHeartbeats 2000000 in
theorem polI (l : List ByteArray) (d : ByteArray) (m : Int) (a : Option Addr) (cap : Nat) (u : Int) (w : World) (hl : Txt w 0 a l) (hm : l.length ≤ 2097152) (ht : ∀ t ∈ l, t.size ≤ 2097152) (hd : d.size ≤ 2097152) :
    Calls Tryd.prog 14 #[.agg #[.string d, .int .i64 m, .slice a l.length cap, .int .i64 u]] w fun e w' => e = .returned (.bool (polB l d m u)) ∧ Below w.heap.size w w' := by
  have hb0 := abP (w := w) (.cells #[.string d, .int .i64 m, .slice a l.length cap, .int .i64 u] 27)
  have HB0 := hide hb0
  have HL := hide (hl.on hb0)
  have HX := hide (RowP.new 27 w d m a l.length cap u)
  have h30 := hide (fun v => modeI m v)
  have h31 := hide (fun v => domI d v hd)
  have h32 := hide (fun v hv => mxI l a cap m v hv hm ht)
  have h33 := hide (fun v => inTime u v)
  clear hl hb0 hm ht hd
  cases hD : domB d with
  | false =>
    have HE : Hid (polB l d m u = false) := by show _ = _; simp [polB, hD]
    rw [hD] at h31
    clear hD
    generalize decide (0 ≤ m ∧ m ≤ 2) = K at *
    generalize mdWord m = MW at *
    generalize l.length = len at *
    go_enter Tryd.func14, Tryd.ntmps14
    go_wp2_with fail
    refine (unhide h30 _).mono ?_
    rintro e w1 ⟨rfl, rfl⟩
    go_wp2_with fail
    refine (unhide h31 _).mono ?_
    rintro e w2 ⟨rfl, hb2⟩
    have HB2 := hide (btP (unhide HB0) hb2)
    obtain ⟨c0, c1, c2, c3⟩ := ((unhide HX).below hb2).facts
    clear hb2
    go_wp2_with fail
    go_ret
    exact ⟨retB (unhide HE), unhide HB2⟩
  | true =>
    rw [hD] at h31
    by_cases hM : 0 ≤ m ∧ m ≤ 2
    · rw [show decide (0 ≤ m ∧ m ≤ 2) = true from decide_eq_true hM] at h30
      cases hX : mxB l m with
      | false =>
        have HE : Hid (polB l d m u = false) := by show _ = _; simp [polB, hX]
        rw [hX] at h32
        clear hD hM hX
        generalize mdWord m = MW at *
        generalize l.length = len at *
        go_enter Tryd.func14, Tryd.ntmps14
        go_wp2_with fail
        refine (unhide h30 _).mono ?_
        rintro e w1 ⟨rfl, rfl⟩
        go_wp2_with fail
        refine (unhide h31 _).mono ?_
        rintro e w2 ⟨rfl, hb2⟩
        have HB2 := hide (btP (unhide HB0) hb2)
        have HX2 := hide ((unhide HX).below hb2)
        have HL2 := hide ((unhide HL).on hb2)
        obtain ⟨c0, c1, c2, c3⟩ := (unhide HX2).facts
        clear hb2
        go_wp2_with fail
        refine (unhide h32 _ (unhide HL2)).mono ?_
        rintro e w3 ⟨rfl, hb3⟩
        have HB3 := hide (btP (unhide HB2) hb3)
        clear c0 c1 c2 c3
        obtain ⟨c0, c1, c2, c3⟩ := ((unhide HX2).below hb3).facts
        clear hb3
        go_wp2_with fail
        go_ret
        exact ⟨retB (unhide HE), unhide HB3⟩
      | true =>
        have HE : Hid (polB l d m u = decide (0 ≤ u ∧ u ≤ 100000)) := by show _ = _; simp [polB, hX, hD, hM]
        rw [hX] at h32
        clear hD hM hX
        generalize decide (0 ≤ u ∧ u ≤ 100000) = U at *
        generalize mdWord m = MW at *
        generalize l.length = len at *
        go_enter Tryd.func14, Tryd.ntmps14
        go_wp2_with fail
        refine (unhide h30 _).mono ?_
        rintro e w1 ⟨rfl, rfl⟩
        go_wp2_with fail
        refine (unhide h31 _).mono ?_
        rintro e w2 ⟨rfl, hb2⟩
        have HB2 := hide (btP (unhide HB0) hb2)
        have HX2 := hide ((unhide HX).below hb2)
        have HL2 := hide ((unhide HL).on hb2)
        obtain ⟨c0, c1, c2, c3⟩ := (unhide HX2).facts
        clear hb2
        go_wp2_with fail
        refine (unhide h32 _ (unhide HL2)).mono ?_
        rintro e w3 ⟨rfl, hb3⟩
        have HB3 := hide (btP (unhide HB2) hb3)
        clear c0 c1 c2 c3
        obtain ⟨c0, c1, c2, c3⟩ := ((unhide HX2).below hb3).facts
        clear hb3
        go_wp2_with fail
        refine (unhide h33 _).mono ?_
        rintro e w4 ⟨rfl, rfl⟩
        go_wp2_with fail
        go_ret
        exact ⟨retB (unhide HE), unhide HB3⟩
    · have HE : Hid (polB l d m u = false) := by
        show _ = _
        rw [polB, show decide (0 ≤ m ∧ m ≤ 2) = false from decide_eq_false hM]
        simp
      rw [show decide (0 ≤ m ∧ m ≤ 2) = false from decide_eq_false hM] at h30
      clear hD hM
      generalize mdWord m = MW at *
      generalize l.length = len at *
      go_enter Tryd.func14, Tryd.ntmps14
      go_wp2_with fail
      refine (unhide h30 _).mono ?_
      rintro e w1 ⟨rfl, rfl⟩
      go_wp2_with fail
      refine (unhide h31 _).mono ?_
      rintro e w2 ⟨rfl, hb2⟩
      have HB2 := hide (btP (unhide HB0) hb2)
      obtain ⟨c0, c1, c2, c3⟩ := ((unhide HX).below hb2).facts
      clear hb2
      go_wp2_with fail
      go_ret
      exact ⟨retB (unhide HE), unhide HB2⟩

set_option maxRecDepth 100000 in
set_option maxHeartbeats 2000000 in
theorem polS (l : List ByteArray) (d : ByteArray) (m : Int) (a : Option Addr) (cap : Nat) (u : Int) (w : World) (hl : Txt w 0 a l) (hm : l.length ≤ 2097152) (ht : ∀ t ∈ l, t.size ≤ 2097152) (hd : d.size ≤ 2097152) :
    Calls Tryd.prog 10 #[.agg #[.string d, .int .i64 m, .slice a l.length cap, .int .i64 u]] w fun e w' => e = .returned (.bool (polB l d m u)) ∧ Below w.heap.size w w' := by
  have hb0 := abP (w := w) (.cells #[.string d, .int .i64 m, .slice a l.length cap, .int .i64 u] 27)
  have HB0 := hide hb0
  have HL := hide (hl.on hb0)
  have HX := hide (RowP.new 27 w d m a l.length cap u)
  have HP := hide (fun t (h : t ∈ l) v => patS t v (ht t h))
  have h27 := hide (fun v => domS d v hd)
  have h28 := hide (fun v => inS m 0 2 v)
  have h28' := hide (fun v => inS u 0 100000 v)
  clear hl ht hd
  go_enter Tryd.func10, Tryd.ntmps10
  go_wp2_with fail
  generalize hW0 : w.alloc (.cells #[.string d, .int .i64 m, .slice a l.length cap, .int .i64 u] 27) = W0 at *
  clear hW0
  go_loopw [3] (fun x w' => ∃ k : Nat, x = .int .i64 k ∧ Below W0.heap.size W0 w' ∧ k ≤ l.length ∧ ∀ j t, j < k → l[j]? = some t → patP t) (fun x _ => l.length - (intOf x).toNat)
  case atStart => exact ⟨0, rfl, Below.refl _ _, by omega, fun j t hj => by omega⟩
  case round =>
    obtain ⟨k, rfl, hbq, hk, hall⟩ := hrel
    have HBQ := hide hbq
    have HBT := hide (btP (unhide HB0) hbq)
    obtain ⟨c0, c1, c2, c3⟩ := ((unhide HX).below hbq).facts
    by_cases hp : k < l.length
    · obtain ⟨t, hkt⟩ : ∃ t, l[k]? = some t := ⟨_, List.getElem?_eq_getElem hp⟩
      obtain ⟨b, o, rfl, -, d0⟩ := ((unhide HL).on hbq) k t hkt
      have hmem : t ∈ l := List.mem_of_getElem? hkt
      have hc := hide (fun v => unhide HP t hmem v)
      have q1 : (k : Int) < (l.length : Int) := by omega
      have q3 : (0 : Int) ≤ (k : Int) := by omega
      have w1 : wrap64 ((k : Int) + 1) = ((k + 1 : Nat) : Int) := by unfold wrap64; omega
      clear hbq
      cases hB : patB t with
      | true =>
        have HM : Hid (∀ j x, j < k + 1 → l[j]? = some x → patP x) := fun j x hj hx => by
          rcases Nat.lt_or_ge j k with h | h
          · exact hall j x h hx
          · obtain rfl : j = k := by omega
            rw [hkt] at hx
            cases hx
            exact patB_iff.1 hB
        rw [hB] at hc
        clear hkt hmem hall hB
        generalize hL : l.length = L at *
        go_wp2_with fail
        refine (unhide hc _).mono ?_
        rintro e w2 ⟨rfl, hb2⟩
        have HB2 := hide (btP (unhide HBQ) hb2)
        clear hb2
        go_wp2_with fail
        go_roundw
        case rel => exact ⟨k + 1, rfl, unhide HB2, by omega, unhide HM⟩
        case measure => simp only [intOf]; omega
      | false =>
        have HE : Hid (polB l d m u = false) := by
          show _ = _
          rw [polB, mxB_no (l := l) (m := m) fun hh => by have := patB_yes (hh.2 t hmem); rw [hB] at this; cases this]
          simp
        rw [hB] at hc
        clear hkt hmem hall hB
        generalize hL : l.length = L at *
        go_wp2_with fail
        refine (unhide hc _).mono ?_
        rintro e w2 ⟨rfl, hb2⟩
        have HB2 := hide (btP (unhide HBT) hb2)
        clear hb2
        go_wp2_with fail
        go_ret
        exact ⟨retB (unhide HE), unhide HB2⟩
    · have q1 : ¬ (k : Int) < (l.length : Int) := by omega
      have hAll : ∀ t ∈ l, patP t := fun t hm => by
        obtain ⟨j, hj, e⟩ := List.getElem_of_mem hm
        exact hall j t (by omega) (by rw [List.getElem?_eq_getElem hj, e])
      clear hall hbq
      cases hD : domB d with
      | false =>
        have HE : Hid (polB l d m u = false) := by show _ = _; simp [polB, hD]
        rw [hD] at h27
        clear hD hAll
        generalize hL : l.length = L at *
        go_wp2_with fail
        refine (unhide h27 _).mono ?_
        rintro e w2 ⟨rfl, rfl⟩
        go_wp2_with fail
        go_ret
        exact ⟨retB (unhide HE), unhide HBT⟩
      | true =>
        rw [hD] at h27
        by_cases hM : 0 ≤ m ∧ m ≤ 2
        · rw [show decide (0 ≤ m ∧ m ≤ 2) = true from decide_eq_true hM] at h28
          by_cases h5 : l.length ≤ 5
          · have q5 : (l.length : Int) ≤ 5 := by omega
            by_cases hmz : m = 0
            · have qm : (m == 0) = true := by simpa using hmz
              have HE : Hid (polB l d m u = decide (0 ≤ u ∧ u ≤ 100000)) := by show _ = _; simp [polB, hD, hM, mxB_yes (l := l) (m := m) ⟨⟨h5, Or.inl hmz⟩, hAll⟩]
              clear hD hM hAll hmz h5
              generalize decide (0 ≤ u ∧ u ≤ 100000) = U at *
              generalize hL : l.length = L at *
              go_wp2_with fail
              refine (unhide h27 _).mono ?_
              rintro e w2 ⟨rfl, rfl⟩
              go_wp2_with fail
              refine (unhide h28 _).mono ?_
              rintro e w2 ⟨rfl, rfl⟩
              go_wp2_with fail
              refine (unhide h28' _).mono ?_
              rintro e w2 ⟨rfl, rfl⟩
              go_wp2_with fail
              go_ret
              exact ⟨retB (unhide HE), unhide HBT⟩
            · have qm : (m == 0) = false := by simpa using hmz
              by_cases hz : 0 < l.length
              · have qz : (0 : Int) < (l.length : Int) := by omega
                have HE : Hid (polB l d m u = decide (0 ≤ u ∧ u ≤ 100000)) := by show _ = _; simp [polB, hD, hM, mxB_yes (l := l) (m := m) ⟨⟨h5, Or.inr hz⟩, hAll⟩]
                clear hD hM hAll hmz hz h5
                generalize decide (0 ≤ u ∧ u ≤ 100000) = U at *
                generalize hL : l.length = L at *
                go_wp2_with fail
                refine (unhide h27 _).mono ?_
                rintro e w2 ⟨rfl, rfl⟩
                go_wp2_with fail
                refine (unhide h28 _).mono ?_
                rintro e w2 ⟨rfl, rfl⟩
                go_wp2_with fail
                refine (unhide h28' _).mono ?_
                rintro e w2 ⟨rfl, rfl⟩
                go_wp2_with fail
                go_ret
                exact ⟨retB (unhide HE), unhide HBT⟩
              · have qz : ¬ (0 : Int) < (l.length : Int) := by omega
                have HE : Hid (polB l d m u = false) := by show _ = _; rw [polB, mxB_no (l := l) (m := m) fun hh => hh.1.2.elim hmz hz]; simp
                clear hD hM hAll hmz hz h5
                generalize hL : l.length = L at *
                go_wp2_with fail
                refine (unhide h27 _).mono ?_
                rintro e w2 ⟨rfl, rfl⟩
                go_wp2_with fail
                refine (unhide h28 _).mono ?_
                rintro e w2 ⟨rfl, rfl⟩
                go_wp2_with fail
                go_ret
                exact ⟨retB (unhide HE), unhide HBT⟩
          · have q5 : ¬ (l.length : Int) ≤ 5 := by omega
            have HE : Hid (polB l d m u = false) := by show _ = _; rw [polB, mxB_no (l := l) (m := m) fun hh => h5 hh.1.1]; simp
            clear hD hM hAll h5
            generalize hL : l.length = L at *
            go_wp2_with fail
            refine (unhide h27 _).mono ?_
            rintro e w2 ⟨rfl, rfl⟩
            go_wp2_with fail
            refine (unhide h28 _).mono ?_
            rintro e w2 ⟨rfl, rfl⟩
            go_wp2_with fail
            go_ret
            exact ⟨retB (unhide HE), unhide HBT⟩
        · have HE : Hid (polB l d m u = false) := by
            show _ = _
            rw [polB, show decide (0 ≤ m ∧ m ≤ 2) = false from decide_eq_false hM]
            simp
          rw [show decide (0 ≤ m ∧ m ≤ 2) = false from decide_eq_false hM] at h28
          clear hD hM hAll
          generalize hL : l.length = L at *
          go_wp2_with fail
          refine (unhide h27 _).mono ?_
          rintro e w2 ⟨rfl, rfl⟩
          go_wp2_with fail
          refine (unhide h28 _).mono ?_
          rintro e w2 ⟨rfl, rfl⟩
          go_wp2_with fail
          go_ret
          exact ⟨retB (unhide HE), unhide HBT⟩

end Go.Proofs.YtadfpheebpcjoaaDoor
