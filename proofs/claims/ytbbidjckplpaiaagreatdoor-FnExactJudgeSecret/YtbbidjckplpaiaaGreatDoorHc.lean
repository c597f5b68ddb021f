
/- The walks of spec.l5Labels and spec.HostOk: whether a text is a host; nothing that was there is written. -/
import Derived.Test.YtbbidjckplpaiaaGreatDoorHb
namespace Go.Proofs.YtbbidjckplpaiaaGreatDoor
open Go.RowKit Go.Deep

theorem labs_ne (s : ByteArray) : ∀ f st, labs s f st ≠ []
  | 0, st => by simp [labs]
  | f + 1, st => by
    unfold labs
    split
    · simp
    · exact labs_ne s f st
/-- A row of texts that is not empty: where it lies, and what each place holds. -/
theorem Txs.open {w wr : World} {l : List ByteArray} {v : Value} (h : Txs w l v wr) (hne : l ≠ []) : ∃ g c, v = .slice (some ⟨g, 0, none⟩) l.length c ∧ ∀ k t, l[k]? = some t → wr.cell? ⟨g, k, none⟩ = some (.string t) := by
  rcases h.2 with ⟨h1, h2⟩ | ⟨g, cap, cur, h1, h2, h3, h4, h5, h6, h7⟩
  · exact absurd (List.length_eq_zero_iff.1 h2) hne
  · refine ⟨g, cap, h1, fun k t hk => ?_⟩
    have hk' : k < l.length := (List.getElem?_eq_some_iff.1 hk).1
    have hkc : k < cur.size := by omega
    have e : (cur.toList.take (l.length * 1))[k]? = some (.string t) := by rw [h7]; simp [hk]
    rw [List.getElem?_take, if_pos (by omega), Array.getElem?_toList, Array.getElem?_eq_getElem hkc] at e
    rw [cell_of_row h3 hkc, e]

set_option maxRecDepth 100000 in
set_option maxHeartbeats 1000000 in
theorem labels18 (n : Nat) (s : ByteArray) (w : World) (hs : s.size ≤ 2097152) :
    Calls Tryz.prog 107 #[.string s, .int .i64 n] w fun e w' => e = .returned (.bool (lsB n s)) ∧ Below w.heap.size w w' := by
  have h27 := hide (fun v => labels27 s v hs)
  have h28 := hide (fun (l : ByteArray) v (h : l.size ≤ s.size) => label28 l v (by omega))
  have hlz : ∀ l ∈ labsOf s, l.size ≤ s.size := labs_size _ _
  have hll : (labsOf s).length ≤ s.size + 1 := labs_length _ _ _
  go_enter Tryz.func107, Tryz.ntmps107
  go_wp2_with fail
  refine (unhide h27 _).mono ?_
  rintro e wr ⟨v, rfl, htx, hbw⟩
  obtain ⟨g, c, rfl, hcell⟩ := htx.open (labs_ne _ _ _)
  have HC := hide hcell
  have HBW := hide hbw
  have HLZ := hide hlz
  have HH : Hid (∀ k, ¬ k < (labsOf s).length → (∀ j l, j < k → (labsOf s)[j]? = some l → labP l) → ∀ l ∈ labsOf s, labP l) := fun k hk h l hm => by
    obtain ⟨j, hj, e⟩ := List.getElem_of_mem hm
    exact h j l (by omega) (by rw [List.getElem?_eq_getElem hj, e])
  clear htx hcell hbw hlz
  go_wp2_with fail
  go_loopw [6] (fun n w' => ∃ k : Nat, n = .int .i64 k ∧ w' = wr ∧ k ≤ (labsOf s).length ∧ ∀ j l, j < k → (labsOf s)[j]? = some l → labP l) (fun n _ => (labsOf s).length - (intOf n).toNat)
  case atStart => exact ⟨0, rfl, rfl, by omega, fun j l hj => by omega⟩
  case round =>
    obtain ⟨k, rfl, rfl, hk, hall⟩ := hrel
    by_cases hp : k < (labsOf s).length
    · obtain ⟨l, hl⟩ : ∃ l, (labsOf s)[k]? = some l := ⟨_, List.getElem?_eq_getElem hp⟩
      have hm : l ∈ labsOf s := List.mem_of_getElem? hl
      have c0 := unhide HC k l hl
      have hc := hide (fun v => unhide h28 l v (unhide HLZ l hm))
      have c1 : (k : Int) < ((labsOf s).length : Int) := by omega
      have w1 : wrap64 ((k : Int) + 1) = ((k + 1 : Nat) : Int) := by unfold wrap64; omega
      by_cases hb : labP l
      · rw [labB_yes hb] at hc
        have HM : Hid (∀ j l, j < k + 1 → (labsOf s)[j]? = some l → labP l) := fun j l' hj hl' => by
          rcases Nat.lt_or_ge j k with h | h
          · exact hall j l' h hl'
          · obtain rfl : j = k := by omega
            rw [hl] at hl'
            cases hl'
            exact hb
        clear hl hm hall hb
        generalize hL : (labsOf s).length = L at *
        go_wp2_with fail
        refine (unhide hc _).mono ?_
        rintro e w2 ⟨rfl, rfl⟩
        go_wp2_with fail
        go_roundw
        case rel => exact ⟨k + 1, rfl, by simp, by omega, unhide HM⟩
        case measure => simp only [intOf]; omega
      · rw [labB_no hb] at hc
        have HN := hide (lsB_no (n := n) (s := s) fun hh => hb (hh.2.2 l hm))
        clear hl hm hall hb
        generalize hL : (labsOf s).length = L at *
        go_wp2_with fail
        refine (unhide hc _).mono ?_
        rintro e w2 ⟨rfl, rfl⟩
        go_wp2_with fail
        go_ret
        exact ⟨retB (unhide HN), unhide HBW⟩
    · have c1 : ¬ (k : Int) < ((labsOf s).length : Int) := by omega
      have HA := hide (unhide HH k hp hall)
      have HE : Hid (lsB n s = (decide ((n : Int) ≤ ((labsOf s).length : Int)) && decide ((s.size : Int) ≤ 60))) := by
        show _ = _
        by_cases h1 : n ≤ (labsOf s).length
        · by_cases h2 : s.size ≤ 60
          · rw [lsB_yes ⟨h2, h1, unhide HA⟩]; symm; simp; omega
          · rw [lsB_no fun hh => h2 hh.1]; symm; simp; intro _; omega
        · rw [lsB_no fun hh => h1 hh.2.1]; symm; simp; omega
      clear hall
      generalize hL : (labsOf s).length = L at *
      by_cases h1 : (n : Int) ≤ (L : Int)
      · by_cases h2 : (s.size : Int) ≤ 60
        · have HF : Hid (lsB n s = true) := by show _ = _; rw [unhide HE]; simp [h1, h2]
          go_wp2_with fail
          go_ret
          exact ⟨retB (unhide HF), unhide HBW⟩
        · have HF : Hid (lsB n s = false) := by show _ = _; rw [unhide HE]; simp [h2]
          go_wp2_with fail
          go_ret
          exact ⟨retB (unhide HF), unhide HBW⟩
      · have HF : Hid (lsB n s = false) := by show _ = _; rw [unhide HE]; simp [h1]
        go_wp2_with fail
        go_ret
        exact ⟨retB (unhide HF), unhide HBW⟩

set_option maxRecDepth 100000 in
theorem hostS (s : ByteArray) (w : World) (hs : s.size ≤ 2097152) :
    Calls Tryz.prog 74 #[.string s] w fun e w' => e = .returned (.bool (hostB s)) ∧ Below w.heap.size w w' := by
  have h18 := hide (fun v => labels18 2 s v hs)
  go_enter Tryz.func74, Tryz.ntmps74
  go_wp2_with fail
  refine (unhide h18 _).mono ?_
  rintro e w2 ⟨rfl, hb2⟩
  go_wp2_with fail
  go_ret
  exact ⟨rfl, hb2⟩

end Go.Proofs.YtbbidjckplpaiaaGreatDoor
