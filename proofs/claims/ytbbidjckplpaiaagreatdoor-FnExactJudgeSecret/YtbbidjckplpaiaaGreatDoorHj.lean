
/- The walks of impl.labelsOk and impl.HostOk: whether a text is labels, so many at least; nothing that was there is written. -/
import Derived.Test.YtbbidjckplpaiaaGreatDoorHi
namespace Go.Proofs.YtbbidjckplpaiaaGreatDoor
open Go.RowKit Go.Deep

theorem below_some {w w' : World} (h : Below w.heap.size w w') {b o : Nat} {v : Value} (hc : w.cell? ⟨b, o, none⟩ = some v) : w'.cell? ⟨b, o, none⟩ = some v := by
  rw [h.cell (p := ⟨b, o, none⟩) ?_, hc]
  refine Classical.byContradiction fun hn => ?_
  have : w.heap[b]? = none := Array.getElem?_eq_none_iff.2 (by simpa using hn)
  simp [World.cell?, this] at hc

set_option maxRecDepth 100000 in
set_option maxHeartbeats 1000000 in
theorem labelsOkI (n : Nat) (s : ByteArray) (w : World) (hs : s.size ≤ 2097152) :
    Calls Tryz.prog 133 #[.string s, .int .i64 n] w fun e w' => e = .returned (.bool (lsB n s)) ∧ Below w.heap.size w w' := by
  by_cases h60 : s.size ≤ 60
  · have h16 := hide (fun v => labelsI s v hs)
    have h49 := hide (fun (l : ByteArray) v (h : l.size ≤ s.size) => labelOk_calls l v (by omega))
    have hlz : ∀ l ∈ labsOf s, l.size ≤ s.size := labs_size _ _
    have hll : (labsOf s).length ≤ s.size + 1 := labs_length _ _ _
    have c60 : ¬ (60 : Int) < (s.size : Int) := by omega
    go_enter Tryz.func133, Tryz.ntmps133
    go_wp2_with fail
    refine (unhide h16 _).mono ?_
    rintro e wo ⟨v, rfl, htx, hbw⟩
    obtain ⟨g, c, rfl, hcell⟩ := htx.open (labs_ne _ _ _)
    have HC := hide hcell
    have HBW := hide hbw
    have HLZ := hide hlz
    have HH : Hid (∀ k, ¬ k < (labsOf s).length → (∀ j l, j < k → (labsOf s)[j]? = some l → labP l) → ∀ l ∈ labsOf s, labP l) := fun k hk h l hm => by
      obtain ⟨j, hj, e⟩ := List.getElem_of_mem hm
      exact h j l (by omega) (by rw [List.getElem?_eq_getElem hj, e])
    clear htx hcell hbw hlz
    go_wp2_with fail
    go_loopw [15] (fun x w' => ∃ k : Nat, x = .int .i64 k ∧ Below wo.heap.size wo w' ∧ k ≤ (labsOf s).length ∧ ∀ j l, j < k → (labsOf s)[j]? = some l → labP l) (fun x _ => (labsOf s).length - (intOf x).toNat)
    case atStart => exact ⟨0, rfl, Below.refl _ _, by omega, fun j l hj => by omega⟩
    case round =>
      obtain ⟨k, rfl, hbq, hk, hall⟩ := hrel
      have HBQ := hide hbq
      have HBT := hide ((unhide HBW).trans (hbq.mono (unhide HBW).size))
      clear hbq
      by_cases hp : k < (labsOf s).length
      · obtain ⟨l, hl⟩ : ∃ l, (labsOf s)[k]? = some l := ⟨_, List.getElem?_eq_getElem hp⟩
        have hm : l ∈ labsOf s := List.mem_of_getElem? hl
        have c0 := below_some (unhide HBQ) (unhide HC k l hl)
        have hc := hide (fun v => unhide h49 l v (unhide HLZ l hm))
        have c1 : (k : Int) < ((labsOf s).length : Int) := by omega
        have w1 : wrap64 ((k : Int) + 1) = ((k + 1 : Nat) : Int) := by unfold wrap64; omega
        by_cases hb : labP l
        · rw [labB_yes hb] at hc
          have HM : Hid (∀ j l, j < k + 1 → (labsOf s)[j]? = some l → labP l) := fun j l' hj hl' => by
            rcases Nat.lt_or_ge j k with h | h
            · exact hall j l' h hl'
            · obtain rfl : j = k := by omega
              rw [hl] at hl'
              cases hl'
              exact hb
          clear hl hm hall hb
          generalize hL : (labsOf s).length = L at *
          go_wp2_with fail
          refine (unhide hc _).mono ?_
          rintro e w2 ⟨rfl, hb2⟩
          have HB2 := hide ((unhide HBQ).trans (hb2.mono (unhide HBQ).size))
          clear hb2 c0
          go_wp2_with fail
          go_roundw
          case rel => exact ⟨k + 1, rfl, unhide HB2, by omega, unhide HM⟩
          case measure => simp only [intOf]; omega
        · rw [labB_no hb] at hc
          have HN := hide (lsB_no (n := n) (s := s) fun hh => hb (hh.2.2 l hm))
          clear hl hm hall hb
          generalize hL : (labsOf s).length = L at *
          go_wp2_with fail
          refine (unhide hc _).mono ?_
          rintro e w2 ⟨rfl, hb2⟩
          have HB2 := hide ((unhide HBT).trans (hb2.mono (unhide HBT).size))
          clear hb2 c0
          go_wp2_with fail
          go_ret
          exact ⟨retB (unhide HN), unhide HB2⟩
      · have c1 : ¬ (k : Int) < ((labsOf s).length : Int) := by omega
        have HE : Hid (lsB n s = decide (n ≤ (labsOf s).length)) := by
          show _ = _
          by_cases h1 : n ≤ (labsOf s).length
          · rw [lsB_yes ⟨h60, h1, unhide HH k hp hall⟩]; symm; simpa using h1
          · rw [lsB_no fun hh => h1 hh.2.1]; symm; simpa using h1
        clear hall
        generalize hL : (labsOf s).length = L at *
        go_wp2_with fail
        go_ret
        exact ⟨retB (unhide HE), unhide HBT⟩
  · have c : (60 : Int) < (s.size : Int) := by omega
    go_enter Tryz.func133, Tryz.ntmps133
    go_wp2_with fail
    go_ret
    exact ⟨retB (lsB_no fun hh => h60 hh.1), Below.refl _ _⟩

set_option maxRecDepth 100000 in
theorem hostI (s : ByteArray) (w : World) (hs : s.size ≤ 2097152) :
    Calls Tryz.prog 114 #[.string s] w fun e w' => e = .returned (.bool (hostB s)) ∧ Below w.heap.size w w' := by
  have h32 := hide (fun v => labelsOkI 2 s v hs)
  go_enter Tryz.func114, Tryz.ntmps114
  go_wp2_with fail
  refine (unhide h32 _).mono ?_
  rintro e w2 ⟨rfl, hb2⟩
  go_wp2_with fail
  go_ret
  exact ⟨rfl, hb2⟩

end Go.Proofs.YtbbidjckplpaiaaGreatDoor
