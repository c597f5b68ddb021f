
/- The walks of laws.eqStringS, laws.markStringS and laws.heldStringS over rows of texts. -/
import Derived.Test.YtdcfkbnppbeahaaHj
import Derived.Test.YtdcfkbnppbeahaaMt
import Derived.Deep.RegionHeld3
namespace Go.Proofs.Ytdcfkbnppbeahaa
open Go.RowKit Go.Deep

/-- The texts stand in the places of a row. -/
def Stand (w : World) (g : Nat) (l : List ByteArray) : Prop := ∀ k t, l[k]? = some t → w.cell? ⟨g, k, none⟩ = some (.string t)
theorem Stand.on {w w' : World} {g : Nat} {l : List ByteArray} (h : Stand w g l) (hb : Below w.heap.size w w') : Stand w' g l := fun k t hk => below_some hb (h k t hk)

theorem below_drewX {w v : World} (h : Below w.drew.heap.size w.drew v) : Below w.heap.size w v := ((Below.refl _ _).drew).trans h

set_option maxRecDepth 100000 in
set_option maxHeartbeats 1000000 in
theorem eqS_yes (l : List ByteArray) (g g' c c' : Nat) (w : World) (hl : l.length ≤ 2097153) (h : Stand w g l) (h' : Stand w g' l) :
    Calls Try.prog 34 #[.slice (some ⟨g, 0, none⟩) l.length c, .slice (some ⟨g', 0, none⟩) l.length c'] w fun e w' => e = .returned (.bool true) ∧ Below w.heap.size w w' := by
  have H := hide h
  have H' := hide h'
  clear h h'
  go_enter Try.func34, Try.ntmps34
  go_wp2_with fail
  go_loopw [5] (fun n wr => ∃ k : Nat, n = .int .i64 k ∧ Below w.heap.size w wr ∧ k ≤ l.length) (fun n _ => l.length - (intOf n).toNat)
  case atStart => exact ⟨0, rfl, Below.refl _ _, by omega⟩
  case round =>
    obtain ⟨k, rfl, hb, hk⟩ := hrel
    have HB := hide hb
    by_cases hp : k < l.length
    · obtain ⟨t, ht⟩ : ∃ t, l[k]? = some t := ⟨_, List.getElem?_eq_getElem hp⟩
      have c0 := (unhide H).on hb k t ht
      have c1 := (unhide H').on hb k t ht
      have c2 : (k : Int) < (l.length : Int) := by omega
      have c3 : (0 : Int) ≤ (k : Int) := by omega
      have w1 : wrap64 ((k : Int) + 1) = ((k + 1 : Nat) : Int) := by unfold wrap64; omega
      clear hb ht
      generalize hL : l.length = L at *
      go_wp2_with fail
      go_region
      go_wp2_with fail
      go_roundw
      case rel => exact ⟨k + 1, rfl, (unhide HB).drew, by omega⟩
      case measure => simp only [intOf]; omega
    · have c2 : ¬ (k : Int) < (l.length : Int) := by omega
      clear hb
      generalize hL : l.length = L at *
      go_wp2_with fail
      go_ret
      exact ⟨rfl, unhide HB⟩

/-- A row of texts of its own, marked up to a place. -/
def Marked (w : World) (g L i : Nat) : Prop := ∃ cur : Array Value, w.heap[g]? = some (.cells cur 9 (0, 0)) ∧ L ≤ cur.size ∧ ∀ j, j < i → cur[j]? = some (.string (mtx (j + 1)))
theorem Marked.on {w w' : World} {g L i : Nat} (h : Marked w g L i) (hb : Below w.heap.size w w') : Marked w' g L i := by
  obtain ⟨cur, h1, h2, h3⟩ := h
  exact ⟨cur, by rw [hb.block g (Array.getElem?_eq_some_iff.1 h1).1, h1], h2, h3⟩
theorem Marked.next {w : World} {g L i : Nat} (h : Marked w g L i) (hi : i < L) : Marked (w.setCell ⟨g, i, none⟩ (.string (mtx (i + 1)))) g L (i + 1) := by
  obtain ⟨cur, h1, h2, h3⟩ := h
  have e := heap_setCell_same w g i cur 9 (.string (mtx (i + 1))) h1
  refine ⟨_, e, by simpa using h2, fun j hj => ?_⟩
  rcases Nat.lt_or_ge j i with hl | hl
  · rw [Array.getElem?_setIfInBounds_ne (by omega)]
    exact h3 j hl
  · obtain rfl : j = i := by omega
    rw [Array.getElem?_setIfInBounds_self_of_lt (by omega)]
theorem Marked.cell {w : World} {g L i j : Nat} (h : Marked w g L i) (hj : j < i) : w.cell? ⟨g, j, none⟩ = some (.string (mtx (j + 1))) := by
  obtain ⟨cur, h1, h2, h3⟩ := h
  have hc : j < cur.size := (Array.getElem?_eq_some_iff.1 (h3 j hj)).1
  rw [cell_of_row h1 hc, ← h3 j hj, Array.getElem?_eq_getElem hc]
theorem Marked.some {w : World} {g L i j : Nat} (h : Marked w g L i) (hj : j < L) : ∃ v, w.cell? ⟨g, j, none⟩ = Option.some v := by
  obtain ⟨cur, h1, h2, h3⟩ := h
  exact ⟨_, cell_of_row h1 (show j < cur.size by omega)⟩
theorem Marked.free {w : World} {g L i j : Nat} (h : Marked w g L i) : w.frozen? ⟨g, j, none⟩ = false := by
  obtain ⟨cur, h1, h2, h3⟩ := h
  simp [World.frozen?, h1]

set_option maxRecDepth 100000 in
set_option maxHeartbeats 1000000 in
theorem markS (L : Nat) (g c B : Nat) (w : World) (hl : L ≤ 2097153) (hB : B ≤ g) (hg : g < w.heap.size) (h : Marked w g L 0) :
    Calls Try.prog 39 #[.slice (some ⟨g, 0, none⟩) L c, .int .i64 1] w fun e w' => e = .returned (.int .i64 (L + 1 : Nat)) ∧ Below B w w' ∧ Marked w' g L L := by
  have H := hide h
  clear h
  go_enter Try.func39, Try.ntmps39
  go_wp2_with fail
  go_loopw [1, 5] (fun m n wr => ∃ k : Nat, m = .int .i64 (k + 1 : Nat) ∧ n = .int .i64 k ∧ Below B w wr ∧ Marked wr g L k ∧ g < wr.heap.size ∧ k ≤ L) (fun _ n _ => L - (intOf n).toNat)
  case atStart => exact ⟨0, rfl, rfl, Below.refl _ _, unhide H, hg, by omega⟩
  case round =>
    obtain ⟨k, rfl, rfl, hb, hm, hgr, hk⟩ := hrel
    have HB := hide hb
    have HM := hide hm
    by_cases hp : k < L
    · have c2 : (k : Int) < (L : Int) := by omega
      have c3 : (0 : Int) ≤ (k : Int) := by omega
      have w1 : wrap64 ((k : Int) + 1) = ((k + 1 : Nat) : Int) := by unfold wrap64; omega
      have w2 : wrap64 (((k + 1 : Nat) : Int) + 1) = ((k + 1 + 1 : Nat) : Int) := by unfold wrap64; omega
      have hc := hide (fun v => mark29 (k + 1) v (by omega) (by omega))
      clear hb hm
      go_wp2_with fail
      refine (unhide hc _).mono ?_
      rintro e w2 ⟨rfl, hb2⟩
      have HM2 := hide ((unhide HM).on hb2)
      have HB2 := hide ((unhide HB).trans (hb2.mono (by omega)))
      have hg2 : g < w2.heap.size := by have := hb2.size; omega
      obtain ⟨v0, c0⟩ := (unhide HM2).some hp
      have c1 := (unhide HM2).free (j := k)
      clear hb2
      go_wp2_with fail
      go_roundw
      case rel => exact ⟨k + 1, rfl, rfl, (unhide HB2).setCell hB _, (unhide HM2).next hp, by simpa using hg2, by omega⟩
      case measure => simp only [intOf]; omega
    · have c2 : ¬ (k : Int) < (L : Int) := by omega
      have hkL : k = L := by omega
      subst hkL
      clear hb hm
      go_wp2_with fail
      go_ret
      exact ⟨rfl, unhide HB, unhide HM⟩

set_option maxRecDepth 100000 in
set_option maxHeartbeats 1000000 in
theorem heldS (L : Nat) (g c : Nat) (w : World) (hl : L ≤ 2097153) (h : Marked w g L L) :
    Calls Try.prog 40 #[.slice (some ⟨g, 0, none⟩) L c, .int .i64 1] w fun e w' => e = .returned (.int .i64 (L + 1 : Nat)) ∧ Below w.heap.size w w' := by
  have H := hide h
  clear h
  go_enter Try.func40, Try.ntmps40
  go_wp2_with fail
  go_loopw [1, 5] (fun m n wr => ∃ k : Nat, m = .int .i64 (k + 1 : Nat) ∧ n = .int .i64 k ∧ Below w.heap.size w wr ∧ k ≤ L) (fun _ n _ => L - (intOf n).toNat)
  case atStart => exact ⟨0, rfl, rfl, Below.refl _ _, by omega⟩
  case round =>
    obtain ⟨k, rfl, rfl, hb, hk⟩ := hrel
    have HB := hide hb
    by_cases hp : k < L
    · have c2 : (k : Int) < (L : Int) := by omega
      have c3 : (0 : Int) ≤ (k : Int) := by omega
      have w1 : wrap64 ((k : Int) + 1) = ((k + 1 : Nat) : Int) := by unfold wrap64; omega
      have w2 : wrap64 (((k + 1 : Nat) : Int) + 1) = ((k + 1 + 1 : Nat) : Int) := by unfold wrap64; omega
      have hc := hide (fun v => mark29 (k + 1) v (by omega) (by omega))
      have HM := hide ((unhide H).on hb)
      have c0 := (unhide HM).cell hp
      clear hb
      generalize mtx (k + 1) = M at *
      go_wp2_with fail
      go_region_held3 (fun y => y.cell? ⟨g, k, none⟩ = some (.string M)) (go_keep) ((go_at_call 38; refine (unhide hc _).mono ?_; rintro e w3 ⟨rfl, hb3⟩; have k0 := below_some (below_drewX hb3) c0; have HB3 := hide ((unhide HB).trans ((below_drewX hb3).mono (unhide HB).size)); clear hb3))
      all_goals go_wp2_with fail
      all_goals go_roundw
      case rel => exact ⟨k + 1, rfl, rfl, unhide HB3, by omega⟩
      case measure => simp only [intOf]; omega
    · have c2 : ¬ (k : Int) < (L : Int) := by omega
      have hkL : k = L := by omega
      subst hkL
      clear hb
      go_wp2_with fail
      go_ret
      exact ⟨rfl, unhide HB⟩

end Go.Proofs.Ytdcfkbnppbeahaa
