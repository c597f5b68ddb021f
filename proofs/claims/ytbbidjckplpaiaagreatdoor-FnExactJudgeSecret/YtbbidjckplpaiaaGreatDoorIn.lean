
/- Rows of ints in memory, and the walks of laws.szIntS, toIntS, eqIntS. -/
import Derived.Test.YtbbidjckplpaiaaGreatDoorHj
import Derived.Test.YtbbidjckplpaiaaGreatDoorTo
import Derived.Deep.RegionHeld3
namespace Go.Proofs.YtbbidjckplpaiaaGreatDoor
open Go.RowKit Go.Deep

/-- The ints lie in the world, one behind the other, in a block from L on. -/
def Ints (w : World) (L : Nat) (a : Option Addr) (l : List Int) : Prop := ∀ k t, l[k]? = some t → ∃ b o, a = some ⟨b, o, none⟩ ∧ L ≤ b ∧ w.cell? ⟨b, o + k, none⟩ = some (.int .i64 t)
theorem Ints.on {w w' : World} {L : Nat} {a : Option Addr} {l : List Int} (h : Ints w L a l) (hb : Below w.heap.size w w') : Ints w' L a l := fun k t hk => by
  obtain ⟨b, o, h1, h2, h3⟩ := h k t hk
  exact ⟨b, o, h1, h2, below_some hb h3⟩
theorem Ints.low {w : World} {L L' : Nat} {a : Option Addr} {l : List Int} (h : Ints w L a l) (hL : L' ≤ L) : Ints w L' a l := fun k t hk => by
  obtain ⟨b, o, h1, h2, h3⟩ := h k t hk
  exact ⟨b, o, h1, by omega, h3⟩
theorem Ints.nil (w : World) (L : Nat) (a : Option Addr) : Ints w L a [] := fun k t hk => by simp at hk

set_option maxRecDepth 100000 in
set_option maxHeartbeats 1000000 in
theorem szI (l : List Int) (a : Option Addr) (cap : Nat) (left : Int) (w : World) (hm : l.length ≤ maxLen) (h0 : 0 ≤ left) (h1 : left ≤ 1048576) :
    Calls Tryz.prog 15 #[.slice a l.length cap, .int .i64 left] w fun e w' => e = .returned (.int .i64 (szv left l.length)) ∧ w' = w := by
  unfold maxLen at hm
  generalize hlen : l.length = len at *
  clear hlen
  have w0 : wrap64 (left - (len : Int)) = left - (len : Int) := by unfold wrap64; omega
  by_cases hlt : left - (len : Int) < 0
  · have HE : Hid (szv left len = -1) := szv_no (by omega)
    go_enter Tryz.func15, Tryz.ntmps15
    go_wp2_with fail
    go_ret
    exact ⟨ret_int (unhide HE).symm, rfl⟩
  · have HE : Hid (szv left len = left - len) := szv_yes (by omega)
    go_enter Tryz.func15, Tryz.ntmps15
    go_wp2_with fail
    go_ret
    exact ⟨ret_int (unhide HE).symm, rfl⟩

theorem infoI : (Tryz.prog.info? 3).map (fun i => (i.zero, i.size, i.bytes)) = some (some (.int .i64 0), 1, 8) := by kernel_rfl

theorem make_in (n : Nat) (hn : n ≤ 2097152) (w : World) :
    (Instr.makeSlice 28 (.int .i64 (n : Int)) (.int .i64 (n : Int))).run Tryz.prog w = .ok (.slice (some ⟨w.heap.size, 0, none⟩) n n) (w.alloc (.cells (madeCells #[.int .i64 0] n) 3)) := by
  obtain ⟨i, hi, hzz⟩ := Option.map_eq_some_iff.1 infoI
  simp only [Prod.mk.injEq] at hzz
  obtain ⟨hz, hs, hb⟩ := hzz
  have hr := run_make (P := Tryz.prog) w 28 3 i _ Tryz.underlying28 hi hz .i64 .i64 n n (by omega) (Int.le_refl _) (by rw [hb]; omega) (by omega)
  simp only [Int.toNat_natCast, hs, Nat.mul_one] at hr
  exact hr

/-- In the middle of the copy: k of the ints are there. -/
structure InMid (w : World) (l : List Int) (k : Nat) (wr : World) : Prop where
  below : Below w.heap.size w wr
  row : ∃ C, wr.heap[w.heap.size]? = some (.cells C 3 (0, 0)) ∧ C.size = l.length
  done : ∀ j t, j < k → l[j]? = some t → wr.cell? ⟨w.heap.size, j, none⟩ = some (.int .i64 t)

theorem InMid.start (w : World) (l : List Int) : InMid w l 0 (w.alloc (.cells (madeCells #[.int .i64 0] l.length) 3)) :=
  ⟨(Below.refl _ _).alloc (Nat.le_refl _) _, ⟨_, heap_alloc_new w _, size_madeCells _ _⟩, fun _ _ hj => absurd hj (Nat.not_lt_zero _)⟩

theorem InMid.step {w wr : World} {l : List Int} {k : Nat} {t : Int} (h : InMid w l k wr) (hk : l[k]? = some t) : InMid w l (k + 1) (wr.setCell ⟨w.heap.size, k, none⟩ (.int .i64 t)) := by
  obtain ⟨C, h1, h2⟩ := h.row
  have hlt : k < l.length := by
    by_cases hq : k < l.length
    · exact hq
    · rw [List.getElem?_eq_none (by omega)] at hk; cases hk
  have h3 : (wr.setCell ⟨w.heap.size, k, none⟩ (.int .i64 t)).heap[w.heap.size]? = some (.cells (C.setIfInBounds k (.int .i64 t)) 3 (0, 0)) := by
    simp only [World.setCell, Array.getElem?_modify]
    simp [h1]
  refine ⟨h.below.setCell (Nat.le_refl _) _, ⟨_, h3, by simpa using h2⟩, fun j x hj hx => ?_⟩
  show (wr.setCell ⟨w.heap.size, k, none⟩ (.int .i64 t)).cell? ⟨w.heap.size, j, none⟩ = _
  by_cases hjk : j = k
  · subst hjk
    rw [hk] at hx
    cases hx
    exact (cell_of_row h3 (by simp; omega)).trans (by simp)
  · rw [World.cell?_setCell_other _ _ _ _ (fun e => hjk (by cases e; rfl))]
    exact h.done j x (by omega) hx

theorem InMid.at {w wr : World} {l : List Int} {k : Nat} (h : InMid w l k wr) (hk : k < l.length) : (∃ v, wr.cell? ⟨w.heap.size, k, none⟩ = some v) ∧ wr.frozen? ⟨w.heap.size, k, none⟩ = false := by
  obtain ⟨C, h1, h2⟩ := h.row
  exact ⟨⟨_, cell_of_row h1 (by omega)⟩, frozen_of_row h1⟩

theorem InMid.ints {w wr : World} {l : List Int} (h : InMid w l l.length wr) : Ints wr w.heap.size (some ⟨w.heap.size, 0, none⟩) l := fun k t hk => by
  have hkl : k < l.length := by
    by_cases hq : k < l.length
    · exact hq
    · rw [List.getElem?_eq_none (by omega)] at hk; cases hk
  exact ⟨_, _, rfl, Nat.le_refl _, by rw [Nat.zero_add]; exact h.done k t hkl hk⟩

set_option maxRecDepth 100000 in
set_option maxHeartbeats 1000000 in
theorem toI (l : List Int) (a : Option Addr) (cap : Nat) (w : World) (hl : Ints w 0 a l) (hsz : l.length ≤ 2097152) :
    Calls Tryz.prog 26 #[.slice a l.length cap] w fun e w' => e = .returned (.slice (some ⟨w.heap.size, 0, none⟩) l.length l.length) ∧ Ints w' w.heap.size (some ⟨w.heap.size, 0, none⟩) l ∧ Below w.heap.size w w' := by
  have hmk := make_in l.length hsz
  have HM := hide (InMid.start w l)
  have HT := hide hl
  clear hl
  generalize hlen : l.length = len at hmk hsz HM ⊢
  have HL : Hid (l.length = len) := hlen
  clear hlen
  go_enter Tryz.func26, Tryz.ntmps26
  go_wp2_with fail
  go_loopw [4] (fun i wr => ∃ k : Nat, k ≤ len ∧ i = .int .i64 k ∧ InMid w l k wr) (fun i _ => len - (intOf i).toNat)
  case atStart => exact ⟨0, Nat.zero_le _, rfl, HM.out⟩
  case round =>
    obtain ⟨k, hkl, rfl, hM⟩ := hrel
    by_cases hlt : k < len
    · have hlt' : k < l.length := by have := HL.out; omega
      obtain ⟨t, hkt⟩ : ∃ t, l[k]? = some t := ⟨_, List.getElem?_eq_getElem hlt'⟩
      obtain ⟨b, o, rfl, -, c0⟩ := HT.out k t hkt
      have c0' := below_some hM.below c0
      obtain ⟨⟨u0, d0⟩, f0⟩ := hM.at hlt'
      have HM2 := hide (hM.step hkt)
      have c2 : (k : Int) < (len : Int) := by omega
      have c3 : (0 : Int) ≤ (k : Int) := by omega
      have w2 : wrap64 ((k : Int) + 1) = ((k + 1 : Nat) : Int) := by unfold wrap64; omega
      clear hM hkt c0
      go_wp2_with fail
      go_roundw
      case rel => exact ⟨k + 1, by omega, rfl, HM2.out⟩
      case measure => simp [intOf]; omega
    · have c2 : ¬ (k : Int) < (len : Int) := by omega
      go_wp2_with fail
      go_ret
      have hkk : k = l.length := by have := HL.out; omega
      subst hkk
      exact ⟨rfl, hM.ints, hM.below⟩

set_option maxRecDepth 100000 in
set_option maxHeartbeats 1000000 in
theorem eqI (l : List Int) (a a' : Option Addr) (c c' : Nat) (w : World) (hl : l.length ≤ 2097153) (h : Ints w 0 a l) (h' : Ints w 0 a' l) :
    Calls Tryz.prog 35 #[.slice a l.length c, .slice a' l.length c'] w fun e w' => e = .returned (.bool true) ∧ Below w.heap.size w w' := by
  have H := hide h
  have H' := hide h'
  clear h h'
  go_enter Tryz.func35, Tryz.ntmps35
  go_wp2_with fail
  go_loopw [5] (fun n wr => ∃ k : Nat, n = .int .i64 k ∧ Below w.heap.size w wr ∧ k ≤ l.length) (fun n _ => l.length - (intOf n).toNat)
  case atStart => exact ⟨0, rfl, Below.refl _ _, by omega⟩
  case round =>
    obtain ⟨k, rfl, hb, hk⟩ := hrel
    have HB := hide hb
    by_cases hp : k < l.length
    · obtain ⟨t, ht⟩ : ∃ t, l[k]? = some t := ⟨_, List.getElem?_eq_getElem hp⟩
      obtain ⟨b, o, rfl, -, d0⟩ := unhide H k t ht
      obtain ⟨b', o', rfl, -, d1⟩ := unhide H' k t ht
      have c0 := below_some hb d0
      have c1 := below_some hb d1
      have c2 : (k : Int) < (l.length : Int) := by omega
      have c3 : (0 : Int) ≤ (k : Int) := by omega
      have w1 : wrap64 ((k : Int) + 1) = ((k + 1 : Nat) : Int) := by unfold wrap64; omega
      clear hb ht d0 d1
      generalize hL : l.length = L at *
      go_wp2_with fail
      go_region
      go_wp2_with fail
      go_roundw
      case rel => exact ⟨k + 1, rfl, (unhide HB).drew, by omega⟩
      case measure => simp only [intOf]; omega
    · have c2 : ¬ (k : Int) < (l.length : Int) := by omega
      clear hb
      generalize hL : l.length = L at *
      go_wp2_with fail
      go_ret
      exact ⟨rfl, unhide HB⟩

end Go.Proofs.YtbbidjckplpaiaaGreatDoor
