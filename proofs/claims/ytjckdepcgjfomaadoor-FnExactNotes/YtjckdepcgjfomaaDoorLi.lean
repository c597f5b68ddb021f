/- strings.Lines: the walk of its closure, which keeps what is left of the text in a cell of its own: for every loop body that leaves that cell alone. -/
import Derived.RangeFuncNested
import Derived.RangeFuncBound
import Derived.RangeFuncCalls
import Derived.RangeFuncLeaves
import Derived.Shelf.Abstract
import Derived.Shelf.RegionOpen
import Derived.OwnWalkIn
import Derived.TacticsInMore
import Derived.LoopNIn
import Derived.LoopIn
import Derived.Test.YtjckdepcgjfomaaDoorWx
namespace Go.Proofs.YtjckdepcgjfomaaDoor
open Go.RowKit Go.Deep Go.Shelf
attribute [local go_sem] Oper.semAt_some

/-- A line begins at fr and has ln bytes: up to the first byte 10, or up to the end where there is none. -/
def LineAt (s : ByteArray) (fr ln : Nat) : Prop := 0 < ln ∧ fr + ln ≤ s.size ∧ (∀ j, fr ≤ j → j + 1 < fr + ln → ¬ byteAt s j = 10) ∧ (byteAt s (fr + ln - 1) = 10 ∨ fr + ln = s.size)

theorem byteAt_list {s : ByteArray} {i : Nat} (h : i < s.size) : s.data.toList[i]? = some s[i] := by
  rw [List.getElem?_eq_getElem (by rw [len_size]; exact h)]
  rfl
theorem indexByte_none_at {s : ByteArray} (h : Lib.indexByte s.data.toList 10 = -1) {j : Nat} (hj : j < s.size) : ¬ byteAt s j = 10 := by
  intro hb
  apply Lib.indexByte_none h j
  rw [byteAt_list hj]
  congr 1
  apply UInt8.toNat_inj.1
  rw [byteAt_lt hj, hb]
  rfl
theorem indexByte_first : ∀ (l : List UInt8) (i : Nat), Lib.indexByte l 10 = (i : Int) → l[i]? = some 10 ∧ ∀ (j : Nat), j < i → l[j]? ≠ some 10
  | [], i, h => by
    rw [Lib.indexByte] at h
    omega
  | c :: r, i, h => by
    by_cases hc : c = 10
    · subst hc
      have : Lib.indexByte (10 :: r) 10 = 0 := by simp [Lib.indexByte]
      rw [this] at h
      obtain rfl : i = 0 := by omega
      exact ⟨rfl, fun j hj => by omega⟩
    · have hc' : (c == 10) = false := by simpa using hc
      rw [Lib.indexByte, hc'] at h
      simp only [Bool.false_eq_true, if_false] at h
      split at h
      · omega
      · have hge := Lib.indexByte_ge r 10
        obtain ⟨k, hk⟩ : ∃ k : Nat, Lib.indexByte r 10 = k := ⟨(Lib.indexByte r 10).toNat, by
          rename_i hne
          have : Lib.indexByte r 10 ≠ -1 := by simpa using hne
          omega⟩
        obtain ⟨h1, h2⟩ := indexByte_first r k hk
        obtain rfl : i = k + 1 := by omega
        refine ⟨by simpa using h1, fun j hj => ?_⟩
        cases j with
        | zero => simpa using hc
        | succ j => simpa using h2 j (by omega)
theorem indexByte_hit {s : ByteArray} {i : Nat} (h : Lib.indexByte s.data.toList 10 = (i : Int)) : i < s.size ∧ byteAt s i = 10 ∧ ∀ j, j < i → ¬ byteAt s j = 10 := by
  obtain ⟨h1, h2⟩ := indexByte_first _ _ h
  have hi : i < s.size := by
    rw [← len_size]
    exact (List.getElem?_eq_some_iff.1 h1).1
  refine ⟨hi, ?_, fun j hj hb => ?_⟩
  · rw [byteAt_list hi] at h1
    rw [← byteAt_lt hi, Option.some.inj h1]
    rfl
  · apply h2 j hj
    rw [byteAt_list (by omega : j < s.size)]
    congr 1
    apply UInt8.toNat_inj.1
    rw [byteAt_lt (by omega : j < s.size), hb]
    rfl
theorem ext_ext (s : ByteArray) (a b c : Nat) : (s.extract a s.size).extract b c = s.extract (a + b) (min (a + c) s.size) := by
  apply Go.WideShapes.bytes_inj
  simp only [ext_list]
  have e : (s.data.toList.take s.size) = s.data.toList := List.take_of_length_le (by rw [len_size]; omega)
  rw [e]
  apply List.ext_getElem?
  intro i
  simp only [List.getElem?_drop, List.getElem?_take]
  have hl := len_size s
  by_cases h1 : b + i < c
  · by_cases h2 : a + b + i < s.size
    · rw [if_pos h1, if_pos (by omega)]
      congr 1
      omega
    · rw [if_pos h1, if_neg (by omega), List.getElem?_eq_none (by omega)]
  · rw [if_neg h1, if_neg (by omega)]

def leftIn (w : World) (b : Nat) : Nat := match w.cell? ⟨b, 0, none⟩ with
  | some (.string r) => r.size
  | _ => 0
theorem meas {w w' : World} {b : Nat} {x y : ByteArray} (h : w.cell? ⟨b, 0, none⟩ = some (.string x)) (h' : w'.cell? ⟨b, 0, none⟩ = some (.string y)) (hl : y.size < x.size) : leftIn w' b < leftIn w b := by
  unfold leftIn
  rw [h, h']
  exact hl
/-- What a loop body owes: the closure's cell as it was; what holds between two rounds. -/
def Round (F : Fence) (n : Nat) (s : ByteArray) (Bn l : Nat) (J Jx : Nat → World → Prop) : Prop :=
  ∀ fr ln W, J fr W → LineAt s fr ln → W.cell? ⟨Bn, 0, none⟩ = some (.string (s.extract (fr + ln) s.size)) → W.frozen? ⟨Bn, 0, none⟩ = false →
    YieldAt F (n - 1) Tryd.prog l #[.string (s.extract fr (fr + ln))] W fun e W' =>
      (e = .returned (.bool true) ∧ J (fr + ln) W' ∧ W'.cell? ⟨Bn, 0, none⟩ = some (.string (s.extract (fr + ln) s.size)) ∧ W'.frozen? ⟨Bn, 0, none⟩ = false) ∨ (e = .returned (.bool false) ∧ Jx fr W')

set_option maxRecDepth 100000 in
set_option maxHeartbeats 2000000 in
theorem lines_in (n : Nat) (l Bn : Nat) (s : ByteArray) (J Jx : Nat → World → Prop) (hs : s.size ≤ 2097152)
    (hJ : ∀ fr W v, J fr W → J fr (W.setCell ⟨Bn, 0, none⟩ v)) (hJd : ∀ fr W, J fr W → J fr W.drew)
    (hY : Round Fence.wide n s Bn l J Jx) (W : World) (hc : W.cell? ⟨Bn, 0, none⟩ = some (.string s)) (hf : W.frozen? ⟨Bn, 0, none⟩ = false) (h0 : J 0 W) :
    CallsIn Fence.wide n Tryd.prog 38 #[.func (.yield l) #[] #[], .pointer (some ⟨Bn, 0, none⟩)] W fun e W' => (∃ v, e = .returned v) ∧ (J s.size W' ∨ ∃ fr, Jx fr W') := by
  refine callsIn_of_wp Tryd.func38 rfl trivial ?_ rfl
  simp only [Tryd.ntmps38, List.size_toArray, List.length_cons, List.length_nil, Nat.reduceAdd, Nat.reduceSub, Array.replicate_succ, Array.replicate_zero, List.push_toArray, List.append_toArray, List.nil_append, List.cons_append]
  gi_wp2
  gi_loopw [4] (fun _ wr => ∃ fr : Nat, fr ≤ s.size ∧ J fr wr ∧ wr.cell? ⟨Bn, 0, none⟩ = some (.string (s.extract fr s.size)) ∧ wr.frozen? ⟨Bn, 0, none⟩ = false)
    (fun _ wr => leftIn wr Bn)
  case atStart => exact ⟨0, Nat.zero_le _, h0, by rw [hc]; congr 2; apply Go.WideShapes.bytes_inj; rw [ext_list]; simp [List.take_of_length_le], hf⟩
  case round =>
    obtain ⟨fr, hfr, hj, hcell, hfz⟩ := hrel
    obtain ⟨Z, hZ⟩ : ∃ Z, Z = s.extract fr s.size := ⟨_, rfl⟩
    have hzs : Z.size = s.size - fr := by rw [hZ, ByteArray.size_extract]; omega
    rw [← hZ] at hcell
    have HZ := hide hZ
    clear hZ
    by_cases hlt : fr < s.size
    · have c1 : (0 : Int) < (Z.size : Int) := by omega
      have hI := hide (fun v => Tryd.strings_IndexByte Z 10 v)
      cases hq : Lib.indexByte Z.data.toList 10 == -1 with
      | true =>
        have hi : Lib.indexByte Z.data.toList 10 = -1 := by simpa using hq
        have hIw : ∀ v, CallsIn Fence.wide (n - 1) Tryd.prog 39 #[.string Z, .int .u8 10] v fun e w' => e = .returned (.int .i64 (-1)) ∧ w' = v := fun v => callsIn_wide.2 (((unhide hI) v).mono fun e w' h => by
          rw [← hi]
          exact h)
        have eL : s.extract fr (fr + Z.size) = Z := by rw [hzs, show fr + (s.size - fr) = s.size by omega]; exact (unhide HZ).symm
        have eR : s.extract (fr + Z.size) s.size = ⟨#[]⟩ := by
          apply Go.WideShapes.bytes_inj
          rw [ext_list, List.drop_eq_nil_iff]
          simp
          omega
        have hline : LineAt s fr Z.size := by
          refine ⟨by omega, by omega, fun j h1 h2 => ?_, Or.inr (by omega)⟩
          have := indexByte_none_at hi (j := j - fr) (by omega)
          rw [unhide HZ, byteAt_extract (Nat.le_refl _) (by omega)] at this
          rwa [show fr + (j - fr) = j by omega] at this
        have hyy := hY fr Z.size (wr.setCell ⟨Bn, 0, none⟩ (.string ⟨#[]⟩)) (hJ _ _ _ hj) hline (by rw [eR]; exact World.cell?_setCell_same' _ _ _ (by rw [hcell]; rfl)) (by rw [World.frozen?_setCell]; exact hfz)
        rw [eL, eR] at hyy
        obtain ⟨fn, tmps, assign, body, hy, hR⟩ := hyy
        have HER := hide eR
        have HFR : Hid (fr + Z.size ≤ s.size) := by show _ ≤ _; omega
        clear hi hq hI hline hzs eL eR
        gi_wp2_with (refine ⟨trivial, fun h => absurd h (by decide), ?_⟩; refine (hIw _).mono ?_; rintro e w6 ⟨rfl, rfl⟩)
        refine ⟨fun h => absurd h (by decide), hR.mono ?_⟩
        rintro e W3 (⟨rfl, hJ3, hc3, hf3⟩ | ⟨rfl, hx⟩)
        · have HM := hide (meas hcell hc3 (by show 0 < Z.size; omega))
          have HJ3 := hide hJ3
          have HC3 := hide hc3
          clear hc3 hJ3
          gi_wp2
          go_roundw
          case rel => exact ⟨fr + Z.size, unhide HFR, unhide HJ3, by rw [unhide HC3]; congr 2; exact (unhide HER).symm, hf3⟩
          case measure => exact unhide HM
        · gi_wp2
          refine bodyPost_ret (results_none rfl _ _ _) rfl ?_
          exact ⟨⟨_, rfl⟩, Or.inr ⟨_, hx⟩⟩
      | false =>
        obtain ⟨i, hi⟩ : ∃ i : Nat, Lib.indexByte Z.data.toList 10 = (i : Int) := ⟨(Lib.indexByte Z.data.toList 10).toNat, by
          have := Lib.indexByte_ge Z.data.toList 10
          have : Lib.indexByte Z.data.toList 10 ≠ -1 := by simpa using hq
          omega⟩
        obtain ⟨hi1, hi2, hi3⟩ := indexByte_hit hi
        have hIw : ∀ v, CallsIn Fence.wide (n - 1) Tryd.prog 39 #[.string Z, .int .u8 10] v fun e w' => e = .returned (.int .i64 (i : Int)) ∧ w' = v := fun v => callsIn_wide.2 (((unhide hI) v).mono fun e w' h => by
          rw [← hi]
          exact h)
        clear hI hi
        have eL : s.extract fr (fr + (i + 1)) = Z.extract 0 (i + 1) := by rw [unhide HZ, ext_ext]; congr 1; omega
        have eR : s.extract (fr + (i + 1)) s.size = Z.extract (i + 1) Z.size := by rw [hzs, unhide HZ, ext_ext]; congr 1; omega
        have hline : LineAt s fr (i + 1) := by
          refine ⟨by omega, by omega, fun j h1 h2 => ?_, Or.inl ?_⟩
          · have := hi3 (j - fr) (by omega)
            rw [unhide HZ, byteAt_extract (Nat.le_refl _) (by omega)] at this
            rwa [show fr + (j - fr) = j by omega] at this
          · rw [unhide HZ, byteAt_extract (Nat.le_refl _) (by omega)] at hi2
            exact hi2
        have hyy := hY fr (i + 1) (wr.setCell ⟨Bn, 0, none⟩ (.string (Z.extract (i + 1) Z.size))).drew (hJd _ _ (hJ _ _ _ hj)) hline (by rw [eR]; exact World.cell?_setCell_same' _ _ _ (by rw [hcell]; rfl)) (by show World.frozen? (World.setCell _ _ _) _ = false; rw [World.frozen?_setCell]; exact hfz)
        rw [eL] at hyy
        obtain ⟨fn, tmps, assign, body, hy, hR⟩ := hyy
        have w1 : wrap64 ((i : Int) + 1) = ((i + 1 : Nat) : Int) := by unfold wrap64; omega
        have d1 : (0 : Int) ≤ (i : Int) := by omega
        have d2 : (0 : Int) ≤ ((i + 1 : Nat) : Int) := by omega
        have d3 : ((i + 1 : Nat) : Int) ≤ (Z.size : Int) := by omega
        have HFR : Hid (fr + (i + 1) ≤ s.size) := by show _ ≤ _; omega
        have HSZ : Hid ((s.extract (fr + (i + 1)) s.size).size < Z.size) := by show _ < _; rw [eR, ByteArray.size_extract]; have : min Z.size Z.size = Z.size := Nat.min_self _; omega
        clear hzs hline hi1 hi2 hi3
        gi_wp2_with (refine ⟨trivial, fun h => absurd h (by decide), ?_⟩; refine (hIw _).mono ?_; rintro e w6 ⟨rfl, rfl⟩)
        gi_region
        all_goals gi_wp2
        refine ⟨fun h => absurd h (by decide), hR.mono ?_⟩
        rintro e W3 (⟨rfl, hJ3, hc3, hf3⟩ | ⟨rfl, hx⟩)
        · have HM := hide (meas hcell hc3 (unhide HSZ))
          have HJ3 := hide hJ3
          have HC3 := hide hc3
          clear hc3 hJ3
          gi_wp2
          go_roundw
          case rel => exact ⟨fr + (i + 1), unhide HFR, unhide HJ3, unhide HC3, hf3⟩
          case measure => exact unhide HM
        · gi_wp2
          refine bodyPost_ret (results_none rfl _ _ _) rfl ?_
          exact ⟨⟨_, rfl⟩, Or.inr ⟨_, hx⟩⟩
    · have c1 : ¬ (0 : Int) < (Z.size : Int) := by omega
      gi_wp2
      go_end0
      refine ⟨⟨_, rfl⟩, Or.inl ?_⟩
      rw [show s.size = fr by omega]
      exact hj

end Go.Proofs.YtjckdepcgjfomaaDoor
