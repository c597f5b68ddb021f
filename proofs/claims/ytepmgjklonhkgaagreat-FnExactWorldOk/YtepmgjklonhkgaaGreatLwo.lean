/- The walk of spec.WorldOk; nothing that was there is written. The walk of laws.FnExactWorldOk: whatever world lies in memory it answers true; nothing that was there is written. -/
import Derived.Test.YtepmgjklonhkgaaGreatWop
import Derived.Test.YtepmgjklonhkgaaGreatWoi
import Derived.Test.YtepmgjklonhkgaaGreatWwd
import Derived.BigQuiet
import Derived.WalkSmall
import Derived.Deep.MidRow
import Derived.Deep.RegionHeld3
import Derived.Deep.RegionWith
namespace Go.Proofs.YtepmgjklonhkgaaGreat
open Go.RowKit Go.Deep

theorem sub1N {k j : Nat} (h : k = j + 1) : k - 1 = j := by omega
theorem posN {k j : Nat} (h : k = j + 1) : k ≠ 0 := by omega
instance : Std.Associative (α := Bool) (· && ·) := ⟨Bool.and_assoc⟩
instance : Std.Commutative (α := Bool) (· && ·) := ⟨Bool.and_comm⟩
theorem worldB_spec (X : Wd) : worldB X = (inB X.time 0 100000 && (inB X.fresh 1000 999990 && (decide (X.known.length ≤ 300) && (cacheB X.cache && (hosB X.hosts && (decide (X.letters.length ≤ 30) && (decide (X.book.size ≤ 12000) && (inB X.sure 0 X.book.size && (X.known.all okT && (X.letters.all leOk && (toldB X.told && openB X))))))))))) := by
  unfold worldB hosB openB
  generalize inB X.time 0 100000 = a1
  generalize inB X.fresh 1000 999990 = a2
  generalize decide (X.known.length ≤ 300) = a3
  generalize X.known.all okT = a4
  generalize cacheB X.cache = a5
  generalize decide (X.hosts.length ≤ 4) = a6
  generalize X.hosts.all hoOk = a7
  generalize onceB X.hosts = a8
  generalize decide (X.letters.length ≤ 30) = a9
  generalize X.letters.all leOk = b1
  generalize decide (X.book.size ≤ 12000) = b2
  generalize inB X.sure 0 X.book.size = b3
  generalize decide (X.calls.length ≤ 12) = b4
  generalize X.calls.all (caOk X.letters.length) = b5
  generalize decide (X.talks.length ≤ 12) = b6
  generalize X.talks.all (taOk X.hosts.length) = b7
  generalize toldB X.told = b8
  ac_rfl

open Classical in
set_option maxRecDepth 100000 in
set_option maxHeartbeats 4000000 in
theorem worldS (X : Wd) (cs : List Value) (w : World) (h : wdAt w 0 X cs) (hz : ww X ≤ 1048576) :
    Calls Tryz.prog 5 #[.agg cs.toArray] w fun e w' => e = .returned (.bool (worldB X)) ∧ Below w.heap.size w w' := by
  have h0 := h
  obtain ⟨-, ak, ck, ac, cc, ah, ch, al, cl, aa, ca, az, cz, ai, ci, rfl, hy0, hy1, hy2, hy3, hy4, hy5, hy6⟩ := h
  show Calls Tryz.prog 5 #[.agg #[.int .i64 X.time, .int .i64 X.fresh, .slice ak X.known.length ck, .slice ac X.cache.length cc, .slice ah X.hosts.length ch, .slice al X.letters.length cl, .string X.book, .int .i64 X.sure, .slice aa X.calls.length ca, .slice az X.talks.length cz, .slice ai X.told.length ci]] w _
  have HX := hide (Box.new w 40 [.int .i64 X.time, .int .i64 X.fresh, .slice ak X.known.length ck, .slice ac X.cache.length cc, .slice ah X.hosts.length ch, .slice al X.letters.length cl, .string X.book, .int .i64 X.sure, .slice aa X.calls.length ca, .slice az X.talks.length cz, .slice ai X.told.length ci])
  have HI0 := hide (fun v => in26 X.time 0 100000 v)
  have HI1 := hide (fun v => in26 X.fresh 1000 999990 v)
  have HC1 := hide (fun v (hv : Below w.heap.size w v) => cacheS X.cache ac cc v (poK_pols (hy1.on hv)) (by unfold ww at hz; omega) (polZ_all (by unfold ww at hz; omega)))
  have HC2 := hide (fun v (hv : Below w.heap.size w v) => hostsS X.hosts ah ch v (hy2.on hv) (by unfold ww at hz; omega))
  have HI3 := hide (fun v => in26 X.sure 0 X.book.size v)
  have HC9 := hide (fun v (hv : Below w.heap.size w v) => openS X [.int .i64 X.time, .int .i64 X.fresh, .slice ak X.known.length ck, .slice ac X.cache.length cc, .slice ah X.hosts.length ch, .slice al X.letters.length cl, .string X.book, .int .i64 X.sure, .slice aa X.calls.length ca, .slice az X.talks.length cz, .slice ai X.told.length ci] v (wdK.on (w := w) (L := 0) (x := X) h0 hv) hz)
  have HYk := hide hy0
  have HYl := hide hy3
  have HYd := hide hy6
  have HKW : Hid (∀ t ∈ X.known, t.wt ≤ 1048576) := fun t ht => by have := wts_mem ht; unfold ww at hz; omega
  have HLW : Hid (∀ t ∈ X.letters, lew t ≤ 1048576) := fun t ht => by have := ws_mem lew ht; unfold ww at hz; omega
  have hk0 : X.known.length ≤ 1048576 := by unfold ww at hz; omega
  have hl0 : X.letters.length ≤ 1048576 := by unfold ww at hz; omega
  have hd0 : X.told.length ≤ 1048576 := by unfold ww at hz; omega
  have hbk : X.book.size ≤ 1048576 := by unfold ww at hz; omega
  have HW : Hid (worldB X = (inB X.time 0 100000 && (inB X.fresh 1000 999990 && (decide (X.known.length ≤ 300) && (cacheB X.cache && (hosB X.hosts && (decide (X.letters.length ≤ 30) && (decide (X.book.size ≤ 12000) && (inB X.sure 0 X.book.size && (X.known.all okT && (X.letters.all leOk && (toldB X.told && openB X)))))))))))) := worldB_spec X
  have HTD : Hid ((toldP X.told X.told.length → toldB X.told = true) ∧ (¬ toldP X.told X.told.length → toldB X.told = false)) := ⟨fun h => decide_eq_true h, fun h => decide_eq_false h⟩
  clear h0 hz hy0 hy1 hy2 hy3 hy4 hy5 hy6
  generalize worldB X = R at *
  generalize inB X.time 0 100000 = bt at *
  generalize inB X.fresh 1000 999990 = bf at *
  generalize cacheB X.cache = bc at *
  generalize hosB X.hosts = bh at *
  generalize inB X.sure 0 X.book.size = bs at *
  generalize toldB X.told = bd at *
  generalize openB X = bo at *
  go_enter Tryz.func5, Tryz.ntmps5
  go_wp2_with fail
  refine (unhide HI0 _).mono ?_
  rintro e w1 ⟨rfl, rfl⟩
  cases bt
  · have HE : Hid (R = false) := by show R = false; rw [unhide HW]; simp
    go_wp2_with fail
    go_ret
    exact ⟨retB (unhide HE), abG _⟩
  go_wp2_with fail
  refine (unhide HI1 _).mono ?_
  rintro e w1 ⟨rfl, rfl⟩
  cases bf
  · have HE : Hid (R = false) := by show R = false; rw [unhide HW]; simp
    go_wp2_with fail
    go_ret
    exact ⟨retB (unhide HE), abG _⟩
  by_cases hk3 : (X.known.length : Int) ≤ 300
  rotate_left
  · have HE : Hid (R = false) := by show R = false; rw [unhide HW, decide_eq_false (show ¬ X.known.length ≤ 300 by omega)]; simp
    go_wp2_with fail
    go_ret
    exact ⟨retB (unhide HE), abG _⟩
  go_wp2_with fail
  refine (unhide HC1 _ (abG _)).mono ?_
  rintro e w1 ⟨rfl, hb1⟩
  have HB1 := hide (btG (abG _) hb1)
  have HX1 := hide ((unhide HX).on hb1)
  clear hb1 HX
  cases bc
  · have HE : Hid (R = false) := by show R = false; rw [unhide HW]; simp
    go_wp2_with fail
    go_ret
    exact ⟨retB (unhide HE), unhide HB1⟩
  have c4 : w1.cell? ⟨w.heap.size, 4, none⟩ = some (.slice ah X.hosts.length ch) := (unhide HX1).cell rfl
  go_wp2_with fail
  refine (unhide HC2 _ (unhide HB1)).mono ?_
  rintro e w2 ⟨rfl, hb2⟩
  have HB2 := hide (btG (unhide HB1) hb2)
  have HX2 := hide ((unhide HX1).on hb2)
  clear hb2 HX1 HB1 c4
  cases bh
  · have HE : Hid (R = false) := by show R = false; rw [unhide HW]; simp
    go_wp2_with fail
    go_ret
    exact ⟨retB (unhide HE), unhide HB2⟩
  have c5 : w2.cell? ⟨w.heap.size, 5, none⟩ = some (.slice al X.letters.length cl) := (unhide HX2).cell rfl
  have c6 : w2.cell? ⟨w.heap.size, 6, none⟩ = some (.string X.book) := (unhide HX2).cell rfl
  have c7 : w2.cell? ⟨w.heap.size, 7, none⟩ = some (.int .i64 X.sure) := (unhide HX2).cell rfl
  by_cases hl3 : (X.letters.length : Int) ≤ 30
  rotate_left
  · have HE : Hid (R = false) := by show R = false; rw [unhide HW, decide_eq_false (show ¬ X.letters.length ≤ 30 by omega)]; simp
    go_wp2_with fail
    go_ret
    exact ⟨retB (unhide HE), unhide HB2⟩
  by_cases hb3 : (X.book.size : Int) ≤ 12000
  rotate_left
  · have HE : Hid (R = false) := by show R = false; rw [unhide HW, decide_eq_false (show ¬ X.book.size ≤ 12000 by omega)]; simp
    go_wp2_with fail
    go_ret
    exact ⟨retB (unhide HE), unhide HB2⟩
  go_wp2_with fail
  refine (unhide HI3 _).mono ?_
  rintro e w3 ⟨rfl, rfl⟩
  cases bs
  · have HE : Hid (R = false) := by show R = false; rw [unhide HW]; simp
    go_wp2_with fail
    go_ret
    exact ⟨retB (unhide HE), unhide HB2⟩
  have HW2 : Hid (R = (X.known.all okT && (X.letters.all leOk && (bd && bo)))) := by show R = _; rw [unhide HW, decide_eq_true (show X.known.length ≤ 300 by omega), decide_eq_true (show X.letters.length ≤ 30 by omega), decide_eq_true (show X.book.size ≤ 12000 by omega)]; rfl
  clear HW c5 c6 c7
  go_wp2_with fail
  go_loopw [3] (fun i wr => ∃ k : Nat, i = .int .i64 k ∧ Below w3.heap.size w3 wr ∧ k ≤ X.known.length ∧ ∀ j x, j < k → X.known[j]? = some x → okT x = true) (fun i _ => X.known.length - (intOf i).toNat)
  case atStart => exact ⟨0, rfl, Below.refl _ _, by omega, fun j x hj => by omega⟩
  case round =>
    obtain ⟨k, rfl, hb, hk, ha⟩ := hrel
    have HBrp := hide hb
    have HAp := hide ha
    clear ha
    have c2 : wr.cell? ⟨w.heap.size, 2, none⟩ = some (.slice ak X.known.length ck) := ((unhide HX2).on hb).cell rfl
    by_cases hp : k < X.known.length
    · obtain ⟨x, hkx⟩ : ∃ x, X.known[k]? = some x := ⟨_, List.getElem?_eq_getElem hp⟩
      obtain ⟨b, o, cs, hba, -, -, HR0, HT2, hcl0⟩ := ((unhide HYk).on (btG (unhide HB2) hb)).get hkx
      subst hba
      have HR := hide (show wr.rangeAt b (o + k * 4) cs from HR0)
      have hcl := hide (show cs.length = 4 from hcl0)
      have HC := hide (tmOkS x cs wr HT2 (unhide HKW x (List.mem_of_getElem? hkx)))
      have q2 : (k : Int) < (X.known.length : Int) := by omega
      have q3 : (0 : Int) ≤ (k : Int) := by omega
      have w1 : wrap64 ((k : Int) + 1) = ((k + 1 : Nat) : Int) := by unfold wrap64; omega
      have HK := hide hkx
      have HM : Hid (okT x = true → ∀ j y, j < k + 1 → X.known[j]? = some y → okT y = true) := fun hx j y hj hy => by
        rcases Nat.lt_or_ge j k with q | q
        · exact unhide HAp j y q hy
        · obtain rfl : j = k := by omega
          rw [unhide HK] at hy
          cases hy
          exact hx
      have HN : Hid (okT x = false → X.known.all okT = false) := fun hx => List.all_eq_false.2 ⟨x, List.mem_of_getElem? (unhide HK), by simp [hx]⟩
      clear hkx HR0 HT2 hcl0 hb
      generalize okT x = fx at *
      cases fx with
      | true =>
        go_wp2_with (refine wpList_load_mid rfl _ _ rfl b (o + k * 4) rfl cs _ (unhide HR) Tryz.underlying56 rfl (by rw [unhide hcl]; exact infoITm) ?_)
        refine (unhide HC).mono ?_
        rintro e w3 ⟨rfl, hb3⟩
        have HB3 := hide (btG (unhide HBrp) hb3)
        clear hb3
        go_wp2_with fail
        go_roundw
        case rel => exact ⟨k + 1, rfl, unhide HB3, by omega, unhide HM (by first | rfl | trivial)⟩
        case measure => simp only [intOf]; omega
      | false =>
        have HE : Hid (R = false) := by show R = false; rw [unhide HW2, unhide HN rfl]; simp
        go_wp2_with (refine wpList_load_mid rfl _ _ rfl b (o + k * 4) rfl cs _ (unhide HR) Tryz.underlying56 rfl (by rw [unhide hcl]; exact infoITm) ?_)
        refine (unhide HC).mono ?_
        rintro e w3 ⟨rfl, hb3⟩
        have HB3 := hide (btG (unhide HBrp) hb3)
        clear hb3
        go_wp2_with fail
        go_ret
        exact ⟨retB (unhide HE), btG (unhide HB2) (unhide HB3)⟩
    · have cN : ¬ (k : Int) < (X.known.length : Int) := by omega
      have HAll : X.known.all okT = true := List.all_eq_true.2 fun x hx => by
        obtain ⟨j, hj⟩ := List.getElem?_of_mem hx
        exact unhide HAp j x (by have := (List.getElem?_eq_some_iff.1 hj).1; omega) hj
      obtain ⟨V1, hV1⟩ : ∃ V, V = wr := ⟨_, rfl⟩
      have HXa : Hid (Box V1 w.heap.size 40 [.int .i64 X.time, .int .i64 X.fresh, .slice ak X.known.length ck, .slice ac X.cache.length cc, .slice ah X.hosts.length ch, .slice al X.letters.length cl, .string X.book, .int .i64 X.sure, .slice aa X.calls.length ca, .slice az X.talks.length cz, .slice ai X.told.length ci]) := by rw [hV1]; exact (unhide HX2).on hb
      have HBa : Hid (Below w.heap.size w V1) := by rw [hV1]; exact btG (unhide HB2) hb
      have HW2 : Hid (R = (X.letters.all leOk && (bd && bo))) := by show R = _; rw [unhide HW2, HAll]; rfl
      rw [← hV1] at c2 ⊢
      clear hV1 hb HAll
      go_wp2_with fail
      go_loopw [4] (fun i wr => ∃ k : Nat, i = .int .i64 k ∧ Below V1.heap.size V1 wr ∧ k ≤ X.letters.length ∧ ∀ j x, j < k → X.letters[j]? = some x → leOk x = true) (fun i _ => X.letters.length - (intOf i).toNat)
      case atStart => exact ⟨0, rfl, Below.refl _ _, by omega, fun j x hj => by omega⟩
      case round =>
        obtain ⟨k, rfl, hb, hk, ha⟩ := hrel
        have HBrq := hide hb
        have HAq := hide ha
        clear ha
        have c5 : wr.cell? ⟨w.heap.size, 5, none⟩ = some (.slice al X.letters.length cl) := ((unhide HXa).on hb).cell rfl
        by_cases hp : k < X.letters.length
        · obtain ⟨x, hkx⟩ : ∃ x, X.letters[k]? = some x := ⟨_, List.getElem?_eq_getElem hp⟩
          obtain ⟨b, o, cs, hba, -, -, HR0, HT2, hcl0⟩ := ((unhide HYl).on (btG (unhide HBa) hb)).get hkx
          subst hba
          have HR := hide (show wr.rangeAt b (o + k * 5) cs from HR0)
          have hcl := hide (show cs.length = 5 from hcl0)
          have HC := hide (leOkS x cs wr HT2 (unhide HLW x (List.mem_of_getElem? hkx)))
          have q2 : (k : Int) < (X.letters.length : Int) := by omega
          have q3 : (0 : Int) ≤ (k : Int) := by omega
          have w1 : wrap64 ((k : Int) + 1) = ((k + 1 : Nat) : Int) := by unfold wrap64; omega
          have HK := hide hkx
          have HM : Hid (leOk x = true → ∀ j y, j < k + 1 → X.letters[j]? = some y → leOk y = true) := fun hx j y hj hy => by
            rcases Nat.lt_or_ge j k with q | q
            · exact unhide HAq j y q hy
            · obtain rfl : j = k := by omega
              rw [unhide HK] at hy
              cases hy
              exact hx
          have HN : Hid (leOk x = false → X.letters.all leOk = false) := fun hx => List.all_eq_false.2 ⟨x, List.mem_of_getElem? (unhide HK), by simp [hx]⟩
          clear hkx HR0 HT2 hcl0 hb
          generalize leOk x = fx at *
          cases fx with
          | true =>
            go_wp2_with (refine wpList_load_mid rfl _ _ rfl b (o + k * 5) rfl cs _ (unhide HR) Tryz.underlying59 rfl (by rw [unhide hcl]; exact infoILe) ?_)
            refine (unhide HC).mono ?_
            rintro e w3 ⟨rfl, hb3⟩
            have HB3 := hide (btG (unhide HBrq) hb3)
            clear hb3
            go_wp2_with fail
            go_roundw
            case rel => exact ⟨k + 1, rfl, unhide HB3, by omega, unhide HM (by first | rfl | trivial)⟩
            case measure => simp only [intOf]; omega
          | false =>
            have HE : Hid (R = false) := by show R = false; rw [unhide HW2, unhide HN rfl]; simp
            go_wp2_with (refine wpList_load_mid rfl _ _ rfl b (o + k * 5) rfl cs _ (unhide HR) Tryz.underlying59 rfl (by rw [unhide hcl]; exact infoILe) ?_)
            refine (unhide HC).mono ?_
            rintro e w3 ⟨rfl, hb3⟩
            have HB3 := hide (btG (unhide HBrq) hb3)
            clear hb3
            go_wp2_with fail
            go_ret
            exact ⟨retB (unhide HE), btG (unhide HBa) (unhide HB3)⟩
        · have cN : ¬ (k : Int) < (X.letters.length : Int) := by omega
          have HAll : X.letters.all leOk = true := List.all_eq_true.2 fun x hx => by
            obtain ⟨j, hj⟩ := List.getElem?_of_mem hx
            exact unhide HAq j x (by have := (List.getElem?_eq_some_iff.1 hj).1; omega) hj
          obtain ⟨V2, hV2⟩ : ∃ V, V = wr := ⟨_, rfl⟩
          have HXb : Hid (Box V2 w.heap.size 40 [.int .i64 X.time, .int .i64 X.fresh, .slice ak X.known.length ck, .slice ac X.cache.length cc, .slice ah X.hosts.length ch, .slice al X.letters.length cl, .string X.book, .int .i64 X.sure, .slice aa X.calls.length ca, .slice az X.talks.length cz, .slice ai X.told.length ci]) := by rw [hV2]; exact (unhide HXa).on hb
          have HBb : Hid (Below w.heap.size w V2) := by rw [hV2]; exact btG (unhide HBa) hb
          have HW2 : Hid (R = (bd && bo)) := by show R = _; rw [unhide HW2, HAll]; rfl
          rw [← hV2] at c5 ⊢
          clear hV2 hb HAll
          go_wp2_with fail
          go_loopw [5] (fun i wr => ∃ k : Nat, i = .int .i64 k ∧ Below V2.heap.size V2 wr ∧ k ≤ X.told.length ∧ toldP X.told k) (fun i _ => X.told.length - (intOf i).toNat)
          case atStart => exact ⟨0, rfl, Below.refl _ _, by omega, fun j x hj => by omega⟩
          case round =>
            obtain ⟨k, rfl, hb, hk, ha⟩ := hrel
            have HBr := hide hb
            have HA := hide ha
            clear ha
            have c10 : wr.cell? ⟨w.heap.size, 10, none⟩ = some (.slice ai X.told.length ci) := ((unhide HXb).on hb).cell rfl
            by_cases hp : k < X.told.length
            · obtain ⟨x, hkx⟩ : ∃ x, X.told[k]? = some x := ⟨_, List.getElem?_eq_getElem hp⟩
              obtain ⟨b, o, hba, -, c0⟩ := ((unhide HYd).on (btG (unhide HBb) hb)) k x hkx
              subst hba
              have q2 : (k : Int) < (X.told.length : Int) := by omega
              have q3 : (0 : Int) ≤ (k : Int) := by omega
              have w1 : wrap64 ((k : Int) + 1) = ((k + 1 : Nat) : Int) := by unfold wrap64; omega
              have HQ := hide (fun v => in26 x 0 1000000 v)
              have HK := hide hkx
              clear hkx hb
              cases hx : inB x 0 1000000 with
              | false =>
                have HD : Hid (bd = false) := (unhide HTD).2 fun hq => by have := (hq k x (by omega) (unhide HK)).1; rw [hx] at this; cases this
                have HE : Hid (R = false) := by show R = false; rw [unhide HW2, unhide HD]; simp
                rw [hx] at HQ
                clear hx
                go_wp2_with fail
                refine wp_region_held (S := fun y => y.cell? ⟨w.heap.size, 10, none⟩ = some (.slice (some ⟨b, o, none⟩) X.told.length ci) ∧ y.cell? ⟨b, o + k, none⟩ = some (.int .i64 x)) Tryz.mixedO ?_
                have hS : (fun y : World => y.cell? ⟨w.heap.size, 10, none⟩ = some (.slice (some ⟨b, o, none⟩) X.told.length ci) ∧ y.cell? ⟨b, o + k, none⟩ = some (.int .i64 x)) wr.drew := ⟨c10, c0⟩
                show wpAnyH _ _ _ _ _ _ _ _ wr.drew
                refine wpAnyH_take (i := 0) (oi := { dst := some 90, op := Op.fieldAddr 40 (Operand.tmp 1) 10, type := 0, pos := "l13_world.go:50", after := #[], guard := none }) (v := ?_) rfl (by kernel_rfl) (by kernel_rfl) (by kernel_rfl) (fun _ _ _ h => h) (Or.inl ⟨by rfl, ?_⟩) hS ?_
                rotate_left
                · intro y hSy; obtain ⟨y0, y1⟩ := hSy; go_simp; try with_reducible rfl
                simp only [Act.put, List.setIfInBounds_toArray, List.set_cons_succ, List.set_cons_zero]
                refine wpAnyH_take (i := 1) (oi := { dst := some 91, op := Op.load 28 (Operand.tmp 90), type := 28, pos := "l13_world.go:50", after := #[{ on := 0, ground := Ground.data }], guard := none }) (v := ?_) rfl (by kernel_rfl) (by kernel_rfl) (by kernel_rfl) (fun _ _ _ h => h) (Or.inl ⟨by rfl, ?_⟩) hS ?_
                rotate_left
                · intro y hSy; obtain ⟨y0, y1⟩ := hSy; go_simp; try with_reducible rfl
                simp only [Act.put, List.setIfInBounds_toArray, List.set_cons_succ, List.set_cons_zero]
                refine wpAnyH_take (i := 2) (oi := { dst := some 92, op := Op.move (Operand.tmp 5), type := 3, pos := "l13_world.go:50", after := #[], guard := none }) (v := ?_) rfl (by kernel_rfl) (by kernel_rfl) (by kernel_rfl) (fun _ _ _ h => h) (Or.inl ⟨by rfl, ?_⟩) hS ?_
                rotate_left
                · intro y hSy; obtain ⟨y0, y1⟩ := hSy; go_simp; try with_reducible rfl
                simp only [Act.put, List.setIfInBounds_toArray, List.set_cons_succ, List.set_cons_zero]
                refine wpAnyH_take (i := 3) (oi := { dst := some 93, op := Op.indexAddr 28 (Operand.tmp 91) (Operand.tmp 92), type := 0, pos := "l13_world.go:50", after := #[{ on := 1, ground := Ground.data }, { on := 2, ground := Ground.data }], guard := none }) (v := ?_) rfl (by kernel_rfl) (by kernel_rfl) (by kernel_rfl) (fun _ _ _ h => h) (Or.inl ⟨by rfl, ?_⟩) hS ?_
                rotate_left
                · intro y hSy; obtain ⟨y0, y1⟩ := hSy; go_simp; try with_reducible rfl
                simp only [Act.put, List.setIfInBounds_toArray, List.set_cons_succ, List.set_cons_zero]
                refine wpAnyH_take (i := 4) (oi := { dst := some 94, op := Op.load 3 (Operand.tmp 93), type := 3, pos := "l13_world.go:50", after := #[{ on := 3, ground := Ground.data }], guard := none }) (v := ?_) rfl (by kernel_rfl) (by kernel_rfl) (by kernel_rfl) (fun _ _ _ h => h) (Or.inl ⟨by rfl, ?_⟩) hS ?_
                rotate_left
                · intro y hSy; obtain ⟨y0, y1⟩ := hSy; go_simp; try with_reducible rfl
                simp only [Act.put, List.setIfInBounds_toArray, List.set_cons_succ, List.set_cons_zero]
                refine wpAnyH_all (rs := [5]) (by kernel_rfl) (by simp) ?_
                intro i hi
                simp only [List.mem_singleton] at hi
                subst hi
                refine step_call (f := 16) (fn := Tryz.f16) (d := 95) (args := #[.int .i64 x, .int .i64 0, .int .i64 1000000]) rfl Tryz.func16 (by kernel_rfl) (by kernel_rfl) (by simp [Act.eval]) ?_
                refine (unhide HQ _).mono ?_
                rintro e w2 ⟨rfl, rfl⟩
                refine ⟨_, rfl, ?_⟩
                refine ⟨hS, ?_⟩
                simp only [Act.put, List.setIfInBounds_toArray, List.set_cons_succ, List.set_cons_zero]
                refine wpAnyH_take (i := 6) (oi := { dst := some 96, op := Op.unOp UnOp.not 4 (Operand.tmp 95), type := 4, pos := "l13_world.go:50", after := #[{ on := 5, ground := Ground.data }], guard := none }) (v := ?_) rfl (by kernel_rfl) (by kernel_rfl) (by kernel_rfl) (fun _ _ _ h => h) (Or.inl ⟨by rfl, ?_⟩) hS ?_
                rotate_left
                · intro y hSy; obtain ⟨y0, y1⟩ := hSy; go_simp; try with_reducible rfl
                simp only [Act.put, List.setIfInBounds_toArray, List.set_cons_succ, List.set_cons_zero]
                refine wpAnyH_take (i := 7) (oi := { dst := some 97, op := Op.move (Operand.tmp 96), type := 4, pos := "l13_world.go:50", after := #[{ on := 6, ground := Ground.data }, { on := 5, ground := Ground.chain }], guard := none }) (v := ?_) rfl (by kernel_rfl) (by kernel_rfl) (by kernel_rfl) (fun _ _ _ h => h) (Or.inl ⟨by rfl, ?_⟩) hS ?_
                rotate_left
                · intro y hSy; obtain ⟨y0, y1⟩ := hSy; go_simp; try with_reducible rfl
                simp only [Act.put, List.setIfInBounds_toArray, List.set_cons_succ, List.set_cons_zero]
                refine wpAnyH_take (i := 8) (oi := { dst := some 98, op := Op.move (Operand.tmp 5), type := 3, pos := "l13_world.go:50", after := #[{ on := 7, ground := Ground.guard }], guard := some (7, false) }) (v := undef) rfl (by kernel_rfl) (by kernel_rfl) (by kernel_rfl) (fun _ _ _ h => h) (Or.inr ⟨by rfl, rfl⟩) hS ?_
                simp only [Act.put, List.setIfInBounds_toArray, List.set_cons_succ, List.set_cons_zero]
                refine wpAnyH_take (i := 9) (oi := { dst := some 99, op := Op.binOp BinOp.gtr 3 (Operand.tmp 98) (Operand.const (Value.int IntKind.i64 0)) 3, type := 4, pos := "l13_world.go:50", after := #[{ on := 8, ground := Ground.data }, { on := 7, ground := Ground.guard }], guard := some (7, false) }) (v := undef) rfl (by kernel_rfl) (by kernel_rfl) (by kernel_rfl) (fun _ _ _ h => h) (Or.inr ⟨by rfl, rfl⟩) hS ?_
                simp only [Act.put, List.setIfInBounds_toArray, List.set_cons_succ, List.set_cons_zero]
                refine wpAnyH_take (i := 10) (oi := { dst := some 100, op := Op.move (Operand.tmp 99), type := 4, pos := "l13_world.go:50", after := #[{ on := 9, ground := Ground.data }, { on := 7, ground := Ground.chain }, { on := 7, ground := Ground.guard }], guard := some (7, false) }) (v := undef) rfl (by kernel_rfl) (by kernel_rfl) (by kernel_rfl) (fun _ _ _ h => h) (Or.inr ⟨by rfl, rfl⟩) hS ?_
                simp only [Act.put, List.setIfInBounds_toArray, List.set_cons_succ, List.set_cons_zero]
                refine wpAnyH_take (i := 11) (oi := { dst := some 101, op := Op.fieldAddr 40 (Operand.tmp 1) 10, type := 0, pos := "l13_world.go:50", after := #[{ on := 10, ground := Ground.guard }], guard := some (10, true) }) (v := undef) rfl (by kernel_rfl) (by kernel_rfl) (by kernel_rfl) (fun _ _ _ h => h) (Or.inr ⟨by rfl, rfl⟩) hS ?_
                simp only [Act.put, List.setIfInBounds_toArray, List.set_cons_succ, List.set_cons_zero]
                refine wpAnyH_take (i := 12) (oi := { dst := some 102, op := Op.load 28 (Operand.tmp 101), type := 28, pos := "l13_world.go:50", after := #[{ on := 11, ground := Ground.data }, { on := 10, ground := Ground.guard }], guard := some (10, true) }) (v := undef) rfl (by kernel_rfl) (by kernel_rfl) (by kernel_rfl) (fun _ _ _ h => h) (Or.inr ⟨by rfl, rfl⟩) hS ?_
                simp only [Act.put, List.setIfInBounds_toArray, List.set_cons_succ, List.set_cons_zero]
                refine wpAnyH_take (i := 13) (oi := { dst := some 103, op := Op.move (Operand.tmp 5), type := 3, pos := "l13_world.go:50", after := #[{ on := 10, ground := Ground.guard }], guard := some (10, true) }) (v := undef) rfl (by kernel_rfl) (by kernel_rfl) (by kernel_rfl) (fun _ _ _ h => h) (Or.inr ⟨by rfl, rfl⟩) hS ?_
                simp only [Act.put, List.setIfInBounds_toArray, List.set_cons_succ, List.set_cons_zero]
                refine wpAnyH_take (i := 14) (oi := { dst := some 104, op := Op.binOp BinOp.sub 3 (Operand.tmp 103) (Operand.const (Value.int IntKind.i64 1)) 3, type := 3, pos := "l13_world.go:50", after := #[{ on := 13, ground := Ground.data }, { on := 10, ground := Ground.guard }], guard := some (10, true) }) (v := undef) rfl (by kernel_rfl) (by kernel_rfl) (by kernel_rfl) (fun _ _ _ h => h) (Or.inr ⟨by rfl, rfl⟩) hS ?_
                simp only [Act.put, List.setIfInBounds_toArray, List.set_cons_succ, List.set_cons_zero]
                refine wpAnyH_take (i := 15) (oi := { dst := some 105, op := Op.indexAddr 28 (Operand.tmp 102) (Operand.tmp 104), type := 0, pos := "l13_world.go:50", after := #[{ on := 12, ground := Ground.data }, { on := 14, ground := Ground.data }, { on := 10, ground := Ground.guard }], guard := some (10, true) }) (v := undef) rfl (by kernel_rfl) (by kernel_rfl) (by kernel_rfl) (fun _ _ _ h => h) (Or.inr ⟨by rfl, rfl⟩) hS ?_
                simp only [Act.put, List.setIfInBounds_toArray, List.set_cons_succ, List.set_cons_zero]
                refine wpAnyH_take (i := 16) (oi := { dst := some 106, op := Op.load 3 (Operand.tmp 105), type := 3, pos := "l13_world.go:50", after := #[{ on := 15, ground := Ground.data }, { on := 10, ground := Ground.guard }], guard := some (10, true) }) (v := undef) rfl (by kernel_rfl) (by kernel_rfl) (by kernel_rfl) (fun _ _ _ h => h) (Or.inr ⟨by rfl, rfl⟩) hS ?_
                simp only [Act.put, List.setIfInBounds_toArray, List.set_cons_succ, List.set_cons_zero]
                refine wpAnyH_take (i := 17) (oi := { dst := some 107, op := Op.fieldAddr 40 (Operand.tmp 1) 10, type := 0, pos := "l13_world.go:50", after := #[{ on := 10, ground := Ground.guard }], guard := some (10, true) }) (v := undef) rfl (by kernel_rfl) (by kernel_rfl) (by kernel_rfl) (fun _ _ _ h => h) (Or.inr ⟨by rfl, rfl⟩) hS ?_
                simp only [Act.put, List.setIfInBounds_toArray, List.set_cons_succ, List.set_cons_zero]
                refine wpAnyH_take (i := 18) (oi := { dst := some 108, op := Op.load 28 (Operand.tmp 107), type := 28, pos := "l13_world.go:50", after := #[{ on := 17, ground := Ground.data }, { on := 10, ground := Ground.guard }], guard := some (10, true) }) (v := undef) rfl (by kernel_rfl) (by kernel_rfl) (by kernel_rfl) (fun _ _ _ h => h) (Or.inr ⟨by rfl, rfl⟩) hS ?_
                simp only [Act.put, List.setIfInBounds_toArray, List.set_cons_succ, List.set_cons_zero]
                refine wpAnyH_take (i := 19) (oi := { dst := some 109, op := Op.move (Operand.tmp 5), type := 3, pos := "l13_world.go:50", after := #[{ on := 10, ground := Ground.guard }], guard := some (10, true) }) (v := undef) rfl (by kernel_rfl) (by kernel_rfl) (by kernel_rfl) (fun _ _ _ h => h) (Or.inr ⟨by rfl, rfl⟩) hS ?_
                simp only [Act.put, List.setIfInBounds_toArray, List.set_cons_succ, List.set_cons_zero]
                refine wpAnyH_take (i := 20) (oi := { dst := some 110, op := Op.indexAddr 28 (Operand.tmp 108) (Operand.tmp 109), type := 0, pos := "l13_world.go:50", after := #[{ on := 18, ground := Ground.data }, { on := 19, ground := Ground.data }, { on := 10, ground := Ground.guard }], guard := some (10, true) }) (v := undef) rfl (by kernel_rfl) (by kernel_rfl) (by kernel_rfl) (fun _ _ _ h => h) (Or.inr ⟨by rfl, rfl⟩) hS ?_
                simp only [Act.put, List.setIfInBounds_toArray, List.set_cons_succ, List.set_cons_zero]
                refine wpAnyH_take (i := 21) (oi := { dst := some 111, op := Op.load 3 (Operand.tmp 110), type := 3, pos := "l13_world.go:50", after := #[{ on := 20, ground := Ground.data }, { on := 10, ground := Ground.guard }], guard := some (10, true) }) (v := undef) rfl (by kernel_rfl) (by kernel_rfl) (by kernel_rfl) (fun _ _ _ h => h) (Or.inr ⟨by rfl, rfl⟩) hS ?_
                simp only [Act.put, List.setIfInBounds_toArray, List.set_cons_succ, List.set_cons_zero]
                refine wpAnyH_take (i := 22) (oi := { dst := some 112, op := Op.binOp BinOp.geq 3 (Operand.tmp 106) (Operand.tmp 111) 3, type := 4, pos := "l13_world.go:50", after := #[{ on := 16, ground := Ground.data }, { on := 21, ground := Ground.data }, { on := 10, ground := Ground.guard }], guard := some (10, true) }) (v := undef) rfl (by kernel_rfl) (by kernel_rfl) (by kernel_rfl) (fun _ _ _ h => h) (Or.inr ⟨by rfl, rfl⟩) hS ?_
                simp only [Act.put, List.setIfInBounds_toArray, List.set_cons_succ, List.set_cons_zero]
                refine wpAnyH_take (i := 23) (oi := { dst := some 113, op := Op.pick (Operand.tmp 100) (Operand.tmp 112) (Operand.const (Value.bool false)), type := 4, pos := "l13_world.go:50", after := #[{ on := 10, ground := Ground.data }, { on := 22, ground := Ground.data }, { on := 7, ground := Ground.guard }], guard := some (7, false) }) (v := undef) rfl (by kernel_rfl) (by kernel_rfl) (by kernel_rfl) (fun _ _ _ h => h) (Or.inr ⟨by rfl, rfl⟩) hS ?_
                simp only [Act.put, List.setIfInBounds_toArray, List.set_cons_succ, List.set_cons_zero]
                refine wpAnyH_take (i := 24) (oi := { dst := some 114, op := Op.pick (Operand.tmp 97) (Operand.const (Value.bool true)) (Operand.tmp 113), type := 4, pos := "l13_world.go:50", after := #[{ on := 7, ground := Ground.data }, { on := 23, ground := Ground.data }], guard := none }) (v := ?_) rfl (by kernel_rfl) (by kernel_rfl) (by kernel_rfl) (fun _ _ _ h => h) (Or.inl ⟨by rfl, ?_⟩) hS ?_
                rotate_left
                · intro y hSy; obtain ⟨y0, y1⟩ := hSy; go_simp; try with_reducible rfl
                simp only [Act.put, List.setIfInBounds_toArray, List.set_cons_succ, List.set_cons_zero]
                refine wpAnyH_done (by kernel_rfl) ?_ _
                go_wp2_with fail
                go_ret
                exact ⟨retB (unhide HE), (btG (unhide HBb) (unhide HBr)).drew⟩
              | true =>
                have HX := hide hx
                rw [hx] at HQ
                clear hx
                by_cases hk0 : k = 0
                · subst hk0
                  have HM : Hid (toldP X.told 1) := fun j y hj hy => by
                    obtain rfl : j = 0 := by omega
                    rw [unhide HK] at hy
                    cases hy
                    exact ⟨unhide HX, fun z hz hq => absurd rfl hq⟩
                  have c0' : wr.cell? ⟨b, o, none⟩ = some (.int .i64 x) := c0
                  clear c0
                  go_wp2_with fail
                  refine wp_region_held (S := fun y => y.cell? ⟨w.heap.size, 10, none⟩ = some (.slice (some ⟨b, o, none⟩) X.told.length ci) ∧ y.cell? ⟨b, o, none⟩ = some (.int .i64 x)) Tryz.mixedO ?_
                  have hS : (fun y : World => y.cell? ⟨w.heap.size, 10, none⟩ = some (.slice (some ⟨b, o, none⟩) X.told.length ci) ∧ y.cell? ⟨b, o, none⟩ = some (.int .i64 x)) wr.drew := ⟨c10, c0'⟩
                  show wpAnyH _ _ _ _ _ _ _ _ wr.drew
                  refine wpAnyH_take (i := 0) (oi := { dst := some 90, op := Op.fieldAddr 40 (Operand.tmp 1) 10, type := 0, pos := "l13_world.go:50", after := #[], guard := none }) (v := ?_) rfl (by kernel_rfl) (by kernel_rfl) (by kernel_rfl) (fun _ _ _ h => h) (Or.inl ⟨by rfl, ?_⟩) hS ?_
                  rotate_left
                  · intro y hSy; obtain ⟨y0, y1⟩ := hSy; go_simp; try with_reducible rfl
                  simp only [Act.put, List.setIfInBounds_toArray, List.set_cons_succ, List.set_cons_zero]
                  refine wpAnyH_take (i := 1) (oi := { dst := some 91, op := Op.load 28 (Operand.tmp 90), type := 28, pos := "l13_world.go:50", after := #[{ on := 0, ground := Ground.data }], guard := none }) (v := ?_) rfl (by kernel_rfl) (by kernel_rfl) (by kernel_rfl) (fun _ _ _ h => h) (Or.inl ⟨by rfl, ?_⟩) hS ?_
                  rotate_left
                  · intro y hSy; obtain ⟨y0, y1⟩ := hSy; go_simp; try with_reducible rfl
                  simp only [Act.put, List.setIfInBounds_toArray, List.set_cons_succ, List.set_cons_zero]
                  refine wpAnyH_take (i := 2) (oi := { dst := some 92, op := Op.move (Operand.tmp 5), type := 3, pos := "l13_world.go:50", after := #[], guard := none }) (v := ?_) rfl (by kernel_rfl) (by kernel_rfl) (by kernel_rfl) (fun _ _ _ h => h) (Or.inl ⟨by rfl, ?_⟩) hS ?_
                  rotate_left
                  · intro y hSy; obtain ⟨y0, y1⟩ := hSy; go_simp; try with_reducible rfl
                  simp only [Act.put, List.setIfInBounds_toArray, List.set_cons_succ, List.set_cons_zero]
                  refine wpAnyH_take (i := 3) (oi := { dst := some 93, op := Op.indexAddr 28 (Operand.tmp 91) (Operand.tmp 92), type := 0, pos := "l13_world.go:50", after := #[{ on := 1, ground := Ground.data }, { on := 2, ground := Ground.data }], guard := none }) (v := ?_) rfl (by kernel_rfl) (by kernel_rfl) (by kernel_rfl) (fun _ _ _ h => h) (Or.inl ⟨by rfl, ?_⟩) hS ?_
                  rotate_left
                  · intro y hSy; obtain ⟨y0, y1⟩ := hSy; go_simp; try with_reducible rfl
                  simp only [Act.put, List.setIfInBounds_toArray, List.set_cons_succ, List.set_cons_zero]
                  refine wpAnyH_take (i := 4) (oi := { dst := some 94, op := Op.load 3 (Operand.tmp 93), type := 3, pos := "l13_world.go:50", after := #[{ on := 3, ground := Ground.data }], guard := none }) (v := ?_) rfl (by kernel_rfl) (by kernel_rfl) (by kernel_rfl) (fun _ _ _ h => h) (Or.inl ⟨by rfl, ?_⟩) hS ?_
                  rotate_left
                  · intro y hSy; obtain ⟨y0, y1⟩ := hSy; go_simp; try with_reducible rfl
                  simp only [Act.put, List.setIfInBounds_toArray, List.set_cons_succ, List.set_cons_zero]
                  refine wpAnyH_all (rs := [5]) (by kernel_rfl) (by simp) ?_
                  intro i hi
                  simp only [List.mem_singleton] at hi
                  subst hi
                  refine step_call (f := 16) (fn := Tryz.f16) (d := 95) (args := #[.int .i64 x, .int .i64 0, .int .i64 1000000]) rfl Tryz.func16 (by kernel_rfl) (by kernel_rfl) (by simp [Act.eval]) ?_
                  refine (unhide HQ _).mono ?_
                  rintro e w2 ⟨rfl, rfl⟩
                  refine ⟨_, rfl, ?_⟩
                  refine ⟨hS, ?_⟩
                  simp only [Act.put, List.setIfInBounds_toArray, List.set_cons_succ, List.set_cons_zero]
                  refine wpAnyH_take (i := 6) (oi := { dst := some 96, op := Op.unOp UnOp.not 4 (Operand.tmp 95), type := 4, pos := "l13_world.go:50", after := #[{ on := 5, ground := Ground.data }], guard := none }) (v := ?_) rfl (by kernel_rfl) (by kernel_rfl) (by kernel_rfl) (fun _ _ _ h => h) (Or.inl ⟨by rfl, ?_⟩) hS ?_
                  rotate_left
                  · intro y hSy; obtain ⟨y0, y1⟩ := hSy; go_simp; try with_reducible rfl
                  simp only [Act.put, List.setIfInBounds_toArray, List.set_cons_succ, List.set_cons_zero]
                  refine wpAnyH_take (i := 7) (oi := { dst := some 97, op := Op.move (Operand.tmp 96), type := 4, pos := "l13_world.go:50", after := #[{ on := 6, ground := Ground.data }, { on := 5, ground := Ground.chain }], guard := none }) (v := ?_) rfl (by kernel_rfl) (by kernel_rfl) (by kernel_rfl) (fun _ _ _ h => h) (Or.inl ⟨by rfl, ?_⟩) hS ?_
                  rotate_left
                  · intro y hSy; obtain ⟨y0, y1⟩ := hSy; go_simp; try with_reducible rfl
                  simp only [Act.put, List.setIfInBounds_toArray, List.set_cons_succ, List.set_cons_zero]
                  refine wpAnyH_take (i := 8) (oi := { dst := some 98, op := Op.move (Operand.tmp 5), type := 3, pos := "l13_world.go:50", after := #[{ on := 7, ground := Ground.guard }], guard := some (7, false) }) (v := ?_) rfl (by kernel_rfl) (by kernel_rfl) (by kernel_rfl) (fun _ _ _ h => h) (Or.inl ⟨by rfl, ?_⟩) hS ?_
                  rotate_left
                  · intro y hSy; obtain ⟨y0, y1⟩ := hSy; go_simp; try with_reducible rfl
                  simp only [Act.put, List.setIfInBounds_toArray, List.set_cons_succ, List.set_cons_zero]
                  refine wpAnyH_take (i := 9) (oi := { dst := some 99, op := Op.binOp BinOp.gtr 3 (Operand.tmp 98) (Operand.const (Value.int IntKind.i64 0)) 3, type := 4, pos := "l13_world.go:50", after := #[{ on := 8, ground := Ground.data }, { on := 7, ground := Ground.guard }], guard := some (7, false) }) (v := ?_) rfl (by kernel_rfl) (by kernel_rfl) (by kernel_rfl) (fun _ _ _ h => h) (Or.inl ⟨by rfl, ?_⟩) hS ?_
                  rotate_left
                  · intro y hSy; obtain ⟨y0, y1⟩ := hSy; go_simp; try with_reducible rfl
                  simp only [Act.put, List.setIfInBounds_toArray, List.set_cons_succ, List.set_cons_zero]
                  refine wpAnyH_take (i := 10) (oi := { dst := some 100, op := Op.move (Operand.tmp 99), type := 4, pos := "l13_world.go:50", after := #[{ on := 9, ground := Ground.data }, { on := 7, ground := Ground.chain }, { on := 7, ground := Ground.guard }], guard := some (7, false) }) (v := ?_) rfl (by kernel_rfl) (by kernel_rfl) (by kernel_rfl) (fun _ _ _ h => h) (Or.inl ⟨by rfl, ?_⟩) hS ?_
                  rotate_left
                  · intro y hSy; obtain ⟨y0, y1⟩ := hSy; go_simp; try with_reducible rfl
                  simp only [Act.put, List.setIfInBounds_toArray, List.set_cons_succ, List.set_cons_zero]
                  refine wpAnyH_take (i := 11) (oi := { dst := some 101, op := Op.fieldAddr 40 (Operand.tmp 1) 10, type := 0, pos := "l13_world.go:50", after := #[{ on := 10, ground := Ground.guard }], guard := some (10, true) }) (v := undef) rfl (by kernel_rfl) (by kernel_rfl) (by kernel_rfl) (fun _ _ _ h => h) (Or.inr ⟨by rfl, rfl⟩) hS ?_
                  simp only [Act.put, List.setIfInBounds_toArray, List.set_cons_succ, List.set_cons_zero]
                  refine wpAnyH_take (i := 12) (oi := { dst := some 102, op := Op.load 28 (Operand.tmp 101), type := 28, pos := "l13_world.go:50", after := #[{ on := 11, ground := Ground.data }, { on := 10, ground := Ground.guard }], guard := some (10, true) }) (v := undef) rfl (by kernel_rfl) (by kernel_rfl) (by kernel_rfl) (fun _ _ _ h => h) (Or.inr ⟨by rfl, rfl⟩) hS ?_
                  simp only [Act.put, List.setIfInBounds_toArray, List.set_cons_succ, List.set_cons_zero]
                  refine wpAnyH_take (i := 13) (oi := { dst := some 103, op := Op.move (Operand.tmp 5), type := 3, pos := "l13_world.go:50", after := #[{ on := 10, ground := Ground.guard }], guard := some (10, true) }) (v := undef) rfl (by kernel_rfl) (by kernel_rfl) (by kernel_rfl) (fun _ _ _ h => h) (Or.inr ⟨by rfl, rfl⟩) hS ?_
                  simp only [Act.put, List.setIfInBounds_toArray, List.set_cons_succ, List.set_cons_zero]
                  refine wpAnyH_take (i := 14) (oi := { dst := some 104, op := Op.binOp BinOp.sub 3 (Operand.tmp 103) (Operand.const (Value.int IntKind.i64 1)) 3, type := 3, pos := "l13_world.go:50", after := #[{ on := 13, ground := Ground.data }, { on := 10, ground := Ground.guard }], guard := some (10, true) }) (v := undef) rfl (by kernel_rfl) (by kernel_rfl) (by kernel_rfl) (fun _ _ _ h => h) (Or.inr ⟨by rfl, rfl⟩) hS ?_
                  simp only [Act.put, List.setIfInBounds_toArray, List.set_cons_succ, List.set_cons_zero]
                  refine wpAnyH_take (i := 15) (oi := { dst := some 105, op := Op.indexAddr 28 (Operand.tmp 102) (Operand.tmp 104), type := 0, pos := "l13_world.go:50", after := #[{ on := 12, ground := Ground.data }, { on := 14, ground := Ground.data }, { on := 10, ground := Ground.guard }], guard := some (10, true) }) (v := undef) rfl (by kernel_rfl) (by kernel_rfl) (by kernel_rfl) (fun _ _ _ h => h) (Or.inr ⟨by rfl, rfl⟩) hS ?_
                  simp only [Act.put, List.setIfInBounds_toArray, List.set_cons_succ, List.set_cons_zero]
                  refine wpAnyH_take (i := 16) (oi := { dst := some 106, op := Op.load 3 (Operand.tmp 105), type := 3, pos := "l13_world.go:50", after := #[{ on := 15, ground := Ground.data }, { on := 10, ground := Ground.guard }], guard := some (10, true) }) (v := undef) rfl (by kernel_rfl) (by kernel_rfl) (by kernel_rfl) (fun _ _ _ h => h) (Or.inr ⟨by rfl, rfl⟩) hS ?_
                  simp only [Act.put, List.setIfInBounds_toArray, List.set_cons_succ, List.set_cons_zero]
                  refine wpAnyH_take (i := 17) (oi := { dst := some 107, op := Op.fieldAddr 40 (Operand.tmp 1) 10, type := 0, pos := "l13_world.go:50", after := #[{ on := 10, ground := Ground.guard }], guard := some (10, true) }) (v := undef) rfl (by kernel_rfl) (by kernel_rfl) (by kernel_rfl) (fun _ _ _ h => h) (Or.inr ⟨by rfl, rfl⟩) hS ?_
                  simp only [Act.put, List.setIfInBounds_toArray, List.set_cons_succ, List.set_cons_zero]
                  refine wpAnyH_take (i := 18) (oi := { dst := some 108, op := Op.load 28 (Operand.tmp 107), type := 28, pos := "l13_world.go:50", after := #[{ on := 17, ground := Ground.data }, { on := 10, ground := Ground.guard }], guard := some (10, true) }) (v := undef) rfl (by kernel_rfl) (by kernel_rfl) (by kernel_rfl) (fun _ _ _ h => h) (Or.inr ⟨by rfl, rfl⟩) hS ?_
                  simp only [Act.put, List.setIfInBounds_toArray, List.set_cons_succ, List.set_cons_zero]
                  refine wpAnyH_take (i := 19) (oi := { dst := some 109, op := Op.move (Operand.tmp 5), type := 3, pos := "l13_world.go:50", after := #[{ on := 10, ground := Ground.guard }], guard := some (10, true) }) (v := undef) rfl (by kernel_rfl) (by kernel_rfl) (by kernel_rfl) (fun _ _ _ h => h) (Or.inr ⟨by rfl, rfl⟩) hS ?_
                  simp only [Act.put, List.setIfInBounds_toArray, List.set_cons_succ, List.set_cons_zero]
                  refine wpAnyH_take (i := 20) (oi := { dst := some 110, op := Op.indexAddr 28 (Operand.tmp 108) (Operand.tmp 109), type := 0, pos := "l13_world.go:50", after := #[{ on := 18, ground := Ground.data }, { on := 19, ground := Ground.data }, { on := 10, ground := Ground.guard }], guard := some (10, true) }) (v := undef) rfl (by kernel_rfl) (by kernel_rfl) (by kernel_rfl) (fun _ _ _ h => h) (Or.inr ⟨by rfl, rfl⟩) hS ?_
                  simp only [Act.put, List.setIfInBounds_toArray, List.set_cons_succ, List.set_cons_zero]
                  refine wpAnyH_take (i := 21) (oi := { dst := some 111, op := Op.load 3 (Operand.tmp 110), type := 3, pos := "l13_world.go:50", after := #[{ on := 20, ground := Ground.data }, { on := 10, ground := Ground.guard }], guard := some (10, true) }) (v := undef) rfl (by kernel_rfl) (by kernel_rfl) (by kernel_rfl) (fun _ _ _ h => h) (Or.inr ⟨by rfl, rfl⟩) hS ?_
                  simp only [Act.put, List.setIfInBounds_toArray, List.set_cons_succ, List.set_cons_zero]
                  refine wpAnyH_take (i := 22) (oi := { dst := some 112, op := Op.binOp BinOp.geq 3 (Operand.tmp 106) (Operand.tmp 111) 3, type := 4, pos := "l13_world.go:50", after := #[{ on := 16, ground := Ground.data }, { on := 21, ground := Ground.data }, { on := 10, ground := Ground.guard }], guard := some (10, true) }) (v := undef) rfl (by kernel_rfl) (by kernel_rfl) (by kernel_rfl) (fun _ _ _ h => h) (Or.inr ⟨by rfl, rfl⟩) hS ?_
                  simp only [Act.put, List.setIfInBounds_toArray, List.set_cons_succ, List.set_cons_zero]
                  refine wpAnyH_take (i := 23) (oi := { dst := some 113, op := Op.pick (Operand.tmp 100) (Operand.tmp 112) (Operand.const (Value.bool false)), type := 4, pos := "l13_world.go:50", after := #[{ on := 10, ground := Ground.data }, { on := 22, ground := Ground.data }, { on := 7, ground := Ground.guard }], guard := some (7, false) }) (v := ?_) rfl (by kernel_rfl) (by kernel_rfl) (by kernel_rfl) (fun _ _ _ h => h) (Or.inl ⟨by rfl, ?_⟩) hS ?_
                  rotate_left
                  · intro y hSy; obtain ⟨y0, y1⟩ := hSy; go_simp; try with_reducible rfl
                  simp only [Act.put, List.setIfInBounds_toArray, List.set_cons_succ, List.set_cons_zero]
                  refine wpAnyH_take (i := 24) (oi := { dst := some 114, op := Op.pick (Operand.tmp 97) (Operand.const (Value.bool true)) (Operand.tmp 113), type := 4, pos := "l13_world.go:50", after := #[{ on := 7, ground := Ground.data }, { on := 23, ground := Ground.data }], guard := none }) (v := ?_) rfl (by kernel_rfl) (by kernel_rfl) (by kernel_rfl) (fun _ _ _ h => h) (Or.inl ⟨by rfl, ?_⟩) hS ?_
                  rotate_left
                  · intro y hSy; obtain ⟨y0, y1⟩ := hSy; go_simp; try with_reducible rfl
                  simp only [Act.put, List.setIfInBounds_toArray, List.set_cons_succ, List.set_cons_zero]
                  refine wpAnyH_done (by kernel_rfl) ?_ _
                  go_wp2_with fail
                  go_roundw
                  case rel => exact ⟨1, by first | rfl | simp, (unhide HBr).drew, by omega, unhide HM⟩
                  case measure => simp only [intOf]; simp at hp ⊢; omega
                · obtain ⟨j, hj⟩ : ∃ j, k = j + 1 := ⟨k - 1, by omega⟩
                  obtain ⟨yy, hjy⟩ : ∃ yy, X.told[j]? = some yy := ⟨_, List.getElem?_eq_getElem (by omega)⟩
                  obtain ⟨b', o', hbo, -, c1⟩ := ((unhide HYd).on (btG (unhide HBb) (unhide HBr))) j yy hjy
                  cases hbo
                  have w3 : wrap64 ((k : Int) - 1) = (j : Int) := by unfold wrap64; omega
                  have w4 : IntKind.i64.wrap ((k : Int) - 1) = (j : Int) := (IntWalk.i64_in _ ⟨by omega, by omega⟩).trans (by omega)
                  have q5 : (0 : Int) ≤ (j : Int) := by omega
                  have q6 : (j : Int) < (X.told.length : Int) := by omega
                  have q4 : (0 : Int) < (k : Int) := by omega
                  have q10 : 0 < k := by omega
                  have q11 : decide ((0 : Int) < (k : Int)) = true := decide_eq_true q4
                  have q12 : decide (0 < k) = true := decide_eq_true q10
                  have HJ := hide hjy
                  have HKJ := hide hj
                  have q7 := hide hp
                  clear hjy hj hk0
                  by_cases hyx : yy < x
                  · have HM : Hid (toldP X.told (k + 1)) := fun i z hi hz => by
                      rcases Nat.lt_or_ge i k with q | q
                      · exact unhide HA i z q hz
                      · obtain rfl : i = k := by omega
                        rw [unhide HK] at hz
                        cases hz
                        refine ⟨unhide HX, fun u hu _ => ?_⟩
                        rw [sub1N (unhide HKJ), unhide HJ] at hu
                        cases hu
                        exact hyx
                    have hyx' : ¬ x ≤ yy := by omega
                    go_wp2_with fail
                    refine wp_region_held (S := fun y => y.cell? ⟨w.heap.size, 10, none⟩ = some (.slice (some ⟨b, o, none⟩) X.told.length ci) ∧ y.cell? ⟨b, o + k, none⟩ = some (.int .i64 x) ∧ y.cell? ⟨b, o + j, none⟩ = some (.int .i64 yy)) Tryz.mixedO ?_
                    have hS : (fun y : World => y.cell? ⟨w.heap.size, 10, none⟩ = some (.slice (some ⟨b, o, none⟩) X.told.length ci) ∧ y.cell? ⟨b, o + k, none⟩ = some (.int .i64 x) ∧ y.cell? ⟨b, o + j, none⟩ = some (.int .i64 yy)) wr.drew := ⟨c10, c0, c1⟩
                    show wpAnyH _ _ _ _ _ _ _ _ wr.drew
                    refine wpAnyH_take (i := 0) (oi := { dst := some 90, op := Op.fieldAddr 40 (Operand.tmp 1) 10, type := 0, pos := "l13_world.go:50", after := #[], guard := none }) (v := ?_) rfl (by kernel_rfl) (by kernel_rfl) (by kernel_rfl) (fun _ _ _ h => h) (Or.inl ⟨by rfl, ?_⟩) hS ?_
                    rotate_left
                    · intro y hSy; obtain ⟨y0, y1, y2⟩ := hSy; go_simp; try with_reducible rfl
                    simp only [Act.put, List.setIfInBounds_toArray, List.set_cons_succ, List.set_cons_zero]
                    refine wpAnyH_take (i := 1) (oi := { dst := some 91, op := Op.load 28 (Operand.tmp 90), type := 28, pos := "l13_world.go:50", after := #[{ on := 0, ground := Ground.data }], guard := none }) (v := ?_) rfl (by kernel_rfl) (by kernel_rfl) (by kernel_rfl) (fun _ _ _ h => h) (Or.inl ⟨by rfl, ?_⟩) hS ?_
                    rotate_left
                    · intro y hSy; obtain ⟨y0, y1, y2⟩ := hSy; go_simp; try with_reducible rfl
                    simp only [Act.put, List.setIfInBounds_toArray, List.set_cons_succ, List.set_cons_zero]
                    refine wpAnyH_take (i := 2) (oi := { dst := some 92, op := Op.move (Operand.tmp 5), type := 3, pos := "l13_world.go:50", after := #[], guard := none }) (v := ?_) rfl (by kernel_rfl) (by kernel_rfl) (by kernel_rfl) (fun _ _ _ h => h) (Or.inl ⟨by rfl, ?_⟩) hS ?_
                    rotate_left
                    · intro y hSy; obtain ⟨y0, y1, y2⟩ := hSy; go_simp; try with_reducible rfl
                    simp only [Act.put, List.setIfInBounds_toArray, List.set_cons_succ, List.set_cons_zero]
                    refine wpAnyH_take (i := 3) (oi := { dst := some 93, op := Op.indexAddr 28 (Operand.tmp 91) (Operand.tmp 92), type := 0, pos := "l13_world.go:50", after := #[{ on := 1, ground := Ground.data }, { on := 2, ground := Ground.data }], guard := none }) (v := ?_) rfl (by kernel_rfl) (by kernel_rfl) (by kernel_rfl) (fun _ _ _ h => h) (Or.inl ⟨by rfl, ?_⟩) hS ?_
                    rotate_left
                    · intro y hSy; obtain ⟨y0, y1, y2⟩ := hSy; go_simp; try with_reducible rfl
                    simp only [Act.put, List.setIfInBounds_toArray, List.set_cons_succ, List.set_cons_zero]
                    refine wpAnyH_take (i := 4) (oi := { dst := some 94, op := Op.load 3 (Operand.tmp 93), type := 3, pos := "l13_world.go:50", after := #[{ on := 3, ground := Ground.data }], guard := none }) (v := ?_) rfl (by kernel_rfl) (by kernel_rfl) (by kernel_rfl) (fun _ _ _ h => h) (Or.inl ⟨by rfl, ?_⟩) hS ?_
                    rotate_left
                    · intro y hSy; obtain ⟨y0, y1, y2⟩ := hSy; go_simp; try with_reducible rfl
                    simp only [Act.put, List.setIfInBounds_toArray, List.set_cons_succ, List.set_cons_zero]
                    refine wpAnyH_all (rs := [5]) (by kernel_rfl) (by simp) ?_
                    intro i hi
                    simp only [List.mem_singleton] at hi
                    subst hi
                    refine step_call (f := 16) (fn := Tryz.f16) (d := 95) (args := #[.int .i64 x, .int .i64 0, .int .i64 1000000]) rfl Tryz.func16 (by kernel_rfl) (by kernel_rfl) (by simp [Act.eval]) ?_
                    refine (unhide HQ _).mono ?_
                    rintro e w2 ⟨rfl, rfl⟩
                    refine ⟨_, rfl, ?_⟩
                    refine ⟨hS, ?_⟩
                    simp only [Act.put, List.setIfInBounds_toArray, List.set_cons_succ, List.set_cons_zero]
                    refine wpAnyH_take (i := 6) (oi := { dst := some 96, op := Op.unOp UnOp.not 4 (Operand.tmp 95), type := 4, pos := "l13_world.go:50", after := #[{ on := 5, ground := Ground.data }], guard := none }) (v := ?_) rfl (by kernel_rfl) (by kernel_rfl) (by kernel_rfl) (fun _ _ _ h => h) (Or.inl ⟨by rfl, ?_⟩) hS ?_
                    rotate_left
                    · intro y hSy; obtain ⟨y0, y1, y2⟩ := hSy; go_simp; try with_reducible rfl
                    simp only [Act.put, List.setIfInBounds_toArray, List.set_cons_succ, List.set_cons_zero]
                    refine wpAnyH_take (i := 7) (oi := { dst := some 97, op := Op.move (Operand.tmp 96), type := 4, pos := "l13_world.go:50", after := #[{ on := 6, ground := Ground.data }, { on := 5, ground := Ground.chain }], guard := none }) (v := ?_) rfl (by kernel_rfl) (by kernel_rfl) (by kernel_rfl) (fun _ _ _ h => h) (Or.inl ⟨by rfl, ?_⟩) hS ?_
                    rotate_left
                    · intro y hSy; obtain ⟨y0, y1, y2⟩ := hSy; go_simp; try with_reducible rfl
                    simp only [Act.put, List.setIfInBounds_toArray, List.set_cons_succ, List.set_cons_zero]
                    refine wpAnyH_take (i := 8) (oi := { dst := some 98, op := Op.move (Operand.tmp 5), type := 3, pos := "l13_world.go:50", after := #[{ on := 7, ground := Ground.guard }], guard := some (7, false) }) (v := ?_) rfl (by kernel_rfl) (by kernel_rfl) (by kernel_rfl) (fun _ _ _ h => h) (Or.inl ⟨by rfl, ?_⟩) hS ?_
                    rotate_left
                    · intro y hSy; obtain ⟨y0, y1, y2⟩ := hSy; go_simp; try with_reducible rfl
                    simp only [Act.put, List.setIfInBounds_toArray, List.set_cons_succ, List.set_cons_zero]
                    refine wpAnyH_take (i := 9) (oi := { dst := some 99, op := Op.binOp BinOp.gtr 3 (Operand.tmp 98) (Operand.const (Value.int IntKind.i64 0)) 3, type := 4, pos := "l13_world.go:50", after := #[{ on := 8, ground := Ground.data }, { on := 7, ground := Ground.guard }], guard := some (7, false) }) (v := ?_) rfl (by kernel_rfl) (by kernel_rfl) (by kernel_rfl) (fun _ _ _ h => h) (Or.inl ⟨by rfl, ?_⟩) hS ?_
                    rotate_left
                    · intro y hSy; obtain ⟨y0, y1, y2⟩ := hSy; go_simp; try with_reducible rfl
                    simp only [Act.put, List.setIfInBounds_toArray, List.set_cons_succ, List.set_cons_zero]
                    refine wpAnyH_take (i := 10) (oi := { dst := some 100, op := Op.move (Operand.tmp 99), type := 4, pos := "l13_world.go:50", after := #[{ on := 9, ground := Ground.data }, { on := 7, ground := Ground.chain }, { on := 7, ground := Ground.guard }], guard := some (7, false) }) (v := ?_) rfl (by kernel_rfl) (by kernel_rfl) (by kernel_rfl) (fun _ _ _ h => h) (Or.inl ⟨by rfl, ?_⟩) hS ?_
                    rotate_left
                    · intro y hSy; obtain ⟨y0, y1, y2⟩ := hSy; go_simp; try with_reducible rfl
                    simp only [Act.put, List.setIfInBounds_toArray, List.set_cons_succ, List.set_cons_zero]
                    refine wpAnyH_take (i := 11) (oi := { dst := some 101, op := Op.fieldAddr 40 (Operand.tmp 1) 10, type := 0, pos := "l13_world.go:50", after := #[{ on := 10, ground := Ground.guard }], guard := some (10, true) }) (v := ?_) rfl (by kernel_rfl) (by kernel_rfl) (by kernel_rfl) (fun _ _ _ h => h) (Or.inl ⟨by rfl, ?_⟩) hS ?_
                    rotate_left
                    · intro y hSy; obtain ⟨y0, y1, y2⟩ := hSy; go_simp; try with_reducible rfl
                    simp only [Act.put, List.setIfInBounds_toArray, List.set_cons_succ, List.set_cons_zero]
                    refine wpAnyH_take (i := 12) (oi := { dst := some 102, op := Op.load 28 (Operand.tmp 101), type := 28, pos := "l13_world.go:50", after := #[{ on := 11, ground := Ground.data }, { on := 10, ground := Ground.guard }], guard := some (10, true) }) (v := ?_) rfl (by kernel_rfl) (by kernel_rfl) (by kernel_rfl) (fun _ _ _ h => h) (Or.inl ⟨by rfl, ?_⟩) hS ?_
                    rotate_left
                    · intro y hSy; obtain ⟨y0, y1, y2⟩ := hSy; go_simp; try with_reducible rfl
                    simp only [Act.put, List.setIfInBounds_toArray, List.set_cons_succ, List.set_cons_zero]
                    refine wpAnyH_take (i := 13) (oi := { dst := some 103, op := Op.move (Operand.tmp 5), type := 3, pos := "l13_world.go:50", after := #[{ on := 10, ground := Ground.guard }], guard := some (10, true) }) (v := ?_) rfl (by kernel_rfl) (by kernel_rfl) (by kernel_rfl) (fun _ _ _ h => h) (Or.inl ⟨by rfl, ?_⟩) hS ?_
                    rotate_left
                    · intro y hSy; obtain ⟨y0, y1, y2⟩ := hSy; go_simp; try with_reducible rfl
                    simp only [Act.put, List.setIfInBounds_toArray, List.set_cons_succ, List.set_cons_zero]
                    refine wpAnyH_take (i := 14) (oi := { dst := some 104, op := Op.binOp BinOp.sub 3 (Operand.tmp 103) (Operand.const (Value.int IntKind.i64 1)) 3, type := 3, pos := "l13_world.go:50", after := #[{ on := 13, ground := Ground.data }, { on := 10, ground := Ground.guard }], guard := some (10, true) }) (v := ?_) rfl (by kernel_rfl) (by kernel_rfl) (by kernel_rfl) (fun _ _ _ h => h) (Or.inl ⟨by rfl, ?_⟩) hS ?_
                    rotate_left
                    · intro y hSy; obtain ⟨y0, y1, y2⟩ := hSy; go_simp; try with_reducible rfl
                    simp only [Act.put, List.setIfInBounds_toArray, List.set_cons_succ, List.set_cons_zero]
                    refine wpAnyH_take (i := 15) (oi := { dst := some 105, op := Op.indexAddr 28 (Operand.tmp 102) (Operand.tmp 104), type := 0, pos := "l13_world.go:50", after := #[{ on := 12, ground := Ground.data }, { on := 14, ground := Ground.data }, { on := 10, ground := Ground.guard }], guard := some (10, true) }) (v := ?_) rfl (by kernel_rfl) (by kernel_rfl) (by kernel_rfl) (fun _ _ _ h => h) (Or.inl ⟨by rfl, ?_⟩) hS ?_
                    rotate_left
                    · intro y hSy; obtain ⟨y0, y1, y2⟩ := hSy; go_simp; try with_reducible rfl
                    simp only [Act.put, List.setIfInBounds_toArray, List.set_cons_succ, List.set_cons_zero]
                    refine wpAnyH_take (i := 16) (oi := { dst := some 106, op := Op.load 3 (Operand.tmp 105), type := 3, pos := "l13_world.go:50", after := #[{ on := 15, ground := Ground.data }, { on := 10, ground := Ground.guard }], guard := some (10, true) }) (v := ?_) rfl (by kernel_rfl) (by kernel_rfl) (by kernel_rfl) (fun _ _ _ h => h) (Or.inl ⟨by rfl, ?_⟩) hS ?_
                    rotate_left
                    · intro y hSy; obtain ⟨y0, y1, y2⟩ := hSy; go_simp; try with_reducible rfl
                    simp only [Act.put, List.setIfInBounds_toArray, List.set_cons_succ, List.set_cons_zero]
                    refine wpAnyH_take (i := 17) (oi := { dst := some 107, op := Op.fieldAddr 40 (Operand.tmp 1) 10, type := 0, pos := "l13_world.go:50", after := #[{ on := 10, ground := Ground.guard }], guard := some (10, true) }) (v := ?_) rfl (by kernel_rfl) (by kernel_rfl) (by kernel_rfl) (fun _ _ _ h => h) (Or.inl ⟨by rfl, ?_⟩) hS ?_
                    rotate_left
                    · intro y hSy; obtain ⟨y0, y1, y2⟩ := hSy; go_simp; try with_reducible rfl
                    simp only [Act.put, List.setIfInBounds_toArray, List.set_cons_succ, List.set_cons_zero]
                    refine wpAnyH_take (i := 18) (oi := { dst := some 108, op := Op.load 28 (Operand.tmp 107), type := 28, pos := "l13_world.go:50", after := #[{ on := 17, ground := Ground.data }, { on := 10, ground := Ground.guard }], guard := some (10, true) }) (v := ?_) rfl (by kernel_rfl) (by kernel_rfl) (by kernel_rfl) (fun _ _ _ h => h) (Or.inl ⟨by rfl, ?_⟩) hS ?_
                    rotate_left
                    · intro y hSy; obtain ⟨y0, y1, y2⟩ := hSy; go_simp; try with_reducible rfl
                    simp only [Act.put, List.setIfInBounds_toArray, List.set_cons_succ, List.set_cons_zero]
                    refine wpAnyH_take (i := 19) (oi := { dst := some 109, op := Op.move (Operand.tmp 5), type := 3, pos := "l13_world.go:50", after := #[{ on := 10, ground := Ground.guard }], guard := some (10, true) }) (v := ?_) rfl (by kernel_rfl) (by kernel_rfl) (by kernel_rfl) (fun _ _ _ h => h) (Or.inl ⟨by rfl, ?_⟩) hS ?_
                    rotate_left
                    · intro y hSy; obtain ⟨y0, y1, y2⟩ := hSy; go_simp; try with_reducible rfl
                    simp only [Act.put, List.setIfInBounds_toArray, List.set_cons_succ, List.set_cons_zero]
                    refine wpAnyH_take (i := 20) (oi := { dst := some 110, op := Op.indexAddr 28 (Operand.tmp 108) (Operand.tmp 109), type := 0, pos := "l13_world.go:50", after := #[{ on := 18, ground := Ground.data }, { on := 19, ground := Ground.data }, { on := 10, ground := Ground.guard }], guard := some (10, true) }) (v := ?_) rfl (by kernel_rfl) (by kernel_rfl) (by kernel_rfl) (fun _ _ _ h => h) (Or.inl ⟨by rfl, ?_⟩) hS ?_
                    rotate_left
                    · intro y hSy; obtain ⟨y0, y1, y2⟩ := hSy; go_simp; try with_reducible rfl
                    simp only [Act.put, List.setIfInBounds_toArray, List.set_cons_succ, List.set_cons_zero]
                    refine wpAnyH_take (i := 21) (oi := { dst := some 111, op := Op.load 3 (Operand.tmp 110), type := 3, pos := "l13_world.go:50", after := #[{ on := 20, ground := Ground.data }, { on := 10, ground := Ground.guard }], guard := some (10, true) }) (v := ?_) rfl (by kernel_rfl) (by kernel_rfl) (by kernel_rfl) (fun _ _ _ h => h) (Or.inl ⟨by rfl, ?_⟩) hS ?_
                    rotate_left
                    · intro y hSy; obtain ⟨y0, y1, y2⟩ := hSy; go_simp; try with_reducible rfl
                    simp only [Act.put, List.setIfInBounds_toArray, List.set_cons_succ, List.set_cons_zero]
                    refine wpAnyH_take (i := 22) (oi := { dst := some 112, op := Op.binOp BinOp.geq 3 (Operand.tmp 106) (Operand.tmp 111) 3, type := 4, pos := "l13_world.go:50", after := #[{ on := 16, ground := Ground.data }, { on := 21, ground := Ground.data }, { on := 10, ground := Ground.guard }], guard := some (10, true) }) (v := ?_) rfl (by kernel_rfl) (by kernel_rfl) (by kernel_rfl) (fun _ _ _ h => h) (Or.inl ⟨by rfl, ?_⟩) hS ?_
                    rotate_left
                    · intro y hSy; obtain ⟨y0, y1, y2⟩ := hSy; go_simp; try with_reducible rfl
                    simp only [Act.put, List.setIfInBounds_toArray, List.set_cons_succ, List.set_cons_zero]
                    refine wpAnyH_take (i := 23) (oi := { dst := some 113, op := Op.pick (Operand.tmp 100) (Operand.tmp 112) (Operand.const (Value.bool false)), type := 4, pos := "l13_world.go:50", after := #[{ on := 10, ground := Ground.data }, { on := 22, ground := Ground.data }, { on := 7, ground := Ground.guard }], guard := some (7, false) }) (v := ?_) rfl (by kernel_rfl) (by kernel_rfl) (by kernel_rfl) (fun _ _ _ h => h) (Or.inl ⟨by rfl, ?_⟩) hS ?_
                    rotate_left
                    · intro y hSy; obtain ⟨y0, y1, y2⟩ := hSy; go_simp; try with_reducible rfl
                    simp only [Act.put, List.setIfInBounds_toArray, List.set_cons_succ, List.set_cons_zero]
                    refine wpAnyH_take (i := 24) (oi := { dst := some 114, op := Op.pick (Operand.tmp 97) (Operand.const (Value.bool true)) (Operand.tmp 113), type := 4, pos := "l13_world.go:50", after := #[{ on := 7, ground := Ground.data }, { on := 23, ground := Ground.data }], guard := none }) (v := ?_) rfl (by kernel_rfl) (by kernel_rfl) (by kernel_rfl) (fun _ _ _ h => h) (Or.inl ⟨by rfl, ?_⟩) hS ?_
                    rotate_left
                    · intro y hSy; obtain ⟨y0, y1, y2⟩ := hSy; go_simp; try with_reducible rfl
                    simp only [Act.put, List.setIfInBounds_toArray, List.set_cons_succ, List.set_cons_zero]
                    refine wpAnyH_done (by kernel_rfl) ?_ _
                    go_wp2_with fail
                    go_roundw
                    case rel => exact ⟨k + 1, rfl, (unhide HBr).drew, by have := unhide q7; omega, unhide HM⟩
                    case measure => have := unhide q7; simp only [intOf]; omega
                  · have HD : Hid (bd = false) := (unhide HTD).2 fun hq => hyx (by
                      have := (hq k x (unhide q7) (unhide HK)).2 yy (by rw [sub1N (unhide HKJ)]; exact unhide HJ) (posN (unhide HKJ))
                      exact this)
                    have HE : Hid (R = false) := by show R = false; rw [unhide HW2, unhide HD]; simp
                    have hyx' : x ≤ yy := by omega
                    go_wp2_with fail
                    refine wp_region_held (S := fun y => y.cell? ⟨w.heap.size, 10, none⟩ = some (.slice (some ⟨b, o, none⟩) X.told.length ci) ∧ y.cell? ⟨b, o + k, none⟩ = some (.int .i64 x) ∧ y.cell? ⟨b, o + j, none⟩ = some (.int .i64 yy)) Tryz.mixedO ?_
                    have hS : (fun y : World => y.cell? ⟨w.heap.size, 10, none⟩ = some (.slice (some ⟨b, o, none⟩) X.told.length ci) ∧ y.cell? ⟨b, o + k, none⟩ = some (.int .i64 x) ∧ y.cell? ⟨b, o + j, none⟩ = some (.int .i64 yy)) wr.drew := ⟨c10, c0, c1⟩
                    show wpAnyH _ _ _ _ _ _ _ _ wr.drew
                    refine wpAnyH_take (i := 0) (oi := { dst := some 90, op := Op.fieldAddr 40 (Operand.tmp 1) 10, type := 0, pos := "l13_world.go:50", after := #[], guard := none }) (v := ?_) rfl (by kernel_rfl) (by kernel_rfl) (by kernel_rfl) (fun _ _ _ h => h) (Or.inl ⟨by rfl, ?_⟩) hS ?_
                    rotate_left
                    · intro y hSy; obtain ⟨y0, y1, y2⟩ := hSy; go_simp; try with_reducible rfl
                    simp only [Act.put, List.setIfInBounds_toArray, List.set_cons_succ, List.set_cons_zero]
                    refine wpAnyH_take (i := 1) (oi := { dst := some 91, op := Op.load 28 (Operand.tmp 90), type := 28, pos := "l13_world.go:50", after := #[{ on := 0, ground := Ground.data }], guard := none }) (v := ?_) rfl (by kernel_rfl) (by kernel_rfl) (by kernel_rfl) (fun _ _ _ h => h) (Or.inl ⟨by rfl, ?_⟩) hS ?_
                    rotate_left
                    · intro y hSy; obtain ⟨y0, y1, y2⟩ := hSy; go_simp; try with_reducible rfl
                    simp only [Act.put, List.setIfInBounds_toArray, List.set_cons_succ, List.set_cons_zero]
                    refine wpAnyH_take (i := 2) (oi := { dst := some 92, op := Op.move (Operand.tmp 5), type := 3, pos := "l13_world.go:50", after := #[], guard := none }) (v := ?_) rfl (by kernel_rfl) (by kernel_rfl) (by kernel_rfl) (fun _ _ _ h => h) (Or.inl ⟨by rfl, ?_⟩) hS ?_
                    rotate_left
                    · intro y hSy; obtain ⟨y0, y1, y2⟩ := hSy; go_simp; try with_reducible rfl
                    simp only [Act.put, List.setIfInBounds_toArray, List.set_cons_succ, List.set_cons_zero]
                    refine wpAnyH_take (i := 3) (oi := { dst := some 93, op := Op.indexAddr 28 (Operand.tmp 91) (Operand.tmp 92), type := 0, pos := "l13_world.go:50", after := #[{ on := 1, ground := Ground.data }, { on := 2, ground := Ground.data }], guard := none }) (v := ?_) rfl (by kernel_rfl) (by kernel_rfl) (by kernel_rfl) (fun _ _ _ h => h) (Or.inl ⟨by rfl, ?_⟩) hS ?_
                    rotate_left
                    · intro y hSy; obtain ⟨y0, y1, y2⟩ := hSy; go_simp; try with_reducible rfl
                    simp only [Act.put, List.setIfInBounds_toArray, List.set_cons_succ, List.set_cons_zero]
                    refine wpAnyH_take (i := 4) (oi := { dst := some 94, op := Op.load 3 (Operand.tmp 93), type := 3, pos := "l13_world.go:50", after := #[{ on := 3, ground := Ground.data }], guard := none }) (v := ?_) rfl (by kernel_rfl) (by kernel_rfl) (by kernel_rfl) (fun _ _ _ h => h) (Or.inl ⟨by rfl, ?_⟩) hS ?_
                    rotate_left
                    · intro y hSy; obtain ⟨y0, y1, y2⟩ := hSy; go_simp; try with_reducible rfl
                    simp only [Act.put, List.setIfInBounds_toArray, List.set_cons_succ, List.set_cons_zero]
                    refine wpAnyH_all (rs := [5]) (by kernel_rfl) (by simp) ?_
                    intro i hi
                    simp only [List.mem_singleton] at hi
                    subst hi
                    refine step_call (f := 16) (fn := Tryz.f16) (d := 95) (args := #[.int .i64 x, .int .i64 0, .int .i64 1000000]) rfl Tryz.func16 (by kernel_rfl) (by kernel_rfl) (by simp [Act.eval]) ?_
                    refine (unhide HQ _).mono ?_
                    rintro e w2 ⟨rfl, rfl⟩
                    refine ⟨_, rfl, ?_⟩
                    refine ⟨hS, ?_⟩
                    simp only [Act.put, List.setIfInBounds_toArray, List.set_cons_succ, List.set_cons_zero]
                    refine wpAnyH_take (i := 6) (oi := { dst := some 96, op := Op.unOp UnOp.not 4 (Operand.tmp 95), type := 4, pos := "l13_world.go:50", after := #[{ on := 5, ground := Ground.data }], guard := none }) (v := ?_) rfl (by kernel_rfl) (by kernel_rfl) (by kernel_rfl) (fun _ _ _ h => h) (Or.inl ⟨by rfl, ?_⟩) hS ?_
                    rotate_left
                    · intro y hSy; obtain ⟨y0, y1, y2⟩ := hSy; go_simp; try with_reducible rfl
                    simp only [Act.put, List.setIfInBounds_toArray, List.set_cons_succ, List.set_cons_zero]
                    refine wpAnyH_take (i := 7) (oi := { dst := some 97, op := Op.move (Operand.tmp 96), type := 4, pos := "l13_world.go:50", after := #[{ on := 6, ground := Ground.data }, { on := 5, ground := Ground.chain }], guard := none }) (v := ?_) rfl (by kernel_rfl) (by kernel_rfl) (by kernel_rfl) (fun _ _ _ h => h) (Or.inl ⟨by rfl, ?_⟩) hS ?_
                    rotate_left
                    · intro y hSy; obtain ⟨y0, y1, y2⟩ := hSy; go_simp; try with_reducible rfl
                    simp only [Act.put, List.setIfInBounds_toArray, List.set_cons_succ, List.set_cons_zero]
                    refine wpAnyH_take (i := 8) (oi := { dst := some 98, op := Op.move (Operand.tmp 5), type := 3, pos := "l13_world.go:50", after := #[{ on := 7, ground := Ground.guard }], guard := some (7, false) }) (v := ?_) rfl (by kernel_rfl) (by kernel_rfl) (by kernel_rfl) (fun _ _ _ h => h) (Or.inl ⟨by rfl, ?_⟩) hS ?_
                    rotate_left
                    · intro y hSy; obtain ⟨y0, y1, y2⟩ := hSy; go_simp; try with_reducible rfl
                    simp only [Act.put, List.setIfInBounds_toArray, List.set_cons_succ, List.set_cons_zero]
                    refine wpAnyH_take (i := 9) (oi := { dst := some 99, op := Op.binOp BinOp.gtr 3 (Operand.tmp 98) (Operand.const (Value.int IntKind.i64 0)) 3, type := 4, pos := "l13_world.go:50", after := #[{ on := 8, ground := Ground.data }, { on := 7, ground := Ground.guard }], guard := some (7, false) }) (v := ?_) rfl (by kernel_rfl) (by kernel_rfl) (by kernel_rfl) (fun _ _ _ h => h) (Or.inl ⟨by rfl, ?_⟩) hS ?_
                    rotate_left
                    · intro y hSy; obtain ⟨y0, y1, y2⟩ := hSy; go_simp; try with_reducible rfl
                    simp only [Act.put, List.setIfInBounds_toArray, List.set_cons_succ, List.set_cons_zero]
                    refine wpAnyH_take (i := 10) (oi := { dst := some 100, op := Op.move (Operand.tmp 99), type := 4, pos := "l13_world.go:50", after := #[{ on := 9, ground := Ground.data }, { on := 7, ground := Ground.chain }, { on := 7, ground := Ground.guard }], guard := some (7, false) }) (v := ?_) rfl (by kernel_rfl) (by kernel_rfl) (by kernel_rfl) (fun _ _ _ h => h) (Or.inl ⟨by rfl, ?_⟩) hS ?_
                    rotate_left
                    · intro y hSy; obtain ⟨y0, y1, y2⟩ := hSy; go_simp; try with_reducible rfl
                    simp only [Act.put, List.setIfInBounds_toArray, List.set_cons_succ, List.set_cons_zero]
                    refine wpAnyH_take (i := 11) (oi := { dst := some 101, op := Op.fieldAddr 40 (Operand.tmp 1) 10, type := 0, pos := "l13_world.go:50", after := #[{ on := 10, ground := Ground.guard }], guard := some (10, true) }) (v := ?_) rfl (by kernel_rfl) (by kernel_rfl) (by kernel_rfl) (fun _ _ _ h => h) (Or.inl ⟨by rfl, ?_⟩) hS ?_
                    rotate_left
                    · intro y hSy; obtain ⟨y0, y1, y2⟩ := hSy; go_simp; try with_reducible rfl
                    simp only [Act.put, List.setIfInBounds_toArray, List.set_cons_succ, List.set_cons_zero]
                    refine wpAnyH_take (i := 12) (oi := { dst := some 102, op := Op.load 28 (Operand.tmp 101), type := 28, pos := "l13_world.go:50", after := #[{ on := 11, ground := Ground.data }, { on := 10, ground := Ground.guard }], guard := some (10, true) }) (v := ?_) rfl (by kernel_rfl) (by kernel_rfl) (by kernel_rfl) (fun _ _ _ h => h) (Or.inl ⟨by rfl, ?_⟩) hS ?_
                    rotate_left
                    · intro y hSy; obtain ⟨y0, y1, y2⟩ := hSy; go_simp; try with_reducible rfl
                    simp only [Act.put, List.setIfInBounds_toArray, List.set_cons_succ, List.set_cons_zero]
                    refine wpAnyH_take (i := 13) (oi := { dst := some 103, op := Op.move (Operand.tmp 5), type := 3, pos := "l13_world.go:50", after := #[{ on := 10, ground := Ground.guard }], guard := some (10, true) }) (v := ?_) rfl (by kernel_rfl) (by kernel_rfl) (by kernel_rfl) (fun _ _ _ h => h) (Or.inl ⟨by rfl, ?_⟩) hS ?_
                    rotate_left
                    · intro y hSy; obtain ⟨y0, y1, y2⟩ := hSy; go_simp; try with_reducible rfl
                    simp only [Act.put, List.setIfInBounds_toArray, List.set_cons_succ, List.set_cons_zero]
                    refine wpAnyH_take (i := 14) (oi := { dst := some 104, op := Op.binOp BinOp.sub 3 (Operand.tmp 103) (Operand.const (Value.int IntKind.i64 1)) 3, type := 3, pos := "l13_world.go:50", after := #[{ on := 13, ground := Ground.data }, { on := 10, ground := Ground.guard }], guard := some (10, true) }) (v := ?_) rfl (by kernel_rfl) (by kernel_rfl) (by kernel_rfl) (fun _ _ _ h => h) (Or.inl ⟨by rfl, ?_⟩) hS ?_
                    rotate_left
                    · intro y hSy; obtain ⟨y0, y1, y2⟩ := hSy; go_simp; try with_reducible rfl
                    simp only [Act.put, List.setIfInBounds_toArray, List.set_cons_succ, List.set_cons_zero]
                    refine wpAnyH_take (i := 15) (oi := { dst := some 105, op := Op.indexAddr 28 (Operand.tmp 102) (Operand.tmp 104), type := 0, pos := "l13_world.go:50", after := #[{ on := 12, ground := Ground.data }, { on := 14, ground := Ground.data }, { on := 10, ground := Ground.guard }], guard := some (10, true) }) (v := ?_) rfl (by kernel_rfl) (by kernel_rfl) (by kernel_rfl) (fun _ _ _ h => h) (Or.inl ⟨by rfl, ?_⟩) hS ?_
                    rotate_left
                    · intro y hSy; obtain ⟨y0, y1, y2⟩ := hSy; go_simp; try with_reducible rfl
                    simp only [Act.put, List.setIfInBounds_toArray, List.set_cons_succ, List.set_cons_zero]
                    refine wpAnyH_take (i := 16) (oi := { dst := some 106, op := Op.load 3 (Operand.tmp 105), type := 3, pos := "l13_world.go:50", after := #[{ on := 15, ground := Ground.data }, { on := 10, ground := Ground.guard }], guard := some (10, true) }) (v := ?_) rfl (by kernel_rfl) (by kernel_rfl) (by kernel_rfl) (fun _ _ _ h => h) (Or.inl ⟨by rfl, ?_⟩) hS ?_
                    rotate_left
                    · intro y hSy; obtain ⟨y0, y1, y2⟩ := hSy; go_simp; try with_reducible rfl
                    simp only [Act.put, List.setIfInBounds_toArray, List.set_cons_succ, List.set_cons_zero]
                    refine wpAnyH_take (i := 17) (oi := { dst := some 107, op := Op.fieldAddr 40 (Operand.tmp 1) 10, type := 0, pos := "l13_world.go:50", after := #[{ on := 10, ground := Ground.guard }], guard := some (10, true) }) (v := ?_) rfl (by kernel_rfl) (by kernel_rfl) (by kernel_rfl) (fun _ _ _ h => h) (Or.inl ⟨by rfl, ?_⟩) hS ?_
                    rotate_left
                    · intro y hSy; obtain ⟨y0, y1, y2⟩ := hSy; go_simp; try with_reducible rfl
                    simp only [Act.put, List.setIfInBounds_toArray, List.set_cons_succ, List.set_cons_zero]
                    refine wpAnyH_take (i := 18) (oi := { dst := some 108, op := Op.load 28 (Operand.tmp 107), type := 28, pos := "l13_world.go:50", after := #[{ on := 17, ground := Ground.data }, { on := 10, ground := Ground.guard }], guard := some (10, true) }) (v := ?_) rfl (by kernel_rfl) (by kernel_rfl) (by kernel_rfl) (fun _ _ _ h => h) (Or.inl ⟨by rfl, ?_⟩) hS ?_
                    rotate_left
                    · intro y hSy; obtain ⟨y0, y1, y2⟩ := hSy; go_simp; try with_reducible rfl
                    simp only [Act.put, List.setIfInBounds_toArray, List.set_cons_succ, List.set_cons_zero]
                    refine wpAnyH_take (i := 19) (oi := { dst := some 109, op := Op.move (Operand.tmp 5), type := 3, pos := "l13_world.go:50", after := #[{ on := 10, ground := Ground.guard }], guard := some (10, true) }) (v := ?_) rfl (by kernel_rfl) (by kernel_rfl) (by kernel_rfl) (fun _ _ _ h => h) (Or.inl ⟨by rfl, ?_⟩) hS ?_
                    rotate_left
                    · intro y hSy; obtain ⟨y0, y1, y2⟩ := hSy; go_simp; try with_reducible rfl
                    simp only [Act.put, List.setIfInBounds_toArray, List.set_cons_succ, List.set_cons_zero]
                    refine wpAnyH_take (i := 20) (oi := { dst := some 110, op := Op.indexAddr 28 (Operand.tmp 108) (Operand.tmp 109), type := 0, pos := "l13_world.go:50", after := #[{ on := 18, ground := Ground.data }, { on := 19, ground := Ground.data }, { on := 10, ground := Ground.guard }], guard := some (10, true) }) (v := ?_) rfl (by kernel_rfl) (by kernel_rfl) (by kernel_rfl) (fun _ _ _ h => h) (Or.inl ⟨by rfl, ?_⟩) hS ?_
                    rotate_left
                    · intro y hSy; obtain ⟨y0, y1, y2⟩ := hSy; go_simp; try with_reducible rfl
                    simp only [Act.put, List.setIfInBounds_toArray, List.set_cons_succ, List.set_cons_zero]
                    refine wpAnyH_take (i := 21) (oi := { dst := some 111, op := Op.load 3 (Operand.tmp 110), type := 3, pos := "l13_world.go:50", after := #[{ on := 20, ground := Ground.data }, { on := 10, ground := Ground.guard }], guard := some (10, true) }) (v := ?_) rfl (by kernel_rfl) (by kernel_rfl) (by kernel_rfl) (fun _ _ _ h => h) (Or.inl ⟨by rfl, ?_⟩) hS ?_
                    rotate_left
                    · intro y hSy; obtain ⟨y0, y1, y2⟩ := hSy; go_simp; try with_reducible rfl
                    simp only [Act.put, List.setIfInBounds_toArray, List.set_cons_succ, List.set_cons_zero]
                    refine wpAnyH_take (i := 22) (oi := { dst := some 112, op := Op.binOp BinOp.geq 3 (Operand.tmp 106) (Operand.tmp 111) 3, type := 4, pos := "l13_world.go:50", after := #[{ on := 16, ground := Ground.data }, { on := 21, ground := Ground.data }, { on := 10, ground := Ground.guard }], guard := some (10, true) }) (v := ?_) rfl (by kernel_rfl) (by kernel_rfl) (by kernel_rfl) (fun _ _ _ h => h) (Or.inl ⟨by rfl, ?_⟩) hS ?_
                    rotate_left
                    · intro y hSy; obtain ⟨y0, y1, y2⟩ := hSy; go_simp; try with_reducible rfl
                    simp only [Act.put, List.setIfInBounds_toArray, List.set_cons_succ, List.set_cons_zero]
                    refine wpAnyH_take (i := 23) (oi := { dst := some 113, op := Op.pick (Operand.tmp 100) (Operand.tmp 112) (Operand.const (Value.bool false)), type := 4, pos := "l13_world.go:50", after := #[{ on := 10, ground := Ground.data }, { on := 22, ground := Ground.data }, { on := 7, ground := Ground.guard }], guard := some (7, false) }) (v := ?_) rfl (by kernel_rfl) (by kernel_rfl) (by kernel_rfl) (fun _ _ _ h => h) (Or.inl ⟨by rfl, ?_⟩) hS ?_
                    rotate_left
                    · intro y hSy; obtain ⟨y0, y1, y2⟩ := hSy; go_simp; try with_reducible rfl
                    simp only [Act.put, List.setIfInBounds_toArray, List.set_cons_succ, List.set_cons_zero]
                    refine wpAnyH_take (i := 24) (oi := { dst := some 114, op := Op.pick (Operand.tmp 97) (Operand.const (Value.bool true)) (Operand.tmp 113), type := 4, pos := "l13_world.go:50", after := #[{ on := 7, ground := Ground.data }, { on := 23, ground := Ground.data }], guard := none }) (v := ?_) rfl (by kernel_rfl) (by kernel_rfl) (by kernel_rfl) (fun _ _ _ h => h) (Or.inl ⟨by rfl, ?_⟩) hS ?_
                    rotate_left
                    · intro y hSy; obtain ⟨y0, y1, y2⟩ := hSy; go_simp; try with_reducible rfl
                    simp only [Act.put, List.setIfInBounds_toArray, List.set_cons_succ, List.set_cons_zero]
                    refine wpAnyH_done (by kernel_rfl) ?_ _
                    go_wp2_with fail
                    go_ret
                    exact ⟨retB (unhide HE), (btG (unhide HBb) (unhide HBr)).drew⟩
            · have cN : ¬ (k : Int) < (X.told.length : Int) := by omega
              have HD : Hid (bd = true) := (unhide HTD).1 (by rw [show X.told.length = k by omega]; exact unhide HA)
              have HE : Hid (R = bo) := by show R = bo; rw [unhide HW2, unhide HD]; simp
              have HX9 := hide ((unhide HXb).on hb)
              have HB9 := hide (btG (unhide HBb) hb)
              clear hb
              go_wp2_with (refine wpList_load_box rfl _ rfl w.heap.size 0 [.int .i64 X.time, .int .i64 X.fresh, .slice ak X.known.length ck, .slice ac X.cache.length cc, .slice ah X.hosts.length ch, .slice al X.letters.length cl, .string X.book, .int .i64 X.sure, .slice aa X.calls.length ca, .slice az X.talks.length cz, .slice ai X.told.length ci] (unhide HX9) (fun j v hj => (by rw [Nat.zero_add]; exact hj)) rfl Tryz.underlying40 rfl infoW ?_)
              refine (unhide HC9 _ (unhide HB9)).mono ?_
              rintro e w9 ⟨rfl, hb9⟩
              have HB10 := hide (btG (unhide HB9) hb9)
              clear hb9
              go_wp2_with fail
              go_ret
              exact ⟨retB (unhide HE), unhide HB10⟩

theorem infoWL : (Tryz.prog.info? 30).map (·.size) = some 11 := by kernel_rfl

set_option maxRecDepth 100000 in
set_option maxHeartbeats 4000000 in
theorem lawWorldOk (X : Wd) (cs : List Value) (w : World) (h : wdAt w 0 X cs) :
    Calls Tryz.prog 3 #[.agg cs.toArray] w fun e w' => e = .returned (.bool true) ∧ Below w.heap.size w w' := by
  have hw0 := h
  have h4 := hide (fun v hv => szWd X cs 1048576 v hv (by omega) (by omega))
  obtain ⟨-, ak, ck, ac, cc, ah, ch, al, cl, aa, ca, az, cz, ai, ci, rfl, -⟩ := h
  have hb0 := abG (w := w) (.cells #[.int .i64 X.time, .int .i64 X.fresh, .slice ak X.known.length ck, .slice ac X.cache.length cc, .slice ah X.hosts.length ch, .slice al X.letters.length cl, .string X.book, .int .i64 X.sure, .slice aa X.calls.length ca, .slice az X.talks.length cz, .slice ai X.told.length ci] 30)
  have HB0 := hide hb0
  have HW0 := hide (wdK.on (w := w) (L := 0) (x := X) hw0 hb0)
  have HX := hide (Box.new w 30 [.int .i64 X.time, .int .i64 X.fresh, .slice ak X.known.length ck, .slice ac X.cache.length cc, .slice ah X.hosts.length ch, .slice al X.letters.length cl, .string X.book, .int .i64 X.sure, .slice aa X.calls.length ca, .slice az X.talks.length cz, .slice ai X.told.length ci])
  show Calls Tryz.prog 3 #[.agg #[.int .i64 X.time, .int .i64 X.fresh, .slice ak X.known.length ck, .slice ac X.cache.length cc, .slice ah X.hosts.length ch, .slice al X.letters.length cl, .string X.book, .int .i64 X.sure, .slice aa X.calls.length ca, .slice az X.talks.length cz, .slice ai X.told.length ci]] w _
  clear hw0 hb0
  by_cases hw : ((ww X : Nat) : Int) ≤ 1048576
  · have hz : ww X ≤ 1048576 := by omega
    have h6 := hide (fun cs v hv => toWd X cs v hv hz)
    have h5 := hide (fun cs v hv => worldS X cs v hv hz)
    have h7 := hide (fun cs v hv => worldI X cs v hv hz)
    have h8 := hide (fun cs cs' v hv hv' => eqWd X cs cs' v hv hv' hz)
    rw [szv_yes hw] at h4
    obtain ⟨left, hleft⟩ : ∃ left : Int, left = 1048576 - ((ww X : Nat) : Int) := ⟨_, rfl⟩
    rw [← hleft] at h4
    have hln : ¬ left < 0 := by omega
    generalize worldB X = ok at *
    have hne : (ok != ok) = false := by simp
    clear hleft hw hz
    go_enter Tryz.func3, Tryz.ntmps3
    go_wp2_with (refine wpList_load_box rfl _ rfl w.heap.size 0 [.int .i64 X.time, .int .i64 X.fresh, .slice ak X.known.length ck, .slice ac X.cache.length cc, .slice ah X.hosts.length ch, .slice al X.letters.length cl, .string X.book, .int .i64 X.sure, .slice aa X.calls.length ca, .slice az X.talks.length cz, .slice ai X.told.length ci] (unhide HX) (fun j v hj => (by rw [Nat.zero_add]; exact hj)) rfl Tryz.underlying30 rfl infoWL ?_)
    refine (unhide h4 _ (unhide HW0)).mono ?_
    rintro e w2 ⟨rfl, hb2⟩
    have HB2 := hide (btG (unhide HB0) hb2)
    have HW2 := hide (wdK.on (w := _) (L := 0) (x := X) (unhide HW0) hb2)
    have HX2 := hide ((unhide HX).on hb2)
    clear hb2 HB0 HW0 HX h4
    go_wp2_with (refine wpList_load_box rfl _ rfl w.heap.size 0 [.int .i64 X.time, .int .i64 X.fresh, .slice ak X.known.length ck, .slice ac X.cache.length cc, .slice ah X.hosts.length ch, .slice al X.letters.length cl, .string X.book, .int .i64 X.sure, .slice aa X.calls.length ca, .slice az X.talks.length cz, .slice ai X.told.length ci] (unhide HX2) (fun j v hj => (by rw [Nat.zero_add]; exact hj)) rfl Tryz.underlying30 rfl infoWL ?_)
    refine (unhide h6 _ _ (unhide HW2)).mono ?_
    rintro e w3 ⟨c3, rfl, hx3, hb3⟩
    have HB3 := hide (btG (unhide HB2) hb3)
    have HW3 := hide (wdK.on (w := _) (L := 0) (x := X) (unhide HW2) hb3)
    have HX3 := hide ((unhide HX2).on hb3)
    have HN3 := hide (wdK.low (w := _) (x := X) hx3 (Nat.zero_le _))
    clear hb3 hx3 HB2 HW2 HX2
    go_wp2_with fail
    refine (unhide h5 _ _ (unhide HN3)).mono ?_
    rintro e w4 ⟨rfl, hb4⟩
    have HB4 := hide (btG (unhide HB3) hb4)
    have HW4 := hide (wdK.on (w := _) (L := 0) (x := X) (unhide HW3) hb4)
    have HX4 := hide ((unhide HX3).on hb4)
    clear hb4 HB3 HW3 HX3 HN3 h5
    go_wp2_with (refine wpList_load_box rfl _ rfl w.heap.size 0 [.int .i64 X.time, .int .i64 X.fresh, .slice ak X.known.length ck, .slice ac X.cache.length cc, .slice ah X.hosts.length ch, .slice al X.letters.length cl, .string X.book, .int .i64 X.sure, .slice aa X.calls.length ca, .slice az X.talks.length cz, .slice ai X.told.length ci] (unhide HX4) (fun j v hj => (by rw [Nat.zero_add]; exact hj)) rfl Tryz.underlying30 rfl infoWL ?_)
    refine (unhide h6 _ _ (unhide HW4)).mono ?_
    rintro e w5 ⟨c5, rfl, hx5, hb5⟩
    have HB5 := hide (btG (unhide HB4) hb5)
    have HW5 := hide (wdK.on (w := _) (L := 0) (x := X) (unhide HW4) hb5)
    have HX5 := hide ((unhide HX4).on hb5)
    have HO5 := hide (Box.new w5 40 [.int .i64 0, .int .i64 0, .slice none 0 0, .slice none 0 0, .slice none 0 0, .slice none 0 0, .string ⟨#[]⟩, .int .i64 0, .slice none 0 0, .slice none 0 0, .slice none 0 0])
    have HN5 := hide (wdK.low (w := _) (x := X) hx5 (Nat.zero_le _))
    have hl5 := hide (wdK.len (w := w5) (L := _) (x := X) hx5)
    have ho5 := hide (wdK.one (w := w5) (L := _) (x := X) hx5)
    have hsz : w.heap.size < w5.heap.size := by have := ((unhide HX4).on hb5).lt; exact this
    have HSZ := hide hsz
    clear hb5 hx5 HB4 HW4 HX4 hsz
    go_wp2_with (first
    | (refine wpList_store_box rfl _ _ rfl w5.heap.size 0 c5 (unhide HO5) (by rw [unhide hl5]; decide) rfl rfl (by rw [unhide hl5]; exact infoW) (unhide ho5) ?_
       intro V hV
       have HOV : Hid (Box V w5.heap.size 40 c5) := (by
         rw [hV]
         have hp : puts [.int .i64 0, .int .i64 0, .slice none 0 0, .slice none 0 0, .slice none 0 0, .slice none 0 0, .string ⟨#[]⟩, .int .i64 0, .slice none 0 0, .slice none 0 0, .slice none 0 0] 0 c5 = c5 := puts_all (by rw [unhide hl5]; rfl)
         have := Box.sets c5 0 _ _ (unhide HO5)
         rw [hp] at this
         exact this)
       have HVB : Hid (Below w5.heap.size w5 V) := (by rw [hV]; exact setsG (abG _) (Nat.le_refl _))
       have HXV := hide ((unhide HX5).on (unhide HVB))
       have HBV := hide (btG (unhide HB5) (unhide HVB))
       have HWV := hide (wdK.on (w := _) (L := 0) (x := X) (unhide HW5) (unhide HVB))
       have HNV := hide (wdK.on (w := _) (L := 0) (x := X) (unhide HN5) (unhide HVB))
       clear hV HO5 HB5 HW5 HX5 HN5 HVB)
    | (refine wpList_load_box rfl _ rfl w5.heap.size 0 c5 (unhide HOV) (fun j v hj => (by rw [Nat.zero_add]; exact hj)) rfl Tryz.underlying40 rfl (by rw [unhide hl5]; exact infoW) ?_))
    refine (unhide h7 _ _ (unhide HNV)).mono ?_
    rintro e w6 ⟨rfl, hb6⟩
    have HB6 := hide (btG (unhide HBV) hb6)
    have HW6 := hide (wdK.on (w := _) (L := 0) (x := X) (unhide HWV) hb6)
    have HX6 := hide ((unhide HXV).on hb6)
    have HO6 := hide ((unhide HOV).on hb6)
    have HN6 := hide (wdK.on (w := _) (L := 0) (x := X) (unhide HNV) hb6)
    clear hb6 HBV HWV HXV HOV HNV hl5 ho5 HSZ
    obtain ⟨g5, hg5⟩ : ∃ g : Nat, g = w5.heap.size := ⟨_, rfl⟩
    rw [← hg5] at HO6 ⊢
    clear hg5
    have hn6 : wdAt w6 0 X c5 := unhide HN6
    obtain ⟨-, ak5, ck5, ac5, cc5, ah5, ch5, al5, cl5, aa5, ca5, az5, cz5, ai5, ci5, rfl, -⟩ := hn6
    have c0 : w6.cell? ⟨w.heap.size, 0, none⟩ = some (.int .i64 X.time) := (unhide HX6).cell rfl
    have c1 : w6.cell? ⟨w.heap.size, 1, none⟩ = some (.int .i64 X.fresh) := (unhide HX6).cell rfl
    have c2 : w6.cell? ⟨w.heap.size, 2, none⟩ = some (.slice ak X.known.length ck) := (unhide HX6).cell rfl
    have c3 : w6.cell? ⟨w.heap.size, 3, none⟩ = some (.slice ac X.cache.length cc) := (unhide HX6).cell rfl
    have c4 : w6.cell? ⟨w.heap.size, 4, none⟩ = some (.slice ah X.hosts.length ch) := (unhide HX6).cell rfl
    have c5 : w6.cell? ⟨w.heap.size, 5, none⟩ = some (.slice al X.letters.length cl) := (unhide HX6).cell rfl
    have c6 : w6.cell? ⟨w.heap.size, 6, none⟩ = some (.string X.book) := (unhide HX6).cell rfl
    have c7 : w6.cell? ⟨w.heap.size, 7, none⟩ = some (.int .i64 X.sure) := (unhide HX6).cell rfl
    have c8 : w6.cell? ⟨w.heap.size, 8, none⟩ = some (.slice aa X.calls.length ca) := (unhide HX6).cell rfl
    have c9 : w6.cell? ⟨w.heap.size, 9, none⟩ = some (.slice az X.talks.length cz) := (unhide HX6).cell rfl
    have c10 : w6.cell? ⟨w.heap.size, 10, none⟩ = some (.slice ai X.told.length ci) := (unhide HX6).cell rfl
    have d0 : w6.cell? ⟨g5, 0, none⟩ = some (.int .i64 X.time) := (unhide HO6).cell rfl
    have d1 : w6.cell? ⟨g5, 1, none⟩ = some (.int .i64 X.fresh) := (unhide HO6).cell rfl
    have d2 : w6.cell? ⟨g5, 2, none⟩ = some (.slice ak5 X.known.length ck5) := (unhide HO6).cell rfl
    have d3 : w6.cell? ⟨g5, 3, none⟩ = some (.slice ac5 X.cache.length cc5) := (unhide HO6).cell rfl
    have d4 : w6.cell? ⟨g5, 4, none⟩ = some (.slice ah5 X.hosts.length ch5) := (unhide HO6).cell rfl
    have d5 : w6.cell? ⟨g5, 5, none⟩ = some (.slice al5 X.letters.length cl5) := (unhide HO6).cell rfl
    have d6 : w6.cell? ⟨g5, 6, none⟩ = some (.string X.book) := (unhide HO6).cell rfl
    have d7 : w6.cell? ⟨g5, 7, none⟩ = some (.int .i64 X.sure) := (unhide HO6).cell rfl
    have d8 : w6.cell? ⟨g5, 8, none⟩ = some (.slice aa5 X.calls.length ca5) := (unhide HO6).cell rfl
    have d9 : w6.cell? ⟨g5, 9, none⟩ = some (.slice az5 X.talks.length cz5) := (unhide HO6).cell rfl
    have d10 : w6.cell? ⟨g5, 10, none⟩ = some (.slice ai5 X.told.length ci5) := (unhide HO6).cell rfl
    go_wp2_with fail
    go_region_with (first
      | (go_at_call 6
         refine (unhide h6 _ _ (wdK.on (w := _) (L := 0) (x := X) (unhide HW6) (Below.refl _ _).drew)).mono ?_
         rintro e w7 ⟨c7, rfl, hx7, hb7⟩
         have hb7' := below_drewG hb7
         have HB7 := hide (btG (unhide HB6) hb7')
         have HN7 := hide (wdK.on (w := _) (L := 0) (x := X) (unhide HN6) hb7')
         have HM7 := hide (wdK.low (w := _) (x := X) hx7 (Nat.zero_le _))
         have HO7 := hide ((unhide HO6).on hb7')
         have e0 : w7.cell? ⟨g5, 0, none⟩ = some (.int .i64 X.time) := (unhide HO7).cell rfl
         have e1 : w7.cell? ⟨g5, 1, none⟩ = some (.int .i64 X.fresh) := (unhide HO7).cell rfl
         have e2 : w7.cell? ⟨g5, 2, none⟩ = some (.slice ak5 X.known.length ck5) := (unhide HO7).cell rfl
         have e3 : w7.cell? ⟨g5, 3, none⟩ = some (.slice ac5 X.cache.length cc5) := (unhide HO7).cell rfl
         have e4 : w7.cell? ⟨g5, 4, none⟩ = some (.slice ah5 X.hosts.length ch5) := (unhide HO7).cell rfl
         have e5 : w7.cell? ⟨g5, 5, none⟩ = some (.slice al5 X.letters.length cl5) := (unhide HO7).cell rfl
         have e6 : w7.cell? ⟨g5, 6, none⟩ = some (.string X.book) := (unhide HO7).cell rfl
         have e7 : w7.cell? ⟨g5, 7, none⟩ = some (.int .i64 X.sure) := (unhide HO7).cell rfl
         have e8 : w7.cell? ⟨g5, 8, none⟩ = some (.slice aa5 X.calls.length ca5) := (unhide HO7).cell rfl
         have e9 : w7.cell? ⟨g5, 9, none⟩ = some (.slice az5 X.talks.length cz5) := (unhide HO7).cell rfl
         have e10 : w7.cell? ⟨g5, 10, none⟩ = some (.slice ai5 X.told.length ci5) := (unhide HO7).cell rfl
         clear hx7 hb7 hb7')
      | (go_at_call 8
         refine (unhide h8 _ _ _ (unhide HN7) (unhide HM7)).mono ?_
         rintro e w8 ⟨rfl, hb8⟩
         have HB8 := hide (btG (unhide HB7) hb8)))
    all_goals
      go_wp2_with fail
      go_ret
      exact ⟨rfl, unhide HB8⟩
  · rw [szv_no (by omega)] at h4
    clear hw
    go_enter Tryz.func3, Tryz.ntmps3
    go_wp2_with (refine wpList_load_box rfl _ rfl w.heap.size 0 [.int .i64 X.time, .int .i64 X.fresh, .slice ak X.known.length ck, .slice ac X.cache.length cc, .slice ah X.hosts.length ch, .slice al X.letters.length cl, .string X.book, .int .i64 X.sure, .slice aa X.calls.length ca, .slice az X.talks.length cz, .slice ai X.told.length ci] (unhide HX) (fun j v hj => (by rw [Nat.zero_add]; exact hj)) rfl Tryz.underlying30 rfl infoWL ?_)
    refine (unhide h4 _ (unhide HW0)).mono ?_
    rintro e w2 ⟨rfl, hb2⟩
    have HB2 := hide (btG (unhide HB0) hb2)
    clear hb2
    go_wp2_with fail
    go_ret
    exact ⟨rfl, unhide HB2⟩

end Go.Proofs.YtepmgjklonhkgaaGreat
