
/- The walk of spec.WorldOk; nothing that was there is written. The walk of laws.FnExactWorldOk: whatever world lies in memory it answers true; nothing that was there is written. -/
import Derived.Test.YtbohladjahpfcaaGreatWop
import Derived.Test.YtbohladjahpfcaaGreatWoi
import Derived.Test.YtbohladjahpfcaaGreatWwd
import Derived.BigQuiet
import Derived.WalkSmall
import Derived.Deep.MidRow
import Derived.Deep.RegionHeld3
import Derived.Deep.RegionWith
namespace Go.Proofs.YtbohladjahpfcaaGreat
open Go.RowKit Go.Deep

theorem sub1N {k j : Nat} (h : k = j + 1) : k - 1 = j := by omega
theorem posN {k j : Nat} (h : k = j + 1) : k ≠ 0 := by omega
instance : Std.Associative (α := Bool) (· && ·) := ⟨Bool.and_assoc⟩
instance : Std.Commutative (α := Bool) (· && ·) := ⟨Bool.and_comm⟩
theorem worldB_spec (X : Wd) : worldB X = (inB X.time 0 100000 && (inB X.fresh 1000 999990 && (decide (X.known.length ≤ 300) && (cacheB X.cache && (hosB X.hosts && (decide (X.letters.length ≤ 30) && (decide (X.book.size ≤ 12000) && (inB X.sure 0 X.book.size && (X.known.all okT && (X.letters.all leOk && (toldB X.told && openB X))))))))))) := by
  unfold worldB hosB openB
  generalize inB X.time 0 100000 = a1
  generalize inB X.fresh 1000 999990 = a2
  generalize decide (X.known.length ≤ 300) = a3
  generalize X.known.all okT = a4
  generalize cacheB X.cache = a5
  generalize decide (X.hosts.length ≤ 4) = a6
  generalize X.hosts.all hoOk = a7
  generalize onceB X.hosts = a8
  generalize decide (X.letters.length ≤ 30) = a9
  generalize X.letters.all leOk = b1
  generalize decide (X.book.size ≤ 12000) = b2
  generalize inB X.sure 0 X.book.size = b3
  generalize decide (X.calls.length ≤ 12) = b4
  generalize X.calls.all (caOk X.letters.length) = b5
  generalize decide (X.talks.length ≤ 12) = b6
  generalize X.talks.all (taOk X.hosts.length) = b7
  generalize toldB X.told = b8
  ac_rfl

open Classical in
set_option maxRecDepth 100000 in
set_option maxHeartbeats 4000000 in
theorem worldS (X : Wd) (cs : List Value) (w : World) (h : wdAt w 0 X cs) (hz : ww X ≤ 1048576) :
    Calls Tryz.prog 19 #[.agg cs.toArray] w fun e w' => e = .returned (.bool (worldB X)) ∧ Below w.heap.size w w' := by
  have h0 := h
  obtain ⟨-, ak, ck, ac, cc, ah, ch, al, cl, aa, ca, az, cz, ai, ci, rfl, hy0, hy1, hy2, hy3, hy4, hy5, hy6⟩ := h
  show Calls Tryz.prog 19 #[.agg #[.int .i64 X.time, .int .i64 X.fresh, .slice ak X.known.length ck, .slice ac X.cache.length cc, .slice ah X.hosts.length ch, .slice al X.letters.length cl, .string X.book, .int .i64 X.sure, .slice aa X.calls.length ca, .slice az X.talks.length cz, .slice ai X.told.length ci]] w _
  have HX := hide (Box.new w 40 [.int .i64 X.time, .int .i64 X.fresh, .slice ak X.known.length ck, .slice ac X.cache.length cc, .slice ah X.hosts.length ch, .slice al X.letters.length cl, .string X.book, .int .i64 X.sure, .slice aa X.calls.length ca, .slice az X.talks.length cz, .slice ai X.told.length ci])
  have HI0 := hide (fun v => in26 X.time 0 100000 v)
  have HI1 := hide (fun v => in26 X.fresh 1000 999990 v)
  have HC1 := hide (fun v (hv : Below w.heap.size w v) => cacheS X.cache ac cc v (poK_pols (hy1.on hv)) (by unfold ww at hz; omega) (polZ_all (by unfold ww at hz; omega)))
  have HC2 := hide (fun v (hv : Below w.heap.size w v) => hostsS X.hosts ah ch v (hy2.on hv) (by unfold ww at hz; omega))
  have HI3 := hide (fun v => in26 X.sure 0 X.book.size v)
  have HC9 := hide (fun v (hv : Below w.heap.size w v) => openS X [.int .i64 X.time, .int .i64 X.fresh, .slice ak X.known.length ck, .slice ac X.cache.length cc, .slice ah X.hosts.length ch, .slice al X.letters.length cl, .string X.book, .int .i64 X.sure, .slice aa X.calls.length ca, .slice az X.talks.length cz, .slice ai X.told.length ci] v (wdK.on (w := w) (L := 0) (x := X) h0 hv) hz)
  have HYk := hide hy0
  have HYl := hide hy3
  have HYd := hide hy6
  have HKW : Hid (∀ t ∈ X.known, t.wt ≤ 1048576) := fun t ht => by have := wts_mem ht; unfold ww at hz; omega
  have HLW : Hid (∀ t ∈ X.letters, lew t ≤ 1048576) := fun t ht => by have := ws_mem lew ht; unfold ww at hz; omega
  have hk0 : X.known.length ≤ 1048576 := by unfold ww at hz; omega
  have hl0 : X.letters.length ≤ 1048576 := by unfold ww at hz; omega
  have hd0 : X.told.length ≤ 1048576 := by unfold ww at hz; omega
  have hbk : X.book.size ≤ 1048576 := by unfold ww at hz; omega
  have HW : Hid (worldB X = (inB X.time 0 100000 && (inB X.fresh 1000 999990 && (decide (X.known.length ≤ 300) && (cacheB X.cache && (hosB X.hosts && (decide (X.letters.length ≤ 30) && (decide (X.book.size ≤ 12000) && (inB X.sure 0 X.book.size && (X.known.all okT && (X.letters.all leOk && (toldB X.told && openB X)))))))))))) := worldB_spec X
  have HTD : Hid ((toldP X.told X.told.length → toldB X.told = true) ∧ (¬ toldP X.told X.told.length → toldB X.told = false)) := ⟨fun h => decide_eq_true h, fun h => decide_eq_false h⟩
  clear h0 hz hy0 hy1 hy2 hy3 hy4 hy5 hy6
  generalize worldB X = R at *
  generalize inB X.time 0 100000 = bt at *
  generalize inB X.fresh 1000 999990 = bf at *
  generalize cacheB X.cache = bc at *
  generalize hosB X.hosts = bh at *
  generalize inB X.sure 0 X.book.size = bs at *
  generalize toldB X.told = bd at *
  generalize openB X = bo at *
  go_enter Tryz.func19, Tryz.ntmps19
  go_wp2_with fail
  refine (unhide HI0 _).mono ?_
  rintro e w1 ⟨rfl, rfl⟩
  cases bt
  · have HE : Hid (R = false) := by show R = false; rw [unhide HW]; simp
    go_wp2_with fail
    go_ret
    exact ⟨retB (unhide HE), abG _⟩
  go_wp2_with fail
  refine (unhide HI1 _).mono ?_
  rintro e w1 ⟨rfl, rfl⟩
  cases bf
  · have HE : Hid (R = false) := by show R = false; rw [unhide HW]; simp
    go_wp2_with fail
    go_ret
    exact ⟨retB (unhide HE), abG _⟩
  by_cases hk3 : (X.known.length : Int) ≤ 300
  rotate_left
  · have HE : Hid (R = false) := by show R = false; rw [unhide HW, decide_eq_false (show ¬ X.known.length ≤ 300 by omega)]; simp
    go_wp2_with fail
    go_ret
    exact ⟨retB (unhide HE), abG _⟩
  go_wp2_with fail
  refine (unhide HC1 _ (abG _)).mono ?_
  rintro e w1 ⟨rfl, hb1⟩
  have HB1 := hide (btG (abG _) hb1)
  have HX1 := hide ((unhide HX).on hb1)
  clear hb1 HX
  cases bc
  · have HE : Hid (R = false) := by show R = false; rw [unhide HW]; simp
    go_wp2_with fail
    go_ret
    exact ⟨retB (unhide HE), unhide HB1⟩
  have c4 : w1.cell? ⟨w.heap.size, 4, none⟩ = some (.slice ah X.hosts.length ch) := (unhide HX1).cell rfl
  go_wp2_with fail
  refine (unhide HC2 _ (unhide HB1)).mono ?_
  rintro e w2 ⟨rfl, hb2⟩
  have HB2 := hide (btG (unhide HB1) hb2)
  have HX2 := hide ((unhide HX1).on hb2)
  clear hb2 HX1 HB1 c4
  cases bh
  · have HE : Hid (R = false) := by show R = false; rw [unhide HW]; simp
    go_wp2_with fail
    go_ret
    exact ⟨retB (unhide HE), unhide HB2⟩
  have c5 : w2.cell? ⟨w.heap.size, 5, none⟩ = some (.slice al X.letters.length cl) := (unhide HX2).cell rfl
  have c6 : w2.cell? ⟨w.heap.size, 6, none⟩ = some (.string X.book) := (unhide HX2).cell rfl
  have c7 : w2.cell? ⟨w.heap.size, 7, none⟩ = some (.int .i64 X.sure) := (unhide HX2).cell rfl
  by_cases hl3 : (X.letters.length : Int) ≤ 30
  rotate_left
  · have HE : Hid (R = false) := by show R = false; rw [unhide HW, decide_eq_false (show ¬ X.letters.length ≤ 30 by omega)]; simp
    go_wp2_with fail
    go_ret
    exact ⟨retB (unhide HE), unhide HB2⟩
  by_cases hb3 : (X.book.size : Int) ≤ 12000
  rotate_left
  · have HE : Hid (R = false) := by show R = false; rw [unhide HW, decide_eq_false (show ¬ X.book.size ≤ 12000 by omega)]; simp
    go_wp2_with fail
    go_ret
    exact ⟨retB (unhide HE), unhide HB2⟩
  go_wp2_with fail
  refine (unhide HI3 _).mono ?_
  rintro e w3 ⟨rfl, rfl⟩
  cases bs
  · have HE : Hid (R = false) := by show R = false; rw [unhide HW]; simp
    go_wp2_with fail
    go_ret
    exact ⟨retB (unhide HE), unhide HB2⟩
  have HW2 : Hid (R = (X.known.all okT && (X.letters.all leOk && (bd && bo)))) := by show R = _; rw [unhide HW, decide_eq_true (show X.known.length ≤ 300 by omega), decide_eq_true (show X.letters.length ≤ 30 by omega), decide_eq_true (show X.book.size ≤ 12000 by omega)]; rfl
  clear HW c5 c6 c7
  go_wp2_with fail
  go_loopw [3] (fun i wr => ∃ k : Nat, i = .int .i64 k ∧ Below w3.heap.size w3 wr ∧ k ≤ X.known.length ∧ ∀ j x, j < k → X.known[j]? = some x → okT x = true) (fun i _ => X.known.length - (intOf i).toNat)
  case atStart => exact ⟨0, rfl, Below.refl _ _, by omega, fun j x hj => by omega⟩
  case round =>
    obtain ⟨k, rfl, hb, hk, ha⟩ := hrel
    have HBrp := hide hb
    have HAp := hide ha
    clear ha
    have c2 : wr.cell? ⟨w.heap.size, 2, none⟩ = some (.slice ak X.known.length ck) := ((unhide HX2).on hb).cell rfl
    by_cases hp : k < X.known.length
    · obtain ⟨x, hkx⟩ : ∃ x, X.known[k]? = some x := ⟨_, List.getElem?_eq_getElem hp⟩
      obtain ⟨b, o, cs, hba, -, -, HR0, HT2, hcl0⟩ := ((unhide HYk).on (btG (unhide HB2) hb)).get hkx
      subst hba
      have HR := hide (show wr.rangeAt b (o + k * 4) cs from HR0)
      have hcl := hide (show cs.length = 4 from hcl0)
      have HC := hide (tmOkS x cs wr HT2 (unhide HKW x (List.mem_of_getElem? hkx)))
      have q2 : (k : Int) < (X.known.length : Int) := by omega
      have q3 : (0 : Int) ≤ (k : Int) := by omega
      have w1 : wrap64 ((k : Int) + 1) = ((k + 1 : Nat) : Int) := by unfold wrap64; omega
      have HK := hide hkx
      have HM : Hid (okT x = true → ∀ j y, j < k + 1 → X.known[j]? = some y → okT y = true) := fun hx j y hj hy => by
        rcases Nat.lt_or_ge j k with q | q
        · exact unhide HAp j y q hy
        · obtain rfl : j = k := by omega
          rw [unhide HK] at hy
          cases hy
          exact hx
      have HN : Hid (okT x = false → X.known.all okT = false) := fun hx => List.all_eq_false.2 ⟨x, List.mem_of_getElem? (unhide HK), by simp [hx]⟩
      clear hkx HR0 HT2 hcl0 hb
      generalize okT x = fx at *
      cases fx with
      | true =>
        go_wp2_with (refine wpList_load_mid rfl _ _ rfl b (o + k * 4) rfl cs _ (unhide HR) Tryz.underlying52 rfl (by rw [unhide hcl]; exact infoITm) ?_)
        refine (unhide HC).mono ?_
        rintro e w3 ⟨rfl, hb3⟩
        have HB3 := hide (btG (unhide HBrp) hb3)
        clear hb3
        go_wp2_with fail
        go_roundw
        case rel => exact ⟨k + 1, rfl, unhide HB3, by omega, unhide HM (by first | rfl | trivial)⟩
        case measure => simp only [intOf]; omega
      | false =>
        have HE : Hid (R = false) := by show R = false; rw [unhide HW2, unhide HN rfl]; simp
        go_wp2_with (refine wpList_load_mid rfl _ _ rfl b (o + k * 4) rfl cs _ (unhide HR) Tryz.underlying52 rfl (by rw [unhide hcl]; exact infoITm) ?_)
        refine (unhide HC).mono ?_
        rintro e w3 ⟨rfl, hb3⟩
        have HB3 := hide (btG (unhide HBrp) hb3)
        clear hb3
        go_wp2_with fail
        go_ret
        exact ⟨retB (unhide HE), btG (unhide HB2) (unhide HB3)⟩
    · have cN : ¬ (k : Int) < (X.known.length : Int) := by omega
      have HAll : X.known.all okT = true := List.all_eq_true.2 fun x hx => by
        obtain ⟨j, hj⟩ := List.getElem?_of_mem hx
        exact unhide HAp j x (by have := (List.getElem?_eq_some_iff.1 hj).1; omega) hj
      obtain ⟨V1, hV1⟩ : ∃ V, V = wr := ⟨_, rfl⟩
      have HXa : Hid (Box V1 w.heap.size 40 [.int .i64 X.time, .int .i64 X.fresh, .slice ak X.known.length ck, .slice ac X.cache.length cc, .slice ah X.hosts.length ch, .slice al X.letters.length cl, .string X.book, .int .i64 X.sure, .slice aa X.calls.length ca, .slice az X.talks.length cz, .slice ai X.told.length ci]) := by rw [hV1]; exact (unhide HX2).on hb
      have HBa : Hid (Below w.heap.size w V1) := by rw [hV1]; exact btG (unhide HB2) hb
      have HW2 : Hid (R = (X.letters.all leOk && (bd && bo))) := by show R = _; rw [unhide HW2, HAll]; rfl
      rw [← hV1] at c2 ⊢
      clear hV1 hb HAll
      go_wp2_with fail
      go_loopw [4] (fun i wr => ∃ k : Nat, i = .int .i64 k ∧ Below V1.heap.size V1 wr ∧ k ≤ X.letters.length ∧ ∀ j x, j < k → X.letters[j]? = some x → leOk x = true) (fun i _ => X.letters.length - (intOf i).toNat)
      case atStart => exact ⟨0, rfl, Below.refl _ _, by omega, fun j x hj => by omega⟩
      case round =>
        obtain ⟨k, rfl, hb, hk, ha⟩ := hrel
        have HBrq := hide hb
        have HAq := hide ha
        clear ha
        have c5 : wr.cell? ⟨w.heap.size, 5, none⟩ = some (.slice al X.letters.length cl) := ((unhide HXa).on hb).cell rfl
        by_cases hp : k < X.letters.length
        · obtain ⟨x, hkx⟩ : ∃ x, X.letters[k]? = some x := ⟨_, List.getElem?_eq_getElem hp⟩
          obtain ⟨b, o, cs, hba, -, -, HR0, HT2, hcl0⟩ := ((unhide HYl).on (btG (unhide HBa) hb)).get hkx
          subst hba
          have HR := hide (show wr.rangeAt b (o + k * 5) cs from HR0)
          have hcl := hide (show cs.length = 5 from hcl0)
          have HC := hide (leOkS x cs wr HT2 (unhide HLW x (List.mem_of_getElem? hkx)))
          have q2 : (k : Int) < (X.letters.length : Int) := by omega
          have q3 : (0 : Int) ≤ (k : Int) := by omega
          have w1 : wrap64 ((k : Int) + 1) = ((k + 1 : Nat) : Int) := by unfold wrap64; omega
          have HK := hide hkx
          have HM : Hid (leOk x = true → ∀ j y, j < k + 1 → X.letters[j]? = some y → leOk y = true) := fun hx j y hj hy => by
            rcases Nat.lt_or_ge j k with q | q
            · exact unhide HAq j y q hy
            · obtain rfl : j = k := by omega
              rw [unhide HK] at hy
              cases hy
              exact hx
          have HN : Hid (leOk x = false → X.letters.all leOk = false) := fun hx => List.all_eq_false.2 ⟨x, List.mem_of_getElem? (unhide HK), by simp [hx]⟩
          clear hkx HR0 HT2 hcl0 hb
          generalize leOk x = fx at *
          cases fx with
          | true =>
            go_wp2_with (refine wpList_load_mid rfl _ _ rfl b (o + k * 5) rfl cs _ (unhide HR) Tryz.underlying103 rfl (by rw [unhide hcl]; exact infoILe) ?_)
            refine (unhide HC).mono ?_
            rintro e w3 ⟨rfl, hb3⟩
            have HB3 := hide (btG (unhide HBrq) hb3)
            clear hb3
            go_wp2_with fail
            go_roundw
            case rel => exact ⟨k + 1, rfl, unhide HB3, by omega, unhide HM (by first | rfl | trivial)⟩
            case measure => simp only [intOf]; omega
          | false =>
            have HE : Hid (R = false) := by show R = false; rw [unhide HW2, unhide HN rfl]; simp
            go_wp2_with (refine wpList_load_mid rfl _ _ rfl b (o + k * 5) rfl cs _ (unhide HR) Tryz.underlying103 rfl (by rw [unhide hcl]; exact infoILe) ?_)
            refine (unhide HC).mono ?_
            rintro e w3 ⟨rfl, hb3⟩
            have HB3 := hide (btG (unhide HBrq) hb3)
            clear hb3
            go_wp2_with fail
            go_ret
            exact ⟨retB (unhide HE), btG (unhide HBa) (unhide HB3)⟩
        · have cN : ¬ (k : Int) < (X.letters.length : Int) := by omega
          have HAll : X.letters.all leOk = true := List.all_eq_true.2 fun x hx => by
            obtain ⟨j, hj⟩ := List.getElem?_of_mem hx
            exact unhide HAq j x (by have := (List.getElem?_eq_some_iff.1 hj).1; omega) hj
          obtain ⟨V2, hV2⟩ : ∃ V, V = wr := ⟨_, rfl⟩
          have HXb : Hid (Box V2 w.heap.size 40 [.int .i64 X.time, .int .i64 X.fresh, .slice ak X.known.length ck, .slice ac X.cache.length cc, .slice ah X.hosts.length ch, .slice al X.letters.length cl, .string X.book, .int .i64 X.sure, .slice aa X.calls.length ca, .slice az X.talks.length cz, .slice ai X.told.length ci]) := by rw [hV2]; exact (unhide HXa).on hb
          have HBb : Hid (Below w.heap.size w V2) := by rw [hV2]; exact btG (unhide HBa) hb
          have HW2 : Hid (R = (bd && bo)) := by show R = _; rw [unhide HW2, HAll]; rfl
          rw [← hV2] at c5 ⊢
          clear hV2 hb HAll
          go_wp2_with fail
          go_loopw [5] (fun i wr => ∃ k : Nat, i = .int .i64 k ∧ Below V2.heap.size V2 wr ∧ k ≤ X.told.length ∧ toldP X.told k) (fun i _ => X.told.length - (intOf i).toNat)
          case atStart => exact ⟨0, rfl, Below.refl _ _, by omega, fun j x hj => by omega⟩
          case round =>
            obtain ⟨k, rfl, hb, hk, ha⟩ := hrel
            have HBr := hide hb
            have HA := hide ha
            clear ha
            have c10 : wr.cell? ⟨w.heap.size, 10, none⟩ = some (.slice ai X.told.length ci) := ((unhide HXb).on hb).cell rfl
            by_cases hp : k < X.told.length
            · obtain ⟨x, hkx⟩ : ∃ x, X.told[k]? = some x := ⟨_, List.getElem?_eq_getElem hp⟩
              obtain ⟨b, o, hba, -, c0⟩ := ((unhide HYd).on (btG (unhide HBb) hb)) k x hkx
              subst hba
              have q2 : (k : Int) < (X.told.length : Int) := by omega
              have q3 : (0 : Int) ≤ (k : Int) := by omega
              have w1 : wrap64 ((k : Int) + 1) = ((k + 1 : Nat) : Int) := by unfold wrap64; omega
              have HQ := hide (fun v => in26 x 0 1000000 v)
              have HK := hide hkx
              clear hkx hb
              cases hx : inB x 0 1000000 with
              | false =>
                have HD : Hid (bd = false) := (unhide HTD).2 fun hq => by have := (hq k x (by omega) (unhide HK)).1; rw [hx] at this; cases this
                have HE : Hid (R = false) := by show R = false; rw [unhide HW2, unhide HD]; simp
                rw [hx] at HQ
                clear hx
                go_wp2_with fail
                refine wp_region_held (S := fun y => y.cell? ⟨w.heap.size, 10, none⟩ = some (.slice (some ⟨b, o, none⟩) X.told.length ci) ∧ y.cell? ⟨b, o + k, none⟩ = some (.int .i64 x)) Tryz.mixedO ?_
                have hS : (fun y : World => y.cell? ⟨w.heap.size, 10, none⟩ = some (.slice (some ⟨b, o, none⟩) X.told.length ci) ∧ y.cell? ⟨b, o + k, none⟩ = some (.int .i64 x)) wr.drew := ⟨c10, c0⟩
                show wpAnyH _ _ _ _ _ _ _ _ wr.drew
                refine wpAnyH_take (i := 0) (oi := { dst := some 90, op := Op.fieldAddr 40 (Operand.tmp 1) 10, type := 0, pos := "l13_world.go:50", after := #[], guard := none }) (v := ?_) rfl (by kernel_rfl) (by kernel_rfl) (by kernel_rfl) (fun _ _ _ h => h) (Or.inl ⟨by rfl, ?_⟩) hS ?_
                rotate_left
                · intro y hSy; obtain ⟨y0, y1⟩ := hSy; go_simp; try with_reducible rfl
                simp only [Act.put, List.setIfInBounds_toArray, List.set_cons_succ, List.set_cons_zero]
                refine wpAnyH_take (i := 1) (oi := { dst := some 91, op := Op.load 28 (Operand.tmp 90), type := 28, pos := "l13_world.go:50", after := #[{ on := 0, ground := Ground.data }], guard := none }) (v := ?_) rfl (by kernel_rfl) (by kernel_rfl) (by kernel_rfl) (fun _ _ _ h => h) (Or.inl ⟨by rfl, ?_⟩) hS ?_
                rotate_left
                · intro y hSy; obtain ⟨y0, y1⟩ := hSy; go_simp; try with_reducible rfl
                simp only [Act.put, List.setIfInBounds_toArray, List.set_cons_succ, List.set_cons_zero]
                refine wpAnyH_take (i := 2) (oi := { dst := some 92, op := Op.move (Operand.tmp 5), type := 3, pos := "l13_world.go:50", after := #[], guard := none }) (v := ?_) rfl (by kernel_rfl) (by kernel_rfl) (by kernel_rfl) (fun _ _ _ h => h) (Or.inl ⟨by rfl, ?_⟩) hS ?_
                rotate_left
                · intro y hSy; obtain ⟨y0, y1⟩ := hSy; go_simp; try with_reducible rfl
                simp only [Act.put, List.setIfInBounds_toArray, List.set_cons_succ, List.set_cons_zero]
                refine wpAnyH_take (i := 3) (oi := { dst := some 93, op := Op.indexAddr 28 (Operand.tmp 91) (Operand.tmp 92), type := 0, pos := "l13_world.go:50", after := #[{ on := 1, ground := Ground.data }, { on := 2, ground := Ground.data }], guard := none }) (v := ?_) rfl (by kernel_rfl) (by kernel_rfl) (by kernel_rfl) (fun _ _ _ h => h) (Or.inl ⟨by rfl, ?_⟩) hS ?_
                rotate_left
                · intro y hSy; obtain ⟨y0, y1⟩ := hSy; go_simp; try with_reducible rfl
                simp only [Act.put, List.setIfInBounds_toArray, List.set_cons_succ, List.set_cons_zero]
                refine wpAnyH_take (i := 4) (oi := { dst := some 94, op := Op.load 3 (Operand.tmp 93), type := 3, pos := "l13_world.go:50", after := #[{ on := 3, ground := Ground.data }], guard := none }) (v := ?_) rfl (by kernel_rfl) (by kernel_rfl) (by kernel_rfl) (fun _ _ _ h => h) (Or.inl ⟨by rfl, ?_⟩) hS ?_
                rotate_left
                · intro y hSy; obtain ⟨y0, y1⟩ := hSy; go_simp; try with_reducible rfl
                simp only [Act.put, List.setIfInBounds_toArray, List.set_cons_succ, List.set_cons_zero]
                refine wpAnyH_all (rs := [5]) (by kernel_rfl) (by simp) ?_
                intro i hi
                simp only [List.mem_singleton] at hi
                subst hi
                refine step_call (f := 20) (fn := Tryz.f20) (d := 95) (args := #[.int .i64 x, .int .i64 0, .int .i64 1000000]) rfl Tryz.func20 (by kernel_rfl) (by kernel_rfl) (by simp [Act.eval]) ?_
                refine (unhide HQ _).mono ?_
                rintro e w2 ⟨rfl, rfl⟩
                refine ⟨_, rfl, ?_⟩
                refine ⟨hS, ?_⟩
                simp only [Act.put, List.setIfInBounds_toArray, List.set_cons_succ, List.set_cons_zero]
                refine wpAnyH_take (i := 6) (oi := { dst := some 96, op := Op.unOp UnOp.not 4 (Operand.tmp 95), type := 4, pos := "l13_world.go:50", after := #[{ on := 5, ground := Ground.data }], guard := none }) (v := ?_) rfl (by kernel_rfl) (by kernel_rfl) (by kernel_rfl) (fun _ _ _ h => h) (Or.inl ⟨by rfl, ?_⟩) hS ?_
                rotate_left
                · intro y hSy; obtain ⟨y0, y1⟩ := hSy; go_simp; try with_reducible rfl
                simp only [Act.put, List.setIfInBounds_toArray, List.set_cons_succ, List.set_cons_zero]
                refine wpAnyH_take (i := 7) (oi := { dst := some 97, op := Op.move (Operand.tmp 96), type := 4, pos := "l13_world.go:50", after := #[{ on := 6, ground := Ground.data }, { on := 5, ground := Ground.chain }], guard := none }) (v := ?_) rfl (by kernel_rfl) (by kernel_rfl) (by kernel_rfl) (fun _ _ _ h => h) (Or.inl ⟨by rfl, ?_⟩) hS ?_
                rotate_left
                · intro y hSy; obtain ⟨y0, y1⟩ := hSy; go_simp; try with_reducible rfl
                simp only [Act.put, List.setIfInBounds_toArray, List.set_cons_succ, List.set_cons_zero]
                refine wpAnyH_take (i := 8) (oi := { dst := some 98, op := Op.move (Operand.tmp 5), type := 3, pos := "l13_world.go:50", after := #[{ on := 7, ground := Ground.guard }], guard := some (7, false) }) (v := undef) rfl (by kernel_rfl) (by kernel_rfl) (by kernel_rfl) (fun _ _ _ h => h) (Or.inr ⟨by rfl, rfl⟩) hS ?_
                simp only [Act.put, List.setIfInBounds_toArray, List.set_cons_succ, List.set_cons_zero]
                refine wpAnyH_take (i := 9) (oi := { dst := some 99, op := Op.binOp BinOp.gtr 3 (Operand.tmp 98) (Operand.const (Value.int IntKind.i64 0)) 3, type := 4, pos := "l13_world.go:50", after := #[{ on := 8, ground := Ground.data }, { on := 7, ground := Ground.guard }], guard := some (7, false) }) (v := undef) rfl (by kernel_rfl) (by kernel_rfl) (by kernel_rfl) (fun _ _ _ h => h) (Or.inr ⟨by rfl, rfl⟩) hS ?_
                simp only [Act.put, List.setIfInBounds_toArray, List.set_cons_succ, List.set_cons_zero]
                refine wpAnyH_take (i := 10) (oi := { dst := some 100, op := Op.move (Operand.tmp 99), type := 4, pos := "l13_world.go:50", after := #[{ on := 9, ground := Ground.data }, { on := 7, ground := Ground.chain }, { on := 7, ground := Ground.guard }], guard := some (7, false) }) (v := undef) rfl (by kernel_rfl) (by kernel_rfl) (by kernel_rfl) (fun _ _ _ h => h) (Or.inr ⟨by rfl, rfl⟩) hS ?_
                simp only [Act.put, List.setIfInBounds_toArray, List.set_cons_succ, List.set_cons_zero]
                refine wpAnyH_take (i := 11) (oi := { dst := some 101, op := Op.fieldAddr 40 (Operand.tmp 1) 10, type := 0, pos := "l13_world.go:50", after := #[{ on := 10, ground := Ground.guard }], guard := some (10, true) }) (v := undef) rfl (by kernel_rfl) (by kernel_rfl) (by kernel_rfl) (fun _ _ _ h => h) (Or.inr ⟨by rfl, rfl⟩) hS ?_
                simp only [Act.put, List.setIfInBounds_toArray, List.set_cons_succ, List.set_cons_zero]
                refine wpAnyH_take (i := 12) (oi := { dst := some 102, op := Op.load 28 (Operand.tmp 101), type := 28, pos := "l13_world.go:50", after := #[{ on := 11, ground := Ground.data }, { on := 10, ground := Ground.guard }], guard := some (10, true) }) (v := undef) rfl (by kernel_rfl) (by kernel_rfl) (by kernel_rfl) (fun _ _ _ h => h) (Or.inr ⟨by rfl, rfl⟩) hS ?_
                simp only [Act.put, List.setIfInBounds_toArray, List.set_cons_succ, List.set_cons_zero]
                refine wpAnyH_take (i := 13) (oi := { dst := some 103, op := Op.move (Operand.tmp 5), type := 3, pos := "l13_world.go:50", after := #[{ on := 10, ground := Ground.guard }], guard := some (10, true) }) (v := undef) rfl (by kernel_rfl) (by kernel_rfl) (by kernel_rfl) (fun _ _ _ h => h) (Or.inr ⟨by rfl, rfl⟩) hS ?_
                simp only [Act.put, List.setIfInBounds_toArray, List.set_cons_succ, List.set_cons_zero]
                refine wpAnyH_take (i := 14) (oi := { dst := some 104, op := Op.binOp BinOp.sub 3 (Operand.tmp 103) (Operand.const (Value.int IntKind.i64 1)) 3, type := 3, pos := "l13_world.go:50", after := #[{ on := 13, ground := Ground.data }, { on := 10, ground := Ground.guard }], guard := some (10, true) }) (v := undef) rfl (by kernel_rfl) (by kernel_rfl) (by kernel_rfl) (fun _ _ _ h => h) (Or.inr ⟨by rfl, rfl⟩) hS ?_
                simp only [Act.put, List.setIfInBounds_toArray, List.set_cons_succ, List.set_cons_zero]
                refine wpAnyH_take (i := 15) (oi := { dst := some 105, op := Op.indexAddr 28 (Operand.tmp 102) (Operand.tmp 104), type := 0, pos := "l13_world.go:50", after := #[{ on := 12, ground := Ground.data }, { on := 14, ground := Ground.data }, { on := 10, ground := Ground.guard }], guard := some (10, true) }) (v := undef) rfl (by kernel_rfl) (by kernel_rfl) (by kernel_rfl) (fun _ _ _ h => h) (Or.inr ⟨by rfl, rfl⟩) hS ?_
                simp only [Act.put, List.setIfInBounds_toArray, List.set_cons_succ, List.set_cons_zero]
                refine wpAnyH_take (i := 16) (oi := { dst := some 106, op := Op.load 3 (Operand.tmp 105), type := 3, pos := "l13_world.go:50", after := #[{ on := 15, ground := Ground.data }, { on := 10, ground := Ground.guard }], guard := some (10, true) }) (v := undef) rfl (by kernel_rfl) (by kernel_rfl) (by kernel_rfl) (fun _ _ _ h => h) (Or.inr ⟨by rfl, rfl⟩) hS ?_
                simp only [Act.put, List.setIfInBounds_toArray, List.set_cons_succ, List.set_cons_zero]
                refine wpAnyH_take (i := 17) (oi := { dst := some 107, op := Op.fieldAddr 40 (Operand.tmp 1) 10, type := 0, pos := "l13_world.go:50", after := #[{ on := 10, ground := Ground.guard }], guard := some (10, true) }) (v := undef) rfl (by kernel_rfl) (by kernel_rfl) (by kernel_rfl) (fun _ _ _ h => h) (Or.inr ⟨by rfl, rfl⟩) hS ?_
                simp only [Act.put, List.setIfInBounds_toArray, List.set_cons_succ, List.set_cons_zero]
                refine wpAnyH_take (i := 18) (oi := { dst := some 108, op := Op.load 28 (Operand.tmp 107), type := 28, pos := "l13_world.go:50", after := #[{ on := 17, ground := Ground.data }, { on := 10, ground := Ground.guard }], guard := some (10, true) }) (v := undef) rfl (by kernel_rfl) (by kernel_rfl) (by kernel_rfl) (fun _ _ _ h => h) (Or.inr ⟨by rfl, rfl⟩) hS ?_
                simp only [Act.put, List.setIfInBounds_toArray, List.set_cons_succ, List.set_cons_zero]
                refine wpAnyH_take (i := 19) (oi := { dst := some 109, op := Op.move (Operand.tmp 5), type := 3, pos := "l13_world.go:50", after := #[{ on := 10, ground := Ground.guard }], guard := some (10, true) }) (v := undef) rfl (by kernel_rfl) (by kernel_rfl) (by kernel_rfl) (fun _ _ _ h => h) (Or.inr ⟨by rfl, rfl⟩) hS ?_
                simp only [Act.put, List.setIfInBounds_toArray, List.set_cons_succ, List.set_cons_zero]
                refine wpAnyH_take (i := 20) (oi := { dst := some 110, op := Op.indexAddr 28 (Operand.tmp 108) (Operand.tmp 109), type := 0, pos := "l13_world.go:50", after := #[{ on := 18, ground := Ground.data }, { on := 19, ground := Ground.data }, { on := 10, ground := Ground.guard }], guard := some (10, true) }) (v := undef) rfl (by kernel_rfl) (by kernel_rfl) (by kernel_rfl) (fun _ _ _ h => h) (Or.inr ⟨by rfl, rfl⟩) hS ?_
                simp only [Act.put, List.setIfInBounds_toArray, List.set_cons_succ, List.set_cons_zero]
                refine wpAnyH_take (i := 21) (oi := { dst := some 111, op := Op.load 3 (Operand.tmp 110), type := 3, pos := "l13_world.go:50", after := #[{ on := 20, ground := Ground.data }, { on := 10, ground := Ground.guard }], guard := some (10, true) }) (v := undef) rfl (by kernel_rfl) (by kernel_rfl) (by kernel_rfl) (fun _ _ _ h => h) (Or.inr ⟨by rfl, rfl⟩) hS ?_
                simp only [Act.put, List.setIfInBounds_toArray, List.set_cons_succ, List.set_cons_zero]
                refine wpAnyH_take (i := 22) (oi := { dst := some 112, op := Op.binOp BinOp.geq 3 (Operand.tmp 106) (Operand.tmp 111) 3, type := 4, pos := "l13_world.go:50", after := #[{ on := 16, ground := Ground.data }, { on := 21, ground := Ground.data }, { on := 10, ground := Ground.guard }], guard := some (10, true) }) (v := undef) rfl (by kernel_rfl) (by kernel_rfl) (by kernel_rfl) (fun _ _ _ h => h) (Or.inr ⟨by rfl, rfl⟩) hS ?_
                simp only [Act.put, List.setIfInBounds_toArray, List.set_cons_succ, List.set_cons_zero]
                refine wpAnyH_take (i := 23) (oi := { dst := some 113, op := Op.pick (Operand.tmp 100) (Operand.tmp 112) (Operand.const (Value.bool false)), type := 4, pos := "l13_world.go:50", after := #[{ on := 10, ground := Ground.data }, { on := 22, ground := Ground.data }, { on := 7, ground := Ground.guard }], guard := some (7, false) }) (v := undef) rfl (by kernel_rfl) (by kernel_rfl) (by kernel_rfl) (fun _ _ _ h => h) (Or.inr ⟨by rfl, rfl⟩) hS ?_
                simp only [Act.put, List.setIfInBounds_toArray, List.set_cons_succ, List.set_cons_zero]
                refine wpAnyH_take (i := 24) (oi := { dst := some 114, op := Op.pick (Operand.tmp 97) (Operand.const (Value.bool true)) (Operand.tmp 113), type := 4, pos := "l13_world.go:50", after := #[{ on := 7, ground := Ground.data }, { on := 23, ground := Ground.data }], guard := none }) (v := ?_) rfl (by kernel_rfl) (by kernel_rfl) (by kernel_rfl) (fun _ _ _ h => h) (Or.inl ⟨by rfl, ?_⟩) hS ?_
                rotate_left
                · intro y hSy; obtain ⟨y0, y1⟩ := hSy; go_simp; try with_reducible rfl
                simp only [Act.put, List.setIfInBounds_toArray, List.set_cons_succ, List.set_cons_zero]
                refine wpAnyH_done (by kernel_rfl) ?_ _
                go_wp2_with fail
                go_ret
                exact ⟨retB (unhide HE), (btG (unhide HBb) (unhide HBr)).drew⟩
              | true =>
                have HX := hide hx
                rw [hx] at HQ
                clear hx
                by_cases hk0 : k = 0
                · subst hk0
                  have HM : Hid (toldP X.told 1) := fun j y hj hy => by
                    obtain rfl : j = 0 := by omega
                    rw [unhide HK] at hy
                    cases hy
                    exact ⟨unhide HX, fun z hz hq => absurd rfl hq⟩
                  have c0' : wr.cell? ⟨b, o, none⟩ = some (.int .i64 x) := c0
                  clear c0
                  go_wp2_with fail
                  refine wp_region_held (S := fun y => y.cell? ⟨w.heap.size, 10, none⟩ = some (.slice (some ⟨b, o, none⟩) X.told.length ci) ∧ y.cell? ⟨b, o, none⟩ = some (.int .i64 x)) Tryz.mixedO ?_
                  have hS : (fun y : World => y.cell? ⟨w.heap.size, 10, none⟩ = some (.slice (some ⟨b, o, none⟩) X.told.length ci) ∧ y.cell? ⟨b, o, none⟩ = some (.int .i64 x)) wr.drew := ⟨c10, c0'⟩
                  show wpAnyH _ _ _ _ _ _ _ _ wr.drew
                  refine wpAnyH_take (i := 0) (oi := { dst := some 90, op := Op.fieldAddr 40 (Operand.tmp 1) 10, type := 0, pos := "l13_world.go:50", after := #[], guard := none }) (v := ?_) rfl (by kernel_rfl) (by kernel_rfl) (by kernel_rfl) (fun _ _ _ h => h) (Or.inl ⟨by rfl, ?_⟩) hS ?_
                  rotate_left
                  · intro y hSy; obtain ⟨y0, y1⟩ := hSy; go_simp; try with_reducible rfl
                  simp only [Act.put, List.setIfInBounds_toArray, List.set_cons_succ, List.set_cons_zero]
                  refine wpAnyH_take (i := 1) (oi := { dst := some 91, op := Op.load 28 (Operand.tmp 90), type := 28, pos := "l13_world.go:50", after := #[{ on := 0, ground := Ground.data }], guard := none }) (v := ?_) rfl (by kernel_rfl) (by kernel_rfl) (by kernel_rfl) (fun _ _ _ h => h) (Or.inl ⟨by rfl, ?_⟩) hS ?_
                  rotate_left
                  · intro y hSy; obtain ⟨y0, y1⟩ := hSy; go_simp; try with_reducible rfl
                  simp only [Act.put, List.setIfInBounds_toArray, List.set_cons_succ, List.set_cons_zero]
                  refine wpAnyH_take (i := 2) (oi := { dst := some 92, op := Op.move (Operand.tmp 5), type := 3, pos := "l13_world.go:50", after := #[], guard := none }) (v := ?_) rfl (by kernel_rfl) (by kernel_rfl) (by kernel_rfl) (fun _ _ _ h => h) (Or.inl ⟨by rfl, ?_⟩) hS ?_
                  rotate_left
                  · intro y hSy; obtain ⟨y0, y1⟩ := hSy; go_simp; try with_reducible rfl
                  simp only [Act.put, List.setIfInBounds_toArray, List.set_cons_succ, List.set_cons_zero]
                  refine wpAnyH_take (i := 3) (oi := { dst := some 93, op := Op.indexAddr 28 (Operand.tmp 91) (Operand.tmp 92), type := 0, pos := "l13_world.go:50", after := #[{ on := 1, ground := Ground.data }, { on := 2, ground := Ground.data }], guard := none }) (v := ?_) rfl (by kernel_rfl) (by kernel_rfl) (by kernel_rfl) (fun _ _ _ h => h) (Or.inl ⟨by rfl, ?_⟩) hS ?_
                  rotate_left
                  · intro y hSy; obtain ⟨y0, y1⟩ := hSy; go_simp; try with_reducible rfl
                  simp only [Act.put, List.setIfInBounds_toArray, List.set_cons_succ, List.set_cons_zero]
                  refine wpAnyH_take (i := 4) (oi := { dst := some 94, op := Op.load 3 (Operand.tmp 93), type := 3, pos := "l13_world.go:50", after := #[{ on := 3, ground := Ground.data }], guard := none }) (v := ?_) rfl (by kernel_rfl) (by kernel_rfl) (by kernel_rfl) (fun _ _ _ h => h) (Or.inl ⟨by rfl, ?_⟩) hS ?_
                  rotate_left
                  · intro y hSy; obtain ⟨y0, y1⟩ := hSy; go_simp; try with_reducible rfl
                  simp only [Act.put, List.setIfInBounds_toArray, List.set_cons_succ, List.set_cons_zero]
                  refine wpAnyH_all (rs := [5]) (by kernel_rfl) (by simp) ?_
                  intro i hi
                  simp only [List.mem_singleton] at hi
                  subst hi
                  refine step_call (f := 20) (fn := Tryz.f20) (d := 95) (args := #[.int .i64 x, .int .i64 0, .int .i64 1000000]) rfl Tryz.func20 (by kernel_rfl) (by kernel_rfl) (by simp [Act.eval]) ?_
                  refine (unhide HQ _).mono ?_
                  rintro e w2 ⟨rfl, rfl⟩
                  refine ⟨_, rfl, ?_⟩
                  refine ⟨hS, ?_⟩
                  simp only [Act.put, List.setIfInBounds_toArray, List.set_cons_succ, List.set_cons_zero]
                  refine wpAnyH_take (i := 6) (oi := { dst := some 96, op := Op.unOp UnOp.not 4 (Operand.tmp 95), type := 4, pos := "l13_world.go:50", after := #[{ on := 5, ground := Ground.data }], guard := none }) (v := ?_) rfl (by kernel_rfl) (by kernel_rfl) (by kernel_rfl) (fun _ _ _ h => h) (Or.inl ⟨by rfl, ?_⟩) hS ?_
                  rotate_left
                  · intro y hSy; obtain ⟨y0, y1⟩ := hSy; go_simp; try with_reducible rfl
                  simp only [Act.put, List.setIfInBounds_toArray, List.set_cons_succ, List.set_cons_zero]
                  refine wpAnyH_take (i := 7) (oi := { dst := some 97, op := Op.move (Operand.tmp 96), type := 4, pos := "l13_world.go:50", after := #[{ on := 6, ground := Ground.data }, { on := 5, ground := Ground.chain }], guard := none }) (v := ?_) rfl (by kernel_rfl) (by kernel_rfl) (by kernel_rfl) (fun _ _ _ h => h) (Or.inl ⟨by rfl, ?_⟩) hS ?_
                  rotate_left
                  · intro y hSy; obtain ⟨y0, y1⟩ := hSy; go_simp; try with_reducible rfl
                  simp only [Act.put, List.setIfInBounds_toArray, List.set_cons_succ, List.set_cons_zero]
                  refine wpAnyH_take (i := 8) (oi := { dst := some 98, op := Op.move (Operand.tmp 5), type := 3, pos := "l13_world.go:50", after := #[{ on := 7, ground := Ground.guard }], guard := some (7, false) }) (v := ?_) rfl (by kernel_rfl) (by kernel_rfl) (by kernel_rfl) (fun _ _ _ h => h) (Or.inl ⟨by rfl, ?_⟩) hS ?_
                  rotate_left
                  · intro y hSy; obtain ⟨y0, y1⟩ := hSy; go_simp; try with_reducible rfl
                  simp only [Act.put, List.setIfInBounds_toArray, List.set_cons_succ, List.set_cons_zero]
                  refine wpAnyH_take (i := 9) (oi := { dst := some 99, op := Op.binOp BinOp.gtr 3 (Operand.tmp 98) (Operand.const (Value.int IntKind.i64 0)) 3, type := 4, pos := "l13_world.go:50", after := #[{ on := 8, ground := Ground.data }, { on := 7, ground := Ground.guard }], guard := some (7, false) }) (v := ?_) rfl (by kernel_rfl) (by kernel_rfl) (by kernel_rfl) (fun _ _ _ h => h) (Or.inl ⟨by rfl, ?_⟩) hS ?_
                  rotate_left
                  · intro y hSy; obtain ⟨y0, y1⟩ := hSy; go_simp; try with_reducible rfl
                  simp only [Act.put, List.setIfInBounds_toArray, List.set_cons_succ, List.set_cons_zero]
                  refine wpAnyH_take (i := 10) (oi := { dst := some 100, op := Op.move (Operand.tmp 99), type := 4, pos := "l13_world.go:50", after := #[{ on := 9, ground := Ground.data }, { on := 7, ground := Ground.chain }, { on := 7, ground := Ground.guard }], guard := some (7, false) }) (v := ?_) rfl (by kernel_rfl) (by kernel_rfl) (by kernel_rfl) (fun _ _ _ h => h) (Or.inl ⟨by rfl, ?_⟩) hS ?_
                  rotate_left
                  · intro y hSy; obtain ⟨y0, y1⟩ := hSy; go_simp; try with_reducible rfl
                  simp only [Act.put, List.setIfInBounds_toArray, List.set_cons_succ, List.set_cons_zero]
                  refine wpAnyH_take (i := 11) (oi := { dst := some 101, op := Op.fieldAddr 40 (Operand.tmp 1) 10, type := 0, pos := "l13_world.go:50", after := #[{ on := 10, ground := Ground.guard }], guard := some (10, true) }) (v := undef) rfl (by kernel_rfl) (by kernel_rfl) (by kernel_rfl) (fun _ _ _ h => h) (Or.inr ⟨by rfl, rfl⟩) hS ?_
                  simp only [Act.put, List.setIfInBounds_toArray, List.set_cons_succ, List.set_cons_zero]
                  refine wpAnyH_take (i := 12) (oi := { dst := some 102, op := Op.load 28 (Operand.tmp 101), type := 28, pos := "l13_world.go:50", after := #[{ on := 11, ground := Ground.data }, { on := 10, ground := Ground.guard }], guard := some (10, true) }) (v := undef) rfl (by kernel_rfl) (by kernel_rfl) (by kernel_rfl) (fun _ _ _ h => h) (Or.inr ⟨by rfl, rfl⟩) hS ?_
                  simp only [Act.put, List.setIfInBounds_toArray, List.set_cons_succ, List.set_cons_zero]
                  refine wpAnyH_take (i := 13) (oi := { dst := some 103, op := Op.move (Operand.tmp 5), type := 3, pos := "l13_world.go:50", after := #[{ on := 10, ground := Ground.guard }], guard := some (10, true) }) (v := undef) rfl (by kernel_rfl) (by kernel_rfl) (by kernel_rfl) (fun _ _ _ h => h) (Or.inr ⟨by rfl, rfl⟩) hS ?_
                  simp only [Act.put, List.setIfInBounds_toArray, List.set_cons_succ, List.set_cons_zero]
                  refine wpAnyH_take (i := 14) (oi := { dst := some 104, op := Op.binOp BinOp.sub 3 (Operand.tmp 103) (Operand.const (Value.int IntKind.i64 1)) 3, type := 3, pos := "l13_world.go:50", after := #[{ on := 13, ground := Ground.data }, { on := 10, ground := Ground.guard }], guard := some (10, true) }) (v := undef) rfl (by kernel_rfl) (by kernel_rfl) (by kernel_rfl) (fun _ _ _ h => h) (Or.inr ⟨by rfl, rfl⟩) hS ?_
                  simp only [Act.put, List.setIfInBounds_toArray, List.set_cons_succ, List.set_cons_zero]
                  refine wpAnyH_take (i := 15) (oi := { dst := some 105, op := Op.indexAddr 28 (Operand.tmp 102) (Operand.tmp 104), type := 0, pos := "l13_world.go:50", after := #[{ on := 12, ground := Ground.data }, { on := 14, ground := Ground.data }, { on := 10, ground := Ground.guard }], guard := some (10, true) }) (v := undef) rfl (by kernel_rfl) (by kernel_rfl) (by kernel_rfl) (fun _ _ _ h => h) (Or.inr ⟨by rfl, rfl⟩) hS ?_
                  simp only [Act.put, List.setIfInBounds_toArray, List.set_cons_succ, List.set_cons_zero]
                  refine wpAnyH_take (i := 16) (oi := { dst := some 106, op := Op.load 3 (Operand.tmp 105), type := 3, pos := "l13_world.go:50", after := #[{ on := 15, ground := Ground.data }, { on := 10, ground := Ground.guard }], guard := some (10, true) }) (v := undef) rfl (by kernel_rfl) (by kernel_rfl) (by kernel_rfl) (fun _ _ _ h => h) (Or.inr ⟨by rfl, rfl⟩) hS ?_
                  simp only [Act.put, List.setIfInBounds_toArray, List.set_cons_succ, List.set_cons_zero]
                  refine wpAnyH_take (i := 17) (oi := { dst := some 107, op := Op.fieldAddr 40 (Operand.tmp 1) 10, type := 0, pos := "l13_world.go:50", after := #[{ on := 10, ground := Ground.guard }], guard := some (10, true) }) (v := undef) rfl (by kernel_rfl) (by kernel_rfl) (by kernel_rfl) (fun _ _ _ h => h) (Or.inr ⟨by rfl, rfl⟩) hS ?_
                  simp only [Act.put, List.setIfInBounds_toArray, List.set_cons_succ, List.set_cons_zero]
                  refine wpAnyH_take (i := 18) (oi := { dst := some 108, op := Op.load 28 (Operand.tmp 107), type := 28, pos := "l13_world.go:50", after := #[{ on := 17, ground := Ground.data }, { on := 10, ground := Ground.guard }], guard := some (10, true) }) (v := undef) rfl (by kernel_rfl) (by kernel_rfl) (by kernel_rfl) (fun _ _ _ h => h) (Or.inr ⟨by rfl, rfl⟩) hS ?_
                  simp only [Act.put, List.setIfInBounds_toArray, List.set_cons_succ, List.set_cons_zero]
                  refine wpAnyH_take (i := 19) (oi := { dst := some 109, op := Op.move (Operand.tmp 5), type := 3, pos := "l13_world.go:50", after := #[{ on := 10, ground := Ground.guard }], guard := some (10, true) }) (v := undef) rfl (by kernel_rfl) (by kernel_rfl) (by kernel_rfl) (fun _ _ _ h => h) (Or.inr ⟨by rfl, rfl⟩) hS ?_
                  simp only [Act.put, List.setIfInBounds_toArray, List.set_cons_succ, List.set_cons_zero]
                  refine wpAnyH_take (i := 20) (oi := { dst := some 110, op := Op.indexAddr 28 (Operand.tmp 108) (Operand.tmp 109), type := 0, pos := "l13_world.go:50", after := #[{ on := 18, ground := Ground.data }, { on := 19, ground := Ground.data }, { on := 10, ground := Ground.guard }], guard := some (10, true) }) (v := undef) rfl (by kernel_rfl) (by kernel_rfl) (by kernel_rfl) (fun _ _ _ h => h) (Or.inr ⟨by rfl, rfl⟩) hS ?_
                  simp only [Act.put, List.setIfInBounds_toArray, List.set_cons_succ, List.set_cons_zero]
                  refine wpAnyH_take (i := 21) (oi := { dst := some 111, op := Op.load 3 (Operand.tmp 110), type := 3, pos := "l13_world.go:50", after := #[{ on := 20, ground := Ground.data }, { on := 10, ground := Ground.guard }], guard := some (10, true) }) (v := undef) rfl (by kernel_rfl) (by kernel_rfl) (by kernel_rfl) (fun _ _ _ h => h) (Or.inr ⟨by rfl, rfl⟩) hS ?_
                  simp only [Act.put, List.setIfInBounds_toArray, List.set_cons_succ, List.set_cons_zero]
                  refine wpAnyH_take (i := 22) (oi := { dst := some 112, op := Op.binOp BinOp.geq 3 (Operand.tmp 106) (Operand.tmp 111) 3, type := 4, pos := "l13_world.go:50", after := #[{ on := 16, ground := Ground.data }, { on := 21, ground := Ground.data }, { on := 10, ground := Ground.guard }], guard := some (10, true) }) (v := undef) rfl (by kernel_rfl) (by kernel_rfl) (by kernel_rfl) (fun _ _ _ h => h) (Or.inr ⟨by rfl, rfl⟩) hS ?_
                  simp only [Act.put, List.setIfInBounds_toArray, List.set_cons_succ, List.set_cons_zero]
                  refine wpAnyH_take (i := 23) (oi := { dst := some 113, op := Op.pick (Operand.tmp 100) (Operand.tmp 112) (Operand.const (Value.bool false)), type := 4, pos := "l13_world.go:50", after := #[{ on := 10, ground := Ground.data }, { on := 22, ground := Ground.data }, { on := 7, ground := Ground.guard }], guard := some (7, false) }) (v := ?_) rfl (by kernel_rfl) (by kernel_rfl) (by kernel_rfl) (fun _ _ _ h => h) (Or.inl ⟨by rfl, ?_⟩) hS ?_
                  rotate_left
                  · intro y hSy; obtain ⟨y0, y1⟩ := hSy; go_simp; try with_reducible rfl
                  simp only [Act.put, List.setIfInBounds_toArray, List.set_cons_succ, List.set_cons_zero]
                  refine wpAnyH_take (i := 24) (oi := { dst := some 114, op := Op.pick (Operand.tmp 97) (Operand.const (Value.bool true)) (Operand.tmp 113), type := 4, pos := "l13_world.go:50", after := #[{ on := 7, ground := Ground.data }, { on := 23, ground := Ground.data }], guard := none }) (v := ?_) rfl (by kernel_rfl) (by kernel_rfl) (by kernel_rfl) (fun _ _ _ h => h) (Or.inl ⟨by rfl, ?_⟩) hS ?_
                  rotate_left
                  · intro y hSy; obtain ⟨y0, y1⟩ := hSy; go_simp; try with_reducible rfl
                  simp only [Act.put, List.setIfInBounds_toArray, List.set_cons_succ, List.set_cons_zero]
                  refine wpAnyH_done (by kernel_rfl) ?_ _
                  go_wp2_with fail
                  go_roundw
                  case rel => exact ⟨1, by first | rfl | simp, (unhide HBr).drew, by omega, unhide HM⟩
                  case measure => simp only [intOf]; simp at hp ⊢; omega
                · obtain ⟨j, hj⟩ : ∃ j, k = j + 1 := ⟨k - 1, by omega⟩
                  obtain ⟨yy, hjy⟩ : ∃ yy, X.told[j]? = some yy := ⟨_, List.getElem?_eq_getElem (by omega)⟩
                  obtain ⟨b', o', hbo, -, c1⟩ := ((unhide HYd).on (btG (unhide HBb) (unhide HBr))) j yy hjy
                  cases hbo
                  have w3 : wrap64 ((k : Int) - 1) = (j : Int) := by unfold wrap64; omega
                  have w4 : IntKind.i64.wrap ((k : Int) - 1) = (j : Int) := (IntWalk.i64_in _ ⟨by omega, by omega⟩).trans (by omega)
                  have q5 : (0 : Int) ≤ (j : Int) := by omega
                  have q6 : (j : Int) < (X.told.length : Int) := by omega
                  have q4 : (0 : Int) < (k : Int) := by omega
                  have q10 : 0 < k := by omega
                  have q11 : decide ((0 : Int) < (k : Int)) = true := decide_eq_true q4
                  have q12 : decide (0 < k) = true := decide_eq_true q10
                  have HJ := hide hjy
                  have HKJ := hide hj
                  have q7 := hide hp
                  clear hjy hj hk0
                  by_cases hyx : yy < x
                  · have HM : Hid (toldP X.told (k + 1)) := fun i z hi hz => by
                      rcases Nat.lt_or_ge i k with q | q
                      · exact unhide HA i z q hz
                      · obtain rfl : i = k := by omega
                        rw [unhide HK] at hz
                        cases hz
                        refine ⟨unhide HX, fun u hu _ => ?_⟩
                        rw [sub1N (unhide HKJ), unhide HJ] at hu
                        cases hu
                        exact hyx
                    have hyx' : ¬ x ≤ yy := by omega
                    go_wp2_with fail
                    refine wp_region_held (S := fun y => y.cell? ⟨w.heap.size, 10, none⟩ = some (.slice (some ⟨b, o, none⟩) X.told.length ci) ∧ y.cell? ⟨b, o + k, none⟩ = some (.int .i64 x) ∧ y.cell? ⟨b, o + j, none⟩ = some (.int .i64 yy)) Tryz.mixedO ?_
                    have hS : (fun y : World => y.cell? ⟨w.heap.size, 10, none⟩ = some (.slice (some ⟨b, o, none⟩) X.told.length ci) ∧ y.cell? ⟨b, o + k, none⟩ = some (.int .i64 x) ∧ y.cell? ⟨b, o + j, none⟩ = some (.int .i64 yy)) wr.drew := ⟨c10, c0, c1⟩
                    show wpAnyH _ _ _ _ _ _ _ _ wr.drew
                    refine wpAnyH_take (i := 0) (oi := { dst := some 90, op := Op.fieldAddr 40 (Operand.tmp 1) 10, type := 0, pos := "l13_world.go:50", after := #[], guard := none }) (v := ?_) rfl (by kernel_rfl) (by kernel_rfl) (by kernel_rfl) (fun _ _ _ h => h) (Or.inl ⟨by rfl, ?_⟩) hS ?_
                    rotate_left
                    · intro y hSy; obtain ⟨y0, y1, y2⟩ := hSy; go_simp; try with_reducible rfl
                    simp only [Act.put, List.setIfInBounds_toArray, List.set_cons_succ, List.set_cons_zero]
                    refine wpAnyH_take (i := 1) (oi := { dst := some 91, op := Op.load 28 (Operand.tmp 90), type := 28, pos := "l13_world.go:50", after := #[{ on := 0, ground := Ground.data }], guard := none }) (v := ?_) rfl (by kernel_rfl) (by kernel_rfl) (by kernel_rfl) (fun _ _ _ h => h) (Or.inl ⟨by rfl, ?_⟩) hS ?_
                    rotate_left
                    · intro y hSy; obtain ⟨y0, y1, y2⟩ := hSy; go_simp; try with_reducible rfl
                    simp only [Act.put, List.setIfInBounds_toArray, List.set_cons_succ, List.set_cons_zero]
                    refine wpAnyH_take (i := 2) (oi := { dst := some 92, op := Op.move (Operand.tmp 5), type := 3, pos := "l13_world.go:50", after := #[], guard := none }) (v := ?_) rfl (by kernel_rfl) (by kernel_rfl) (by kernel_rfl) (fun _ _ _ h => h) (Or.inl ⟨by rfl, ?_⟩) hS ?_
                    rotate_left
                    · intro y hSy; obtain ⟨y0, y1, y2⟩ := hSy; go_simp; try with_reducible rfl
                    simp only [Act.put, List.setIfInBounds_toArray, List.set_cons_succ, List.set_cons_zero]
                    refine wpAnyH_take (i := 3) (oi := { dst := some 93, op := Op.indexAddr 28 (Operand.tmp 91) (Operand.tmp 92), type := 0, pos := "l13_world.go:50", after := #[{ on := 1, ground := Ground.data }, { on := 2, ground := Ground.data }], guard := none }) (v := ?_) rfl (by kernel_rfl) (by kernel_rfl) (by kernel_rfl) (fun _ _ _ h => h) (Or.inl ⟨by rfl, ?_⟩) hS ?_
                    rotate_left
                    · intro y hSy; obtain ⟨y0, y1, y2⟩ := hSy; go_simp; try with_reducible rfl
                    simp only [Act.put, List.setIfInBounds_toArray, List.set_cons_succ, List.set_cons_zero]
                    refine wpAnyH_take (i := 4) (oi := { dst := some 94, op := Op.load 3 (Operand.tmp 93), type := 3, pos := "l13_world.go:50", after := #[{ on := 3, ground := Ground.data }], guard := none }) (v := ?_) rfl (by kernel_rfl) (by kernel_rfl) (by kernel_rfl) (fun _ _ _ h => h) (Or.inl ⟨by rfl, ?_⟩) hS ?_
                    rotate_left
                    · intro y hSy; obtain ⟨y0, y1, y2⟩ := hSy; go_simp; try with_reducible rfl
                    simp only [Act.put, List.setIfInBounds_toArray, List.set_cons_succ, List.set_cons_zero]
                    refine wpAnyH_all (rs := [5]) (by kernel_rfl) (by simp) ?_
                    intro i hi
                    simp only [List.mem_singleton] at hi
                    subst hi
                    refine step_call (f := 20) (fn := Tryz.f20) (d := 95) (args := #[.int .i64 x, .int .i64 0, .int .i64 1000000]) rfl Tryz.func20 (by kernel_rfl) (by kernel_rfl) (by simp [Act.eval]) ?_
                    refine (unhide HQ _).mono ?_
                    rintro e w2 ⟨rfl, rfl⟩
                    refine ⟨_, rfl, ?_⟩
                    refine ⟨hS, ?_⟩
                    simp only [Act.put, List.setIfInBounds_toArray, List.set_cons_succ, List.set_cons_zero]
                    refine wpAnyH_take (i := 6) (oi := { dst := some 96, op := Op.unOp UnOp.not 4 (Operand.tmp 95), type := 4, pos := "l13_world.go:50", after := #[{ on := 5, ground := Ground.data }], guard := none }) (v := ?_) rfl (by kernel_rfl) (by kernel_rfl) (by kernel_rfl) (fun _ _ _ h => h) (Or.inl ⟨by rfl, ?_⟩) hS ?_
                    rotate_left
                    · intro y hSy; obtain ⟨y0, y1, y2⟩ := hSy; go_simp; try with_reducible rfl
                    simp only [Act.put, List.setIfInBounds_toArray, List.set_cons_succ, List.set_cons_zero]
                    refine wpAnyH_take (i := 7) (oi := { dst := some 97, op := Op.move (Operand.tmp 96), type := 4, pos := "l13_world.go:50", after := #[{ on := 6, ground := Ground.data }, { on := 5, ground := Ground.chain }], guard := none }) (v := ?_) rfl (by kernel_rfl) (by kernel_rfl) (by kernel_rfl) (fun _ _ _ h => h) (Or.inl ⟨by rfl, ?_⟩) hS ?_
                    rotate_left
                    · intro y hSy; obtain ⟨y0, y1, y2⟩ := hSy; go_simp; try with_reducible rfl
                    simp only [Act.put, List.setIfInBounds_toArray, List.set_cons_succ, List.set_cons_zero]
                    refine wpAnyH_take (i := 8) (oi := { dst := some 98, op := Op.move (Operand.tmp 5), type := 3, pos := "l13_world.go:50", after := #[{ on := 7, ground := Ground.guard }], guard := some (7, false) }) (v := ?_) rfl (by kernel_rfl) (by kernel_rfl) (by kernel_rfl) (fun _ _ _ h => h) (Or.inl ⟨by rfl, ?_⟩) hS ?_
                    rotate_left
                    · intro y hSy; obtain ⟨y0, y1, y2⟩ := hSy; go_simp; try with_reducible rfl
                    simp only [Act.put, List.setIfInBounds_toArray, List.set_cons_succ, List.set_cons_zero]
                    refine wpAnyH_take (i := 9) (oi := { dst := some 99, op := Op.binOp BinOp.gtr 3 (Operand.tmp 98) (Operand.const (Value.int IntKind.i64 0)) 3, type := 4, pos := "l13_world.go:50", after := #[{ on := 8, ground := Ground.data }, { on := 7, ground := Ground.guard }], guard := some (7, false) }) (v := ?_) rfl (by kernel_rfl) (by kernel_rfl) (by kernel_rfl) (fun _ _ _ h => h) (Or.inl ⟨by rfl, ?_⟩) hS ?_
                    rotate_left
                    · intro y hSy; obtain ⟨y0, y1, y2⟩ := hSy; go_simp; try with_reducible rfl
                    simp only [Act.put, List.setIfInBounds_toArray, List.set_cons_succ, List.set_cons_zero]
                    refine wpAnyH_take (i := 10) (oi := { dst := some 100, op := Op.move (Operand.tmp 99), type := 4, pos := "l13_world.go:50", after := #[{ on := 9, ground := Ground.data }, { on := 7, ground := Ground.chain }, { on := 7, ground := Ground.guard }], guard := some (7, false) }) (v := ?_) rfl (by kernel_rfl) (by kernel_rfl) (by kernel_rfl) (fun _ _ _ h => h) (Or.inl ⟨by rfl, ?_⟩) hS ?_
                    rotate_left
                    · intro y hSy; obtain ⟨y0, y1, y2⟩ := hSy; go_simp; try with_reducible rfl
                    simp only [Act.put, List.setIfInBounds_toArray, List.set_cons_succ, List.set_cons_zero]
                    refine wpAnyH_take (i := 11) (oi := { dst := some 101, op := Op.fieldAddr 40 (Operand.tmp 1) 10, type := 0, pos := "l13_world.go:50", after := #[{ on := 10, ground := Ground.guard }], guard := some (10, true) }) (v := ?_) rfl (by kernel_rfl) (by kernel_rfl) (by kernel_rfl) (fun _ _ _ h => h) (Or.inl ⟨by rfl, ?_⟩) hS ?_
                    rotate_left
                    · intro y hSy; obtain ⟨y0, y1, y2⟩ := hSy; go_simp; try with_reducible rfl
                    simp only [Act.put, List.setIfInBounds_toArray, List.set_cons_succ, List.set_cons_zero]
                    refine wpAnyH_take (i := 12) (oi := { dst := some 102, op := Op.load 28 (Operand.tmp 101), type := 28, pos := "l13_world.go:50", after := #[{ on := 11, ground := Ground.data }, { on := 10, ground := Ground.guard }], guard := some (10, true) }) (v := ?_) rfl (by kernel_rfl) (by kernel_rfl) (by kernel_rfl) (fun _ _ _ h => h) (Or.inl ⟨by rfl, ?_⟩) hS ?_
                    rotate_left
                    · intro y hSy; obtain ⟨y0, y1, y2⟩ := hSy; go_simp; try with_reducible rfl
                    simp only [Act.put, List.setIfInBounds_toArray, List.set_cons_succ, List.set_cons_zero]
                    refine wpAnyH_take (i := 13) (oi := { dst := some 103, op := Op.move (Operand.tmp 5), type := 3, pos := "l13_world.go:50", after := #[{ on := 10, ground := Ground.guard }], guard := some (10, true) }) (v := ?_) rfl (by kernel_rfl) (by kernel_rfl) (by kernel_rfl) (fun _ _ _ h => h) (Or.inl ⟨by rfl, ?_⟩) hS ?_
                    rotate_left
                    · intro y hSy; obtain ⟨y0, y1, y2⟩ := hSy; go_simp; try with_reducible rfl
                    simp only [Act.put, List.setIfInBounds_toArray, List.set_cons_succ, List.set_cons_zero]
                    refine wpAnyH_take (i := 14) (oi := { dst := some 104, op := Op.binOp BinOp.sub 3 (Operand.tmp 103) (Operand.const (Value.int IntKind.i64 1)) 3, type := 3, pos := "l13_world.go:50", after := #[{ on := 13, ground := Ground.data }, { on := 10, ground := Ground.guard }], guard := some (10, true) }) (v := ?_) rfl (by kernel_rfl) (by kernel_rfl) (by kernel_rfl) (fun _ _ _ h => h) (Or.inl ⟨by rfl, ?_⟩) hS ?_
                    rotate_left
                    · intro y hSy; obtain ⟨y0, y1, y2⟩ := hSy; go_simp; try with_reducible rfl
                    simp only [Act.put, List.setIfInBounds_toArray, List.set_cons_succ, List.set_cons_zero]
                    refine wpAnyH_take (i := 15) (oi := { dst := some 105, op := Op.indexAddr 28 (Operand.tmp 102) (Operand.tmp 104), type := 0, pos := "l13_world.go:50", after := #[{ on := 12, ground := Ground.data }, { on := 14, ground := Ground.data }, { on := 10, ground := Ground.guard }], guard := some (10, true) }) (v := ?_) rfl (by kernel_rfl) (by kernel_rfl) (by kernel_rfl) (fun _ _ _ h => h) (Or.inl ⟨by rfl, ?_⟩) hS ?_
                    rotate_left
                    · intro y hSy; obtain ⟨y0, y1, y2⟩ := hSy; go_simp; try with_reducible rfl
                    simp only [Act.put, List.setIfInBounds_toArray, List.set_cons_succ, List.set_cons_zero]
                    refine wpAnyH_take (i := 16) (oi := { dst := some 106, op := Op.load 3 (Operand.tmp 105), type := 3, pos := "l13_world.go:50", after := #[{ on := 15, ground := Ground.data }, { on := 10, ground := Ground.guard }], guard := some (10, true) }) (v := ?_) rfl (by kernel_rfl) (by kernel_rfl) (by kernel_rfl) (fun _ _ _ h => h) (Or.inl ⟨by rfl, ?_⟩) hS ?_
                    rotate_left
                    · intro y hSy; obtain ⟨y0, y1, y2⟩ := hSy; go_simp; try with_reducible rfl
                    simp only [Act.put, List.setIfInBounds_toArray, List.set_cons_succ, List.set_cons_zero]
                    refine wpAnyH_take (i := 17) (oi := { dst := some 107, op := Op.fieldAddr 40 (Operand.tmp 1) 10, type := 0, pos := "l13_world.go:50", after := #[{ on := 10, ground := Ground.guard }], guard := some (10, true) }) (v := ?_) rfl (by kernel_rfl) (by kernel_rfl) (by kernel_rfl) (fun _ _ _ h => h) (Or.inl ⟨by rfl, ?_⟩) hS ?_
                    rotate_left
                    · intro y hSy; obtain ⟨y0, y1, y2⟩ := hSy; go_simp; try with_reducible rfl
                    simp only [Act.put, List.setIfInBounds_toArray, List.set_cons_succ, List.set_cons_zero]
                    refine wpAnyH_take (i := 18) (oi := { dst := some 108, op := Op.load 28 (Operand.tmp 107), type := 28, pos := "l13_world.go:50", after := #[{ on := 17, ground := Ground.data }, { on := 10, ground := Ground.guard }], guard := some (10, true) }) (v := ?_) rfl (by kernel_rfl) (by kernel_rfl) (by kernel_rfl) (fun _ _ _ h => h) (Or.inl ⟨by rfl, ?_⟩) hS ?_
                    rotate_left
                    · intro y hSy; obtain ⟨y0, y1, y2⟩ := hSy; go_simp; try with_reducible rfl
                    simp only [Act.put, List.setIfInBounds_toArray, List.set_cons_succ, List.set_cons_zero]
                    refine wpAnyH_take (i := 19) (oi := { dst := some 109, op := Op.move (Operand.tmp 5), type := 3, pos := "l13_world.go:50", after := #[{ on := 10, ground := Ground.guard }], guard := some (10, true) }) (v := ?_) rfl (by kernel_rfl) (by kernel_rfl) (by kernel_rfl) (fun _ _ _ h => h) (Or.inl ⟨by rfl, ?_⟩) hS ?_
                    rotate_left
                    · intro y hSy; obtain ⟨y0, y1, y2⟩ := hSy; go_simp; try with_reducible rfl
                    simp only [Act.put, List.setIfInBounds_toArray, List.set_cons_succ, List.set_cons_zero]
                    refine wpAnyH_take (i := 20) (oi := { dst := some 110, op := Op.indexAddr 28 (Operand.tmp 108) (Operand.tmp 109), type := 0, pos := "l13_world.go:50", after := #[{ on := 18, ground := Ground.data }, { on := 19, ground := Ground.data }, { on := 10, ground := Ground.guard }], guard := some (10, true) }) (v := ?_) rfl (by kernel_rfl) (by kernel_rfl) (by kernel_rfl) (fun _ _ _ h => h) (Or.inl ⟨by rfl, ?_⟩) hS ?_
                    rotate_left
                    · intro y hSy; obtain ⟨y0, y1, y2⟩ := hSy; go_simp; try with_reducible rfl
                    simp only [Act.put, List.setIfInBounds_toArray, List.set_cons_succ, List.set_cons_zero]
                    refine wpAnyH_take (i := 21) (oi := { dst := some 111, op := Op.load 3 (Operand.tmp 110), type := 3, pos := "l13_world.go:50", after := #[{ on := 20, ground := Ground.data }, { on := 10, ground := Ground.guard }], guard := some (10, true) }) (v := ?_) rfl (by kernel_rfl) (by kernel_rfl) (by kernel_rfl) (fun _ _ _ h => h) (Or.inl ⟨by rfl, ?_⟩) hS ?_
                    rotate_left
                    · intro y hSy; obtain ⟨y0, y1, y2⟩ := hSy; go_simp; try with_reducible rfl
                    simp only [Act.put, List.setIfInBounds_toArray, List.set_cons_succ, List.set_cons_zero]
                    refine wpAnyH_take (i := 22) (oi := { dst := some 112, op := Op.binOp BinOp.geq 3 (Operand.tmp 106) (Operand.tmp 111) 3, type := 4, pos := "l13_world.go:50", after := #[{ on := 16, ground := Ground.data }, { on := 21, ground := Ground.data }, { on := 10, ground := Ground.guard }], guard := some (10, true) }) (v := ?_) rfl (by kernel_rfl) (by kernel_rfl) (by kernel_rfl) (fun _ _ _ h => h) (Or.inl ⟨by rfl, ?_⟩) hS ?_
                    rotate_left
                    · intro y hSy; obtain ⟨y0, y1, y2⟩ := hSy; go_simp; try with_reducible rfl
                    simp only [Act.put, List.setIfInBounds_toArray, List.set_cons_succ, List.set_cons_zero]
                    refine wpAnyH_take (i := 23) (oi := { dst := some 113, op := Op.pick (Operand.tmp 100) (Operand.tmp 112) (Operand.const (Value.bool false)), type := 4, pos := "l13_world.go:50", after := #[{ on := 10, ground := Ground.data }, { on := 22, ground := Ground.data }, { on := 7, ground := Ground.guard }], guard := some (7, false) }) (v := ?_) rfl (by kernel_rfl) (by kernel_rfl) (by kernel_rfl) (fun _ _ _ h => h) (Or.inl ⟨by rfl, ?_⟩) hS ?_
                    rotate_left
                    · intro y hSy; obtain ⟨y0, y1, y2⟩ := hSy; go_simp; try with_reducible rfl
                    simp only [Act.put, List.setIfInBounds_toArray, List.set_cons_succ, List.set_cons_zero]
                    refine wpAnyH_take (i := 24) (oi := { dst := some 114, op := Op.pick (Operand.tmp 97) (Operand.const (Value.bool true)) (Operand.tmp 113), type := 4, pos := "l13_world.go:50", after := #[{ on := 7, ground := Ground.data }, { on := 23, ground := Ground.data }], guard := none }) (v := ?_) rfl (by kernel_rfl) (by kernel_rfl) (by kernel_rfl) (fun _ _ _ h => h) (Or.inl ⟨by rfl, ?_⟩) hS ?_
                    rotate_left
                    · intro y hSy; obtain ⟨y0, y1, y2⟩ := hSy; go_simp; try with_reducible rfl
                    simp only [Act.put, List.setIfInBounds_toArray, List.set_cons_succ, List.set_cons_zero]
                    refine wpAnyH_done (by kernel_rfl) ?_ _
                    go_wp2_with fail
                    go_roundw
                    case rel => exact ⟨k + 1, rfl, (unhide HBr).drew, by have := unhide q7; omega, unhide HM⟩
                    case measure => have := unhide q7; simp only [intOf]; omega
                  · have HD : Hid (bd = false) := (unhide HTD).2 fun hq => hyx (by
                      have := (hq k x (unhide q7) (unhide HK)).2 yy (by rw [sub1N (unhide HKJ)]; exact unhide HJ) (posN (unhide HKJ))
                      exact this)
                    have HE : Hid (R = false) := by show R = false; rw [unhide HW2, unhide HD]; simp
                    have hyx' : x ≤ yy := by omega
                    go_wp2_with fail
                    refine wp_region_held (S := fun y => y.cell? ⟨w.heap.size, 10, none⟩ = some (.slice (some ⟨b, o, none⟩) X.told.length ci) ∧ y.cell? ⟨b, o + k, none⟩ = some (.int .i64 x) ∧ y.cell? ⟨b, o + j, none⟩ = some (.int .i64 yy)) Tryz.mixedO ?_
                    have hS : (fun y : World => y.cell? ⟨w.heap.size, 10, none⟩ = some (.slice (some ⟨b, o, none⟩) X.told.length ci) ∧ y.cell? ⟨b, o + k, none⟩ = some (.int .i64 x) ∧ y.cell? ⟨b, o + j, none⟩ = some (.int .i64 yy)) wr.drew := ⟨c10, c0, c1⟩
                    show wpAnyH _ _ _ _ _ _ _ _ wr.drew
                    refine wpAnyH_take (i := 0) (oi := { dst := some 90, op := Op.fieldAddr 40 (Operand.tmp 1) 10, type := 0, pos := "l13_world.go:50", after := #[], guard := none }) (v := ?_) rfl (by kernel_rfl) (by kernel_rfl) (by kernel_rfl) (fun _ _ _ h => h) (Or.inl ⟨by rfl, ?_⟩) hS ?_
                    rotate_left
                    · intro y hSy; obtain ⟨y0, y1, y2⟩ := hSy; go_simp; try with_reducible rfl
                    simp only [Act.put, List.setIfInBounds_toArray, List.set_cons_succ, List.set_cons_zero]
                    refine wpAnyH_take (i := 1) (oi := { dst := some 91, op := Op.load 28 (Operand.tmp 90), type := 28, pos := "l13_world.go:50", after := #[{ on := 0, ground := Ground.data }], guard := none }) (v := ?_) rfl (by kernel_rfl) (by kernel_rfl) (by kernel_rfl) (fun _ _ _ h => h) (Or.inl ⟨by rfl, ?_⟩) hS ?_
                    rotate_left
                    · intro y hSy; obtain ⟨y0, y1, y2⟩ := hSy; go_simp; try with_reducible rfl
                    simp only [Act.put, List.setIfInBounds_toArray, List.set_cons_succ, List.set_cons_zero]
                    refine wpAnyH_take (i := 2) (oi := { dst := some 92, op := Op.move (Operand.tmp 5), type := 3, pos := "l13_world.go:50", after := #[], guard := none }) (v := ?_) rfl (by kernel_rfl) (by kernel_rfl) (by kernel_rfl) (fun _ _ _ h => h) (Or.inl ⟨by rfl, ?_⟩) hS ?_
                    rotate_left
                    · intro y hSy; obtain ⟨y0, y1, y2⟩ := hSy; go_simp; try with_reducible rfl
                    simp only [Act.put, List.setIfInBounds_toArray, List.set_cons_succ, List.set_cons_zero]
                    refine wpAnyH_take (i := 3) (oi := { dst := some 93, op := Op.indexAddr 28 (Operand.tmp 91) (Operand.tmp 92), type := 0, pos := "l13_world.go:50", after := #[{ on := 1, ground := Ground.data }, { on := 2, ground := Ground.data }], guard := none }) (v := ?_) rfl (by kernel_rfl) (by kernel_rfl) (by kernel_rfl) (fun _ _ _ h => h) (Or.inl ⟨by rfl, ?_⟩) hS ?_
                    rotate_left
                    · intro y hSy; obtain ⟨y0, y1, y2⟩ := hSy; go_simp; try with_reducible rfl
                    simp only [Act.put, List.setIfInBounds_toArray, List.set_cons_succ, List.set_cons_zero]
                    refine wpAnyH_take (i := 4) (oi := { dst := some 94, op := Op.load 3 (Operand.tmp 93), type := 3, pos := "l13_world.go:50", after := #[{ on := 3, ground := Ground.data }], guard := none }) (v := ?_) rfl (by kernel_rfl) (by kernel_rfl) (by kernel_rfl) (fun _ _ _ h => h) (Or.inl ⟨by rfl, ?_⟩) hS ?_
                    rotate_left
                    · intro y hSy; obtain ⟨y0, y1, y2⟩ := hSy; go_simp; try with_reducible rfl
                    simp only [Act.put, List.setIfInBounds_toArray, List.set_cons_succ, List.set_cons_zero]
                    refine wpAnyH_all (rs := [5]) (by kernel_rfl) (by simp) ?_
                    intro i hi
                    simp only [List.mem_singleton] at hi
                    subst hi
                    refine step_call (f := 20) (fn := Tryz.f20) (d := 95) (args := #[.int .i64 x, .int .i64 0, .int .i64 1000000]) rfl Tryz.func20 (by kernel_rfl) (by kernel_rfl) (by simp [Act.eval]) ?_
                    refine (unhide HQ _).mono ?_
                    rintro e w2 ⟨rfl, rfl⟩
                    refine ⟨_, rfl, ?_⟩
                    refine ⟨hS, ?_⟩
                    simp only [Act.put, List.setIfInBounds_toArray, List.set_cons_succ, List.set_cons_zero]
                    refine wpAnyH_take (i := 6) (oi := { dst := some 96, op := Op.unOp UnOp.not 4 (Operand.tmp 95), type := 4, pos := "l13_world.go:50", after := #[{ on := 5, ground := Ground.data }], guard := none }) (v := ?_) rfl (by kernel_rfl) (by kernel_rfl) (by kernel_rfl) (fun _ _ _ h => h) (Or.inl ⟨by rfl, ?_⟩) hS ?_
                    rotate_left
                    · intro y hSy; obtain ⟨y0, y1, y2⟩ := hSy; go_simp; try with_reducible rfl
                    simp only [Act.put, List.setIfInBounds_toArray, List.set_cons_succ, List.set_cons_zero]
                    refine wpAnyH_take (i := 7) (oi := { dst := some 97, op := Op.move (Operand.tmp 96), type := 4, pos := "l13_world.go:50", after := #[{ on := 6, ground := Ground.data }, { on := 5, ground := Ground.chain }], guard := none }) (v := ?_) rfl (by kernel_rfl) (by kernel_rfl) (by kernel_rfl) (fun _ _ _ h => h) (Or.inl ⟨by rfl, ?_⟩) hS ?_
                    rotate_left
                    · intro y hSy; obtain ⟨y0, y1, y2⟩ := hSy; go_simp; try with_reducible rfl
                    simp only [Act.put, List.setIfInBounds_toArray, List.set_cons_succ, List.set_cons_zero]
                    refine wpAnyH_take (i := 8) (oi := { dst := some 98, op := Op.move (Operand.tmp 5), type := 3, pos := "l13_world.go:50", after := #[{ on := 7, ground := Ground.guard }], guard := some (7, false) }) (v := ?_) rfl (by kernel_rfl) (by kernel_rfl) (by kernel_rfl) (fun _ _ _ h => h) (Or.inl ⟨by rfl, ?_⟩) hS ?_
                    rotate_left
                    · intro y hSy; obtain ⟨y0, y1, y2⟩ := hSy; go_simp; try with_reducible rfl
                    simp only [Act.put, List.setIfInBounds_toArray, List.set_cons_succ, List.set_cons_zero]
                    refine wpAnyH_take (i := 9) (oi := { dst := some 99, op := Op.binOp BinOp.gtr 3 (Operand.tmp 98) (Operand.const (Value.int IntKind.i64 0)) 3, type := 4, pos := "l13_world.go:50", after := #[{ on := 8, ground := Ground.data }, { on := 7, ground := Ground.guard }], guard := some (7, false) }) (v := ?_) rfl (by kernel_rfl) (by kernel_rfl) (by kernel_rfl) (fun _ _ _ h => h) (Or.inl ⟨by rfl, ?_⟩) hS ?_
                    rotate_left
                    · intro y hSy; obtain ⟨y0, y1, y2⟩ := hSy; go_simp; try with_reducible rfl
                    simp only [Act.put, List.setIfInBounds_toArray, List.set_cons_succ, List.set_cons_zero]
                    refine wpAnyH_take (i := 10) (oi := { dst := some 100, op := Op.move (Operand.tmp 99), type := 4, pos := "l13_world.go:50", after := #[{ on := 9, ground := Ground.data }, { on := 7, ground := Ground.chain }, { on := 7, ground := Ground.guard }], guard := some (7, false) }) (v := ?_) rfl (by kernel_rfl) (by kernel_rfl) (by kernel_rfl) (fun _ _ _ h => h) (Or.inl ⟨by rfl, ?_⟩) hS ?_
                    rotate_left
                    · intro y hSy; obtain ⟨y0, y1, y2⟩ := hSy; go_simp; try with_reducible rfl
                    simp only [Act.put, List.setIfInBounds_toArray, List.set_cons_succ, List.set_cons_zero]
                    refine wpAnyH_take (i := 11) (oi := { dst := some 101, op := Op.fieldAddr 40 (Operand.tmp 1) 10, type := 0, pos := "l13_world.go:50", after := #[{ on := 10, ground := Ground.guard }], guard := some (10, true) }) (v := ?_) rfl (by kernel_rfl) (by kernel_rfl) (by kernel_rfl) (fun _ _ _ h => h) (Or.inl ⟨by rfl, ?_⟩) hS ?_
                    rotate_left
                    · intro y hSy; obtain ⟨y0, y1, y2⟩ := hSy; go_simp; try with_reducible rfl
                    simp only [Act.put, List.setIfInBounds_toArray, List.set_cons_succ, List.set_cons_zero]
                    refine wpAnyH_take (i := 12) (oi := { dst := some 102, op := Op.load 28 (Operand.tmp 101), type := 28, pos := "l13_world.go:50", after := #[{ on := 11, ground := Ground.data }, { on := 10, ground := Ground.guard }], guard := some (10, true) }) (v := ?_) rfl (by kernel_rfl) (by kernel_rfl) (by kernel_rfl) (fun _ _ _ h => h) (Or.inl ⟨by rfl, ?_⟩) hS ?_
                    rotate_left
                    · intro y hSy; obtain ⟨y0, y1, y2⟩ := hSy; go_simp; try with_reducible rfl
                    simp only [Act.put, List.setIfInBounds_toArray, List.set_cons_succ, List.set_cons_zero]
                    refine wpAnyH_take (i := 13) (oi := { dst := some 103, op := Op.move (Operand.tmp 5), type := 3, pos := "l13_world.go:50", after := #[{ on := 10, ground := Ground.guard }], guard := some (10, true) }) (v := ?_) rfl (by kernel_rfl) (by kernel_rfl) (by kernel_rfl) (fun _ _ _ h => h) (Or.inl ⟨by rfl, ?_⟩) hS ?_
                    rotate_left
                    · intro y hSy; obtain ⟨y0, y1, y2⟩ := hSy; go_simp; try with_reducible rfl
                    simp only [Act.put, List.setIfInBounds_toArray, List.set_cons_succ, List.set_cons_zero]
                    refine wpAnyH_take (i := 14) (oi := { dst := some 104, op := Op.binOp BinOp.sub 3 (Operand.tmp 103) (Operand.const (Value.int IntKind.i64 1)) 3, type := 3, pos := "l13_world.go:50", after := #[{ on := 13, ground := Ground.data }, { on := 10, ground := Ground.guard }], guard := some (10, true) }) (v := ?_) rfl (by kernel_rfl) (by kernel_rfl) (by kernel_rfl) (fun _ _ _ h => h) (Or.inl ⟨by rfl, ?_⟩) hS ?_
                    rotate_left
                    · intro y hSy; obtain ⟨y0, y1, y2⟩ := hSy; go_simp; try with_reducible rfl
                    simp only [Act.put, List.setIfInBounds_toArray, List.set_cons_succ, List.set_cons_zero]
                    refine wpAnyH_take (i := 15) (oi := { dst := some 105, op := Op.indexAddr 28 (Operand.tmp 102) (Operand.tmp 104), type := 0, pos := "l13_world.go:50", after := #[{ on := 12, ground := Ground.data }, { on := 14, ground := Ground.data }, { on := 10, ground := Ground.guard }], guard := some (10, true) }) (v := ?_) rfl (by kernel_rfl) (by kernel_rfl) (by kernel_rfl) (fun _ _ _ h => h) (Or.inl ⟨by rfl, ?_⟩) hS ?_
                    rotate_left
                    · intro y hSy; obtain ⟨y0, y1, y2⟩ := hSy; go_simp; try with_reducible rfl
                    simp only [Act.put, List.setIfInBounds_toArray, List.set_cons_succ, List.set_cons_zero]
                    refine wpAnyH_take (i := 16) (oi := { dst := some 106, op := Op.load 3 (Operand.tmp 105), type := 3, pos := "l13_world.go:50", after := #[{ on := 15, ground := Ground.data }, { on := 10, ground := Ground.guard }], guard := some (10, true) }) (v := ?_) rfl (by kernel_rfl) (by kernel_rfl) (by kernel_rfl) (fun _ _ _ h => h) (Or.inl ⟨by rfl, ?_⟩) hS ?_
                    rotate_left
                    · intro y hSy; obtain ⟨y0, y1, y2⟩ := hSy; go_simp; try with_reducible rfl
                    simp only [Act.put, List.setIfInBounds_toArray, List.set_cons_succ, List.set_cons_zero]
                    refine wpAnyH_take (i := 17) (oi := { dst := some 107, op := Op.fieldAddr 40 (Operand.tmp 1) 10, type := 0, pos := "l13_world.go:50", after := #[{ on := 10, ground := Ground.guard }], guard := some (10, true) }) (v := ?_) rfl (by kernel_rfl) (by kernel_rfl) (by kernel_rfl) (fun _ _ _ h => h) (Or.inl ⟨by rfl, ?_⟩) hS ?_
                    rotate_left
                    · intro y hSy; obtain ⟨y0, y1, y2⟩ := hSy; go_simp; try with_reducible rfl
                    simp only [Act.put, List.setIfInBounds_toArray, List.set_cons_succ, List.set_cons_zero]
                    refine wpAnyH_take (i := 18) (oi := { dst := some 108, op := Op.load 28 (Operand.tmp 107), type := 28, pos := "l13_world.go:50", after := #[{ on := 17, ground := Ground.data }, { on := 10, ground := Ground.guard }], guard := some (10, true) }) (v := ?_) rfl (by kernel_rfl) (by kernel_rfl) (by kernel_rfl) (fun _ _ _ h => h) (Or.inl ⟨by rfl, ?_⟩) hS ?_
                    rotate_left
                    · intro y hSy; obtain ⟨y0, y1, y2⟩ := hSy; go_simp; try with_reducible rfl
                    simp only [Act.put, List.setIfInBounds_toArray, List.set_cons_succ, List.set_cons_zero]
                    refine wpAnyH_take (i := 19) (oi := { dst := some 109, op := Op.move (Operand.tmp 5), type := 3, pos := "l13_world.go:50", after := #[{ on := 10, ground := Ground.guard }], guard := some (10, true) }) (v := ?_) rfl (by kernel_rfl) (by kernel_rfl) (by kernel_rfl) (fun _ _ _ h => h) (Or.inl ⟨by rfl, ?_⟩) hS ?_
                    rotate_left
                    · intro y hSy; obtain ⟨y0, y1, y2⟩ := hSy; go_simp; try with_reducible rfl
                    simp only [Act.put, List.setIfInBounds_toArray, List.set_cons_succ, List.set_cons_zero]
                    refine wpAnyH_take (i := 20) (oi := { dst := some 110, op := Op.indexAddr 28 (Operand.tmp 108) (Operand.tmp 109), type := 0, pos := "l13_world.go:50", after := #[{ on := 18, ground := Ground.data }, { on := 19, ground := Ground.data }, { on := 10, ground := Ground.guard }], guard := some (10, true) }) (v := ?_) rfl (by kernel_rfl) (by kernel_rfl) (by kernel_rfl) (fun _ _ _ h => h) (Or.inl ⟨by rfl, ?_⟩) hS ?_
                    rotate_left
                    · intro y hSy; obtain ⟨y0, y1, y2⟩ := hSy; go_simp; try with_reducible rfl
                    simp only [Act.put, List.setIfInBounds_toArray, List.set_cons_succ, List.set_cons_zero]
                    refine wpAnyH_take (i := 21) (oi := { dst := some 111, op := Op.load 3 (Operand.tmp 110), type := 3, pos := "l13_world.go:50", after := #[{ on := 20, ground := Ground.data }, { on := 10, ground := Ground.guard }], guard := some (10, true) }) (v := ?_) rfl (by kernel_rfl) (by kernel_rfl) (by kernel_rfl) (fun _ _ _ h => h) (Or.inl ⟨by rfl, ?_⟩) hS ?_
                    rotate_left
                    · intro y hSy; obtain ⟨y0, y1, y2⟩ := hSy; go_simp; try with_reducible rfl
                    simp only [Act.put, List.setIfInBounds_toArray, List.set_cons_succ, List.set_cons_zero]
                    refine wpAnyH_take (i := 22) (oi := { dst := some 112, op := Op.binOp BinOp.geq 3 (Operand.tmp 106) (Operand.tmp 111) 3, type := 4, pos := "l13_world.go:50", after := #[{ on := 16, ground := Ground.data }, { on := 21, ground := Ground.data }, { on := 10, ground := Ground.guard }], guard := some (10, true) }) (v := ?_) rfl (by kernel_rfl) (by kernel_rfl) (by kernel_rfl) (fun _ _ _ h => h) (Or.inl ⟨by rfl, ?_⟩) hS ?_
                    rotate_left
                    · intro y hSy; obtain ⟨y0, y1, y2⟩ := hSy; go_simp; try with_reducible rfl
                    simp only [Act.put, List.setIfInBounds_toArray, List.set_cons_succ, List.set_cons_zero]
                    refine wpAnyH_take (i := 23) (oi := { dst := some 113, op := Op.pick (Operand.tmp 100) (Operand.tmp 112) (Operand.const (Value.bool false)), type := 4, pos := "l13_world.go:50", after := #[{ on := 10, ground := Ground.data }, { on := 22, ground := Ground.data }, { on := 7, ground := Ground.guard }], guard := some (7, false) }) (v := ?_) rfl (by kernel_rfl) (by kernel_rfl) (by kernel_rfl) (fun _ _ _ h => h) (Or.inl ⟨by rfl, ?_⟩) hS ?_
                    rotate_left
                    · intro y hSy; obtain ⟨y0, y1, y2⟩ := hSy; go_simp; try with_reducible rfl
                    simp only [Act.put, List.setIfInBounds_toArray, List.set_cons_succ, List.set_cons_zero]
                    refine wpAnyH_take (i := 24) (oi := { dst := some 114, op := Op.pick (Operand.tmp 97) (Operand.const (Value.bool true)) (Operand.tmp 113), type := 4, pos := "l13_world.go:50", after := #[{ on := 7, ground := Ground.data }, { on := 23, ground := Ground.data }], guard := none }) (v := ?_) rfl (by kernel_rfl) (by kernel_rfl) (by kernel_rfl) (fun _ _ _ h => h) (Or.inl ⟨by rfl, ?_⟩) hS ?_
                    rotate_left
                    · intro y hSy; obtain ⟨y0, y1, y2⟩ := hSy; go_simp; try with_reducible rfl
                    simp only [Act.put, List.setIfInBounds_toArray, List.set_cons_succ, List.set_cons_zero]
                    refine wpAnyH_done (by kernel_rfl) ?_ _
                    go_wp2_with fail
                    go_ret
                    exact ⟨retB (unhide HE), (btG (unhide HBb) (unhide HBr)).drew⟩
            · have cN : ¬ (k : Int) < (X.told.length : Int) := by omega
              have HD : Hid (bd = true) := (unhide HTD).1 (by rw [show X.told.length = k by omega]; exact unhide HA)
              have HE : Hid (R = bo) := by show R = bo; rw [unhide HW2, unhide HD]; simp
              have HX9 := hide ((unhide HXb).on hb)
              have HB9 := hide (btG (unhide HBb) hb)
              clear hb
              go_wp2_with (refine wpList_load_box rfl _ rfl w.heap.size 0 [.int .i64 X.time, .int .i64 X.fresh, .slice ak X.known.length ck, .slice ac X.cache.length cc, .slice ah X.hosts.length ch, .slice al X.letters.length cl, .string X.book, .int .i64 X.sure, .slice aa X.calls.length ca, .slice az X.talks.length cz, .slice ai X.told.length ci] (unhide HX9) (fun j v hj => (by rw [Nat.zero_add]; exact hj)) rfl Tryz.underlying40 rfl infoW ?_)
              refine (unhide HC9 _ (unhide HB9)).mono ?_
              rintro e w9 ⟨rfl, hb9⟩
              have HB10 := hide (btG (unhide HB9) hb9)
              clear hb9
              go_wp2_with fail
              go_ret
              exact ⟨retB (unhide HE), unhide HB10⟩

theorem infoWL : (Tryz.prog.info? 30).map (·.size) = some 11 := by kernel_rfl

end Go.Proofs.YtbohladjahpfcaaGreat
