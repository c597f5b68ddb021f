/- The walk of spec.l13Hosts; nothing that was there is written. The walk of spec.l13Open; nothing that was there is written. The walk of spec.WorldOk; nothing that was there is written. The walk of laws.FnExactWorldOk: whatever world lies in memory it answers true; nothing that was there is written. -/
import Derived.Test.YtbbidjckplpaiaaGreatDoorWoh
import Derived.Deep.MidRow
import Derived.Deep.RegionHeld3
import Derived.Deep.RegionWith
import Derived.BigCall
import Derived.OrdersHeld
import Derived.Test.YtbbidjckplpaiaaGreatDoorWoi
import Derived.Test.YtbbidjckplpaiaaGreatDoorWwd
import Derived.BigQuiet
import Derived.WalkSmall
namespace Go.Proofs.YtbbidjckplpaiaaGreatDoor
open Go.RowKit Go.Deep

noncomputable def hosB (P : List Ho) : Bool := (P.all hoOk && onceB P) && decide (P.length ≤ 4)
theorem hosB_bad {P : List Ho} {k : Nat} {x : Ho} (hk : P[k]? = some x) (hx : hoOk x = false) : hosB P = false := by
  have : P.all hoOk = false := List.all_eq_false.2 ⟨x, List.mem_of_getElem? hk, by simp [hx]⟩
  simp [hosB, this]
open Classical in
theorem hosB_twice {P : List Ho} {i k : Nat} {x y : Ho} (hi : P[i]? = some x) (hk : P[k]? = some y) (hki : k < i) (hn : y.name = x.name) : hosB P = false := by
  have : onceB P = false := decide_eq_false fun h => h i x (List.getElem?_eq_some_iff.1 hi).1 hi k y hki hk hn
  simp [hosB, this]
open Classical in
theorem hosB_end {P : List Ho} (h1 : ∀ j x, j < P.length → P[j]? = some x → hoOk x = true) (h2 : onceP P P.length) : hosB P = decide (P.length ≤ 4) := by
  have e1 : P.all hoOk = true := List.all_eq_true.2 fun x hx => by
    obtain ⟨j, hj⟩ := List.getElem?_of_mem hx
    exact h1 j x (List.getElem?_eq_some_iff.1 hj).1 hj
  have e2 : onceB P = true := decide_eq_true h2
  simp [hosB, e1, e2]

set_option maxRecDepth 100000 in
set_option maxHeartbeats 4000000 in
theorem hostsS (P : List Ho) (a : Option Addr) (cap : Nat) (w : World) (hl : hoK.Ls w 0 a P) (hsz : P.length + ws how P ≤ 1048576) :
    Calls Tryz.prog 44 #[.slice a P.length cap] w fun e w' => e = .returned (.bool (hosB P)) ∧ Below w.heap.size w w' := by
  have HT := hide hl
  have HZ := hide hsz
  have hln : P.length ≤ 1048576 := by omega
  clear hl hsz
  generalize hlen : P.length = len at hln ⊢
  have HL : Hid (P.length = len) := hlen
  clear hlen
  go_enter Tryz.func44, Tryz.ntmps44
  go_wp2_with fail
  go_loopw [3] (fun i wr => ∃ k : Nat, i = .int .i64 k ∧ Below w.heap.size w wr ∧ k ≤ len ∧ (∀ j x, j < k → P[j]? = some x → hoOk x = true) ∧ onceP P k) (fun i _ => len - (intOf i).toNat)
  case atStart => exact ⟨0, rfl, Below.refl _ _, by omega, fun j x hj => by omega, fun i x hi => by omega⟩
  case round =>
    obtain ⟨k, rfl, hb, hk, ha, ho⟩ := hrel
    have HBr := hide hb
    have HA := hide ha
    have HO := hide ho
    clear ha ho
    by_cases hp : k < len
    · have hp' : k < P.length := by have := HL.out; omega
      obtain ⟨x, hkx⟩ : ∃ x, P[k]? = some x := ⟨_, List.getElem?_eq_getElem hp'⟩
      obtain ⟨b, o, cs, rfl, -, -, HR0, HT2, -⟩ := ((unhide HT).on hb).get hkx
      obtain ⟨rfl, -⟩ := HT2
      have HK := hide hkx
      have hnz : x.name.size ≤ 2097152 := by have := ws_get how hkx; have := unhide HZ; unfold how at *; omega
      obtain ⟨nm, key, lost⟩ := x
      have c0 : wr.cell? ⟨b, o + k * 3, none⟩ = some (.string nm) := HR0 0 _ rfl
      have c1 : wr.cell? ⟨b, o + k * 3 + 1, none⟩ = some (.int .i64 key) := HR0 1 _ rfl
      have HC := hide (hostS nm wr hnz)
      have HI := hide (fun v => in26 key 0 999 v)
      have q2 : (k : Int) < (len : Int) := by omega
      have q3 : (0 : Int) ≤ (k : Int) := by omega
      have w1 : wrap64 ((k : Int) + 1) = ((k + 1 : Nat) : Int) := by unfold wrap64; omega
      have HG : Hid (hoOk ⟨nm, key, lost⟩ = (hostB nm && inB key 0 999)) := rfl
      clear hkx HR0 hb hnz
      cases hbn : hostB nm with
      | false =>
        have HE : Hid (hosB P = false) := hosB_bad (unhide HK) (by rw [unhide HG, hbn, Bool.false_and])
        rw [hbn] at HC
        clear hbn
        go_wp2_with fail
        refine (unhide HC).mono ?_
        rintro e w2 ⟨rfl, hb2⟩
        have HB2 := hide (btG (unhide HBr) hb2)
        clear hb2
        go_wp2_with fail
        go_ret
        exact ⟨retB (unhide HE), unhide HB2⟩
      | true =>
        rw [hbn] at HC
        have HBN := hide hbn
        clear hbn
        cases hbk : inB key 0 999 with
        | false =>
          have HE : Hid (hosB P = false) := hosB_bad (unhide HK) (by rw [unhide HG, hbk, Bool.and_false])
          rw [hbk] at HI
          clear hbk
          go_wp2_with fail
          refine (unhide HC).mono ?_
          rintro e w2 ⟨rfl, hb2⟩
          have d1 := below_some hb2 c1
          have HB2 := hide (btG (unhide HBr) hb2)
          clear hb2
          go_wp2_with fail
          refine (unhide HI _).mono ?_
          rintro e w3 ⟨rfl, rfl⟩
          go_wp2_with fail
          go_ret
          exact ⟨retB (unhide HE), unhide HB2⟩
        | true =>
          have HA2 : Hid (∀ j x, j < k + 1 → P[j]? = some x → hoOk x = true) := fun j y hj hy => by
            rcases Nat.lt_or_ge j k with q | q
            · exact unhide HA j y q hy
            · obtain rfl : j = k := by omega
              rw [unhide HK] at hy
              cases hy
              rw [unhide HG, unhide HBN, hbk]; rfl
          rw [hbk] at HI
          clear hbk
          go_wp2_with fail
          refine (unhide HC).mono ?_
          rintro e w2 ⟨rfl, hb2⟩
          have d1 := below_some hb2 c1
          have d0 := below_some hb2 c0
          have HB2 := hide (btG (unhide HBr) hb2)
          clear hb2
          go_wp2_with fail
          refine (unhide HI _).mono ?_
          rintro e w3 ⟨rfl, rfl⟩
          go_wp2_with fail
          go_loopw [4] (fun i wr => ∃ m : Nat, i = .int .i64 m ∧ Below w3.heap.size w3 wr ∧ m ≤ k ∧ ∀ j y, j < m → P[j]? = some y → ¬ y.name = nm) (fun i _ => k - (intOf i).toNat)
          case atStart => exact ⟨0, rfl, Below.refl _ _, by omega, fun j y hj => by omega⟩
          case round =>
            obtain ⟨m, rfl, hbq, hm, hn⟩ := hrel
            have HBq := hide hbq
            have HNm := hide hn
            clear hn
            by_cases hmk : m < k
            · obtain ⟨y, hmy⟩ : ∃ y, P[m]? = some y := ⟨_, List.getElem?_eq_getElem (by omega)⟩
              obtain ⟨b', o', cs', hba, -, -, HR1, HT3, -⟩ := ((unhide HT).on (btG (unhide HB2) hbq)).get hmy
              cases hba
              obtain ⟨rfl, -⟩ := HT3
              have HM := hide hmy
              obtain ⟨nm', key', lost'⟩ := y
              have e0 : wr.cell? ⟨b, o + m * 3, none⟩ = some (.string nm') := HR1 0 _ rfl
              have e1 := below_some hbq d0
              have q4 : (m : Int) < (k : Int) := by omega
              have q5 : (0 : Int) ≤ (m : Int) := by omega
              have q6 : (m : Int) < (len : Int) := by omega
              have w4 : wrap64 ((m : Int) + 1) = ((m + 1 : Nat) : Int) := by unfold wrap64; omega
              clear hmy HR1 hbq
              by_cases hnn : nm' = nm
              · have HE : Hid (hosB P = false) := hosB_twice (unhide HK) (unhide HM) hmk hnn
                subst hnn
                go_wp2_with fail
                go_region
                go_wp2_with fail
                go_ret
                exact ⟨retB (unhide HE), (btG (unhide HB2) (unhide HBq)).drew⟩
              · have hne := ba_ne hnn
                have HN2 : Hid (∀ j y, j < m + 1 → P[j]? = some y → ¬ y.name = nm) := fun j y hj hy => by
                  rcases Nat.lt_or_ge j m with q | q
                  · exact unhide HNm j y q hy
                  · obtain rfl : j = m := by omega
                    rw [unhide HM] at hy
                    cases hy
                    exact hnn
                clear hnn
                go_wp2_with fail
                go_region
                go_wp2_with fail
                go_roundw
                case rel => exact ⟨m + 1, rfl, (unhide HBq).drew, by omega, unhide HN2⟩
                case measure => simp only [intOf]; omega
            · have c2 : ¬ (m : Int) < (k : Int) := by omega
              have HO2 : Hid (onceP P (k + 1)) := fun i y hi hy => by
                rcases Nat.lt_or_ge i k with q | q
                · exact unhide HO i y q hy
                · obtain rfl : i = k := by omega
                  rw [unhide HK] at hy
                  cases hy
                  exact fun j z hj hz => unhide HNm j z (by omega) hz
              clear hbq
              go_wp2_with fail
              go_roundw
              case rel => exact ⟨k + 1, rfl, btG (unhide HB2) (unhide HBq), by omega, unhide HA2, unhide HO2⟩
              case measure => simp only [intOf]; omega
    · have c2 : ¬ (k : Int) < (len : Int) := by omega
      have HE : Hid (hosB P = decide (len ≤ 4)) := by
        have hkk : k = P.length := by have := HL.out; omega
        subst hkk
        have := HL.out
        subst this
        exact hosB_end (unhide HA) (unhide HO)
      clear hb
      by_cases h4 : (len : Int) ≤ 4
      · have HF : Hid (hosB P = true) := (unhide HE).trans (decide_eq_true (by omega))
        go_wp2_with fail
        go_ret
        exact ⟨retB (unhide HF), unhide HBr⟩
      · have HF : Hid (hosB P = false) := (unhide HE).trans (decide_eq_false (by omega))
        go_wp2_with fail
        go_ret
        exact ⟨retB (unhide HF), unhide HBr⟩

theorem step_callG {P : Program} {ops : Array Oper} {Q : Exit → Act → World → Prop} {i d f : Nat} {fn : Func} {xs : Array Operand} {ats : Array TypeId} {ty : TypeId} {pos : String} {after : Array Edge} {g : Option (Nat × Bool)} {K : Act → World → Prop} {a : Act} {w : World}
    (ho : ops[i]? = some { dst := some d, op := .call { callee := .value (.func f), args := xs, argTypes := ats }, type := ty, pos := pos, after := after, guard := g })
    (hw : Region.wanted { dst := some d, op := .call { callee := .value (.func f), args := xs, argTypes := ats }, type := ty, pos := pos, after := after, guard := g } (yielded ops a.tmps) = true)
    (hf : P.funcs[f]? = some fn) (hn : (fn.name == "runtime.NumGoroutine") = false) (hb : fn.body.isNone = false)
    {args : Array Value} (hx : xs.map a.eval = args) (h : Calls P f args w fun e w' => ∃ v, e = .returned v ∧ K (a.put (some d) v) w') :
    wpOp P ops Q i K a w := by
  refine wpOp_step ho fun K' hK => ?_
  rw [if_pos hw]
  unfold Oper.wp
  rw [execOp_call_go, callFunc_enter hf hn hb]
  have he : (#[] ++ xs.map a.eval ++ #[] : Array Value) = xs.map a.eval := by simp
  rw [he, hx]
  refine Calls.mono h ?_
  rintro e w' ⟨v, rfl, hv⟩
  exact hK _ _ hv

noncomputable def openB (X : Wd) : Bool := (X.calls.all (caOk X.letters.length) && X.talks.all (taOk X.hosts.length)) && (decide (X.calls.length ≤ 12) && decide (X.talks.length ≤ 12))
theorem openB_calls {X : Wd} {k : Nat} {x : Ca} (hk : X.calls[k]? = some x) (hx : caOk X.letters.length x = false) : openB X = false := by
  have : X.calls.all (caOk X.letters.length) = false := List.all_eq_false.2 ⟨x, List.mem_of_getElem? hk, by simp [hx]⟩
  simp [openB, this]
theorem openB_talks {X : Wd} {k : Nat} {x : Ta} (hk : X.talks[k]? = some x) (hx : taOk X.hosts.length x = false) : openB X = false := by
  have : X.talks.all (taOk X.hosts.length) = false := List.all_eq_false.2 ⟨x, List.mem_of_getElem? hk, by simp [hx]⟩
  simp [openB, this]

set_option maxRecDepth 100000 in
set_option maxHeartbeats 4000000 in
theorem openS (X : Wd) (cs : List Value) (w : World) (h : wdAt w 0 X cs) (hz : ww X ≤ 1048576) :
    Calls Tryz.prog 47 #[.agg cs.toArray] w fun e w' => e = .returned (.bool (openB X)) ∧ Below w.heap.size w w' := by
  obtain ⟨-, ak, ck, ac, cc, ah, ch, al, cl, aa, ca, az, cz, ai, ci, rfl, hy0, hy1, hy2, hy3, hy4, hy5, hy6⟩ := h
  show Calls Tryz.prog 47 #[.agg #[.int .i64 X.time, .int .i64 X.fresh, .slice ak X.known.length ck, .slice ac X.cache.length cc, .slice ah X.hosts.length ch, .slice al X.letters.length cl, .string X.book, .int .i64 X.sure, .slice aa X.calls.length ca, .slice az X.talks.length cz, .slice ai X.told.length ci]] w _
  have HXp := hide (Box.new w 40 [.int .i64 X.time, .int .i64 X.fresh, .slice ak X.known.length ck, .slice ac X.cache.length cc, .slice ah X.hosts.length ch, .slice al X.letters.length cl, .string X.book, .int .i64 X.sure, .slice aa X.calls.length ca, .slice az X.talks.length cz, .slice ai X.told.length ci])
  have HYp := hide hy4
  have HYq := hide hy5
  have HZp : Hid (ws caw X.calls ≤ 1048576) := by show _ ≤ _; unfold ww at hz; omega
  have HZq : Hid (ws taw X.talks ≤ 1048576) := by show _ ≤ _; unfold ww at hz; omega
  have HLNp : Hid (X.calls.length ≤ 1048576) := by show _ ≤ _; unfold ww at hz; omega
  have HLNq : Hid (X.talks.length ≤ 1048576) := by show _ ≤ _; unfold ww at hz; omega
  have HLMp : Hid (X.letters.length ≤ 1048576) := by show _ ≤ _; unfold ww at hz; omega
  have HLMq : Hid (X.hosts.length ≤ 1048576) := by show _ ≤ _; unfold ww at hz; omega
  clear hz hy0 hy1 hy2 hy3 hy4 hy5 hy6
  go_enter Tryz.func47, Tryz.ntmps47
  go_wp2_with fail
  go_loopw [3] (fun i wr => ∃ k : Nat, i = .int .i64 k ∧ Below (w.alloc (.cells #[.int .i64 X.time, .int .i64 X.fresh, .slice ak X.known.length ck, .slice ac X.cache.length cc, .slice ah X.hosts.length ch, .slice al X.letters.length cl, .string X.book, .int .i64 X.sure, .slice aa X.calls.length ca, .slice az X.talks.length cz, .slice ai X.told.length ci] 40)).heap.size (w.alloc (.cells #[.int .i64 X.time, .int .i64 X.fresh, .slice ak X.known.length ck, .slice ac X.cache.length cc, .slice ah X.hosts.length ch, .slice al X.letters.length cl, .string X.book, .int .i64 X.sure, .slice aa X.calls.length ca, .slice az X.talks.length cz, .slice ai X.told.length ci] 40)) wr ∧ k ≤ X.calls.length ∧ ∀ j x, j < k → X.calls[j]? = some x → caOk X.letters.length x = true) (fun i _ => X.calls.length - (intOf i).toNat)
  case atStart => exact ⟨0, rfl, Below.refl _ _, by omega, fun j x hj => by omega⟩
  case round =>
    obtain ⟨k, rfl, hbp, hkp, ha⟩ := hrel
    have HBrp := hide hbp
    have HAp := hide ha
    clear ha
    have c8p : wr.cell? ⟨w.heap.size, 8, none⟩ = some (.slice aa X.calls.length ca) := ((unhide HXp).on hbp).cell rfl
    have c5p : wr.cell? ⟨w.heap.size, 5, none⟩ = some (.slice al X.letters.length cl) := ((unhide HXp).on hbp).cell rfl
    by_cases hpp : k < X.calls.length
    · obtain ⟨x, hkx⟩ : ∃ x, X.calls[k]? = some x := ⟨_, List.getElem?_eq_getElem hpp⟩
      obtain ⟨b, o, cs, hba, -, -, HR0, HT2, -⟩ := ((unhide HYp).on (btG (abG _) hbp)).get hkx
      subst hba
      obtain ⟨cc, rfl, hcc⟩ := HT2
      have hc0 := clK.on (w := wr) (L := 0) (x := x.c) hcc (Below.refl _ _).drew
      obtain ⟨-, op_1, n_1, s_1, a_1, len_1, cap_1, rfl, -⟩ := hcc
      have d0 : wr.cell? ⟨b, o + k * 15, none⟩ = some (.int .i64 x.k) := HR0 0 _ rfl
      have d1 : wr.cell? ⟨b, o + k * 15 + 1, none⟩ = some (.int .i64 x.c.st) := HR0 1 _ rfl
      have d2 : wr.cell? ⟨b, o + k * 15 + 2, none⟩ = some (.string x.c.h) := HR0 2 _ rfl
      have d3 : wr.cell? ⟨b, o + k * 15 + 3, none⟩ = some (.bool x.c.mu) := HR0 3 _ rfl
      have d4 : wr.cell? ⟨b, o + k * 15 + 4, none⟩ = some (.int .i64 x.c.ep) := HR0 4 _ rfl
      have d5 : wr.cell? ⟨b, o + k * 15 + 5, none⟩ = some (.int .i64 x.c.bo) := HR0 5 _ rfl
      have d6 : wr.cell? ⟨b, o + k * 15 + 6, none⟩ = some (.int .i64 op_1) := HR0 6 _ rfl
      have d7 : wr.cell? ⟨b, o + k * 15 + 7, none⟩ = some (.int .i64 n_1) := HR0 7 _ rfl
      have d8 : wr.cell? ⟨b, o + k * 15 + 8, none⟩ = some (.string s_1) := HR0 8 _ rfl
      have d9 : wr.cell? ⟨b, o + k * 15 + 9, none⟩ = some (.slice a_1 len_1 cap_1) := HR0 9 _ rfl
      have d10 : wr.cell? ⟨b, o + k * 15 + 10, none⟩ = some (.int .i64 x.c.i) := HR0 10 _ rfl
      have d11 : wr.cell? ⟨b, o + k * 15 + 11, none⟩ = some (.int .i64 x.c.o) := HR0 11 _ rfl
      have d12 : wr.cell? ⟨b, o + k * 15 + 12, none⟩ = some (.bool x.c.tl) := HR0 12 _ rfl
      have d13 : wr.cell? ⟨b, o + k * 15 + 13, none⟩ = some (.bool x.c.pr) := HR0 13 _ rfl
      have d14 : wr.cell? ⟨b, o + k * 15 + 14, none⟩ = some (.bool x.g) := HR0 14 _ rfl
      have HC := hide (clOkS x.c _ _ hc0 (by have := ws_get caw hkx; have := unhide HZp; have hq : caw x = clw x.c := rfl; omega))
      have HI := hide (fun v => in26 x.k 0 ((X.letters.length : Int) - 1) v)
      have HG : Hid (caOk X.letters.length x = (inB x.k 0 ((X.letters.length : Int) - 1) && clOk x.c)) := rfl
      have HK := hide hkx
      have q2 : (k : Int) < (X.calls.length : Int) := by omega
      have q3 : (0 : Int) ≤ (k : Int) := by omega
      have w1 : wrap64 ((k : Int) + 1) = ((k + 1 : Nat) : Int) := by have := unhide HLNp; unfold wrap64; omega
      have q9 : (k : Int) < 1048577 := by have := unhide HLNp; omega
      have w2 : wrap64 ((X.letters.length : Int) - 1) = (X.letters.length : Int) - 1 := by have := unhide HLMp; unfold wrap64; omega
      have w3 : IntKind.i64.wrap ((X.letters.length : Int) - 1) = (X.letters.length : Int) - 1 := by have := unhide HLMp; exact IntWalk.i64_in _ ⟨by omega, by omega⟩
      clear hkx HR0 hbp hc0
      have HN : Hid (caOk X.letters.length x = false → openB X = false) := fun hq => openB_calls (unhide HK) hq
      have HM : Hid (caOk X.letters.length x = true → ∀ j y, j < k + 1 → X.calls[j]? = some y → caOk X.letters.length y = true) := fun hx j y hj hy => by
        rcases Nat.lt_or_ge j k with q | q
        · exact unhide HAp j y q hy
        · obtain rfl : j = k := by omega
          rw [unhide HK] at hy
          cases hy
          exact hx
      generalize caOk X.letters.length x = r at *
      generalize inB x.k 0 ((X.letters.length : Int) - 1) = bi at *
      generalize clOk x.c = bk at *
      cases bi with
      | false =>
        have HE : Hid (openB X = false) := unhide HN (by rw [unhide HG]; rfl)
        go_wp2_with fail
        refine wp_region_held (S := fun y => y.cell? ⟨w.heap.size, 8, none⟩ = some (.slice (some ⟨b, o, none⟩) X.calls.length ca) ∧ y.cell? ⟨w.heap.size, 5, none⟩ = some (.slice al X.letters.length cl) ∧ y.cell? ⟨b, o + k * 15, none⟩ = some (.int .i64 x.k) ∧ y.cell? ⟨b, o + k * 15 + 1, none⟩ = some (.int .i64 x.c.st) ∧ y.cell? ⟨b, o + k * 15 + 2, none⟩ = some (.string x.c.h) ∧ y.cell? ⟨b, o + k * 15 + 3, none⟩ = some (.bool x.c.mu) ∧ y.cell? ⟨b, o + k * 15 + 4, none⟩ = some (.int .i64 x.c.ep) ∧ y.cell? ⟨b, o + k * 15 + 5, none⟩ = some (.int .i64 x.c.bo) ∧ y.cell? ⟨b, o + k * 15 + 6, none⟩ = some (.int .i64 op_1) ∧ y.cell? ⟨b, o + k * 15 + 7, none⟩ = some (.int .i64 n_1) ∧ y.cell? ⟨b, o + k * 15 + 8, none⟩ = some (.string s_1) ∧ y.cell? ⟨b, o + k * 15 + 9, none⟩ = some (.slice a_1 len_1 cap_1) ∧ y.cell? ⟨b, o + k * 15 + 10, none⟩ = some (.int .i64 x.c.i) ∧ y.cell? ⟨b, o + k * 15 + 11, none⟩ = some (.int .i64 x.c.o) ∧ y.cell? ⟨b, o + k * 15 + 12, none⟩ = some (.bool x.c.tl) ∧ y.cell? ⟨b, o + k * 15 + 13, none⟩ = some (.bool x.c.pr)) Tryz.mixedO ?_
        have hS : (fun y : World => y.cell? ⟨w.heap.size, 8, none⟩ = some (.slice (some ⟨b, o, none⟩) X.calls.length ca) ∧ y.cell? ⟨w.heap.size, 5, none⟩ = some (.slice al X.letters.length cl) ∧ y.cell? ⟨b, o + k * 15, none⟩ = some (.int .i64 x.k) ∧ y.cell? ⟨b, o + k * 15 + 1, none⟩ = some (.int .i64 x.c.st) ∧ y.cell? ⟨b, o + k * 15 + 2, none⟩ = some (.string x.c.h) ∧ y.cell? ⟨b, o + k * 15 + 3, none⟩ = some (.bool x.c.mu) ∧ y.cell? ⟨b, o + k * 15 + 4, none⟩ = some (.int .i64 x.c.ep) ∧ y.cell? ⟨b, o + k * 15 + 5, none⟩ = some (.int .i64 x.c.bo) ∧ y.cell? ⟨b, o + k * 15 + 6, none⟩ = some (.int .i64 op_1) ∧ y.cell? ⟨b, o + k * 15 + 7, none⟩ = some (.int .i64 n_1) ∧ y.cell? ⟨b, o + k * 15 + 8, none⟩ = some (.string s_1) ∧ y.cell? ⟨b, o + k * 15 + 9, none⟩ = some (.slice a_1 len_1 cap_1) ∧ y.cell? ⟨b, o + k * 15 + 10, none⟩ = some (.int .i64 x.c.i) ∧ y.cell? ⟨b, o + k * 15 + 11, none⟩ = some (.int .i64 x.c.o) ∧ y.cell? ⟨b, o + k * 15 + 12, none⟩ = some (.bool x.c.tl) ∧ y.cell? ⟨b, o + k * 15 + 13, none⟩ = some (.bool x.c.pr)) wr.drew := ⟨c8p, c5p, d0, d1, d2, d3, d4, d5, d6, d7, d8, d9, d10, d11, d12, d13⟩
        show wpAnyH _ _ _ _ _ _ _ _ wr.drew
        refine wpAnyH_take (i := 0) (oi := { dst := some 12, op := Op.fieldAddr 40 (Operand.tmp 1) 8, type := 0, pos := "l13_world.go:23", after := #[], guard := none }) (v := ?_) rfl (by kernel_rfl) (by kernel_rfl) (by kernel_rfl) (fun _ _ _ h => h) (Or.inl ⟨by rfl, ?_⟩) hS ?_
        rotate_left
        · intro y hSy; obtain ⟨yl, yb, y0, y1, y2, y3, y4, y5, y6, y7, y8, y9, y10, y11, y12, y13⟩ := hSy; go_simp; try with_reducible rfl
        simp only [Act.put, List.setIfInBounds_toArray, List.set_cons_succ, List.set_cons_zero]
        refine wpAnyH_take (i := 1) (oi := { dst := some 13, op := Op.load 37 (Operand.tmp 12), type := 37, pos := "l13_world.go:23", after := #[{ on := 0, ground := Ground.data }], guard := none }) (v := ?_) rfl (by kernel_rfl) (by kernel_rfl) (by kernel_rfl) (fun _ _ _ h => h) (Or.inl ⟨by rfl, ?_⟩) hS ?_
        rotate_left
        · intro y hSy; obtain ⟨yl, yb, y0, y1, y2, y3, y4, y5, y6, y7, y8, y9, y10, y11, y12, y13⟩ := hSy; go_simp; try with_reducible rfl
        simp only [Act.put, List.setIfInBounds_toArray, List.set_cons_succ, List.set_cons_zero]
        refine wpAnyH_take (i := 2) (oi := { dst := some 14, op := Op.move (Operand.tmp 3), type := 3, pos := "l13_world.go:23", after := #[], guard := none }) (v := ?_) rfl (by kernel_rfl) (by kernel_rfl) (by kernel_rfl) (fun _ _ _ h => h) (Or.inl ⟨by rfl, ?_⟩) hS ?_
        rotate_left
        · intro y hSy; obtain ⟨yl, yb, y0, y1, y2, y3, y4, y5, y6, y7, y8, y9, y10, y11, y12, y13⟩ := hSy; go_simp; try with_reducible rfl
        simp only [Act.put, List.setIfInBounds_toArray, List.set_cons_succ, List.set_cons_zero]
        refine wpAnyH_take (i := 3) (oi := { dst := some 15, op := Op.indexAddr 37 (Operand.tmp 13) (Operand.tmp 14), type := 0, pos := "l13_world.go:23", after := #[{ on := 1, ground := Ground.data }, { on := 2, ground := Ground.data }], guard := none }) (v := ?_) rfl (by kernel_rfl) (by kernel_rfl) (by kernel_rfl) (fun _ _ _ h => h) (Or.inl ⟨by rfl, ?_⟩) hS ?_
        rotate_left
        · intro y hSy; obtain ⟨yl, yb, y0, y1, y2, y3, y4, y5, y6, y7, y8, y9, y10, y11, y12, y13⟩ := hSy; go_simp; try with_reducible rfl
        simp only [Act.put, List.setIfInBounds_toArray, List.set_cons_succ, List.set_cons_zero]
        refine wpAnyH_take (i := 4) (oi := { dst := some 16, op := Op.fieldAddr 112 (Operand.tmp 15) 0, type := 0, pos := "l13_world.go:23", after := #[{ on := 3, ground := Ground.data }], guard := none }) (v := ?_) rfl (by kernel_rfl) (by kernel_rfl) (by kernel_rfl) (fun _ _ _ h => h) (Or.inl ⟨by rfl, ?_⟩) hS ?_
        rotate_left
        · intro y hSy; obtain ⟨yl, yb, y0, y1, y2, y3, y4, y5, y6, y7, y8, y9, y10, y11, y12, y13⟩ := hSy; go_simp; try with_reducible rfl
        simp only [Act.put, List.setIfInBounds_toArray, List.set_cons_succ, List.set_cons_zero]
        refine wpAnyH_take (i := 5) (oi := { dst := some 17, op := Op.load 3 (Operand.tmp 16), type := 3, pos := "l13_world.go:23", after := #[{ on := 4, ground := Ground.data }], guard := none }) (v := ?_) rfl (by kernel_rfl) (by kernel_rfl) (by kernel_rfl) (fun _ _ _ h => h) (Or.inl ⟨by rfl, ?_⟩) hS ?_
        rotate_left
        · intro y hSy; obtain ⟨yl, yb, y0, y1, y2, y3, y4, y5, y6, y7, y8, y9, y10, y11, y12, y13⟩ := hSy; go_simp; try with_reducible rfl
        simp only [Act.put, List.setIfInBounds_toArray, List.set_cons_succ, List.set_cons_zero]
        refine wpAnyH_take (i := 6) (oi := { dst := some 18, op := Op.fieldAddr 40 (Operand.tmp 1) 5, type := 0, pos := "l13_world.go:23", after := #[], guard := none }) (v := ?_) rfl (by kernel_rfl) (by kernel_rfl) (by kernel_rfl) (fun _ _ _ h => h) (Or.inl ⟨by rfl, ?_⟩) hS ?_
        rotate_left
        · intro y hSy; obtain ⟨yl, yb, y0, y1, y2, y3, y4, y5, y6, y7, y8, y9, y10, y11, y12, y13⟩ := hSy; go_simp; try with_reducible rfl
        simp only [Act.put, List.setIfInBounds_toArray, List.set_cons_succ, List.set_cons_zero]
        refine wpAnyH_take (i := 7) (oi := { dst := some 19, op := Op.load 36 (Operand.tmp 18), type := 36, pos := "l13_world.go:23", after := #[{ on := 6, ground := Ground.data }], guard := none }) (v := ?_) rfl (by kernel_rfl) (by kernel_rfl) (by kernel_rfl) (fun _ _ _ h => h) (Or.inl ⟨by rfl, ?_⟩) hS ?_
        rotate_left
        · intro y hSy; obtain ⟨yl, yb, y0, y1, y2, y3, y4, y5, y6, y7, y8, y9, y10, y11, y12, y13⟩ := hSy; go_simp; try with_reducible rfl
        simp only [Act.put, List.setIfInBounds_toArray, List.set_cons_succ, List.set_cons_zero]
        refine wpAnyH_take (i := 8) (oi := { dst := some 20, op := Op.call { callee := Callee.builtin Builtin.len, args := #[Operand.tmp 19], argTypes := #[36] }, type := 3, pos := "l13_world.go:23", after := #[{ on := 7, ground := Ground.data }], guard := none }) (v := ?_) rfl (by kernel_rfl) (by kernel_rfl) (by kernel_rfl) (fun _ _ _ h => h) (Or.inl ⟨by rfl, ?_⟩) hS ?_
        rotate_left
        · intro y hSy; obtain ⟨yl, yb, y0, y1, y2, y3, y4, y5, y6, y7, y8, y9, y10, y11, y12, y13⟩ := hSy; go_simp; try with_reducible rfl
        simp only [Act.put, List.setIfInBounds_toArray, List.set_cons_succ, List.set_cons_zero]
        refine wpAnyH_take (i := 9) (oi := { dst := some 21, op := Op.binOp BinOp.sub 3 (Operand.tmp 20) (Operand.const (Value.int IntKind.i64 1)) 3, type := 3, pos := "l13_world.go:23", after := #[{ on := 8, ground := Ground.data }], guard := none }) (v := ?_) rfl (by kernel_rfl) (by kernel_rfl) (by kernel_rfl) (fun _ _ _ h => h) (Or.inl ⟨by rfl, ?_⟩) hS ?_
        rotate_left
        · intro y hSy; obtain ⟨yl, yb, y0, y1, y2, y3, y4, y5, y6, y7, y8, y9, y10, y11, y12, y13⟩ := hSy; go_simp; try with_reducible rfl
        simp only [Act.put, List.setIfInBounds_toArray, List.set_cons_succ, List.set_cons_zero]
        refine wpAnyH_all (rs := [10]) (by kernel_rfl) (by simp) ?_
        intro i hi
        simp only [List.mem_singleton] at hi
        subst hi
        refine step_call (f := 42) (fn := Tryz.f42) (d := 22) (args := #[.int .i64 x.k, .int .i64 0, .int .i64 ((X.letters.length : Int) - 1)]) rfl Tryz.func42 (by kernel_rfl) (by kernel_rfl) (by simp [Act.eval]) ?_
        refine (unhide HI _).mono ?_
        rintro e w2 ⟨rfl, rfl⟩
        refine ⟨_, rfl, ?_⟩
        refine ⟨hS, ?_⟩
        simp only [Act.put, List.setIfInBounds_toArray, List.set_cons_succ, List.set_cons_zero]
        refine wpAnyH_take (i := 11) (oi := { dst := some 23, op := Op.unOp UnOp.not 4 (Operand.tmp 22), type := 4, pos := "l13_world.go:23", after := #[{ on := 10, ground := Ground.data }], guard := none }) (v := ?_) rfl (by kernel_rfl) (by kernel_rfl) (by kernel_rfl) (fun _ _ _ h => h) (Or.inl ⟨by rfl, ?_⟩) hS ?_
        rotate_left
        · intro y hSy; obtain ⟨yl, yb, y0, y1, y2, y3, y4, y5, y6, y7, y8, y9, y10, y11, y12, y13⟩ := hSy; go_simp; try with_reducible rfl
        simp only [Act.put, List.setIfInBounds_toArray, List.set_cons_succ, List.set_cons_zero]
        refine wpAnyH_take (i := 12) (oi := { dst := some 24, op := Op.move (Operand.tmp 23), type := 4, pos := "l13_world.go:23", after := #[{ on := 11, ground := Ground.data }, { on := 10, ground := Ground.chain }], guard := none }) (v := ?_) rfl (by kernel_rfl) (by kernel_rfl) (by kernel_rfl) (fun _ _ _ h => h) (Or.inl ⟨by rfl, ?_⟩) hS ?_
        rotate_left
        · intro y hSy; obtain ⟨yl, yb, y0, y1, y2, y3, y4, y5, y6, y7, y8, y9, y10, y11, y12, y13⟩ := hSy; go_simp; try with_reducible rfl
        simp only [Act.put, List.setIfInBounds_toArray, List.set_cons_succ, List.set_cons_zero]
        refine wpAnyH_take (i := 13) (oi := { dst := some 25, op := Op.fieldAddr 40 (Operand.tmp 1) 8, type := 0, pos := "l13_world.go:23", after := #[{ on := 12, ground := Ground.guard }], guard := some (12, false) }) (v := undef) rfl (by kernel_rfl) (by kernel_rfl) (by kernel_rfl) (fun _ _ _ h => h) (Or.inr ⟨by rfl, rfl⟩) hS ?_
        simp only [Act.put, List.setIfInBounds_toArray, List.set_cons_succ, List.set_cons_zero]
        refine wpAnyH_take (i := 14) (oi := { dst := some 26, op := Op.load 37 (Operand.tmp 25), type := 37, pos := "l13_world.go:23", after := #[{ on := 13, ground := Ground.data }, { on := 12, ground := Ground.guard }], guard := some (12, false) }) (v := undef) rfl (by kernel_rfl) (by kernel_rfl) (by kernel_rfl) (fun _ _ _ h => h) (Or.inr ⟨by rfl, rfl⟩) hS ?_
        simp only [Act.put, List.setIfInBounds_toArray, List.set_cons_succ, List.set_cons_zero]
        refine wpAnyH_take (i := 15) (oi := { dst := some 27, op := Op.move (Operand.tmp 3), type := 3, pos := "l13_world.go:23", after := #[{ on := 12, ground := Ground.guard }], guard := some (12, false) }) (v := undef) rfl (by kernel_rfl) (by kernel_rfl) (by kernel_rfl) (fun _ _ _ h => h) (Or.inr ⟨by rfl, rfl⟩) hS ?_
        simp only [Act.put, List.setIfInBounds_toArray, List.set_cons_succ, List.set_cons_zero]
        refine wpAnyH_take (i := 16) (oi := { dst := some 28, op := Op.indexAddr 37 (Operand.tmp 26) (Operand.tmp 27), type := 0, pos := "l13_world.go:23", after := #[{ on := 14, ground := Ground.data }, { on := 15, ground := Ground.data }, { on := 12, ground := Ground.guard }], guard := some (12, false) }) (v := undef) rfl (by kernel_rfl) (by kernel_rfl) (by kernel_rfl) (fun _ _ _ h => h) (Or.inr ⟨by rfl, rfl⟩) hS ?_
        simp only [Act.put, List.setIfInBounds_toArray, List.set_cons_succ, List.set_cons_zero]
        refine wpAnyH_take (i := 17) (oi := { dst := some 29, op := Op.fieldAddr 112 (Operand.tmp 28) 1, type := 0, pos := "l13_world.go:23", after := #[{ on := 16, ground := Ground.data }, { on := 12, ground := Ground.guard }], guard := some (12, false) }) (v := undef) rfl (by kernel_rfl) (by kernel_rfl) (by kernel_rfl) (fun _ _ _ h => h) (Or.inr ⟨by rfl, rfl⟩) hS ?_
        simp only [Act.put, List.setIfInBounds_toArray, List.set_cons_succ, List.set_cons_zero]
        refine wpAnyH_take (i := 18) (oi := { dst := some 30, op := Op.load 110 (Operand.tmp 29), type := 110, pos := "l13_world.go:23", after := #[{ on := 17, ground := Ground.data }, { on := 12, ground := Ground.guard }], guard := some (12, false) }) (v := undef) rfl (by kernel_rfl) (by kernel_rfl) (by kernel_rfl) (fun _ _ _ h => h) (Or.inr ⟨by rfl, rfl⟩) hS ?_
        simp only [Act.put, List.setIfInBounds_toArray, List.set_cons_succ, List.set_cons_zero]
        refine wpAnyH_take (i := 19) (oi := { dst := some 31, op := Op.call { callee := Callee.value (Operand.func 78), args := #[Operand.tmp 30], argTypes := #[110] }, type := 4, pos := "l13_world.go:23", after := #[{ on := 18, ground := Ground.data }, { on := 12, ground := Ground.chain }, { on := 12, ground := Ground.guard }], guard := some (12, false) }) (v := undef) rfl (by kernel_rfl) (by kernel_rfl) (by kernel_rfl) (fun _ _ _ h => h) (Or.inr ⟨by rfl, rfl⟩) hS ?_
        simp only [Act.put, List.setIfInBounds_toArray, List.set_cons_succ, List.set_cons_zero]
        refine wpAnyH_take (i := 20) (oi := { dst := some 32, op := Op.unOp UnOp.not 4 (Operand.tmp 31), type := 4, pos := "l13_world.go:23", after := #[{ on := 19, ground := Ground.data }, { on := 12, ground := Ground.guard }], guard := some (12, false) }) (v := undef) rfl (by kernel_rfl) (by kernel_rfl) (by kernel_rfl) (fun _ _ _ h => h) (Or.inr ⟨by rfl, rfl⟩) hS ?_
        simp only [Act.put, List.setIfInBounds_toArray, List.set_cons_succ, List.set_cons_zero]
        refine wpAnyH_take (i := 21) (oi := { dst := some 33, op := Op.pick (Operand.tmp 24) (Operand.const (Value.bool true)) (Operand.tmp 32), type := 4, pos := "l13_world.go:23", after := #[{ on := 12, ground := Ground.data }, { on := 20, ground := Ground.data }], guard := none }) (v := ?_) rfl (by kernel_rfl) (by kernel_rfl) (by kernel_rfl) (fun _ _ _ h => h) (Or.inl ⟨by rfl, ?_⟩) hS ?_
        rotate_left
        · intro y hSy; obtain ⟨yl, yb, y0, y1, y2, y3, y4, y5, y6, y7, y8, y9, y10, y11, y12, y13⟩ := hSy; go_simp; try with_reducible rfl
        simp only [Act.put, List.setIfInBounds_toArray, List.set_cons_succ, List.set_cons_zero]
        refine wpAnyH_done (by kernel_rfl) ?_ _
        all_goals
          go_wp2_with fail
          go_ret
          exact ⟨retB (unhide HE), (btG (abG _) (unhide HBrp)).drew⟩
      | true =>
        cases bk with
        | false =>
          have HE : Hid (openB X = false) := unhide HN (by rw [unhide HG]; rfl)
          go_wp2_with fail
          refine wp_region_held (S := fun y => y.cell? ⟨w.heap.size, 8, none⟩ = some (.slice (some ⟨b, o, none⟩) X.calls.length ca) ∧ y.cell? ⟨w.heap.size, 5, none⟩ = some (.slice al X.letters.length cl) ∧ y.cell? ⟨b, o + k * 15, none⟩ = some (.int .i64 x.k) ∧ y.cell? ⟨b, o + k * 15 + 1, none⟩ = some (.int .i64 x.c.st) ∧ y.cell? ⟨b, o + k * 15 + 2, none⟩ = some (.string x.c.h) ∧ y.cell? ⟨b, o + k * 15 + 3, none⟩ = some (.bool x.c.mu) ∧ y.cell? ⟨b, o + k * 15 + 4, none⟩ = some (.int .i64 x.c.ep) ∧ y.cell? ⟨b, o + k * 15 + 5, none⟩ = some (.int .i64 x.c.bo) ∧ y.cell? ⟨b, o + k * 15 + 6, none⟩ = some (.int .i64 op_1) ∧ y.cell? ⟨b, o + k * 15 + 7, none⟩ = some (.int .i64 n_1) ∧ y.cell? ⟨b, o + k * 15 + 8, none⟩ = some (.string s_1) ∧ y.cell? ⟨b, o + k * 15 + 9, none⟩ = some (.slice a_1 len_1 cap_1) ∧ y.cell? ⟨b, o + k * 15 + 10, none⟩ = some (.int .i64 x.c.i) ∧ y.cell? ⟨b, o + k * 15 + 11, none⟩ = some (.int .i64 x.c.o) ∧ y.cell? ⟨b, o + k * 15 + 12, none⟩ = some (.bool x.c.tl) ∧ y.cell? ⟨b, o + k * 15 + 13, none⟩ = some (.bool x.c.pr)) Tryz.mixedO ?_
          have hS : (fun y : World => y.cell? ⟨w.heap.size, 8, none⟩ = some (.slice (some ⟨b, o, none⟩) X.calls.length ca) ∧ y.cell? ⟨w.heap.size, 5, none⟩ = some (.slice al X.letters.length cl) ∧ y.cell? ⟨b, o + k * 15, none⟩ = some (.int .i64 x.k) ∧ y.cell? ⟨b, o + k * 15 + 1, none⟩ = some (.int .i64 x.c.st) ∧ y.cell? ⟨b, o + k * 15 + 2, none⟩ = some (.string x.c.h) ∧ y.cell? ⟨b, o + k * 15 + 3, none⟩ = some (.bool x.c.mu) ∧ y.cell? ⟨b, o + k * 15 + 4, none⟩ = some (.int .i64 x.c.ep) ∧ y.cell? ⟨b, o + k * 15 + 5, none⟩ = some (.int .i64 x.c.bo) ∧ y.cell? ⟨b, o + k * 15 + 6, none⟩ = some (.int .i64 op_1) ∧ y.cell? ⟨b, o + k * 15 + 7, none⟩ = some (.int .i64 n_1) ∧ y.cell? ⟨b, o + k * 15 + 8, none⟩ = some (.string s_1) ∧ y.cell? ⟨b, o + k * 15 + 9, none⟩ = some (.slice a_1 len_1 cap_1) ∧ y.cell? ⟨b, o + k * 15 + 10, none⟩ = some (.int .i64 x.c.i) ∧ y.cell? ⟨b, o + k * 15 + 11, none⟩ = some (.int .i64 x.c.o) ∧ y.cell? ⟨b, o + k * 15 + 12, none⟩ = some (.bool x.c.tl) ∧ y.cell? ⟨b, o + k * 15 + 13, none⟩ = some (.bool x.c.pr)) wr.drew := ⟨c8p, c5p, d0, d1, d2, d3, d4, d5, d6, d7, d8, d9, d10, d11, d12, d13⟩
          show wpAnyH _ _ _ _ _ _ _ _ wr.drew
          refine wpAnyH_take (i := 0) (oi := { dst := some 12, op := Op.fieldAddr 40 (Operand.tmp 1) 8, type := 0, pos := "l13_world.go:23", after := #[], guard := none }) (v := ?_) rfl (by kernel_rfl) (by kernel_rfl) (by kernel_rfl) (fun _ _ _ h => h) (Or.inl ⟨by rfl, ?_⟩) hS ?_
          rotate_left
          · intro y hSy; obtain ⟨yl, yb, y0, y1, y2, y3, y4, y5, y6, y7, y8, y9, y10, y11, y12, y13⟩ := hSy; go_simp; try with_reducible rfl
          simp only [Act.put, List.setIfInBounds_toArray, List.set_cons_succ, List.set_cons_zero]
          refine wpAnyH_take (i := 1) (oi := { dst := some 13, op := Op.load 37 (Operand.tmp 12), type := 37, pos := "l13_world.go:23", after := #[{ on := 0, ground := Ground.data }], guard := none }) (v := ?_) rfl (by kernel_rfl) (by kernel_rfl) (by kernel_rfl) (fun _ _ _ h => h) (Or.inl ⟨by rfl, ?_⟩) hS ?_
          rotate_left
          · intro y hSy; obtain ⟨yl, yb, y0, y1, y2, y3, y4, y5, y6, y7, y8, y9, y10, y11, y12, y13⟩ := hSy; go_simp; try with_reducible rfl
          simp only [Act.put, List.setIfInBounds_toArray, List.set_cons_succ, List.set_cons_zero]
          refine wpAnyH_take (i := 2) (oi := { dst := some 14, op := Op.move (Operand.tmp 3), type := 3, pos := "l13_world.go:23", after := #[], guard := none }) (v := ?_) rfl (by kernel_rfl) (by kernel_rfl) (by kernel_rfl) (fun _ _ _ h => h) (Or.inl ⟨by rfl, ?_⟩) hS ?_
          rotate_left
          · intro y hSy; obtain ⟨yl, yb, y0, y1, y2, y3, y4, y5, y6, y7, y8, y9, y10, y11, y12, y13⟩ := hSy; go_simp; try with_reducible rfl
          simp only [Act.put, List.setIfInBounds_toArray, List.set_cons_succ, List.set_cons_zero]
          refine wpAnyH_take (i := 3) (oi := { dst := some 15, op := Op.indexAddr 37 (Operand.tmp 13) (Operand.tmp 14), type := 0, pos := "l13_world.go:23", after := #[{ on := 1, ground := Ground.data }, { on := 2, ground := Ground.data }], guard := none }) (v := ?_) rfl (by kernel_rfl) (by kernel_rfl) (by kernel_rfl) (fun _ _ _ h => h) (Or.inl ⟨by rfl, ?_⟩) hS ?_
          rotate_left
          · intro y hSy; obtain ⟨yl, yb, y0, y1, y2, y3, y4, y5, y6, y7, y8, y9, y10, y11, y12, y13⟩ := hSy; go_simp; try with_reducible rfl
          simp only [Act.put, List.setIfInBounds_toArray, List.set_cons_succ, List.set_cons_zero]
          refine wpAnyH_take (i := 4) (oi := { dst := some 16, op := Op.fieldAddr 112 (Operand.tmp 15) 0, type := 0, pos := "l13_world.go:23", after := #[{ on := 3, ground := Ground.data }], guard := none }) (v := ?_) rfl (by kernel_rfl) (by kernel_rfl) (by kernel_rfl) (fun _ _ _ h => h) (Or.inl ⟨by rfl, ?_⟩) hS ?_
          rotate_left
          · intro y hSy; obtain ⟨yl, yb, y0, y1, y2, y3, y4, y5, y6, y7, y8, y9, y10, y11, y12, y13⟩ := hSy; go_simp; try with_reducible rfl
          simp only [Act.put, List.setIfInBounds_toArray, List.set_cons_succ, List.set_cons_zero]
          refine wpAnyH_take (i := 5) (oi := { dst := some 17, op := Op.load 3 (Operand.tmp 16), type := 3, pos := "l13_world.go:23", after := #[{ on := 4, ground := Ground.data }], guard := none }) (v := ?_) rfl (by kernel_rfl) (by kernel_rfl) (by kernel_rfl) (fun _ _ _ h => h) (Or.inl ⟨by rfl, ?_⟩) hS ?_
          rotate_left
          · intro y hSy; obtain ⟨yl, yb, y0, y1, y2, y3, y4, y5, y6, y7, y8, y9, y10, y11, y12, y13⟩ := hSy; go_simp; try with_reducible rfl
          simp only [Act.put, List.setIfInBounds_toArray, List.set_cons_succ, List.set_cons_zero]
          refine wpAnyH_take (i := 6) (oi := { dst := some 18, op := Op.fieldAddr 40 (Operand.tmp 1) 5, type := 0, pos := "l13_world.go:23", after := #[], guard := none }) (v := ?_) rfl (by kernel_rfl) (by kernel_rfl) (by kernel_rfl) (fun _ _ _ h => h) (Or.inl ⟨by rfl, ?_⟩) hS ?_
          rotate_left
          · intro y hSy; obtain ⟨yl, yb, y0, y1, y2, y3, y4, y5, y6, y7, y8, y9, y10, y11, y12, y13⟩ := hSy; go_simp; try with_reducible rfl
          simp only [Act.put, List.setIfInBounds_toArray, List.set_cons_succ, List.set_cons_zero]
          refine wpAnyH_take (i := 7) (oi := { dst := some 19, op := Op.load 36 (Operand.tmp 18), type := 36, pos := "l13_world.go:23", after := #[{ on := 6, ground := Ground.data }], guard := none }) (v := ?_) rfl (by kernel_rfl) (by kernel_rfl) (by kernel_rfl) (fun _ _ _ h => h) (Or.inl ⟨by rfl, ?_⟩) hS ?_
          rotate_left
          · intro y hSy; obtain ⟨yl, yb, y0, y1, y2, y3, y4, y5, y6, y7, y8, y9, y10, y11, y12, y13⟩ := hSy; go_simp; try with_reducible rfl
          simp only [Act.put, List.setIfInBounds_toArray, List.set_cons_succ, List.set_cons_zero]
          refine wpAnyH_take (i := 8) (oi := { dst := some 20, op := Op.call { callee := Callee.builtin Builtin.len, args := #[Operand.tmp 19], argTypes := #[36] }, type := 3, pos := "l13_world.go:23", after := #[{ on := 7, ground := Ground.data }], guard := none }) (v := ?_) rfl (by kernel_rfl) (by kernel_rfl) (by kernel_rfl) (fun _ _ _ h => h) (Or.inl ⟨by rfl, ?_⟩) hS ?_
          rotate_left
          · intro y hSy; obtain ⟨yl, yb, y0, y1, y2, y3, y4, y5, y6, y7, y8, y9, y10, y11, y12, y13⟩ := hSy; go_simp; try with_reducible rfl
          simp only [Act.put, List.setIfInBounds_toArray, List.set_cons_succ, List.set_cons_zero]
          refine wpAnyH_take (i := 9) (oi := { dst := some 21, op := Op.binOp BinOp.sub 3 (Operand.tmp 20) (Operand.const (Value.int IntKind.i64 1)) 3, type := 3, pos := "l13_world.go:23", after := #[{ on := 8, ground := Ground.data }], guard := none }) (v := ?_) rfl (by kernel_rfl) (by kernel_rfl) (by kernel_rfl) (fun _ _ _ h => h) (Or.inl ⟨by rfl, ?_⟩) hS ?_
          rotate_left
          · intro y hSy; obtain ⟨yl, yb, y0, y1, y2, y3, y4, y5, y6, y7, y8, y9, y10, y11, y12, y13⟩ := hSy; go_simp; try with_reducible rfl
          simp only [Act.put, List.setIfInBounds_toArray, List.set_cons_succ, List.set_cons_zero]
          refine wpAnyH_all (rs := [10]) (by kernel_rfl) (by simp) ?_
          intro i hi
          simp only [List.mem_singleton] at hi
          subst hi
          refine step_call (f := 42) (fn := Tryz.f42) (d := 22) (args := #[.int .i64 x.k, .int .i64 0, .int .i64 ((X.letters.length : Int) - 1)]) rfl Tryz.func42 (by kernel_rfl) (by kernel_rfl) (by simp [Act.eval]) ?_
          refine (unhide HI _).mono ?_
          rintro e w2 ⟨rfl, rfl⟩
          refine ⟨_, rfl, ?_⟩
          refine ⟨hS, ?_⟩
          simp only [Act.put, List.setIfInBounds_toArray, List.set_cons_succ, List.set_cons_zero]
          refine wpAnyH_take (i := 11) (oi := { dst := some 23, op := Op.unOp UnOp.not 4 (Operand.tmp 22), type := 4, pos := "l13_world.go:23", after := #[{ on := 10, ground := Ground.data }], guard := none }) (v := ?_) rfl (by kernel_rfl) (by kernel_rfl) (by kernel_rfl) (fun _ _ _ h => h) (Or.inl ⟨by rfl, ?_⟩) hS ?_
          rotate_left
          · intro y hSy; obtain ⟨yl, yb, y0, y1, y2, y3, y4, y5, y6, y7, y8, y9, y10, y11, y12, y13⟩ := hSy; go_simp; try with_reducible rfl
          simp only [Act.put, List.setIfInBounds_toArray, List.set_cons_succ, List.set_cons_zero]
          refine wpAnyH_take (i := 12) (oi := { dst := some 24, op := Op.move (Operand.tmp 23), type := 4, pos := "l13_world.go:23", after := #[{ on := 11, ground := Ground.data }, { on := 10, ground := Ground.chain }], guard := none }) (v := ?_) rfl (by kernel_rfl) (by kernel_rfl) (by kernel_rfl) (fun _ _ _ h => h) (Or.inl ⟨by rfl, ?_⟩) hS ?_
          rotate_left
          · intro y hSy; obtain ⟨yl, yb, y0, y1, y2, y3, y4, y5, y6, y7, y8, y9, y10, y11, y12, y13⟩ := hSy; go_simp; try with_reducible rfl
          simp only [Act.put, List.setIfInBounds_toArray, List.set_cons_succ, List.set_cons_zero]
          refine wpAnyH_take (i := 13) (oi := { dst := some 25, op := Op.fieldAddr 40 (Operand.tmp 1) 8, type := 0, pos := "l13_world.go:23", after := #[{ on := 12, ground := Ground.guard }], guard := some (12, false) }) (v := ?_) rfl (by kernel_rfl) (by kernel_rfl) (by kernel_rfl) (fun _ _ _ h => h) (Or.inl ⟨by rfl, ?_⟩) hS ?_
          rotate_left
          · intro y hSy; obtain ⟨yl, yb, y0, y1, y2, y3, y4, y5, y6, y7, y8, y9, y10, y11, y12, y13⟩ := hSy; go_simp; try with_reducible rfl
          simp only [Act.put, List.setIfInBounds_toArray, List.set_cons_succ, List.set_cons_zero]
          refine wpAnyH_take (i := 14) (oi := { dst := some 26, op := Op.load 37 (Operand.tmp 25), type := 37, pos := "l13_world.go:23", after := #[{ on := 13, ground := Ground.data }, { on := 12, ground := Ground.guard }], guard := some (12, false) }) (v := ?_) rfl (by kernel_rfl) (by kernel_rfl) (by kernel_rfl) (fun _ _ _ h => h) (Or.inl ⟨by rfl, ?_⟩) hS ?_
          rotate_left
          · intro y hSy; obtain ⟨yl, yb, y0, y1, y2, y3, y4, y5, y6, y7, y8, y9, y10, y11, y12, y13⟩ := hSy; go_simp; try with_reducible rfl
          simp only [Act.put, List.setIfInBounds_toArray, List.set_cons_succ, List.set_cons_zero]
          refine wpAnyH_take (i := 15) (oi := { dst := some 27, op := Op.move (Operand.tmp 3), type := 3, pos := "l13_world.go:23", after := #[{ on := 12, ground := Ground.guard }], guard := some (12, false) }) (v := ?_) rfl (by kernel_rfl) (by kernel_rfl) (by kernel_rfl) (fun _ _ _ h => h) (Or.inl ⟨by rfl, ?_⟩) hS ?_
          rotate_left
          · intro y hSy; obtain ⟨yl, yb, y0, y1, y2, y3, y4, y5, y6, y7, y8, y9, y10, y11, y12, y13⟩ := hSy; go_simp; try with_reducible rfl
          simp only [Act.put, List.setIfInBounds_toArray, List.set_cons_succ, List.set_cons_zero]
          refine wpAnyH_take (i := 16) (oi := { dst := some 28, op := Op.indexAddr 37 (Operand.tmp 26) (Operand.tmp 27), type := 0, pos := "l13_world.go:23", after := #[{ on := 14, ground := Ground.data }, { on := 15, ground := Ground.data }, { on := 12, ground := Ground.guard }], guard := some (12, false) }) (v := ?_) rfl (by kernel_rfl) (by kernel_rfl) (by kernel_rfl) (fun _ _ _ h => h) (Or.inl ⟨by rfl, ?_⟩) hS ?_
          rotate_left
          · intro y hSy; obtain ⟨yl, yb, y0, y1, y2, y3, y4, y5, y6, y7, y8, y9, y10, y11, y12, y13⟩ := hSy; go_simp; try with_reducible rfl
          simp only [Act.put, List.setIfInBounds_toArray, List.set_cons_succ, List.set_cons_zero]
          refine wpAnyH_take (i := 17) (oi := { dst := some 29, op := Op.fieldAddr 112 (Operand.tmp 28) 1, type := 0, pos := "l13_world.go:23", after := #[{ on := 16, ground := Ground.data }, { on := 12, ground := Ground.guard }], guard := some (12, false) }) (v := ?_) rfl (by kernel_rfl) (by kernel_rfl) (by kernel_rfl) (fun _ _ _ h => h) (Or.inl ⟨by rfl, ?_⟩) hS ?_
          rotate_left
          · intro y hSy; obtain ⟨yl, yb, y0, y1, y2, y3, y4, y5, y6, y7, y8, y9, y10, y11, y12, y13⟩ := hSy; go_simp; try with_reducible rfl
          simp only [Act.put, List.setIfInBounds_toArray, List.set_cons_succ, List.set_cons_zero]
          refine wpAnyH_take (i := 18) (oi := { dst := some 30, op := Op.load 110 (Operand.tmp 29), type := 110, pos := "l13_world.go:23", after := #[{ on := 17, ground := Ground.data }, { on := 12, ground := Ground.guard }], guard := some (12, false) }) (v := ?_) rfl (by kernel_rfl) (by kernel_rfl) (by kernel_rfl) (fun _ _ _ h => h) (Or.inl ⟨by rfl, ?_⟩) hS ?_
          rotate_left
          · intro y hSy; obtain ⟨yl, yb, y0, y1, y2, y3, y4, y5, y6, y7, y8, y9, y10, y11, y12, y13⟩ := hSy; go_simp; try with_reducible rfl
          simp only [Act.put, List.setIfInBounds_toArray, List.set_cons_succ, List.set_cons_zero]
          refine wpAnyH_all (rs := [19]) (by kernel_rfl) (by simp) ?_
          intro i hi
          simp only [List.mem_singleton] at hi
          subst hi
          refine step_callG (f := 78) (fn := Tryz.f78) (d := 31) (args := #[.agg #[.int .i64 x.c.st, .string x.c.h, .bool x.c.mu, .int .i64 x.c.ep, .int .i64 x.c.bo, .int .i64 op_1, .int .i64 n_1, .string s_1, .slice a_1 len_1 cap_1, .int .i64 x.c.i, .int .i64 x.c.o, .bool x.c.tl, .bool x.c.pr]]) rfl (by rfl) Tryz.func78 (by kernel_rfl) (by kernel_rfl) (by simp [Act.eval]) ?_
          refine (unhide HC).mono ?_
          rintro e w3 ⟨rfl, hb3⟩
          refine ⟨_, rfl, ?_⟩
          have hS3 : (fun y : World => y.cell? ⟨w.heap.size, 8, none⟩ = some (.slice (some ⟨b, o, none⟩) X.calls.length ca) ∧ y.cell? ⟨w.heap.size, 5, none⟩ = some (.slice al X.letters.length cl) ∧ y.cell? ⟨b, o + k * 15, none⟩ = some (.int .i64 x.k) ∧ y.cell? ⟨b, o + k * 15 + 1, none⟩ = some (.int .i64 x.c.st) ∧ y.cell? ⟨b, o + k * 15 + 2, none⟩ = some (.string x.c.h) ∧ y.cell? ⟨b, o + k * 15 + 3, none⟩ = some (.bool x.c.mu) ∧ y.cell? ⟨b, o + k * 15 + 4, none⟩ = some (.int .i64 x.c.ep) ∧ y.cell? ⟨b, o + k * 15 + 5, none⟩ = some (.int .i64 x.c.bo) ∧ y.cell? ⟨b, o + k * 15 + 6, none⟩ = some (.int .i64 op_1) ∧ y.cell? ⟨b, o + k * 15 + 7, none⟩ = some (.int .i64 n_1) ∧ y.cell? ⟨b, o + k * 15 + 8, none⟩ = some (.string s_1) ∧ y.cell? ⟨b, o + k * 15 + 9, none⟩ = some (.slice a_1 len_1 cap_1) ∧ y.cell? ⟨b, o + k * 15 + 10, none⟩ = some (.int .i64 x.c.i) ∧ y.cell? ⟨b, o + k * 15 + 11, none⟩ = some (.int .i64 x.c.o) ∧ y.cell? ⟨b, o + k * 15 + 12, none⟩ = some (.bool x.c.tl) ∧ y.cell? ⟨b, o + k * 15 + 13, none⟩ = some (.bool x.c.pr)) w3 := ⟨below_some (below_drewG hb3) c8p, below_some (below_drewG hb3) c5p, below_some (below_drewG hb3) d0, below_some (below_drewG hb3) d1, below_some (below_drewG hb3) d2, below_some (below_drewG hb3) d3, below_some (below_drewG hb3) d4, below_some (below_drewG hb3) d5, below_some (below_drewG hb3) d6, below_some (below_drewG hb3) d7, below_some (below_drewG hb3) d8, below_some (below_drewG hb3) d9, below_some (below_drewG hb3) d10, below_some (below_drewG hb3) d11, below_some (below_drewG hb3) d12, below_some (below_drewG hb3) d13⟩
          have HB3 := hide (btG (unhide HBrp) (below_drewG hb3))
          clear hb3 hS
          refine ⟨hS3, ?_⟩
          simp only [Act.put, List.setIfInBounds_toArray, List.set_cons_succ, List.set_cons_zero]
          refine wpAnyH_take (i := 20) (oi := { dst := some 32, op := Op.unOp UnOp.not 4 (Operand.tmp 31), type := 4, pos := "l13_world.go:23", after := #[{ on := 19, ground := Ground.data }, { on := 12, ground := Ground.guard }], guard := some (12, false) }) (v := ?_) rfl (by kernel_rfl) (by kernel_rfl) (by kernel_rfl) (fun _ _ _ h => h) (Or.inl ⟨by rfl, ?_⟩) hS3 ?_
          rotate_left
          · intro y hSy; obtain ⟨yl, yb, y0, y1, y2, y3, y4, y5, y6, y7, y8, y9, y10, y11, y12, y13⟩ := hSy; go_simp; try with_reducible rfl
          simp only [Act.put, List.setIfInBounds_toArray, List.set_cons_succ, List.set_cons_zero]
          refine wpAnyH_take (i := 21) (oi := { dst := some 33, op := Op.pick (Operand.tmp 24) (Operand.const (Value.bool true)) (Operand.tmp 32), type := 4, pos := "l13_world.go:23", after := #[{ on := 12, ground := Ground.data }, { on := 20, ground := Ground.data }], guard := none }) (v := ?_) rfl (by kernel_rfl) (by kernel_rfl) (by kernel_rfl) (fun _ _ _ h => h) (Or.inl ⟨by rfl, ?_⟩) hS3 ?_
          rotate_left
          · intro y hSy; obtain ⟨yl, yb, y0, y1, y2, y3, y4, y5, y6, y7, y8, y9, y10, y11, y12, y13⟩ := hSy; go_simp; try with_reducible rfl
          simp only [Act.put, List.setIfInBounds_toArray, List.set_cons_succ, List.set_cons_zero]
          refine wpAnyH_done (by kernel_rfl) ?_ _
          all_goals
            go_wp2_with fail
            go_ret
            exact ⟨retB (unhide HE), btG (abG _) (unhide HB3)⟩
        | true =>
          have HE := unhide HM (by rw [unhide HG]; rfl)
          have HE2 := hide HE
          clear HE
          go_wp2_with fail
          refine wp_region_held (S := fun y => y.cell? ⟨w.heap.size, 8, none⟩ = some (.slice (some ⟨b, o, none⟩) X.calls.length ca) ∧ y.cell? ⟨w.heap.size, 5, none⟩ = some (.slice al X.letters.length cl) ∧ y.cell? ⟨b, o + k * 15, none⟩ = some (.int .i64 x.k) ∧ y.cell? ⟨b, o + k * 15 + 1, none⟩ = some (.int .i64 x.c.st) ∧ y.cell? ⟨b, o + k * 15 + 2, none⟩ = some (.string x.c.h) ∧ y.cell? ⟨b, o + k * 15 + 3, none⟩ = some (.bool x.c.mu) ∧ y.cell? ⟨b, o + k * 15 + 4, none⟩ = some (.int .i64 x.c.ep) ∧ y.cell? ⟨b, o + k * 15 + 5, none⟩ = some (.int .i64 x.c.bo) ∧ y.cell? ⟨b, o + k * 15 + 6, none⟩ = some (.int .i64 op_1) ∧ y.cell? ⟨b, o + k * 15 + 7, none⟩ = some (.int .i64 n_1) ∧ y.cell? ⟨b, o + k * 15 + 8, none⟩ = some (.string s_1) ∧ y.cell? ⟨b, o + k * 15 + 9, none⟩ = some (.slice a_1 len_1 cap_1) ∧ y.cell? ⟨b, o + k * 15 + 10, none⟩ = some (.int .i64 x.c.i) ∧ y.cell? ⟨b, o + k * 15 + 11, none⟩ = some (.int .i64 x.c.o) ∧ y.cell? ⟨b, o + k * 15 + 12, none⟩ = some (.bool x.c.tl) ∧ y.cell? ⟨b, o + k * 15 + 13, none⟩ = some (.bool x.c.pr)) Tryz.mixedO ?_
          have hS : (fun y : World => y.cell? ⟨w.heap.size, 8, none⟩ = some (.slice (some ⟨b, o, none⟩) X.calls.length ca) ∧ y.cell? ⟨w.heap.size, 5, none⟩ = some (.slice al X.letters.length cl) ∧ y.cell? ⟨b, o + k * 15, none⟩ = some (.int .i64 x.k) ∧ y.cell? ⟨b, o + k * 15 + 1, none⟩ = some (.int .i64 x.c.st) ∧ y.cell? ⟨b, o + k * 15 + 2, none⟩ = some (.string x.c.h) ∧ y.cell? ⟨b, o + k * 15 + 3, none⟩ = some (.bool x.c.mu) ∧ y.cell? ⟨b, o + k * 15 + 4, none⟩ = some (.int .i64 x.c.ep) ∧ y.cell? ⟨b, o + k * 15 + 5, none⟩ = some (.int .i64 x.c.bo) ∧ y.cell? ⟨b, o + k * 15 + 6, none⟩ = some (.int .i64 op_1) ∧ y.cell? ⟨b, o + k * 15 + 7, none⟩ = some (.int .i64 n_1) ∧ y.cell? ⟨b, o + k * 15 + 8, none⟩ = some (.string s_1) ∧ y.cell? ⟨b, o + k * 15 + 9, none⟩ = some (.slice a_1 len_1 cap_1) ∧ y.cell? ⟨b, o + k * 15 + 10, none⟩ = some (.int .i64 x.c.i) ∧ y.cell? ⟨b, o + k * 15 + 11, none⟩ = some (.int .i64 x.c.o) ∧ y.cell? ⟨b, o + k * 15 + 12, none⟩ = some (.bool x.c.tl) ∧ y.cell? ⟨b, o + k * 15 + 13, none⟩ = some (.bool x.c.pr)) wr.drew := ⟨c8p, c5p, d0, d1, d2, d3, d4, d5, d6, d7, d8, d9, d10, d11, d12, d13⟩
          show wpAnyH _ _ _ _ _ _ _ _ wr.drew
          refine wpAnyH_take (i := 0) (oi := { dst := some 12, op := Op.fieldAddr 40 (Operand.tmp 1) 8, type := 0, pos := "l13_world.go:23", after := #[], guard := none }) (v := ?_) rfl (by kernel_rfl) (by kernel_rfl) (by kernel_rfl) (fun _ _ _ h => h) (Or.inl ⟨by rfl, ?_⟩) hS ?_
          rotate_left
          · intro y hSy; obtain ⟨yl, yb, y0, y1, y2, y3, y4, y5, y6, y7, y8, y9, y10, y11, y12, y13⟩ := hSy; go_simp; try with_reducible rfl
          simp only [Act.put, List.setIfInBounds_toArray, List.set_cons_succ, List.set_cons_zero]
          refine wpAnyH_take (i := 1) (oi := { dst := some 13, op := Op.load 37 (Operand.tmp 12), type := 37, pos := "l13_world.go:23", after := #[{ on := 0, ground := Ground.data }], guard := none }) (v := ?_) rfl (by kernel_rfl) (by kernel_rfl) (by kernel_rfl) (fun _ _ _ h => h) (Or.inl ⟨by rfl, ?_⟩) hS ?_
          rotate_left
          · intro y hSy; obtain ⟨yl, yb, y0, y1, y2, y3, y4, y5, y6, y7, y8, y9, y10, y11, y12, y13⟩ := hSy; go_simp; try with_reducible rfl
          simp only [Act.put, List.setIfInBounds_toArray, List.set_cons_succ, List.set_cons_zero]
          refine wpAnyH_take (i := 2) (oi := { dst := some 14, op := Op.move (Operand.tmp 3), type := 3, pos := "l13_world.go:23", after := #[], guard := none }) (v := ?_) rfl (by kernel_rfl) (by kernel_rfl) (by kernel_rfl) (fun _ _ _ h => h) (Or.inl ⟨by rfl, ?_⟩) hS ?_
          rotate_left
          · intro y hSy; obtain ⟨yl, yb, y0, y1, y2, y3, y4, y5, y6, y7, y8, y9, y10, y11, y12, y13⟩ := hSy; go_simp; try with_reducible rfl
          simp only [Act.put, List.setIfInBounds_toArray, List.set_cons_succ, List.set_cons_zero]
          refine wpAnyH_take (i := 3) (oi := { dst := some 15, op := Op.indexAddr 37 (Operand.tmp 13) (Operand.tmp 14), type := 0, pos := "l13_world.go:23", after := #[{ on := 1, ground := Ground.data }, { on := 2, ground := Ground.data }], guard := none }) (v := ?_) rfl (by kernel_rfl) (by kernel_rfl) (by kernel_rfl) (fun _ _ _ h => h) (Or.inl ⟨by rfl, ?_⟩) hS ?_
          rotate_left
          · intro y hSy; obtain ⟨yl, yb, y0, y1, y2, y3, y4, y5, y6, y7, y8, y9, y10, y11, y12, y13⟩ := hSy; go_simp; try with_reducible rfl
          simp only [Act.put, List.setIfInBounds_toArray, List.set_cons_succ, List.set_cons_zero]
          refine wpAnyH_take (i := 4) (oi := { dst := some 16, op := Op.fieldAddr 112 (Operand.tmp 15) 0, type := 0, pos := "l13_world.go:23", after := #[{ on := 3, ground := Ground.data }], guard := none }) (v := ?_) rfl (by kernel_rfl) (by kernel_rfl) (by kernel_rfl) (fun _ _ _ h => h) (Or.inl ⟨by rfl, ?_⟩) hS ?_
          rotate_left
          · intro y hSy; obtain ⟨yl, yb, y0, y1, y2, y3, y4, y5, y6, y7, y8, y9, y10, y11, y12, y13⟩ := hSy; go_simp; try with_reducible rfl
          simp only [Act.put, List.setIfInBounds_toArray, List.set_cons_succ, List.set_cons_zero]
          refine wpAnyH_take (i := 5) (oi := { dst := some 17, op := Op.load 3 (Operand.tmp 16), type := 3, pos := "l13_world.go:23", after := #[{ on := 4, ground := Ground.data }], guard := none }) (v := ?_) rfl (by kernel_rfl) (by kernel_rfl) (by kernel_rfl) (fun _ _ _ h => h) (Or.inl ⟨by rfl, ?_⟩) hS ?_
          rotate_left
          · intro y hSy; obtain ⟨yl, yb, y0, y1, y2, y3, y4, y5, y6, y7, y8, y9, y10, y11, y12, y13⟩ := hSy; go_simp; try with_reducible rfl
          simp only [Act.put, List.setIfInBounds_toArray, List.set_cons_succ, List.set_cons_zero]
          refine wpAnyH_take (i := 6) (oi := { dst := some 18, op := Op.fieldAddr 40 (Operand.tmp 1) 5, type := 0, pos := "l13_world.go:23", after := #[], guard := none }) (v := ?_) rfl (by kernel_rfl) (by kernel_rfl) (by kernel_rfl) (fun _ _ _ h => h) (Or.inl ⟨by rfl, ?_⟩) hS ?_
          rotate_left
          · intro y hSy; obtain ⟨yl, yb, y0, y1, y2, y3, y4, y5, y6, y7, y8, y9, y10, y11, y12, y13⟩ := hSy; go_simp; try with_reducible rfl
          simp only [Act.put, List.setIfInBounds_toArray, List.set_cons_succ, List.set_cons_zero]
          refine wpAnyH_take (i := 7) (oi := { dst := some 19, op := Op.load 36 (Operand.tmp 18), type := 36, pos := "l13_world.go:23", after := #[{ on := 6, ground := Ground.data }], guard := none }) (v := ?_) rfl (by kernel_rfl) (by kernel_rfl) (by kernel_rfl) (fun _ _ _ h => h) (Or.inl ⟨by rfl, ?_⟩) hS ?_
          rotate_left
          · intro y hSy; obtain ⟨yl, yb, y0, y1, y2, y3, y4, y5, y6, y7, y8, y9, y10, y11, y12, y13⟩ := hSy; go_simp; try with_reducible rfl
          simp only [Act.put, List.setIfInBounds_toArray, List.set_cons_succ, List.set_cons_zero]
          refine wpAnyH_take (i := 8) (oi := { dst := some 20, op := Op.call { callee := Callee.builtin Builtin.len, args := #[Operand.tmp 19], argTypes := #[36] }, type := 3, pos := "l13_world.go:23", after := #[{ on := 7, ground := Ground.data }], guard := none }) (v := ?_) rfl (by kernel_rfl) (by kernel_rfl) (by kernel_rfl) (fun _ _ _ h => h) (Or.inl ⟨by rfl, ?_⟩) hS ?_
          rotate_left
          · intro y hSy; obtain ⟨yl, yb, y0, y1, y2, y3, y4, y5, y6, y7, y8, y9, y10, y11, y12, y13⟩ := hSy; go_simp; try with_reducible rfl
          simp only [Act.put, List.setIfInBounds_toArray, List.set_cons_succ, List.set_cons_zero]
          refine wpAnyH_take (i := 9) (oi := { dst := some 21, op := Op.binOp BinOp.sub 3 (Operand.tmp 20) (Operand.const (Value.int IntKind.i64 1)) 3, type := 3, pos := "l13_world.go:23", after := #[{ on := 8, ground := Ground.data }], guard := none }) (v := ?_) rfl (by kernel_rfl) (by kernel_rfl) (by kernel_rfl) (fun _ _ _ h => h) (Or.inl ⟨by rfl, ?_⟩) hS ?_
          rotate_left
          · intro y hSy; obtain ⟨yl, yb, y0, y1, y2, y3, y4, y5, y6, y7, y8, y9, y10, y11, y12, y13⟩ := hSy; go_simp; try with_reducible rfl
          simp only [Act.put, List.setIfInBounds_toArray, List.set_cons_succ, List.set_cons_zero]
          refine wpAnyH_all (rs := [10]) (by kernel_rfl) (by simp) ?_
          intro i hi
          simp only [List.mem_singleton] at hi
          subst hi
          refine step_call (f := 42) (fn := Tryz.f42) (d := 22) (args := #[.int .i64 x.k, .int .i64 0, .int .i64 ((X.letters.length : Int) - 1)]) rfl Tryz.func42 (by kernel_rfl) (by kernel_rfl) (by simp [Act.eval]) ?_
          refine (unhide HI _).mono ?_
          rintro e w2 ⟨rfl, rfl⟩
          refine ⟨_, rfl, ?_⟩
          refine ⟨hS, ?_⟩
          simp only [Act.put, List.setIfInBounds_toArray, List.set_cons_succ, List.set_cons_zero]
          refine wpAnyH_take (i := 11) (oi := { dst := some 23, op := Op.unOp UnOp.not 4 (Operand.tmp 22), type := 4, pos := "l13_world.go:23", after := #[{ on := 10, ground := Ground.data }], guard := none }) (v := ?_) rfl (by kernel_rfl) (by kernel_rfl) (by kernel_rfl) (fun _ _ _ h => h) (Or.inl ⟨by rfl, ?_⟩) hS ?_
          rotate_left
          · intro y hSy; obtain ⟨yl, yb, y0, y1, y2, y3, y4, y5, y6, y7, y8, y9, y10, y11, y12, y13⟩ := hSy; go_simp; try with_reducible rfl
          simp only [Act.put, List.setIfInBounds_toArray, List.set_cons_succ, List.set_cons_zero]
          refine wpAnyH_take (i := 12) (oi := { dst := some 24, op := Op.move (Operand.tmp 23), type := 4, pos := "l13_world.go:23", after := #[{ on := 11, ground := Ground.data }, { on := 10, ground := Ground.chain }], guard := none }) (v := ?_) rfl (by kernel_rfl) (by kernel_rfl) (by kernel_rfl) (fun _ _ _ h => h) (Or.inl ⟨by rfl, ?_⟩) hS ?_
          rotate_left
          · intro y hSy; obtain ⟨yl, yb, y0, y1, y2, y3, y4, y5, y6, y7, y8, y9, y10, y11, y12, y13⟩ := hSy; go_simp; try with_reducible rfl
          simp only [Act.put, List.setIfInBounds_toArray, List.set_cons_succ, List.set_cons_zero]
          refine wpAnyH_take (i := 13) (oi := { dst := some 25, op := Op.fieldAddr 40 (Operand.tmp 1) 8, type := 0, pos := "l13_world.go:23", after := #[{ on := 12, ground := Ground.guard }], guard := some (12, false) }) (v := ?_) rfl (by kernel_rfl) (by kernel_rfl) (by kernel_rfl) (fun _ _ _ h => h) (Or.inl ⟨by rfl, ?_⟩) hS ?_
          rotate_left
          · intro y hSy; obtain ⟨yl, yb, y0, y1, y2, y3, y4, y5, y6, y7, y8, y9, y10, y11, y12, y13⟩ := hSy; go_simp; try with_reducible rfl
          simp only [Act.put, List.setIfInBounds_toArray, List.set_cons_succ, List.set_cons_zero]
          refine wpAnyH_take (i := 14) (oi := { dst := some 26, op := Op.load 37 (Operand.tmp 25), type := 37, pos := "l13_world.go:23", after := #[{ on := 13, ground := Ground.data }, { on := 12, ground := Ground.guard }], guard := some (12, false) }) (v := ?_) rfl (by kernel_rfl) (by kernel_rfl) (by kernel_rfl) (fun _ _ _ h => h) (Or.inl ⟨by rfl, ?_⟩) hS ?_
          rotate_left
          · intro y hSy; obtain ⟨yl, yb, y0, y1, y2, y3, y4, y5, y6, y7, y8, y9, y10, y11, y12, y13⟩ := hSy; go_simp; try with_reducible rfl
          simp only [Act.put, List.setIfInBounds_toArray, List.set_cons_succ, List.set_cons_zero]
          refine wpAnyH_take (i := 15) (oi := { dst := some 27, op := Op.move (Operand.tmp 3), type := 3, pos := "l13_world.go:23", after := #[{ on := 12, ground := Ground.guard }], guard := some (12, false) }) (v := ?_) rfl (by kernel_rfl) (by kernel_rfl) (by kernel_rfl) (fun _ _ _ h => h) (Or.inl ⟨by rfl, ?_⟩) hS ?_
          rotate_left
          · intro y hSy; obtain ⟨yl, yb, y0, y1, y2, y3, y4, y5, y6, y7, y8, y9, y10, y11, y12, y13⟩ := hSy; go_simp; try with_reducible rfl
          simp only [Act.put, List.setIfInBounds_toArray, List.set_cons_succ, List.set_cons_zero]
          refine wpAnyH_take (i := 16) (oi := { dst := some 28, op := Op.indexAddr 37 (Operand.tmp 26) (Operand.tmp 27), type := 0, pos := "l13_world.go:23", after := #[{ on := 14, ground := Ground.data }, { on := 15, ground := Ground.data }, { on := 12, ground := Ground.guard }], guard := some (12, false) }) (v := ?_) rfl (by kernel_rfl) (by kernel_rfl) (by kernel_rfl) (fun _ _ _ h => h) (Or.inl ⟨by rfl, ?_⟩) hS ?_
          rotate_left
          · intro y hSy; obtain ⟨yl, yb, y0, y1, y2, y3, y4, y5, y6, y7, y8, y9, y10, y11, y12, y13⟩ := hSy; go_simp; try with_reducible rfl
          simp only [Act.put, List.setIfInBounds_toArray, List.set_cons_succ, List.set_cons_zero]
          refine wpAnyH_take (i := 17) (oi := { dst := some 29, op := Op.fieldAddr 112 (Operand.tmp 28) 1, type := 0, pos := "l13_world.go:23", after := #[{ on := 16, ground := Ground.data }, { on := 12, ground := Ground.guard }], guard := some (12, false) }) (v := ?_) rfl (by kernel_rfl) (by kernel_rfl) (by kernel_rfl) (fun _ _ _ h => h) (Or.inl ⟨by rfl, ?_⟩) hS ?_
          rotate_left
          · intro y hSy; obtain ⟨yl, yb, y0, y1, y2, y3, y4, y5, y6, y7, y8, y9, y10, y11, y12, y13⟩ := hSy; go_simp; try with_reducible rfl
          simp only [Act.put, List.setIfInBounds_toArray, List.set_cons_succ, List.set_cons_zero]
          refine wpAnyH_take (i := 18) (oi := { dst := some 30, op := Op.load 110 (Operand.tmp 29), type := 110, pos := "l13_world.go:23", after := #[{ on := 17, ground := Ground.data }, { on := 12, ground := Ground.guard }], guard := some (12, false) }) (v := ?_) rfl (by kernel_rfl) (by kernel_rfl) (by kernel_rfl) (fun _ _ _ h => h) (Or.inl ⟨by rfl, ?_⟩) hS ?_
          rotate_left
          · intro y hSy; obtain ⟨yl, yb, y0, y1, y2, y3, y4, y5, y6, y7, y8, y9, y10, y11, y12, y13⟩ := hSy; go_simp; try with_reducible rfl
          simp only [Act.put, List.setIfInBounds_toArray, List.set_cons_succ, List.set_cons_zero]
          refine wpAnyH_all (rs := [19]) (by kernel_rfl) (by simp) ?_
          intro i hi
          simp only [List.mem_singleton] at hi
          subst hi
          refine step_callG (f := 78) (fn := Tryz.f78) (d := 31) (args := #[.agg #[.int .i64 x.c.st, .string x.c.h, .bool x.c.mu, .int .i64 x.c.ep, .int .i64 x.c.bo, .int .i64 op_1, .int .i64 n_1, .string s_1, .slice a_1 len_1 cap_1, .int .i64 x.c.i, .int .i64 x.c.o, .bool x.c.tl, .bool x.c.pr]]) rfl (by rfl) Tryz.func78 (by kernel_rfl) (by kernel_rfl) (by simp [Act.eval]) ?_
          refine (unhide HC).mono ?_
          rintro e w3 ⟨rfl, hb3⟩
          refine ⟨_, rfl, ?_⟩
          have hS3 : (fun y : World => y.cell? ⟨w.heap.size, 8, none⟩ = some (.slice (some ⟨b, o, none⟩) X.calls.length ca) ∧ y.cell? ⟨w.heap.size, 5, none⟩ = some (.slice al X.letters.length cl) ∧ y.cell? ⟨b, o + k * 15, none⟩ = some (.int .i64 x.k) ∧ y.cell? ⟨b, o + k * 15 + 1, none⟩ = some (.int .i64 x.c.st) ∧ y.cell? ⟨b, o + k * 15 + 2, none⟩ = some (.string x.c.h) ∧ y.cell? ⟨b, o + k * 15 + 3, none⟩ = some (.bool x.c.mu) ∧ y.cell? ⟨b, o + k * 15 + 4, none⟩ = some (.int .i64 x.c.ep) ∧ y.cell? ⟨b, o + k * 15 + 5, none⟩ = some (.int .i64 x.c.bo) ∧ y.cell? ⟨b, o + k * 15 + 6, none⟩ = some (.int .i64 op_1) ∧ y.cell? ⟨b, o + k * 15 + 7, none⟩ = some (.int .i64 n_1) ∧ y.cell? ⟨b, o + k * 15 + 8, none⟩ = some (.string s_1) ∧ y.cell? ⟨b, o + k * 15 + 9, none⟩ = some (.slice a_1 len_1 cap_1) ∧ y.cell? ⟨b, o + k * 15 + 10, none⟩ = some (.int .i64 x.c.i) ∧ y.cell? ⟨b, o + k * 15 + 11, none⟩ = some (.int .i64 x.c.o) ∧ y.cell? ⟨b, o + k * 15 + 12, none⟩ = some (.bool x.c.tl) ∧ y.cell? ⟨b, o + k * 15 + 13, none⟩ = some (.bool x.c.pr)) w3 := ⟨below_some (below_drewG hb3) c8p, below_some (below_drewG hb3) c5p, below_some (below_drewG hb3) d0, below_some (below_drewG hb3) d1, below_some (below_drewG hb3) d2, below_some (below_drewG hb3) d3, below_some (below_drewG hb3) d4, below_some (below_drewG hb3) d5, below_some (below_drewG hb3) d6, below_some (below_drewG hb3) d7, below_some (below_drewG hb3) d8, below_some (below_drewG hb3) d9, below_some (below_drewG hb3) d10, below_some (below_drewG hb3) d11, below_some (below_drewG hb3) d12, below_some (below_drewG hb3) d13⟩
          have HB3 := hide (btG (unhide HBrp) (below_drewG hb3))
          clear hb3 hS
          refine ⟨hS3, ?_⟩
          simp only [Act.put, List.setIfInBounds_toArray, List.set_cons_succ, List.set_cons_zero]
          refine wpAnyH_take (i := 20) (oi := { dst := some 32, op := Op.unOp UnOp.not 4 (Operand.tmp 31), type := 4, pos := "l13_world.go:23", after := #[{ on := 19, ground := Ground.data }, { on := 12, ground := Ground.guard }], guard := some (12, false) }) (v := ?_) rfl (by kernel_rfl) (by kernel_rfl) (by kernel_rfl) (fun _ _ _ h => h) (Or.inl ⟨by rfl, ?_⟩) hS3 ?_
          rotate_left
          · intro y hSy; obtain ⟨yl, yb, y0, y1, y2, y3, y4, y5, y6, y7, y8, y9, y10, y11, y12, y13⟩ := hSy; go_simp; try with_reducible rfl
          simp only [Act.put, List.setIfInBounds_toArray, List.set_cons_succ, List.set_cons_zero]
          refine wpAnyH_take (i := 21) (oi := { dst := some 33, op := Op.pick (Operand.tmp 24) (Operand.const (Value.bool true)) (Operand.tmp 32), type := 4, pos := "l13_world.go:23", after := #[{ on := 12, ground := Ground.data }, { on := 20, ground := Ground.data }], guard := none }) (v := ?_) rfl (by kernel_rfl) (by kernel_rfl) (by kernel_rfl) (fun _ _ _ h => h) (Or.inl ⟨by rfl, ?_⟩) hS3 ?_
          rotate_left
          · intro y hSy; obtain ⟨yl, yb, y0, y1, y2, y3, y4, y5, y6, y7, y8, y9, y10, y11, y12, y13⟩ := hSy; go_simp; try with_reducible rfl
          simp only [Act.put, List.setIfInBounds_toArray, List.set_cons_succ, List.set_cons_zero]
          refine wpAnyH_done (by kernel_rfl) ?_ _
          all_goals
            go_wp2_with fail
            go_roundw
            case rel => exact ⟨k + 1, rfl, unhide HB3, by omega, unhide HE2⟩
            case measure => simp only [intOf]; omega
    · have c2p : ¬ (k : Int) < (X.calls.length : Int) := by omega
      have hkkp : k = X.calls.length := by omega
      have HAllp : Hid (X.calls.all (caOk X.letters.length) = true) := List.all_eq_true.2 fun x hx => by
        obtain ⟨j, hj⟩ := List.getElem?_of_mem hx
        exact unhide HAp j x (by have := (List.getElem?_eq_some_iff.1 hj).1; omega) hj
      clear hkkp
      have HX9 := hide ((unhide HXp).on (unhide HBrp))
      have HB9 := hide (btG (abG _) (unhide HBrp))
      obtain ⟨W1, hW1⟩ : ∃ W1, W1 = wr := ⟨_, rfl⟩
      have HXq : Hid (Box W1 w.heap.size 40 [.int .i64 X.time, .int .i64 X.fresh, .slice ak X.known.length ck, .slice ac X.cache.length cc, .slice ah X.hosts.length ch, .slice al X.letters.length cl, .string X.book, .int .i64 X.sure, .slice aa X.calls.length ca, .slice az X.talks.length cz, .slice ai X.told.length ci]) := by rw [hW1]; exact unhide HX9
      have HBW : Hid (Below w.heap.size w W1) := by rw [hW1]; exact unhide HB9
      rw [← hW1] at c8p c5p ⊢
      clear hW1 HX9 HB9 hbp HBrp HAp
      go_wp2_with fail
      go_loopw [4] (fun i wr => ∃ k : Nat, i = .int .i64 k ∧ Below W1.heap.size W1 wr ∧ k ≤ X.talks.length ∧ ∀ j x, j < k → X.talks[j]? = some x → taOk X.hosts.length x = true) (fun i _ => X.talks.length - (intOf i).toNat)
      case atStart => exact ⟨0, rfl, Below.refl _ _, by omega, fun j x hj => by omega⟩
      case round =>
        obtain ⟨k, rfl, hbq, hkq, ha⟩ := hrel
        have HBrq := hide hbq
        have HAq := hide ha
        clear ha
        have c9q : wr.cell? ⟨w.heap.size, 9, none⟩ = some (.slice az X.talks.length cz) := ((unhide HXq).on hbq).cell rfl
        have c4q : wr.cell? ⟨w.heap.size, 4, none⟩ = some (.slice ah X.hosts.length ch) := ((unhide HXq).on hbq).cell rfl
        by_cases hpq : k < X.talks.length
        · obtain ⟨x, hkx⟩ : ∃ x, X.talks[k]? = some x := ⟨_, List.getElem?_eq_getElem hpq⟩
          obtain ⟨b, o, cs, hba, -, -, HR0, HT2, -⟩ := ((unhide HYq).on (btG (unhide HBW) hbq)).get hkx
          subst hba
          obtain ⟨cc, rfl, hcc⟩ := HT2
          have hc0 := svK.on (w := wr) (L := 0) (x := x.s) hcc (Below.refl _ _).drew
          obtain ⟨-, -, op_1, n_1, s_1, a_1, len_1, cap_1, oq_1, m_1, r_1, c_1, lem_1, cat_1, g_1, gc_1, rfl, -⟩ := hcc
          have d0 : wr.cell? ⟨b, o + k * 17, none⟩ = some (.int .i64 x.k) := HR0 0 _ rfl
          have d1 : wr.cell? ⟨b, o + k * 17 + 1, none⟩ = some (.int .i64 x.s.st) := HR0 1 _ rfl
          have d2 : wr.cell? ⟨b, o + k * 17 + 2, none⟩ = some (.string x.s.h) := HR0 2 _ rfl
          have d3 : wr.cell? ⟨b, o + k * 17 + 3, none⟩ = some (.int .i64 x.s.ke) := HR0 3 _ rfl
          have d4 : wr.cell? ⟨b, o + k * 17 + 4, none⟩ = some (.int .i64 x.s.ep) := HR0 4 _ rfl
          have d5 : wr.cell? ⟨b, o + k * 17 + 5, none⟩ = some (.int .i64 op_1) := HR0 5 _ rfl
          have d6 : wr.cell? ⟨b, o + k * 17 + 6, none⟩ = some (.int .i64 n_1) := HR0 6 _ rfl
          have d7 : wr.cell? ⟨b, o + k * 17 + 7, none⟩ = some (.string s_1) := HR0 7 _ rfl
          have d8 : wr.cell? ⟨b, o + k * 17 + 8, none⟩ = some (.slice a_1 len_1 cap_1) := HR0 8 _ rfl
          have d9 : wr.cell? ⟨b, o + k * 17 + 9, none⟩ = some (.int .i64 oq_1) := HR0 9 _ rfl
          have d10 : wr.cell? ⟨b, o + k * 17 + 10, none⟩ = some (.int .i64 m_1) := HR0 10 _ rfl
          have d11 : wr.cell? ⟨b, o + k * 17 + 11, none⟩ = some (.string r_1) := HR0 11 _ rfl
          have d12 : wr.cell? ⟨b, o + k * 17 + 12, none⟩ = some (.slice c_1 lem_1 cat_1) := HR0 12 _ rfl
          have d13 : wr.cell? ⟨b, o + k * 17 + 13, none⟩ = some (.int .i64 x.s.i) := HR0 13 _ rfl
          have d14 : wr.cell? ⟨b, o + k * 17 + 14, none⟩ = some (.int .i64 x.s.o) := HR0 14 _ rfl
          have d15 : wr.cell? ⟨b, o + k * 17 + 15, none⟩ = some (.bool x.s.tl) := HR0 15 _ rfl
          have d16 : wr.cell? ⟨b, o + k * 17 + 16, none⟩ = some (.slice g_1 x.s.l.length gc_1) := HR0 16 _ rfl
          have HC := hide (svOkS x.s _ _ hc0 (by have := ws_get taw hkx; have := unhide HZq; have hq : taw x = svw x.s := rfl; omega))
          have HI := hide (fun v => in26 x.k 0 ((X.hosts.length : Int) - 1) v)
          have HG : Hid (taOk X.hosts.length x = (inB x.k 0 ((X.hosts.length : Int) - 1) && svOk x.s)) := rfl
          have HK := hide hkx
          have q2 : (k : Int) < (X.talks.length : Int) := by omega
          have q3 : (0 : Int) ≤ (k : Int) := by omega
          have w1 : wrap64 ((k : Int) + 1) = ((k + 1 : Nat) : Int) := by have := unhide HLNq; unfold wrap64; omega
          have q9 : (k : Int) < 1048577 := by have := unhide HLNq; omega
          have w2 : wrap64 ((X.hosts.length : Int) - 1) = (X.hosts.length : Int) - 1 := by have := unhide HLMq; unfold wrap64; omega
          have w3 : IntKind.i64.wrap ((X.hosts.length : Int) - 1) = (X.hosts.length : Int) - 1 := by have := unhide HLMq; exact IntWalk.i64_in _ ⟨by omega, by omega⟩
          clear hkx HR0 hbq hc0
          have HN : Hid (taOk X.hosts.length x = false → openB X = false) := fun hq => openB_talks (unhide HK) hq
          have HM : Hid (taOk X.hosts.length x = true → ∀ j y, j < k + 1 → X.talks[j]? = some y → taOk X.hosts.length y = true) := fun hx j y hj hy => by
            rcases Nat.lt_or_ge j k with q | q
            · exact unhide HAq j y q hy
            · obtain rfl : j = k := by omega
              rw [unhide HK] at hy
              cases hy
              exact hx
          generalize taOk X.hosts.length x = r at *
          generalize inB x.k 0 ((X.hosts.length : Int) - 1) = bi at *
          generalize svOk x.s = bk at *
          cases bi with
          | false =>
            have HE : Hid (openB X = false) := unhide HN (by rw [unhide HG]; rfl)
            go_wp2_with fail
            refine wp_region_held (S := fun y => y.cell? ⟨w.heap.size, 9, none⟩ = some (.slice (some ⟨b, o, none⟩) X.talks.length cz) ∧ y.cell? ⟨w.heap.size, 4, none⟩ = some (.slice ah X.hosts.length ch) ∧ y.cell? ⟨b, o + k * 17, none⟩ = some (.int .i64 x.k) ∧ y.cell? ⟨b, o + k * 17 + 1, none⟩ = some (.int .i64 x.s.st) ∧ y.cell? ⟨b, o + k * 17 + 2, none⟩ = some (.string x.s.h) ∧ y.cell? ⟨b, o + k * 17 + 3, none⟩ = some (.int .i64 x.s.ke) ∧ y.cell? ⟨b, o + k * 17 + 4, none⟩ = some (.int .i64 x.s.ep) ∧ y.cell? ⟨b, o + k * 17 + 5, none⟩ = some (.int .i64 op_1) ∧ y.cell? ⟨b, o + k * 17 + 6, none⟩ = some (.int .i64 n_1) ∧ y.cell? ⟨b, o + k * 17 + 7, none⟩ = some (.string s_1) ∧ y.cell? ⟨b, o + k * 17 + 8, none⟩ = some (.slice a_1 len_1 cap_1) ∧ y.cell? ⟨b, o + k * 17 + 9, none⟩ = some (.int .i64 oq_1) ∧ y.cell? ⟨b, o + k * 17 + 10, none⟩ = some (.int .i64 m_1) ∧ y.cell? ⟨b, o + k * 17 + 11, none⟩ = some (.string r_1) ∧ y.cell? ⟨b, o + k * 17 + 12, none⟩ = some (.slice c_1 lem_1 cat_1) ∧ y.cell? ⟨b, o + k * 17 + 13, none⟩ = some (.int .i64 x.s.i) ∧ y.cell? ⟨b, o + k * 17 + 14, none⟩ = some (.int .i64 x.s.o) ∧ y.cell? ⟨b, o + k * 17 + 15, none⟩ = some (.bool x.s.tl) ∧ y.cell? ⟨b, o + k * 17 + 16, none⟩ = some (.slice g_1 x.s.l.length gc_1)) Tryz.mixedO ?_
            have hS : (fun y : World => y.cell? ⟨w.heap.size, 9, none⟩ = some (.slice (some ⟨b, o, none⟩) X.talks.length cz) ∧ y.cell? ⟨w.heap.size, 4, none⟩ = some (.slice ah X.hosts.length ch) ∧ y.cell? ⟨b, o + k * 17, none⟩ = some (.int .i64 x.k) ∧ y.cell? ⟨b, o + k * 17 + 1, none⟩ = some (.int .i64 x.s.st) ∧ y.cell? ⟨b, o + k * 17 + 2, none⟩ = some (.string x.s.h) ∧ y.cell? ⟨b, o + k * 17 + 3, none⟩ = some (.int .i64 x.s.ke) ∧ y.cell? ⟨b, o + k * 17 + 4, none⟩ = some (.int .i64 x.s.ep) ∧ y.cell? ⟨b, o + k * 17 + 5, none⟩ = some (.int .i64 op_1) ∧ y.cell? ⟨b, o + k * 17 + 6, none⟩ = some (.int .i64 n_1) ∧ y.cell? ⟨b, o + k * 17 + 7, none⟩ = some (.string s_1) ∧ y.cell? ⟨b, o + k * 17 + 8, none⟩ = some (.slice a_1 len_1 cap_1) ∧ y.cell? ⟨b, o + k * 17 + 9, none⟩ = some (.int .i64 oq_1) ∧ y.cell? ⟨b, o + k * 17 + 10, none⟩ = some (.int .i64 m_1) ∧ y.cell? ⟨b, o + k * 17 + 11, none⟩ = some (.string r_1) ∧ y.cell? ⟨b, o + k * 17 + 12, none⟩ = some (.slice c_1 lem_1 cat_1) ∧ y.cell? ⟨b, o + k * 17 + 13, none⟩ = some (.int .i64 x.s.i) ∧ y.cell? ⟨b, o + k * 17 + 14, none⟩ = some (.int .i64 x.s.o) ∧ y.cell? ⟨b, o + k * 17 + 15, none⟩ = some (.bool x.s.tl) ∧ y.cell? ⟨b, o + k * 17 + 16, none⟩ = some (.slice g_1 x.s.l.length gc_1)) wr.drew := ⟨c9q, c4q, d0, d1, d2, d3, d4, d5, d6, d7, d8, d9, d10, d11, d12, d13, d14, d15, d16⟩
            show wpAnyH _ _ _ _ _ _ _ _ wr.drew
            refine wpAnyH_take (i := 0) (oi := { dst := some 41, op := Op.fieldAddr 40 (Operand.tmp 1) 9, type := 0, pos := "l13_world.go:28", after := #[], guard := none }) (v := ?_) rfl (by kernel_rfl) (by kernel_rfl) (by kernel_rfl) (fun _ _ _ h => h) (Or.inl ⟨by rfl, ?_⟩) hS ?_
            rotate_left
            · intro y hSy; obtain ⟨yl, yb, y0, y1, y2, y3, y4, y5, y6, y7, y8, y9, y10, y11, y12, y13, y14, y15, y16⟩ := hSy; go_simp; try with_reducible rfl
            simp only [Act.put, List.setIfInBounds_toArray, List.set_cons_succ, List.set_cons_zero]
            refine wpAnyH_take (i := 1) (oi := { dst := some 42, op := Op.load 38 (Operand.tmp 41), type := 38, pos := "l13_world.go:28", after := #[{ on := 0, ground := Ground.data }], guard := none }) (v := ?_) rfl (by kernel_rfl) (by kernel_rfl) (by kernel_rfl) (fun _ _ _ h => h) (Or.inl ⟨by rfl, ?_⟩) hS ?_
            rotate_left
            · intro y hSy; obtain ⟨yl, yb, y0, y1, y2, y3, y4, y5, y6, y7, y8, y9, y10, y11, y12, y13, y14, y15, y16⟩ := hSy; go_simp; try with_reducible rfl
            simp only [Act.put, List.setIfInBounds_toArray, List.set_cons_succ, List.set_cons_zero]
            refine wpAnyH_take (i := 2) (oi := { dst := some 43, op := Op.move (Operand.tmp 4), type := 3, pos := "l13_world.go:28", after := #[], guard := none }) (v := ?_) rfl (by kernel_rfl) (by kernel_rfl) (by kernel_rfl) (fun _ _ _ h => h) (Or.inl ⟨by rfl, ?_⟩) hS ?_
            rotate_left
            · intro y hSy; obtain ⟨yl, yb, y0, y1, y2, y3, y4, y5, y6, y7, y8, y9, y10, y11, y12, y13, y14, y15, y16⟩ := hSy; go_simp; try with_reducible rfl
            simp only [Act.put, List.setIfInBounds_toArray, List.set_cons_succ, List.set_cons_zero]
            refine wpAnyH_take (i := 3) (oi := { dst := some 44, op := Op.indexAddr 38 (Operand.tmp 42) (Operand.tmp 43), type := 0, pos := "l13_world.go:28", after := #[{ on := 1, ground := Ground.data }, { on := 2, ground := Ground.data }], guard := none }) (v := ?_) rfl (by kernel_rfl) (by kernel_rfl) (by kernel_rfl) (fun _ _ _ h => h) (Or.inl ⟨by rfl, ?_⟩) hS ?_
            rotate_left
            · intro y hSy; obtain ⟨yl, yb, y0, y1, y2, y3, y4, y5, y6, y7, y8, y9, y10, y11, y12, y13, y14, y15, y16⟩ := hSy; go_simp; try with_reducible rfl
            simp only [Act.put, List.setIfInBounds_toArray, List.set_cons_succ, List.set_cons_zero]
            refine wpAnyH_take (i := 4) (oi := { dst := some 45, op := Op.fieldAddr 117 (Operand.tmp 44) 0, type := 0, pos := "l13_world.go:28", after := #[{ on := 3, ground := Ground.data }], guard := none }) (v := ?_) rfl (by kernel_rfl) (by kernel_rfl) (by kernel_rfl) (fun _ _ _ h => h) (Or.inl ⟨by rfl, ?_⟩) hS ?_
            rotate_left
            · intro y hSy; obtain ⟨yl, yb, y0, y1, y2, y3, y4, y5, y6, y7, y8, y9, y10, y11, y12, y13, y14, y15, y16⟩ := hSy; go_simp; try with_reducible rfl
            simp only [Act.put, List.setIfInBounds_toArray, List.set_cons_succ, List.set_cons_zero]
            refine wpAnyH_take (i := 5) (oi := { dst := some 46, op := Op.load 3 (Operand.tmp 45), type := 3, pos := "l13_world.go:28", after := #[{ on := 4, ground := Ground.data }], guard := none }) (v := ?_) rfl (by kernel_rfl) (by kernel_rfl) (by kernel_rfl) (fun _ _ _ h => h) (Or.inl ⟨by rfl, ?_⟩) hS ?_
            rotate_left
            · intro y hSy; obtain ⟨yl, yb, y0, y1, y2, y3, y4, y5, y6, y7, y8, y9, y10, y11, y12, y13, y14, y15, y16⟩ := hSy; go_simp; try with_reducible rfl
            simp only [Act.put, List.setIfInBounds_toArray, List.set_cons_succ, List.set_cons_zero]
            refine wpAnyH_take (i := 6) (oi := { dst := some 47, op := Op.fieldAddr 40 (Operand.tmp 1) 4, type := 0, pos := "l13_world.go:28", after := #[], guard := none }) (v := ?_) rfl (by kernel_rfl) (by kernel_rfl) (by kernel_rfl) (fun _ _ _ h => h) (Or.inl ⟨by rfl, ?_⟩) hS ?_
            rotate_left
            · intro y hSy; obtain ⟨yl, yb, y0, y1, y2, y3, y4, y5, y6, y7, y8, y9, y10, y11, y12, y13, y14, y15, y16⟩ := hSy; go_simp; try with_reducible rfl
            simp only [Act.put, List.setIfInBounds_toArray, List.set_cons_succ, List.set_cons_zero]
            refine wpAnyH_take (i := 7) (oi := { dst := some 48, op := Op.load 35 (Operand.tmp 47), type := 35, pos := "l13_world.go:28", after := #[{ on := 6, ground := Ground.data }], guard := none }) (v := ?_) rfl (by kernel_rfl) (by kernel_rfl) (by kernel_rfl) (fun _ _ _ h => h) (Or.inl ⟨by rfl, ?_⟩) hS ?_
            rotate_left
            · intro y hSy; obtain ⟨yl, yb, y0, y1, y2, y3, y4, y5, y6, y7, y8, y9, y10, y11, y12, y13, y14, y15, y16⟩ := hSy; go_simp; try with_reducible rfl
            simp only [Act.put, List.setIfInBounds_toArray, List.set_cons_succ, List.set_cons_zero]
            refine wpAnyH_take (i := 8) (oi := { dst := some 49, op := Op.call { callee := Callee.builtin Builtin.len, args := #[Operand.tmp 48], argTypes := #[35] }, type := 3, pos := "l13_world.go:28", after := #[{ on := 7, ground := Ground.data }], guard := none }) (v := ?_) rfl (by kernel_rfl) (by kernel_rfl) (by kernel_rfl) (fun _ _ _ h => h) (Or.inl ⟨by rfl, ?_⟩) hS ?_
            rotate_left
            · intro y hSy; obtain ⟨yl, yb, y0, y1, y2, y3, y4, y5, y6, y7, y8, y9, y10, y11, y12, y13, y14, y15, y16⟩ := hSy; go_simp; try with_reducible rfl
            simp only [Act.put, List.setIfInBounds_toArray, List.set_cons_succ, List.set_cons_zero]
            refine wpAnyH_take (i := 9) (oi := { dst := some 50, op := Op.binOp BinOp.sub 3 (Operand.tmp 49) (Operand.const (Value.int IntKind.i64 1)) 3, type := 3, pos := "l13_world.go:28", after := #[{ on := 8, ground := Ground.data }], guard := none }) (v := ?_) rfl (by kernel_rfl) (by kernel_rfl) (by kernel_rfl) (fun _ _ _ h => h) (Or.inl ⟨by rfl, ?_⟩) hS ?_
            rotate_left
            · intro y hSy; obtain ⟨yl, yb, y0, y1, y2, y3, y4, y5, y6, y7, y8, y9, y10, y11, y12, y13, y14, y15, y16⟩ := hSy; go_simp; try with_reducible rfl
            simp only [Act.put, List.setIfInBounds_toArray, List.set_cons_succ, List.set_cons_zero]
            refine wpAnyH_all (rs := [10]) (by kernel_rfl) (by simp) ?_
            intro i hi
            simp only [List.mem_singleton] at hi
            subst hi
            refine step_call (f := 42) (fn := Tryz.f42) (d := 51) (args := #[.int .i64 x.k, .int .i64 0, .int .i64 ((X.hosts.length : Int) - 1)]) rfl Tryz.func42 (by kernel_rfl) (by kernel_rfl) (by simp [Act.eval]) ?_
            refine (unhide HI _).mono ?_
            rintro e w2 ⟨rfl, rfl⟩
            refine ⟨_, rfl, ?_⟩
            refine ⟨hS, ?_⟩
            simp only [Act.put, List.setIfInBounds_toArray, List.set_cons_succ, List.set_cons_zero]
            refine wpAnyH_take (i := 11) (oi := { dst := some 52, op := Op.unOp UnOp.not 4 (Operand.tmp 51), type := 4, pos := "l13_world.go:28", after := #[{ on := 10, ground := Ground.data }], guard := none }) (v := ?_) rfl (by kernel_rfl) (by kernel_rfl) (by kernel_rfl) (fun _ _ _ h => h) (Or.inl ⟨by rfl, ?_⟩) hS ?_
            rotate_left
            · intro y hSy; obtain ⟨yl, yb, y0, y1, y2, y3, y4, y5, y6, y7, y8, y9, y10, y11, y12, y13, y14, y15, y16⟩ := hSy; go_simp; try with_reducible rfl
            simp only [Act.put, List.setIfInBounds_toArray, List.set_cons_succ, List.set_cons_zero]
            refine wpAnyH_take (i := 12) (oi := { dst := some 53, op := Op.move (Operand.tmp 52), type := 4, pos := "l13_world.go:28", after := #[{ on := 11, ground := Ground.data }, { on := 10, ground := Ground.chain }], guard := none }) (v := ?_) rfl (by kernel_rfl) (by kernel_rfl) (by kernel_rfl) (fun _ _ _ h => h) (Or.inl ⟨by rfl, ?_⟩) hS ?_
            rotate_left
            · intro y hSy; obtain ⟨yl, yb, y0, y1, y2, y3, y4, y5, y6, y7, y8, y9, y10, y11, y12, y13, y14, y15, y16⟩ := hSy; go_simp; try with_reducible rfl
            simp only [Act.put, List.setIfInBounds_toArray, List.set_cons_succ, List.set_cons_zero]
            refine wpAnyH_take (i := 13) (oi := { dst := some 54, op := Op.fieldAddr 40 (Operand.tmp 1) 9, type := 0, pos := "l13_world.go:28", after := #[{ on := 12, ground := Ground.guard }], guard := some (12, false) }) (v := undef) rfl (by kernel_rfl) (by kernel_rfl) (by kernel_rfl) (fun _ _ _ h => h) (Or.inr ⟨by rfl, rfl⟩) hS ?_
            simp only [Act.put, List.setIfInBounds_toArray, List.set_cons_succ, List.set_cons_zero]
            refine wpAnyH_take (i := 14) (oi := { dst := some 55, op := Op.load 38 (Operand.tmp 54), type := 38, pos := "l13_world.go:28", after := #[{ on := 13, ground := Ground.data }, { on := 12, ground := Ground.guard }], guard := some (12, false) }) (v := undef) rfl (by kernel_rfl) (by kernel_rfl) (by kernel_rfl) (fun _ _ _ h => h) (Or.inr ⟨by rfl, rfl⟩) hS ?_
            simp only [Act.put, List.setIfInBounds_toArray, List.set_cons_succ, List.set_cons_zero]
            refine wpAnyH_take (i := 15) (oi := { dst := some 56, op := Op.move (Operand.tmp 4), type := 3, pos := "l13_world.go:28", after := #[{ on := 12, ground := Ground.guard }], guard := some (12, false) }) (v := undef) rfl (by kernel_rfl) (by kernel_rfl) (by kernel_rfl) (fun _ _ _ h => h) (Or.inr ⟨by rfl, rfl⟩) hS ?_
            simp only [Act.put, List.setIfInBounds_toArray, List.set_cons_succ, List.set_cons_zero]
            refine wpAnyH_take (i := 16) (oi := { dst := some 57, op := Op.indexAddr 38 (Operand.tmp 55) (Operand.tmp 56), type := 0, pos := "l13_world.go:28", after := #[{ on := 14, ground := Ground.data }, { on := 15, ground := Ground.data }, { on := 12, ground := Ground.guard }], guard := some (12, false) }) (v := undef) rfl (by kernel_rfl) (by kernel_rfl) (by kernel_rfl) (fun _ _ _ h => h) (Or.inr ⟨by rfl, rfl⟩) hS ?_
            simp only [Act.put, List.setIfInBounds_toArray, List.set_cons_succ, List.set_cons_zero]
            refine wpAnyH_take (i := 17) (oi := { dst := some 58, op := Op.fieldAddr 117 (Operand.tmp 57) 1, type := 0, pos := "l13_world.go:28", after := #[{ on := 16, ground := Ground.data }, { on := 12, ground := Ground.guard }], guard := some (12, false) }) (v := undef) rfl (by kernel_rfl) (by kernel_rfl) (by kernel_rfl) (fun _ _ _ h => h) (Or.inr ⟨by rfl, rfl⟩) hS ?_
            simp only [Act.put, List.setIfInBounds_toArray, List.set_cons_succ, List.set_cons_zero]
            refine wpAnyH_take (i := 18) (oi := { dst := some 59, op := Op.load 115 (Operand.tmp 58), type := 115, pos := "l13_world.go:28", after := #[{ on := 17, ground := Ground.data }, { on := 12, ground := Ground.guard }], guard := some (12, false) }) (v := undef) rfl (by kernel_rfl) (by kernel_rfl) (by kernel_rfl) (fun _ _ _ h => h) (Or.inr ⟨by rfl, rfl⟩) hS ?_
            simp only [Act.put, List.setIfInBounds_toArray, List.set_cons_succ, List.set_cons_zero]
            refine wpAnyH_take (i := 19) (oi := { dst := some 60, op := Op.call { callee := Callee.value (Operand.func 79), args := #[Operand.tmp 59], argTypes := #[115] }, type := 4, pos := "l13_world.go:28", after := #[{ on := 18, ground := Ground.data }, { on := 12, ground := Ground.chain }, { on := 12, ground := Ground.guard }], guard := some (12, false) }) (v := undef) rfl (by kernel_rfl) (by kernel_rfl) (by kernel_rfl) (fun _ _ _ h => h) (Or.inr ⟨by rfl, rfl⟩) hS ?_
            simp only [Act.put, List.setIfInBounds_toArray, List.set_cons_succ, List.set_cons_zero]
            refine wpAnyH_take (i := 20) (oi := { dst := some 61, op := Op.unOp UnOp.not 4 (Operand.tmp 60), type := 4, pos := "l13_world.go:28", after := #[{ on := 19, ground := Ground.data }, { on := 12, ground := Ground.guard }], guard := some (12, false) }) (v := undef) rfl (by kernel_rfl) (by kernel_rfl) (by kernel_rfl) (fun _ _ _ h => h) (Or.inr ⟨by rfl, rfl⟩) hS ?_
            simp only [Act.put, List.setIfInBounds_toArray, List.set_cons_succ, List.set_cons_zero]
            refine wpAnyH_take (i := 21) (oi := { dst := some 62, op := Op.pick (Operand.tmp 53) (Operand.const (Value.bool true)) (Operand.tmp 61), type := 4, pos := "l13_world.go:28", after := #[{ on := 12, ground := Ground.data }, { on := 20, ground := Ground.data }], guard := none }) (v := ?_) rfl (by kernel_rfl) (by kernel_rfl) (by kernel_rfl) (fun _ _ _ h => h) (Or.inl ⟨by rfl, ?_⟩) hS ?_
            rotate_left
            · intro y hSy; obtain ⟨yl, yb, y0, y1, y2, y3, y4, y5, y6, y7, y8, y9, y10, y11, y12, y13, y14, y15, y16⟩ := hSy; go_simp; try with_reducible rfl
            simp only [Act.put, List.setIfInBounds_toArray, List.set_cons_succ, List.set_cons_zero]
            refine wpAnyH_done (by kernel_rfl) ?_ _
            all_goals
              go_wp2_with fail
              go_ret
              exact ⟨retB (unhide HE), (btG (unhide HBW) (unhide HBrq)).drew⟩
          | true =>
            cases bk with
            | false =>
              have HE : Hid (openB X = false) := unhide HN (by rw [unhide HG]; rfl)
              go_wp2_with fail
              refine wp_region_held (S := fun y => y.cell? ⟨w.heap.size, 9, none⟩ = some (.slice (some ⟨b, o, none⟩) X.talks.length cz) ∧ y.cell? ⟨w.heap.size, 4, none⟩ = some (.slice ah X.hosts.length ch) ∧ y.cell? ⟨b, o + k * 17, none⟩ = some (.int .i64 x.k) ∧ y.cell? ⟨b, o + k * 17 + 1, none⟩ = some (.int .i64 x.s.st) ∧ y.cell? ⟨b, o + k * 17 + 2, none⟩ = some (.string x.s.h) ∧ y.cell? ⟨b, o + k * 17 + 3, none⟩ = some (.int .i64 x.s.ke) ∧ y.cell? ⟨b, o + k * 17 + 4, none⟩ = some (.int .i64 x.s.ep) ∧ y.cell? ⟨b, o + k * 17 + 5, none⟩ = some (.int .i64 op_1) ∧ y.cell? ⟨b, o + k * 17 + 6, none⟩ = some (.int .i64 n_1) ∧ y.cell? ⟨b, o + k * 17 + 7, none⟩ = some (.string s_1) ∧ y.cell? ⟨b, o + k * 17 + 8, none⟩ = some (.slice a_1 len_1 cap_1) ∧ y.cell? ⟨b, o + k * 17 + 9, none⟩ = some (.int .i64 oq_1) ∧ y.cell? ⟨b, o + k * 17 + 10, none⟩ = some (.int .i64 m_1) ∧ y.cell? ⟨b, o + k * 17 + 11, none⟩ = some (.string r_1) ∧ y.cell? ⟨b, o + k * 17 + 12, none⟩ = some (.slice c_1 lem_1 cat_1) ∧ y.cell? ⟨b, o + k * 17 + 13, none⟩ = some (.int .i64 x.s.i) ∧ y.cell? ⟨b, o + k * 17 + 14, none⟩ = some (.int .i64 x.s.o) ∧ y.cell? ⟨b, o + k * 17 + 15, none⟩ = some (.bool x.s.tl) ∧ y.cell? ⟨b, o + k * 17 + 16, none⟩ = some (.slice g_1 x.s.l.length gc_1)) Tryz.mixedO ?_
              have hS : (fun y : World => y.cell? ⟨w.heap.size, 9, none⟩ = some (.slice (some ⟨b, o, none⟩) X.talks.length cz) ∧ y.cell? ⟨w.heap.size, 4, none⟩ = some (.slice ah X.hosts.length ch) ∧ y.cell? ⟨b, o + k * 17, none⟩ = some (.int .i64 x.k) ∧ y.cell? ⟨b, o + k * 17 + 1, none⟩ = some (.int .i64 x.s.st) ∧ y.cell? ⟨b, o + k * 17 + 2, none⟩ = some (.string x.s.h) ∧ y.cell? ⟨b, o + k * 17 + 3, none⟩ = some (.int .i64 x.s.ke) ∧ y.cell? ⟨b, o + k * 17 + 4, none⟩ = some (.int .i64 x.s.ep) ∧ y.cell? ⟨b, o + k * 17 + 5, none⟩ = some (.int .i64 op_1) ∧ y.cell? ⟨b, o + k * 17 + 6, none⟩ = some (.int .i64 n_1) ∧ y.cell? ⟨b, o + k * 17 + 7, none⟩ = some (.string s_1) ∧ y.cell? ⟨b, o + k * 17 + 8, none⟩ = some (.slice a_1 len_1 cap_1) ∧ y.cell? ⟨b, o + k * 17 + 9, none⟩ = some (.int .i64 oq_1) ∧ y.cell? ⟨b, o + k * 17 + 10, none⟩ = some (.int .i64 m_1) ∧ y.cell? ⟨b, o + k * 17 + 11, none⟩ = some (.string r_1) ∧ y.cell? ⟨b, o + k * 17 + 12, none⟩ = some (.slice c_1 lem_1 cat_1) ∧ y.cell? ⟨b, o + k * 17 + 13, none⟩ = some (.int .i64 x.s.i) ∧ y.cell? ⟨b, o + k * 17 + 14, none⟩ = some (.int .i64 x.s.o) ∧ y.cell? ⟨b, o + k * 17 + 15, none⟩ = some (.bool x.s.tl) ∧ y.cell? ⟨b, o + k * 17 + 16, none⟩ = some (.slice g_1 x.s.l.length gc_1)) wr.drew := ⟨c9q, c4q, d0, d1, d2, d3, d4, d5, d6, d7, d8, d9, d10, d11, d12, d13, d14, d15, d16⟩
              show wpAnyH _ _ _ _ _ _ _ _ wr.drew
              refine wpAnyH_take (i := 0) (oi := { dst := some 41, op := Op.fieldAddr 40 (Operand.tmp 1) 9, type := 0, pos := "l13_world.go:28", after := #[], guard := none }) (v := ?_) rfl (by kernel_rfl) (by kernel_rfl) (by kernel_rfl) (fun _ _ _ h => h) (Or.inl ⟨by rfl, ?_⟩) hS ?_
              rotate_left
              · intro y hSy; obtain ⟨yl, yb, y0, y1, y2, y3, y4, y5, y6, y7, y8, y9, y10, y11, y12, y13, y14, y15, y16⟩ := hSy; go_simp; try with_reducible rfl
              simp only [Act.put, List.setIfInBounds_toArray, List.set_cons_succ, List.set_cons_zero]
              refine wpAnyH_take (i := 1) (oi := { dst := some 42, op := Op.load 38 (Operand.tmp 41), type := 38, pos := "l13_world.go:28", after := #[{ on := 0, ground := Ground.data }], guard := none }) (v := ?_) rfl (by kernel_rfl) (by kernel_rfl) (by kernel_rfl) (fun _ _ _ h => h) (Or.inl ⟨by rfl, ?_⟩) hS ?_
              rotate_left
              · intro y hSy; obtain ⟨yl, yb, y0, y1, y2, y3, y4, y5, y6, y7, y8, y9, y10, y11, y12, y13, y14, y15, y16⟩ := hSy; go_simp; try with_reducible rfl
              simp only [Act.put, List.setIfInBounds_toArray, List.set_cons_succ, List.set_cons_zero]
              refine wpAnyH_take (i := 2) (oi := { dst := some 43, op := Op.move (Operand.tmp 4), type := 3, pos := "l13_world.go:28", after := #[], guard := none }) (v := ?_) rfl (by kernel_rfl) (by kernel_rfl) (by kernel_rfl) (fun _ _ _ h => h) (Or.inl ⟨by rfl, ?_⟩) hS ?_
              rotate_left
              · intro y hSy; obtain ⟨yl, yb, y0, y1, y2, y3, y4, y5, y6, y7, y8, y9, y10, y11, y12, y13, y14, y15, y16⟩ := hSy; go_simp; try with_reducible rfl
              simp only [Act.put, List.setIfInBounds_toArray, List.set_cons_succ, List.set_cons_zero]
              refine wpAnyH_take (i := 3) (oi := { dst := some 44, op := Op.indexAddr 38 (Operand.tmp 42) (Operand.tmp 43), type := 0, pos := "l13_world.go:28", after := #[{ on := 1, ground := Ground.data }, { on := 2, ground := Ground.data }], guard := none }) (v := ?_) rfl (by kernel_rfl) (by kernel_rfl) (by kernel_rfl) (fun _ _ _ h => h) (Or.inl ⟨by rfl, ?_⟩) hS ?_
              rotate_left
              · intro y hSy; obtain ⟨yl, yb, y0, y1, y2, y3, y4, y5, y6, y7, y8, y9, y10, y11, y12, y13, y14, y15, y16⟩ := hSy; go_simp; try with_reducible rfl
              simp only [Act.put, List.setIfInBounds_toArray, List.set_cons_succ, List.set_cons_zero]
              refine wpAnyH_take (i := 4) (oi := { dst := some 45, op := Op.fieldAddr 117 (Operand.tmp 44) 0, type := 0, pos := "l13_world.go:28", after := #[{ on := 3, ground := Ground.data }], guard := none }) (v := ?_) rfl (by kernel_rfl) (by kernel_rfl) (by kernel_rfl) (fun _ _ _ h => h) (Or.inl ⟨by rfl, ?_⟩) hS ?_
              rotate_left
              · intro y hSy; obtain ⟨yl, yb, y0, y1, y2, y3, y4, y5, y6, y7, y8, y9, y10, y11, y12, y13, y14, y15, y16⟩ := hSy; go_simp; try with_reducible rfl
              simp only [Act.put, List.setIfInBounds_toArray, List.set_cons_succ, List.set_cons_zero]
              refine wpAnyH_take (i := 5) (oi := { dst := some 46, op := Op.load 3 (Operand.tmp 45), type := 3, pos := "l13_world.go:28", after := #[{ on := 4, ground := Ground.data }], guard := none }) (v := ?_) rfl (by kernel_rfl) (by kernel_rfl) (by kernel_rfl) (fun _ _ _ h => h) (Or.inl ⟨by rfl, ?_⟩) hS ?_
              rotate_left
              · intro y hSy; obtain ⟨yl, yb, y0, y1, y2, y3, y4, y5, y6, y7, y8, y9, y10, y11, y12, y13, y14, y15, y16⟩ := hSy; go_simp; try with_reducible rfl
              simp only [Act.put, List.setIfInBounds_toArray, List.set_cons_succ, List.set_cons_zero]
              refine wpAnyH_take (i := 6) (oi := { dst := some 47, op := Op.fieldAddr 40 (Operand.tmp 1) 4, type := 0, pos := "l13_world.go:28", after := #[], guard := none }) (v := ?_) rfl (by kernel_rfl) (by kernel_rfl) (by kernel_rfl) (fun _ _ _ h => h) (Or.inl ⟨by rfl, ?_⟩) hS ?_
              rotate_left
              · intro y hSy; obtain ⟨yl, yb, y0, y1, y2, y3, y4, y5, y6, y7, y8, y9, y10, y11, y12, y13, y14, y15, y16⟩ := hSy; go_simp; try with_reducible rfl
              simp only [Act.put, List.setIfInBounds_toArray, List.set_cons_succ, List.set_cons_zero]
              refine wpAnyH_take (i := 7) (oi := { dst := some 48, op := Op.load 35 (Operand.tmp 47), type := 35, pos := "l13_world.go:28", after := #[{ on := 6, ground := Ground.data }], guard := none }) (v := ?_) rfl (by kernel_rfl) (by kernel_rfl) (by kernel_rfl) (fun _ _ _ h => h) (Or.inl ⟨by rfl, ?_⟩) hS ?_
              rotate_left
              · intro y hSy; obtain ⟨yl, yb, y0, y1, y2, y3, y4, y5, y6, y7, y8, y9, y10, y11, y12, y13, y14, y15, y16⟩ := hSy; go_simp; try with_reducible rfl
              simp only [Act.put, List.setIfInBounds_toArray, List.set_cons_succ, List.set_cons_zero]
              refine wpAnyH_take (i := 8) (oi := { dst := some 49, op := Op.call { callee := Callee.builtin Builtin.len, args := #[Operand.tmp 48], argTypes := #[35] }, type := 3, pos := "l13_world.go:28", after := #[{ on := 7, ground := Ground.data }], guard := none }) (v := ?_) rfl (by kernel_rfl) (by kernel_rfl) (by kernel_rfl) (fun _ _ _ h => h) (Or.inl ⟨by rfl, ?_⟩) hS ?_
              rotate_left
              · intro y hSy; obtain ⟨yl, yb, y0, y1, y2, y3, y4, y5, y6, y7, y8, y9, y10, y11, y12, y13, y14, y15, y16⟩ := hSy; go_simp; try with_reducible rfl
              simp only [Act.put, List.setIfInBounds_toArray, List.set_cons_succ, List.set_cons_zero]
              refine wpAnyH_take (i := 9) (oi := { dst := some 50, op := Op.binOp BinOp.sub 3 (Operand.tmp 49) (Operand.const (Value.int IntKind.i64 1)) 3, type := 3, pos := "l13_world.go:28", after := #[{ on := 8, ground := Ground.data }], guard := none }) (v := ?_) rfl (by kernel_rfl) (by kernel_rfl) (by kernel_rfl) (fun _ _ _ h => h) (Or.inl ⟨by rfl, ?_⟩) hS ?_
              rotate_left
              · intro y hSy; obtain ⟨yl, yb, y0, y1, y2, y3, y4, y5, y6, y7, y8, y9, y10, y11, y12, y13, y14, y15, y16⟩ := hSy; go_simp; try with_reducible rfl
              simp only [Act.put, List.setIfInBounds_toArray, List.set_cons_succ, List.set_cons_zero]
              refine wpAnyH_all (rs := [10]) (by kernel_rfl) (by simp) ?_
              intro i hi
              simp only [List.mem_singleton] at hi
              subst hi
              refine step_call (f := 42) (fn := Tryz.f42) (d := 51) (args := #[.int .i64 x.k, .int .i64 0, .int .i64 ((X.hosts.length : Int) - 1)]) rfl Tryz.func42 (by kernel_rfl) (by kernel_rfl) (by simp [Act.eval]) ?_
              refine (unhide HI _).mono ?_
              rintro e w2 ⟨rfl, rfl⟩
              refine ⟨_, rfl, ?_⟩
              refine ⟨hS, ?_⟩
              simp only [Act.put, List.setIfInBounds_toArray, List.set_cons_succ, List.set_cons_zero]
              refine wpAnyH_take (i := 11) (oi := { dst := some 52, op := Op.unOp UnOp.not 4 (Operand.tmp 51), type := 4, pos := "l13_world.go:28", after := #[{ on := 10, ground := Ground.data }], guard := none }) (v := ?_) rfl (by kernel_rfl) (by kernel_rfl) (by kernel_rfl) (fun _ _ _ h => h) (Or.inl ⟨by rfl, ?_⟩) hS ?_
              rotate_left
              · intro y hSy; obtain ⟨yl, yb, y0, y1, y2, y3, y4, y5, y6, y7, y8, y9, y10, y11, y12, y13, y14, y15, y16⟩ := hSy; go_simp; try with_reducible rfl
              simp only [Act.put, List.setIfInBounds_toArray, List.set_cons_succ, List.set_cons_zero]
              refine wpAnyH_take (i := 12) (oi := { dst := some 53, op := Op.move (Operand.tmp 52), type := 4, pos := "l13_world.go:28", after := #[{ on := 11, ground := Ground.data }, { on := 10, ground := Ground.chain }], guard := none }) (v := ?_) rfl (by kernel_rfl) (by kernel_rfl) (by kernel_rfl) (fun _ _ _ h => h) (Or.inl ⟨by rfl, ?_⟩) hS ?_
              rotate_left
              · intro y hSy; obtain ⟨yl, yb, y0, y1, y2, y3, y4, y5, y6, y7, y8, y9, y10, y11, y12, y13, y14, y15, y16⟩ := hSy; go_simp; try with_reducible rfl
              simp only [Act.put, List.setIfInBounds_toArray, List.set_cons_succ, List.set_cons_zero]
              refine wpAnyH_take (i := 13) (oi := { dst := some 54, op := Op.fieldAddr 40 (Operand.tmp 1) 9, type := 0, pos := "l13_world.go:28", after := #[{ on := 12, ground := Ground.guard }], guard := some (12, false) }) (v := ?_) rfl (by kernel_rfl) (by kernel_rfl) (by kernel_rfl) (fun _ _ _ h => h) (Or.inl ⟨by rfl, ?_⟩) hS ?_
              rotate_left
              · intro y hSy; obtain ⟨yl, yb, y0, y1, y2, y3, y4, y5, y6, y7, y8, y9, y10, y11, y12, y13, y14, y15, y16⟩ := hSy; go_simp; try with_reducible rfl
              simp only [Act.put, List.setIfInBounds_toArray, List.set_cons_succ, List.set_cons_zero]
              refine wpAnyH_take (i := 14) (oi := { dst := some 55, op := Op.load 38 (Operand.tmp 54), type := 38, pos := "l13_world.go:28", after := #[{ on := 13, ground := Ground.data }, { on := 12, ground := Ground.guard }], guard := some (12, false) }) (v := ?_) rfl (by kernel_rfl) (by kernel_rfl) (by kernel_rfl) (fun _ _ _ h => h) (Or.inl ⟨by rfl, ?_⟩) hS ?_
              rotate_left
              · intro y hSy; obtain ⟨yl, yb, y0, y1, y2, y3, y4, y5, y6, y7, y8, y9, y10, y11, y12, y13, y14, y15, y16⟩ := hSy; go_simp; try with_reducible rfl
              simp only [Act.put, List.setIfInBounds_toArray, List.set_cons_succ, List.set_cons_zero]
              refine wpAnyH_take (i := 15) (oi := { dst := some 56, op := Op.move (Operand.tmp 4), type := 3, pos := "l13_world.go:28", after := #[{ on := 12, ground := Ground.guard }], guard := some (12, false) }) (v := ?_) rfl (by kernel_rfl) (by kernel_rfl) (by kernel_rfl) (fun _ _ _ h => h) (Or.inl ⟨by rfl, ?_⟩) hS ?_
              rotate_left
              · intro y hSy; obtain ⟨yl, yb, y0, y1, y2, y3, y4, y5, y6, y7, y8, y9, y10, y11, y12, y13, y14, y15, y16⟩ := hSy; go_simp; try with_reducible rfl
              simp only [Act.put, List.setIfInBounds_toArray, List.set_cons_succ, List.set_cons_zero]
              refine wpAnyH_take (i := 16) (oi := { dst := some 57, op := Op.indexAddr 38 (Operand.tmp 55) (Operand.tmp 56), type := 0, pos := "l13_world.go:28", after := #[{ on := 14, ground := Ground.data }, { on := 15, ground := Ground.data }, { on := 12, ground := Ground.guard }], guard := some (12, false) }) (v := ?_) rfl (by kernel_rfl) (by kernel_rfl) (by kernel_rfl) (fun _ _ _ h => h) (Or.inl ⟨by rfl, ?_⟩) hS ?_
              rotate_left
              · intro y hSy; obtain ⟨yl, yb, y0, y1, y2, y3, y4, y5, y6, y7, y8, y9, y10, y11, y12, y13, y14, y15, y16⟩ := hSy; go_simp; try with_reducible rfl
              simp only [Act.put, List.setIfInBounds_toArray, List.set_cons_succ, List.set_cons_zero]
              refine wpAnyH_take (i := 17) (oi := { dst := some 58, op := Op.fieldAddr 117 (Operand.tmp 57) 1, type := 0, pos := "l13_world.go:28", after := #[{ on := 16, ground := Ground.data }, { on := 12, ground := Ground.guard }], guard := some (12, false) }) (v := ?_) rfl (by kernel_rfl) (by kernel_rfl) (by kernel_rfl) (fun _ _ _ h => h) (Or.inl ⟨by rfl, ?_⟩) hS ?_
              rotate_left
              · intro y hSy; obtain ⟨yl, yb, y0, y1, y2, y3, y4, y5, y6, y7, y8, y9, y10, y11, y12, y13, y14, y15, y16⟩ := hSy; go_simp; try with_reducible rfl
              simp only [Act.put, List.setIfInBounds_toArray, List.set_cons_succ, List.set_cons_zero]
              refine wpAnyH_take (i := 18) (oi := { dst := some 59, op := Op.load 115 (Operand.tmp 58), type := 115, pos := "l13_world.go:28", after := #[{ on := 17, ground := Ground.data }, { on := 12, ground := Ground.guard }], guard := some (12, false) }) (v := ?_) rfl (by kernel_rfl) (by kernel_rfl) (by kernel_rfl) (fun _ _ _ h => h) (Or.inl ⟨by rfl, ?_⟩) hS ?_
              rotate_left
              · intro y hSy; obtain ⟨yl, yb, y0, y1, y2, y3, y4, y5, y6, y7, y8, y9, y10, y11, y12, y13, y14, y15, y16⟩ := hSy; go_simp; try with_reducible rfl
              simp only [Act.put, List.setIfInBounds_toArray, List.set_cons_succ, List.set_cons_zero]
              refine wpAnyH_all (rs := [19]) (by kernel_rfl) (by simp) ?_
              intro i hi
              simp only [List.mem_singleton] at hi
              subst hi
              refine step_callG (f := 79) (fn := Tryz.f79) (d := 60) (args := #[.agg #[.int .i64 x.s.st, .string x.s.h, .int .i64 x.s.ke, .int .i64 x.s.ep, .int .i64 op_1, .int .i64 n_1, .string s_1, .slice a_1 len_1 cap_1, .int .i64 oq_1, .int .i64 m_1, .string r_1, .slice c_1 lem_1 cat_1, .int .i64 x.s.i, .int .i64 x.s.o, .bool x.s.tl, .slice g_1 x.s.l.length gc_1]]) rfl (by rfl) Tryz.func79 (by kernel_rfl) (by kernel_rfl) (by simp [Act.eval]) ?_
              refine (unhide HC).mono ?_
              rintro e w3 ⟨rfl, hb3⟩
              refine ⟨_, rfl, ?_⟩
              have hS3 : (fun y : World => y.cell? ⟨w.heap.size, 9, none⟩ = some (.slice (some ⟨b, o, none⟩) X.talks.length cz) ∧ y.cell? ⟨w.heap.size, 4, none⟩ = some (.slice ah X.hosts.length ch) ∧ y.cell? ⟨b, o + k * 17, none⟩ = some (.int .i64 x.k) ∧ y.cell? ⟨b, o + k * 17 + 1, none⟩ = some (.int .i64 x.s.st) ∧ y.cell? ⟨b, o + k * 17 + 2, none⟩ = some (.string x.s.h) ∧ y.cell? ⟨b, o + k * 17 + 3, none⟩ = some (.int .i64 x.s.ke) ∧ y.cell? ⟨b, o + k * 17 + 4, none⟩ = some (.int .i64 x.s.ep) ∧ y.cell? ⟨b, o + k * 17 + 5, none⟩ = some (.int .i64 op_1) ∧ y.cell? ⟨b, o + k * 17 + 6, none⟩ = some (.int .i64 n_1) ∧ y.cell? ⟨b, o + k * 17 + 7, none⟩ = some (.string s_1) ∧ y.cell? ⟨b, o + k * 17 + 8, none⟩ = some (.slice a_1 len_1 cap_1) ∧ y.cell? ⟨b, o + k * 17 + 9, none⟩ = some (.int .i64 oq_1) ∧ y.cell? ⟨b, o + k * 17 + 10, none⟩ = some (.int .i64 m_1) ∧ y.cell? ⟨b, o + k * 17 + 11, none⟩ = some (.string r_1) ∧ y.cell? ⟨b, o + k * 17 + 12, none⟩ = some (.slice c_1 lem_1 cat_1) ∧ y.cell? ⟨b, o + k * 17 + 13, none⟩ = some (.int .i64 x.s.i) ∧ y.cell? ⟨b, o + k * 17 + 14, none⟩ = some (.int .i64 x.s.o) ∧ y.cell? ⟨b, o + k * 17 + 15, none⟩ = some (.bool x.s.tl) ∧ y.cell? ⟨b, o + k * 17 + 16, none⟩ = some (.slice g_1 x.s.l.length gc_1)) w3 := ⟨below_some (below_drewG hb3) c9q, below_some (below_drewG hb3) c4q, below_some (below_drewG hb3) d0, below_some (below_drewG hb3) d1, below_some (below_drewG hb3) d2, below_some (below_drewG hb3) d3, below_some (below_drewG hb3) d4, below_some (below_drewG hb3) d5, below_some (below_drewG hb3) d6, below_some (below_drewG hb3) d7, below_some (below_drewG hb3) d8, below_some (below_drewG hb3) d9, below_some (below_drewG hb3) d10, below_some (below_drewG hb3) d11, below_some (below_drewG hb3) d12, below_some (below_drewG hb3) d13, below_some (below_drewG hb3) d14, below_some (below_drewG hb3) d15, below_some (below_drewG hb3) d16⟩
              have HB3 := hide (btG (unhide HBrq) (below_drewG hb3))
              clear hb3 hS
              refine ⟨hS3, ?_⟩
              simp only [Act.put, List.setIfInBounds_toArray, List.set_cons_succ, List.set_cons_zero]
              refine wpAnyH_take (i := 20) (oi := { dst := some 61, op := Op.unOp UnOp.not 4 (Operand.tmp 60), type := 4, pos := "l13_world.go:28", after := #[{ on := 19, ground := Ground.data }, { on := 12, ground := Ground.guard }], guard := some (12, false) }) (v := ?_) rfl (by kernel_rfl) (by kernel_rfl) (by kernel_rfl) (fun _ _ _ h => h) (Or.inl ⟨by rfl, ?_⟩) hS3 ?_
              rotate_left
              · intro y hSy; obtain ⟨yl, yb, y0, y1, y2, y3, y4, y5, y6, y7, y8, y9, y10, y11, y12, y13, y14, y15, y16⟩ := hSy; go_simp; try with_reducible rfl
              simp only [Act.put, List.setIfInBounds_toArray, List.set_cons_succ, List.set_cons_zero]
              refine wpAnyH_take (i := 21) (oi := { dst := some 62, op := Op.pick (Operand.tmp 53) (Operand.const (Value.bool true)) (Operand.tmp 61), type := 4, pos := "l13_world.go:28", after := #[{ on := 12, ground := Ground.data }, { on := 20, ground := Ground.data }], guard := none }) (v := ?_) rfl (by kernel_rfl) (by kernel_rfl) (by kernel_rfl) (fun _ _ _ h => h) (Or.inl ⟨by rfl, ?_⟩) hS3 ?_
              rotate_left
              · intro y hSy; obtain ⟨yl, yb, y0, y1, y2, y3, y4, y5, y6, y7, y8, y9, y10, y11, y12, y13, y14, y15, y16⟩ := hSy; go_simp; try with_reducible rfl
              simp only [Act.put, List.setIfInBounds_toArray, List.set_cons_succ, List.set_cons_zero]
              refine wpAnyH_done (by kernel_rfl) ?_ _
              all_goals
                go_wp2_with fail
                go_ret
                exact ⟨retB (unhide HE), btG (unhide HBW) (unhide HB3)⟩
            | true =>
              have HE := unhide HM (by rw [unhide HG]; rfl)
              have HE2 := hide HE
              clear HE
              go_wp2_with fail
              refine wp_region_held (S := fun y => y.cell? ⟨w.heap.size, 9, none⟩ = some (.slice (some ⟨b, o, none⟩) X.talks.length cz) ∧ y.cell? ⟨w.heap.size, 4, none⟩ = some (.slice ah X.hosts.length ch) ∧ y.cell? ⟨b, o + k * 17, none⟩ = some (.int .i64 x.k) ∧ y.cell? ⟨b, o + k * 17 + 1, none⟩ = some (.int .i64 x.s.st) ∧ y.cell? ⟨b, o + k * 17 + 2, none⟩ = some (.string x.s.h) ∧ y.cell? ⟨b, o + k * 17 + 3, none⟩ = some (.int .i64 x.s.ke) ∧ y.cell? ⟨b, o + k * 17 + 4, none⟩ = some (.int .i64 x.s.ep) ∧ y.cell? ⟨b, o + k * 17 + 5, none⟩ = some (.int .i64 op_1) ∧ y.cell? ⟨b, o + k * 17 + 6, none⟩ = some (.int .i64 n_1) ∧ y.cell? ⟨b, o + k * 17 + 7, none⟩ = some (.string s_1) ∧ y.cell? ⟨b, o + k * 17 + 8, none⟩ = some (.slice a_1 len_1 cap_1) ∧ y.cell? ⟨b, o + k * 17 + 9, none⟩ = some (.int .i64 oq_1) ∧ y.cell? ⟨b, o + k * 17 + 10, none⟩ = some (.int .i64 m_1) ∧ y.cell? ⟨b, o + k * 17 + 11, none⟩ = some (.string r_1) ∧ y.cell? ⟨b, o + k * 17 + 12, none⟩ = some (.slice c_1 lem_1 cat_1) ∧ y.cell? ⟨b, o + k * 17 + 13, none⟩ = some (.int .i64 x.s.i) ∧ y.cell? ⟨b, o + k * 17 + 14, none⟩ = some (.int .i64 x.s.o) ∧ y.cell? ⟨b, o + k * 17 + 15, none⟩ = some (.bool x.s.tl) ∧ y.cell? ⟨b, o + k * 17 + 16, none⟩ = some (.slice g_1 x.s.l.length gc_1)) Tryz.mixedO ?_
              have hS : (fun y : World => y.cell? ⟨w.heap.size, 9, none⟩ = some (.slice (some ⟨b, o, none⟩) X.talks.length cz) ∧ y.cell? ⟨w.heap.size, 4, none⟩ = some (.slice ah X.hosts.length ch) ∧ y.cell? ⟨b, o + k * 17, none⟩ = some (.int .i64 x.k) ∧ y.cell? ⟨b, o + k * 17 + 1, none⟩ = some (.int .i64 x.s.st) ∧ y.cell? ⟨b, o + k * 17 + 2, none⟩ = some (.string x.s.h) ∧ y.cell? ⟨b, o + k * 17 + 3, none⟩ = some (.int .i64 x.s.ke) ∧ y.cell? ⟨b, o + k * 17 + 4, none⟩ = some (.int .i64 x.s.ep) ∧ y.cell? ⟨b, o + k * 17 + 5, none⟩ = some (.int .i64 op_1) ∧ y.cell? ⟨b, o + k * 17 + 6, none⟩ = some (.int .i64 n_1) ∧ y.cell? ⟨b, o + k * 17 + 7, none⟩ = some (.string s_1) ∧ y.cell? ⟨b, o + k * 17 + 8, none⟩ = some (.slice a_1 len_1 cap_1) ∧ y.cell? ⟨b, o + k * 17 + 9, none⟩ = some (.int .i64 oq_1) ∧ y.cell? ⟨b, o + k * 17 + 10, none⟩ = some (.int .i64 m_1) ∧ y.cell? ⟨b, o + k * 17 + 11, none⟩ = some (.string r_1) ∧ y.cell? ⟨b, o + k * 17 + 12, none⟩ = some (.slice c_1 lem_1 cat_1) ∧ y.cell? ⟨b, o + k * 17 + 13, none⟩ = some (.int .i64 x.s.i) ∧ y.cell? ⟨b, o + k * 17 + 14, none⟩ = some (.int .i64 x.s.o) ∧ y.cell? ⟨b, o + k * 17 + 15, none⟩ = some (.bool x.s.tl) ∧ y.cell? ⟨b, o + k * 17 + 16, none⟩ = some (.slice g_1 x.s.l.length gc_1)) wr.drew := ⟨c9q, c4q, d0, d1, d2, d3, d4, d5, d6, d7, d8, d9, d10, d11, d12, d13, d14, d15, d16⟩
              show wpAnyH _ _ _ _ _ _ _ _ wr.drew
              refine wpAnyH_take (i := 0) (oi := { dst := some 41, op := Op.fieldAddr 40 (Operand.tmp 1) 9, type := 0, pos := "l13_world.go:28", after := #[], guard := none }) (v := ?_) rfl (by kernel_rfl) (by kernel_rfl) (by kernel_rfl) (fun _ _ _ h => h) (Or.inl ⟨by rfl, ?_⟩) hS ?_
              rotate_left
              · intro y hSy; obtain ⟨yl, yb, y0, y1, y2, y3, y4, y5, y6, y7, y8, y9, y10, y11, y12, y13, y14, y15, y16⟩ := hSy; go_simp; try with_reducible rfl
              simp only [Act.put, List.setIfInBounds_toArray, List.set_cons_succ, List.set_cons_zero]
              refine wpAnyH_take (i := 1) (oi := { dst := some 42, op := Op.load 38 (Operand.tmp 41), type := 38, pos := "l13_world.go:28", after := #[{ on := 0, ground := Ground.data }], guard := none }) (v := ?_) rfl (by kernel_rfl) (by kernel_rfl) (by kernel_rfl) (fun _ _ _ h => h) (Or.inl ⟨by rfl, ?_⟩) hS ?_
              rotate_left
              · intro y hSy; obtain ⟨yl, yb, y0, y1, y2, y3, y4, y5, y6, y7, y8, y9, y10, y11, y12, y13, y14, y15, y16⟩ := hSy; go_simp; try with_reducible rfl
              simp only [Act.put, List.setIfInBounds_toArray, List.set_cons_succ, List.set_cons_zero]
              refine wpAnyH_take (i := 2) (oi := { dst := some 43, op := Op.move (Operand.tmp 4), type := 3, pos := "l13_world.go:28", after := #[], guard := none }) (v := ?_) rfl (by kernel_rfl) (by kernel_rfl) (by kernel_rfl) (fun _ _ _ h => h) (Or.inl ⟨by rfl, ?_⟩) hS ?_
              rotate_left
              · intro y hSy; obtain ⟨yl, yb, y0, y1, y2, y3, y4, y5, y6, y7, y8, y9, y10, y11, y12, y13, y14, y15, y16⟩ := hSy; go_simp; try with_reducible rfl
              simp only [Act.put, List.setIfInBounds_toArray, List.set_cons_succ, List.set_cons_zero]
              refine wpAnyH_take (i := 3) (oi := { dst := some 44, op := Op.indexAddr 38 (Operand.tmp 42) (Operand.tmp 43), type := 0, pos := "l13_world.go:28", after := #[{ on := 1, ground := Ground.data }, { on := 2, ground := Ground.data }], guard := none }) (v := ?_) rfl (by kernel_rfl) (by kernel_rfl) (by kernel_rfl) (fun _ _ _ h => h) (Or.inl ⟨by rfl, ?_⟩) hS ?_
              rotate_left
              · intro y hSy; obtain ⟨yl, yb, y0, y1, y2, y3, y4, y5, y6, y7, y8, y9, y10, y11, y12, y13, y14, y15, y16⟩ := hSy; go_simp; try with_reducible rfl
              simp only [Act.put, List.setIfInBounds_toArray, List.set_cons_succ, List.set_cons_zero]
              refine wpAnyH_take (i := 4) (oi := { dst := some 45, op := Op.fieldAddr 117 (Operand.tmp 44) 0, type := 0, pos := "l13_world.go:28", after := #[{ on := 3, ground := Ground.data }], guard := none }) (v := ?_) rfl (by kernel_rfl) (by kernel_rfl) (by kernel_rfl) (fun _ _ _ h => h) (Or.inl ⟨by rfl, ?_⟩) hS ?_
              rotate_left
              · intro y hSy; obtain ⟨yl, yb, y0, y1, y2, y3, y4, y5, y6, y7, y8, y9, y10, y11, y12, y13, y14, y15, y16⟩ := hSy; go_simp; try with_reducible rfl
              simp only [Act.put, List.setIfInBounds_toArray, List.set_cons_succ, List.set_cons_zero]
              refine wpAnyH_take (i := 5) (oi := { dst := some 46, op := Op.load 3 (Operand.tmp 45), type := 3, pos := "l13_world.go:28", after := #[{ on := 4, ground := Ground.data }], guard := none }) (v := ?_) rfl (by kernel_rfl) (by kernel_rfl) (by kernel_rfl) (fun _ _ _ h => h) (Or.inl ⟨by rfl, ?_⟩) hS ?_
              rotate_left
              · intro y hSy; obtain ⟨yl, yb, y0, y1, y2, y3, y4, y5, y6, y7, y8, y9, y10, y11, y12, y13, y14, y15, y16⟩ := hSy; go_simp; try with_reducible rfl
              simp only [Act.put, List.setIfInBounds_toArray, List.set_cons_succ, List.set_cons_zero]
              refine wpAnyH_take (i := 6) (oi := { dst := some 47, op := Op.fieldAddr 40 (Operand.tmp 1) 4, type := 0, pos := "l13_world.go:28", after := #[], guard := none }) (v := ?_) rfl (by kernel_rfl) (by kernel_rfl) (by kernel_rfl) (fun _ _ _ h => h) (Or.inl ⟨by rfl, ?_⟩) hS ?_
              rotate_left
              · intro y hSy; obtain ⟨yl, yb, y0, y1, y2, y3, y4, y5, y6, y7, y8, y9, y10, y11, y12, y13, y14, y15, y16⟩ := hSy; go_simp; try with_reducible rfl
              simp only [Act.put, List.setIfInBounds_toArray, List.set_cons_succ, List.set_cons_zero]
              refine wpAnyH_take (i := 7) (oi := { dst := some 48, op := Op.load 35 (Operand.tmp 47), type := 35, pos := "l13_world.go:28", after := #[{ on := 6, ground := Ground.data }], guard := none }) (v := ?_) rfl (by kernel_rfl) (by kernel_rfl) (by kernel_rfl) (fun _ _ _ h => h) (Or.inl ⟨by rfl, ?_⟩) hS ?_
              rotate_left
              · intro y hSy; obtain ⟨yl, yb, y0, y1, y2, y3, y4, y5, y6, y7, y8, y9, y10, y11, y12, y13, y14, y15, y16⟩ := hSy; go_simp; try with_reducible rfl
              simp only [Act.put, List.setIfInBounds_toArray, List.set_cons_succ, List.set_cons_zero]
              refine wpAnyH_take (i := 8) (oi := { dst := some 49, op := Op.call { callee := Callee.builtin Builtin.len, args := #[Operand.tmp 48], argTypes := #[35] }, type := 3, pos := "l13_world.go:28", after := #[{ on := 7, ground := Ground.data }], guard := none }) (v := ?_) rfl (by kernel_rfl) (by kernel_rfl) (by kernel_rfl) (fun _ _ _ h => h) (Or.inl ⟨by rfl, ?_⟩) hS ?_
              rotate_left
              · intro y hSy; obtain ⟨yl, yb, y0, y1, y2, y3, y4, y5, y6, y7, y8, y9, y10, y11, y12, y13, y14, y15, y16⟩ := hSy; go_simp; try with_reducible rfl
              simp only [Act.put, List.setIfInBounds_toArray, List.set_cons_succ, List.set_cons_zero]
              refine wpAnyH_take (i := 9) (oi := { dst := some 50, op := Op.binOp BinOp.sub 3 (Operand.tmp 49) (Operand.const (Value.int IntKind.i64 1)) 3, type := 3, pos := "l13_world.go:28", after := #[{ on := 8, ground := Ground.data }], guard := none }) (v := ?_) rfl (by kernel_rfl) (by kernel_rfl) (by kernel_rfl) (fun _ _ _ h => h) (Or.inl ⟨by rfl, ?_⟩) hS ?_
              rotate_left
              · intro y hSy; obtain ⟨yl, yb, y0, y1, y2, y3, y4, y5, y6, y7, y8, y9, y10, y11, y12, y13, y14, y15, y16⟩ := hSy; go_simp; try with_reducible rfl
              simp only [Act.put, List.setIfInBounds_toArray, List.set_cons_succ, List.set_cons_zero]
              refine wpAnyH_all (rs := [10]) (by kernel_rfl) (by simp) ?_
              intro i hi
              simp only [List.mem_singleton] at hi
              subst hi
              refine step_call (f := 42) (fn := Tryz.f42) (d := 51) (args := #[.int .i64 x.k, .int .i64 0, .int .i64 ((X.hosts.length : Int) - 1)]) rfl Tryz.func42 (by kernel_rfl) (by kernel_rfl) (by simp [Act.eval]) ?_
              refine (unhide HI _).mono ?_
              rintro e w2 ⟨rfl, rfl⟩
              refine ⟨_, rfl, ?_⟩
              refine ⟨hS, ?_⟩
              simp only [Act.put, List.setIfInBounds_toArray, List.set_cons_succ, List.set_cons_zero]
              refine wpAnyH_take (i := 11) (oi := { dst := some 52, op := Op.unOp UnOp.not 4 (Operand.tmp 51), type := 4, pos := "l13_world.go:28", after := #[{ on := 10, ground := Ground.data }], guard := none }) (v := ?_) rfl (by kernel_rfl) (by kernel_rfl) (by kernel_rfl) (fun _ _ _ h => h) (Or.inl ⟨by rfl, ?_⟩) hS ?_
              rotate_left
              · intro y hSy; obtain ⟨yl, yb, y0, y1, y2, y3, y4, y5, y6, y7, y8, y9, y10, y11, y12, y13, y14, y15, y16⟩ := hSy; go_simp; try with_reducible rfl
              simp only [Act.put, List.setIfInBounds_toArray, List.set_cons_succ, List.set_cons_zero]
              refine wpAnyH_take (i := 12) (oi := { dst := some 53, op := Op.move (Operand.tmp 52), type := 4, pos := "l13_world.go:28", after := #[{ on := 11, ground := Ground.data }, { on := 10, ground := Ground.chain }], guard := none }) (v := ?_) rfl (by kernel_rfl) (by kernel_rfl) (by kernel_rfl) (fun _ _ _ h => h) (Or.inl ⟨by rfl, ?_⟩) hS ?_
              rotate_left
              · intro y hSy; obtain ⟨yl, yb, y0, y1, y2, y3, y4, y5, y6, y7, y8, y9, y10, y11, y12, y13, y14, y15, y16⟩ := hSy; go_simp; try with_reducible rfl
              simp only [Act.put, List.setIfInBounds_toArray, List.set_cons_succ, List.set_cons_zero]
              refine wpAnyH_take (i := 13) (oi := { dst := some 54, op := Op.fieldAddr 40 (Operand.tmp 1) 9, type := 0, pos := "l13_world.go:28", after := #[{ on := 12, ground := Ground.guard }], guard := some (12, false) }) (v := ?_) rfl (by kernel_rfl) (by kernel_rfl) (by kernel_rfl) (fun _ _ _ h => h) (Or.inl ⟨by rfl, ?_⟩) hS ?_
              rotate_left
              · intro y hSy; obtain ⟨yl, yb, y0, y1, y2, y3, y4, y5, y6, y7, y8, y9, y10, y11, y12, y13, y14, y15, y16⟩ := hSy; go_simp; try with_reducible rfl
              simp only [Act.put, List.setIfInBounds_toArray, List.set_cons_succ, List.set_cons_zero]
              refine wpAnyH_take (i := 14) (oi := { dst := some 55, op := Op.load 38 (Operand.tmp 54), type := 38, pos := "l13_world.go:28", after := #[{ on := 13, ground := Ground.data }, { on := 12, ground := Ground.guard }], guard := some (12, false) }) (v := ?_) rfl (by kernel_rfl) (by kernel_rfl) (by kernel_rfl) (fun _ _ _ h => h) (Or.inl ⟨by rfl, ?_⟩) hS ?_
              rotate_left
              · intro y hSy; obtain ⟨yl, yb, y0, y1, y2, y3, y4, y5, y6, y7, y8, y9, y10, y11, y12, y13, y14, y15, y16⟩ := hSy; go_simp; try with_reducible rfl
              simp only [Act.put, List.setIfInBounds_toArray, List.set_cons_succ, List.set_cons_zero]
              refine wpAnyH_take (i := 15) (oi := { dst := some 56, op := Op.move (Operand.tmp 4), type := 3, pos := "l13_world.go:28", after := #[{ on := 12, ground := Ground.guard }], guard := some (12, false) }) (v := ?_) rfl (by kernel_rfl) (by kernel_rfl) (by kernel_rfl) (fun _ _ _ h => h) (Or.inl ⟨by rfl, ?_⟩) hS ?_
              rotate_left
              · intro y hSy; obtain ⟨yl, yb, y0, y1, y2, y3, y4, y5, y6, y7, y8, y9, y10, y11, y12, y13, y14, y15, y16⟩ := hSy; go_simp; try with_reducible rfl
              simp only [Act.put, List.setIfInBounds_toArray, List.set_cons_succ, List.set_cons_zero]
              refine wpAnyH_take (i := 16) (oi := { dst := some 57, op := Op.indexAddr 38 (Operand.tmp 55) (Operand.tmp 56), type := 0, pos := "l13_world.go:28", after := #[{ on := 14, ground := Ground.data }, { on := 15, ground := Ground.data }, { on := 12, ground := Ground.guard }], guard := some (12, false) }) (v := ?_) rfl (by kernel_rfl) (by kernel_rfl) (by kernel_rfl) (fun _ _ _ h => h) (Or.inl ⟨by rfl, ?_⟩) hS ?_
              rotate_left
              · intro y hSy; obtain ⟨yl, yb, y0, y1, y2, y3, y4, y5, y6, y7, y8, y9, y10, y11, y12, y13, y14, y15, y16⟩ := hSy; go_simp; try with_reducible rfl
              simp only [Act.put, List.setIfInBounds_toArray, List.set_cons_succ, List.set_cons_zero]
              refine wpAnyH_take (i := 17) (oi := { dst := some 58, op := Op.fieldAddr 117 (Operand.tmp 57) 1, type := 0, pos := "l13_world.go:28", after := #[{ on := 16, ground := Ground.data }, { on := 12, ground := Ground.guard }], guard := some (12, false) }) (v := ?_) rfl (by kernel_rfl) (by kernel_rfl) (by kernel_rfl) (fun _ _ _ h => h) (Or.inl ⟨by rfl, ?_⟩) hS ?_
              rotate_left
              · intro y hSy; obtain ⟨yl, yb, y0, y1, y2, y3, y4, y5, y6, y7, y8, y9, y10, y11, y12, y13, y14, y15, y16⟩ := hSy; go_simp; try with_reducible rfl
              simp only [Act.put, List.setIfInBounds_toArray, List.set_cons_succ, List.set_cons_zero]
              refine wpAnyH_take (i := 18) (oi := { dst := some 59, op := Op.load 115 (Operand.tmp 58), type := 115, pos := "l13_world.go:28", after := #[{ on := 17, ground := Ground.data }, { on := 12, ground := Ground.guard }], guard := some (12, false) }) (v := ?_) rfl (by kernel_rfl) (by kernel_rfl) (by kernel_rfl) (fun _ _ _ h => h) (Or.inl ⟨by rfl, ?_⟩) hS ?_
              rotate_left
              · intro y hSy; obtain ⟨yl, yb, y0, y1, y2, y3, y4, y5, y6, y7, y8, y9, y10, y11, y12, y13, y14, y15, y16⟩ := hSy; go_simp; try with_reducible rfl
              simp only [Act.put, List.setIfInBounds_toArray, List.set_cons_succ, List.set_cons_zero]
              refine wpAnyH_all (rs := [19]) (by kernel_rfl) (by simp) ?_
              intro i hi
              simp only [List.mem_singleton] at hi
              subst hi
              refine step_callG (f := 79) (fn := Tryz.f79) (d := 60) (args := #[.agg #[.int .i64 x.s.st, .string x.s.h, .int .i64 x.s.ke, .int .i64 x.s.ep, .int .i64 op_1, .int .i64 n_1, .string s_1, .slice a_1 len_1 cap_1, .int .i64 oq_1, .int .i64 m_1, .string r_1, .slice c_1 lem_1 cat_1, .int .i64 x.s.i, .int .i64 x.s.o, .bool x.s.tl, .slice g_1 x.s.l.length gc_1]]) rfl (by rfl) Tryz.func79 (by kernel_rfl) (by kernel_rfl) (by simp [Act.eval]) ?_
              refine (unhide HC).mono ?_
              rintro e w3 ⟨rfl, hb3⟩
              refine ⟨_, rfl, ?_⟩
              have hS3 : (fun y : World => y.cell? ⟨w.heap.size, 9, none⟩ = some (.slice (some ⟨b, o, none⟩) X.talks.length cz) ∧ y.cell? ⟨w.heap.size, 4, none⟩ = some (.slice ah X.hosts.length ch) ∧ y.cell? ⟨b, o + k * 17, none⟩ = some (.int .i64 x.k) ∧ y.cell? ⟨b, o + k * 17 + 1, none⟩ = some (.int .i64 x.s.st) ∧ y.cell? ⟨b, o + k * 17 + 2, none⟩ = some (.string x.s.h) ∧ y.cell? ⟨b, o + k * 17 + 3, none⟩ = some (.int .i64 x.s.ke) ∧ y.cell? ⟨b, o + k * 17 + 4, none⟩ = some (.int .i64 x.s.ep) ∧ y.cell? ⟨b, o + k * 17 + 5, none⟩ = some (.int .i64 op_1) ∧ y.cell? ⟨b, o + k * 17 + 6, none⟩ = some (.int .i64 n_1) ∧ y.cell? ⟨b, o + k * 17 + 7, none⟩ = some (.string s_1) ∧ y.cell? ⟨b, o + k * 17 + 8, none⟩ = some (.slice a_1 len_1 cap_1) ∧ y.cell? ⟨b, o + k * 17 + 9, none⟩ = some (.int .i64 oq_1) ∧ y.cell? ⟨b, o + k * 17 + 10, none⟩ = some (.int .i64 m_1) ∧ y.cell? ⟨b, o + k * 17 + 11, none⟩ = some (.string r_1) ∧ y.cell? ⟨b, o + k * 17 + 12, none⟩ = some (.slice c_1 lem_1 cat_1) ∧ y.cell? ⟨b, o + k * 17 + 13, none⟩ = some (.int .i64 x.s.i) ∧ y.cell? ⟨b, o + k * 17 + 14, none⟩ = some (.int .i64 x.s.o) ∧ y.cell? ⟨b, o + k * 17 + 15, none⟩ = some (.bool x.s.tl) ∧ y.cell? ⟨b, o + k * 17 + 16, none⟩ = some (.slice g_1 x.s.l.length gc_1)) w3 := ⟨below_some (below_drewG hb3) c9q, below_some (below_drewG hb3) c4q, below_some (below_drewG hb3) d0, below_some (below_drewG hb3) d1, below_some (below_drewG hb3) d2, below_some (below_drewG hb3) d3, below_some (below_drewG hb3) d4, below_some (below_drewG hb3) d5, below_some (below_drewG hb3) d6, below_some (below_drewG hb3) d7, below_some (below_drewG hb3) d8, below_some (below_drewG hb3) d9, below_some (below_drewG hb3) d10, below_some (below_drewG hb3) d11, below_some (below_drewG hb3) d12, below_some (below_drewG hb3) d13, below_some (below_drewG hb3) d14, below_some (below_drewG hb3) d15, below_some (below_drewG hb3) d16⟩
              have HB3 := hide (btG (unhide HBrq) (below_drewG hb3))
              clear hb3 hS
              refine ⟨hS3, ?_⟩
              simp only [Act.put, List.setIfInBounds_toArray, List.set_cons_succ, List.set_cons_zero]
              refine wpAnyH_take (i := 20) (oi := { dst := some 61, op := Op.unOp UnOp.not 4 (Operand.tmp 60), type := 4, pos := "l13_world.go:28", after := #[{ on := 19, ground := Ground.data }, { on := 12, ground := Ground.guard }], guard := some (12, false) }) (v := ?_) rfl (by kernel_rfl) (by kernel_rfl) (by kernel_rfl) (fun _ _ _ h => h) (Or.inl ⟨by rfl, ?_⟩) hS3 ?_
              rotate_left
              · intro y hSy; obtain ⟨yl, yb, y0, y1, y2, y3, y4, y5, y6, y7, y8, y9, y10, y11, y12, y13, y14, y15, y16⟩ := hSy; go_simp; try with_reducible rfl
              simp only [Act.put, List.setIfInBounds_toArray, List.set_cons_succ, List.set_cons_zero]
              refine wpAnyH_take (i := 21) (oi := { dst := some 62, op := Op.pick (Operand.tmp 53) (Operand.const (Value.bool true)) (Operand.tmp 61), type := 4, pos := "l13_world.go:28", after := #[{ on := 12, ground := Ground.data }, { on := 20, ground := Ground.data }], guard := none }) (v := ?_) rfl (by kernel_rfl) (by kernel_rfl) (by kernel_rfl) (fun _ _ _ h => h) (Or.inl ⟨by rfl, ?_⟩) hS3 ?_
              rotate_left
              · intro y hSy; obtain ⟨yl, yb, y0, y1, y2, y3, y4, y5, y6, y7, y8, y9, y10, y11, y12, y13, y14, y15, y16⟩ := hSy; go_simp; try with_reducible rfl
              simp only [Act.put, List.setIfInBounds_toArray, List.set_cons_succ, List.set_cons_zero]
              refine wpAnyH_done (by kernel_rfl) ?_ _
              all_goals
                go_wp2_with fail
                go_roundw
                case rel => exact ⟨k + 1, rfl, unhide HB3, by omega, unhide HE2⟩
                case measure => simp only [intOf]; omega
        · have c2q : ¬ (k : Int) < (X.talks.length : Int) := by omega
          have hkkq : k = X.talks.length := by omega
          have HAllq : Hid (X.talks.all (taOk X.hosts.length) = true) := List.all_eq_true.2 fun x hx => by
            obtain ⟨j, hj⟩ := List.getElem?_of_mem hx
            exact unhide HAq j x (by have := (List.getElem?_eq_some_iff.1 hj).1; omega) hj
          clear hkkq
          have c8q : wr.cell? ⟨w.heap.size, 8, none⟩ = some (.slice aa X.calls.length ca) := ((unhide HXq).on hbq).cell rfl
          have HB9 := hide (btG (unhide HBW) (unhide HBrq))
          clear hbq
          by_cases h1 : (X.calls.length : Int) ≤ 12
          · by_cases h2 : (X.talks.length : Int) ≤ 12
            · have HE : Hid (openB X = true) := by show _ = _; rw [openB, unhide HAllp, unhide HAllq, decide_eq_true (show X.calls.length ≤ 12 by omega), decide_eq_true (show X.talks.length ≤ 12 by omega)]; rfl
              go_wp2_with fail
              go_ret
              exact ⟨retB (unhide HE), unhide HB9⟩
            · have HE : Hid (openB X = false) := by show _ = _; rw [openB, decide_eq_false (show ¬ X.talks.length ≤ 12 by omega)]; simp
              go_wp2_with fail
              go_ret
              exact ⟨retB (unhide HE), unhide HB9⟩
          · have HE : Hid (openB X = false) := by show _ = _; rw [openB, decide_eq_false (show ¬ X.calls.length ≤ 12 by omega)]; simp
            go_wp2_with fail
            go_ret
            exact ⟨retB (unhide HE), unhide HB9⟩

theorem sub1N {k j : Nat} (h : k = j + 1) : k - 1 = j := by omega
theorem posN {k j : Nat} (h : k = j + 1) : k ≠ 0 := by omega
instance : Std.Associative (α := Bool) (· && ·) := ⟨Bool.and_assoc⟩
instance : Std.Commutative (α := Bool) (· && ·) := ⟨Bool.and_comm⟩
theorem worldB_spec (X : Wd) : worldB X = (inB X.time 0 100000 && (inB X.fresh 1000 999990 && (decide (X.known.length ≤ 300) && (cacheB X.cache && (hosB X.hosts && (decide (X.letters.length ≤ 30) && (decide (X.book.size ≤ 12000) && (inB X.sure 0 X.book.size && (X.known.all okT && (X.letters.all leOk && (toldB X.told && openB X))))))))))) := by
  unfold worldB hosB openB
  generalize inB X.time 0 100000 = a1
  generalize inB X.fresh 1000 999990 = a2
  generalize decide (X.known.length ≤ 300) = a3
  generalize X.known.all okT = a4
  generalize cacheB X.cache = a5
  generalize decide (X.hosts.length ≤ 4) = a6
  generalize X.hosts.all hoOk = a7
  generalize onceB X.hosts = a8
  generalize decide (X.letters.length ≤ 30) = a9
  generalize X.letters.all leOk = b1
  generalize decide (X.book.size ≤ 12000) = b2
  generalize inB X.sure 0 X.book.size = b3
  generalize decide (X.calls.length ≤ 12) = b4
  generalize X.calls.all (caOk X.letters.length) = b5
  generalize decide (X.talks.length ≤ 12) = b6
  generalize X.talks.all (taOk X.hosts.length) = b7
  generalize toldB X.told = b8
  ac_rfl

open Classical in
set_option maxRecDepth 100000 in
set_option maxHeartbeats 4000000 in
theorem worldS (X : Wd) (cs : List Value) (w : World) (h : wdAt w 0 X cs) (hz : ww X ≤ 1048576) :
    Calls Tryz.prog 16 #[.agg cs.toArray] w fun e w' => e = .returned (.bool (worldB X)) ∧ Below w.heap.size w w' := by
  have h0 := h
  obtain ⟨-, ak, ck, ac, cc, ah, ch, al, cl, aa, ca, az, cz, ai, ci, rfl, hy0, hy1, hy2, hy3, hy4, hy5, hy6⟩ := h
  show Calls Tryz.prog 16 #[.agg #[.int .i64 X.time, .int .i64 X.fresh, .slice ak X.known.length ck, .slice ac X.cache.length cc, .slice ah X.hosts.length ch, .slice al X.letters.length cl, .string X.book, .int .i64 X.sure, .slice aa X.calls.length ca, .slice az X.talks.length cz, .slice ai X.told.length ci]] w _
  have HX := hide (Box.new w 40 [.int .i64 X.time, .int .i64 X.fresh, .slice ak X.known.length ck, .slice ac X.cache.length cc, .slice ah X.hosts.length ch, .slice al X.letters.length cl, .string X.book, .int .i64 X.sure, .slice aa X.calls.length ca, .slice az X.talks.length cz, .slice ai X.told.length ci])
  have HI0 := hide (fun v => in26 X.time 0 100000 v)
  have HI1 := hide (fun v => in26 X.fresh 1000 999990 v)
  have HC1 := hide (fun v (hv : Below w.heap.size w v) => cacheS X.cache ac cc v (poK_pols (hy1.on hv)) (by unfold ww at hz; omega) (polZ_all (by unfold ww at hz; omega)))
  have HC2 := hide (fun v (hv : Below w.heap.size w v) => hostsS X.hosts ah ch v (hy2.on hv) (by unfold ww at hz; omega))
  have HI3 := hide (fun v => in26 X.sure 0 X.book.size v)
  have HC9 := hide (fun v (hv : Below w.heap.size w v) => openS X [.int .i64 X.time, .int .i64 X.fresh, .slice ak X.known.length ck, .slice ac X.cache.length cc, .slice ah X.hosts.length ch, .slice al X.letters.length cl, .string X.book, .int .i64 X.sure, .slice aa X.calls.length ca, .slice az X.talks.length cz, .slice ai X.told.length ci] v (wdK.on (w := w) (L := 0) (x := X) h0 hv) hz)
  have HYk := hide hy0
  have HYl := hide hy3
  have HYd := hide hy6
  have HKW : Hid (∀ t ∈ X.known, t.wt ≤ 1048576) := fun t ht => by have := wts_mem ht; unfold ww at hz; omega
  have HLW : Hid (∀ t ∈ X.letters, lew t ≤ 1048576) := fun t ht => by have := ws_mem lew ht; unfold ww at hz; omega
  have hk0 : X.known.length ≤ 1048576 := by unfold ww at hz; omega
  have hl0 : X.letters.length ≤ 1048576 := by unfold ww at hz; omega
  have hd0 : X.told.length ≤ 1048576 := by unfold ww at hz; omega
  have hbk : X.book.size ≤ 1048576 := by unfold ww at hz; omega
  have HW : Hid (worldB X = (inB X.time 0 100000 && (inB X.fresh 1000 999990 && (decide (X.known.length ≤ 300) && (cacheB X.cache && (hosB X.hosts && (decide (X.letters.length ≤ 30) && (decide (X.book.size ≤ 12000) && (inB X.sure 0 X.book.size && (X.known.all okT && (X.letters.all leOk && (toldB X.told && openB X)))))))))))) := worldB_spec X
  have HTD : Hid ((toldP X.told X.told.length → toldB X.told = true) ∧ (¬ toldP X.told X.told.length → toldB X.told = false)) := ⟨fun h => decide_eq_true h, fun h => decide_eq_false h⟩
  clear h0 hz hy0 hy1 hy2 hy3 hy4 hy5 hy6
  generalize worldB X = R at *
  generalize inB X.time 0 100000 = bt at *
  generalize inB X.fresh 1000 999990 = bf at *
  generalize cacheB X.cache = bc at *
  generalize hosB X.hosts = bh at *
  generalize inB X.sure 0 X.book.size = bs at *
  generalize toldB X.told = bd at *
  generalize openB X = bo at *
  go_enter Tryz.func16, Tryz.ntmps16
  go_wp2_with fail
  refine (unhide HI0 _).mono ?_
  rintro e w1 ⟨rfl, rfl⟩
  cases bt
  · have HE : Hid (R = false) := by show R = false; rw [unhide HW]; simp
    go_wp2_with fail
    go_ret
    exact ⟨retB (unhide HE), abG _⟩
  go_wp2_with fail
  refine (unhide HI1 _).mono ?_
  rintro e w1 ⟨rfl, rfl⟩
  cases bf
  · have HE : Hid (R = false) := by show R = false; rw [unhide HW]; simp
    go_wp2_with fail
    go_ret
    exact ⟨retB (unhide HE), abG _⟩
  by_cases hk3 : (X.known.length : Int) ≤ 300
  rotate_left
  · have HE : Hid (R = false) := by show R = false; rw [unhide HW, decide_eq_false (show ¬ X.known.length ≤ 300 by omega)]; simp
    go_wp2_with fail
    go_ret
    exact ⟨retB (unhide HE), abG _⟩
  go_wp2_with fail
  refine (unhide HC1 _ (abG _)).mono ?_
  rintro e w1 ⟨rfl, hb1⟩
  have HB1 := hide (btG (abG _) hb1)
  have HX1 := hide ((unhide HX).on hb1)
  clear hb1 HX
  cases bc
  · have HE : Hid (R = false) := by show R = false; rw [unhide HW]; simp
    go_wp2_with fail
    go_ret
    exact ⟨retB (unhide HE), unhide HB1⟩
  have c4 : w1.cell? ⟨w.heap.size, 4, none⟩ = some (.slice ah X.hosts.length ch) := (unhide HX1).cell rfl
  go_wp2_with fail
  refine (unhide HC2 _ (unhide HB1)).mono ?_
  rintro e w2 ⟨rfl, hb2⟩
  have HB2 := hide (btG (unhide HB1) hb2)
  have HX2 := hide ((unhide HX1).on hb2)
  clear hb2 HX1 HB1 c4
  cases bh
  · have HE : Hid (R = false) := by show R = false; rw [unhide HW]; simp
    go_wp2_with fail
    go_ret
    exact ⟨retB (unhide HE), unhide HB2⟩
  have c5 : w2.cell? ⟨w.heap.size, 5, none⟩ = some (.slice al X.letters.length cl) := (unhide HX2).cell rfl
  have c6 : w2.cell? ⟨w.heap.size, 6, none⟩ = some (.string X.book) := (unhide HX2).cell rfl
  have c7 : w2.cell? ⟨w.heap.size, 7, none⟩ = some (.int .i64 X.sure) := (unhide HX2).cell rfl
  by_cases hl3 : (X.letters.length : Int) ≤ 30
  rotate_left
  · have HE : Hid (R = false) := by show R = false; rw [unhide HW, decide_eq_false (show ¬ X.letters.length ≤ 30 by omega)]; simp
    go_wp2_with fail
    go_ret
    exact ⟨retB (unhide HE), unhide HB2⟩
  by_cases hb3 : (X.book.size : Int) ≤ 12000
  rotate_left
  · have HE : Hid (R = false) := by show R = false; rw [unhide HW, decide_eq_false (show ¬ X.book.size ≤ 12000 by omega)]; simp
    go_wp2_with fail
    go_ret
    exact ⟨retB (unhide HE), unhide HB2⟩
  go_wp2_with fail
  refine (unhide HI3 _).mono ?_
  rintro e w3 ⟨rfl, rfl⟩
  cases bs
  · have HE : Hid (R = false) := by show R = false; rw [unhide HW]; simp
    go_wp2_with fail
    go_ret
    exact ⟨retB (unhide HE), unhide HB2⟩
  have HW2 : Hid (R = (X.known.all okT && (X.letters.all leOk && (bd && bo)))) := by show R = _; rw [unhide HW, decide_eq_true (show X.known.length ≤ 300 by omega), decide_eq_true (show X.letters.length ≤ 30 by omega), decide_eq_true (show X.book.size ≤ 12000 by omega)]; rfl
  clear HW c5 c6 c7
  go_wp2_with fail
  go_loopw [3] (fun i wr => ∃ k : Nat, i = .int .i64 k ∧ Below w3.heap.size w3 wr ∧ k ≤ X.known.length ∧ ∀ j x, j < k → X.known[j]? = some x → okT x = true) (fun i _ => X.known.length - (intOf i).toNat)
  case atStart => exact ⟨0, rfl, Below.refl _ _, by omega, fun j x hj => by omega⟩
  case round =>
    obtain ⟨k, rfl, hb, hk, ha⟩ := hrel
    have HBrp := hide hb
    have HAp := hide ha
    clear ha
    have c2 : wr.cell? ⟨w.heap.size, 2, none⟩ = some (.slice ak X.known.length ck) := ((unhide HX2).on hb).cell rfl
    by_cases hp : k < X.known.length
    · obtain ⟨x, hkx⟩ : ∃ x, X.known[k]? = some x := ⟨_, List.getElem?_eq_getElem hp⟩
      obtain ⟨b, o, cs, hba, -, -, HR0, HT2, hcl0⟩ := ((unhide HYk).on (btG (unhide HB2) hb)).get hkx
      subst hba
      have HR := hide (show wr.rangeAt b (o + k * 4) cs from HR0)
      have hcl := hide (show cs.length = 4 from hcl0)
      have HC := hide (tmOkS x cs wr HT2 (unhide HKW x (List.mem_of_getElem? hkx)))
      have q2 : (k : Int) < (X.known.length : Int) := by omega
      have q3 : (0 : Int) ≤ (k : Int) := by omega
      have w1 : wrap64 ((k : Int) + 1) = ((k + 1 : Nat) : Int) := by unfold wrap64; omega
      have HK := hide hkx
      have HM : Hid (okT x = true → ∀ j y, j < k + 1 → X.known[j]? = some y → okT y = true) := fun hx j y hj hy => by
        rcases Nat.lt_or_ge j k with q | q
        · exact unhide HAp j y q hy
        · obtain rfl : j = k := by omega
          rw [unhide HK] at hy
          cases hy
          exact hx
      have HN : Hid (okT x = false → X.known.all okT = false) := fun hx => List.all_eq_false.2 ⟨x, List.mem_of_getElem? (unhide HK), by simp [hx]⟩
      clear hkx HR0 HT2 hcl0 hb
      generalize okT x = fx at *
      cases fx with
      | true =>
        go_wp2_with (refine wpList_load_mid rfl _ _ rfl b (o + k * 4) rfl cs _ (unhide HR) Tryz.underlying56 rfl (by rw [unhide hcl]; exact infoITm) ?_)
        refine (unhide HC).mono ?_
        rintro e w3 ⟨rfl, hb3⟩
        have HB3 := hide (btG (unhide HBrp) hb3)
        clear hb3
        go_wp2_with fail
        go_roundw
        case rel => exact ⟨k + 1, rfl, unhide HB3, by omega, unhide HM (by first | rfl | trivial)⟩
        case measure => simp only [intOf]; omega
      | false =>
        have HE : Hid (R = false) := by show R = false; rw [unhide HW2, unhide HN rfl]; simp
        go_wp2_with (refine wpList_load_mid rfl _ _ rfl b (o + k * 4) rfl cs _ (unhide HR) Tryz.underlying56 rfl (by rw [unhide hcl]; exact infoITm) ?_)
        refine (unhide HC).mono ?_
        rintro e w3 ⟨rfl, hb3⟩
        have HB3 := hide (btG (unhide HBrp) hb3)
        clear hb3
        go_wp2_with fail
        go_ret
        exact ⟨retB (unhide HE), btG (unhide HB2) (unhide HB3)⟩
    · have cN : ¬ (k : Int) < (X.known.length : Int) := by omega
      have HAll : X.known.all okT = true := List.all_eq_true.2 fun x hx => by
        obtain ⟨j, hj⟩ := List.getElem?_of_mem hx
        exact unhide HAp j x (by have := (List.getElem?_eq_some_iff.1 hj).1; omega) hj
      obtain ⟨V1, hV1⟩ : ∃ V, V = wr := ⟨_, rfl⟩
      have HXa : Hid (Box V1 w.heap.size 40 [.int .i64 X.time, .int .i64 X.fresh, .slice ak X.known.length ck, .slice ac X.cache.length cc, .slice ah X.hosts.length ch, .slice al X.letters.length cl, .string X.book, .int .i64 X.sure, .slice aa X.calls.length ca, .slice az X.talks.length cz, .slice ai X.told.length ci]) := by rw [hV1]; exact (unhide HX2).on hb
      have HBa : Hid (Below w.heap.size w V1) := by rw [hV1]; exact btG (unhide HB2) hb
      have HW2 : Hid (R = (X.letters.all leOk && (bd && bo))) := by show R = _; rw [unhide HW2, HAll]; rfl
      rw [← hV1] at c2 ⊢
      clear hV1 hb HAll
      go_wp2_with fail
      go_loopw [4] (fun i wr => ∃ k : Nat, i = .int .i64 k ∧ Below V1.heap.size V1 wr ∧ k ≤ X.letters.length ∧ ∀ j x, j < k → X.letters[j]? = some x → leOk x = true) (fun i _ => X.letters.length - (intOf i).toNat)
      case atStart => exact ⟨0, rfl, Below.refl _ _, by omega, fun j x hj => by omega⟩
      case round =>
        obtain ⟨k, rfl, hb, hk, ha⟩ := hrel
        have HBrq := hide hb
        have HAq := hide ha
        clear ha
        have c5 : wr.cell? ⟨w.heap.size, 5, none⟩ = some (.slice al X.letters.length cl) := ((unhide HXa).on hb).cell rfl
        by_cases hp : k < X.letters.length
        · obtain ⟨x, hkx⟩ : ∃ x, X.letters[k]? = some x := ⟨_, List.getElem?_eq_getElem hp⟩
          obtain ⟨b, o, cs, hba, -, -, HR0, HT2, hcl0⟩ := ((unhide HYl).on (btG (unhide HBa) hb)).get hkx
          subst hba
          have HR := hide (show wr.rangeAt b (o + k * 5) cs from HR0)
          have hcl := hide (show cs.length = 5 from hcl0)
          have HC := hide (leOkS x cs wr HT2 (unhide HLW x (List.mem_of_getElem? hkx)))
          have q2 : (k : Int) < (X.letters.length : Int) := by omega
          have q3 : (0 : Int) ≤ (k : Int) := by omega
          have w1 : wrap64 ((k : Int) + 1) = ((k + 1 : Nat) : Int) := by unfold wrap64; omega
          have HK := hide hkx
          have HM : Hid (leOk x = true → ∀ j y, j < k + 1 → X.letters[j]? = some y → leOk y = true) := fun hx j y hj hy => by
            rcases Nat.lt_or_ge j k with q | q
            · exact unhide HAq j y q hy
            · obtain rfl : j = k := by omega
              rw [unhide HK] at hy
              cases hy
              exact hx
          have HN : Hid (leOk x = false → X.letters.all leOk = false) := fun hx => List.all_eq_false.2 ⟨x, List.mem_of_getElem? (unhide HK), by simp [hx]⟩
          clear hkx HR0 HT2 hcl0 hb
          generalize leOk x = fx at *
          cases fx with
          | true =>
            go_wp2_with (refine wpList_load_mid rfl _ _ rfl b (o + k * 5) rfl cs _ (unhide HR) Tryz.underlying52 rfl (by rw [unhide hcl]; exact infoILe) ?_)
            refine (unhide HC).mono ?_
            rintro e w3 ⟨rfl, hb3⟩
            have HB3 := hide (btG (unhide HBrq) hb3)
            clear hb3
            go_wp2_with fail
            go_roundw
            case rel => exact ⟨k + 1, rfl, unhide HB3, by omega, unhide HM (by first | rfl | trivial)⟩
            case measure => simp only [intOf]; omega
          | false =>
            have HE : Hid (R = false) := by show R = false; rw [unhide HW2, unhide HN rfl]; simp
            go_wp2_with (refine wpList_load_mid rfl _ _ rfl b (o + k * 5) rfl cs _ (unhide HR) Tryz.underlying52 rfl (by rw [unhide hcl]; exact infoILe) ?_)
            refine (unhide HC).mono ?_
            rintro e w3 ⟨rfl, hb3⟩
            have HB3 := hide (btG (unhide HBrq) hb3)
            clear hb3
            go_wp2_with fail
            go_ret
            exact ⟨retB (unhide HE), btG (unhide HBa) (unhide HB3)⟩
        · have cN : ¬ (k : Int) < (X.letters.length : Int) := by omega
          have HAll : X.letters.all leOk = true := List.all_eq_true.2 fun x hx => by
            obtain ⟨j, hj⟩ := List.getElem?_of_mem hx
            exact unhide HAq j x (by have := (List.getElem?_eq_some_iff.1 hj).1; omega) hj
          obtain ⟨V2, hV2⟩ : ∃ V, V = wr := ⟨_, rfl⟩
          have HXb : Hid (Box V2 w.heap.size 40 [.int .i64 X.time, .int .i64 X.fresh, .slice ak X.known.length ck, .slice ac X.cache.length cc, .slice ah X.hosts.length ch, .slice al X.letters.length cl, .string X.book, .int .i64 X.sure, .slice aa X.calls.length ca, .slice az X.talks.length cz, .slice ai X.told.length ci]) := by rw [hV2]; exact (unhide HXa).on hb
          have HBb : Hid (Below w.heap.size w V2) := by rw [hV2]; exact btG (unhide HBa) hb
          have HW2 : Hid (R = (bd && bo)) := by show R = _; rw [unhide HW2, HAll]; rfl
          rw [← hV2] at c5 ⊢
          clear hV2 hb HAll
          go_wp2_with fail
          go_loopw [5] (fun i wr => ∃ k : Nat, i = .int .i64 k ∧ Below V2.heap.size V2 wr ∧ k ≤ X.told.length ∧ toldP X.told k) (fun i _ => X.told.length - (intOf i).toNat)
          case atStart => exact ⟨0, rfl, Below.refl _ _, by omega, fun j x hj => by omega⟩
          case round =>
            obtain ⟨k, rfl, hb, hk, ha⟩ := hrel
            have HBr := hide hb
            have HA := hide ha
            clear ha
            have c10 : wr.cell? ⟨w.heap.size, 10, none⟩ = some (.slice ai X.told.length ci) := ((unhide HXb).on hb).cell rfl
            by_cases hp : k < X.told.length
            · obtain ⟨x, hkx⟩ : ∃ x, X.told[k]? = some x := ⟨_, List.getElem?_eq_getElem hp⟩
              obtain ⟨b, o, hba, -, c0⟩ := ((unhide HYd).on (btG (unhide HBb) hb)) k x hkx
              subst hba
              have q2 : (k : Int) < (X.told.length : Int) := by omega
              have q3 : (0 : Int) ≤ (k : Int) := by omega
              have w1 : wrap64 ((k : Int) + 1) = ((k + 1 : Nat) : Int) := by unfold wrap64; omega
              have HQ := hide (fun v => in26 x 0 1000000 v)
              have HK := hide hkx
              clear hkx hb
              cases hx : inB x 0 1000000 with
              | false =>
                have HD : Hid (bd = false) := (unhide HTD).2 fun hq => by have := (hq k x (by omega) (unhide HK)).1; rw [hx] at this; cases this
                have HE : Hid (R = false) := by show R = false; rw [unhide HW2, unhide HD]; simp
                rw [hx] at HQ
                clear hx
                go_wp2_with fail
                refine wp_region_held (S := fun y => y.cell? ⟨w.heap.size, 10, none⟩ = some (.slice (some ⟨b, o, none⟩) X.told.length ci) ∧ y.cell? ⟨b, o + k, none⟩ = some (.int .i64 x)) Tryz.mixedO ?_
                have hS : (fun y : World => y.cell? ⟨w.heap.size, 10, none⟩ = some (.slice (some ⟨b, o, none⟩) X.told.length ci) ∧ y.cell? ⟨b, o + k, none⟩ = some (.int .i64 x)) wr.drew := ⟨c10, c0⟩
                show wpAnyH _ _ _ _ _ _ _ _ wr.drew
                refine wpAnyH_take (i := 0) (oi := { dst := some 90, op := Op.fieldAddr 40 (Operand.tmp 1) 10, type := 0, pos := "l13_world.go:50", after := #[], guard := none }) (v := ?_) rfl (by kernel_rfl) (by kernel_rfl) (by kernel_rfl) (fun _ _ _ h => h) (Or.inl ⟨by rfl, ?_⟩) hS ?_
                rotate_left
                · intro y hSy; obtain ⟨y0, y1⟩ := hSy; go_simp; try with_reducible rfl
                simp only [Act.put, List.setIfInBounds_toArray, List.set_cons_succ, List.set_cons_zero]
                refine wpAnyH_take (i := 1) (oi := { dst := some 91, op := Op.load 28 (Operand.tmp 90), type := 28, pos := "l13_world.go:50", after := #[{ on := 0, ground := Ground.data }], guard := none }) (v := ?_) rfl (by kernel_rfl) (by kernel_rfl) (by kernel_rfl) (fun _ _ _ h => h) (Or.inl ⟨by rfl, ?_⟩) hS ?_
                rotate_left
                · intro y hSy; obtain ⟨y0, y1⟩ := hSy; go_simp; try with_reducible rfl
                simp only [Act.put, List.setIfInBounds_toArray, List.set_cons_succ, List.set_cons_zero]
                refine wpAnyH_take (i := 2) (oi := { dst := some 92, op := Op.move (Operand.tmp 5), type := 3, pos := "l13_world.go:50", after := #[], guard := none }) (v := ?_) rfl (by kernel_rfl) (by kernel_rfl) (by kernel_rfl) (fun _ _ _ h => h) (Or.inl ⟨by rfl, ?_⟩) hS ?_
                rotate_left
                · intro y hSy; obtain ⟨y0, y1⟩ := hSy; go_simp; try with_reducible rfl
                simp only [Act.put, List.setIfInBounds_toArray, List.set_cons_succ, List.set_cons_zero]
                refine wpAnyH_take (i := 3) (oi := { dst := some 93, op := Op.indexAddr 28 (Operand.tmp 91) (Operand.tmp 92), type := 0, pos := "l13_world.go:50", after := #[{ on := 1, ground := Ground.data }, { on := 2, ground := Ground.data }], guard := none }) (v := ?_) rfl (by kernel_rfl) (by kernel_rfl) (by kernel_rfl) (fun _ _ _ h => h) (Or.inl ⟨by rfl, ?_⟩) hS ?_
                rotate_left
                · intro y hSy; obtain ⟨y0, y1⟩ := hSy; go_simp; try with_reducible rfl
                simp only [Act.put, List.setIfInBounds_toArray, List.set_cons_succ, List.set_cons_zero]
                refine wpAnyH_take (i := 4) (oi := { dst := some 94, op := Op.load 3 (Operand.tmp 93), type := 3, pos := "l13_world.go:50", after := #[{ on := 3, ground := Ground.data }], guard := none }) (v := ?_) rfl (by kernel_rfl) (by kernel_rfl) (by kernel_rfl) (fun _ _ _ h => h) (Or.inl ⟨by rfl, ?_⟩) hS ?_
                rotate_left
                · intro y hSy; obtain ⟨y0, y1⟩ := hSy; go_simp; try with_reducible rfl
                simp only [Act.put, List.setIfInBounds_toArray, List.set_cons_succ, List.set_cons_zero]
                refine wpAnyH_all (rs := [5]) (by kernel_rfl) (by simp) ?_
                intro i hi
                simp only [List.mem_singleton] at hi
                subst hi
                refine step_call (f := 42) (fn := Tryz.f42) (d := 95) (args := #[.int .i64 x, .int .i64 0, .int .i64 1000000]) rfl Tryz.func42 (by kernel_rfl) (by kernel_rfl) (by simp [Act.eval]) ?_
                refine (unhide HQ _).mono ?_
                rintro e w2 ⟨rfl, rfl⟩
                refine ⟨_, rfl, ?_⟩
                refine ⟨hS, ?_⟩
                simp only [Act.put, List.setIfInBounds_toArray, List.set_cons_succ, List.set_cons_zero]
                refine wpAnyH_take (i := 6) (oi := { dst := some 96, op := Op.unOp UnOp.not 4 (Operand.tmp 95), type := 4, pos := "l13_world.go:50", after := #[{ on := 5, ground := Ground.data }], guard := none }) (v := ?_) rfl (by kernel_rfl) (by kernel_rfl) (by kernel_rfl) (fun _ _ _ h => h) (Or.inl ⟨by rfl, ?_⟩) hS ?_
                rotate_left
                · intro y hSy; obtain ⟨y0, y1⟩ := hSy; go_simp; try with_reducible rfl
                simp only [Act.put, List.setIfInBounds_toArray, List.set_cons_succ, List.set_cons_zero]
                refine wpAnyH_take (i := 7) (oi := { dst := some 97, op := Op.move (Operand.tmp 96), type := 4, pos := "l13_world.go:50", after := #[{ on := 6, ground := Ground.data }, { on := 5, ground := Ground.chain }], guard := none }) (v := ?_) rfl (by kernel_rfl) (by kernel_rfl) (by kernel_rfl) (fun _ _ _ h => h) (Or.inl ⟨by rfl, ?_⟩) hS ?_
                rotate_left
                · intro y hSy; obtain ⟨y0, y1⟩ := hSy; go_simp; try with_reducible rfl
                simp only [Act.put, List.setIfInBounds_toArray, List.set_cons_succ, List.set_cons_zero]
                refine wpAnyH_take (i := 8) (oi := { dst := some 98, op := Op.move (Operand.tmp 5), type := 3, pos := "l13_world.go:50", after := #[{ on := 7, ground := Ground.guard }], guard := some (7, false) }) (v := undef) rfl (by kernel_rfl) (by kernel_rfl) (by kernel_rfl) (fun _ _ _ h => h) (Or.inr ⟨by rfl, rfl⟩) hS ?_
                simp only [Act.put, List.setIfInBounds_toArray, List.set_cons_succ, List.set_cons_zero]
                refine wpAnyH_take (i := 9) (oi := { dst := some 99, op := Op.binOp BinOp.gtr 3 (Operand.tmp 98) (Operand.const (Value.int IntKind.i64 0)) 3, type := 4, pos := "l13_world.go:50", after := #[{ on := 8, ground := Ground.data }, { on := 7, ground := Ground.guard }], guard := some (7, false) }) (v := undef) rfl (by kernel_rfl) (by kernel_rfl) (by kernel_rfl) (fun _ _ _ h => h) (Or.inr ⟨by rfl, rfl⟩) hS ?_
                simp only [Act.put, List.setIfInBounds_toArray, List.set_cons_succ, List.set_cons_zero]
                refine wpAnyH_take (i := 10) (oi := { dst := some 100, op := Op.move (Operand.tmp 99), type := 4, pos := "l13_world.go:50", after := #[{ on := 9, ground := Ground.data }, { on := 7, ground := Ground.chain }, { on := 7, ground := Ground.guard }], guard := some (7, false) }) (v := undef) rfl (by kernel_rfl) (by kernel_rfl) (by kernel_rfl) (fun _ _ _ h => h) (Or.inr ⟨by rfl, rfl⟩) hS ?_
                simp only [Act.put, List.setIfInBounds_toArray, List.set_cons_succ, List.set_cons_zero]
                refine wpAnyH_take (i := 11) (oi := { dst := some 101, op := Op.fieldAddr 40 (Operand.tmp 1) 10, type := 0, pos := "l13_world.go:50", after := #[{ on := 10, ground := Ground.guard }], guard := some (10, true) }) (v := undef) rfl (by kernel_rfl) (by kernel_rfl) (by kernel_rfl) (fun _ _ _ h => h) (Or.inr ⟨by rfl, rfl⟩) hS ?_
                simp only [Act.put, List.setIfInBounds_toArray, List.set_cons_succ, List.set_cons_zero]
                refine wpAnyH_take (i := 12) (oi := { dst := some 102, op := Op.load 28 (Operand.tmp 101), type := 28, pos := "l13_world.go:50", after := #[{ on := 11, ground := Ground.data }, { on := 10, ground := Ground.guard }], guard := some (10, true) }) (v := undef) rfl (by kernel_rfl) (by kernel_rfl) (by kernel_rfl) (fun _ _ _ h => h) (Or.inr ⟨by rfl, rfl⟩) hS ?_
                simp only [Act.put, List.setIfInBounds_toArray, List.set_cons_succ, List.set_cons_zero]
                refine wpAnyH_take (i := 13) (oi := { dst := some 103, op := Op.move (Operand.tmp 5), type := 3, pos := "l13_world.go:50", after := #[{ on := 10, ground := Ground.guard }], guard := some (10, true) }) (v := undef) rfl (by kernel_rfl) (by kernel_rfl) (by kernel_rfl) (fun _ _ _ h => h) (Or.inr ⟨by rfl, rfl⟩) hS ?_
                simp only [Act.put, List.setIfInBounds_toArray, List.set_cons_succ, List.set_cons_zero]
                refine wpAnyH_take (i := 14) (oi := { dst := some 104, op := Op.binOp BinOp.sub 3 (Operand.tmp 103) (Operand.const (Value.int IntKind.i64 1)) 3, type := 3, pos := "l13_world.go:50", after := #[{ on := 13, ground := Ground.data }, { on := 10, ground := Ground.guard }], guard := some (10, true) }) (v := undef) rfl (by kernel_rfl) (by kernel_rfl) (by kernel_rfl) (fun _ _ _ h => h) (Or.inr ⟨by rfl, rfl⟩) hS ?_
                simp only [Act.put, List.setIfInBounds_toArray, List.set_cons_succ, List.set_cons_zero]
                refine wpAnyH_take (i := 15) (oi := { dst := some 105, op := Op.indexAddr 28 (Operand.tmp 102) (Operand.tmp 104), type := 0, pos := "l13_world.go:50", after := #[{ on := 12, ground := Ground.data }, { on := 14, ground := Ground.data }, { on := 10, ground := Ground.guard }], guard := some (10, true) }) (v := undef) rfl (by kernel_rfl) (by kernel_rfl) (by kernel_rfl) (fun _ _ _ h => h) (Or.inr ⟨by rfl, rfl⟩) hS ?_
                simp only [Act.put, List.setIfInBounds_toArray, List.set_cons_succ, List.set_cons_zero]
                refine wpAnyH_take (i := 16) (oi := { dst := some 106, op := Op.load 3 (Operand.tmp 105), type := 3, pos := "l13_world.go:50", after := #[{ on := 15, ground := Ground.data }, { on := 10, ground := Ground.guard }], guard := some (10, true) }) (v := undef) rfl (by kernel_rfl) (by kernel_rfl) (by kernel_rfl) (fun _ _ _ h => h) (Or.inr ⟨by rfl, rfl⟩) hS ?_
                simp only [Act.put, List.setIfInBounds_toArray, List.set_cons_succ, List.set_cons_zero]
                refine wpAnyH_take (i := 17) (oi := { dst := some 107, op := Op.fieldAddr 40 (Operand.tmp 1) 10, type := 0, pos := "l13_world.go:50", after := #[{ on := 10, ground := Ground.guard }], guard := some (10, true) }) (v := undef) rfl (by kernel_rfl) (by kernel_rfl) (by kernel_rfl) (fun _ _ _ h => h) (Or.inr ⟨by rfl, rfl⟩) hS ?_
                simp only [Act.put, List.setIfInBounds_toArray, List.set_cons_succ, List.set_cons_zero]
                refine wpAnyH_take (i := 18) (oi := { dst := some 108, op := Op.load 28 (Operand.tmp 107), type := 28, pos := "l13_world.go:50", after := #[{ on := 17, ground := Ground.data }, { on := 10, ground := Ground.guard }], guard := some (10, true) }) (v := undef) rfl (by kernel_rfl) (by kernel_rfl) (by kernel_rfl) (fun _ _ _ h => h) (Or.inr ⟨by rfl, rfl⟩) hS ?_
                simp only [Act.put, List.setIfInBounds_toArray, List.set_cons_succ, List.set_cons_zero]
                refine wpAnyH_take (i := 19) (oi := { dst := some 109, op := Op.move (Operand.tmp 5), type := 3, pos := "l13_world.go:50", after := #[{ on := 10, ground := Ground.guard }], guard := some (10, true) }) (v := undef) rfl (by kernel_rfl) (by kernel_rfl) (by kernel_rfl) (fun _ _ _ h => h) (Or.inr ⟨by rfl, rfl⟩) hS ?_
                simp only [Act.put, List.setIfInBounds_toArray, List.set_cons_succ, List.set_cons_zero]
                refine wpAnyH_take (i := 20) (oi := { dst := some 110, op := Op.indexAddr 28 (Operand.tmp 108) (Operand.tmp 109), type := 0, pos := "l13_world.go:50", after := #[{ on := 18, ground := Ground.data }, { on := 19, ground := Ground.data }, { on := 10, ground := Ground.guard }], guard := some (10, true) }) (v := undef) rfl (by kernel_rfl) (by kernel_rfl) (by kernel_rfl) (fun _ _ _ h => h) (Or.inr ⟨by rfl, rfl⟩) hS ?_
                simp only [Act.put, List.setIfInBounds_toArray, List.set_cons_succ, List.set_cons_zero]
                refine wpAnyH_take (i := 21) (oi := { dst := some 111, op := Op.load 3 (Operand.tmp 110), type := 3, pos := "l13_world.go:50", after := #[{ on := 20, ground := Ground.data }, { on := 10, ground := Ground.guard }], guard := some (10, true) }) (v := undef) rfl (by kernel_rfl) (by kernel_rfl) (by kernel_rfl) (fun _ _ _ h => h) (Or.inr ⟨by rfl, rfl⟩) hS ?_
                simp only [Act.put, List.setIfInBounds_toArray, List.set_cons_succ, List.set_cons_zero]
                refine wpAnyH_take (i := 22) (oi := { dst := some 112, op := Op.binOp BinOp.geq 3 (Operand.tmp 106) (Operand.tmp 111) 3, type := 4, pos := "l13_world.go:50", after := #[{ on := 16, ground := Ground.data }, { on := 21, ground := Ground.data }, { on := 10, ground := Ground.guard }], guard := some (10, true) }) (v := undef) rfl (by kernel_rfl) (by kernel_rfl) (by kernel_rfl) (fun _ _ _ h => h) (Or.inr ⟨by rfl, rfl⟩) hS ?_
                simp only [Act.put, List.setIfInBounds_toArray, List.set_cons_succ, List.set_cons_zero]
                refine wpAnyH_take (i := 23) (oi := { dst := some 113, op := Op.pick (Operand.tmp 100) (Operand.tmp 112) (Operand.const (Value.bool false)), type := 4, pos := "l13_world.go:50", after := #[{ on := 10, ground := Ground.data }, { on := 22, ground := Ground.data }, { on := 7, ground := Ground.guard }], guard := some (7, false) }) (v := undef) rfl (by kernel_rfl) (by kernel_rfl) (by kernel_rfl) (fun _ _ _ h => h) (Or.inr ⟨by rfl, rfl⟩) hS ?_
                simp only [Act.put, List.setIfInBounds_toArray, List.set_cons_succ, List.set_cons_zero]
                refine wpAnyH_take (i := 24) (oi := { dst := some 114, op := Op.pick (Operand.tmp 97) (Operand.const (Value.bool true)) (Operand.tmp 113), type := 4, pos := "l13_world.go:50", after := #[{ on := 7, ground := Ground.data }, { on := 23, ground := Ground.data }], guard := none }) (v := ?_) rfl (by kernel_rfl) (by kernel_rfl) (by kernel_rfl) (fun _ _ _ h => h) (Or.inl ⟨by rfl, ?_⟩) hS ?_
                rotate_left
                · intro y hSy; obtain ⟨y0, y1⟩ := hSy; go_simp; try with_reducible rfl
                simp only [Act.put, List.setIfInBounds_toArray, List.set_cons_succ, List.set_cons_zero]
                refine wpAnyH_done (by kernel_rfl) ?_ _
                go_wp2_with fail
                go_ret
                exact ⟨retB (unhide HE), (btG (unhide HBb) (unhide HBr)).drew⟩
              | true =>
                have HX := hide hx
                rw [hx] at HQ
                clear hx
                by_cases hk0 : k = 0
                · subst hk0
                  have HM : Hid (toldP X.told 1) := fun j y hj hy => by
                    obtain rfl : j = 0 := by omega
                    rw [unhide HK] at hy
                    cases hy
                    exact ⟨unhide HX, fun z hz hq => absurd rfl hq⟩
                  have c0' : wr.cell? ⟨b, o, none⟩ = some (.int .i64 x) := c0
                  clear c0
                  go_wp2_with fail
                  refine wp_region_held (S := fun y => y.cell? ⟨w.heap.size, 10, none⟩ = some (.slice (some ⟨b, o, none⟩) X.told.length ci) ∧ y.cell? ⟨b, o, none⟩ = some (.int .i64 x)) Tryz.mixedO ?_
                  have hS : (fun y : World => y.cell? ⟨w.heap.size, 10, none⟩ = some (.slice (some ⟨b, o, none⟩) X.told.length ci) ∧ y.cell? ⟨b, o, none⟩ = some (.int .i64 x)) wr.drew := ⟨c10, c0'⟩
                  show wpAnyH _ _ _ _ _ _ _ _ wr.drew
                  refine wpAnyH_take (i := 0) (oi := { dst := some 90, op := Op.fieldAddr 40 (Operand.tmp 1) 10, type := 0, pos := "l13_world.go:50", after := #[], guard := none }) (v := ?_) rfl (by kernel_rfl) (by kernel_rfl) (by kernel_rfl) (fun _ _ _ h => h) (Or.inl ⟨by rfl, ?_⟩) hS ?_
                  rotate_left
                  · intro y hSy; obtain ⟨y0, y1⟩ := hSy; go_simp; try with_reducible rfl
                  simp only [Act.put, List.setIfInBounds_toArray, List.set_cons_succ, List.set_cons_zero]
                  refine wpAnyH_take (i := 1) (oi := { dst := some 91, op := Op.load 28 (Operand.tmp 90), type := 28, pos := "l13_world.go:50", after := #[{ on := 0, ground := Ground.data }], guard := none }) (v := ?_) rfl (by kernel_rfl) (by kernel_rfl) (by kernel_rfl) (fun _ _ _ h => h) (Or.inl ⟨by rfl, ?_⟩) hS ?_
                  rotate_left
                  · intro y hSy; obtain ⟨y0, y1⟩ := hSy; go_simp; try with_reducible rfl
                  simp only [Act.put, List.setIfInBounds_toArray, List.set_cons_succ, List.set_cons_zero]
                  refine wpAnyH_take (i := 2) (oi := { dst := some 92, op := Op.move (Operand.tmp 5), type := 3, pos := "l13_world.go:50", after := #[], guard := none }) (v := ?_) rfl (by kernel_rfl) (by kernel_rfl) (by kernel_rfl) (fun _ _ _ h => h) (Or.inl ⟨by rfl, ?_⟩) hS ?_
                  rotate_left
                  · intro y hSy; obtain ⟨y0, y1⟩ := hSy; go_simp; try with_reducible rfl
                  simp only [Act.put, List.setIfInBounds_toArray, List.set_cons_succ, List.set_cons_zero]
                  refine wpAnyH_take (i := 3) (oi := { dst := some 93, op := Op.indexAddr 28 (Operand.tmp 91) (Operand.tmp 92), type := 0, pos := "l13_world.go:50", after := #[{ on := 1, ground := Ground.data }, { on := 2, ground := Ground.data }], guard := none }) (v := ?_) rfl (by kernel_rfl) (by kernel_rfl) (by kernel_rfl) (fun _ _ _ h => h) (Or.inl ⟨by rfl, ?_⟩) hS ?_
                  rotate_left
                  · intro y hSy; obtain ⟨y0, y1⟩ := hSy; go_simp; try with_reducible rfl
                  simp only [Act.put, List.setIfInBounds_toArray, List.set_cons_succ, List.set_cons_zero]
                  refine wpAnyH_take (i := 4) (oi := { dst := some 94, op := Op.load 3 (Operand.tmp 93), type := 3, pos := "l13_world.go:50", after := #[{ on := 3, ground := Ground.data }], guard := none }) (v := ?_) rfl (by kernel_rfl) (by kernel_rfl) (by kernel_rfl) (fun _ _ _ h => h) (Or.inl ⟨by rfl, ?_⟩) hS ?_
                  rotate_left
                  · intro y hSy; obtain ⟨y0, y1⟩ := hSy; go_simp; try with_reducible rfl
                  simp only [Act.put, List.setIfInBounds_toArray, List.set_cons_succ, List.set_cons_zero]
                  refine wpAnyH_all (rs := [5]) (by kernel_rfl) (by simp) ?_
                  intro i hi
                  simp only [List.mem_singleton] at hi
                  subst hi
                  refine step_call (f := 42) (fn := Tryz.f42) (d := 95) (args := #[.int .i64 x, .int .i64 0, .int .i64 1000000]) rfl Tryz.func42 (by kernel_rfl) (by kernel_rfl) (by simp [Act.eval]) ?_
                  refine (unhide HQ _).mono ?_
                  rintro e w2 ⟨rfl, rfl⟩
                  refine ⟨_, rfl, ?_⟩
                  refine ⟨hS, ?_⟩
                  simp only [Act.put, List.setIfInBounds_toArray, List.set_cons_succ, List.set_cons_zero]
                  refine wpAnyH_take (i := 6) (oi := { dst := some 96, op := Op.unOp UnOp.not 4 (Operand.tmp 95), type := 4, pos := "l13_world.go:50", after := #[{ on := 5, ground := Ground.data }], guard := none }) (v := ?_) rfl (by kernel_rfl) (by kernel_rfl) (by kernel_rfl) (fun _ _ _ h => h) (Or.inl ⟨by rfl, ?_⟩) hS ?_
                  rotate_left
                  · intro y hSy; obtain ⟨y0, y1⟩ := hSy; go_simp; try with_reducible rfl
                  simp only [Act.put, List.setIfInBounds_toArray, List.set_cons_succ, List.set_cons_zero]
                  refine wpAnyH_take (i := 7) (oi := { dst := some 97, op := Op.move (Operand.tmp 96), type := 4, pos := "l13_world.go:50", after := #[{ on := 6, ground := Ground.data }, { on := 5, ground := Ground.chain }], guard := none }) (v := ?_) rfl (by kernel_rfl) (by kernel_rfl) (by kernel_rfl) (fun _ _ _ h => h) (Or.inl ⟨by rfl, ?_⟩) hS ?_
                  rotate_left
                  · intro y hSy; obtain ⟨y0, y1⟩ := hSy; go_simp; try with_reducible rfl
                  simp only [Act.put, List.setIfInBounds_toArray, List.set_cons_succ, List.set_cons_zero]
                  refine wpAnyH_take (i := 8) (oi := { dst := some 98, op := Op.move (Operand.tmp 5), type := 3, pos := "l13_world.go:50", after := #[{ on := 7, ground := Ground.guard }], guard := some (7, false) }) (v := ?_) rfl (by kernel_rfl) (by kernel_rfl) (by kernel_rfl) (fun _ _ _ h => h) (Or.inl ⟨by rfl, ?_⟩) hS ?_
                  rotate_left
                  · intro y hSy; obtain ⟨y0, y1⟩ := hSy; go_simp; try with_reducible rfl
                  simp only [Act.put, List.setIfInBounds_toArray, List.set_cons_succ, List.set_cons_zero]
                  refine wpAnyH_take (i := 9) (oi := { dst := some 99, op := Op.binOp BinOp.gtr 3 (Operand.tmp 98) (Operand.const (Value.int IntKind.i64 0)) 3, type := 4, pos := "l13_world.go:50", after := #[{ on := 8, ground := Ground.data }, { on := 7, ground := Ground.guard }], guard := some (7, false) }) (v := ?_) rfl (by kernel_rfl) (by kernel_rfl) (by kernel_rfl) (fun _ _ _ h => h) (Or.inl ⟨by rfl, ?_⟩) hS ?_
                  rotate_left
                  · intro y hSy; obtain ⟨y0, y1⟩ := hSy; go_simp; try with_reducible rfl
                  simp only [Act.put, List.setIfInBounds_toArray, List.set_cons_succ, List.set_cons_zero]
                  refine wpAnyH_take (i := 10) (oi := { dst := some 100, op := Op.move (Operand.tmp 99), type := 4, pos := "l13_world.go:50", after := #[{ on := 9, ground := Ground.data }, { on := 7, ground := Ground.chain }, { on := 7, ground := Ground.guard }], guard := some (7, false) }) (v := ?_) rfl (by kernel_rfl) (by kernel_rfl) (by kernel_rfl) (fun _ _ _ h => h) (Or.inl ⟨by rfl, ?_⟩) hS ?_
                  rotate_left
                  · intro y hSy; obtain ⟨y0, y1⟩ := hSy; go_simp; try with_reducible rfl
                  simp only [Act.put, List.setIfInBounds_toArray, List.set_cons_succ, List.set_cons_zero]
                  refine wpAnyH_take (i := 11) (oi := { dst := some 101, op := Op.fieldAddr 40 (Operand.tmp 1) 10, type := 0, pos := "l13_world.go:50", after := #[{ on := 10, ground := Ground.guard }], guard := some (10, true) }) (v := undef) rfl (by kernel_rfl) (by kernel_rfl) (by kernel_rfl) (fun _ _ _ h => h) (Or.inr ⟨by rfl, rfl⟩) hS ?_
                  simp only [Act.put, List.setIfInBounds_toArray, List.set_cons_succ, List.set_cons_zero]
                  refine wpAnyH_take (i := 12) (oi := { dst := some 102, op := Op.load 28 (Operand.tmp 101), type := 28, pos := "l13_world.go:50", after := #[{ on := 11, ground := Ground.data }, { on := 10, ground := Ground.guard }], guard := some (10, true) }) (v := undef) rfl (by kernel_rfl) (by kernel_rfl) (by kernel_rfl) (fun _ _ _ h => h) (Or.inr ⟨by rfl, rfl⟩) hS ?_
                  simp only [Act.put, List.setIfInBounds_toArray, List.set_cons_succ, List.set_cons_zero]
                  refine wpAnyH_take (i := 13) (oi := { dst := some 103, op := Op.move (Operand.tmp 5), type := 3, pos := "l13_world.go:50", after := #[{ on := 10, ground := Ground.guard }], guard := some (10, true) }) (v := undef) rfl (by kernel_rfl) (by kernel_rfl) (by kernel_rfl) (fun _ _ _ h => h) (Or.inr ⟨by rfl, rfl⟩) hS ?_
                  simp only [Act.put, List.setIfInBounds_toArray, List.set_cons_succ, List.set_cons_zero]
                  refine wpAnyH_take (i := 14) (oi := { dst := some 104, op := Op.binOp BinOp.sub 3 (Operand.tmp 103) (Operand.const (Value.int IntKind.i64 1)) 3, type := 3, pos := "l13_world.go:50", after := #[{ on := 13, ground := Ground.data }, { on := 10, ground := Ground.guard }], guard := some (10, true) }) (v := undef) rfl (by kernel_rfl) (by kernel_rfl) (by kernel_rfl) (fun _ _ _ h => h) (Or.inr ⟨by rfl, rfl⟩) hS ?_
                  simp only [Act.put, List.setIfInBounds_toArray, List.set_cons_succ, List.set_cons_zero]
                  refine wpAnyH_take (i := 15) (oi := { dst := some 105, op := Op.indexAddr 28 (Operand.tmp 102) (Operand.tmp 104), type := 0, pos := "l13_world.go:50", after := #[{ on := 12, ground := Ground.data }, { on := 14, ground := Ground.data }, { on := 10, ground := Ground.guard }], guard := some (10, true) }) (v := undef) rfl (by kernel_rfl) (by kernel_rfl) (by kernel_rfl) (fun _ _ _ h => h) (Or.inr ⟨by rfl, rfl⟩) hS ?_
                  simp only [Act.put, List.setIfInBounds_toArray, List.set_cons_succ, List.set_cons_zero]
                  refine wpAnyH_take (i := 16) (oi := { dst := some 106, op := Op.load 3 (Operand.tmp 105), type := 3, pos := "l13_world.go:50", after := #[{ on := 15, ground := Ground.data }, { on := 10, ground := Ground.guard }], guard := some (10, true) }) (v := undef) rfl (by kernel_rfl) (by kernel_rfl) (by kernel_rfl) (fun _ _ _ h => h) (Or.inr ⟨by rfl, rfl⟩) hS ?_
                  simp only [Act.put, List.setIfInBounds_toArray, List.set_cons_succ, List.set_cons_zero]
                  refine wpAnyH_take (i := 17) (oi := { dst := some 107, op := Op.fieldAddr 40 (Operand.tmp 1) 10, type := 0, pos := "l13_world.go:50", after := #[{ on := 10, ground := Ground.guard }], guard := some (10, true) }) (v := undef) rfl (by kernel_rfl) (by kernel_rfl) (by kernel_rfl) (fun _ _ _ h => h) (Or.inr ⟨by rfl, rfl⟩) hS ?_
                  simp only [Act.put, List.setIfInBounds_toArray, List.set_cons_succ, List.set_cons_zero]
                  refine wpAnyH_take (i := 18) (oi := { dst := some 108, op := Op.load 28 (Operand.tmp 107), type := 28, pos := "l13_world.go:50", after := #[{ on := 17, ground := Ground.data }, { on := 10, ground := Ground.guard }], guard := some (10, true) }) (v := undef) rfl (by kernel_rfl) (by kernel_rfl) (by kernel_rfl) (fun _ _ _ h => h) (Or.inr ⟨by rfl, rfl⟩) hS ?_
                  simp only [Act.put, List.setIfInBounds_toArray, List.set_cons_succ, List.set_cons_zero]
                  refine wpAnyH_take (i := 19) (oi := { dst := some 109, op := Op.move (Operand.tmp 5), type := 3, pos := "l13_world.go:50", after := #[{ on := 10, ground := Ground.guard }], guard := some (10, true) }) (v := undef) rfl (by kernel_rfl) (by kernel_rfl) (by kernel_rfl) (fun _ _ _ h => h) (Or.inr ⟨by rfl, rfl⟩) hS ?_
                  simp only [Act.put, List.setIfInBounds_toArray, List.set_cons_succ, List.set_cons_zero]
                  refine wpAnyH_take (i := 20) (oi := { dst := some 110, op := Op.indexAddr 28 (Operand.tmp 108) (Operand.tmp 109), type := 0, pos := "l13_world.go:50", after := #[{ on := 18, ground := Ground.data }, { on := 19, ground := Ground.data }, { on := 10, ground := Ground.guard }], guard := some (10, true) }) (v := undef) rfl (by kernel_rfl) (by kernel_rfl) (by kernel_rfl) (fun _ _ _ h => h) (Or.inr ⟨by rfl, rfl⟩) hS ?_
                  simp only [Act.put, List.setIfInBounds_toArray, List.set_cons_succ, List.set_cons_zero]
                  refine wpAnyH_take (i := 21) (oi := { dst := some 111, op := Op.load 3 (Operand.tmp 110), type := 3, pos := "l13_world.go:50", after := #[{ on := 20, ground := Ground.data }, { on := 10, ground := Ground.guard }], guard := some (10, true) }) (v := undef) rfl (by kernel_rfl) (by kernel_rfl) (by kernel_rfl) (fun _ _ _ h => h) (Or.inr ⟨by rfl, rfl⟩) hS ?_
                  simp only [Act.put, List.setIfInBounds_toArray, List.set_cons_succ, List.set_cons_zero]
                  refine wpAnyH_take (i := 22) (oi := { dst := some 112, op := Op.binOp BinOp.geq 3 (Operand.tmp 106) (Operand.tmp 111) 3, type := 4, pos := "l13_world.go:50", after := #[{ on := 16, ground := Ground.data }, { on := 21, ground := Ground.data }, { on := 10, ground := Ground.guard }], guard := some (10, true) }) (v := undef) rfl (by kernel_rfl) (by kernel_rfl) (by kernel_rfl) (fun _ _ _ h => h) (Or.inr ⟨by rfl, rfl⟩) hS ?_
                  simp only [Act.put, List.setIfInBounds_toArray, List.set_cons_succ, List.set_cons_zero]
                  refine wpAnyH_take (i := 23) (oi := { dst := some 113, op := Op.pick (Operand.tmp 100) (Operand.tmp 112) (Operand.const (Value.bool false)), type := 4, pos := "l13_world.go:50", after := #[{ on := 10, ground := Ground.data }, { on := 22, ground := Ground.data }, { on := 7, ground := Ground.guard }], guard := some (7, false) }) (v := ?_) rfl (by kernel_rfl) (by kernel_rfl) (by kernel_rfl) (fun _ _ _ h => h) (Or.inl ⟨by rfl, ?_⟩) hS ?_
                  rotate_left
                  · intro y hSy; obtain ⟨y0, y1⟩ := hSy; go_simp; try with_reducible rfl
                  simp only [Act.put, List.setIfInBounds_toArray, List.set_cons_succ, List.set_cons_zero]
                  refine wpAnyH_take (i := 24) (oi := { dst := some 114, op := Op.pick (Operand.tmp 97) (Operand.const (Value.bool true)) (Operand.tmp 113), type := 4, pos := "l13_world.go:50", after := #[{ on := 7, ground := Ground.data }, { on := 23, ground := Ground.data }], guard := none }) (v := ?_) rfl (by kernel_rfl) (by kernel_rfl) (by kernel_rfl) (fun _ _ _ h => h) (Or.inl ⟨by rfl, ?_⟩) hS ?_
                  rotate_left
                  · intro y hSy; obtain ⟨y0, y1⟩ := hSy; go_simp; try with_reducible rfl
                  simp only [Act.put, List.setIfInBounds_toArray, List.set_cons_succ, List.set_cons_zero]
                  refine wpAnyH_done (by kernel_rfl) ?_ _
                  go_wp2_with fail
                  go_roundw
                  case rel => exact ⟨1, by first | rfl | simp, (unhide HBr).drew, by omega, unhide HM⟩
                  case measure => simp only [intOf]; simp at hp ⊢; omega
                · obtain ⟨j, hj⟩ : ∃ j, k = j + 1 := ⟨k - 1, by omega⟩
                  obtain ⟨yy, hjy⟩ : ∃ yy, X.told[j]? = some yy := ⟨_, List.getElem?_eq_getElem (by omega)⟩
                  obtain ⟨b', o', hbo, -, c1⟩ := ((unhide HYd).on (btG (unhide HBb) (unhide HBr))) j yy hjy
                  cases hbo
                  have w3 : wrap64 ((k : Int) - 1) = (j : Int) := by unfold wrap64; omega
                  have w4 : IntKind.i64.wrap ((k : Int) - 1) = (j : Int) := (IntWalk.i64_in _ ⟨by omega, by omega⟩).trans (by omega)
                  have q5 : (0 : Int) ≤ (j : Int) := by omega
                  have q6 : (j : Int) < (X.told.length : Int) := by omega
                  have q4 : (0 : Int) < (k : Int) := by omega
                  have q10 : 0 < k := by omega
                  have q11 : decide ((0 : Int) < (k : Int)) = true := decide_eq_true q4
                  have q12 : decide (0 < k) = true := decide_eq_true q10
                  have HJ := hide hjy
                  have HKJ := hide hj
                  have q7 := hide hp
                  clear hjy hj hk0
                  by_cases hyx : yy < x
                  · have HM : Hid (toldP X.told (k + 1)) := fun i z hi hz => by
                      rcases Nat.lt_or_ge i k with q | q
                      · exact unhide HA i z q hz
                      · obtain rfl : i = k := by omega
                        rw [unhide HK] at hz
                        cases hz
                        refine ⟨unhide HX, fun u hu _ => ?_⟩
                        rw [sub1N (unhide HKJ), unhide HJ] at hu
                        cases hu
                        exact hyx
                    have hyx' : ¬ x ≤ yy := by omega
                    go_wp2_with fail
                    refine wp_region_held (S := fun y => y.cell? ⟨w.heap.size, 10, none⟩ = some (.slice (some ⟨b, o, none⟩) X.told.length ci) ∧ y.cell? ⟨b, o + k, none⟩ = some (.int .i64 x) ∧ y.cell? ⟨b, o + j, none⟩ = some (.int .i64 yy)) Tryz.mixedO ?_
                    have hS : (fun y : World => y.cell? ⟨w.heap.size, 10, none⟩ = some (.slice (some ⟨b, o, none⟩) X.told.length ci) ∧ y.cell? ⟨b, o + k, none⟩ = some (.int .i64 x) ∧ y.cell? ⟨b, o + j, none⟩ = some (.int .i64 yy)) wr.drew := ⟨c10, c0, c1⟩
                    show wpAnyH _ _ _ _ _ _ _ _ wr.drew
                    refine wpAnyH_take (i := 0) (oi := { dst := some 90, op := Op.fieldAddr 40 (Operand.tmp 1) 10, type := 0, pos := "l13_world.go:50", after := #[], guard := none }) (v := ?_) rfl (by kernel_rfl) (by kernel_rfl) (by kernel_rfl) (fun _ _ _ h => h) (Or.inl ⟨by rfl, ?_⟩) hS ?_
                    rotate_left
                    · intro y hSy; obtain ⟨y0, y1, y2⟩ := hSy; go_simp; try with_reducible rfl
                    simp only [Act.put, List.setIfInBounds_toArray, List.set_cons_succ, List.set_cons_zero]
                    refine wpAnyH_take (i := 1) (oi := { dst := some 91, op := Op.load 28 (Operand.tmp 90), type := 28, pos := "l13_world.go:50", after := #[{ on := 0, ground := Ground.data }], guard := none }) (v := ?_) rfl (by kernel_rfl) (by kernel_rfl) (by kernel_rfl) (fun _ _ _ h => h) (Or.inl ⟨by rfl, ?_⟩) hS ?_
                    rotate_left
                    · intro y hSy; obtain ⟨y0, y1, y2⟩ := hSy; go_simp; try with_reducible rfl
                    simp only [Act.put, List.setIfInBounds_toArray, List.set_cons_succ, List.set_cons_zero]
                    refine wpAnyH_take (i := 2) (oi := { dst := some 92, op := Op.move (Operand.tmp 5), type := 3, pos := "l13_world.go:50", after := #[], guard := none }) (v := ?_) rfl (by kernel_rfl) (by kernel_rfl) (by kernel_rfl) (fun _ _ _ h => h) (Or.inl ⟨by rfl, ?_⟩) hS ?_
                    rotate_left
                    · intro y hSy; obtain ⟨y0, y1, y2⟩ := hSy; go_simp; try with_reducible rfl
                    simp only [Act.put, List.setIfInBounds_toArray, List.set_cons_succ, List.set_cons_zero]
                    refine wpAnyH_take (i := 3) (oi := { dst := some 93, op := Op.indexAddr 28 (Operand.tmp 91) (Operand.tmp 92), type := 0, pos := "l13_world.go:50", after := #[{ on := 1, ground := Ground.data }, { on := 2, ground := Ground.data }], guard := none }) (v := ?_) rfl (by kernel_rfl) (by kernel_rfl) (by kernel_rfl) (fun _ _ _ h => h) (Or.inl ⟨by rfl, ?_⟩) hS ?_
                    rotate_left
                    · intro y hSy; obtain ⟨y0, y1, y2⟩ := hSy; go_simp; try with_reducible rfl
                    simp only [Act.put, List.setIfInBounds_toArray, List.set_cons_succ, List.set_cons_zero]
                    refine wpAnyH_take (i := 4) (oi := { dst := some 94, op := Op.load 3 (Operand.tmp 93), type := 3, pos := "l13_world.go:50", after := #[{ on := 3, ground := Ground.data }], guard := none }) (v := ?_) rfl (by kernel_rfl) (by kernel_rfl) (by kernel_rfl) (fun _ _ _ h => h) (Or.inl ⟨by rfl, ?_⟩) hS ?_
                    rotate_left
                    · intro y hSy; obtain ⟨y0, y1, y2⟩ := hSy; go_simp; try with_reducible rfl
                    simp only [Act.put, List.setIfInBounds_toArray, List.set_cons_succ, List.set_cons_zero]
                    refine wpAnyH_all (rs := [5]) (by kernel_rfl) (by simp) ?_
                    intro i hi
                    simp only [List.mem_singleton] at hi
                    subst hi
                    refine step_call (f := 42) (fn := Tryz.f42) (d := 95) (args := #[.int .i64 x, .int .i64 0, .int .i64 1000000]) rfl Tryz.func42 (by kernel_rfl) (by kernel_rfl) (by simp [Act.eval]) ?_
                    refine (unhide HQ _).mono ?_
                    rintro e w2 ⟨rfl, rfl⟩
                    refine ⟨_, rfl, ?_⟩
                    refine ⟨hS, ?_⟩
                    simp only [Act.put, List.setIfInBounds_toArray, List.set_cons_succ, List.set_cons_zero]
                    refine wpAnyH_take (i := 6) (oi := { dst := some 96, op := Op.unOp UnOp.not 4 (Operand.tmp 95), type := 4, pos := "l13_world.go:50", after := #[{ on := 5, ground := Ground.data }], guard := none }) (v := ?_) rfl (by kernel_rfl) (by kernel_rfl) (by kernel_rfl) (fun _ _ _ h => h) (Or.inl ⟨by rfl, ?_⟩) hS ?_
                    rotate_left
                    · intro y hSy; obtain ⟨y0, y1, y2⟩ := hSy; go_simp; try with_reducible rfl
                    simp only [Act.put, List.setIfInBounds_toArray, List.set_cons_succ, List.set_cons_zero]
                    refine wpAnyH_take (i := 7) (oi := { dst := some 97, op := Op.move (Operand.tmp 96), type := 4, pos := "l13_world.go:50", after := #[{ on := 6, ground := Ground.data }, { on := 5, ground := Ground.chain }], guard := none }) (v := ?_) rfl (by kernel_rfl) (by kernel_rfl) (by kernel_rfl) (fun _ _ _ h => h) (Or.inl ⟨by rfl, ?_⟩) hS ?_
                    rotate_left
                    · intro y hSy; obtain ⟨y0, y1, y2⟩ := hSy; go_simp; try with_reducible rfl
                    simp only [Act.put, List.setIfInBounds_toArray, List.set_cons_succ, List.set_cons_zero]
                    refine wpAnyH_take (i := 8) (oi := { dst := some 98, op := Op.move (Operand.tmp 5), type := 3, pos := "l13_world.go:50", after := #[{ on := 7, ground := Ground.guard }], guard := some (7, false) }) (v := ?_) rfl (by kernel_rfl) (by kernel_rfl) (by kernel_rfl) (fun _ _ _ h => h) (Or.inl ⟨by rfl, ?_⟩) hS ?_
                    rotate_left
                    · intro y hSy; obtain ⟨y0, y1, y2⟩ := hSy; go_simp; try with_reducible rfl
                    simp only [Act.put, List.setIfInBounds_toArray, List.set_cons_succ, List.set_cons_zero]
                    refine wpAnyH_take (i := 9) (oi := { dst := some 99, op := Op.binOp BinOp.gtr 3 (Operand.tmp 98) (Operand.const (Value.int IntKind.i64 0)) 3, type := 4, pos := "l13_world.go:50", after := #[{ on := 8, ground := Ground.data }, { on := 7, ground := Ground.guard }], guard := some (7, false) }) (v := ?_) rfl (by kernel_rfl) (by kernel_rfl) (by kernel_rfl) (fun _ _ _ h => h) (Or.inl ⟨by rfl, ?_⟩) hS ?_
                    rotate_left
                    · intro y hSy; obtain ⟨y0, y1, y2⟩ := hSy; go_simp; try with_reducible rfl
                    simp only [Act.put, List.setIfInBounds_toArray, List.set_cons_succ, List.set_cons_zero]
                    refine wpAnyH_take (i := 10) (oi := { dst := some 100, op := Op.move (Operand.tmp 99), type := 4, pos := "l13_world.go:50", after := #[{ on := 9, ground := Ground.data }, { on := 7, ground := Ground.chain }, { on := 7, ground := Ground.guard }], guard := some (7, false) }) (v := ?_) rfl (by kernel_rfl) (by kernel_rfl) (by kernel_rfl) (fun _ _ _ h => h) (Or.inl ⟨by rfl, ?_⟩) hS ?_
                    rotate_left
                    · intro y hSy; obtain ⟨y0, y1, y2⟩ := hSy; go_simp; try with_reducible rfl
                    simp only [Act.put, List.setIfInBounds_toArray, List.set_cons_succ, List.set_cons_zero]
                    refine wpAnyH_take (i := 11) (oi := { dst := some 101, op := Op.fieldAddr 40 (Operand.tmp 1) 10, type := 0, pos := "l13_world.go:50", after := #[{ on := 10, ground := Ground.guard }], guard := some (10, true) }) (v := ?_) rfl (by kernel_rfl) (by kernel_rfl) (by kernel_rfl) (fun _ _ _ h => h) (Or.inl ⟨by rfl, ?_⟩) hS ?_
                    rotate_left
                    · intro y hSy; obtain ⟨y0, y1, y2⟩ := hSy; go_simp; try with_reducible rfl
                    simp only [Act.put, List.setIfInBounds_toArray, List.set_cons_succ, List.set_cons_zero]
                    refine wpAnyH_take (i := 12) (oi := { dst := some 102, op := Op.load 28 (Operand.tmp 101), type := 28, pos := "l13_world.go:50", after := #[{ on := 11, ground := Ground.data }, { on := 10, ground := Ground.guard }], guard := some (10, true) }) (v := ?_) rfl (by kernel_rfl) (by kernel_rfl) (by kernel_rfl) (fun _ _ _ h => h) (Or.inl ⟨by rfl, ?_⟩) hS ?_
                    rotate_left
                    · intro y hSy; obtain ⟨y0, y1, y2⟩ := hSy; go_simp; try with_reducible rfl
                    simp only [Act.put, List.setIfInBounds_toArray, List.set_cons_succ, List.set_cons_zero]
                    refine wpAnyH_take (i := 13) (oi := { dst := some 103, op := Op.move (Operand.tmp 5), type := 3, pos := "l13_world.go:50", after := #[{ on := 10, ground := Ground.guard }], guard := some (10, true) }) (v := ?_) rfl (by kernel_rfl) (by kernel_rfl) (by kernel_rfl) (fun _ _ _ h => h) (Or.inl ⟨by rfl, ?_⟩) hS ?_
                    rotate_left
                    · intro y hSy; obtain ⟨y0, y1, y2⟩ := hSy; go_simp; try with_reducible rfl
                    simp only [Act.put, List.setIfInBounds_toArray, List.set_cons_succ, List.set_cons_zero]
                    refine wpAnyH_take (i := 14) (oi := { dst := some 104, op := Op.binOp BinOp.sub 3 (Operand.tmp 103) (Operand.const (Value.int IntKind.i64 1)) 3, type := 3, pos := "l13_world.go:50", after := #[{ on := 13, ground := Ground.data }, { on := 10, ground := Ground.guard }], guard := some (10, true) }) (v := ?_) rfl (by kernel_rfl) (by kernel_rfl) (by kernel_rfl) (fun _ _ _ h => h) (Or.inl ⟨by rfl, ?_⟩) hS ?_
                    rotate_left
                    · intro y hSy; obtain ⟨y0, y1, y2⟩ := hSy; go_simp; try with_reducible rfl
                    simp only [Act.put, List.setIfInBounds_toArray, List.set_cons_succ, List.set_cons_zero]
                    refine wpAnyH_take (i := 15) (oi := { dst := some 105, op := Op.indexAddr 28 (Operand.tmp 102) (Operand.tmp 104), type := 0, pos := "l13_world.go:50", after := #[{ on := 12, ground := Ground.data }, { on := 14, ground := Ground.data }, { on := 10, ground := Ground.guard }], guard := some (10, true) }) (v := ?_) rfl (by kernel_rfl) (by kernel_rfl) (by kernel_rfl) (fun _ _ _ h => h) (Or.inl ⟨by rfl, ?_⟩) hS ?_
                    rotate_left
                    · intro y hSy; obtain ⟨y0, y1, y2⟩ := hSy; go_simp; try with_reducible rfl
                    simp only [Act.put, List.setIfInBounds_toArray, List.set_cons_succ, List.set_cons_zero]
                    refine wpAnyH_take (i := 16) (oi := { dst := some 106, op := Op.load 3 (Operand.tmp 105), type := 3, pos := "l13_world.go:50", after := #[{ on := 15, ground := Ground.data }, { on := 10, ground := Ground.guard }], guard := some (10, true) }) (v := ?_) rfl (by kernel_rfl) (by kernel_rfl) (by kernel_rfl) (fun _ _ _ h => h) (Or.inl ⟨by rfl, ?_⟩) hS ?_
                    rotate_left
                    · intro y hSy; obtain ⟨y0, y1, y2⟩ := hSy; go_simp; try with_reducible rfl
                    simp only [Act.put, List.setIfInBounds_toArray, List.set_cons_succ, List.set_cons_zero]
                    refine wpAnyH_take (i := 17) (oi := { dst := some 107, op := Op.fieldAddr 40 (Operand.tmp 1) 10, type := 0, pos := "l13_world.go:50", after := #[{ on := 10, ground := Ground.guard }], guard := some (10, true) }) (v := ?_) rfl (by kernel_rfl) (by kernel_rfl) (by kernel_rfl) (fun _ _ _ h => h) (Or.inl ⟨by rfl, ?_⟩) hS ?_
                    rotate_left
                    · intro y hSy; obtain ⟨y0, y1, y2⟩ := hSy; go_simp; try with_reducible rfl
                    simp only [Act.put, List.setIfInBounds_toArray, List.set_cons_succ, List.set_cons_zero]
                    refine wpAnyH_take (i := 18) (oi := { dst := some 108, op := Op.load 28 (Operand.tmp 107), type := 28, pos := "l13_world.go:50", after := #[{ on := 17, ground := Ground.data }, { on := 10, ground := Ground.guard }], guard := some (10, true) }) (v := ?_) rfl (by kernel_rfl) (by kernel_rfl) (by kernel_rfl) (fun _ _ _ h => h) (Or.inl ⟨by rfl, ?_⟩) hS ?_
                    rotate_left
                    · intro y hSy; obtain ⟨y0, y1, y2⟩ := hSy; go_simp; try with_reducible rfl
                    simp only [Act.put, List.setIfInBounds_toArray, List.set_cons_succ, List.set_cons_zero]
                    refine wpAnyH_take (i := 19) (oi := { dst := some 109, op := Op.move (Operand.tmp 5), type := 3, pos := "l13_world.go:50", after := #[{ on := 10, ground := Ground.guard }], guard := some (10, true) }) (v := ?_) rfl (by kernel_rfl) (by kernel_rfl) (by kernel_rfl) (fun _ _ _ h => h) (Or.inl ⟨by rfl, ?_⟩) hS ?_
                    rotate_left
                    · intro y hSy; obtain ⟨y0, y1, y2⟩ := hSy; go_simp; try with_reducible rfl
                    simp only [Act.put, List.setIfInBounds_toArray, List.set_cons_succ, List.set_cons_zero]
                    refine wpAnyH_take (i := 20) (oi := { dst := some 110, op := Op.indexAddr 28 (Operand.tmp 108) (Operand.tmp 109), type := 0, pos := "l13_world.go:50", after := #[{ on := 18, ground := Ground.data }, { on := 19, ground := Ground.data }, { on := 10, ground := Ground.guard }], guard := some (10, true) }) (v := ?_) rfl (by kernel_rfl) (by kernel_rfl) (by kernel_rfl) (fun _ _ _ h => h) (Or.inl ⟨by rfl, ?_⟩) hS ?_
                    rotate_left
                    · intro y hSy; obtain ⟨y0, y1, y2⟩ := hSy; go_simp; try with_reducible rfl
                    simp only [Act.put, List.setIfInBounds_toArray, List.set_cons_succ, List.set_cons_zero]
                    refine wpAnyH_take (i := 21) (oi := { dst := some 111, op := Op.load 3 (Operand.tmp 110), type := 3, pos := "l13_world.go:50", after := #[{ on := 20, ground := Ground.data }, { on := 10, ground := Ground.guard }], guard := some (10, true) }) (v := ?_) rfl (by kernel_rfl) (by kernel_rfl) (by kernel_rfl) (fun _ _ _ h => h) (Or.inl ⟨by rfl, ?_⟩) hS ?_
                    rotate_left
                    · intro y hSy; obtain ⟨y0, y1, y2⟩ := hSy; go_simp; try with_reducible rfl
                    simp only [Act.put, List.setIfInBounds_toArray, List.set_cons_succ, List.set_cons_zero]
                    refine wpAnyH_take (i := 22) (oi := { dst := some 112, op := Op.binOp BinOp.geq 3 (Operand.tmp 106) (Operand.tmp 111) 3, type := 4, pos := "l13_world.go:50", after := #[{ on := 16, ground := Ground.data }, { on := 21, ground := Ground.data }, { on := 10, ground := Ground.guard }], guard := some (10, true) }) (v := ?_) rfl (by kernel_rfl) (by kernel_rfl) (by kernel_rfl) (fun _ _ _ h => h) (Or.inl ⟨by rfl, ?_⟩) hS ?_
                    rotate_left
                    · intro y hSy; obtain ⟨y0, y1, y2⟩ := hSy; go_simp; try with_reducible rfl
                    simp only [Act.put, List.setIfInBounds_toArray, List.set_cons_succ, List.set_cons_zero]
                    refine wpAnyH_take (i := 23) (oi := { dst := some 113, op := Op.pick (Operand.tmp 100) (Operand.tmp 112) (Operand.const (Value.bool false)), type := 4, pos := "l13_world.go:50", after := #[{ on := 10, ground := Ground.data }, { on := 22, ground := Ground.data }, { on := 7, ground := Ground.guard }], guard := some (7, false) }) (v := ?_) rfl (by kernel_rfl) (by kernel_rfl) (by kernel_rfl) (fun _ _ _ h => h) (Or.inl ⟨by rfl, ?_⟩) hS ?_
                    rotate_left
                    · intro y hSy; obtain ⟨y0, y1, y2⟩ := hSy; go_simp; try with_reducible rfl
                    simp only [Act.put, List.setIfInBounds_toArray, List.set_cons_succ, List.set_cons_zero]
                    refine wpAnyH_take (i := 24) (oi := { dst := some 114, op := Op.pick (Operand.tmp 97) (Operand.const (Value.bool true)) (Operand.tmp 113), type := 4, pos := "l13_world.go:50", after := #[{ on := 7, ground := Ground.data }, { on := 23, ground := Ground.data }], guard := none }) (v := ?_) rfl (by kernel_rfl) (by kernel_rfl) (by kernel_rfl) (fun _ _ _ h => h) (Or.inl ⟨by rfl, ?_⟩) hS ?_
                    rotate_left
                    · intro y hSy; obtain ⟨y0, y1, y2⟩ := hSy; go_simp; try with_reducible rfl
                    simp only [Act.put, List.setIfInBounds_toArray, List.set_cons_succ, List.set_cons_zero]
                    refine wpAnyH_done (by kernel_rfl) ?_ _
                    go_wp2_with fail
                    go_roundw
                    case rel => exact ⟨k + 1, rfl, (unhide HBr).drew, by have := unhide q7; omega, unhide HM⟩
                    case measure => have := unhide q7; simp only [intOf]; omega
                  · have HD : Hid (bd = false) := (unhide HTD).2 fun hq => hyx (by
                      have := (hq k x (unhide q7) (unhide HK)).2 yy (by rw [sub1N (unhide HKJ)]; exact unhide HJ) (posN (unhide HKJ))
                      exact this)
                    have HE : Hid (R = false) := by show R = false; rw [unhide HW2, unhide HD]; simp
                    have hyx' : x ≤ yy := by omega
                    go_wp2_with fail
                    refine wp_region_held (S := fun y => y.cell? ⟨w.heap.size, 10, none⟩ = some (.slice (some ⟨b, o, none⟩) X.told.length ci) ∧ y.cell? ⟨b, o + k, none⟩ = some (.int .i64 x) ∧ y.cell? ⟨b, o + j, none⟩ = some (.int .i64 yy)) Tryz.mixedO ?_
                    have hS : (fun y : World => y.cell? ⟨w.heap.size, 10, none⟩ = some (.slice (some ⟨b, o, none⟩) X.told.length ci) ∧ y.cell? ⟨b, o + k, none⟩ = some (.int .i64 x) ∧ y.cell? ⟨b, o + j, none⟩ = some (.int .i64 yy)) wr.drew := ⟨c10, c0, c1⟩
                    show wpAnyH _ _ _ _ _ _ _ _ wr.drew
                    refine wpAnyH_take (i := 0) (oi := { dst := some 90, op := Op.fieldAddr 40 (Operand.tmp 1) 10, type := 0, pos := "l13_world.go:50", after := #[], guard := none }) (v := ?_) rfl (by kernel_rfl) (by kernel_rfl) (by kernel_rfl) (fun _ _ _ h => h) (Or.inl ⟨by rfl, ?_⟩) hS ?_
                    rotate_left
                    · intro y hSy; obtain ⟨y0, y1, y2⟩ := hSy; go_simp; try with_reducible rfl
                    simp only [Act.put, List.setIfInBounds_toArray, List.set_cons_succ, List.set_cons_zero]
                    refine wpAnyH_take (i := 1) (oi := { dst := some 91, op := Op.load 28 (Operand.tmp 90), type := 28, pos := "l13_world.go:50", after := #[{ on := 0, ground := Ground.data }], guard := none }) (v := ?_) rfl (by kernel_rfl) (by kernel_rfl) (by kernel_rfl) (fun _ _ _ h => h) (Or.inl ⟨by rfl, ?_⟩) hS ?_
                    rotate_left
                    · intro y hSy; obtain ⟨y0, y1, y2⟩ := hSy; go_simp; try with_reducible rfl
                    simp only [Act.put, List.setIfInBounds_toArray, List.set_cons_succ, List.set_cons_zero]
                    refine wpAnyH_take (i := 2) (oi := { dst := some 92, op := Op.move (Operand.tmp 5), type := 3, pos := "l13_world.go:50", after := #[], guard := none }) (v := ?_) rfl (by kernel_rfl) (by kernel_rfl) (by kernel_rfl) (fun _ _ _ h => h) (Or.inl ⟨by rfl, ?_⟩) hS ?_
                    rotate_left
                    · intro y hSy; obtain ⟨y0, y1, y2⟩ := hSy; go_simp; try with_reducible rfl
                    simp only [Act.put, List.setIfInBounds_toArray, List.set_cons_succ, List.set_cons_zero]
                    refine wpAnyH_take (i := 3) (oi := { dst := some 93, op := Op.indexAddr 28 (Operand.tmp 91) (Operand.tmp 92), type := 0, pos := "l13_world.go:50", after := #[{ on := 1, ground := Ground.data }, { on := 2, ground := Ground.data }], guard := none }) (v := ?_) rfl (by kernel_rfl) (by kernel_rfl) (by kernel_rfl) (fun _ _ _ h => h) (Or.inl ⟨by rfl, ?_⟩) hS ?_
                    rotate_left
                    · intro y hSy; obtain ⟨y0, y1, y2⟩ := hSy; go_simp; try with_reducible rfl
                    simp only [Act.put, List.setIfInBounds_toArray, List.set_cons_succ, List.set_cons_zero]
                    refine wpAnyH_take (i := 4) (oi := { dst := some 94, op := Op.load 3 (Operand.tmp 93), type := 3, pos := "l13_world.go:50", after := #[{ on := 3, ground := Ground.data }], guard := none }) (v := ?_) rfl (by kernel_rfl) (by kernel_rfl) (by kernel_rfl) (fun _ _ _ h => h) (Or.inl ⟨by rfl, ?_⟩) hS ?_
                    rotate_left
                    · intro y hSy; obtain ⟨y0, y1, y2⟩ := hSy; go_simp; try with_reducible rfl
                    simp only [Act.put, List.setIfInBounds_toArray, List.set_cons_succ, List.set_cons_zero]
                    refine wpAnyH_all (rs := [5]) (by kernel_rfl) (by simp) ?_
                    intro i hi
                    simp only [List.mem_singleton] at hi
                    subst hi
                    refine step_call (f := 42) (fn := Tryz.f42) (d := 95) (args := #[.int .i64 x, .int .i64 0, .int .i64 1000000]) rfl Tryz.func42 (by kernel_rfl) (by kernel_rfl) (by simp [Act.eval]) ?_
                    refine (unhide HQ _).mono ?_
                    rintro e w2 ⟨rfl, rfl⟩
                    refine ⟨_, rfl, ?_⟩
                    refine ⟨hS, ?_⟩
                    simp only [Act.put, List.setIfInBounds_toArray, List.set_cons_succ, List.set_cons_zero]
                    refine wpAnyH_take (i := 6) (oi := { dst := some 96, op := Op.unOp UnOp.not 4 (Operand.tmp 95), type := 4, pos := "l13_world.go:50", after := #[{ on := 5, ground := Ground.data }], guard := none }) (v := ?_) rfl (by kernel_rfl) (by kernel_rfl) (by kernel_rfl) (fun _ _ _ h => h) (Or.inl ⟨by rfl, ?_⟩) hS ?_
                    rotate_left
                    · intro y hSy; obtain ⟨y0, y1, y2⟩ := hSy; go_simp; try with_reducible rfl
                    simp only [Act.put, List.setIfInBounds_toArray, List.set_cons_succ, List.set_cons_zero]
                    refine wpAnyH_take (i := 7) (oi := { dst := some 97, op := Op.move (Operand.tmp 96), type := 4, pos := "l13_world.go:50", after := #[{ on := 6, ground := Ground.data }, { on := 5, ground := Ground.chain }], guard := none }) (v := ?_) rfl (by kernel_rfl) (by kernel_rfl) (by kernel_rfl) (fun _ _ _ h => h) (Or.inl ⟨by rfl, ?_⟩) hS ?_
                    rotate_left
                    · intro y hSy; obtain ⟨y0, y1, y2⟩ := hSy; go_simp; try with_reducible rfl
                    simp only [Act.put, List.setIfInBounds_toArray, List.set_cons_succ, List.set_cons_zero]
                    refine wpAnyH_take (i := 8) (oi := { dst := some 98, op := Op.move (Operand.tmp 5), type := 3, pos := "l13_world.go:50", after := #[{ on := 7, ground := Ground.guard }], guard := some (7, false) }) (v := ?_) rfl (by kernel_rfl) (by kernel_rfl) (by kernel_rfl) (fun _ _ _ h => h) (Or.inl ⟨by rfl, ?_⟩) hS ?_
                    rotate_left
                    · intro y hSy; obtain ⟨y0, y1, y2⟩ := hSy; go_simp; try with_reducible rfl
                    simp only [Act.put, List.setIfInBounds_toArray, List.set_cons_succ, List.set_cons_zero]
                    refine wpAnyH_take (i := 9) (oi := { dst := some 99, op := Op.binOp BinOp.gtr 3 (Operand.tmp 98) (Operand.const (Value.int IntKind.i64 0)) 3, type := 4, pos := "l13_world.go:50", after := #[{ on := 8, ground := Ground.data }, { on := 7, ground := Ground.guard }], guard := some (7, false) }) (v := ?_) rfl (by kernel_rfl) (by kernel_rfl) (by kernel_rfl) (fun _ _ _ h => h) (Or.inl ⟨by rfl, ?_⟩) hS ?_
                    rotate_left
                    · intro y hSy; obtain ⟨y0, y1, y2⟩ := hSy; go_simp; try with_reducible rfl
                    simp only [Act.put, List.setIfInBounds_toArray, List.set_cons_succ, List.set_cons_zero]
                    refine wpAnyH_take (i := 10) (oi := { dst := some 100, op := Op.move (Operand.tmp 99), type := 4, pos := "l13_world.go:50", after := #[{ on := 9, ground := Ground.data }, { on := 7, ground := Ground.chain }, { on := 7, ground := Ground.guard }], guard := some (7, false) }) (v := ?_) rfl (by kernel_rfl) (by kernel_rfl) (by kernel_rfl) (fun _ _ _ h => h) (Or.inl ⟨by rfl, ?_⟩) hS ?_
                    rotate_left
                    · intro y hSy; obtain ⟨y0, y1, y2⟩ := hSy; go_simp; try with_reducible rfl
                    simp only [Act.put, List.setIfInBounds_toArray, List.set_cons_succ, List.set_cons_zero]
                    refine wpAnyH_take (i := 11) (oi := { dst := some 101, op := Op.fieldAddr 40 (Operand.tmp 1) 10, type := 0, pos := "l13_world.go:50", after := #[{ on := 10, ground := Ground.guard }], guard := some (10, true) }) (v := ?_) rfl (by kernel_rfl) (by kernel_rfl) (by kernel_rfl) (fun _ _ _ h => h) (Or.inl ⟨by rfl, ?_⟩) hS ?_
                    rotate_left
                    · intro y hSy; obtain ⟨y0, y1, y2⟩ := hSy; go_simp; try with_reducible rfl
                    simp only [Act.put, List.setIfInBounds_toArray, List.set_cons_succ, List.set_cons_zero]
                    refine wpAnyH_take (i := 12) (oi := { dst := some 102, op := Op.load 28 (Operand.tmp 101), type := 28, pos := "l13_world.go:50", after := #[{ on := 11, ground := Ground.data }, { on := 10, ground := Ground.guard }], guard := some (10, true) }) (v := ?_) rfl (by kernel_rfl) (by kernel_rfl) (by kernel_rfl) (fun _ _ _ h => h) (Or.inl ⟨by rfl, ?_⟩) hS ?_
                    rotate_left
                    · intro y hSy; obtain ⟨y0, y1, y2⟩ := hSy; go_simp; try with_reducible rfl
                    simp only [Act.put, List.setIfInBounds_toArray, List.set_cons_succ, List.set_cons_zero]
                    refine wpAnyH_take (i := 13) (oi := { dst := some 103, op := Op.move (Operand.tmp 5), type := 3, pos := "l13_world.go:50", after := #[{ on := 10, ground := Ground.guard }], guard := some (10, true) }) (v := ?_) rfl (by kernel_rfl) (by kernel_rfl) (by kernel_rfl) (fun _ _ _ h => h) (Or.inl ⟨by rfl, ?_⟩) hS ?_
                    rotate_left
                    · intro y hSy; obtain ⟨y0, y1, y2⟩ := hSy; go_simp; try with_reducible rfl
                    simp only [Act.put, List.setIfInBounds_toArray, List.set_cons_succ, List.set_cons_zero]
                    refine wpAnyH_take (i := 14) (oi := { dst := some 104, op := Op.binOp BinOp.sub 3 (Operand.tmp 103) (Operand.const (Value.int IntKind.i64 1)) 3, type := 3, pos := "l13_world.go:50", after := #[{ on := 13, ground := Ground.data }, { on := 10, ground := Ground.guard }], guard := some (10, true) }) (v := ?_) rfl (by kernel_rfl) (by kernel_rfl) (by kernel_rfl) (fun _ _ _ h => h) (Or.inl ⟨by rfl, ?_⟩) hS ?_
                    rotate_left
                    · intro y hSy; obtain ⟨y0, y1, y2⟩ := hSy; go_simp; try with_reducible rfl
                    simp only [Act.put, List.setIfInBounds_toArray, List.set_cons_succ, List.set_cons_zero]
                    refine wpAnyH_take (i := 15) (oi := { dst := some 105, op := Op.indexAddr 28 (Operand.tmp 102) (Operand.tmp 104), type := 0, pos := "l13_world.go:50", after := #[{ on := 12, ground := Ground.data }, { on := 14, ground := Ground.data }, { on := 10, ground := Ground.guard }], guard := some (10, true) }) (v := ?_) rfl (by kernel_rfl) (by kernel_rfl) (by kernel_rfl) (fun _ _ _ h => h) (Or.inl ⟨by rfl, ?_⟩) hS ?_
                    rotate_left
                    · intro y hSy; obtain ⟨y0, y1, y2⟩ := hSy; go_simp; try with_reducible rfl
                    simp only [Act.put, List.setIfInBounds_toArray, List.set_cons_succ, List.set_cons_zero]
                    refine wpAnyH_take (i := 16) (oi := { dst := some 106, op := Op.load 3 (Operand.tmp 105), type := 3, pos := "l13_world.go:50", after := #[{ on := 15, ground := Ground.data }, { on := 10, ground := Ground.guard }], guard := some (10, true) }) (v := ?_) rfl (by kernel_rfl) (by kernel_rfl) (by kernel_rfl) (fun _ _ _ h => h) (Or.inl ⟨by rfl, ?_⟩) hS ?_
                    rotate_left
                    · intro y hSy; obtain ⟨y0, y1, y2⟩ := hSy; go_simp; try with_reducible rfl
                    simp only [Act.put, List.setIfInBounds_toArray, List.set_cons_succ, List.set_cons_zero]
                    refine wpAnyH_take (i := 17) (oi := { dst := some 107, op := Op.fieldAddr 40 (Operand.tmp 1) 10, type := 0, pos := "l13_world.go:50", after := #[{ on := 10, ground := Ground.guard }], guard := some (10, true) }) (v := ?_) rfl (by kernel_rfl) (by kernel_rfl) (by kernel_rfl) (fun _ _ _ h => h) (Or.inl ⟨by rfl, ?_⟩) hS ?_
                    rotate_left
                    · intro y hSy; obtain ⟨y0, y1, y2⟩ := hSy; go_simp; try with_reducible rfl
                    simp only [Act.put, List.setIfInBounds_toArray, List.set_cons_succ, List.set_cons_zero]
                    refine wpAnyH_take (i := 18) (oi := { dst := some 108, op := Op.load 28 (Operand.tmp 107), type := 28, pos := "l13_world.go:50", after := #[{ on := 17, ground := Ground.data }, { on := 10, ground := Ground.guard }], guard := some (10, true) }) (v := ?_) rfl (by kernel_rfl) (by kernel_rfl) (by kernel_rfl) (fun _ _ _ h => h) (Or.inl ⟨by rfl, ?_⟩) hS ?_
                    rotate_left
                    · intro y hSy; obtain ⟨y0, y1, y2⟩ := hSy; go_simp; try with_reducible rfl
                    simp only [Act.put, List.setIfInBounds_toArray, List.set_cons_succ, List.set_cons_zero]
                    refine wpAnyH_take (i := 19) (oi := { dst := some 109, op := Op.move (Operand.tmp 5), type := 3, pos := "l13_world.go:50", after := #[{ on := 10, ground := Ground.guard }], guard := some (10, true) }) (v := ?_) rfl (by kernel_rfl) (by kernel_rfl) (by kernel_rfl) (fun _ _ _ h => h) (Or.inl ⟨by rfl, ?_⟩) hS ?_
                    rotate_left
                    · intro y hSy; obtain ⟨y0, y1, y2⟩ := hSy; go_simp; try with_reducible rfl
                    simp only [Act.put, List.setIfInBounds_toArray, List.set_cons_succ, List.set_cons_zero]
                    refine wpAnyH_take (i := 20) (oi := { dst := some 110, op := Op.indexAddr 28 (Operand.tmp 108) (Operand.tmp 109), type := 0, pos := "l13_world.go:50", after := #[{ on := 18, ground := Ground.data }, { on := 19, ground := Ground.data }, { on := 10, ground := Ground.guard }], guard := some (10, true) }) (v := ?_) rfl (by kernel_rfl) (by kernel_rfl) (by kernel_rfl) (fun _ _ _ h => h) (Or.inl ⟨by rfl, ?_⟩) hS ?_
                    rotate_left
                    · intro y hSy; obtain ⟨y0, y1, y2⟩ := hSy; go_simp; try with_reducible rfl
                    simp only [Act.put, List.setIfInBounds_toArray, List.set_cons_succ, List.set_cons_zero]
                    refine wpAnyH_take (i := 21) (oi := { dst := some 111, op := Op.load 3 (Operand.tmp 110), type := 3, pos := "l13_world.go:50", after := #[{ on := 20, ground := Ground.data }, { on := 10, ground := Ground.guard }], guard := some (10, true) }) (v := ?_) rfl (by kernel_rfl) (by kernel_rfl) (by kernel_rfl) (fun _ _ _ h => h) (Or.inl ⟨by rfl, ?_⟩) hS ?_
                    rotate_left
                    · intro y hSy; obtain ⟨y0, y1, y2⟩ := hSy; go_simp; try with_reducible rfl
                    simp only [Act.put, List.setIfInBounds_toArray, List.set_cons_succ, List.set_cons_zero]
                    refine wpAnyH_take (i := 22) (oi := { dst := some 112, op := Op.binOp BinOp.geq 3 (Operand.tmp 106) (Operand.tmp 111) 3, type := 4, pos := "l13_world.go:50", after := #[{ on := 16, ground := Ground.data }, { on := 21, ground := Ground.data }, { on := 10, ground := Ground.guard }], guard := some (10, true) }) (v := ?_) rfl (by kernel_rfl) (by kernel_rfl) (by kernel_rfl) (fun _ _ _ h => h) (Or.inl ⟨by rfl, ?_⟩) hS ?_
                    rotate_left
                    · intro y hSy; obtain ⟨y0, y1, y2⟩ := hSy; go_simp; try with_reducible rfl
                    simp only [Act.put, List.setIfInBounds_toArray, List.set_cons_succ, List.set_cons_zero]
                    refine wpAnyH_take (i := 23) (oi := { dst := some 113, op := Op.pick (Operand.tmp 100) (Operand.tmp 112) (Operand.const (Value.bool false)), type := 4, pos := "l13_world.go:50", after := #[{ on := 10, ground := Ground.data }, { on := 22, ground := Ground.data }, { on := 7, ground := Ground.guard }], guard := some (7, false) }) (v := ?_) rfl (by kernel_rfl) (by kernel_rfl) (by kernel_rfl) (fun _ _ _ h => h) (Or.inl ⟨by rfl, ?_⟩) hS ?_
                    rotate_left
                    · intro y hSy; obtain ⟨y0, y1, y2⟩ := hSy; go_simp; try with_reducible rfl
                    simp only [Act.put, List.setIfInBounds_toArray, List.set_cons_succ, List.set_cons_zero]
                    refine wpAnyH_take (i := 24) (oi := { dst := some 114, op := Op.pick (Operand.tmp 97) (Operand.const (Value.bool true)) (Operand.tmp 113), type := 4, pos := "l13_world.go:50", after := #[{ on := 7, ground := Ground.data }, { on := 23, ground := Ground.data }], guard := none }) (v := ?_) rfl (by kernel_rfl) (by kernel_rfl) (by kernel_rfl) (fun _ _ _ h => h) (Or.inl ⟨by rfl, ?_⟩) hS ?_
                    rotate_left
                    · intro y hSy; obtain ⟨y0, y1, y2⟩ := hSy; go_simp; try with_reducible rfl
                    simp only [Act.put, List.setIfInBounds_toArray, List.set_cons_succ, List.set_cons_zero]
                    refine wpAnyH_done (by kernel_rfl) ?_ _
                    go_wp2_with fail
                    go_ret
                    exact ⟨retB (unhide HE), (btG (unhide HBb) (unhide HBr)).drew⟩
            · have cN : ¬ (k : Int) < (X.told.length : Int) := by omega
              have HD : Hid (bd = true) := (unhide HTD).1 (by rw [show X.told.length = k by omega]; exact unhide HA)
              have HE : Hid (R = bo) := by show R = bo; rw [unhide HW2, unhide HD]; simp
              have HX9 := hide ((unhide HXb).on hb)
              have HB9 := hide (btG (unhide HBb) hb)
              clear hb
              go_wp2_with (refine wpList_load_box rfl _ rfl w.heap.size 0 [.int .i64 X.time, .int .i64 X.fresh, .slice ak X.known.length ck, .slice ac X.cache.length cc, .slice ah X.hosts.length ch, .slice al X.letters.length cl, .string X.book, .int .i64 X.sure, .slice aa X.calls.length ca, .slice az X.talks.length cz, .slice ai X.told.length ci] (unhide HX9) (fun j v hj => (by rw [Nat.zero_add]; exact hj)) rfl Tryz.underlying40 rfl infoW ?_)
              refine (unhide HC9 _ (unhide HB9)).mono ?_
              rintro e w9 ⟨rfl, hb9⟩
              have HB10 := hide (btG (unhide HB9) hb9)
              clear hb9
              go_wp2_with fail
              go_ret
              exact ⟨retB (unhide HE), unhide HB10⟩

theorem infoWL : (Tryz.prog.info? 30).map (·.size) = some 11 := by kernel_rfl

end Go.Proofs.YtbbidjckplpaiaaGreatDoor
