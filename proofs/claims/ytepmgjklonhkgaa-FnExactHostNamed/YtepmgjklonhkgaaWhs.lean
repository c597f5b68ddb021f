/- Lists of hosts: the walks of laws.szHostS, toHostS, eqHostS; nothing that was there is written. -/
import Derived.Test.YtepmgjklonhkgaaWh
import Derived.Deep.MidRow
import Derived.Deep.RegionHeld3
namespace Go.Proofs.Ytepmgjklonhkgaa
open Go.RowKit Go.Deep

set_option maxRecDepth 100000 in
set_option maxHeartbeats 2000000 in
theorem szHos (P : List Ho) (a : Option Addr) (cap : Nat) (left : Int) (w : World) (hl : hoK.Ls w 0 a P) (hm : P.length ≤ maxLen) (h0 : 0 ≤ left) (h1 : left ≤ 1048576) :
    Calls Try.prog 11 #[.slice a P.length cap, .int .i64 left] w fun e w' => e = .returned (.int .i64 (szv left (P.length + ws how P))) ∧ Below w.heap.size w w' := by
  unfold maxLen at hm
  generalize hlen : P.length = len at *
  have HL : Hid (P.length = len) := hlen
  clear hlen
  have w0 : wrap64 (left - (len : Int)) = left - (len : Int) := by unfold wrap64; omega
  by_cases hlt : left - len < 0
  · have HE : Hid (szv left (len + ws how P) = -1) := szv_no (by omega)
    go_enter Try.func11, Try.ntmps11
    go_wp2_with fail
    go_ret
    exact ⟨ret_int (unhide HE).symm, Below.refl _ _⟩
  · have HF := hide h1
    go_enter Try.func11, Try.ntmps11
    go_wp2_with fail
    go_loopw [1, 5] (fun x i wr => ∃ k : Nat, k ≤ len ∧ i = .int .i64 k ∧ (len : Int) + (ws how (P.take k) : Int) ≤ left ∧ x = .int .i64 (left - len - (ws how (P.take k) : Int)) ∧ Below w.heap.size w wr) (fun _ i _ => len - (intOf i).toNat)
    case atStart => exact ⟨0, Nat.zero_le _, rfl, by simp [ws]; omega, by simp [ws], Below.refl _ _⟩
    case round =>
      obtain ⟨k, hk, rfl, hle, rfl, hbr⟩ := hrel
      have HB := hide hbr
      by_cases hkl : k < len
      · have hkl' : k < P.length := by have := HL.out; omega
        obtain ⟨p, hkp⟩ : ∃ p, P[k]? = some p := ⟨_, List.getElem?_eq_getElem hkl'⟩
        obtain ⟨b, o, cs, rfl, -, hbs, HR0, HT, hcl0⟩ := (hl.on hbr).get hkp
        have HR := hide (show wr.rangeAt b (o + k * 3) cs from HR0)
        have hcl := hide (show cs.length = 3 from hcl0)
        have HW := hide (ws_take how P hkp)
        have HA := hide (ws_take_le how P (k + 1))
        have q2 : (k : Int) < (len : Int) := by omega
        have q3 : (0 : Int) ≤ (k : Int) := by omega
        generalize hwl : ws how (P.take k) = wl at *
        generalize hwk : ws how (P.take (k + 1)) = wk at *
        have w2 : wrap64 ((k : Int) + 1) = ((k + 1 : Nat) : Int) := by unfold wrap64; omega
        have Hwk : Hid (ws how (P.take (k + 1)) = wk) := hwk
        have HC := hide (szHo p cs (left - len - wl) wr HT (by omega) (by omega))
        clear hwl hwk hkp hl hbr HR0 HT hcl0 hbs
        generalize how p = q at *
        by_cases hw : (q : Int) ≤ left - len - wl
        · rw [szv_yes hw] at HC
          have hsv : ¬ left - len - wl - (q : Int) < 0 := by omega
          go_wp2_with (refine wpList_load_mid rfl _ _ rfl b (o + k * 3) rfl cs _ (unhide HR) Try.underlying76 rfl (by rw [unhide hcl]; exact infoLHo) ?_)
          refine (unhide HC).mono ?_
          rintro e w3 ⟨rfl, hb3⟩
          have HB3 := hide (btG (unhide HB) hb3)
          clear hb3
          go_wp2_with fail
          go_roundw
          case rel => exact ⟨k + 1, by omega, rfl, by have := HW.out; have := Hwk.out; omega, by have := HW.out; have := Hwk.out; rw [this]; congr 1; omega, unhide HB3⟩
          case measure => simp [intOf]; omega
        · rw [szv_no (by omega)] at HC
          go_wp2_with (refine wpList_load_mid rfl _ _ rfl b (o + k * 3) rfl cs _ (unhide HR) Try.underlying76 rfl (by rw [unhide hcl]; exact infoLHo) ?_)
          refine (unhide HC).mono ?_
          rintro e w3 ⟨rfl, hb3⟩
          have HB3 := hide (btG (unhide HB) hb3)
          clear hb3
          go_wp2_with fail
          go_ret
          exact ⟨ret_int (by rw [szv_no (by have := HW.out; have := HA.out; omega)]), unhide HB3⟩
      · have c2 : ¬ (k : Int) < (len : Int) := by omega
        clear hbr
        go_wp2_with fail
        go_ret
        have hkk : k = len := by omega
        exact ⟨ret_int (by rw [List.take_of_length_le (by have := HL.out; omega)] at hle ⊢; rw [szv_yes (by omega)]; omega), unhide HB⟩

theorem infoHoz : (Try.prog.info? 52).map (fun i => (i.zero, i.size, i.bytes)) = some (some (.agg #[.string ByteArray.empty, .int .i64 0, .bool false]), 3, 32) := by kernel_rfl
def madeHo (n : Nat) : Array Value := madeCells #[.string ByteArray.empty, .int .i64 0, .bool false] (n * 3)
theorem madeHo_size (n : Nat) : (madeHo n).size = n * 3 := size_madeCells _ _
theorem make_Ho (n : Nat) (hn : n ≤ 2097152) (w : World) :
    (Instr.makeSlice 35 (.int .i64 (n : Int)) (.int .i64 (n : Int))).run Try.prog w = .ok (.slice (some ⟨w.heap.size, 0, none⟩) n n) (w.alloc (.cells (madeHo n) 52)) := by
  obtain ⟨i, hi, hzz⟩ := Option.map_eq_some_iff.1 infoHoz
  simp only [Prod.mk.injEq] at hzz
  obtain ⟨hz, hs, hb⟩ := hzz
  have hr := run_make (P := Try.prog) w 35 52 i _ Try.underlying35 hi hz .i64 .i64 n n (by omega) (Int.le_refl _) (by rw [hb]; omega) (by omega)
  simp only [Int.toNat_natCast, hs] at hr
  exact hr

set_option maxRecDepth 100000 in
set_option maxHeartbeats 2000000 in
theorem toHos (P : List Ho) (a : Option Addr) (cap : Nat) (w : World) (hl : hoK.Ls w 0 a P) (hsz : P.length + ws how P ≤ 1048576) :
    Calls Try.prog 18 #[.slice a P.length cap] w fun e w' => e = .returned (.slice (some ⟨w.heap.size, 0, none⟩) P.length P.length) ∧ hoK.Ls w' w.heap.size (some ⟨w.heap.size, 0, none⟩) P ∧ Below w.heap.size w w' := by
  have hln : P.length ≤ 1048576 := by omega
  have hmk := make_Ho P.length (by omega)
  have HM := hide (Kd.Mid.start hoK 52 w P (madeHo P.length) (madeHo_size _))
  have HT := hide hl
  have HZ := hide hsz
  clear hl hsz
  generalize hlen : P.length = len at hmk HM hln ⊢
  have HL : Hid (P.length = len) := hlen
  clear hlen
  go_enter Try.func18, Try.ntmps18
  go_wp2_with fail
  go_loopw [4] (fun i wr => ∃ k : Nat, k ≤ len ∧ i = .int .i64 k ∧ hoK.Mid 52 w P k wr) (fun i _ => len - (intOf i).toNat)
  case atStart => exact ⟨0, Nat.zero_le _, rfl, HM.out⟩
  case round =>
    obtain ⟨k, hkl, rfl, hM⟩ := hrel
    by_cases hlt : k < len
    · have hlt' : k < P.length := by have := HL.out; omega
      obtain ⟨p, hkp⟩ : ∃ p, P[k]? = some p := ⟨_, List.getElem?_eq_getElem hlt'⟩
      obtain ⟨b, o, cs, rfl, -, hbs, HR0, HT0, hcl0⟩ := ((unhide HT).on hM.below).get hkp
      have HR := hide (show wr.rangeAt b (o + k * 3) cs from HR0)
      have hcl := hide (show cs.length = 3 from hcl0)
      have HC := hide (toHo p cs wr HT0 (by have := ws_get how hkp; have := unhide HZ; have := unhide HL; omega))
      have HS : Hid (∀ w2 ct, Below wr.heap.size wr w2 → hoK.at_ w2 wr.heap.size p ct → hoK.Mid 52 w P (k + 1) (w2.setCells w.heap.size (k * 3) ct)) := fun w2 ct hb hx => hM.step hb hkp hx
      have HH : Hid (∀ w2, Below wr.heap.size wr w2 → w2.there w.heap.size (k * 3) 3) := fun w2 hb => hM.there hb hlt'
      have q2 : (k : Int) < (len : Int) := by omega
      have q3 : (0 : Int) ≤ (k : Int) := by omega
      have w2 : wrap64 ((k : Int) + 1) = ((k + 1 : Nat) : Int) := by unfold wrap64; omega
      clear hM hkp HR0 HT0 hcl0 hbs
      go_wp2_with (refine wpList_load_mid rfl _ _ rfl b (o + k * 3) rfl cs _ (unhide HR) Try.underlying76 rfl (by rw [unhide hcl]; exact infoLHo) ?_)
      refine (unhide HC).mono ?_
      rintro e w2 ⟨ct, rfl, hx2, hb2⟩
      have hth := hide (unhide HH _ hb2)
      have HM2 := hide (unhide HS w2 ct hb2 hx2)
      have hsz : Hid (ct.toArray.size = 3) := hide (hoK.arr (w := w2) (L := wr.heap.size) (x := p) hx2)
      have hall := hide (hoK.all (w := w2) (L := wr.heap.size) (x := p) hx2)
      clear hb2 hx2
      go_wp2_with (refine wpList_store_mid rfl _ _ _ rfl w.heap.size (k * 3) ct.toArray rfl rfl (by rw [unhide hsz]; exact unhide hth) (by rw [unhide hsz]; exact infoIHo) (unhide hall) ?_)
      go_roundw
      case rel => exact ⟨k + 1, by omega, rfl, by simpa using HM2.out⟩
      case measure => simp [intOf]; omega
    · have c2 : ¬ (k : Int) < (len : Int) := by omega
      go_wp2_with fail
      go_ret
      have hkk : k = P.length := by have := HL.out; omega
      subst hkk
      have e := HL.out
      subst e
      exact ⟨rfl, hM.ls, hM.below⟩

set_option maxRecDepth 100000 in
set_option maxHeartbeats 2000000 in
theorem eqHos (P : List Ho) (a a' : Option Addr) (c c' : Nat) (w : World) (hl : P.length + ws how P ≤ 1048576) (h : hoK.Ls w 0 a P) (h' : hoK.Ls w 0 a' P) :
    Calls Try.prog 26 #[.slice a P.length c, .slice a' P.length c'] w fun e w' => e = .returned (.bool true) ∧ Below w.heap.size w w' := by
  have H := hide h
  have H' := hide h'
  have HZ := hide hl
  have hln : P.length ≤ 1048576 := by omega
  clear h h' hl
  generalize hlen : P.length = len at *
  have HL : Hid (P.length = len) := hlen
  clear hlen
  have hne : ((len : Int) != (len : Int)) = false := by simp
  go_enter Try.func26, Try.ntmps26
  go_wp2_with fail
  go_loopw [5] (fun n wr => ∃ k : Nat, n = .int .i64 k ∧ Below w.heap.size w wr ∧ k ≤ len) (fun n _ => len - (intOf n).toNat)
  case atStart => exact ⟨0, rfl, Below.refl _ _, by omega⟩
  case round =>
    obtain ⟨k, rfl, hb, hk⟩ := hrel
    have HB := hide hb
    by_cases hp : k < len
    · have hp' : k < P.length := by have := HL.out; omega
      obtain ⟨p, hkp⟩ : ∃ p, P[k]? = some p := ⟨_, List.getElem?_eq_getElem hp'⟩
      obtain ⟨b, o, cs, rfl, -, -, HR, HT, -⟩ := ((unhide H).on hb).get hkp
      obtain ⟨b', o', cs', rfl, -, -, HR', HT', -⟩ := ((unhide H').on hb).get hkp
      have hct := hide (fun v hv hv' => eqHo p cs cs' v hv hv' (by have := ws_get how hkp; have := unhide HZ; have := unhide HL; omega))
      have HA := hide (hoK.on HT (Below.refl _ _).drew)
      have HA' := hide (hoK.on HT' (Below.refl _ _).drew)
      obtain ⟨rfl, -⟩ := HT
      obtain ⟨rfl, -⟩ := HT'

      have c0 : wr.cell? ⟨b, o + k * 3, none⟩ = some (.string p.name) := HR 0 _ rfl
      have d0 : wr.cell? ⟨b', o' + k * 3, none⟩ = some (.string p.name) := HR' 0 _ rfl
      have c1 : wr.cell? ⟨b, o + k * 3 + 1, none⟩ = some (.int .i64 p.key) := HR 1 _ rfl
      have d1 : wr.cell? ⟨b', o' + k * 3 + 1, none⟩ = some (.int .i64 p.key) := HR' 1 _ rfl
      have c2 : wr.cell? ⟨b, o + k * 3 + 2, none⟩ = some (.bool p.lost) := HR 2 _ rfl
      have d2 : wr.cell? ⟨b', o' + k * 3 + 2, none⟩ = some (.bool p.lost) := HR' 2 _ rfl

      have q2 : (k : Int) < (len : Int) := by omega
      have q3 : (0 : Int) ≤ (k : Int) := by omega
      have w1 : wrap64 ((k : Int) + 1) = ((k + 1 : Nat) : Int) := by unfold wrap64; omega
      clear hb hkp HR HR'
      generalize hid : how p = qw at *
      clear hid
      go_wp2_with fail
      go_region_with (go_at_call 47; refine (unhide hct _ (unhide HA) (unhide HA')).mono ?_; rintro e w2 ⟨rfl, hb2⟩; have HB2 := hide (btG (unhide HB) (below_drewG hb2)); clear hb2)
      all_goals
        go_wp2_with fail
        go_roundw
        case rel => exact ⟨k + 1, rfl, unhide HB2, by omega⟩
        case measure => simp only [intOf]; omega
    · have c2 : ¬ (k : Int) < (len : Int) := by omega
      clear hb
      go_wp2_with fail
      go_ret
      exact ⟨rfl, unhide HB⟩


end Go.Proofs.Ytepmgjklonhkgaa
