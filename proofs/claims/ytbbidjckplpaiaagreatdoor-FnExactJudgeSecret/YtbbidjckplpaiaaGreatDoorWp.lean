
/- Hosts: the walks of laws.szHost, toHost, eqHost and  nothing that was there is written. Lists of hosts: the walks of laws.szHostS, toHostS, eqHostS; nothing that was there is written. Letters: the walks of laws.szLetter, toLetter, eqLetter and of the lists' szLetterS, toLetterS, eqLetterS; nothing that was there is written. Lists of letters: the walks of laws.szLetterS, toLetterS, eqLetterS; nothing that was there is written. Policies and lists of such: the walks of laws.szPolicy, toPolicy, eqPolicy, szPolicyS, toPolicyS, eqPolicyS; nothing that was there is written. -/
import Derived.Test.YtbbidjckplpaiaaGreatDoorWk
import Derived.Deep.MidRow
import Derived.Deep.RegionHeld3
namespace Go.Proofs.YtbbidjckplpaiaaGreatDoor
open Go.RowKit Go.Deep

def how (x : Ho) : Nat := x.name.size
theorem infoLHo : (Tryz.prog.info? 84).map (·.size) = some 3 := by kernel_rfl
theorem infoIHo : (Tryz.prog.info? 106).map (·.size) = some 3 := by kernel_rfl

set_option maxRecDepth 100000 in
set_option maxHeartbeats 2000000 in
theorem szHo (x : Ho) (cs : List Value) (l0 : Int) (w : World) (h : hoAt w 0 x cs) (hl0 : 0 ≤ l0) (hl1 : l0 ≤ 1048576) :
    Calls Tryz.prog 38 #[.agg cs.toArray, .int .i64 l0] w fun e w' => e = .returned (.int .i64 (szv l0 (how x))) ∧ Below w.heap.size w w' := by
  obtain ⟨name, key, lost⟩ := x
  obtain ⟨rfl, hd⟩ := h
  replace hd : name.size ≤ maxLen := hd
  have hmm : name.size ≤ 9223372036854775807 := by unfold maxLen at hd; omega
  show Calls Tryz.prog 38 #[.agg #[.string name, .int .i64 key, .bool lost], .int .i64 l0] w fun e w' => e = .returned (.int .i64 (szv l0 name.size)) ∧ Below w.heap.size w w'
  obtain ⟨left, hleft⟩ : ∃ left : Int, left = l0 - (name.size : Int) := ⟨_, rfl⟩
  have w1 : wrap64 (l0 - (name.size : Int)) = left := by unfold wrap64; omega
  by_cases h1 : left < 0
  · have HE : Hid (szv l0 name.size = -1) := szv_no (by omega)
    clear hleft hd hmm
    go_enter Tryz.func38, Tryz.ntmps38
    go_wp2_with fail
    go_ret
    exact ⟨ret_int (unhide HE).symm, abG _⟩
  · have HE : Hid (szv l0 name.size = left) := by show _ = _; rw [szv_yes (by omega)]; omega
    clear hleft hd hmm
    go_enter Tryz.func38, Tryz.ntmps38
    go_wp2_with fail
    go_ret
    exact ⟨ret_int (unhide HE).symm, abG _⟩

set_option maxRecDepth 100000 in
set_option maxHeartbeats 2000000 in
theorem toHo (x : Ho) (cs : List Value) (w : World) (h : hoAt w 0 x cs) (_ : how x ≤ 1048576) :
    Calls Tryz.prog 52 #[.agg cs.toArray] w fun e w' => ∃ ct, e = .returned (.agg ct.toArray) ∧ hoAt w' w.heap.size x ct ∧ Below w.heap.size w w' := by
  obtain ⟨name, key, lost⟩ := x
  obtain ⟨rfl, hd⟩ := h
  replace hd : name.size ≤ maxLen := hd
  have HD := hide hd
  clear hd
  show Calls Tryz.prog 52 #[.agg #[.string name, .int .i64 key, .bool lost]] w _
  have HB := hide (btG (btG (abG (w := w) (.cells #[.string name, .int .i64 key, .bool lost] 84)) (abG (.cells #[.string name, .int .i64 key, .bool lost] 106))) (abG (.cells #[.string name, .int .i64 key, .bool lost] 106)))
  go_enter Tryz.func52, Tryz.ntmps52
  go_wp2_with fail
  refine bodyPost_ret (v := .agg #[.string name, .int .i64 key, .bool lost]) (by simp [results, Tryz.results52, go_sem]) rfl ⟨[.string name, .int .i64 key, .bool lost], rfl, ⟨rfl, unhide HD⟩, unhide HB⟩

set_option maxRecDepth 100000 in
set_option maxHeartbeats 2000000 in
theorem eqHo (x : Ho) (cs cs' : List Value) (w : World) (h : hoAt w 0 x cs) (h' : hoAt w 0 x cs') (_ : how x ≤ 1048576) :
    Calls Tryz.prog 66 #[.agg cs.toArray, .agg cs'.toArray] w fun e w' => e = .returned (.bool true) ∧ Below w.heap.size w w' := by
  obtain ⟨name, key, lost⟩ := x
  obtain ⟨rfl, -⟩ := h
  obtain ⟨rfl, -⟩ := h'
  show Calls Tryz.prog 66 #[.agg #[.string name, .int .i64 key, .bool lost], .agg #[.string name, .int .i64 key, .bool lost]] w _
  have HB := hide (btG (abG (w := w) (.cells #[.string name, .int .i64 key, .bool lost] 106)) (abG (.cells #[.string name, .int .i64 key, .bool lost] 106)))
  go_enter Tryz.func66, Tryz.ntmps66
  cases lost
  all_goals
    go_wp2_with fail
    go_ret
    exact ⟨rfl, unhide HB⟩

set_option maxRecDepth 100000 in
set_option maxHeartbeats 2000000 in
theorem szHos (P : List Ho) (a : Option Addr) (cap : Nat) (left : Int) (w : World) (hl : hoK.Ls w 0 a P) (hm : P.length ≤ maxLen) (h0 : 0 ≤ left) (h1 : left ≤ 1048576) :
    Calls Tryz.prog 11 #[.slice a P.length cap, .int .i64 left] w fun e w' => e = .returned (.int .i64 (szv left (P.length + ws how P))) ∧ Below w.heap.size w w' := by
  unfold maxLen at hm
  generalize hlen : P.length = len at *
  have HL : Hid (P.length = len) := hlen
  clear hlen
  have w0 : wrap64 (left - (len : Int)) = left - (len : Int) := by unfold wrap64; omega
  by_cases hlt : left - len < 0
  · have HE : Hid (szv left (len + ws how P) = -1) := szv_no (by omega)
    go_enter Tryz.func11, Tryz.ntmps11
    go_wp2_with fail
    go_ret
    exact ⟨ret_int (unhide HE).symm, Below.refl _ _⟩
  · have HF := hide h1
    go_enter Tryz.func11, Tryz.ntmps11
    go_wp2_with fail
    go_loopw [1, 5] (fun x i wr => ∃ k : Nat, k ≤ len ∧ i = .int .i64 k ∧ (len : Int) + (ws how (P.take k) : Int) ≤ left ∧ x = .int .i64 (left - len - (ws how (P.take k) : Int)) ∧ Below w.heap.size w wr) (fun _ i _ => len - (intOf i).toNat)
    case atStart => exact ⟨0, Nat.zero_le _, rfl, by simp [ws]; omega, by simp [ws], Below.refl _ _⟩
    case round =>
      obtain ⟨k, hk, rfl, hle, rfl, hbr⟩ := hrel
      have HB := hide hbr
      by_cases hkl : k < len
      · have hkl' : k < P.length := by have := HL.out; omega
        obtain ⟨p, hkp⟩ : ∃ p, P[k]? = some p := ⟨_, List.getElem?_eq_getElem hkl'⟩
        obtain ⟨b, o, cs, rfl, -, hbs, HR0, HT, hcl0⟩ := (hl.on hbr).get hkp
        have HR := hide (show wr.rangeAt b (o + k * 3) cs from HR0)
        have hcl := hide (show cs.length = 3 from hcl0)
        have HW := hide (ws_take how P hkp)
        have HA := hide (ws_take_le how P (k + 1))
        have q2 : (k : Int) < (len : Int) := by omega
        have q3 : (0 : Int) ≤ (k : Int) := by omega
        generalize hwl : ws how (P.take k) = wl at *
        generalize hwk : ws how (P.take (k + 1)) = wk at *
        have w2 : wrap64 ((k : Int) + 1) = ((k + 1 : Nat) : Int) := by unfold wrap64; omega
        have Hwk : Hid (ws how (P.take (k + 1)) = wk) := hwk
        have HC := hide (szHo p cs (left - len - wl) wr HT (by omega) (by omega))
        clear hwl hwk hkp hl hbr HR0 HT hcl0 hbs
        generalize how p = q at *
        by_cases hw : (q : Int) ≤ left - len - wl
        · rw [szv_yes hw] at HC
          have hsv : ¬ left - len - wl - (q : Int) < 0 := by omega
          go_wp2_with (refine wpList_load_mid rfl _ _ rfl b (o + k * 3) rfl cs _ (unhide HR) Tryz.underlying84 rfl (by rw [unhide hcl]; exact infoLHo) ?_)
          refine (unhide HC).mono ?_
          rintro e w3 ⟨rfl, hb3⟩
          have HB3 := hide (btG (unhide HB) hb3)
          clear hb3
          go_wp2_with fail
          go_roundw
          case rel => exact ⟨k + 1, by omega, rfl, by have := HW.out; have := Hwk.out; omega, by have := HW.out; have := Hwk.out; rw [this]; congr 1; omega, unhide HB3⟩
          case measure => simp [intOf]; omega
        · rw [szv_no (by omega)] at HC
          go_wp2_with (refine wpList_load_mid rfl _ _ rfl b (o + k * 3) rfl cs _ (unhide HR) Tryz.underlying84 rfl (by rw [unhide hcl]; exact infoLHo) ?_)
          refine (unhide HC).mono ?_
          rintro e w3 ⟨rfl, hb3⟩
          have HB3 := hide (btG (unhide HB) hb3)
          clear hb3
          go_wp2_with fail
          go_ret
          exact ⟨ret_int (by rw [szv_no (by have := HW.out; have := HA.out; omega)]), unhide HB3⟩
      · have c2 : ¬ (k : Int) < (len : Int) := by omega
        clear hbr
        go_wp2_with fail
        go_ret
        have hkk : k = len := by omega
        exact ⟨ret_int (by rw [List.take_of_length_le (by have := HL.out; omega)] at hle ⊢; rw [szv_yes (by omega)]; omega), unhide HB⟩

theorem infoHoz : (Tryz.prog.info? 106).map (fun i => (i.zero, i.size, i.bytes)) = some (some (.agg #[.string ByteArray.empty, .int .i64 0, .bool false]), 3, 32) := by kernel_rfl
def madeHo (n : Nat) : Array Value := madeCells #[.string ByteArray.empty, .int .i64 0, .bool false] (n * 3)
theorem madeHo_size (n : Nat) : (madeHo n).size = n * 3 := size_madeCells _ _
theorem make_Ho (n : Nat) (hn : n ≤ 2097152) (w : World) :
    (Instr.makeSlice 35 (.int .i64 (n : Int)) (.int .i64 (n : Int))).run Tryz.prog w = .ok (.slice (some ⟨w.heap.size, 0, none⟩) n n) (w.alloc (.cells (madeHo n) 106)) := by
  obtain ⟨i, hi, hzz⟩ := Option.map_eq_some_iff.1 infoHoz
  simp only [Prod.mk.injEq] at hzz
  obtain ⟨hz, hs, hb⟩ := hzz
  have hr := run_make (P := Tryz.prog) w 35 106 i _ Tryz.underlying35 hi hz .i64 .i64 n n (by omega) (Int.le_refl _) (by rw [hb]; omega) (by omega)
  simp only [Int.toNat_natCast, hs] at hr
  exact hr

set_option maxRecDepth 100000 in
set_option maxHeartbeats 2000000 in
theorem toHos (P : List Ho) (a : Option Addr) (cap : Nat) (w : World) (hl : hoK.Ls w 0 a P) (hsz : P.length + ws how P ≤ 1048576) :
    Calls Tryz.prog 22 #[.slice a P.length cap] w fun e w' => e = .returned (.slice (some ⟨w.heap.size, 0, none⟩) P.length P.length) ∧ hoK.Ls w' w.heap.size (some ⟨w.heap.size, 0, none⟩) P ∧ Below w.heap.size w w' := by
  have hln : P.length ≤ 1048576 := by omega
  have hmk := make_Ho P.length (by omega)
  have HM := hide (Kd.Mid.start hoK 106 w P (madeHo P.length) (madeHo_size _))
  have HT := hide hl
  have HZ := hide hsz
  clear hl hsz
  generalize hlen : P.length = len at hmk HM hln ⊢
  have HL : Hid (P.length = len) := hlen
  clear hlen
  go_enter Tryz.func22, Tryz.ntmps22
  go_wp2_with fail
  go_loopw [4] (fun i wr => ∃ k : Nat, k ≤ len ∧ i = .int .i64 k ∧ hoK.Mid 106 w P k wr) (fun i _ => len - (intOf i).toNat)
  case atStart => exact ⟨0, Nat.zero_le _, rfl, HM.out⟩
  case round =>
    obtain ⟨k, hkl, rfl, hM⟩ := hrel
    by_cases hlt : k < len
    · have hlt' : k < P.length := by have := HL.out; omega
      obtain ⟨p, hkp⟩ : ∃ p, P[k]? = some p := ⟨_, List.getElem?_eq_getElem hlt'⟩
      obtain ⟨b, o, cs, rfl, -, hbs, HR0, HT0, hcl0⟩ := ((unhide HT).on hM.below).get hkp
      have HR := hide (show wr.rangeAt b (o + k * 3) cs from HR0)
      have hcl := hide (show cs.length = 3 from hcl0)
      have HC := hide (toHo p cs wr HT0 (by have := ws_get how hkp; have := unhide HZ; have := unhide HL; omega))
      have HS : Hid (∀ w2 ct, Below wr.heap.size wr w2 → hoK.at_ w2 wr.heap.size p ct → hoK.Mid 106 w P (k + 1) (w2.setCells w.heap.size (k * 3) ct)) := fun w2 ct hb hx => hM.step hb hkp hx
      have HH : Hid (∀ w2, Below wr.heap.size wr w2 → w2.there w.heap.size (k * 3) 3) := fun w2 hb => hM.there hb hlt'
      have q2 : (k : Int) < (len : Int) := by omega
      have q3 : (0 : Int) ≤ (k : Int) := by omega
      have w2 : wrap64 ((k : Int) + 1) = ((k + 1 : Nat) : Int) := by unfold wrap64; omega
      clear hM hkp HR0 HT0 hcl0 hbs
      go_wp2_with (refine wpList_load_mid rfl _ _ rfl b (o + k * 3) rfl cs _ (unhide HR) Tryz.underlying84 rfl (by rw [unhide hcl]; exact infoLHo) ?_)
      refine (unhide HC).mono ?_
      rintro e w2 ⟨ct, rfl, hx2, hb2⟩
      have hth := hide (unhide HH _ hb2)
      have HM2 := hide (unhide HS w2 ct hb2 hx2)
      have hsz : Hid (ct.toArray.size = 3) := hide (hoK.arr (w := w2) (L := wr.heap.size) (x := p) hx2)
      have hall := hide (hoK.all (w := w2) (L := wr.heap.size) (x := p) hx2)
      clear hb2 hx2
      go_wp2_with (refine wpList_store_mid rfl _ _ _ rfl w.heap.size (k * 3) ct.toArray rfl rfl (by rw [unhide hsz]; exact unhide hth) (by rw [unhide hsz]; exact infoIHo) (unhide hall) ?_)
      go_roundw
      case rel => exact ⟨k + 1, by omega, rfl, by simpa using HM2.out⟩
      case measure => simp [intOf]; omega
    · have c2 : ¬ (k : Int) < (len : Int) := by omega
      go_wp2_with fail
      go_ret
      have hkk : k = P.length := by have := HL.out; omega
      subst hkk
      have e := HL.out
      subst e
      exact ⟨rfl, hM.ls, hM.below⟩

set_option maxRecDepth 100000 in
set_option maxHeartbeats 2000000 in
theorem eqHos (P : List Ho) (a a' : Option Addr) (c c' : Nat) (w : World) (hl : P.length + ws how P ≤ 1048576) (h : hoK.Ls w 0 a P) (h' : hoK.Ls w 0 a' P) :
    Calls Tryz.prog 31 #[.slice a P.length c, .slice a' P.length c'] w fun e w' => e = .returned (.bool true) ∧ Below w.heap.size w w' := by
  have H := hide h
  have H' := hide h'
  have HZ := hide hl
  have hln : P.length ≤ 1048576 := by omega
  clear h h' hl
  generalize hlen : P.length = len at *
  have HL : Hid (P.length = len) := hlen
  clear hlen
  have hne : ((len : Int) != (len : Int)) = false := by simp
  go_enter Tryz.func31, Tryz.ntmps31
  go_wp2_with fail
  go_loopw [5] (fun n wr => ∃ k : Nat, n = .int .i64 k ∧ Below w.heap.size w wr ∧ k ≤ len) (fun n _ => len - (intOf n).toNat)
  case atStart => exact ⟨0, rfl, Below.refl _ _, by omega⟩
  case round =>
    obtain ⟨k, rfl, hb, hk⟩ := hrel
    have HB := hide hb
    by_cases hp : k < len
    · have hp' : k < P.length := by have := HL.out; omega
      obtain ⟨p, hkp⟩ : ∃ p, P[k]? = some p := ⟨_, List.getElem?_eq_getElem hp'⟩
      obtain ⟨b, o, cs, rfl, -, -, HR, HT, -⟩ := ((unhide H).on hb).get hkp
      obtain ⟨b', o', cs', rfl, -, -, HR', HT', -⟩ := ((unhide H').on hb).get hkp
      have hct := hide (fun v hv hv' => eqHo p cs cs' v hv hv' (by have := ws_get how hkp; have := unhide HZ; have := unhide HL; omega))
      have HA := hide (hoK.on HT (Below.refl _ _).drew)
      have HA' := hide (hoK.on HT' (Below.refl _ _).drew)
      obtain ⟨rfl, -⟩ := HT
      obtain ⟨rfl, -⟩ := HT'

      have c0 : wr.cell? ⟨b, o + k * 3, none⟩ = some (.string p.name) := HR 0 _ rfl
      have d0 : wr.cell? ⟨b', o' + k * 3, none⟩ = some (.string p.name) := HR' 0 _ rfl
      have c1 : wr.cell? ⟨b, o + k * 3 + 1, none⟩ = some (.int .i64 p.key) := HR 1 _ rfl
      have d1 : wr.cell? ⟨b', o' + k * 3 + 1, none⟩ = some (.int .i64 p.key) := HR' 1 _ rfl
      have c2 : wr.cell? ⟨b, o + k * 3 + 2, none⟩ = some (.bool p.lost) := HR 2 _ rfl
      have d2 : wr.cell? ⟨b', o' + k * 3 + 2, none⟩ = some (.bool p.lost) := HR' 2 _ rfl

      have q2 : (k : Int) < (len : Int) := by omega
      have q3 : (0 : Int) ≤ (k : Int) := by omega
      have w1 : wrap64 ((k : Int) + 1) = ((k + 1 : Nat) : Int) := by unfold wrap64; omega
      clear hb hkp HR HR'
      generalize hid : how p = qw at *
      clear hid
      go_wp2_with fail
      go_region_with (go_at_call 66; refine (unhide hct _ (unhide HA) (unhide HA')).mono ?_; rintro e w2 ⟨rfl, hb2⟩; have HB2 := hide (btG (unhide HB) (below_drewG hb2)); clear hb2)
      all_goals
        go_wp2_with fail
        go_roundw
        case rel => exact ⟨k + 1, rfl, unhide HB2, by omega⟩
        case measure => simp only [intOf]; omega
    · have c2 : ¬ (k : Int) < (len : Int) := by omega
      clear hb
      go_wp2_with fail
      go_ret
      exact ⟨rfl, unhide HB⟩

def lew (x : Le) : Nat := x.d.size
theorem infoLLe : (Tryz.prog.info? 86).map (·.size) = some 5 := by kernel_rfl
theorem infoILe : (Tryz.prog.info? 52).map (·.size) = some 5 := by kernel_rfl

set_option maxRecDepth 100000 in
set_option maxHeartbeats 2000000 in
theorem szLe (x : Le) (cs : List Value) (l0 : Int) (w : World) (h : leAt w 0 x cs) (hl0 : 0 ≤ l0) (hl1 : l0 ≤ 1048576) :
    Calls Tryz.prog 39 #[.agg cs.toArray, .int .i64 l0] w fun e w' => e = .returned (.int .i64 (szv l0 (lew x))) ∧ Below w.heap.size w w' := by
  obtain ⟨d, b, s, t, n⟩ := x
  obtain ⟨rfl, hd⟩ := h
  replace hd : d.size ≤ maxLen := hd
  have hmm : d.size ≤ 9223372036854775807 := by unfold maxLen at hd; omega
  show Calls Tryz.prog 39 #[.agg #[.string d, .int .i64 b, .int .i64 s, .int .i64 t, .int .i64 n], .int .i64 l0] w fun e w' => e = .returned (.int .i64 (szv l0 d.size)) ∧ Below w.heap.size w w'
  obtain ⟨left, hleft⟩ : ∃ left : Int, left = l0 - (d.size : Int) := ⟨_, rfl⟩
  have w1 : wrap64 (l0 - (d.size : Int)) = left := by unfold wrap64; omega
  by_cases h1 : left < 0
  · have HE : Hid (szv l0 d.size = -1) := szv_no (by omega)
    clear hleft hd hmm
    go_enter Tryz.func39, Tryz.ntmps39
    go_wp2_with fail
    go_ret
    exact ⟨ret_int (unhide HE).symm, abG _⟩
  · have HE : Hid (szv l0 d.size = left) := by show _ = _; rw [szv_yes (by omega)]; omega
    clear hleft hd hmm
    go_enter Tryz.func39, Tryz.ntmps39
    go_wp2_with fail
    go_ret
    exact ⟨ret_int (unhide HE).symm, abG _⟩

set_option maxRecDepth 100000 in
set_option maxHeartbeats 2000000 in
theorem toLe (x : Le) (cs : List Value) (w : World) (h : leAt w 0 x cs) (_ : lew x ≤ 1048576) :
    Calls Tryz.prog 53 #[.agg cs.toArray] w fun e w' => ∃ ct, e = .returned (.agg ct.toArray) ∧ leAt w' w.heap.size x ct ∧ Below w.heap.size w w' := by
  obtain ⟨d, b, s, t, n⟩ := x
  obtain ⟨rfl, hd⟩ := h
  replace hd : d.size ≤ maxLen := hd
  have HD := hide hd
  clear hd
  show Calls Tryz.prog 53 #[.agg #[.string d, .int .i64 b, .int .i64 s, .int .i64 t, .int .i64 n]] w _
  have HB := hide (btG (btG (abG (w := w) (.cells #[.string d, .int .i64 b, .int .i64 s, .int .i64 t, .int .i64 n] 86)) (abG (.cells #[.string d, .int .i64 b, .int .i64 s, .int .i64 t, .int .i64 n] 52))) (abG (.cells #[.string d, .int .i64 b, .int .i64 s, .int .i64 t, .int .i64 n] 52)))
  go_enter Tryz.func53, Tryz.ntmps53
  go_wp2_with fail
  refine bodyPost_ret (v := .agg #[.string d, .int .i64 b, .int .i64 s, .int .i64 t, .int .i64 n]) (by simp [results, Tryz.results53, go_sem]) rfl ⟨[.string d, .int .i64 b, .int .i64 s, .int .i64 t, .int .i64 n], rfl, ⟨rfl, unhide HD⟩, unhide HB⟩

set_option maxRecDepth 100000 in
set_option maxHeartbeats 2000000 in
theorem eqLe (x : Le) (cs cs' : List Value) (w : World) (h : leAt w 0 x cs) (h' : leAt w 0 x cs') (_ : lew x ≤ 1048576) :
    Calls Tryz.prog 67 #[.agg cs.toArray, .agg cs'.toArray] w fun e w' => e = .returned (.bool true) ∧ Below w.heap.size w w' := by
  obtain ⟨d, b, s, t, n⟩ := x
  obtain ⟨rfl, -⟩ := h
  obtain ⟨rfl, -⟩ := h'
  show Calls Tryz.prog 67 #[.agg #[.string d, .int .i64 b, .int .i64 s, .int .i64 t, .int .i64 n], .agg #[.string d, .int .i64 b, .int .i64 s, .int .i64 t, .int .i64 n]] w _
  have HB := hide (btG (abG (w := w) (.cells #[.string d, .int .i64 b, .int .i64 s, .int .i64 t, .int .i64 n] 52)) (abG (.cells #[.string d, .int .i64 b, .int .i64 s, .int .i64 t, .int .i64 n] 52)))
  go_enter Tryz.func67, Tryz.ntmps67

  all_goals
    go_wp2_with fail
    go_ret
    exact ⟨rfl, unhide HB⟩

set_option maxRecDepth 100000 in
set_option maxHeartbeats 2000000 in
theorem szLes (P : List Le) (a : Option Addr) (cap : Nat) (left : Int) (w : World) (hl : leK.Ls w 0 a P) (hm : P.length ≤ maxLen) (h0 : 0 ≤ left) (h1 : left ≤ 1048576) :
    Calls Tryz.prog 12 #[.slice a P.length cap, .int .i64 left] w fun e w' => e = .returned (.int .i64 (szv left (P.length + ws lew P))) ∧ Below w.heap.size w w' := by
  unfold maxLen at hm
  generalize hlen : P.length = len at *
  have HL : Hid (P.length = len) := hlen
  clear hlen
  have w0 : wrap64 (left - (len : Int)) = left - (len : Int) := by unfold wrap64; omega
  by_cases hlt : left - len < 0
  · have HE : Hid (szv left (len + ws lew P) = -1) := szv_no (by omega)
    go_enter Tryz.func12, Tryz.ntmps12
    go_wp2_with fail
    go_ret
    exact ⟨ret_int (unhide HE).symm, Below.refl _ _⟩
  · have HF := hide h1
    go_enter Tryz.func12, Tryz.ntmps12
    go_wp2_with fail
    go_loopw [1, 5] (fun x i wr => ∃ k : Nat, k ≤ len ∧ i = .int .i64 k ∧ (len : Int) + (ws lew (P.take k) : Int) ≤ left ∧ x = .int .i64 (left - len - (ws lew (P.take k) : Int)) ∧ Below w.heap.size w wr) (fun _ i _ => len - (intOf i).toNat)
    case atStart => exact ⟨0, Nat.zero_le _, rfl, by simp [ws]; omega, by simp [ws], Below.refl _ _⟩
    case round =>
      obtain ⟨k, hk, rfl, hle, rfl, hbr⟩ := hrel
      have HB := hide hbr
      by_cases hkl : k < len
      · have hkl' : k < P.length := by have := HL.out; omega
        obtain ⟨p, hkp⟩ : ∃ p, P[k]? = some p := ⟨_, List.getElem?_eq_getElem hkl'⟩
        obtain ⟨b, o, cs, rfl, -, hbs, HR0, HT, hcl0⟩ := (hl.on hbr).get hkp
        have HR := hide (show wr.rangeAt b (o + k * 5) cs from HR0)
        have hcl := hide (show cs.length = 5 from hcl0)
        have HW := hide (ws_take lew P hkp)
        have HA := hide (ws_take_le lew P (k + 1))
        have q2 : (k : Int) < (len : Int) := by omega
        have q3 : (0 : Int) ≤ (k : Int) := by omega
        generalize hwl : ws lew (P.take k) = wl at *
        generalize hwk : ws lew (P.take (k + 1)) = wk at *
        have w2 : wrap64 ((k : Int) + 1) = ((k + 1 : Nat) : Int) := by unfold wrap64; omega
        have Hwk : Hid (ws lew (P.take (k + 1)) = wk) := hwk
        have HC := hide (szLe p cs (left - len - wl) wr HT (by omega) (by omega))
        clear hwl hwk hkp hl hbr HR0 HT hcl0 hbs
        generalize lew p = q at *
        by_cases hw : (q : Int) ≤ left - len - wl
        · rw [szv_yes hw] at HC
          have hsv : ¬ left - len - wl - (q : Int) < 0 := by omega
          go_wp2_with (refine wpList_load_mid rfl _ _ rfl b (o + k * 5) rfl cs _ (unhide HR) Tryz.underlying86 rfl (by rw [unhide hcl]; exact infoLLe) ?_)
          refine (unhide HC).mono ?_
          rintro e w3 ⟨rfl, hb3⟩
          have HB3 := hide (btG (unhide HB) hb3)
          clear hb3
          go_wp2_with fail
          go_roundw
          case rel => exact ⟨k + 1, by omega, rfl, by have := HW.out; have := Hwk.out; omega, by have := HW.out; have := Hwk.out; rw [this]; congr 1; omega, unhide HB3⟩
          case measure => simp [intOf]; omega
        · rw [szv_no (by omega)] at HC
          go_wp2_with (refine wpList_load_mid rfl _ _ rfl b (o + k * 5) rfl cs _ (unhide HR) Tryz.underlying86 rfl (by rw [unhide hcl]; exact infoLLe) ?_)
          refine (unhide HC).mono ?_
          rintro e w3 ⟨rfl, hb3⟩
          have HB3 := hide (btG (unhide HB) hb3)
          clear hb3
          go_wp2_with fail
          go_ret
          exact ⟨ret_int (by rw [szv_no (by have := HW.out; have := HA.out; omega)]), unhide HB3⟩
      · have c2 : ¬ (k : Int) < (len : Int) := by omega
        clear hbr
        go_wp2_with fail
        go_ret
        have hkk : k = len := by omega
        exact ⟨ret_int (by rw [List.take_of_length_le (by have := HL.out; omega)] at hle ⊢; rw [szv_yes (by omega)]; omega), unhide HB⟩

theorem infoLez : (Tryz.prog.info? 52).map (fun i => (i.zero, i.size, i.bytes)) = some (some (.agg #[.string ByteArray.empty, .int .i64 0, .int .i64 0, .int .i64 0, .int .i64 0]), 5, 48) := by kernel_rfl
def madeLe (n : Nat) : Array Value := madeCells #[.string ByteArray.empty, .int .i64 0, .int .i64 0, .int .i64 0, .int .i64 0] (n * 5)
theorem madeLe_size (n : Nat) : (madeLe n).size = n * 5 := size_madeCells _ _
theorem make_Le (n : Nat) (hn : n ≤ 2097152) (w : World) :
    (Instr.makeSlice 36 (.int .i64 (n : Int)) (.int .i64 (n : Int))).run Tryz.prog w = .ok (.slice (some ⟨w.heap.size, 0, none⟩) n n) (w.alloc (.cells (madeLe n) 52)) := by
  obtain ⟨i, hi, hzz⟩ := Option.map_eq_some_iff.1 infoLez
  simp only [Prod.mk.injEq] at hzz
  obtain ⟨hz, hs, hb⟩ := hzz
  have hr := run_make (P := Tryz.prog) w 36 52 i _ Tryz.underlying36 hi hz .i64 .i64 n n (by omega) (Int.le_refl _) (by rw [hb]; omega) (by omega)
  simp only [Int.toNat_natCast, hs] at hr
  exact hr

set_option maxRecDepth 100000 in
set_option maxHeartbeats 2000000 in
theorem toLes (P : List Le) (a : Option Addr) (cap : Nat) (w : World) (hl : leK.Ls w 0 a P) (hsz : P.length + ws lew P ≤ 1048576) :
    Calls Tryz.prog 23 #[.slice a P.length cap] w fun e w' => e = .returned (.slice (some ⟨w.heap.size, 0, none⟩) P.length P.length) ∧ leK.Ls w' w.heap.size (some ⟨w.heap.size, 0, none⟩) P ∧ Below w.heap.size w w' := by
  have hln : P.length ≤ 1048576 := by omega
  have hmk := make_Le P.length (by omega)
  have HM := hide (Kd.Mid.start leK 52 w P (madeLe P.length) (madeLe_size _))
  have HT := hide hl
  have HZ := hide hsz
  clear hl hsz
  generalize hlen : P.length = len at hmk HM hln ⊢
  have HL : Hid (P.length = len) := hlen
  clear hlen
  go_enter Tryz.func23, Tryz.ntmps23
  go_wp2_with fail
  go_loopw [4] (fun i wr => ∃ k : Nat, k ≤ len ∧ i = .int .i64 k ∧ leK.Mid 52 w P k wr) (fun i _ => len - (intOf i).toNat)
  case atStart => exact ⟨0, Nat.zero_le _, rfl, HM.out⟩
  case round =>
    obtain ⟨k, hkl, rfl, hM⟩ := hrel
    by_cases hlt : k < len
    · have hlt' : k < P.length := by have := HL.out; omega
      obtain ⟨p, hkp⟩ : ∃ p, P[k]? = some p := ⟨_, List.getElem?_eq_getElem hlt'⟩
      obtain ⟨b, o, cs, rfl, -, hbs, HR0, HT0, hcl0⟩ := ((unhide HT).on hM.below).get hkp
      have HR := hide (show wr.rangeAt b (o + k * 5) cs from HR0)
      have hcl := hide (show cs.length = 5 from hcl0)
      have HC := hide (toLe p cs wr HT0 (by have := ws_get lew hkp; have := unhide HZ; have := unhide HL; omega))
      have HS : Hid (∀ w2 ct, Below wr.heap.size wr w2 → leK.at_ w2 wr.heap.size p ct → leK.Mid 52 w P (k + 1) (w2.setCells w.heap.size (k * 5) ct)) := fun w2 ct hb hx => hM.step hb hkp hx
      have HH : Hid (∀ w2, Below wr.heap.size wr w2 → w2.there w.heap.size (k * 5) 5) := fun w2 hb => hM.there hb hlt'
      have q2 : (k : Int) < (len : Int) := by omega
      have q3 : (0 : Int) ≤ (k : Int) := by omega
      have w2 : wrap64 ((k : Int) + 1) = ((k + 1 : Nat) : Int) := by unfold wrap64; omega
      clear hM hkp HR0 HT0 hcl0 hbs
      go_wp2_with (refine wpList_load_mid rfl _ _ rfl b (o + k * 5) rfl cs _ (unhide HR) Tryz.underlying86 rfl (by rw [unhide hcl]; exact infoLLe) ?_)
      refine (unhide HC).mono ?_
      rintro e w2 ⟨ct, rfl, hx2, hb2⟩
      have hth := hide (unhide HH _ hb2)
      have HM2 := hide (unhide HS w2 ct hb2 hx2)
      have hsz : Hid (ct.toArray.size = 5) := hide (leK.arr (w := w2) (L := wr.heap.size) (x := p) hx2)
      have hall := hide (leK.all (w := w2) (L := wr.heap.size) (x := p) hx2)
      clear hb2 hx2
      go_wp2_with (refine wpList_store_mid rfl _ _ _ rfl w.heap.size (k * 5) ct.toArray rfl rfl (by rw [unhide hsz]; exact unhide hth) (by rw [unhide hsz]; exact infoILe) (unhide hall) ?_)
      go_roundw
      case rel => exact ⟨k + 1, by omega, rfl, by simpa using HM2.out⟩
      case measure => simp [intOf]; omega
    · have c2 : ¬ (k : Int) < (len : Int) := by omega
      go_wp2_with fail
      go_ret
      have hkk : k = P.length := by have := HL.out; omega
      subst hkk
      have e := HL.out
      subst e
      exact ⟨rfl, hM.ls, hM.below⟩

set_option maxRecDepth 100000 in
set_option maxHeartbeats 2000000 in
theorem eqLes (P : List Le) (a a' : Option Addr) (c c' : Nat) (w : World) (hl : P.length + ws lew P ≤ 1048576) (h : leK.Ls w 0 a P) (h' : leK.Ls w 0 a' P) :
    Calls Tryz.prog 32 #[.slice a P.length c, .slice a' P.length c'] w fun e w' => e = .returned (.bool true) ∧ Below w.heap.size w w' := by
  have H := hide h
  have H' := hide h'
  have HZ := hide hl
  have hln : P.length ≤ 1048576 := by omega
  clear h h' hl
  generalize hlen : P.length = len at *
  have HL : Hid (P.length = len) := hlen
  clear hlen
  have hne : ((len : Int) != (len : Int)) = false := by simp
  go_enter Tryz.func32, Tryz.ntmps32
  go_wp2_with fail
  go_loopw [5] (fun n wr => ∃ k : Nat, n = .int .i64 k ∧ Below w.heap.size w wr ∧ k ≤ len) (fun n _ => len - (intOf n).toNat)
  case atStart => exact ⟨0, rfl, Below.refl _ _, by omega⟩
  case round =>
    obtain ⟨k, rfl, hb, hk⟩ := hrel
    have HB := hide hb
    by_cases hp : k < len
    · have hp' : k < P.length := by have := HL.out; omega
      obtain ⟨p, hkp⟩ : ∃ p, P[k]? = some p := ⟨_, List.getElem?_eq_getElem hp'⟩
      obtain ⟨b, o, cs, rfl, -, -, HR, HT, -⟩ := ((unhide H).on hb).get hkp
      obtain ⟨b', o', cs', rfl, -, -, HR', HT', -⟩ := ((unhide H').on hb).get hkp
      have hct := hide (fun v hv hv' => eqLe p cs cs' v hv hv' (by have := ws_get lew hkp; have := unhide HZ; have := unhide HL; omega))
      have HA := hide (leK.on HT (Below.refl _ _).drew)
      have HA' := hide (leK.on HT' (Below.refl _ _).drew)
      obtain ⟨rfl, -⟩ := HT
      obtain ⟨rfl, -⟩ := HT'

      have c0 : wr.cell? ⟨b, o + k * 5, none⟩ = some (.string p.d) := HR 0 _ rfl
      have d0 : wr.cell? ⟨b', o' + k * 5, none⟩ = some (.string p.d) := HR' 0 _ rfl
      have c1 : wr.cell? ⟨b, o + k * 5 + 1, none⟩ = some (.int .i64 p.b) := HR 1 _ rfl
      have d1 : wr.cell? ⟨b', o' + k * 5 + 1, none⟩ = some (.int .i64 p.b) := HR' 1 _ rfl
      have c2 : wr.cell? ⟨b, o + k * 5 + 2, none⟩ = some (.int .i64 p.s) := HR 2 _ rfl
      have d2 : wr.cell? ⟨b', o' + k * 5 + 2, none⟩ = some (.int .i64 p.s) := HR' 2 _ rfl
      have c3 : wr.cell? ⟨b, o + k * 5 + 3, none⟩ = some (.int .i64 p.t) := HR 3 _ rfl
      have d3 : wr.cell? ⟨b', o' + k * 5 + 3, none⟩ = some (.int .i64 p.t) := HR' 3 _ rfl
      have c4 : wr.cell? ⟨b, o + k * 5 + 4, none⟩ = some (.int .i64 p.n) := HR 4 _ rfl
      have d4 : wr.cell? ⟨b', o' + k * 5 + 4, none⟩ = some (.int .i64 p.n) := HR' 4 _ rfl

      have q2 : (k : Int) < (len : Int) := by omega
      have q3 : (0 : Int) ≤ (k : Int) := by omega
      have w1 : wrap64 ((k : Int) + 1) = ((k + 1 : Nat) : Int) := by unfold wrap64; omega
      clear hb hkp HR HR'
      generalize hid : lew p = qw at *
      clear hid
      go_wp2_with fail
      go_region_with (go_at_call 67; refine (unhide hct _ (unhide HA) (unhide HA')).mono ?_; rintro e w2 ⟨rfl, hb2⟩; have HB2 := hide (btG (unhide HB) (below_drewG hb2)); clear hb2)
      all_goals
        go_wp2_with fail
        go_roundw
        case rel => exact ⟨k + 1, rfl, unhide HB2, by omega⟩
        case measure => simp only [intOf]; omega
    · have c2 : ¬ (k : Int) < (len : Int) := by omega
      clear hb
      go_wp2_with fail
      go_ret
      exact ⟨rfl, unhide HB⟩

theorem infoLPo : (Tryz.prog.info? 81).map (·.size) = some 4 := by kernel_rfl
theorem infoIPo : (Tryz.prog.info? 104).map (·.size) = some 4 := by kernel_rfl

theorem szPo (x : Pol) (cs : List Value) (l0 : Int) (w : World) (h : poAt w 0 x cs) (hl0 : 0 ≤ l0) (hl1 : l0 ≤ 1048576) :
    Calls Tryz.prog 37 #[.agg cs.toArray, .int .i64 l0] w fun e w' => e = .returned (.int .i64 (szv l0 (pw x))) ∧ Below w.heap.size w w' := by
  obtain ⟨hf, a, cap, rfl, hl⟩ := h
  exact szPg x.l x.d x.m a cap x.u l0 hl0 hl1 w hl hf.1 hf.2.1 hf.2.2
theorem toPo (x : Pol) (cs : List Value) (w : World) (h : poAt w 0 x cs) (hz : pw x ≤ 1048576) :
    Calls Tryz.prog 51 #[.agg cs.toArray] w fun e w' => ∃ ct, e = .returned (.agg ct.toArray) ∧ poAt w' w.heap.size x ct ∧ Below w.heap.size w w' := by
  obtain ⟨hf, a, cap, rfl, hl⟩ := h
  refine (toP x.l x.d x.m a cap x.u w hl (by unfold pw at hz; omega)).mono ?_
  rintro e w' ⟨a', rfl, h1, h2⟩
  exact ⟨polCells x a' x.l.length, rfl, ⟨hf, a', _, rfl, h1⟩, h2⟩
theorem eqPo (x : Pol) (cs cs' : List Value) (w : World) (h : poAt w 0 x cs) (h' : poAt w 0 x cs') (hz : pw x ≤ 1048576) :
    Calls Tryz.prog 65 #[.agg cs.toArray, .agg cs'.toArray] w fun e w' => e = .returned (.bool true) ∧ Below w.heap.size w w' := by
  obtain ⟨-, a, cap, rfl, hl⟩ := h
  obtain ⟨-, a', cap', rfl, hl'⟩ := h'
  exact eqP x.l x.d x.m a a' cap cap' x.u w hl hl' (by unfold pw at hz; omega)

set_option maxRecDepth 100000 in
set_option maxHeartbeats 2000000 in
theorem szPos (P : List Pol) (a : Option Addr) (cap : Nat) (left : Int) (w : World) (hl : poK.Ls w 0 a P) (hm : P.length ≤ maxLen) (h0 : 0 ≤ left) (h1 : left ≤ 1048576) :
    Calls Tryz.prog 10 #[.slice a P.length cap, .int .i64 left] w fun e w' => e = .returned (.int .i64 (szv left (P.length + ws pw P))) ∧ Below w.heap.size w w' := by
  unfold maxLen at hm
  generalize hlen : P.length = len at *
  have HL : Hid (P.length = len) := hlen
  clear hlen
  have w0 : wrap64 (left - (len : Int)) = left - (len : Int) := by unfold wrap64; omega
  by_cases hlt : left - len < 0
  · have HE : Hid (szv left (len + ws pw P) = -1) := szv_no (by omega)
    go_enter Tryz.func10, Tryz.ntmps10
    go_wp2_with fail
    go_ret
    exact ⟨ret_int (unhide HE).symm, Below.refl _ _⟩
  · have HF := hide h1
    go_enter Tryz.func10, Tryz.ntmps10
    go_wp2_with fail
    go_loopw [1, 5] (fun x i wr => ∃ k : Nat, k ≤ len ∧ i = .int .i64 k ∧ (len : Int) + (ws pw (P.take k) : Int) ≤ left ∧ x = .int .i64 (left - len - (ws pw (P.take k) : Int)) ∧ Below w.heap.size w wr) (fun _ i _ => len - (intOf i).toNat)
    case atStart => exact ⟨0, Nat.zero_le _, rfl, by simp [ws]; omega, by simp [ws], Below.refl _ _⟩
    case round =>
      obtain ⟨k, hk, rfl, hle, rfl, hbr⟩ := hrel
      have HB := hide hbr
      by_cases hkl : k < len
      · have hkl' : k < P.length := by have := HL.out; omega
        obtain ⟨p, hkp⟩ : ∃ p, P[k]? = some p := ⟨_, List.getElem?_eq_getElem hkl'⟩
        obtain ⟨b, o, cs, rfl, -, hbs, HR0, HT, hcl0⟩ := (hl.on hbr).get hkp
        have HR := hide (show wr.rangeAt b (o + k * 4) cs from HR0)
        have hcl := hide (show cs.length = 4 from hcl0)
        have HW := hide (ws_take pw P hkp)
        have HA := hide (ws_take_le pw P (k + 1))
        have q2 : (k : Int) < (len : Int) := by omega
        have q3 : (0 : Int) ≤ (k : Int) := by omega
        generalize hwl : ws pw (P.take k) = wl at *
        generalize hwk : ws pw (P.take (k + 1)) = wk at *
        have w2 : wrap64 ((k : Int) + 1) = ((k + 1 : Nat) : Int) := by unfold wrap64; omega
        have Hwk : Hid (ws pw (P.take (k + 1)) = wk) := hwk
        have HC := hide (szPo p cs (left - len - wl) wr HT (by omega) (by omega))
        clear hwl hwk hkp hl hbr HR0 HT hcl0 hbs
        generalize pw p = q at *
        by_cases hw : (q : Int) ≤ left - len - wl
        · rw [szv_yes hw] at HC
          have hsv : ¬ left - len - wl - (q : Int) < 0 := by omega
          go_wp2_with (refine wpList_load_mid rfl _ _ rfl b (o + k * 4) rfl cs _ (unhide HR) Tryz.underlying81 rfl (by rw [unhide hcl]; exact infoLPo) ?_)
          refine (unhide HC).mono ?_
          rintro e w3 ⟨rfl, hb3⟩
          have HB3 := hide (btG (unhide HB) hb3)
          clear hb3
          go_wp2_with fail
          go_roundw
          case rel => exact ⟨k + 1, by omega, rfl, by have := HW.out; have := Hwk.out; omega, by have := HW.out; have := Hwk.out; rw [this]; congr 1; omega, unhide HB3⟩
          case measure => simp [intOf]; omega
        · rw [szv_no (by omega)] at HC
          go_wp2_with (refine wpList_load_mid rfl _ _ rfl b (o + k * 4) rfl cs _ (unhide HR) Tryz.underlying81 rfl (by rw [unhide hcl]; exact infoLPo) ?_)
          refine (unhide HC).mono ?_
          rintro e w3 ⟨rfl, hb3⟩
          have HB3 := hide (btG (unhide HB) hb3)
          clear hb3
          go_wp2_with fail
          go_ret
          exact ⟨ret_int (by rw [szv_no (by have := HW.out; have := HA.out; omega)]), unhide HB3⟩
      · have c2 : ¬ (k : Int) < (len : Int) := by omega
        clear hbr
        go_wp2_with fail
        go_ret
        have hkk : k = len := by omega
        exact ⟨ret_int (by rw [List.take_of_length_le (by have := HL.out; omega)] at hle ⊢; rw [szv_yes (by omega)]; omega), unhide HB⟩

theorem infoPoz : (Tryz.prog.info? 104).map (fun i => (i.zero, i.size, i.bytes)) = some (some (.agg #[.string ByteArray.empty, .int .i64 0, .slice none 0 0, .int .i64 0]), 4, 56) := by kernel_rfl
def madePo (n : Nat) : Array Value := madeCells #[.string ByteArray.empty, .int .i64 0, .slice none 0 0, .int .i64 0] (n * 4)
theorem madePo_size (n : Nat) : (madePo n).size = n * 4 := size_madeCells _ _
theorem make_Po (n : Nat) (hn : n ≤ 2097152) (w : World) :
    (Instr.makeSlice 34 (.int .i64 (n : Int)) (.int .i64 (n : Int))).run Tryz.prog w = .ok (.slice (some ⟨w.heap.size, 0, none⟩) n n) (w.alloc (.cells (madePo n) 104)) := by
  obtain ⟨i, hi, hzz⟩ := Option.map_eq_some_iff.1 infoPoz
  simp only [Prod.mk.injEq] at hzz
  obtain ⟨hz, hs, hb⟩ := hzz
  have hr := run_make (P := Tryz.prog) w 34 104 i _ Tryz.underlying34 hi hz .i64 .i64 n n (by omega) (Int.le_refl _) (by rw [hb]; omega) (by omega)
  simp only [Int.toNat_natCast, hs] at hr
  exact hr

set_option maxRecDepth 100000 in
set_option maxHeartbeats 2000000 in
theorem toPos (P : List Pol) (a : Option Addr) (cap : Nat) (w : World) (hl : poK.Ls w 0 a P) (hsz : P.length + ws pw P ≤ 1048576) :
    Calls Tryz.prog 21 #[.slice a P.length cap] w fun e w' => e = .returned (.slice (some ⟨w.heap.size, 0, none⟩) P.length P.length) ∧ poK.Ls w' w.heap.size (some ⟨w.heap.size, 0, none⟩) P ∧ Below w.heap.size w w' := by
  have hln : P.length ≤ 1048576 := by omega
  have hmk := make_Po P.length (by omega)
  have HM := hide (Kd.Mid.start poK 104 w P (madePo P.length) (madePo_size _))
  have HT := hide hl
  have HZ := hide hsz
  clear hl hsz
  generalize hlen : P.length = len at hmk HM hln ⊢
  have HL : Hid (P.length = len) := hlen
  clear hlen
  go_enter Tryz.func21, Tryz.ntmps21
  go_wp2_with fail
  go_loopw [4] (fun i wr => ∃ k : Nat, k ≤ len ∧ i = .int .i64 k ∧ poK.Mid 104 w P k wr) (fun i _ => len - (intOf i).toNat)
  case atStart => exact ⟨0, Nat.zero_le _, rfl, HM.out⟩
  case round =>
    obtain ⟨k, hkl, rfl, hM⟩ := hrel
    by_cases hlt : k < len
    · have hlt' : k < P.length := by have := HL.out; omega
      obtain ⟨p, hkp⟩ : ∃ p, P[k]? = some p := ⟨_, List.getElem?_eq_getElem hlt'⟩
      obtain ⟨b, o, cs, rfl, -, hbs, HR0, HT0, hcl0⟩ := ((unhide HT).on hM.below).get hkp
      have HR := hide (show wr.rangeAt b (o + k * 4) cs from HR0)
      have hcl := hide (show cs.length = 4 from hcl0)
      have HC := hide (toPo p cs wr HT0 (by have := ws_get pw hkp; have := unhide HZ; have := unhide HL; omega))
      have HS : Hid (∀ w2 ct, Below wr.heap.size wr w2 → poK.at_ w2 wr.heap.size p ct → poK.Mid 104 w P (k + 1) (w2.setCells w.heap.size (k * 4) ct)) := fun w2 ct hb hx => hM.step hb hkp hx
      have HH : Hid (∀ w2, Below wr.heap.size wr w2 → w2.there w.heap.size (k * 4) 4) := fun w2 hb => hM.there hb hlt'
      have q2 : (k : Int) < (len : Int) := by omega
      have q3 : (0 : Int) ≤ (k : Int) := by omega
      have w2 : wrap64 ((k : Int) + 1) = ((k + 1 : Nat) : Int) := by unfold wrap64; omega
      clear hM hkp HR0 HT0 hcl0 hbs
      go_wp2_with (refine wpList_load_mid rfl _ _ rfl b (o + k * 4) rfl cs _ (unhide HR) Tryz.underlying81 rfl (by rw [unhide hcl]; exact infoLPo) ?_)
      refine (unhide HC).mono ?_
      rintro e w2 ⟨ct, rfl, hx2, hb2⟩
      have hth := hide (unhide HH _ hb2)
      have HM2 := hide (unhide HS w2 ct hb2 hx2)
      have hsz : Hid (ct.toArray.size = 4) := hide (poK.arr (w := w2) (L := wr.heap.size) (x := p) hx2)
      have hall := hide (poK.all (w := w2) (L := wr.heap.size) (x := p) hx2)
      clear hb2 hx2
      go_wp2_with (refine wpList_store_mid rfl _ _ _ rfl w.heap.size (k * 4) ct.toArray rfl rfl (by rw [unhide hsz]; exact unhide hth) (by rw [unhide hsz]; exact infoIPo) (unhide hall) ?_)
      go_roundw
      case rel => exact ⟨k + 1, by omega, rfl, by simpa using HM2.out⟩
      case measure => simp [intOf]; omega
    · have c2 : ¬ (k : Int) < (len : Int) := by omega
      go_wp2_with fail
      go_ret
      have hkk : k = P.length := by have := HL.out; omega
      subst hkk
      have e := HL.out
      subst e
      exact ⟨rfl, hM.ls, hM.below⟩

set_option maxRecDepth 100000 in
set_option maxHeartbeats 2000000 in
theorem eqPos (P : List Pol) (a a' : Option Addr) (c c' : Nat) (w : World) (hl : P.length + ws pw P ≤ 1048576) (h : poK.Ls w 0 a P) (h' : poK.Ls w 0 a' P) :
    Calls Tryz.prog 30 #[.slice a P.length c, .slice a' P.length c'] w fun e w' => e = .returned (.bool true) ∧ Below w.heap.size w w' := by
  have H := hide h
  have H' := hide h'
  have HZ := hide hl
  have hln : P.length ≤ 1048576 := by omega
  clear h h' hl
  generalize hlen : P.length = len at *
  have HL : Hid (P.length = len) := hlen
  clear hlen
  have hne : ((len : Int) != (len : Int)) = false := by simp
  go_enter Tryz.func30, Tryz.ntmps30
  go_wp2_with fail
  go_loopw [5] (fun n wr => ∃ k : Nat, n = .int .i64 k ∧ Below w.heap.size w wr ∧ k ≤ len) (fun n _ => len - (intOf n).toNat)
  case atStart => exact ⟨0, rfl, Below.refl _ _, by omega⟩
  case round =>
    obtain ⟨k, rfl, hb, hk⟩ := hrel
    have HB := hide hb
    by_cases hp : k < len
    · have hp' : k < P.length := by have := HL.out; omega
      obtain ⟨p, hkp⟩ : ∃ p, P[k]? = some p := ⟨_, List.getElem?_eq_getElem hp'⟩
      obtain ⟨b, o, cs, rfl, -, -, HR, HT, -⟩ := ((unhide H).on hb).get hkp
      obtain ⟨b', o', cs', rfl, -, -, HR', HT', -⟩ := ((unhide H').on hb).get hkp
      have hct := hide (fun v hv hv' => eqPo p cs cs' v hv hv' (by have := ws_get pw hkp; have := unhide HZ; have := unhide HL; omega))
      have HA := hide (poK.on HT (Below.refl _ _).drew)
      have HA' := hide (poK.on HT' (Below.refl _ _).drew)
      obtain ⟨-, x, xc, rfl, -⟩ := HT
      obtain ⟨-, x', xc', rfl, -⟩ := HT'

      have c0 : wr.cell? ⟨b, o + k * 4, none⟩ = some (.string p.d) := HR 0 _ rfl
      have d0 : wr.cell? ⟨b', o' + k * 4, none⟩ = some (.string p.d) := HR' 0 _ rfl
      have c1 : wr.cell? ⟨b, o + k * 4 + 1, none⟩ = some (.int .i64 p.m) := HR 1 _ rfl
      have d1 : wr.cell? ⟨b', o' + k * 4 + 1, none⟩ = some (.int .i64 p.m) := HR' 1 _ rfl
      have c2 : wr.cell? ⟨b, o + k * 4 + 2, none⟩ = some (.slice x p.l.length xc) := HR 2 _ rfl
      have d2 : wr.cell? ⟨b', o' + k * 4 + 2, none⟩ = some (.slice x' p.l.length xc') := HR' 2 _ rfl
      have c3 : wr.cell? ⟨b, o + k * 4 + 3, none⟩ = some (.int .i64 p.u) := HR 3 _ rfl
      have d3 : wr.cell? ⟨b', o' + k * 4 + 3, none⟩ = some (.int .i64 p.u) := HR' 3 _ rfl

      have q2 : (k : Int) < (len : Int) := by omega
      have q3 : (0 : Int) ≤ (k : Int) := by omega
      have w1 : wrap64 ((k : Int) + 1) = ((k + 1 : Nat) : Int) := by unfold wrap64; omega
      clear hb hkp HR HR'
      generalize hid : pw p = qw at *
      clear hid
      go_wp2_with fail
      go_region_with (go_at_call 65; refine (unhide hct _ (unhide HA) (unhide HA')).mono ?_; rintro e w2 ⟨rfl, hb2⟩; have HB2 := hide (btG (unhide HB) (below_drewG hb2)); clear hb2)
      all_goals
        go_wp2_with fail
        go_roundw
        case rel => exact ⟨k + 1, rfl, unhide HB2, by omega⟩
        case measure => simp only [intOf]; omega
    · have c2 : ¬ (k : Int) < (len : Int) := by omega
      clear hb
      go_wp2_with fail
      go_ret
      exact ⟨rfl, unhide HB⟩

end Go.Proofs.YtbbidjckplpaiaaGreatDoor
