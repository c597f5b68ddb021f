/- Lists of calls: the walks of laws.szCallS, toCallS, eqCallS; nothing that was there is written. -/
import Derived.Test.YtepmgjklonhkgaaWd
import Derived.Deep.MidRow
import Derived.Deep.RegionHeld3
namespace Go.Proofs.Ytepmgjklonhkgaa
open Go.RowKit Go.Deep

set_option maxRecDepth 100000 in
set_option maxHeartbeats 2000000 in
theorem szCas (P : List Ca) (a : Option Addr) (cap : Nat) (left : Int) (w : World) (hl : caK.Ls w 0 a P) (hm : P.length ≤ maxLen) (h0 : 0 ≤ left) (h1 : left ≤ 1048576) :
    Calls Try.prog 13 #[.slice a P.length cap, .int .i64 left] w fun e w' => e = .returned (.int .i64 (szv left (P.length + ws caw P))) ∧ Below w.heap.size w w' := by
  unfold maxLen at hm
  generalize hlen : P.length = len at *
  have HL : Hid (P.length = len) := hlen
  clear hlen
  have w0 : wrap64 (left - (len : Int)) = left - (len : Int) := by unfold wrap64; omega
  by_cases hlt : left - len < 0
  · have HE : Hid (szv left (len + ws caw P) = -1) := szv_no (by omega)
    go_enter Try.func13, Try.ntmps13
    go_wp2_with fail
    go_ret
    exact ⟨ret_int (unhide HE).symm, Below.refl _ _⟩
  · have HF := hide h1
    go_enter Try.func13, Try.ntmps13
    go_wp2_with fail
    go_loopw [1, 5] (fun x i wr => ∃ k : Nat, k ≤ len ∧ i = .int .i64 k ∧ (len : Int) + (ws caw (P.take k) : Int) ≤ left ∧ x = .int .i64 (left - len - (ws caw (P.take k) : Int)) ∧ Below w.heap.size w wr) (fun _ i _ => len - (intOf i).toNat)
    case atStart => exact ⟨0, Nat.zero_le _, rfl, by simp [ws]; omega, by simp [ws], Below.refl _ _⟩
    case round =>
      obtain ⟨k, hk, rfl, hle, rfl, hbr⟩ := hrel
      have HB := hide hbr
      by_cases hkl : k < len
      · have hkl' : k < P.length := by have := HL.out; omega
        obtain ⟨p, hkp⟩ : ∃ p, P[k]? = some p := ⟨_, List.getElem?_eq_getElem hkl'⟩
        obtain ⟨b, o, cs, rfl, -, hbs, HR0, HT, hcl0⟩ := (hl.on hbr).get hkp
        have HR := hide (show wr.rangeAt b (o + k * 15) cs from HR0)
        have hcl := hide (show cs.length = 15 from hcl0)
        have HW := hide (ws_take caw P hkp)
        have HA := hide (ws_take_le caw P (k + 1))
        have q2 : (k : Int) < (len : Int) := by omega
        have q3 : (0 : Int) ≤ (k : Int) := by omega
        generalize hwl : ws caw (P.take k) = wl at *
        generalize hwk : ws caw (P.take (k + 1)) = wk at *
        have w2 : wrap64 ((k : Int) + 1) = ((k + 1 : Nat) : Int) := by unfold wrap64; omega
        have Hwk : Hid (ws caw (P.take (k + 1)) = wk) := hwk
        have HC := hide (szCa p cs (left - len - wl) wr HT (by omega) (by omega))
        clear hwl hwk hkp hl hbr HR0 HT hcl0 hbs
        generalize caw p = q at *
        by_cases hw : (q : Int) ≤ left - len - wl
        · rw [szv_yes hw] at HC
          have hsv : ¬ left - len - wl - (q : Int) < 0 := by omega
          go_wp2_with (refine wpList_load_mid rfl _ _ rfl b (o + k * 15) rfl cs _ (unhide HR) Try.underlying84 rfl (by rw [unhide hcl]; exact infoLCa) ?_)
          refine (unhide HC).mono ?_
          rintro e w3 ⟨rfl, hb3⟩
          have HB3 := hide (btG (unhide HB) hb3)
          clear hb3
          go_wp2_with fail
          go_roundw
          case rel => exact ⟨k + 1, by omega, rfl, by have := HW.out; have := Hwk.out; omega, by have := HW.out; have := Hwk.out; rw [this]; congr 1; omega, unhide HB3⟩
          case measure => simp [intOf]; omega
        · rw [szv_no (by omega)] at HC
          go_wp2_with (refine wpList_load_mid rfl _ _ rfl b (o + k * 15) rfl cs _ (unhide HR) Try.underlying84 rfl (by rw [unhide hcl]; exact infoLCa) ?_)
          refine (unhide HC).mono ?_
          rintro e w3 ⟨rfl, hb3⟩
          have HB3 := hide (btG (unhide HB) hb3)
          clear hb3
          go_wp2_with fail
          go_ret
          exact ⟨ret_int (by rw [szv_no (by have := HW.out; have := HA.out; omega)]), unhide HB3⟩
      · have c2 : ¬ (k : Int) < (len : Int) := by omega
        clear hbr
        go_wp2_with fail
        go_ret
        have hkk : k = len := by omega
        exact ⟨ret_int (by rw [List.take_of_length_le (by have := HL.out; omega)] at hle ⊢; rw [szv_yes (by omega)]; omega), unhide HB⟩

theorem infoCaz : (Try.prog.info? 101).map (fun i => (i.zero, i.size, i.bytes)) = some (some (.agg #[.int .i64 0, .int .i64 0, .string ByteArray.empty, .bool false, .int .i64 0, .int .i64 0, .int .i64 0, .int .i64 0, .string ByteArray.empty, .slice none 0 0, .int .i64 0, .int .i64 0, .bool false, .bool false, .bool false]), 15, 144) := by kernel_rfl
def madeCa (n : Nat) : Array Value := madeCells #[.int .i64 0, .int .i64 0, .string ByteArray.empty, .bool false, .int .i64 0, .int .i64 0, .int .i64 0, .int .i64 0, .string ByteArray.empty, .slice none 0 0, .int .i64 0, .int .i64 0, .bool false, .bool false, .bool false] (n * 15)
theorem madeCa_size (n : Nat) : (madeCa n).size = n * 15 := size_madeCells _ _
theorem make_Ca (n : Nat) (hn : n ≤ 2097152) (w : World) :
    (Instr.makeSlice 37 (.int .i64 (n : Int)) (.int .i64 (n : Int))).run Try.prog w = .ok (.slice (some ⟨w.heap.size, 0, none⟩) n n) (w.alloc (.cells (madeCa n) 101)) := by
  obtain ⟨i, hi, hzz⟩ := Option.map_eq_some_iff.1 infoCaz
  simp only [Prod.mk.injEq] at hzz
  obtain ⟨hz, hs, hb⟩ := hzz
  have hr := run_make (P := Try.prog) w 37 101 i _ Try.underlying37 hi hz .i64 .i64 n n (by omega) (Int.le_refl _) (by rw [hb]; omega) (by omega)
  simp only [Int.toNat_natCast, hs] at hr
  exact hr

set_option maxRecDepth 100000 in
set_option maxHeartbeats 2000000 in
theorem toCas (P : List Ca) (a : Option Addr) (cap : Nat) (w : World) (hl : caK.Ls w 0 a P) (hsz : P.length + ws caw P ≤ 1048576) :
    Calls Try.prog 20 #[.slice a P.length cap] w fun e w' => e = .returned (.slice (some ⟨w.heap.size, 0, none⟩) P.length P.length) ∧ caK.Ls w' w.heap.size (some ⟨w.heap.size, 0, none⟩) P ∧ Below w.heap.size w w' := by
  have hln : P.length ≤ 1048576 := by omega
  have hmk := make_Ca P.length (by omega)
  have HM := hide (Kd.Mid.start caK 101 w P (madeCa P.length) (madeCa_size _))
  have HT := hide hl
  have HZ := hide hsz
  clear hl hsz
  generalize hlen : P.length = len at hmk HM hln ⊢
  have HL : Hid (P.length = len) := hlen
  clear hlen
  go_enter Try.func20, Try.ntmps20
  go_wp2_with fail
  go_loopw [4] (fun i wr => ∃ k : Nat, k ≤ len ∧ i = .int .i64 k ∧ caK.Mid 101 w P k wr) (fun i _ => len - (intOf i).toNat)
  case atStart => exact ⟨0, Nat.zero_le _, rfl, HM.out⟩
  case round =>
    obtain ⟨k, hkl, rfl, hM⟩ := hrel
    by_cases hlt : k < len
    · have hlt' : k < P.length := by have := HL.out; omega
      obtain ⟨p, hkp⟩ : ∃ p, P[k]? = some p := ⟨_, List.getElem?_eq_getElem hlt'⟩
      obtain ⟨b, o, cs, rfl, -, hbs, HR0, HT0, hcl0⟩ := ((unhide HT).on hM.below).get hkp
      have HR := hide (show wr.rangeAt b (o + k * 15) cs from HR0)
      have hcl := hide (show cs.length = 15 from hcl0)
      have HC := hide (toCa p cs wr HT0 (by have := ws_get caw hkp; have := unhide HZ; have := unhide HL; omega))
      have HS : Hid (∀ w2 ct, Below wr.heap.size wr w2 → caK.at_ w2 wr.heap.size p ct → caK.Mid 101 w P (k + 1) (w2.setCells w.heap.size (k * 15) ct)) := fun w2 ct hb hx => hM.step hb hkp hx
      have HH : Hid (∀ w2, Below wr.heap.size wr w2 → w2.there w.heap.size (k * 15) 15) := fun w2 hb => hM.there hb hlt'
      have q2 : (k : Int) < (len : Int) := by omega
      have q3 : (0 : Int) ≤ (k : Int) := by omega
      have w2 : wrap64 ((k : Int) + 1) = ((k + 1 : Nat) : Int) := by unfold wrap64; omega
      clear hM hkp HR0 HT0 hcl0 hbs
      go_wp2_with (refine wpList_load_mid rfl _ _ rfl b (o + k * 15) rfl cs _ (unhide HR) Try.underlying84 rfl (by rw [unhide hcl]; exact infoLCa) ?_)
      refine (unhide HC).mono ?_
      rintro e w2 ⟨ct, rfl, hx2, hb2⟩
      have hth := hide (unhide HH _ hb2)
      have HM2 := hide (unhide HS w2 ct hb2 hx2)
      have hsz : Hid (ct.toArray.size = 15) := hide (caK.arr (w := w2) (L := wr.heap.size) (x := p) hx2)
      have hall := hide (caK.all (w := w2) (L := wr.heap.size) (x := p) hx2)
      clear hb2 hx2
      go_wp2_with (refine wpList_store_mid rfl _ _ _ rfl w.heap.size (k * 15) ct.toArray rfl rfl (by rw [unhide hsz]; exact unhide hth) (by rw [unhide hsz]; exact infoICa) (unhide hall) ?_)
      go_roundw
      case rel => exact ⟨k + 1, by omega, rfl, by simpa using HM2.out⟩
      case measure => simp [intOf]; omega
    · have c2 : ¬ (k : Int) < (len : Int) := by omega
      go_wp2_with fail
      go_ret
      have hkk : k = P.length := by have := HL.out; omega
      subst hkk
      have e := HL.out
      subst e
      exact ⟨rfl, hM.ls, hM.below⟩

set_option maxRecDepth 100000 in
set_option maxHeartbeats 2000000 in
theorem eqCas (P : List Ca) (a a' : Option Addr) (c c' : Nat) (w : World) (hl : P.length + ws caw P ≤ 1048576) (h : caK.Ls w 0 a P) (h' : caK.Ls w 0 a' P) :
    Calls Try.prog 28 #[.slice a P.length c, .slice a' P.length c'] w fun e w' => e = .returned (.bool true) ∧ Below w.heap.size w w' := by
  have H := hide h
  have H' := hide h'
  have HZ := hide hl
  have hln : P.length ≤ 1048576 := by omega
  clear h h' hl
  generalize hlen : P.length = len at *
  have HL : Hid (P.length = len) := hlen
  clear hlen
  have hne : ((len : Int) != (len : Int)) = false := by simp
  go_enter Try.func28, Try.ntmps28
  go_wp2_with fail
  go_loopw [5] (fun n wr => ∃ k : Nat, n = .int .i64 k ∧ Below w.heap.size w wr ∧ k ≤ len) (fun n _ => len - (intOf n).toNat)
  case atStart => exact ⟨0, rfl, Below.refl _ _, by omega⟩
  case round =>
    obtain ⟨k, rfl, hb, hk⟩ := hrel
    have HB := hide hb
    by_cases hp : k < len
    · have hp' : k < P.length := by have := HL.out; omega
      obtain ⟨p, hkp⟩ : ∃ p, P[k]? = some p := ⟨_, List.getElem?_eq_getElem hp'⟩
      obtain ⟨b, o, cs, rfl, -, -, HR, HT, -⟩ := ((unhide H).on hb).get hkp
      obtain ⟨b', o', cs', rfl, -, -, HR', HT', -⟩ := ((unhide H').on hb).get hkp
      have hct := hide (fun v hv hv' => eqCa p cs cs' v hv hv' (by have := ws_get caw hkp; have := unhide HZ; have := unhide HL; omega))
      have HA := hide (caK.on HT (Below.refl _ _).drew)
      have HA' := hide (caK.on HT' (Below.refl _ _).drew)
      obtain ⟨cc, rfl, -, op1, n1, s1, a1, len1, cap1, rfl, -⟩ := HT
      obtain ⟨cc', rfl, -, op2, n2, s2, a2, len2, cap2, rfl, -⟩ := HT'

      have c0 : wr.cell? ⟨b, o + k * 15, none⟩ = some (.int .i64 p.k) := HR 0 _ rfl
      have d0 : wr.cell? ⟨b', o' + k * 15, none⟩ = some (.int .i64 p.k) := HR' 0 _ rfl
      have c1 : wr.cell? ⟨b, o + k * 15 + 1, none⟩ = some (.int .i64 p.c.st) := HR 1 _ rfl
      have d1 : wr.cell? ⟨b', o' + k * 15 + 1, none⟩ = some (.int .i64 p.c.st) := HR' 1 _ rfl
      have c2 : wr.cell? ⟨b, o + k * 15 + 2, none⟩ = some (.string p.c.h) := HR 2 _ rfl
      have d2 : wr.cell? ⟨b', o' + k * 15 + 2, none⟩ = some (.string p.c.h) := HR' 2 _ rfl
      have c3 : wr.cell? ⟨b, o + k * 15 + 3, none⟩ = some (.bool p.c.mu) := HR 3 _ rfl
      have d3 : wr.cell? ⟨b', o' + k * 15 + 3, none⟩ = some (.bool p.c.mu) := HR' 3 _ rfl
      have c4 : wr.cell? ⟨b, o + k * 15 + 4, none⟩ = some (.int .i64 p.c.ep) := HR 4 _ rfl
      have d4 : wr.cell? ⟨b', o' + k * 15 + 4, none⟩ = some (.int .i64 p.c.ep) := HR' 4 _ rfl
      have c5 : wr.cell? ⟨b, o + k * 15 + 5, none⟩ = some (.int .i64 p.c.bo) := HR 5 _ rfl
      have d5 : wr.cell? ⟨b', o' + k * 15 + 5, none⟩ = some (.int .i64 p.c.bo) := HR' 5 _ rfl
      have c6 : wr.cell? ⟨b, o + k * 15 + 6, none⟩ = some (.int .i64 op1) := HR 6 _ rfl
      have d6 : wr.cell? ⟨b', o' + k * 15 + 6, none⟩ = some (.int .i64 op2) := HR' 6 _ rfl
      have c7 : wr.cell? ⟨b, o + k * 15 + 7, none⟩ = some (.int .i64 n1) := HR 7 _ rfl
      have d7 : wr.cell? ⟨b', o' + k * 15 + 7, none⟩ = some (.int .i64 n2) := HR' 7 _ rfl
      have c8 : wr.cell? ⟨b, o + k * 15 + 8, none⟩ = some (.string s1) := HR 8 _ rfl
      have d8 : wr.cell? ⟨b', o' + k * 15 + 8, none⟩ = some (.string s2) := HR' 8 _ rfl
      have c9 : wr.cell? ⟨b, o + k * 15 + 9, none⟩ = some (.slice a1 len1 cap1) := HR 9 _ rfl
      have d9 : wr.cell? ⟨b', o' + k * 15 + 9, none⟩ = some (.slice a2 len2 cap2) := HR' 9 _ rfl
      have c10 : wr.cell? ⟨b, o + k * 15 + 10, none⟩ = some (.int .i64 p.c.i) := HR 10 _ rfl
      have d10 : wr.cell? ⟨b', o' + k * 15 + 10, none⟩ = some (.int .i64 p.c.i) := HR' 10 _ rfl
      have c11 : wr.cell? ⟨b, o + k * 15 + 11, none⟩ = some (.int .i64 p.c.o) := HR 11 _ rfl
      have d11 : wr.cell? ⟨b', o' + k * 15 + 11, none⟩ = some (.int .i64 p.c.o) := HR' 11 _ rfl
      have c12 : wr.cell? ⟨b, o + k * 15 + 12, none⟩ = some (.bool p.c.tl) := HR 12 _ rfl
      have d12 : wr.cell? ⟨b', o' + k * 15 + 12, none⟩ = some (.bool p.c.tl) := HR' 12 _ rfl
      have c13 : wr.cell? ⟨b, o + k * 15 + 13, none⟩ = some (.bool p.c.pr) := HR 13 _ rfl
      have d13 : wr.cell? ⟨b', o' + k * 15 + 13, none⟩ = some (.bool p.c.pr) := HR' 13 _ rfl
      have c14 : wr.cell? ⟨b, o + k * 15 + 14, none⟩ = some (.bool p.g) := HR 14 _ rfl
      have d14 : wr.cell? ⟨b', o' + k * 15 + 14, none⟩ = some (.bool p.g) := HR' 14 _ rfl

      have q2 : (k : Int) < (len : Int) := by omega
      have q3 : (0 : Int) ≤ (k : Int) := by omega
      have w1 : wrap64 ((k : Int) + 1) = ((k + 1 : Nat) : Int) := by unfold wrap64; omega
      clear hb hkp HR HR'
      generalize hid : caw p = qw at *
      clear hid
      go_wp2_with fail
      go_region_with (go_at_call 49; refine (unhide hct _ (unhide HA) (unhide HA')).mono ?_; rintro e w2 ⟨rfl, hb2⟩; have HB2 := hide (btG (unhide HB) (below_drewG hb2)); clear hb2)
      all_goals
        go_wp2_with fail
        go_roundw
        case rel => exact ⟨k + 1, rfl, unhide HB2, by omega⟩
        case measure => simp only [intOf]; omega
    · have c2 : ¬ (k : Int) < (len : Int) := by omega
      clear hb
      go_wp2_with fail
      go_ret
      exact ⟨rfl, unhide HB⟩


end Go.Proofs.Ytepmgjklonhkgaa
