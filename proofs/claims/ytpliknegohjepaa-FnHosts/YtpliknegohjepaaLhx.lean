/- The walk of laws.FnHosts: by a drawn code it answers true; nothing that was there is written. -/
import Derived.Test.YtpliknegohjepaaDh
import Derived.Test.YtpliknegohjepaaHt
import Derived.Test.YtpliknegohjepaaLla
namespace Go.Proofs.Ytpliknegohjepaa
open Go.RowKit Go.Deep

set_option maxRecDepth 100000 in
theorem big_no (a : Option Addr) (len cap : Nat) (w : World) (hb : len ≤ 1048576) :
    Calls Try.prog 25 #[.slice a len cap] w fun e w' => e = .returned (.bool false) ∧ w' = w := by
  have c : ¬ (1048576 : Int) < (len : Int) := by omega
  go_enter Try.func25, Try.ntmps25
  go_wp2_with fail
  go_ret
  exact ⟨rfl, rfl⟩
set_option maxRecDepth 100000 in
theorem big_yes (a : Option Addr) (len cap : Nat) (w : World) (hb : ¬ len ≤ 1048576) :
    Calls Try.prog 25 #[.slice a len cap] w fun e w' => e = .returned (.bool true) ∧ w' = w := by
  have c : (1048576 : Int) < (len : Int) := by omega
  go_enter Try.func25, Try.ntmps25
  go_wp2_with fail
  go_ret
  exact ⟨rfl, rfl⟩

theorem Bytes.on {w w' : World} {a : Option Addr} {len : Nat} (h : Bytes w w.heap.size a len) (hb : Below w.heap.size w w') : Bytes w' w'.heap.size a len := fun k hk => by
  obtain ⟨b, o, z, h1, h2, h3, h4⟩ := h k hk
  exact ⟨b, o, z, h1, by have := hb.size; omega, below_some hb h3, h4⟩

set_option maxRecDepth 100000 in
set_option maxHeartbeats 1000000 in
theorem sameS_yes (l : List ByteArray) (g g' c c' : Nat) (w : World) (hl : l.length ≤ 2097153) (h : Stand w g l) (h' : Stand w g' l) :
    Calls Try.prog 30 #[.slice (some ⟨g, 0, none⟩) l.length c, .slice (some ⟨g', 0, none⟩) l.length c'] w fun e w' => e = .returned (.bool true) ∧ Below w.heap.size w w' := by
  have H := hide h
  have H' := hide h'
  clear h h'
  go_enter Try.func30, Try.ntmps30
  go_wp2_with fail
  go_loopw [5] (fun n wr => ∃ k : Nat, n = .int .i64 k ∧ Below w.heap.size w wr ∧ k ≤ l.length) (fun n _ => l.length - (intOf n).toNat)
  case atStart => exact ⟨0, rfl, Below.refl _ _, by omega⟩
  case round =>
    obtain ⟨k, rfl, hb, hk⟩ := hrel
    have HB := hide hb
    by_cases hp : k < l.length
    · obtain ⟨t, ht⟩ : ∃ t, l[k]? = some t := ⟨_, List.getElem?_eq_getElem hp⟩
      have c0 := (unhide H).on hb k t ht
      have c1 := (unhide H').on hb k t ht
      have c2 : (k : Int) < (l.length : Int) := by omega
      have c3 : (0 : Int) ≤ (k : Int) := by omega
      have w1 : wrap64 ((k : Int) + 1) = ((k + 1 : Nat) : Int) := by unfold wrap64; omega
      clear hb ht
      generalize hL : l.length = L at *
      go_wp2_with fail
      go_region
      go_wp2_with fail
      go_roundw
      case rel => exact ⟨k + 1, rfl, (unhide HB).drew, by omega⟩
      case measure => simp only [intOf]; omega
    · have c2 : ¬ (k : Int) < (l.length : Int) := by omega
      clear hb
      generalize hL : l.length = L at *
      go_wp2_with fail
      go_ret
      exact ⟨rfl, unhide HB⟩

theorem host_facts (s : ByteArray) (zs : s.size ≤ 300) (hH : hostB s = true) : ∃ i, i < s.size ∧ Hid ((labsOf s)[0]? = some (s.extract 0 i)) ∧ Hid ((s.extract 0 i).size = i) ∧ wrap64 ((i : Int) + 1) = (i : Int) + 1 ∧ IntKind.i64.wrap ((i : Int) + 1) = (i : Int) + 1 ∧ (i : Int) + 1 ≤ (s.size : Int) ∧ (0 : Int) ≤ (i : Int) + 1 ∧ 0 < (labsOf s).length ∧
    Hid (∀ v : World, Calls Try.prog 10 #[.string (s.extract (i + 1) s.size)] v fun e w' => e = .returned (.bool (hostB (s.extract (i + 1) s.size))) ∧ Below v.heap.size v w') ∧
    Hid (∀ v : World, Calls Try.prog 14 #[.string (⟨#[42, 46]⟩ ++ s.extract (i + 1) s.size), .string s] v fun e w' => e = .returned (.bool (fitB (⟨#[42, 46]⟩ ++ s.extract (i + 1) s.size) s)) ∧ Below v.heap.size v w') ∧
    Hid (∀ v : World, Calls Try.prog 14 #[.string (⟨#[42, 46]⟩ ++ s.extract (i + 1) s.size), .string (⟨#[113, 46]⟩ ++ s)] v fun e w' => e = .returned (.bool false) ∧ Below v.heap.size v w') ∧
    Hid (∀ v : World, Calls Try.prog 12 #[.string s] v fun e w' => e = .returned (.bool true) ∧ Below v.heap.size v w') ∧
    Hid (∀ v : World, Calls Try.prog 14 #[.string s, .string s] v fun e w' => e = .returned (.bool true) ∧ Below v.heap.size v w') ∧
    Hid (hostB (s.extract (i + 1) s.size) = true → fitB (⟨#[42, 46]⟩ ++ s.extract (i + 1) s.size) s = true) := by
  obtain ⟨i, hi, i1, i2, i3⟩ := host_first (hostB_iff.1 hH)
  have hz := size_extract_le s (i + 1) s.size
  have h2 : (⟨#[42, 46]⟩ : ByteArray).size = 2 := rfl
  have h3 : (⟨#[113, 46]⟩ : ByteArray).size = 2 := rfl
  have zst : (⟨#[42, 46]⟩ ++ s.extract (i + 1) s.size : ByteArray).size ≤ 2097152 := by rw [cat_size]; omega
  have zq : (⟨#[113, 46]⟩ ++ s : ByteArray).size ≤ 2097152 := by rw [cat_size]; omega
  refine ⟨i, hi, ?_, ?_, ?_, ?_, by omega, by omega, labs_pos s, fun v => hostI _ v (by omega), fun v => fitI _ _ v zst (by omega), fun v => ?_, fun v => ?_, fun v => ?_, fit_rest (hostB_iff.1 hH) hi i1 i2⟩
  · show _ = _
    rw [i3]
    rfl
  · show _ = _
    rw [ByteArray.size_extract]
    omega
  · unfold wrap64
    omega
  · exact IntWalk.i64_in _ ⟨by omega, by omega⟩
  · have := fitI (⟨#[42, 46]⟩ ++ s.extract (i + 1) s.size) (⟨#[113, 46]⟩ ++ s) v zst zq
    rw [fit_two hi] at this
    exact this
  · have := patI s v (by omega)
    rw [patB_host hH] at this
    exact this
  · have := fitI s s v (by omega) (by omega)
    rw [fitB_same (patB_host hH) hH] at this
    exact this

set_option maxRecDepth 100000 in
set_option maxHeartbeats 4000000 in
theorem lawHosts1 (a : Option Addr) (len cap : Nat) (w : World) (hB : Bytes w w.heap.size a len) (hl : len ≤ 1048576) (hlc : len ≤ cap) :
    Calls Try.prog 8 #[.slice a len cap] w fun e w' => e = .returned (.bool true) ∧ Below w.heap.size w w' := by
  have hbig := hide (fun v => big_no a len cap v hl)
  have h26 := hide (fun v h => draw26 a len cap v h hl hlc)
  have h27 := hide (fun v h => draw27 a len cap v h hl hlc)
  have h28 := hide (fun v h => draw28 a len cap v h hl hlc)
  have h29 := hide (fun v h => draw29 a len cap v h hl hlc)
  have HBY := hide hB
  clear hB
  go_enter Try.func8, Try.ntmps8
  go_wp2_with fail
  refine (unhide hbig _).mono ?_
  rintro e w0 ⟨rfl, rfl⟩
  go_wp2_with fail
  refine (unhide h26 _ (unhide HBY)).mono ?_
  rintro e x6 ⟨p, h, rfl, zp, zh, hb6⟩
  have HB6 := hide hb6
  clear hb6
  go_wp2_with fail
  refine (unhide h27 _ ((unhide HBY).on (unhide HB6))).mono ?_
  rintro e x7 ⟨s, rfl, zs, hb7⟩
  have HB7 := hide (below_two (unhide HB6) hb7)
  clear hb7
  go_wp2_with fail
  refine (unhide h28 _ ((unhide HBY).on (unhide HB7))).mono ?_
  rintro e x8 ⟨t, rfl, zt, hb8⟩
  have HB8 := hide (below_two (unhide HB7) hb8)
  clear hb8
  go_wp2_with fail
  refine (unhide h29 _ ((unhide HBY).on (unhide HB8))).mono ?_
  rintro e x9 ⟨l, rfl, zl, hb9⟩
  have HB9 := hide (below_two (unhide HB8) hb9)
  clear hb9
  have f14 := hide (fun v => fitI p h v (by omega) (by omega))
  have f13 := hide (fun v => fitS p h v (by omega) (by omega))
  have f10 := hide (fun v => hostI s v (by omega))
  have f9 := hide (fun v => hostS s v (by omega))
  have f12 := hide (fun v => patI t v (by omega))
  have f11 := hide (fun v => patS t v (by omega))
  have f16l := hide (fun v => labelsI l v (by omega))
  have f15l := hide (fun v => labels27 l v (by omega))
  have hll : (labsOf l).length ≤ 2097153 := by have := labs_length l l.size 0; unfold labsOf; omega
  have f30 := hide (fun g g' c c' v x y => sameS_yes (labsOf l) g g' c c' v hll x y)
  have f16p := hide (fun v => labelsI p v (by omega))
  have f16h := hide (fun v => labelsI h v (by omega))
  have f16s := hide (fun v => labelsI s v (by omega))
  generalize patB t = PT at *
  clear HBY h26 h27 h28 h29 hbig
  cases hB : fitB p h with
  | false =>
    rw [hB] at f14 f13
    clear hB
    cases hH : hostB s with
    | false =>
      rw [hH] at f10 f9
      go_wp2_with fail
      refine (unhide f14 _).mono ?_
      rintro e x10 ⟨rfl, hb10⟩
      have HB10 := hide (below_two (unhide HB9) hb10)
      clear hb10
      go_wp2_with fail
      refine (unhide f13 _).mono ?_
      rintro e x11 ⟨rfl, hb11⟩
      have HB11 := hide (below_two (unhide HB10) hb11)
      clear hb11
      go_wp2_with fail
      refine (unhide f10 _).mono ?_
      rintro e x12 ⟨rfl, hb12⟩
      have HB12 := hide (below_two (unhide HB11) hb12)
      clear hb12
      go_wp2_with fail
      refine (unhide f9 _).mono ?_
      rintro e x13 ⟨rfl, hb13⟩
      have HB13 := hide (below_two (unhide HB12) hb13)
      clear hb13
      go_wp2_with fail
      refine (unhide f12 _).mono ?_
      rintro e x14 ⟨rfl, hb14⟩
      have HB14 := hide (below_two (unhide HB13) hb14)
      clear hb14
      go_wp2_with fail
      refine (unhide f11 _).mono ?_
      rintro e x15 ⟨rfl, hb15⟩
      have HB15 := hide (below_two (unhide HB14) hb15)
      clear hb15
      go_wp2_with fail
      refine (unhide f16l _).mono ?_
      rintro e x16 ⟨v16, rfl, htx16, hb16⟩
      obtain ⟨g16, k16, rfl, st16, -, -, -⟩ := htx16.row (labs_ne _ _ _)
      have HS16 := hide st16
      have HB16 := hide (below_two (unhide HB15) hb16)
      have HBL16 := hide hb16
      clear hb16 htx16 st16
      go_wp2_with fail
      refine (unhide f15l _).mono ?_
      rintro e x17 ⟨v17, rfl, htx17, hb17⟩
      obtain ⟨g17, k17, rfl, st17, -, -, -⟩ := htx17.row (labs_ne _ _ _)
      have HS17 := hide st17
      have HB17 := hide (below_two (unhide HB16) hb17)
      have HBL17 := hide hb17
      clear hb17 htx17 st17
      generalize (labsOf l).length = LL at *
      go_wp2_with fail
      refine (unhide f30 _ _ _ _ _ ((unhide HS16).on (unhide HBL17)) (unhide HS17)).mono ?_
      rintro e x18 ⟨rfl, hb18⟩
      have HB18 := hide (below_two (unhide HB17) hb18)
      clear hb18
      go_wp2_with fail
      refine (unhide f10 _).mono ?_
      rintro e x19 ⟨rfl, hb19⟩
      have HB19 := hide (below_two (unhide HB18) hb19)
      clear hb19
      go_wp2_with fail
      go_ret
      exact ⟨rfl, unhide HB19⟩
    | true =>
      rw [hH] at f10 f9
      go_wp2_with fail
      refine (unhide f14 _).mono ?_
      rintro e x10 ⟨rfl, hb10⟩
      have HB10 := hide (below_two (unhide HB9) hb10)
      clear hb10
      go_wp2_with fail
      refine (unhide f13 _).mono ?_
      rintro e x11 ⟨rfl, hb11⟩
      have HB11 := hide (below_two (unhide HB10) hb11)
      clear hb11
      go_wp2_with fail
      refine (unhide f10 _).mono ?_
      rintro e x12 ⟨rfl, hb12⟩
      have HB12 := hide (below_two (unhide HB11) hb12)
      clear hb12
      go_wp2_with fail
      refine (unhide f9 _).mono ?_
      rintro e x13 ⟨rfl, hb13⟩
      have HB13 := hide (below_two (unhide HB12) hb13)
      clear hb13
      go_wp2_with fail
      refine (unhide f12 _).mono ?_
      rintro e x14 ⟨rfl, hb14⟩
      have HB14 := hide (below_two (unhide HB13) hb14)
      clear hb14
      go_wp2_with fail
      refine (unhide f11 _).mono ?_
      rintro e x15 ⟨rfl, hb15⟩
      have HB15 := hide (below_two (unhide HB14) hb15)
      clear hb15
      go_wp2_with fail
      refine (unhide f16l _).mono ?_
      rintro e x16 ⟨v16, rfl, htx16, hb16⟩
      obtain ⟨g16, k16, rfl, st16, -, -, -⟩ := htx16.row (labs_ne _ _ _)
      have HS16 := hide st16
      have HB16 := hide (below_two (unhide HB15) hb16)
      have HBL16 := hide hb16
      clear hb16 htx16 st16
      go_wp2_with fail
      refine (unhide f15l _).mono ?_
      rintro e x17 ⟨v17, rfl, htx17, hb17⟩
      obtain ⟨g17, k17, rfl, st17, -, -, -⟩ := htx17.row (labs_ne _ _ _)
      have HS17 := hide st17
      have HB17 := hide (below_two (unhide HB16) hb17)
      have HBL17 := hide hb17
      clear hb17 htx17 st17
      generalize (labsOf l).length = LL at *
      go_wp2_with fail
      refine (unhide f30 _ _ _ _ _ ((unhide HS16).on (unhide HBL17)) (unhide HS17)).mono ?_
      rintro e x18 ⟨rfl, hb18⟩
      have HB18 := hide (below_two (unhide HB17) hb18)
      clear hb18
      go_wp2_with fail
      refine (unhide f10 _).mono ?_
      rintro e x19 ⟨rfl, hb19⟩
      have HB19 := hide (below_two (unhide HB18) hb19)
      clear hb19
      obtain ⟨i, hi, HL, HZ, w1, w2, c3, c4, hlen, f10r, f14a, f14b, f12s, f14s, HFR⟩ := host_facts s zs hH
      go_wp2_with fail
      refine (unhide f16s _).mono ?_
      rintro e x20 ⟨v20, rfl, htx20, hb20⟩
      obtain ⟨g20, k20, rfl, st20, -, -, -⟩ := htx20.row (labs_ne _ _ _)
      have HS20 := hide st20
      have HB20 := hide (below_two (unhide HB19) hb20)
      have HBL20 := hide hb20
      clear hb20 htx20 st20
      have c0 := unhide HS20 0 _ (unhide HL)
      have hz0 := unhide HZ
      clear HL HZ HS20 HBL20 hH hi
      generalize s.extract 0 i = F at *
      subst hz0
      generalize (labsOf s).length = LS at *
      go_wp2_with fail
      refine (unhide f12s _).mono ?_
      rintro e x21 ⟨rfl, hb21⟩
      have HB21 := hide (below_two (unhide HB20) hb21)
      clear hb21
      clear c0
      go_wp2_with fail
      refine (unhide f14s _).mono ?_
      rintro e x22 ⟨rfl, hb22⟩
      have HB22 := hide (below_two (unhide HB21) hb22)
      clear hb22
      cases hR : hostB (s.extract (F.size + 1) s.size) with
      | false =>
        rw [hR] at f10r
        clear hR HFR
        go_wp2_with fail
        refine (unhide f10r _).mono ?_
        rintro e x23 ⟨rfl, hb23⟩
        have HB23 := hide (below_two (unhide HB22) hb23)
        clear hb23
        go_wp2_with fail
        go_ret
        exact ⟨rfl, unhide HB23⟩
      | true =>
        rw [hR] at f10r
        rw [unhide HFR hR] at f14a
        clear hR HFR
        go_wp2_with fail
        refine (unhide f10r _).mono ?_
        rintro e x23 ⟨rfl, hb23⟩
        have HB23 := hide (below_two (unhide HB22) hb23)
        clear hb23
        go_wp2_with fail
        refine (unhide f14a _).mono ?_
        rintro e x24 ⟨rfl, hb24⟩
        have HB24 := hide (below_two (unhide HB23) hb24)
        clear hb24
        go_wp2_with fail
        refine (unhide f14b _).mono ?_
        rintro e x25 ⟨rfl, hb25⟩
        have HB25 := hide (below_two (unhide HB24) hb25)
        clear hb25
        go_wp2_with fail
        go_ret
        exact ⟨rfl, unhide HB25⟩
  | true =>
    rw [hB] at f14 f13
    have HCT : Hid ((labsOf p).length = (labsOf h).length) := fit_count (by have := hB; simpa [fitB] using this)
    clear hB
    cases hH : hostB s with
    | false =>
      rw [hH] at f10 f9
      go_wp2_with fail
      refine (unhide f14 _).mono ?_
      rintro e x10 ⟨rfl, hb10⟩
      have HB10 := hide (below_two (unhide HB9) hb10)
      clear hb10
      go_wp2_with fail
      refine (unhide f13 _).mono ?_
      rintro e x11 ⟨rfl, hb11⟩
      have HB11 := hide (below_two (unhide HB10) hb11)
      clear hb11
      go_wp2_with fail
      refine (unhide f10 _).mono ?_
      rintro e x12 ⟨rfl, hb12⟩
      have HB12 := hide (below_two (unhide HB11) hb12)
      clear hb12
      go_wp2_with fail
      refine (unhide f9 _).mono ?_
      rintro e x13 ⟨rfl, hb13⟩
      have HB13 := hide (below_two (unhide HB12) hb13)
      clear hb13
      go_wp2_with fail
      refine (unhide f12 _).mono ?_
      rintro e x14 ⟨rfl, hb14⟩
      have HB14 := hide (below_two (unhide HB13) hb14)
      clear hb14
      go_wp2_with fail
      refine (unhide f11 _).mono ?_
      rintro e x15 ⟨rfl, hb15⟩
      have HB15 := hide (below_two (unhide HB14) hb15)
      clear hb15
      go_wp2_with fail
      refine (unhide f16l _).mono ?_
      rintro e x16 ⟨v16, rfl, htx16, hb16⟩
      obtain ⟨g16, k16, rfl, st16, -, -, -⟩ := htx16.row (labs_ne _ _ _)
      have HS16 := hide st16
      have HB16 := hide (below_two (unhide HB15) hb16)
      have HBL16 := hide hb16
      clear hb16 htx16 st16
      go_wp2_with fail
      refine (unhide f15l _).mono ?_
      rintro e x17 ⟨v17, rfl, htx17, hb17⟩
      obtain ⟨g17, k17, rfl, st17, -, -, -⟩ := htx17.row (labs_ne _ _ _)
      have HS17 := hide st17
      have HB17 := hide (below_two (unhide HB16) hb17)
      have HBL17 := hide hb17
      clear hb17 htx17 st17
      generalize (labsOf l).length = LL at *
      go_wp2_with fail
      refine (unhide f30 _ _ _ _ _ ((unhide HS16).on (unhide HBL17)) (unhide HS17)).mono ?_
      rintro e x18 ⟨rfl, hb18⟩
      have HB18 := hide (below_two (unhide HB17) hb18)
      clear hb18
      go_wp2_with fail
      refine (unhide f16p _).mono ?_
      rintro e x19 ⟨v19, rfl, htx19, hb19⟩
      obtain ⟨g19, k19, rfl, st19, -, -, -⟩ := htx19.row (labs_ne _ _ _)
      have HS19 := hide st19
      have HB19 := hide (below_two (unhide HB18) hb19)
      have HBL19 := hide hb19
      clear hb19 htx19 st19
      go_wp2_with fail
      refine (unhide f16h _).mono ?_
      rintro e x20 ⟨v20, rfl, htx20, hb20⟩
      obtain ⟨g20, k20, rfl, st20, -, -, -⟩ := htx20.row (labs_ne _ _ _)
      have HS20 := hide st20
      have HB20 := hide (below_two (unhide HB19) hb20)
      have HBL20 := hide hb20
      clear hb20 htx20 st20
      have hct := unhide HCT
      generalize (labsOf p).length = LP at *
      subst hct
      generalize (labsOf h).length = LH at *
      go_wp2_with fail
      refine (unhide f10 _).mono ?_
      rintro e x21 ⟨rfl, hb21⟩
      have HB21 := hide (below_two (unhide HB20) hb21)
      clear hb21
      go_wp2_with fail
      go_ret
      exact ⟨rfl, unhide HB21⟩
    | true =>
      rw [hH] at f10 f9
      go_wp2_with fail
      refine (unhide f14 _).mono ?_
      rintro e x10 ⟨rfl, hb10⟩
      have HB10 := hide (below_two (unhide HB9) hb10)
      clear hb10
      go_wp2_with fail
      refine (unhide f13 _).mono ?_
      rintro e x11 ⟨rfl, hb11⟩
      have HB11 := hide (below_two (unhide HB10) hb11)
      clear hb11
      go_wp2_with fail
      refine (unhide f10 _).mono ?_
      rintro e x12 ⟨rfl, hb12⟩
      have HB12 := hide (below_two (unhide HB11) hb12)
      clear hb12
      go_wp2_with fail
      refine (unhide f9 _).mono ?_
      rintro e x13 ⟨rfl, hb13⟩
      have HB13 := hide (below_two (unhide HB12) hb13)
      clear hb13
      go_wp2_with fail
      refine (unhide f12 _).mono ?_
      rintro e x14 ⟨rfl, hb14⟩
      have HB14 := hide (below_two (unhide HB13) hb14)
      clear hb14
      go_wp2_with fail
      refine (unhide f11 _).mono ?_
      rintro e x15 ⟨rfl, hb15⟩
      have HB15 := hide (below_two (unhide HB14) hb15)
      clear hb15
      go_wp2_with fail
      refine (unhide f16l _).mono ?_
      rintro e x16 ⟨v16, rfl, htx16, hb16⟩
      obtain ⟨g16, k16, rfl, st16, -, -, -⟩ := htx16.row (labs_ne _ _ _)
      have HS16 := hide st16
      have HB16 := hide (below_two (unhide HB15) hb16)
      have HBL16 := hide hb16
      clear hb16 htx16 st16
      go_wp2_with fail
      refine (unhide f15l _).mono ?_
      rintro e x17 ⟨v17, rfl, htx17, hb17⟩
      obtain ⟨g17, k17, rfl, st17, -, -, -⟩ := htx17.row (labs_ne _ _ _)
      have HS17 := hide st17
      have HB17 := hide (below_two (unhide HB16) hb17)
      have HBL17 := hide hb17
      clear hb17 htx17 st17
      generalize (labsOf l).length = LL at *
      go_wp2_with fail
      refine (unhide f30 _ _ _ _ _ ((unhide HS16).on (unhide HBL17)) (unhide HS17)).mono ?_
      rintro e x18 ⟨rfl, hb18⟩
      have HB18 := hide (below_two (unhide HB17) hb18)
      clear hb18
      go_wp2_with fail
      refine (unhide f16p _).mono ?_
      rintro e x19 ⟨v19, rfl, htx19, hb19⟩
      obtain ⟨g19, k19, rfl, st19, -, -, -⟩ := htx19.row (labs_ne _ _ _)
      have HS19 := hide st19
      have HB19 := hide (below_two (unhide HB18) hb19)
      have HBL19 := hide hb19
      clear hb19 htx19 st19
      go_wp2_with fail
      refine (unhide f16h _).mono ?_
      rintro e x20 ⟨v20, rfl, htx20, hb20⟩
      obtain ⟨g20, k20, rfl, st20, -, -, -⟩ := htx20.row (labs_ne _ _ _)
      have HS20 := hide st20
      have HB20 := hide (below_two (unhide HB19) hb20)
      have HBL20 := hide hb20
      clear hb20 htx20 st20
      have hct := unhide HCT
      generalize (labsOf p).length = LP at *
      subst hct
      generalize (labsOf h).length = LH at *
      go_wp2_with fail
      refine (unhide f10 _).mono ?_
      rintro e x21 ⟨rfl, hb21⟩
      have HB21 := hide (below_two (unhide HB20) hb21)
      clear hb21
      obtain ⟨i, hi, HL, HZ, w1, w2, c3, c4, hlen, f10r, f14a, f14b, f12s, f14s, HFR⟩ := host_facts s zs hH
      go_wp2_with fail
      refine (unhide f16s _).mono ?_
      rintro e x22 ⟨v22, rfl, htx22, hb22⟩
      obtain ⟨g22, k22, rfl, st22, -, -, -⟩ := htx22.row (labs_ne _ _ _)
      have HS22 := hide st22
      have HB22 := hide (below_two (unhide HB21) hb22)
      have HBL22 := hide hb22
      clear hb22 htx22 st22
      have c0 := unhide HS22 0 _ (unhide HL)
      have hz0 := unhide HZ
      clear HL HZ HS22 HBL22 hH hi
      generalize s.extract 0 i = F at *
      subst hz0
      generalize (labsOf s).length = LS at *
      go_wp2_with fail
      refine (unhide f12s _).mono ?_
      rintro e x23 ⟨rfl, hb23⟩
      have HB23 := hide (below_two (unhide HB22) hb23)
      clear hb23
      clear c0
      go_wp2_with fail
      refine (unhide f14s _).mono ?_
      rintro e x24 ⟨rfl, hb24⟩
      have HB24 := hide (below_two (unhide HB23) hb24)
      clear hb24
      cases hR : hostB (s.extract (F.size + 1) s.size) with
      | false =>
        rw [hR] at f10r
        clear hR HFR
        go_wp2_with fail
        refine (unhide f10r _).mono ?_
        rintro e x25 ⟨rfl, hb25⟩
        have HB25 := hide (below_two (unhide HB24) hb25)
        clear hb25
        go_wp2_with fail
        go_ret
        exact ⟨rfl, unhide HB25⟩
      | true =>
        rw [hR] at f10r
        rw [unhide HFR hR] at f14a
        clear hR HFR
        go_wp2_with fail
        refine (unhide f10r _).mono ?_
        rintro e x25 ⟨rfl, hb25⟩
        have HB25 := hide (below_two (unhide HB24) hb25)
        clear hb25
        go_wp2_with fail
        refine (unhide f14a _).mono ?_
        rintro e x26 ⟨rfl, hb26⟩
        have HB26 := hide (below_two (unhide HB25) hb26)
        clear hb26
        go_wp2_with fail
        refine (unhide f14b _).mono ?_
        rintro e x27 ⟨rfl, hb27⟩
        have HB27 := hide (below_two (unhide HB26) hb27)
        clear hb27
        go_wp2_with fail
        go_ret
        exact ⟨rfl, unhide HB27⟩
theorem lawHosts (a : Option Addr) (len cap : Nat) (w : World) (hB : Bytes w w.heap.size a len) (hlc : len ≤ cap) :
    Calls Try.prog 8 #[.slice a len cap] w fun e w' => e = .returned (.bool true) ∧ Below w.heap.size w w' := by
  by_cases hl : len ≤ 1048576
  · exact lawHosts1 a len cap w hB hl hlc
  · have hbig := hide (fun v => big_yes a len cap v hl)
    clear hB
    go_enter Try.func8, Try.ntmps8
    go_wp2_with fail
    refine (unhide hbig _).mono ?_
    rintro e w0 ⟨rfl, rfl⟩
    go_wp2_with fail
    go_ret
    exact ⟨rfl, Below.refl _ _⟩

end Go.Proofs.Ytpliknegohjepaa
