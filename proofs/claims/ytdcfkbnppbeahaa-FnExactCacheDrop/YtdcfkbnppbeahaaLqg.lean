/- The walk of laws.FnExactCacheGet: whatever list of policies lies in memory it answers true; nothing that was there is written. -/
import Derived.Test.YtdcfkbnppbeahaaQn
namespace Go.Proofs.Ytdcfkbnppbeahaa
open Go.RowKit Go.Deep

theorem kk_bound (P : List Pol) (k : Nat) : ∀ i, i ≤ P.length → kk (listQ P) k i ≤ k + 3 * i + pws (P.take i)
  | 0, _ => by simp [kk]
  | i + 1, h => by
    have h1 := kk_bound P k i (by omega)
    obtain ⟨p, hp⟩ : ∃ p, P[i]? = some p := ⟨_, List.getElem?_eq_getElem (by omega)⟩
    have h2 := pws_take P hp
    have h3 : p.l.length ≤ pw p := by unfold pw; omega
    simp only [kk, listQ_get hp]
    omega
theorem RowP.chg {ty : TypeId} {w w' : World} {b : Nat} {d : ByteArray} {m : Int} {a : Option Addr} {len cap : Nat} {u : Int} {S : Nat → Prop} (hr : RowP ty w b d m a len cap u) (hc : Chg S w w') (hb : ¬ S b) : RowP ty w' b d m a len cap u := (hc.block b hr.lt hb).trans hr
theorem szAll {P : List Pol} (h : P.length + pws P ≤ 1048576) : ∀ p ∈ P, polZ p := fun p hp => by
  obtain ⟨k, hk, rfl⟩ := List.mem_iff_getElem.1 hp
  have h1 := pws_get (List.getElem?_eq_getElem hk)
  unfold pw at h1
  refine ⟨by omega, fun t ht => ?_, by omega⟩
  obtain ⟨j, hj, rfl⟩ := List.mem_iff_getElem.1 ht
  have := txw_get (List.getElem?_eq_getElem hj)
  omega
theorem got_len {P : List Pol} {d : ByteArray} {now : Int} (hz : ∀ p ∈ P, polZ p) : ((gotQ P d now).getD zeroP).l.length ≤ 2097152 := by
  cases h : gotQ P d now with
  | none => simp [zeroP]
  | some p => exact (hz p (List.mem_of_find?_eq_some h)).1

set_option maxRecDepth 100000 in
set_option maxHeartbeats 2000000 in
theorem lawCacheGet (P : List Pol) (a : Option Addr) (cap : Nat) (d : ByteArray) (now : Int) (w : World) (hl : Pols w 0 a P) (hm : P.length ≤ maxLen) (hf : ∀ p ∈ P, polFit p) :
    Calls Try.prog 5 #[.slice a P.length cap, .string d, .int .i64 now] w fun e w' => e = .returned (.bool true) ∧ Below w.heap.size w w' := by
  by_cases hdz : d.size ≤ 1048576
  · have cD : ¬ (1048576 : Int) < (d.size : Int) := by omega
    have h12 := hide (fun v hv => szQ P a cap v hv hm hf)
    have HL := hide hl
    by_cases hw : ((P.length + pws P : Nat) : Int) ≤ 1048576
    · have hz := szAll (P := P) (by omega)
      have hsz : P.length ≤ 2097152 := by omega
      have hzl : ∀ p ∈ P, p.l.length ≤ 2097152 := fun p hp => (hz p hp).1
      have hgl := got_len (d := d) (now := now) hz
      have hkb : kk (listQ P) 1 P.length ≤ 1099511627776 := by
        have h1 := kk_bound P 1 P.length (Nat.le_refl _)
        rw [List.take_of_length_le (Nat.le_refl _)] at h1
        omega
      have h14 := hide (fun a cap v hv => toQ P a cap v hv hsz hzl)
      have h14x := hide (fun a cap v hv => toQ2 P a cap v hv hsz hzl)
      have h17 := hide (fun a cap v hv => getS P a cap d now v hv hsz hz)
      have h18 := hide (fun a cap v hv => getI P a cap d now v hv hsz hz)
      have h16 := hide (fun a a' c c' v hv hv' => eqQ P a a' c c' v (by omega) hzl hv hv')
      have h19 : Hid (∀ b c F v, PO v b F P.length (listQ P) → Calls Try.prog 19 #[.slice (some ⟨b, 0, none⟩) P.length c, .int .i64 1] v fun e w' => e = .returned (.int .i64 ((kk (listQ P) 1 P.length : Nat) : Int)) ∧ PO w' b F P.length (mQ (listQ P) 1) ∧ Chg (Blk b F P.length) v w') :=
        fun b c F v hv => markQs P.length b c 1 F (listQ P) v (Nat.le_refl _) hkb hv
      have hs1 := szv_yes (left := 1048576) hw
      generalize (gotQ P d now).isSome = O at *
      generalize hG : (gotQ P d now).getD zeroP = G at *
      obtain ⟨Gd, Gm, Gl, Gu⟩ := G
      simp only at h17 h18 hgl
      clear hG
      have h11 := hide (fun a a' c c' v hv hv' => eqP Gl Gd Gm a a' c c' Gu v hv hv' hgl)
      have h20 := hide (fun x c f v hv => markPo Gl Gd Gm x c Gu f v hgl hv)
      have h21 := hide (fun x c v hv => heldPo Gl.length Gd Gm x c Gu v hgl hv)
      generalize hgl' : (1048576 : Int) - ((P.length + pws P : Nat) : Int) = left at *
      have hln : ¬ left < 0 := by omega
      have hne : (O != O) = false := by simp
      generalize kk (listQ P) 1 P.length = mX at *
      generalize hGL : Gl.length = gl at *
      have HGL := hide hGL
      generalize hmG : 1 + gl = mG at *
      have q1 : ¬ ((mX : Nat) : Int) < 0 := by omega
      have q2 : ¬ ((mG : Nat) : Int) < 0 := by omega
      have q3 : (((mG : Nat) : Int) != ((mG : Nat) : Int)) = false := by simp
      clear hl hm hf hw hz hsz hzl hgl hkb hgl' hGL hmG hdz
      generalize hPL : P.length = len at *
      have HPL := hide hPL
      clear hPL
      go_enter Try.func5, Try.ntmps5
      go_wp2_with fail
      refine (unhide h12 _ (unhide HL)).mono ?_
      rintro e w1 ⟨rfl, hb1⟩
      rw [hs1]
      have HB1 := hide hb1
      clear hb1 h12 hs1
      go_wp2_with fail
      refine (unhide h14 _ _ _ ((unhide HL).on (unhide HB1))).mono ?_
      rintro e w2 ⟨rfl, hP2, hb2⟩
      have HP2 := hide (hP2.low (Nat.zero_le _))
      have HB2 := hide (btP (unhide HB1) hb2)
      clear hP2 hb2 HB1
      go_wp2_with fail
      refine (unhide h17 _ _ _ (unhide HP2)).mono ?_
      rintro e w3 ⟨vW, rfl, htx3, hb3⟩
      obtain ⟨aW, cW, fW, hvW, hoW, -⟩ := htx3.own
      rw [unhide HGL] at hvW
      subst hvW
      have hbx := abP (w := w3) (.cells #[.string Gd, .int .i64 Gm, .slice aW gl cW, .int .i64 Gu] 27)
      have HB3 := hide (btP (btP (unhide HB2) hb3) hbx)
      have HTW := hide (hoW.txt.on hbx)
      have HRW := hide (RowP.new 27 w3 Gd Gm aW gl cW Gu)
      clear htx3 hoW hb3 hbx HB2 HP2
      go_wp2_with fail
      generalize hV1 : w3.alloc (.cells #[.string Gd, .int .i64 Gm, .slice aW gl cW, .int .i64 Gu] 27) = V1 at *
      have HbW : Hid (w3.heap.size < V1.heap.size) := (unhide HRW).lt
      generalize w3.heap.size = bW at *
      clear hV1
      refine (unhide h14x _ _ _ ((unhide HL).on (unhide HB3))).mono ?_
      rintro e w4 ⟨rfl, ⟨F, hpo, hge⟩, hb4⟩
      have HPO := hide hpo
      have HGE := hide hge
      have HV4 := hide hb4
      have HF4 : Hid (∀ y, Blk V1.heap.size F len y → V1.heap.size ≤ y ∧ y < w4.heap.size) := fun y hy => by
        rcases hy with rfl | ⟨i, hi, hy⟩
        · obtain ⟨C, r, _⟩ := hpo.row
          exact ⟨Nat.le_refl _, (Array.getElem?_eq_some_iff.1 r).1⟩
        · exact ⟨hge i y hi hy, (hpo.lt i y hi hy).2⟩
      clear hpo hge hb4
      have HPX : Hid (∀ v, PO v V1.heap.size F len (listQ P) → Pols v 0 (some ⟨V1.heap.size, 0, none⟩) P) := fun v hv => PO.pols (by rw [unhide HPL]; exact hv)
      go_wp2_with fail
      refine (unhide h18 _ _ _ (unhide HPX _ (unhide HPO))).mono ?_
      rintro e w5 ⟨vG, rfl, htx5, hb5⟩
      obtain ⟨aG, cG, fG, hvG, hoG, hfG⟩ := htx5.own
      rw [unhide HGL] at hvG
      subst hvG
      have hbx := abP (w := w5) (.cells #[.string Gd, .int .i64 Gm, .slice aG gl cG, .int .i64 Gu] 27)
      have HV5 := hide (btP (btP (unhide HV4) hb5) hbx)
      have HPO5 := hide (((unhide HPO).on hb5).on hbx)
      have HOG := hide (hoG.on hbx)
      have HFG := hide hfG
      have HS45 : Hid (w4.heap.size ≤ w5.heap.size) := hb5.size
      have HRG := hide (RowP.new 27 w5 Gd Gm aG gl cG Gu)
      have HRW5 := hide ((unhide HRW).below (unhide HV5))
      clear htx5 hoG hfG hb5 hbx
      obtain ⟨c0, c1, c2, c3⟩ := (unhide HRG).facts
      obtain ⟨d0, d1, d2, d3⟩ := (unhide HRW5).facts
      have HTW5 := hide ((unhide HTW).on (unhide HV5))
      go_wp2_with fail
      generalize hV2 : w5.alloc (.cells #[.string Gd, .int .i64 Gm, .slice aG gl cG, .int .i64 Gu] 27) = V2 at *
      generalize hbG : w5.heap.size = bG at *
      clear hV2 hbG
      refine (unhide h11 _ _ _ _ _ (unhide HOG).txt (unhide HTW5)).mono ?_
      rintro e w6 ⟨rfl, hb6⟩
      have HV6 := hide (btP (unhide HV5) hb6)
      have HPO6 := hide ((unhide HPO5).on hb6)
      have HOG6 := hide ((unhide HOG).on hb6)
      have HRG6 := hide ((unhide HRG).below hb6)
      clear hb6 c0 c1 c2 c3 d0 d1 d2 d3 HV5 HPO5 HOG HRG HRW5 HTW5
      go_wp2_with fail
      refine (unhide h14 _ _ _ (((unhide HL).on (unhide HB3)).on (unhide HV6))).mono ?_
      rintro e w7 ⟨rfl, hP7, hb7⟩
      have HP7 := hide (hP7.low (Nat.zero_le _))
      have HV7 := hide (btP (unhide HV6) hb7)
      have HPO7 := hide ((unhide HPO6).on hb7)
      have HOG7 := hide ((unhide HOG6).on hb7)
      have HRG7 := hide ((unhide HRG6).below hb7)
      clear hP7 hb7 HV6 HPO6 HOG6 HRG6
      go_wp2_with fail
      refine (unhide h16 _ _ _ _ _ (unhide HPX _ (unhide HPO7)) (unhide HP7)).mono ?_
      rintro e w8 ⟨rfl, hb8⟩
      have HV8 := hide (btP (unhide HV7) hb8)
      have HPO8 := hide ((unhide HPO7).on hb8)
      have HOG8 := hide ((unhide HOG7).on hb8)
      have HRG8 := hide ((unhide HRG7).below hb8)
      clear hb8 HV7 HPO7 HOG7 HRG7 HP7
      go_wp2_with fail
      refine (unhide h19 _ _ _ _ (unhide HPO8)).mono ?_
      rintro e w9 ⟨rfl, -, hc9⟩
      have HV9 := hide ((unhide HV8).trans (hc9.below (unhide HV8).size fun y hy => (unhide HF4 y hy).1))
      have HOG9 := hide ((unhide HOG8).chg hc9 fun g hg hy => by have := (unhide HF4 g hy).2; have := (unhide HFG g hg).1; omega)
      have HRG9 := hide ((unhide HRG8).chg hc9 fun hy => by have := (unhide HF4 _ hy).2; have := unhide HS45; omega)
      have HRW9 := hide ((unhide HRW).below (unhide HV9))
      have HTW9 := hide ((unhide HTW).on (unhide HV9))
      clear hc9 HV8 HPO8 HOG8 HRG8
      obtain ⟨c0, c1, c2, c3⟩ := (unhide HRG9).facts
      obtain ⟨d0, d1, d2, d3⟩ := (unhide HRW9).facts
      go_wp2_with fail
      refine (unhide h11 _ _ _ _ _ (unhide HOG9).txt (unhide HTW9)).mono ?_
      rintro e w10 ⟨rfl, hb10⟩
      have HV10 := hide (btP (unhide HV9) hb10)
      have HOG10 := hide ((unhide HOG9).on hb10)
      have HRG10 := hide ((unhide HRG9).below hb10)
      clear hb10 c0 c1 c2 c3 d0 d1 d2 d3 HV9 HOG9 HRG9 HRW9 HTW9
      obtain ⟨c0, c1, c2, c3⟩ := (unhide HRG10).facts
      go_wp2_with fail
      refine (unhide h20 _ _ _ _ (unhide HOG10)).mono ?_
      rintro e w11 ⟨rfl, ho11, hc11⟩
      have HV11 := hide ((unhide HV10).trans (hc11.below (unhide HV10).size fun y hy => by have := (unhide HFG y hy).1; have := (unhide HV4).size; omega))
      have HT11 := hide ho11.txt
      have HRG11 := hide ((unhide HRG10).chg hc11 fun hy => by have := (unhide HFG _ hy).2; omega)
      clear ho11 hc11 c0 c1 c2 c3 HV10 HOG10 HRG10
      obtain ⟨c0, c1, c2, c3⟩ := (unhide HRG11).facts
      go_wp2_with fail
      refine (unhide h21 _ _ _ (unhide HT11)).mono ?_
      rintro e w12 ⟨rfl, hb12⟩
      have HV12 := hide (btP (unhide HV11) hb12)
      have HT12 := hide ((unhide HT11).on hb12)
      have HRG12 := hide ((unhide HRG11).below hb12)
      clear hb12 c0 c1 c2 c3 HV11 HT11 HRG11
      go_wp2_with fail
      refine (unhide h14 _ _ _ (((unhide HL).on (unhide HB3)).on (unhide HV12))).mono ?_
      rintro e w13 ⟨rfl, hP13, hb13⟩
      have HP13 := hide (hP13.low (Nat.zero_le _))
      have HV13 := hide (btP (unhide HV12) hb13)
      have HT13 := hide ((unhide HT12).on hb13)
      have HRG13 := hide ((unhide HRG12).below hb13)
      clear hP13 hb13 HV12 HT12 HRG12
      go_wp2_with fail
      refine (unhide h18 _ _ _ (unhide HP13)).mono ?_
      rintro e w14 ⟨vH, rfl, htx14, hb14⟩
      obtain ⟨aH, cH, fH, hvH, hoH, -⟩ := htx14.own
      rw [unhide HGL] at hvH
      subst hvH
      have hbx := abP (w := w14) (.cells #[.string Gd, .int .i64 Gm, .slice aH gl cH, .int .i64 Gu] 27)
      have HV14 := hide (btP (btP (unhide HV13) hb14) hbx)
      have HT14 := hide (((unhide HT13).on hb14).on hbx)
      have HRG14 := hide (((unhide HRG13).below hb14).below hbx)
      have HTH := hide (hoH.txt.on hbx)
      have HRH := hide (RowP.new 27 w14 Gd Gm aH gl cH Gu)
      have HRW14 := hide ((unhide HRW).below (unhide HV14))
      have HTW14 := hide ((unhide HTW).on (unhide HV14))
      clear htx14 hoH hb14 hbx HV13 HT13 HRG13 HP13
      obtain ⟨c0, c1, c2, c3⟩ := (unhide HRH).facts
      obtain ⟨d0, d1, d2, d3⟩ := (unhide HRW14).facts
      go_wp2_with fail
      generalize w14.alloc (.cells #[.string Gd, .int .i64 Gm, .slice aH gl cH, .int .i64 Gu] 27) = V3 at *
      generalize w14.heap.size = bH at *
      refine (unhide h11 _ _ _ _ _ (unhide HTH) (unhide HTW14)).mono ?_
      rintro e w15 ⟨rfl, hb15⟩
      have HV15 := hide (btP (unhide HV14) hb15)
      have HT15 := hide ((unhide HT14).on hb15)
      have HRG15 := hide ((unhide HRG14).below hb15)
      clear hb15 c0 c1 c2 c3 d0 d1 d2 d3 HV14 HT14 HRG14 HTH HRH HRW14 HTW14
      obtain ⟨c0, c1, c2, c3⟩ := (unhide HRG15).facts
      go_wp2_with fail
      refine (unhide h21 _ _ _ (unhide HT15)).mono ?_
      rintro e w16 ⟨rfl, hb16⟩
      have HB16 := hide (btP (unhide HB3) (btP (unhide HV15) hb16))
      clear hb16 c0 c1 c2 c3
      go_wp2_with fail
      go_ret
      exact ⟨rfl, unhide HB16⟩
    · have hs1 := szv_no (left := 1048576) (wt := P.length + pws P) (by omega)
      clear hl hm hf hw
      generalize P.length = len at *
      go_enter Try.func5, Try.ntmps5
      go_wp2_with fail
      refine (unhide h12 _ (unhide HL)).mono ?_
      rintro e w1 ⟨rfl, hb1⟩
      rw [hs1]
      have HB1 := hide hb1
      clear hb1
      go_wp2_with fail
      go_ret
      exact ⟨rfl, unhide HB1⟩
  · have cD : (1048576 : Int) < (d.size : Int) := by omega
    clear hl hm hf
    generalize P.length = len at *
    go_enter Try.func5, Try.ntmps5
    go_wp2_with fail
    go_ret
    exact ⟨rfl, Below.refl _ _⟩

end Go.Proofs.Ytdcfkbnppbeahaa
