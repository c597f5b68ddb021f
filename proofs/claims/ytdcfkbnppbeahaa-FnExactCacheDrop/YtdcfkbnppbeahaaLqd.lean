/- The walk of laws.FnExactCacheDrop: whatever list of policies lies in memory it answers true; nothing that was there is written. -/
import Derived.Test.YtdcfkbnppbeahaaQe
import Derived.Test.YtdcfkbnppbeahaaLqg
namespace Go.Proofs.Ytdcfkbnppbeahaa
open Go.RowKit Go.Deep

theorem pws_keep (P : List Pol) (now : Int) : pws (keepQ P now) ≤ pws P := by
  unfold keepQ
  induction P with
  | nil => exact Nat.le_refl _
  | cons p r ih =>
    rw [List.filter_cons]
    split <;> simp only [pws] <;> omega
theorem len_keep (P : List Pol) (now : Int) : (keepQ P now).length ≤ P.length := List.length_filter_le _ _
theorem mem_keep {P : List Pol} {now : Int} {p : Pol} (h : p ∈ keepQ P now) : p ∈ P := (List.mem_filter.1 h).1

set_option maxRecDepth 100000 in
set_option maxHeartbeats 2000000 in
theorem lawCacheDrop (P : List Pol) (a : Option Addr) (cap : Nat) (now : Int) (w : World) (hl : Pols w 0 a P) (hm : P.length ≤ maxLen) (hf : ∀ p ∈ P, polFit p) :
    Calls Try.prog 6 #[.slice a P.length cap, .int .i64 now] w fun e w' => e = .returned (.bool true) ∧ Below w.heap.size w w' := by
  have h12 := hide (fun v hv => szQ P a cap v hv hm hf)
  have HL := hide hl
  by_cases hw : ((P.length + pws P : Nat) : Int) ≤ 1048576
  · have hz := szAll (P := P) (by omega)
    have hsz : P.length ≤ 2097152 := by omega
    have hzl : ∀ p ∈ P, p.l.length ≤ 2097152 := fun p hp => (hz p hp).1
    have hkb : kk (listQ P) 1 P.length ≤ 1099511627776 := by
      have h1 := kk_bound P 1 P.length (Nat.le_refl _)
      rw [List.take_of_length_le (Nat.le_refl _)] at h1
      omega
    have hkg : kk (listQ (keepQ P now)) 1 (keepQ P now).length ≤ 1099511627776 := by
      have h1 := kk_bound (keepQ P now) 1 _ (Nat.le_refl _)
      rw [List.take_of_length_le (Nat.le_refl _)] at h1
      have h2 := pws_keep P now
      have h3 := len_keep P now
      omega
    have hgn : (keepQ P now).length ≤ 2097153 := by have h3 := len_keep P now; omega
    have hgl : ∀ p ∈ keepQ P now, p.l.length ≤ 2097152 := fun p hp => hzl p (mem_keep hp)
    have h14 := hide (fun a cap v hv => toQ P a cap v hv hsz hzl)
    have h14x := hide (fun a cap v hv => toQ2 P a cap v hv hsz hzl)
    have h22 := hide (fun a cap v hv => dropS P a cap now v hv hsz hz)
    have h23 := hide (fun a cap v hv => dropI P a cap now v hv hsz hz)
    have h16 := hide (fun a a' c c' v hv hv' => eqQ P a a' c c' v (by omega) hzl hv hv')
    have h19x : Hid (∀ b c F v, PO v b F P.length (listQ P) → Calls Try.prog 19 #[.slice (some ⟨b, 0, none⟩) P.length c, .int .i64 1] v fun e w' => e = .returned (.int .i64 ((kk (listQ P) 1 P.length : Nat) : Int)) ∧ PO w' b F P.length (mQ (listQ P) 1) ∧ Chg (Blk b F P.length) v w') :=
      fun b c F v hv => markQs P.length b c 1 F (listQ P) v (Nat.le_refl _) hkb hv
    generalize hG : keepQ P now = G at *
    have h16g := hide (fun a a' c c' v hv hv' => eqQ G a a' c c' v hgn hgl hv hv')
    have h19 := hide (fun a c F v hv => markX G a c F v hkg hv)
    have h24 := hide (fun a c F v hv => heldX G a c F v hkg hv)
    have hs1 := szv_yes (left := 1048576) hw
    generalize hgl' : (1048576 : Int) - ((P.length + pws P : Nat) : Int) = left at *
    have hln : ¬ left < 0 := by omega
    clear hG
    generalize kk (listQ P) 1 P.length = mX at *
    generalize kk (listQ G) 1 G.length = mG at *
    generalize hGL : G.length = gl at *
    have HGL := hide hGL
    have q1 : ¬ ((mX : Nat) : Int) < 0 := by omega
    have q2 : ¬ ((mG : Nat) : Int) < 0 := by omega
    have q3 : (((mG : Nat) : Int) != ((mG : Nat) : Int)) = false := by simp
    clear hl hm hf hw hz hsz hzl hgl hkb hkg hgl' hGL hgn
    generalize hPL : P.length = len at *
    have HPL := hide hPL
    clear hPL
    go_enter Try.func6, Try.ntmps6
    go_wp2_with fail
    refine (unhide h12 _ (unhide HL)).mono ?_
    rintro e w1 ⟨rfl, hb1⟩
    rw [hs1]
    have HB1 := hide hb1
    clear hb1 h12 hs1
    go_wp2_with fail
    refine (unhide h14 _ _ _ ((unhide HL).on (unhide HB1))).mono ?_
    rintro e w2 ⟨rfl, hP2, hb2⟩
    have HP2 := hide (hP2.low (Nat.zero_le _))
    have HB2 := hide (btP (unhide HB1) hb2)
    clear hP2 hb2 HB1
    go_wp2_with fail
    refine (unhide h22 _ _ _ (unhide HP2)).mono ?_
    rintro e V1 ⟨vW, rfl, ⟨FW, hgW⟩, hb3⟩
    obtain ⟨aW, cW, hvW, hoW, -⟩ := hgW.pox
    rw [unhide HGL] at hvW
    subst hvW
    have HB3 := hide (btP (unhide HB2) hb3)
    have HTW := hide hoW.pols
    clear hgW hoW hb3 HB2 HP2
    go_wp2_with fail
    refine (unhide h14x _ _ _ ((unhide HL).on (unhide HB3))).mono ?_
    rintro e w4 ⟨rfl, ⟨F, hpo, hge⟩, hb4⟩
    have HPO := hide hpo
    have HV4 := hide hb4
    have HF4 : Hid (∀ y, Blk V1.heap.size F len y → V1.heap.size ≤ y ∧ y < w4.heap.size) := fun y hy => by
      rcases hy with rfl | ⟨i, hi, hy⟩
      · obtain ⟨C, r, _⟩ := hpo.row
        exact ⟨Nat.le_refl _, (Array.getElem?_eq_some_iff.1 r).1⟩
      · exact ⟨hge i y hi hy, (hpo.lt i y hi hy).2⟩
    clear hpo hge hb4
    have HPX : Hid (∀ v, PO v V1.heap.size F len (listQ P) → Pols v 0 (some ⟨V1.heap.size, 0, none⟩) P) := fun v hv => PO.pols (by rw [unhide HPL]; exact hv)
    go_wp2_with fail
    refine (unhide h23 _ _ _ (unhide HPX _ (unhide HPO))).mono ?_
    rintro e w5 ⟨vG, rfl, ⟨FG, hgG⟩, hb5⟩
    obtain ⟨aG, cG, hvG, hoG, hfG⟩ := hgG.pox
    rw [unhide HGL] at hvG
    subst hvG
    have HV5 := hide (btP (unhide HV4) hb5)
    have HPO5 := hide ((unhide HPO).on hb5)
    have HOG := hide hoG
    have HFG : Hid (∀ g, Has aG FG G g → w4.heap.size ≤ g ∧ g < w5.heap.size) := fun g hg => hfG g hg
    clear hgG hoG hfG hb5
    go_wp2_with fail
    refine (unhide h16g _ _ _ _ _ (unhide HOG).pols ((unhide HTW).on (unhide HV5))).mono ?_
    rintro e w6 ⟨rfl, hb6⟩
    have HV6 := hide (btP (unhide HV5) hb6)
    have HPO6 := hide ((unhide HPO5).on hb6)
    have HOG6 := hide ((unhide HOG).on hb6)
    clear hb6 HV5 HPO5 HOG
    go_wp2_with fail
    refine (unhide h14 _ _ _ (((unhide HL).on (unhide HB3)).on (unhide HV6))).mono ?_
    rintro e w7 ⟨rfl, hP7, hb7⟩
    have HP7 := hide (hP7.low (Nat.zero_le _))
    have HV7 := hide (btP (unhide HV6) hb7)
    have HPO7 := hide ((unhide HPO6).on hb7)
    have HOG7 := hide ((unhide HOG6).on hb7)
    clear hP7 hb7 HV6 HPO6 HOG6
    go_wp2_with fail
    refine (unhide h16 _ _ _ _ _ (unhide HPX _ (unhide HPO7)) (unhide HP7)).mono ?_
    rintro e w8 ⟨rfl, hb8⟩
    have HV8 := hide (btP (unhide HV7) hb8)
    have HPO8 := hide ((unhide HPO7).on hb8)
    have HOG8 := hide ((unhide HOG7).on hb8)
    clear hb8 HV7 HPO7 HOG7 HP7
    go_wp2_with fail
    refine (unhide h19x _ _ _ _ (unhide HPO8)).mono ?_
    rintro e w9 ⟨rfl, -, hc9⟩
    have HV9 := hide ((unhide HV8).trans (hc9.below (unhide HV8).size fun y hy => (unhide HF4 y hy).1))
    have HOG9 := hide ((unhide HOG8).chg hc9 fun g hg hy => by have := (unhide HF4 g hy).2; have := (unhide HFG g hg).1; omega)
    clear hc9 HV8 HPO8 HOG8
    go_wp2_with fail
    refine (unhide h16g _ _ _ _ _ (unhide HOG9).pols ((unhide HTW).on (unhide HV9))).mono ?_
    rintro e w10 ⟨rfl, hb10⟩
    have HV10 := hide (btP (unhide HV9) hb10)
    have HOG10 := hide ((unhide HOG9).on hb10)
    clear hb10 HV9 HOG9
    go_wp2_with fail
    refine (unhide h19 _ _ _ _ (unhide HOG10)).mono ?_
    rintro e w11 ⟨rfl, ho11, hc11⟩
    have HV11 := hide ((unhide HV10).trans (hc11.below (unhide HV10).size fun y hy => by have := (unhide HFG y hy).1; have := (unhide HV4).size; omega))
    have HT11 := hide ho11
    clear ho11 hc11 HV10 HOG10
    go_wp2_with fail
    refine (unhide h24 _ _ _ _ (unhide HT11)).mono ?_
    rintro e w12 ⟨rfl, hb12⟩
    have HV12 := hide (btP (unhide HV11) hb12)
    have HT12 := hide ((unhide HT11).on hb12)
    clear hb12 HV11 HT11
    go_wp2_with fail
    refine (unhide h14 _ _ _ (((unhide HL).on (unhide HB3)).on (unhide HV12))).mono ?_
    rintro e w13 ⟨rfl, hP13, hb13⟩
    have HP13 := hide (hP13.low (Nat.zero_le _))
    have HV13 := hide (btP (unhide HV12) hb13)
    have HT13 := hide ((unhide HT12).on hb13)
    clear hP13 hb13 HV12 HT12
    go_wp2_with fail
    refine (unhide h23 _ _ _ (unhide HP13)).mono ?_
    rintro e w14 ⟨vH, rfl, ⟨FH, hgH⟩, hb14⟩
    obtain ⟨aH, cH, hvH, hoH, -⟩ := hgH.pox
    rw [unhide HGL] at hvH
    subst hvH
    have HV14 := hide (btP (unhide HV13) hb14)
    have HT14 := hide ((unhide HT13).on hb14)
    have HTH := hide hoH.pols
    clear hgH hoH hb14 HV13 HT13 HP13
    go_wp2_with fail
    refine (unhide h16g _ _ _ _ _ (unhide HTH) ((unhide HTW).on (unhide HV14))).mono ?_
    rintro e w15 ⟨rfl, hb15⟩
    have HV15 := hide (btP (unhide HV14) hb15)
    have HT15 := hide ((unhide HT14).on hb15)
    clear hb15 HV14 HT14 HTH
    go_wp2_with fail
    refine (unhide h24 _ _ _ _ (unhide HT15)).mono ?_
    rintro e w16 ⟨rfl, hb16⟩
    have HB16 := hide (btP (unhide HB3) (btP (unhide HV15) hb16))
    clear hb16
    go_wp2_with fail
    go_ret
    exact ⟨rfl, unhide HB16⟩
  · have hs1 := szv_no (left := 1048576) (wt := P.length + pws P) (by omega)
    clear hl hm hf hw
    generalize P.length = len at *
    go_enter Try.func6, Try.ntmps6
    go_wp2_with fail
    refine (unhide h12 _ (unhide HL)).mono ?_
    rintro e w1 ⟨rfl, hb1⟩
    rw [hs1]
    have HB1 := hide hb1
    clear hb1
    go_wp2_with fail
    go_ret
    exact ⟨rfl, unhide HB1⟩

end Go.Proofs.Ytdcfkbnppbeahaa
