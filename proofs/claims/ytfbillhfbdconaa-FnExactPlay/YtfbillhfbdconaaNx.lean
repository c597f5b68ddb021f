/- The walk of laws.FnExactPlay: whatever list of notes lies in memory it answers true; nothing that was there is written. -/
import Derived.Test.YtfbillhfbdconaaNq
import Derived.Test.YtfbillhfbdconaaNr
namespace Go.Proofs.Ytfbillhfbdconaa
open Go.RowKit Go.Deep

/-- Letters in a block of their own, or none. -/
def GX (w : World) (a : Option Addr) (P : List Lt) : Prop := P = [] ∨ ∃ g, a = some ⟨g, 0, Option.none⟩ ∧ EO ltC 44 w g P.length (listL P)
theorem GE.gx {B : Nat} {P : List Lt} {a : Option Addr} {n c : Nat} {w : World} (h : GE ltC 44 B P (.slice a n c) w) : GX w a P ∧ ∀ g, a = some ⟨g, 0, Option.none⟩ → B ≤ g ∧ g < w.heap.size := by
  refine ⟨?_, fun g hg => h.own (by rw [hg]; rfl)⟩
  rcases h with ⟨_, h⟩ | ⟨g, cap, C, h1, h2, h3, h4, h5, h6, h7⟩
  · exact Or.inl h
  · simp only [Value.slice.injEq] at h1
    obtain ⟨rfl, _, _⟩ := h1
    refine Or.inr ⟨g, rfl, ⟨C, h3, by omega⟩, fun i hi => ?_⟩
    obtain ⟨p, hp⟩ : ∃ p, P[i]? = some p := ⟨_, List.getElem?_eq_getElem hi⟩
    rw [listL_get hp]
    exact h7 i p hp
theorem GX.els {w : World} {a : Option Addr} {P : List Lt} (h : GX w a P) : Els ltC w 0 a P := by
  rcases h with rfl | ⟨g, rfl, h⟩
  · exact fun k p hk => by simp at hk
  · exact h.els (Nat.le_refl _) fun _ _ hp => listL_get hp
theorem GX.chg {w w' : World} {a : Option Addr} {P : List Lt} {S : Nat → Prop} (h : GX w a P) (hc : Chg S w w') (hs : ∀ g, a = some ⟨g, 0, Option.none⟩ → ¬ S g) : GX w' a P := by
  rcases h with h | ⟨g, ha, h⟩
  · exact Or.inl h
  · exact Or.inr ⟨g, ha, h.chg hc (hs g ha)⟩
theorem GX.on {w w' : World} {a : Option Addr} {P : List Lt} (h : GX w a P) (hb : Below w.heap.size w w') : GX w' a P := h.chg (S := fun _ => False) (Chg.of_below hb) fun _ _ x => x
/-- The same behind the marks. -/
def MX (w : World) (a : Option Addr) (n : Nat) : Prop := n = 0 ∨ ∃ g, a = some ⟨g, 0, Option.none⟩ ∧ EO ltC 44 w g n (mL 1)
theorem MX.on {w w' : World} {a : Option Addr} {n : Nat} (h : MX w a n) (hb : Below w.heap.size w w') : MX w' a n := by
  rcases h with h | ⟨g, ha, h⟩
  · exact Or.inl h
  · exact Or.inr ⟨g, ha, h.on hb⟩

set_option maxRecDepth 100000 in
theorem markLe (x : Option Addr) (c : Nat) (w : World) : Calls Try.prog 16 #[.slice x 0 c, .int .i64 1] w fun e w' => e = .returned (.int .i64 1) ∧ w' = w := by
  go_enter Try.func16, Try.ntmps16
  go_wp2_with fail
  go_loopw [1, 5] (fun m n wr => m = .int .i64 1 ∧ n = .int .i64 0 ∧ wr = w) (fun _ _ _ => 0)
  case atStart => exact ⟨rfl, rfl, rfl⟩
  case round =>
    obtain ⟨rfl, rfl, rfl⟩ := hrel
    go_wp2_with fail
    go_ret
    exact ⟨rfl, rfl⟩

set_option maxRecDepth 100000 in
theorem heldLe (x : Option Addr) (c : Nat) (w : World) : Calls Try.prog 17 #[.slice x 0 c, .int .i64 1] w fun e w' => e = .returned (.int .i64 1) ∧ w' = w := by
  go_enter Try.func17, Try.ntmps17
  go_wp2_with fail
  go_loopw [1, 5] (fun m n wr => m = .int .i64 1 ∧ n = .int .i64 0 ∧ wr = w) (fun _ _ _ => 0)
  case atStart => exact ⟨rfl, rfl, rfl⟩
  case round =>
    obtain ⟨rfl, rfl, rfl⟩ := hrel
    go_wp2_with fail
    go_ret
    exact ⟨rfl, rfl⟩

theorem markX (G : List Lt) (a : Option Addr) (c : Nat) (w : World) (hk : G.length ≤ 30) (h : GX w a G) :
    Calls Try.prog 16 #[.slice a G.length c, .int .i64 1] w fun e w' => e = .returned (.int .i64 ((1 + G.length * 5 : Nat) : Int)) ∧ MX w' a G.length ∧ Chg (fun y => a = some ⟨y, 0, Option.none⟩) w w' := by
  by_cases hG : G = []
  · subst hG
    refine (markLe a c w).mono ?_
    rintro e w' ⟨rfl, rfl⟩
    exact ⟨rfl, Or.inl rfl, Chg.refl _ _⟩
  · rcases h with h | ⟨g, rfl, h⟩
    · exact absurd h hG
    · refine (markLs G.length g c 1 (listL G) w (Nat.le_refl _) (by omega) h).mono ?_
      rintro e w' ⟨rfl, h1, h2⟩
      exact ⟨rfl, Or.inr ⟨g, rfl, h1⟩, h2.mono fun y hy => by subst hy; rfl⟩
theorem heldX (n : Nat) (a : Option Addr) (c : Nat) (w : World) (hk : n ≤ 30) (h : MX w a n) :
    Calls Try.prog 17 #[.slice a n c, .int .i64 1] w fun e w' => e = .returned (.int .i64 ((1 + n * 5 : Nat) : Int)) ∧ Below w.heap.size w w' := by
  by_cases hn : n = 0
  · subst hn
    refine (heldLe a c w).mono ?_
    rintro e w' ⟨rfl, rfl⟩
    exact ⟨rfl, Below.refl _ _⟩
  · rcases h with h | ⟨g, rfl, h⟩
    · exact absurd h hn
    · exact heldLs n g c 1 w (Nat.le_refl _) (by omega) h

set_option maxRecDepth 100000 in
set_option maxHeartbeats 4000000 in
theorem lawPlay (P : List Nt) (a : Option Addr) (cap : Nat) (w : World) (hl : Els ntC w 0 a P) (hm : P.length ≤ maxLen) (hf : ∀ p ∈ P, p.d.size ≤ maxLen) :
    Calls Try.prog 4 #[.slice a P.length cap] w fun e w' => e = .returned (.bool true) ∧ Below w.heap.size w w' := by
  have h12 := hide (fun v hv => szNs P a cap v hv hm hf)
  have HL := hide hl
  by_cases hw : ((P.length + nws P : Nat) : Int) ≤ 1048576
  · have hz : ∀ p ∈ P, p.d.size ≤ 2097152 := fun p hp => by
      obtain ⟨k, hk⟩ := List.getElem?_of_mem hp
      have := nws_get hk
      omega
    have hsz : P.length ≤ 2097152 := by omega
    have hG := playL_ok P
    have h14 := hide (fun a cap v hv => toNs P a cap v hv hsz)
    have h22 := hide (fun a cap v hv => playSp P a cap v hv (by omega) hz)
    have h23 := hide (fun a cap v hv => playIm P a cap v hv (by omega) hz)
    have h16 := hide (fun a a' c c' v hv hv' => eqNs P a a' c c' v (by omega) hv hv')
    have h19x : Hid (∀ b c v, EO ntC 26 v b P.length (listN P) → Calls Try.prog 15 #[.slice (some ⟨b, 0, none⟩) P.length c, .int .i64 1] v fun e w' => e = .returned (.int .i64 ((1 + P.length * 5 : Nat) : Int)) ∧ EO ntC 26 w' b P.length (mN 1) ∧ Chg (fun y => y = b) v w') :=
      fun b c v hv => markNs P.length b c 1 (listN P) v (Nat.le_refl _) (by omega) hv
    have hEX : Hid (∀ v b, EO ntC 26 v b P.length (listN P) → Els ntC v 0 (some ⟨b, 0, none⟩) P) := fun v b hv => hv.elsN
    generalize playL P = G at *
    have hgn := hG.1
    have h16g := hide (fun a a' c c' v hv hv' => eqLs G a a' c c' v (by omega) hv hv')
    have h19 := hide (fun a c v hv => markX G a c v hgn hv)
    have h24 := hide (fun a c v hv => heldX G.length a c v hgn hv)
    have hs1 := szv_yes (left := 1048576) hw
    generalize hgl' : (1048576 : Int) - ((P.length + nws P : Nat) : Int) = left at *
    have hln : ¬ left < 0 := by omega
    generalize hmX : 1 + P.length * 5 = mX at *
    generalize hmG : 1 + G.length * 5 = mG at *
    generalize hGL : G.length = gl at *
    have HGL := hide hGL
    have q1 : ¬ ((mX : Nat) : Int) < 0 := by omega
    have q2 : ¬ ((mG : Nat) : Int) < 0 := by omega
    have q3 : (((mG : Nat) : Int) != ((mG : Nat) : Int)) = false := by simp
    clear hl hm hf hw hz hsz hgl' hGL hgn hG hmX hmG
    generalize hPL : P.length = len at *
    clear hPL
    go_enter Try.func4, Try.ntmps4
    go_wp2_with fail
    refine (unhide h12 _ (unhide HL)).mono ?_
    rintro e w1 ⟨rfl, hb1⟩
    rw [hs1]
    have HB1 := hide hb1
    clear hb1 h12 hs1
    go_wp2_with fail
    refine (unhide h14 _ _ _ ((unhide HL).on (unhide HB1))).mono ?_
    rintro e w2 ⟨rfl, hP2, hb2⟩
    have HP2 := hide (unhide hEX _ _ hP2)
    have HB2 := hide (btP (unhide HB1) hb2)
    clear hP2 hb2 HB1
    go_wp2_with fail
    refine (unhide h22 _ _ _ (unhide HP2)).mono ?_
    rintro e V1 ⟨vW, rfl, hgW, hb3⟩
    obtain ⟨aW, cW, hvW⟩ := hgW.shape
    rw [unhide HGL] at hvW
    subst hvW
    have HB3 := hide (btP (unhide HB2) hb3)
    have HTW := hide hgW.els
    clear hgW hb3 HB2 HP2
    go_wp2_with fail
    refine (unhide h14 _ _ _ ((unhide HL).on (unhide HB3))).mono ?_
    rintro e w4 ⟨rfl, hpo, hb4⟩
    have HPO := hide hpo
    have HV4 := hide hb4
    have HF4 : Hid (V1.heap.size < w4.heap.size) := hpo.lt
    clear hpo hb4
    go_wp2_with fail
    refine (unhide h23 _ _ _ (unhide hEX _ _ (unhide HPO))).mono ?_
    rintro e w5 ⟨vG, rfl, hgG, hb5⟩
    obtain ⟨aG, cG, hvG⟩ := hgG.shape
    rw [unhide HGL] at hvG
    subst hvG
    have HV5 := hide (btP (unhide HV4) hb5)
    have HPO5 := hide ((unhide HPO).on hb5)
    have HOG := hide hgG.gx.1
    have HFG := hide hgG.gx.2
    clear hgG hb5
    go_wp2_with fail
    refine (unhide h16g _ _ _ _ _ (unhide HOG).els ((unhide HTW).on (unhide HV5))).mono ?_
    rintro e w6 ⟨rfl, hb6⟩
    have HV6 := hide (btP (unhide HV5) hb6)
    have HPO6 := hide ((unhide HPO5).on hb6)
    have HOG6 := hide ((unhide HOG).on hb6)
    clear hb6 HV5 HPO5 HOG
    go_wp2_with fail
    refine (unhide h14 _ _ _ (((unhide HL).on (unhide HB3)).on (unhide HV6))).mono ?_
    rintro e w7 ⟨rfl, hP7, hb7⟩
    have HP7 := hide (unhide hEX _ _ hP7)
    have HV7 := hide (btP (unhide HV6) hb7)
    have HPO7 := hide ((unhide HPO6).on hb7)
    have HOG7 := hide ((unhide HOG6).on hb7)
    clear hP7 hb7 HV6 HPO6 HOG6
    go_wp2_with fail
    refine (unhide h16 _ _ _ _ _ (unhide hEX _ _ (unhide HPO7)) (unhide HP7)).mono ?_
    rintro e w8 ⟨rfl, hb8⟩
    have HV8 := hide (btP (unhide HV7) hb8)
    have HPO8 := hide ((unhide HPO7).on hb8)
    have HOG8 := hide ((unhide HOG7).on hb8)
    clear hb8 HV7 HPO7 HOG7 HP7
    go_wp2_with fail
    refine (unhide h19x _ _ _ (unhide HPO8)).mono ?_
    rintro e w9 ⟨rfl, -, hc9⟩
    have HV9 := hide ((unhide HV8).trans (hc9.below (unhide HV8).size fun y hy => by omega))
    have HOG9 := hide ((unhide HOG8).chg hc9 fun g hg hy => by have := unhide HF4; have := (unhide HFG g hg).1; omega)
    clear hc9 HV8 HPO8 HOG8
    go_wp2_with fail
    refine (unhide h16g _ _ _ _ _ (unhide HOG9).els ((unhide HTW).on (unhide HV9))).mono ?_
    rintro e w10 ⟨rfl, hb10⟩
    have HV10 := hide (btP (unhide HV9) hb10)
    have HOG10 := hide ((unhide HOG9).on hb10)
    clear hb10 HV9 HOG9
    go_wp2_with fail
    refine (unhide h19 _ _ _ (unhide HOG10)).mono ?_
    rintro e w11 ⟨rfl, ho11, hc11⟩
    have HV11 := hide ((unhide HV10).trans (hc11.below (unhide HV10).size fun y hy => by have := (unhide HFG y hy).1; have := (unhide HV4).size; omega))
    have HT11 := hide ho11
    clear ho11 hc11 HV10 HOG10
    go_wp2_with fail
    refine (unhide h24 _ _ _ (unhide HT11)).mono ?_
    rintro e w12 ⟨rfl, hb12⟩
    have HV12 := hide (btP (unhide HV11) hb12)
    have HT12 := hide ((unhide HT11).on hb12)
    clear hb12 HV11 HT11
    go_wp2_with fail
    refine (unhide h14 _ _ _ (((unhide HL).on (unhide HB3)).on (unhide HV12))).mono ?_
    rintro e w13 ⟨rfl, hP13, hb13⟩
    have HP13 := hide (unhide hEX _ _ hP13)
    have HV13 := hide (btP (unhide HV12) hb13)
    have HT13 := hide ((unhide HT12).on hb13)
    clear hP13 hb13 HV12 HT12
    go_wp2_with fail
    refine (unhide h23 _ _ _ (unhide HP13)).mono ?_
    rintro e w14 ⟨vH, rfl, hgH, hb14⟩
    obtain ⟨aH, cH, hvH⟩ := hgH.shape
    rw [unhide HGL] at hvH
    subst hvH
    have HV14 := hide (btP (unhide HV13) hb14)
    have HT14 := hide ((unhide HT13).on hb14)
    have HTH := hide hgH.els
    clear hgH hb14 HV13 HT13 HP13
    go_wp2_with fail
    refine (unhide h16g _ _ _ _ _ (unhide HTH) ((unhide HTW).on (unhide HV14))).mono ?_
    rintro e w15 ⟨rfl, hb15⟩
    have HV15 := hide (btP (unhide HV14) hb15)
    have HT15 := hide ((unhide HT14).on hb15)
    clear hb15 HV14 HT14 HTH
    go_wp2_with fail
    refine (unhide h24 _ _ _ (unhide HT15)).mono ?_
    rintro e w16 ⟨rfl, hb16⟩
    have HB16 := hide (btP (unhide HB3) (btP (unhide HV15) hb16))
    clear hb16
    go_wp2_with fail
    go_ret
    exact ⟨rfl, unhide HB16⟩
  · have hs1 := szv_no (left := 1048576) (wt := P.length + nws P) (by omega)
    clear hl hm hf hw
    generalize P.length = len at *
    go_enter Try.func4, Try.ntmps4
    go_wp2_with fail
    refine (unhide h12 _ (unhide HL)).mono ?_
    rintro e w1 ⟨rfl, hb1⟩
    rw [hs1]
    have HB1 := hide hb1
    clear hb1
    go_wp2_with fail
    go_ret
    exact ⟨rfl, unhide HB1⟩

end Go.Proofs.Ytfbillhfbdconaa
