/- The walk of laws.FnExactNotes: whatever the text, it answers true; nothing that was there is written. -/
import Derived.Test.YtjckdepcgjfomaaDoorNv
namespace Go.Proofs.YtjckdepcgjfomaaDoor
open Go.RowKit Go.Deep

/-- Notes in a block of their own, or none. -/
def GY (w : World) (a : Option Addr) (P : List Nt) : Prop := P = [] ∨ ∃ g, a = some ⟨g, 0, Option.none⟩ ∧ EO ntC 26 w g P.length (listN P)
theorem GE.gy {B : Nat} {P : List Nt} {a : Option Addr} {n c : Nat} {w : World} (h : GE ntC 26 B P (.slice a n c) w) : GY w a P ∧ ∀ g, a = some ⟨g, 0, Option.none⟩ → B ≤ g ∧ g < w.heap.size := by
  refine ⟨?_, fun g hg => h.own (by rw [hg]; rfl)⟩
  rcases h with ⟨_, h⟩ | ⟨g, cap, C, h1, h2, h3, h4, h5, h6, h7⟩
  · exact Or.inl h
  · simp only [Value.slice.injEq] at h1
    obtain ⟨rfl, _, _⟩ := h1
    refine Or.inr ⟨g, rfl, ⟨C, h3, by omega⟩, fun i hi => ?_⟩
    obtain ⟨p, hp⟩ : ∃ p, P[i]? = some p := ⟨_, List.getElem?_eq_getElem hi⟩
    rw [listN_get hp]
    exact h7 i p hp
theorem GY.els {w : World} {a : Option Addr} {P : List Nt} (h : GY w a P) : Els ntC w 0 a P := by
  rcases h with rfl | ⟨g, rfl, h⟩
  · exact fun k p hk => by simp at hk
  · exact h.els (Nat.le_refl _) fun _ _ hp => listN_get hp
theorem GY.chg {w w' : World} {a : Option Addr} {P : List Nt} {S : Nat → Prop} (h : GY w a P) (hc : Chg S w w') (hs : ∀ g, a = some ⟨g, 0, Option.none⟩ → ¬ S g) : GY w' a P := by
  rcases h with h | ⟨g, ha, h⟩
  · exact Or.inl h
  · exact Or.inr ⟨g, ha, h.chg hc (hs g ha)⟩
theorem GY.on {w w' : World} {a : Option Addr} {P : List Nt} (h : GY w a P) (hb : Below w.heap.size w w') : GY w' a P := h.chg (S := fun _ => False) (Chg.of_below hb) fun _ _ x => x
/-- The same behind the marks. -/
def MY (w : World) (a : Option Addr) (n : Nat) : Prop := n = 0 ∨ ∃ g, a = some ⟨g, 0, Option.none⟩ ∧ EO ntC 26 w g n (mN 1)
theorem MY.on {w w' : World} {a : Option Addr} {n : Nat} (h : MY w a n) (hb : Below w.heap.size w w') : MY w' a n := by
  rcases h with h | ⟨g, ha, h⟩
  · exact Or.inl h
  · exact Or.inr ⟨g, ha, h.on hb⟩

set_option maxRecDepth 100000 in
theorem markNe (x : Option Addr) (c : Nat) (w : World) : Calls Tryd.prog 16 #[.slice x 0 c, .int .i64 1] w fun e w' => e = .returned (.int .i64 1) ∧ w' = w := by
  go_enter Tryd.func16, Tryd.ntmps16
  go_wp2_with fail
  go_loopw [1, 5] (fun m n wr => m = .int .i64 1 ∧ n = .int .i64 0 ∧ wr = w) (fun _ _ _ => 0)
  case atStart => exact ⟨rfl, rfl, rfl⟩
  case round =>
    obtain ⟨rfl, rfl, rfl⟩ := hrel
    go_wp2_with fail
    go_ret
    exact ⟨rfl, rfl⟩

set_option maxRecDepth 100000 in
theorem heldNe (x : Option Addr) (c : Nat) (w : World) : Calls Tryd.prog 17 #[.slice x 0 c, .int .i64 1] w fun e w' => e = .returned (.int .i64 1) ∧ w' = w := by
  go_enter Tryd.func17, Tryd.ntmps17
  go_wp2_with fail
  go_loopw [1, 5] (fun m n wr => m = .int .i64 1 ∧ n = .int .i64 0 ∧ wr = w) (fun _ _ _ => 0)
  case atStart => exact ⟨rfl, rfl, rfl⟩
  case round =>
    obtain ⟨rfl, rfl, rfl⟩ := hrel
    go_wp2_with fail
    go_ret
    exact ⟨rfl, rfl⟩

theorem markY (G : List Nt) (a : Option Addr) (c : Nat) (w : World) (hk : G.length ≤ 2097152) (h : GY w a G) :
    Calls Tryd.prog 16 #[.slice a G.length c, .int .i64 1] w fun e w' => e = .returned (.int .i64 ((1 + G.length * 5 : Nat) : Int)) ∧ MY w' a G.length ∧ Chg (fun y => a = some ⟨y, 0, Option.none⟩) w w' := by
  by_cases hG : G = []
  · subst hG
    refine (markNe a c w).mono ?_
    rintro e w' ⟨rfl, rfl⟩
    exact ⟨rfl, Or.inl rfl, Chg.refl _ _⟩
  · rcases h with h | ⟨g, rfl, h⟩
    · exact absurd h hG
    · refine (markNs G.length g c 1 (listN G) w (Nat.le_refl _) (by omega) h).mono ?_
      rintro e w' ⟨rfl, h1, h2⟩
      exact ⟨rfl, Or.inr ⟨g, rfl, h1⟩, h2.mono fun y hy => by subst hy; rfl⟩
theorem heldY (n : Nat) (a : Option Addr) (c : Nat) (w : World) (hk : n ≤ 2097152) (h : MY w a n) :
    Calls Tryd.prog 17 #[.slice a n c, .int .i64 1] w fun e w' => e = .returned (.int .i64 ((1 + n * 5 : Nat) : Int)) ∧ Below w.heap.size w w' := by
  by_cases hn : n = 0
  · subst hn
    refine (heldNe a c w).mono ?_
    rintro e w' ⟨rfl, rfl⟩
    exact ⟨rfl, Below.refl _ _⟩
  · rcases h with h | ⟨g, rfl, h⟩
    · exact absurd h hn
    · exact heldNs n g c 1 w (Nat.le_refl _) (by omega) h

theorem nts_len (s : ByteArray) : ∀ (f fr : Nat), (nts s f fr).1.length ≤ f
  | 0, _ => Nat.le_refl _
  | f + 1, fr => by
    unfold nts
    split
    · split
      · have := nts_len s f (s.size - (f + 1) + 1)
        simp only [List.length_cons]
        omega
      · simp
    · have := nts_len s f fr
      omega

set_option maxRecDepth 100000 in
set_option maxHeartbeats 4000000 in
theorem lawNotes_all (s : ByteArray) (te : TypeId) (pe : Value) (w : World) (hs : s.size ≤ 1048576) (hv : Wd w te pe) :
    Calls Tryd.prog 5 #[.string s] w fun e w' => e = .returned (.bool true) ∧ Below w.heap.size w w' := by
  have hS := hide (fun v => notesS s v (by omega))
  have hI := hide (fun v hv => notesI s te pe v (by omega) hv)
  have hlen : (ntsOf s).1.length ≤ 1048576 := Nat.le_trans (nts_len s s.size 0) hs
  generalize (ntsOf s).1 = G at *
  generalize (ntsOf s).2 = U at *
  have h15 := hide (fun a a' c c' v hv hv' => eqNs G a a' c c' v (by omega) hv hv')
  have h16 := hide (fun a c v hv => markY G a c v (by omega) hv)
  have h17 := hide (fun a c v hv => heldY G.length a c v (by omega) hv)
  generalize hmG : 1 + G.length * 5 = mG at *
  generalize hGL : G.length = gl at *
  have HGL := hide hGL
  have q2 : ¬ ((mG : Nat) : Int) < 0 := by omega
  have q3 : (((mG : Nat) : Int) != ((mG : Nat) : Int)) = false := by simp
  have q4 : (((U : Nat) : Int) != ((U : Nat) : Int)) = false := by simp
  have c1 : ¬ (1048576 : Int) < (s.size : Int) := by omega
  have HV := hide (fun v (hb : Below w.heap.size w v) => hv.on hb)
  clear hs hv hlen hmG hGL
  go_enter Tryd.func5, Tryd.ntmps5
  go_wp2_with fail
  refine (unhide hS _).mono ?_
  rintro e V1 ⟨vW, rfl, hgW, hb1⟩
  obtain ⟨aW, cW, hvW⟩ := hgW.shape
  rw [unhide HGL] at hvW
  subst hvW
  have HB1 := hide hb1
  have HTW := hide hgW.els
  clear hgW hb1
  go_wp2_with fail
  refine (unhide hI _ (unhide HV _ (unhide HB1))).mono ?_
  rintro e w2 ⟨vG, rfl, hgG, hb2⟩
  obtain ⟨aG, cG, hvG⟩ := hgG.shape
  rw [unhide HGL] at hvG
  subst hvG
  have HV2 := hide hb2
  have HOG := hide hgG.gy.1
  have HFG := hide hgG.gy.2
  clear hgG hb2
  go_wp2_with fail
  refine (unhide h15 _ _ _ _ _ (unhide HOG).els ((unhide HTW).on (unhide HV2))).mono ?_
  rintro e w3 ⟨rfl, hb3⟩
  have HV3 := hide (btP (unhide HV2) hb3)
  have HOG3 := hide ((unhide HOG).on hb3)
  clear hb3 HV2 HOG
  go_wp2_with fail
  refine (unhide h16 _ _ _ (unhide HOG3)).mono ?_
  rintro e w4 ⟨rfl, ho4, hc4⟩
  have HV4 := hide ((unhide HV3).trans (hc4.below (unhide HV3).size fun y hy => (unhide HFG y hy).1))
  have HT4 := hide ho4
  clear ho4 hc4 HV3 HOG3
  go_wp2_with fail
  refine (unhide h17 _ _ _ (unhide HT4)).mono ?_
  rintro e w5 ⟨rfl, hb5⟩
  have HV5 := hide (btP (unhide HV4) hb5)
  have HT5 := hide ((unhide HT4).on hb5)
  clear hb5 HV4 HT4
  go_wp2_with fail
  refine (unhide hI _ (unhide HV _ ((unhide HB1).trans ((unhide HV5).mono (unhide HB1).size)))).mono ?_
  rintro e w6 ⟨vH, rfl, hgH, hb6⟩
  obtain ⟨aH, cH, hvH⟩ := hgH.shape
  rw [unhide HGL] at hvH
  subst hvH
  have HV6 := hide (btP (unhide HV5) hb6)
  have HT6 := hide ((unhide HT5).on hb6)
  have HOH := hide hgH.els
  clear hgH hb6 HV5 HT5
  go_wp2_with fail
  refine (unhide h15 _ _ _ _ _ (unhide HOH) ((unhide HTW).on (unhide HV6))).mono ?_
  rintro e w7 ⟨rfl, hb7⟩
  have HV7 := hide (btP (unhide HV6) hb7)
  have HT7 := hide ((unhide HT6).on hb7)
  clear hb7 HV6 HT6 HOH
  go_wp2_with fail
  refine (unhide h17 _ _ _ (unhide HT7)).mono ?_
  rintro e w8 ⟨rfl, hb8⟩
  have HV8 := hide (btP (unhide HV7) hb8)
  clear hb8 HV7 HT7
  go_wp2_with fail
  go_ret
  exact ⟨rfl, (unhide HB1).trans ((unhide HV8).mono (unhide HB1).size)⟩

set_option maxRecDepth 100000 in
theorem lawNotes_long (s : ByteArray) (w : World) (hs : ¬ s.size ≤ 1048576) :
    Calls Tryd.prog 5 #[.string s] w fun e w' => e = .returned (.bool true) ∧ Below w.heap.size w w' := by
  have c1 : (1048576 : Int) < (s.size : Int) := by omega
  clear hs
  go_enter Tryd.func5, Tryd.ntmps5
  go_wp2_with fail
  go_ret
  exact ⟨rfl, Below.refl _ _⟩

theorem lawNotes (s : ByteArray) (te : TypeId) (pe : Value) (w : World) (hv : Wd w te pe) :
    Calls Tryd.prog 5 #[.string s] w fun e w' => e = .returned (.bool true) ∧ Below w.heap.size w w' := by
  by_cases hs : s.size ≤ 1048576
  · exact lawNotes_all s te pe w hs hv
  · exact lawNotes_long s w hs

end Go.Proofs.YtjckdepcgjfomaaDoor
