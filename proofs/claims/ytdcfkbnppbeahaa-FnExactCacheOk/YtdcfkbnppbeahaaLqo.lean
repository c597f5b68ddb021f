/- The walk of laws.FnExactCacheOk: whatever list of policies lies in memory it answers true; nothing that was there is written. -/
import Derived.Test.YtdcfkbnppbeahaaQi
namespace Go.Proofs.Ytdcfkbnppbeahaa
open Go.RowKit Go.Deep

theorem szAllO {P : List Pol} (h : P.length + pws P ≤ 1048576) : ∀ p ∈ P, polZ p := fun p hp => by
  obtain ⟨k, hk, rfl⟩ := List.mem_iff_getElem.1 hp
  have h1 := pws_get (List.getElem?_eq_getElem hk)
  unfold pw at h1
  refine ⟨by omega, fun t ht => ?_, by omega⟩
  obtain ⟨j, hj, rfl⟩ := List.mem_iff_getElem.1 ht
  have := txw_get (List.getElem?_eq_getElem hj)
  omega

set_option maxRecDepth 100000 in
set_option maxHeartbeats 1000000 in
theorem lawCacheOk (P : List Pol) (a : Option Addr) (cap : Nat) (w : World) (hl : Pols w 0 a P) (hm : P.length ≤ maxLen) (hf : ∀ p ∈ P, polFit p) :
    Calls Try.prog 4 #[.slice a P.length cap] w fun e w' => e = .returned (.bool true) ∧ Below w.heap.size w w' := by
  have h12 := hide (fun v hv => szQ P a cap v hv hm hf)
  have HL := hide hl
  by_cases hw : ((P.length + pws P : Nat) : Int) ≤ 1048576
  · have hz := szAllO (P := P) (by omega)
    have hsz : P.length ≤ 2097152 := by omega
    have hzl : ∀ p ∈ P, p.l.length ≤ 2097152 := fun p hp => (hz p hp).1
    have h14 := hide (fun a cap v hv => toQ P a cap v hv hsz hzl)
    have h13 := hide (fun a cap v hv => cacheS P a cap v hv hsz hz)
    have h15 := hide (fun a cap v hv => cacheI P a cap v hv hsz hz)
    have h16 := hide (fun a a' c c' v hv hv' => eqQ P a a' c c' v (by omega) hzl hv hv')
    have hs1 := szv_yes (left := 1048576) hw
    generalize hgl' : (1048576 : Int) - ((P.length + pws P : Nat) : Int) = left at *
    have hln : ¬ left < 0 := by omega
    generalize cacheB P = ok at *
    have hne : (ok != ok) = false := by simp
    clear hl hm hf hw hz hsz hzl hgl'
    generalize P.length = len at *
    go_enter Try.func4, Try.ntmps4
    go_wp2_with fail
    refine (unhide h12 _ (unhide HL)).mono ?_
    rintro e w1 ⟨rfl, hb1⟩
    rw [hs1]
    have HB1 := hide hb1
    clear hb1 h12 hs1
    go_wp2_with fail
    refine (unhide h14 _ _ _ ((unhide HL).on (unhide HB1))).mono ?_
    rintro e w2 ⟨rfl, hP2, hb2⟩
    have HP2 := hide (hP2.low (Nat.zero_le _))
    have HB2 := hide (btP (unhide HB1) hb2)
    clear hP2 hb2 HB1
    go_wp2_with fail
    refine (unhide h13 _ _ _ (unhide HP2)).mono ?_
    rintro e w3 ⟨rfl, hb3⟩
    have HB3 := hide (btP (unhide HB2) hb3)
    clear hb3 HB2 HP2
    go_wp2_with fail
    refine (unhide h14 _ _ _ ((unhide HL).on (unhide HB3))).mono ?_
    rintro e w4 ⟨rfl, hP4, hb4⟩
    have HP4 := hide (hP4.low (Nat.zero_le _))
    have HB4 := hide (btP (unhide HB3) hb4)
    clear hP4 hb4 HB3
    go_wp2_with fail
    refine (unhide h15 _ _ _ (unhide HP4)).mono ?_
    rintro e w5 ⟨rfl, hb5⟩
    have HP5 := hide ((unhide HP4).on hb5)
    have HB5 := hide (btP (unhide HB4) hb5)
    clear hb5 HB4 HP4
    go_wp2_with fail
    refine (unhide h14 _ _ _ ((unhide HL).on (unhide HB5))).mono ?_
    rintro e w6 ⟨rfl, hP6, hb6⟩
    have HP6 := hide (hP6.low (Nat.zero_le _))
    have HX6 := hide ((unhide HP5).on hb6)
    have HB6 := hide (btP (unhide HB5) hb6)
    clear hP6 hb6 HB5 HP5
    go_wp2_with fail
    refine (unhide h16 _ _ _ _ _ (unhide HX6) (unhide HP6)).mono ?_
    rintro e w7 ⟨rfl, hb7⟩
    have HB7 := hide (btP (unhide HB6) hb7)
    clear hb7
    go_wp2_with fail
    go_ret
    exact ⟨rfl, unhide HB7⟩
  · have hs1 := szv_no (left := 1048576) (wt := P.length + pws P) (by omega)
    clear hl hm hf hw
    generalize P.length = len at *
    go_enter Try.func4, Try.ntmps4
    go_wp2_with fail
    refine (unhide h12 _ (unhide HL)).mono ?_
    rintro e w1 ⟨rfl, hb1⟩
    rw [hs1]
    have HB1 := hide hb1
    clear hb1
    go_wp2_with fail
    go_ret
    exact ⟨rfl, unhide HB1⟩

end Go.Proofs.Ytdcfkbnppbeahaa
