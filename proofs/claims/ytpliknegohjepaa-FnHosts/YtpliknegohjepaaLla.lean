/- The walk of laws.FnExactLabels: at every text the two agree, and the answer owns its memory; nothing that was there is written. -/
import Derived.Test.YtpliknegohjepaaMx
namespace Go.Proofs.Ytpliknegohjepaa
open Go.RowKit Go.Deep

/-- A row of texts that is not empty, as one that is not marked yet. -/
theorem Txs.row {w wr : World} {l : List ByteArray} {v : Value} (h : Txs w l v wr) (hne : l ≠ []) : ∃ g c, v = .slice (some ⟨g, 0, none⟩) l.length c ∧ Stand wr g l ∧ Marked wr g l.length 0 ∧ w.heap.size ≤ g ∧ g < wr.heap.size := by
  rcases h.2 with ⟨h1, h2⟩ | ⟨g, cap, cur, h1, h2, h3, h4, h5, h6, h7⟩
  · exact absurd (List.length_eq_zero_iff.1 h2) hne
  · refine ⟨g, cap, h1, fun k t hk => ?_, ⟨cur, h3, by omega, fun j hj => by omega⟩, h2, (Array.getElem?_eq_some_iff.1 h3).1⟩
    have hk' : k < l.length := (List.getElem?_eq_some_iff.1 hk).1
    have hkc : k < cur.size := by omega
    have e : (cur.toList.take (l.length * 1))[k]? = some (.string t) := by rw [h7]; simp [hk]
    rw [List.getElem?_take, if_pos (by omega), Array.getElem?_toList, Array.getElem?_eq_getElem hkc] at e
    rw [cell_of_row h3 hkc, e]
theorem Stand.under {w w' : World} {g B : Nat} {l : List ByteArray} (h : Stand w g l) (hb : Below B w w') (hg : g < B) : Stand w' g l := fun k t hk => by
  rw [hb.cell (p := ⟨g, k, none⟩) hg, h k t hk]

set_option maxRecDepth 100000 in
set_option maxHeartbeats 2000000 in
theorem lawLabels (s : ByteArray) (w : World) :
    Calls Try.prog 6 #[.string s] w fun e w' => e = .returned (.bool true) ∧ Below w.heap.size w w' := by
  by_cases hs : s.size ≤ 1048576
  · have h15 := hide (fun v => labels27 s v (by omega))
    have h16 := hide (fun v => labelsI s v (by omega))
    have c1 : ¬ (1048576 : Int) < (s.size : Int) := by omega
    have hlen : (labsOf s).length ≤ 2097153 := by have := labs_length s s.size 0; unfold labsOf; omega
    have HNE : Hid (labsOf s ≠ []) := labs_ne _ _ _
    have h17 := hide (fun g g' c c' v a b => eqS_yes (labsOf s) g g' c c' v hlen a b)
    have h18 := hide (fun g c B v a b d => markS (labsOf s).length g c B v hlen a b d)
    have h19 := hide (fun g c v a => heldS (labsOf s).length g c v hlen a)
    have q1 : ¬ (((labsOf s).length + 1 : Nat) : Int) < 0 := by omega
    have HR := hide (fun (w wr : World) v (h : Txs w (labsOf s) v wr) => h.row (labs_ne _ _ _))
    generalize hX : labsOf s = X at *
    generalize hL : X.length = L at *
    go_enter Try.func6, Try.ntmps6
    go_wp2_with fail
    refine (unhide h15 _).mono ?_
    rintro e w1 ⟨v1, rfl, htx1, hb1⟩
    obtain ⟨g1, k1, rfl, st1, -, _, lt1⟩ := unhide HR _ _ _ htx1
    have HB1 := hide hb1
    have HS1 := hide st1
    clear htx1 hb1 st1
    go_wp2_with fail
    refine (unhide h16 _).mono ?_
    rintro e w2 ⟨v2, rfl, htx2, hb2⟩
    obtain ⟨g2, k2, rfl, st2, mk2, ge2, lt2⟩ := unhide HR _ _ _ htx2

    have HS12 := hide ((unhide HS1).on hb2)
    have HB2 := hide ((unhide HB1).trans (hb2.mono (unhide HB1).size))
    have HS2 := hide st2
    have HM2 := hide mk2
    have hz1 := hb2.size
    clear htx2 hb2 st2 mk2
    go_wp2_with fail
    refine (unhide h17 _ _ _ _ _ (unhide HS2) (unhide HS12)).mono ?_
    rintro e w3 ⟨rfl, hb3⟩
    have HS13 := hide ((unhide HS12).on hb3)
    have HM3 := hide ((unhide HM2).on hb3)
    have HB3 := hide ((unhide HB2).trans (hb3.mono (unhide HB2).size))
    have hz3 := hb3.size
    clear hb3
    go_wp2_with fail
    refine (unhide h18 g2 _ w1.heap.size _ ge2 (by omega) (unhide HM3)).mono ?_
    rintro e w4 ⟨rfl, hb4, mk4⟩
    have HS14 := hide ((unhide HS13).under hb4 lt1)
    have HM4 := hide mk4
    have HB4 := hide ((unhide HB3).trans (hb4.mono (unhide HB1).size))
    clear hb4 mk4
    go_wp2_with fail
    refine (unhide h19 _ _ _ (unhide HM4)).mono ?_
    rintro e w5 ⟨rfl, hb5⟩
    have HS15 := hide ((unhide HS14).on hb5)
    have HM5 := hide ((unhide HM4).on hb5)
    have HB5 := hide ((unhide HB4).trans (hb5.mono (unhide HB4).size))
    clear hb5
    go_wp2_with fail
    refine (unhide h16 _).mono ?_
    rintro e w6 ⟨v6, rfl, htx6, hb6⟩
    obtain ⟨g6, k6, rfl, st6, -, ge6, lt6⟩ := unhide HR _ _ _ htx6
    have HS16 := hide ((unhide HS15).on hb6)
    have HM6 := hide ((unhide HM5).on hb6)
    have HB6 := hide ((unhide HB5).trans (hb6.mono (unhide HB5).size))
    have HS6 := hide st6
    clear htx6 hb6 st6
    go_wp2_with fail
    refine (unhide h17 _ _ _ _ _ (unhide HS6) (unhide HS16)).mono ?_
    rintro e w7 ⟨rfl, hb7⟩
    have HM7 := hide ((unhide HM6).on hb7)
    have HB7 := hide ((unhide HB6).trans (hb7.mono (unhide HB6).size))
    clear hb7
    go_wp2_with fail
    refine (unhide h19 _ _ _ (unhide HM7)).mono ?_
    rintro e w8 ⟨rfl, hb8⟩
    have HB8 := hide ((unhide HB7).trans (hb8.mono (unhide HB7).size))
    clear hb8
    go_wp2_with fail
    go_ret
    exact ⟨rfl, unhide HB8⟩
  · have c1 : (1048576 : Int) < (s.size : Int) := by omega
    go_enter Try.func6, Try.ntmps6
    go_wp2_with fail
    go_ret
    exact ⟨rfl, Below.refl _ _⟩

end Go.Proofs.Ytpliknegohjepaa
