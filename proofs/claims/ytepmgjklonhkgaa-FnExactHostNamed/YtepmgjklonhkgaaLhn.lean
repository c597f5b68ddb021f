/- The walk of laws.FnExactHostNamed: whatever world and text lie in memory it answers true; nothing that was there is written. -/
import Derived.Test.YtepmgjklonhkgaaHnm
import Derived.Test.YtepmgjklonhkgaaWwb
import Derived.Test.YtepmgjklonhkgaaWwc
import Derived.Test.YtepmgjklonhkgaaWwd
import Derived.Deep.RegionWith
namespace Go.Proofs.Ytepmgjklonhkgaa
open Go.RowKit Go.Deep

theorem infoWL : (Try.prog.info? 30).map (·.size) = some 11 := by kernel_rfl

set_option maxRecDepth 100000 in
set_option maxHeartbeats 4000000 in
theorem lawHostNamed (X : Wd) (cs : List Value) (n : ByteArray) (w : World) (h : wdAt w 0 X cs) (hn : n.size ≤ maxLen) :
    Calls Try.prog 3 #[.agg cs.toArray, .string n] w fun e w' => e = .returned (.bool true) ∧ Below w.heap.size w w' := by
  have hn' : n.size ≤ 9223372036854775807 := by unfold maxLen at hn; omega
  have hw0 := h
  have h4 := hide (fun v hv => szWd X cs 1048576 v hv (by omega) (by omega))
  obtain ⟨-, ak, ck, ac, cc, ah, ch, al, cl, aa, ca, az, cz, ai, ci, rfl, -⟩ := h
  have hb0 := abG (w := w) (.cells #[.int .i64 X.time, .int .i64 X.fresh, .slice ak X.known.length ck, .slice ac X.cache.length cc, .slice ah X.hosts.length ch, .slice al X.letters.length cl, .string X.book, .int .i64 X.sure, .slice aa X.calls.length ca, .slice az X.talks.length cz, .slice ai X.told.length ci] 30)
  have HB0 := hide hb0
  have HW0 := hide (wdK.on (w := w) (L := 0) (x := X) hw0 hb0)
  have HX := hide (Box.new w 30 [.int .i64 X.time, .int .i64 X.fresh, .slice ak X.known.length ck, .slice ac X.cache.length cc, .slice ah X.hosts.length ch, .slice al X.letters.length cl, .string X.book, .int .i64 X.sure, .slice aa X.calls.length ca, .slice az X.talks.length cz, .slice ai X.told.length ci])
  show Calls Try.prog 3 #[.agg #[.int .i64 X.time, .int .i64 X.fresh, .slice ak X.known.length ck, .slice ac X.cache.length cc, .slice ah X.hosts.length ch, .slice al X.letters.length cl, .string X.book, .int .i64 X.sure, .slice aa X.calls.length ca, .slice az X.talks.length cz, .slice ai X.told.length ci], .string n] w _
  clear hw0 hb0 hn
  by_cases hs : (1048576 : Int) < (n.size : Int)
  · clear hn'
    go_enter Try.func3, Try.ntmps3
    go_wp2_with fail
    go_ret
    exact ⟨rfl, unhide HB0⟩
  · have hs' : (n.size : Int) ≤ 1048576 := by omega
    by_cases hw : ((ww X : Nat) : Int) ≤ 1048576
    · have hz : ww X ≤ 1048576 := by omega
      have h6 := hide (fun cs v hv => toWd X cs v hv hz)
      have h5 := hide (fun cs v hv => hnS X cs n v hv hz)
      have h7 := hide (fun cs v hv => hnI X cs n v hv hz)
      have h8 := hide (fun cs cs' v hv hv' => eqWd X cs cs' v hv hv' hz)
      rw [szv_yes hw] at h4
      obtain ⟨left, hleft⟩ : ∃ left : Int, left = 1048576 - ((ww X : Nat) : Int) := ⟨_, rfl⟩
      rw [← hleft] at h4
      have hln : ¬ left < 0 := by omega
      generalize hnm n X.hosts 0 = ok at *
      have hne : (ok != ok) = false := by simp
      clear hleft hw hz
      go_enter Try.func3, Try.ntmps3
      go_wp2_with (refine wpList_load_box rfl _ rfl w.heap.size 0 [.int .i64 X.time, .int .i64 X.fresh, .slice ak X.known.length ck, .slice ac X.cache.length cc, .slice ah X.hosts.length ch, .slice al X.letters.length cl, .string X.book, .int .i64 X.sure, .slice aa X.calls.length ca, .slice az X.talks.length cz, .slice ai X.told.length ci] (unhide HX) (fun j v hj => (by rw [Nat.zero_add]; exact hj)) rfl Try.underlying30 rfl infoWL ?_)
      refine (unhide h4 _ (unhide HW0)).mono ?_
      rintro e w2 ⟨rfl, hb2⟩
      have HB2 := hide (btG (unhide HB0) hb2)
      have HW2 := hide (wdK.on (w := _) (L := 0) (x := X) (unhide HW0) hb2)
      have HX2 := hide ((unhide HX).on hb2)
      clear hb2 HB0 HW0 HX h4
      go_wp2_with (refine wpList_load_box rfl _ rfl w.heap.size 0 [.int .i64 X.time, .int .i64 X.fresh, .slice ak X.known.length ck, .slice ac X.cache.length cc, .slice ah X.hosts.length ch, .slice al X.letters.length cl, .string X.book, .int .i64 X.sure, .slice aa X.calls.length ca, .slice az X.talks.length cz, .slice ai X.told.length ci] (unhide HX2) (fun j v hj => (by rw [Nat.zero_add]; exact hj)) rfl Try.underlying30 rfl infoWL ?_)
      refine (unhide h6 _ _ (unhide HW2)).mono ?_
      rintro e w3 ⟨c3, rfl, hx3, hb3⟩
      have HB3 := hide (btG (unhide HB2) hb3)
      have HW3 := hide (wdK.on (w := _) (L := 0) (x := X) (unhide HW2) hb3)
      have HX3 := hide ((unhide HX2).on hb3)
      have HN3 := hide (wdK.low (w := _) (x := X) hx3 (Nat.zero_le _))
      clear hb3 hx3 HB2 HW2 HX2
      go_wp2_with fail
      refine (unhide h5 _ _ (unhide HN3)).mono ?_
      rintro e w4 ⟨rfl, hb4⟩
      have HB4 := hide (btG (unhide HB3) hb4)
      have HW4 := hide (wdK.on (w := _) (L := 0) (x := X) (unhide HW3) hb4)
      have HX4 := hide ((unhide HX3).on hb4)
      clear hb4 HB3 HW3 HX3 HN3 h5
      go_wp2_with (refine wpList_load_box rfl _ rfl w.heap.size 0 [.int .i64 X.time, .int .i64 X.fresh, .slice ak X.known.length ck, .slice ac X.cache.length cc, .slice ah X.hosts.length ch, .slice al X.letters.length cl, .string X.book, .int .i64 X.sure, .slice aa X.calls.length ca, .slice az X.talks.length cz, .slice ai X.told.length ci] (unhide HX4) (fun j v hj => (by rw [Nat.zero_add]; exact hj)) rfl Try.underlying30 rfl infoWL ?_)
      refine (unhide h6 _ _ (unhide HW4)).mono ?_
      rintro e w5 ⟨c5, rfl, hx5, hb5⟩
      have HB5 := hide (btG (unhide HB4) hb5)
      have HW5 := hide (wdK.on (w := _) (L := 0) (x := X) (unhide HW4) hb5)
      have HX5 := hide ((unhide HX4).on hb5)
      have HO5 := hide (Box.new w5 40 [.int .i64 0, .int .i64 0, .slice none 0 0, .slice none 0 0, .slice none 0 0, .slice none 0 0, .string ⟨#[]⟩, .int .i64 0, .slice none 0 0, .slice none 0 0, .slice none 0 0])
      have HN5 := hide (wdK.low (w := _) (x := X) hx5 (Nat.zero_le _))
      have hl5 := hide (wdK.len (w := w5) (L := _) (x := X) hx5)
      have ho5 := hide (wdK.one (w := w5) (L := _) (x := X) hx5)
      have hsz : w.heap.size < w5.heap.size := by have := ((unhide HX4).on hb5).lt; exact this
      have HSZ := hide hsz
      clear hb5 hx5 HB4 HW4 HX4 hsz
      go_wp2_with (first
      | (refine wpList_store_box rfl _ _ rfl w5.heap.size 0 c5 (unhide HO5) (by rw [unhide hl5]; decide) rfl rfl (by rw [unhide hl5]; exact infoW) (unhide ho5) ?_
         intro V hV
         have HOV : Hid (Box V w5.heap.size 40 c5) := (by
           rw [hV]
           have hp : puts [.int .i64 0, .int .i64 0, .slice none 0 0, .slice none 0 0, .slice none 0 0, .slice none 0 0, .string ⟨#[]⟩, .int .i64 0, .slice none 0 0, .slice none 0 0, .slice none 0 0] 0 c5 = c5 := puts_all (by rw [unhide hl5]; rfl)
           have := Box.sets c5 0 _ _ (unhide HO5)
           rw [hp] at this
           exact this)
         have HVB : Hid (Below w5.heap.size w5 V) := (by rw [hV]; exact setsG (abG _) (Nat.le_refl _))
         have HXV := hide ((unhide HX5).on (unhide HVB))
         have HBV := hide (btG (unhide HB5) (unhide HVB))
         have HWV := hide (wdK.on (w := _) (L := 0) (x := X) (unhide HW5) (unhide HVB))
         have HNV := hide (wdK.on (w := _) (L := 0) (x := X) (unhide HN5) (unhide HVB))
         clear hV HO5 HB5 HW5 HX5 HN5 HVB)
      | (refine wpList_load_box rfl _ rfl w5.heap.size 0 c5 (unhide HOV) (fun j v hj => (by rw [Nat.zero_add]; exact hj)) rfl Try.underlying40 rfl (by rw [unhide hl5]; exact infoW) ?_))
      refine (unhide h7 _ _ (unhide HNV)).mono ?_
      rintro e w6 ⟨rfl, hb6⟩
      have HB6 := hide (btG (unhide HBV) hb6)
      have HW6 := hide (wdK.on (w := _) (L := 0) (x := X) (unhide HWV) hb6)
      have HX6 := hide ((unhide HXV).on hb6)
      have HO6 := hide ((unhide HOV).on hb6)
      have HN6 := hide (wdK.on (w := _) (L := 0) (x := X) (unhide HNV) hb6)
      clear hb6 HBV HWV HXV HOV HNV hl5 ho5 HSZ
      obtain ⟨g5, hg5⟩ : ∃ g : Nat, g = w5.heap.size := ⟨_, rfl⟩
      rw [← hg5] at HO6 ⊢
      clear hg5
      have hn6 : wdAt w6 0 X c5 := unhide HN6
      obtain ⟨-, ak5, ck5, ac5, cc5, ah5, ch5, al5, cl5, aa5, ca5, az5, cz5, ai5, ci5, rfl, -⟩ := hn6
      have c0 : w6.cell? ⟨w.heap.size, 0, none⟩ = some (.int .i64 X.time) := (unhide HX6).cell rfl
      have c1 : w6.cell? ⟨w.heap.size, 1, none⟩ = some (.int .i64 X.fresh) := (unhide HX6).cell rfl
      have c2 : w6.cell? ⟨w.heap.size, 2, none⟩ = some (.slice ak X.known.length ck) := (unhide HX6).cell rfl
      have c3 : w6.cell? ⟨w.heap.size, 3, none⟩ = some (.slice ac X.cache.length cc) := (unhide HX6).cell rfl
      have c4 : w6.cell? ⟨w.heap.size, 4, none⟩ = some (.slice ah X.hosts.length ch) := (unhide HX6).cell rfl
      have c5 : w6.cell? ⟨w.heap.size, 5, none⟩ = some (.slice al X.letters.length cl) := (unhide HX6).cell rfl
      have c6 : w6.cell? ⟨w.heap.size, 6, none⟩ = some (.string X.book) := (unhide HX6).cell rfl
      have c7 : w6.cell? ⟨w.heap.size, 7, none⟩ = some (.int .i64 X.sure) := (unhide HX6).cell rfl
      have c8 : w6.cell? ⟨w.heap.size, 8, none⟩ = some (.slice aa X.calls.length ca) := (unhide HX6).cell rfl
      have c9 : w6.cell? ⟨w.heap.size, 9, none⟩ = some (.slice az X.talks.length cz) := (unhide HX6).cell rfl
      have c10 : w6.cell? ⟨w.heap.size, 10, none⟩ = some (.slice ai X.told.length ci) := (unhide HX6).cell rfl
      have d0 : w6.cell? ⟨g5, 0, none⟩ = some (.int .i64 X.time) := (unhide HO6).cell rfl
      have d1 : w6.cell? ⟨g5, 1, none⟩ = some (.int .i64 X.fresh) := (unhide HO6).cell rfl
      have d2 : w6.cell? ⟨g5, 2, none⟩ = some (.slice ak5 X.known.length ck5) := (unhide HO6).cell rfl
      have d3 : w6.cell? ⟨g5, 3, none⟩ = some (.slice ac5 X.cache.length cc5) := (unhide HO6).cell rfl
      have d4 : w6.cell? ⟨g5, 4, none⟩ = some (.slice ah5 X.hosts.length ch5) := (unhide HO6).cell rfl
      have d5 : w6.cell? ⟨g5, 5, none⟩ = some (.slice al5 X.letters.length cl5) := (unhide HO6).cell rfl
      have d6 : w6.cell? ⟨g5, 6, none⟩ = some (.string X.book) := (unhide HO6).cell rfl
      have d7 : w6.cell? ⟨g5, 7, none⟩ = some (.int .i64 X.sure) := (unhide HO6).cell rfl
      have d8 : w6.cell? ⟨g5, 8, none⟩ = some (.slice aa5 X.calls.length ca5) := (unhide HO6).cell rfl
      have d9 : w6.cell? ⟨g5, 9, none⟩ = some (.slice az5 X.talks.length cz5) := (unhide HO6).cell rfl
      have d10 : w6.cell? ⟨g5, 10, none⟩ = some (.slice ai5 X.told.length ci5) := (unhide HO6).cell rfl
      go_wp2_with fail
      go_region_with (first
        | (go_at_call 6
           refine (unhide h6 _ _ (wdK.on (w := _) (L := 0) (x := X) (unhide HW6) (Below.refl _ _).drew)).mono ?_
           rintro e w7 ⟨c7, rfl, hx7, hb7⟩
           have hb7' := below_drewG hb7
           have HB7 := hide (btG (unhide HB6) hb7')
           have HN7 := hide (wdK.on (w := _) (L := 0) (x := X) (unhide HN6) hb7')
           have HM7 := hide (wdK.low (w := _) (x := X) hx7 (Nat.zero_le _))
           have HO7 := hide ((unhide HO6).on hb7')
           have e0 : w7.cell? ⟨g5, 0, none⟩ = some (.int .i64 X.time) := (unhide HO7).cell rfl
           have e1 : w7.cell? ⟨g5, 1, none⟩ = some (.int .i64 X.fresh) := (unhide HO7).cell rfl
           have e2 : w7.cell? ⟨g5, 2, none⟩ = some (.slice ak5 X.known.length ck5) := (unhide HO7).cell rfl
           have e3 : w7.cell? ⟨g5, 3, none⟩ = some (.slice ac5 X.cache.length cc5) := (unhide HO7).cell rfl
           have e4 : w7.cell? ⟨g5, 4, none⟩ = some (.slice ah5 X.hosts.length ch5) := (unhide HO7).cell rfl
           have e5 : w7.cell? ⟨g5, 5, none⟩ = some (.slice al5 X.letters.length cl5) := (unhide HO7).cell rfl
           have e6 : w7.cell? ⟨g5, 6, none⟩ = some (.string X.book) := (unhide HO7).cell rfl
           have e7 : w7.cell? ⟨g5, 7, none⟩ = some (.int .i64 X.sure) := (unhide HO7).cell rfl
           have e8 : w7.cell? ⟨g5, 8, none⟩ = some (.slice aa5 X.calls.length ca5) := (unhide HO7).cell rfl
           have e9 : w7.cell? ⟨g5, 9, none⟩ = some (.slice az5 X.talks.length cz5) := (unhide HO7).cell rfl
           have e10 : w7.cell? ⟨g5, 10, none⟩ = some (.slice ai5 X.told.length ci5) := (unhide HO7).cell rfl
           clear hx7 hb7 hb7')
        | (go_at_call 8
           refine (unhide h8 _ _ _ (unhide HN7) (unhide HM7)).mono ?_
           rintro e w8 ⟨rfl, hb8⟩
           have HB8 := hide (btG (unhide HB7) hb8)))
      all_goals
        go_wp2_with fail
        go_ret
        exact ⟨rfl, unhide HB8⟩
    · rw [szv_no (by omega)] at h4
      clear hw
      go_enter Try.func3, Try.ntmps3
      go_wp2_with (refine wpList_load_box rfl _ rfl w.heap.size 0 [.int .i64 X.time, .int .i64 X.fresh, .slice ak X.known.length ck, .slice ac X.cache.length cc, .slice ah X.hosts.length ch, .slice al X.letters.length cl, .string X.book, .int .i64 X.sure, .slice aa X.calls.length ca, .slice az X.talks.length cz, .slice ai X.told.length ci] (unhide HX) (fun j v hj => (by rw [Nat.zero_add]; exact hj)) rfl Try.underlying30 rfl infoWL ?_)
      refine (unhide h4 _ (unhide HW0)).mono ?_
      rintro e w2 ⟨rfl, hb2⟩
      have HB2 := hide (btG (unhide HB0) hb2)
      clear hb2
      go_wp2_with fail
      go_ret
      exact ⟨rfl, unhide HB2⟩

end Go.Proofs.Ytepmgjklonhkgaa
