/- The walk of laws.FnExactPolicyText: whatever policy lies in memory and whatever the age is it answers true; nothing that was there is written. -/
import Derived.Test.YtadfpheebpcjoaaDoorPi1
import Derived.Test.YtadfpheebpcjoaaDoorPt0
import Derived.Test.YtadfpheebpcjoaaDoorPt1
import Derived.Test.YtadfpheebpcjoaaDoorPt2
import Derived.Deep.RegionWith
namespace Go.Proofs.YtadfpheebpcjoaaDoor
open Go.RowKit Go.Deep


theorem below_drewP {w v : World} (h : Below w.drew.heap.size w.drew v) : Below w.heap.size w v := ((Below.refl _ _).drew).trans h

/-- How a policy reads, also one that is not right. -/
noncomputable def textP (l : List ByteArray) (d : ByteArray) (m u age : Int) : ByteArray := if polB l d m u = true then polT l m (if 0 ≤ age ∧ age ≤ 100000 then age else 0) else ⟨#[]⟩
theorem polB_mode {l : List ByteArray} {d : ByteArray} {m u : Int} (h : polB l d m u = true) : m = 0 ∨ m = 1 ∨ m = 2 := by
  unfold polB at h
  simp only [Bool.and_eq_true, decide_eq_true_eq] at h
  omega
theorem textS (l : List ByteArray) (d : ByteArray) (m : Int) (a : Option Addr) (cap : Nat) (u age : Int) (w : World) (hl : Txt w 0 a l) (hw : l.length + txw l ≤ 1048576) (hd : d.size ≤ 2097152) :
    Calls Tryd.prog 5 #[.agg #[.string d, .int .i64 m, .slice a l.length cap, .int .i64 u], .int .i64 age] w fun e w' => e = .returned (.string (textP l d m u age)) ∧ Below w.heap.size w w' := by
  cases hB : polB l d m u with
  | false => rw [show textP l d m u age = ⟨#[]⟩ by simp [textP, hB]]; exact textS_no l d m a cap u age w hl hw hd hB
  | true =>
    by_cases hage : 0 ≤ age ∧ age ≤ 100000
    · rw [show textP l d m u age = polT l m age by simp [textP, hB, hage]]
      rcases polB_mode hB with rfl | rfl | rfl
      · exact textS0i l d a cap u age w hl hw hd hB hage
      · exact textS1i l d a cap u age w hl hw hd hB hage
      · exact textS2i l d a cap u age w hl hw hd hB hage
    · rw [show textP l d m u age = polT l m 0 by unfold textP; rw [if_pos hB, if_neg hage]]
      rcases polB_mode hB with rfl | rfl | rfl
      · exact textS0o l d a cap u age w hl hw hd hB hage
      · exact textS1o l d a cap u age w hl hw hd hB hage
      · exact textS2o l d a cap u age w hl hw hd hB hage
theorem textI (l : List ByteArray) (d : ByteArray) (m : Int) (a : Option Addr) (cap : Nat) (u age : Int) (w : World) (hl : Txt w 0 a l) (hw : l.length + txw l ≤ 1048576) (hd : d.size ≤ 2097152) (ht : Tab w) :
    Calls Tryd.prog 7 #[.agg #[.string d, .int .i64 m, .slice a l.length cap, .int .i64 u], .int .i64 age] w fun e w' => e = .returned (.string (textP l d m u age)) ∧ Below w.heap.size w w' := by
  cases hB : polB l d m u with
  | false => rw [show textP l d m u age = ⟨#[]⟩ by simp [textP, hB]]; exact textI_no l d m a cap u age w hl hw hd hB
  | true =>
    by_cases hage : 0 ≤ age ∧ age ≤ 100000
    · rw [show textP l d m u age = polT l m age by simp [textP, hB, hage]]
      exact textI_i l d m a cap u age w hl hw hd hB hage ht
    · rw [show textP l d m u age = polT l m 0 by unfold textP; rw [if_pos hB, if_neg hage]]
      exact textI_o l d m a cap u age w hl hw hd hB hage ht

set_option maxRecDepth 100000 in
set_option maxHeartbeats 2000000 in
theorem lawPolicyText (l : List ByteArray) (d : ByteArray) (m : Int) (a : Option Addr) (cap : Nat) (u age : Int) (w : World) (hl : Txt w 0 a l) (hm : l.length ≤ maxLen) (ht : ∀ t ∈ l, t.size ≤ maxLen) (hd : d.size ≤ maxLen) (htab : Tab w) :
    Calls Tryd.prog 3 #[.agg #[.string d, .int .i64 m, .slice a l.length cap, .int .i64 u], .int .i64 age] w fun e w' => e = .returned (.bool true) ∧ Below w.heap.size w w' := by
  have hb0 := abP (w := w) (.cells #[.string d, .int .i64 m, .slice a l.length cap, .int .i64 u] 24)
  have HB0 := hide hb0
  have HX := hide (RowP.new 24 w d m a l.length cap u)
  have h5 := hide (fun v hv => szP l d m a cap u v hv hm ht hd)
  by_cases hw : ((d.size + (l.length + txw l) : Nat) : Int) ≤ 1048576
  · have hsz : l.length ≤ 2097152 := by omega
    have hdz : d.size ≤ 2097152 := by omega
    have htz : ∀ t ∈ l, t.size ≤ 2097152 := fun t hx => by
      obtain ⟨k, hk, rfl⟩ := List.mem_iff_getElem.1 hx
      have := txw_get (List.getElem?_eq_getElem hk)
      omega
    have h7 := hide (fun a cap v hv => toP l d m a cap u v hv hsz)
    have hw2 : l.length + txw l ≤ 1048576 := by omega
    have h6 := hide (fun a cap v (hv : Txt v 0 a l) => textS l d m a cap u age v hv hw2 hdz)
    have h8 := hide (fun a cap v (hv : Txt v 0 a l) htb => textI l d m a cap u age v hv hw2 hdz htb)
    have HTB := hide htab
    have h9 := hide (fun a cap a' cap' v hv hv' => eqP l d m a a' cap cap' u v hv hv' hsz)
    rw [szv_yes hw] at h5
    obtain ⟨left, hleft⟩ : ∃ left : Int, left = 1048576 - ((d.size + (l.length + txw l) : Nat) : Int) := ⟨_, rfl⟩
    rw [← hleft] at h5
    have hln : ¬ left < 0 := by omega
    have HL := hide (hl.on hb0)
    clear hl hb0 hleft hw hm ht hd hsz hdz htz hw2 htab
    generalize textP l d m u age = PT at *
    have hne : (PT.toList == PT.toList) = true := by simp
    generalize l.length = len at *
    go_enter Tryd.func3, Tryd.ntmps3
    go_wp2_with fail
    refine (unhide h5 _ (unhide HL)).mono ?_
    rintro e w2 ⟨rfl, hb2⟩
    have HB2 := hide (btP (unhide HB0) hb2)
    have HL2 := hide ((unhide HL).on hb2)
    have HX2 := hide ((unhide HX).below hb2)
    clear hb2 HB0 HL HX h5
    obtain ⟨c0, c1, c2, c3⟩ := (unhide HX2).facts
    go_wp2_with fail
    refine (unhide h7 a cap _ (unhide HL2)).mono ?_
    rintro e w3 ⟨a3, rfl, hL3, hb3⟩
    have HB3 := hide (btP (unhide HB2) hb3)
    have HL3 := hide ((unhide HL2).on hb3)
    have HN3 := hide (hL3.low (Nat.zero_le _))
    have HX3 := hide ((unhide HX2).below hb3)
    clear hb3 hL3 HB2 HL2 HX2 c0 c1 c2 c3
    obtain ⟨c0, c1, c2, c3⟩ := (unhide HX3).facts
    go_wp2_with fail
    refine (unhide h6 a3 len _ (unhide HN3)).mono ?_
    rintro e w4 ⟨rfl, hb4⟩
    have HB4 := hide (btP (unhide HB3) hb4)
    have HL4 := hide ((unhide HL3).on hb4)
    have HX4 := hide ((unhide HX3).below hb4)
    clear hb4 HB3 HL3 HX3 HN3 c0 c1 c2 c3
    obtain ⟨c0, c1, c2, c3⟩ := (unhide HX4).facts
    go_wp2_with fail
    refine (unhide h7 a cap _ (unhide HL4)).mono ?_
    rintro e w5 ⟨a5, rfl, hL5, hb5⟩
    have hbx : Below w5.heap.size w5 (w5.alloc (.cells #[.string d, .int .i64 m, .slice a5 len len, .int .i64 u] 27)) := abP _
    have HB5 := hide (btP (btP (unhide HB4) hb5) hbx)
    have HL5 := hide (((unhide HL4).on hb5).on hbx)
    have HN5 := hide ((hL5.low (Nat.zero_le _)).on hbx)
    have HX5 := hide (((unhide HX4).below hb5).below hbx)
    have HY5 := hide (RowP.new 27 w5 d m a5 len len u)
    clear hb5 hbx hL5 HB4 HL4 HX4 c0 c1 c2 c3
    go_wp2_with fail
    refine (unhide h8 a5 len _ (unhide HN5) ((unhide HTB).on (unhide HB5))).mono ?_
    rintro e w6 ⟨rfl, hb6⟩
    have HB6 := hide (btP (unhide HB5) hb6)
    have HL6 := hide ((unhide HL5).on hb6)
    have HN6 := hide ((unhide HN5).on hb6)
    have HX6 := hide ((unhide HX5).below hb6)
    have HY6 := hide ((unhide HY5).below hb6)
    clear hb6 HB5 HL5 HN5 HX5 HY5 h6 h8
    obtain ⟨c0, c1, c2, c3⟩ := (unhide HX6).facts
    obtain ⟨d0, d1, d2, d3⟩ := (unhide HY6).facts
    go_wp2_with fail
    go_region_with (first
      | (go_at_call 6
         refine (unhide h7 a cap _ ((unhide HL6).on (Below.refl _ _).drew)).mono ?_
         rintro e w7 ⟨a7, rfl, hL7, hb7⟩
         have hb7' := below_drewP hb7
         have HB7 := hide (btP (unhide HB6) hb7')
         have HN7 := hide ((unhide HN6).on hb7')
         have HM7 := hide (hL7.low (Nat.zero_le _))
         obtain ⟨e0, e1, e2, e3⟩ := ((unhide HY6).below hb7').facts)
      | (go_at_call 8
         refine (unhide h9 a5 len a7 len _ (unhide HN7) (unhide HM7)).mono ?_
         rintro e w8 ⟨rfl, hb8⟩
         have HB8 := hide (btP (unhide HB7) hb8)))
    all_goals
      go_wp2_with fail
      go_ret
      exact ⟨rfl, unhide HB8⟩
  · rw [szv_no (by omega)] at h5
    have HL := hide (hl.on hb0)
    clear hw hl hb0 hm ht hd htab
    generalize l.length = len at *
    go_enter Tryd.func3, Tryd.ntmps3
    go_wp2_with fail
    refine (unhide h5 _ (unhide HL)).mono ?_
    rintro e w2 ⟨rfl, hb2⟩
    have HB2 := hide (btP (unhide HB0) hb2)
    clear hb2
    go_wp2_with fail
    go_ret
    exact ⟨rfl, unhide HB2⟩

end Go.Proofs.YtadfpheebpcjoaaDoor
