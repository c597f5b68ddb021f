/- The walk of laws.FnExactClientOk: whatever client lies in memory it answers true; nothing that was there is written. -/
import Derived.Test.YtfeolcefgciflaaCls
import Derived.Test.YtfeolcefgciflaaCli
namespace Go.Proofs.Ytfeolcefgciflaa
open Go.RowKit Go.Deep

set_option maxRecDepth 100000 in
set_option maxHeartbeats 2000000 in
theorem lawClientOk (t : Tm) (st : Int) (h : ByteArray) (mu : Bool) (ep bo op n : Int) (s : ByteArray) (a : Option Addr) (len cap : Nat) (i o : Int) (tl pr : Bool) (w : World) (hl : Lies w 0 t (tmCells op n s a len cap)) (hh : h.size ≤ maxLen) :
    Calls Try.prog 3 #[.agg #[.int .i64 st, .string h, .bool mu, .int .i64 ep, .int .i64 bo, .int .i64 op, .int .i64 n, .string s, .slice a len cap, .int .i64 i, .int .i64 o, .bool tl, .bool pr]] w fun e w' => e = .returned (.bool true) ∧ Below w.heap.size w w' := by
  have h5 := hide (fun v hv => szK t st h mu ep bo op n s a len cap i o tl pr v hv hh)
  have hb0 := abC (w := w) (.cells #[.int .i64 st, .string h, .bool mu, .int .i64 ep, .int .i64 bo, .int .i64 op, .int .i64 n, .string s, .slice a len cap, .int .i64 i, .int .i64 o, .bool tl, .bool pr] 26)
  have HB0 := hide hb0
  have HL := hide (hl.below hb0)
  have HX := hide (RowK.new 26 w st h mu ep bo op n s a len cap i o tl pr)
  clear hl hb0
  by_cases hw : ((h.size + t.wt : Nat) : Int) ≤ 1048576
  · have hsz : t.size ≤ 2097152 := by have := t.size_le; omega
    have hhz : h.size ≤ 2097152 := by omega
    have h7 := hide (fun a cap v hv => toK t st h mu ep bo op n s a len cap i o tl pr v hv hsz)
    have h6 := hide (fun a cap v hv => clientS t st h mu ep bo op n s a len cap i o tl pr v hv hsz hhz)
    have h8 := hide (fun a cap v hv => clientI t st h mu ep bo op n s a len cap i o tl pr v hv hsz hhz)
    have h9 := hide (fun a cap a' cap' v hv hv' => eqK t st h mu ep bo op n s a len cap i o tl pr op n s a' len cap' v hv hv')
    rw [szv_yes hw] at h5
    obtain ⟨left, hleft⟩ : ∃ left : Int, left = 1048576 - ((h.size + t.wt : Nat) : Int) := ⟨_, rfl⟩
    rw [← hleft] at h5
    have hln : ¬ left < 0 := by omega
    generalize clientB st h mu ep bo t i o tl pr = ok at *
    have hne : (ok != ok) = false := by simp
    clear hleft hw hsz hhz hh
    go_enter Try.func3, Try.ntmps3
    go_wp2_with fail
    refine (unhide h5 _ (unhide HL)).mono ?_
    rintro e w2 ⟨rfl, hb2⟩
    have HB2 := hide (btC (unhide HB0) hb2)
    have HL2 := hide ((unhide HL).below hb2)
    have HX2 := hide ((unhide HX).below hb2)
    clear hb2 HB0 HL HX h5
    obtain ⟨c0, c1, c2, c3, c4, c5, c6, c7, c8, c9, c10, c11, c12⟩ := (unhide HX2).facts
    go_wp2_with fail
    refine (unhide h7 a cap _ (unhide HL2)).mono ?_
    rintro e w3 ⟨a3, rfl, hL3, hb3⟩
    have HB3 := hide (btC (unhide HB2) hb3)
    have HL3 := hide ((unhide HL2).below hb3)
    have HN3 := hide (hL3.any (Nat.zero_le _))
    have HX3 := hide ((unhide HX2).below hb3)
    clear hb3 hL3 HB2 HL2 HX2 c0 c1 c2 c3 c4 c5 c6 c7 c8 c9 c10 c11 c12
    obtain ⟨c0, c1, c2, c3, c4, c5, c6, c7, c8, c9, c10, c11, c12⟩ := (unhide HX3).facts
    go_wp2_with fail
    refine (unhide h6 a3 len _ (unhide HN3)).mono ?_
    rintro e w4 ⟨rfl, hb4⟩
    have HB4 := hide (btC (unhide HB3) hb4)
    have HL4 := hide ((unhide HL3).below hb4)
    have HX4 := hide ((unhide HX3).below hb4)
    clear hb4 HB3 HL3 HX3 HN3 c0 c1 c2 c3 c4 c5 c6 c7 c8 c9 c10 c11 c12
    obtain ⟨c0, c1, c2, c3, c4, c5, c6, c7, c8, c9, c10, c11, c12⟩ := (unhide HX4).facts
    go_wp2_with fail
    refine (unhide h7 a cap _ (unhide HL4)).mono ?_
    rintro e w5 ⟨a5, rfl, hL5, hb5⟩
    have hbx : Below w5.heap.size w5 (w5.alloc (.cells #[.int .i64 st, .string h, .bool mu, .int .i64 ep, .int .i64 bo, .int .i64 op, .int .i64 n, .string s, .slice a5 len len, .int .i64 i, .int .i64 o, .bool tl, .bool pr] 33)) := abC _
    have HB5 := hide (btC (btC (unhide HB4) hb5) hbx)
    have HL5 := hide (((unhide HL4).below hb5).below hbx)
    have HN5 := hide ((hL5.any (Nat.zero_le _)).below hbx)
    have HX5 := hide (((unhide HX4).below hb5).below hbx)
    have HY5 := hide (RowK.new 33 w5 st h mu ep bo op n s a5 len len i o tl pr)
    clear hb5 hbx hL5 HB4 HL4 HX4 c0 c1 c2 c3 c4 c5 c6 c7 c8 c9 c10 c11 c12
    go_wp2_with fail
    refine (unhide h8 a5 len _ (unhide HN5)).mono ?_
    rintro e w6 ⟨rfl, hb6⟩
    have HB6 := hide (btC (unhide HB5) hb6)
    have HL6 := hide ((unhide HL5).below hb6)
    have HN6 := hide ((unhide HN5).below hb6)
    have HX6 := hide ((unhide HX5).below hb6)
    have HY6 := hide ((unhide HY5).below hb6)
    clear hb6 HB5 HL5 HN5 HX5 HY5 h6 h8
    obtain ⟨c0, c1, c2, c3, c4, c5, c6, c7, c8, c9, c10, c11, c12⟩ := (unhide HX6).facts
    obtain ⟨d0, d1, d2, d3, d4, d5, d6, d7, d8, d9, d10, d11, d12⟩ := (unhide HY6).facts
    go_wp2_with fail
    go_region_with (first
      | (go_at_call 7
         refine (unhide h7 a cap _ ((unhide HL6).below (Below.refl _ _).drew)).mono ?_
         rintro e w7 ⟨a7, rfl, hL7, hb7⟩
         have hb7' := below_drewC hb7
         have HB7 := hide (btC (unhide HB6) hb7')
         have HN7 := hide ((unhide HN6).below hb7')
         have HM7 := hide (hL7.any (Nat.zero_le _))
         obtain ⟨e0, e1, e2, e3, e4, e5, e6, e7, e8, e9, e10, e11, e12⟩ := ((unhide HY6).below hb7').facts)
      | (go_at_call 9
         refine (unhide h9 a5 len a7 len _ (unhide HN7) (unhide HM7)).mono ?_
         rintro e w8 ⟨rfl, hb8⟩
         have HB8 := hide (btC (unhide HB7) hb8)))
    all_goals
      go_wp2_with fail
      go_ret
      exact ⟨rfl, unhide HB8⟩
  · rw [szv_no (by omega)] at h5
    clear hw
    go_enter Try.func3, Try.ntmps3
    go_wp2_with fail
    refine (unhide h5 _ (unhide HL)).mono ?_
    rintro e w2 ⟨rfl, hb2⟩
    have HB2 := hide (btC (unhide HB0) hb2)
    clear hb2
    go_wp2_with fail
    go_ret
    exact ⟨rfl, unhide HB2⟩

end Go.Proofs.Ytfeolcefgciflaa
