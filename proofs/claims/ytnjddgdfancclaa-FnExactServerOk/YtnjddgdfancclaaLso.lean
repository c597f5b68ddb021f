/- The walk of laws.FnExactServerOk: whatever server lies in memory it answers true; nothing that was there is written. -/
import Derived.Test.YtnjddgdfancclaaSo
import Derived.Test.YtnjddgdfancclaaSo1
import Derived.Test.YtnjddgdfancclaaSos
import Derived.Test.YtnjddgdfancclaaSoi
namespace Go.Proofs.Ytnjddgdfancclaa
open Go.RowKit Go.Deep

set_option maxRecDepth 100000 in
set_option maxHeartbeats 4000000 in
theorem lawServerOk (t u : Tm) (l : List Int) (st : Int) (h : ByteArray) (ke : Int) (ep : Int) (op : Int) (n : Int) (s : ByteArray) (a : Option Addr) (len : Nat) (cap : Nat) (oq : Int) (m : Int) (r : ByteArray) (c : Option Addr) (lem : Nat) (cat : Nat) (i : Int) (o : Int) (tl : Bool) (g : Option Addr) (gc : Nat) (w : World) (hl : Lies w 0 t (tmCells op n s a len cap)) (hu : Lies w 0 u (tmCells oq m r c lem cat)) (hi : Ints w 0 g l) (hg : l.length ≤ maxLen) (hh : h.size ≤ maxLen) :
    Calls Try.prog 3 #[.agg #[.int .i64 st, .string h, .int .i64 ke, .int .i64 ep, .int .i64 op, .int .i64 n, .string s, .slice a len cap, .int .i64 oq, .int .i64 m, .string r, .slice c lem cat, .int .i64 i, .int .i64 o, .bool tl, .slice g l.length gc]] w fun e w' => e = .returned (.bool true) ∧ Below w.heap.size w w' := by
  have h5 := hide (fun v hv hv' => szS t u l st h ke ep op n s a len cap oq m r c lem cat i o tl g gc v hv hv' hg hh)
  have hb0 := abC (w := w) (.cells #[.int .i64 st, .string h, .int .i64 ke, .int .i64 ep, .int .i64 op, .int .i64 n, .string s, .slice a len cap, .int .i64 oq, .int .i64 m, .string r, .slice c lem cat, .int .i64 i, .int .i64 o, .bool tl, .slice g l.length gc] 27)
  have HB0 := hide hb0
  have HL := hide (hl.below hb0)
  have HU := hide (hu.below hb0)
  have HI := hide (hi.on hb0)
  have HX := hide (RowS.new 27 w st h ke ep op n s a len cap oq m r c lem cat i o tl g l.length gc)
  clear hl hu hi hb0
  by_cases hw : ((h.size + (t.wt + (u.wt + l.length)) : Nat) : Int) ≤ 1048576
  · have hst : t.size ≤ 2097152 := by have := t.size_le; omega
    have hsu : u.size ≤ 2097152 := by have := u.size_le; omega
    have hsl : l.length ≤ 2097152 := by omega
    have hsl' : l.length ≤ 2097153 := by omega
    have hhz : h.size ≤ 2097152 := by omega
    have h7 := hide (fun v hv hv' hv'' => toS t u l st h ke ep op n s a len cap oq m r c lem cat i o tl g gc v hv hv' hv'' hst hsu hsl)
    have h6 := hide (fun a cap c cat g gc v hv hv' hv'' => serverS t u l st h ke ep op n s a len cap oq m r c lem cat i o tl g gc v hv hv' hv'' hst hsu hsl hhz)
    have h8 := hide (fun a cap c cat g gc v hv hv' hv'' => serverI t u l st h ke ep op n s a len cap oq m r c lem cat i o tl g gc v hv hv' hv'' hst hsu hsl hhz)
    have h9 := hide (fun a cap c cat g gc a' cap' c' cat' g' gc' v hv hv' hv'' iv iv' iv'' => eqS t u l st h ke ep op n s a len cap oq m r c lem cat i o tl g gc op n s a' len cap' oq m r c' lem cat' g' gc' v hv hv' hv'' iv iv' iv'' hsl')
    rw [szv_yes hw] at h5
    obtain ⟨left, hleft⟩ : ∃ left : Int, left = 1048576 - ((h.size + (t.wt + (u.wt + l.length)) : Nat) : Int) := ⟨_, rfl⟩
    rw [← hleft] at h5
    have hln : ¬ left < 0 := by omega
    generalize serverB st h ke ep t u i o tl l = ok at *
    have hne : (ok != ok) = false := by simp
    clear hleft hw hst hsu hsl hsl' hhz hh hg
    go_enter Try.func3, Try.ntmps3
    go_wp2_with fail
    refine (unhide h5 _ (unhide HL) (unhide HU)).mono ?_
    rintro e w2 ⟨rfl, hb2⟩
    have HB2 := hide (btC (unhide HB0) hb2)
    have HL2 := hide ((unhide HL).below hb2)
    have HU2 := hide ((unhide HU).below hb2)
    have HI2 := hide ((unhide HI).on hb2)
    have HX2 := hide ((unhide HX).below hb2)
    clear hb2 HB0 HL HU HI HX h5
    have ld2 := (unhide HX2).range
    go_wp2_with (refine wpList_load_mid rfl 27 (.tmp 1) rfl (w.heap.size) 0 rfl _ _ ld2 Try.underlying27 rfl (by rw [info16l]; rfl) ?_)
    refine (unhide h7 _ (unhide HL2) (unhide HU2) (unhide HI2)).mono ?_
    rintro e w3 ⟨a3, b3, g3, rfl, hL3, hU3, hI3, hb3⟩
    have HB3 := hide (btC (unhide HB2) hb3)
    have HL3 := hide ((unhide HL2).below hb3)
    have HU3 := hide ((unhide HU2).below hb3)
    have HI3 := hide ((unhide HI2).on hb3)
    have NL3 := hide (hL3.any (Nat.zero_le _))
    have NU3 := hide (hU3.any (Nat.zero_le _))
    have NI3 := hide (hI3.low (Nat.zero_le _))
    have HX3 := hide ((unhide HX2).below hb3)
    clear hb3 hL3 hU3 hI3 HB2 HL2 HU2 HI2 HX2
    go_wp2_with fail
    refine (unhide h6 a3 len b3 lem g3 l.length _ (unhide NL3) (unhide NU3) (unhide NI3)).mono ?_
    rintro e w4 ⟨rfl, hb4⟩
    have HB4 := hide (btC (unhide HB3) hb4)
    have HL4 := hide ((unhide HL3).below hb4)
    have HU4 := hide ((unhide HU3).below hb4)
    have HI4 := hide ((unhide HI3).on hb4)
    have HX4 := hide ((unhide HX3).below hb4)
    clear hb4 HB3 HL3 HU3 HI3 HX3 NL3 NU3 NI3
    have ld4 := (unhide HX4).range
    go_wp2_with (refine wpList_load_mid rfl 27 (.tmp 1) rfl (w.heap.size) 0 rfl _ _ ld4 Try.underlying27 rfl (by rw [info16l]; rfl) ?_)
    refine (unhide h7 _ (unhide HL4) (unhide HU4) (unhide HI4)).mono ?_
    rintro e w5 ⟨a5, b5, g5, rfl, hL5, hU5, hI5, hb5⟩
    have hbx : Below w5.heap.size w5 (w5.alloc (.cells #[.int .i64 st, .string h, .int .i64 ke, .int .i64 ep, .int .i64 op, .int .i64 n, .string s, .slice a5 len len, .int .i64 oq, .int .i64 m, .string r, .slice b5 lem lem, .int .i64 i, .int .i64 o, .bool tl, .slice g5 l.length l.length] 34)) := abC _
    have HB5 := hide (btC (btC (unhide HB4) hb5) hbx)
    have HL5 := hide (((unhide HL4).below hb5).below hbx)
    have HU5 := hide (((unhide HU4).below hb5).below hbx)
    have HI5 := hide (((unhide HI4).on hb5).on hbx)
    have NL5 := hide ((hL5.any (Nat.zero_le _)).below hbx)
    have NU5 := hide ((hU5.any (Nat.zero_le _)).below hbx)
    have NI5 := hide ((hI5.low (Nat.zero_le _)).on hbx)
    have HX5 := hide (((unhide HX4).below hb5).below hbx)
    have HY5 := hide (RowS.new 34 w5 st h ke ep op n s a5 len len oq m r b5 lem lem i o tl g5 l.length l.length)
    have le5 := (unhide HY5).range
    clear hb5 hbx hL5 hU5 hI5 HB4 HL4 HU4 HI4 HX4
    go_wp2_with (first | (refine wpList_store_new rfl (.tmp 5) (.tmp 16) rfl st h ke ep op n s a5 len len oq m r b5 lem lem i o tl g5 l.length l.length rfl rfl ?_) | (refine wpList_load_mid rfl 34 (.tmp 5) rfl (w5.heap.size) 0 rfl _ _ le5 Try.underlying34 rfl (by rw [info16]; rfl) ?_))
    refine (unhide h8 a5 len b5 lem g5 l.length _ (unhide NL5) (unhide NU5) (unhide NI5)).mono ?_
    rintro e w6 ⟨rfl, hb6⟩
    have HB6 := hide (btC (unhide HB5) hb6)
    have HL6 := hide ((unhide HL5).below hb6)
    have HU6 := hide ((unhide HU5).below hb6)
    have HI6 := hide ((unhide HI5).on hb6)
    have NL6 := hide ((unhide NL5).below hb6)
    have NU6 := hide ((unhide NU5).below hb6)
    have NI6 := hide ((unhide NI5).on hb6)
    have HX6 := hide ((unhide HX5).below hb6)
    have HY6 := hide ((unhide HY5).below hb6)
    clear hb6 HB5 HL5 HU5 HI5 NL5 NU5 NI5 HX5 HY5 h6 h8
    clear le5 ld4 ld2
    obtain ⟨c0, c1, c2, c3, c4, c5, c6, c7, c8, c9, c10, c11, c12, c13, c14, c15⟩ := (unhide HX6).facts
    obtain ⟨d0, d1, d2, d3, d4, d5, d6, d7, d8, d9, d10, d11, d12, d13, d14, d15⟩ := (unhide HY6).facts
    go_wp2_with fail
    go_region_with (first
      | (go_at_call 6
         refine (unhide h7 _ ((unhide HL6).below (Below.refl _ _).drew) ((unhide HU6).below (Below.refl _ _).drew) ((unhide HI6).on (Below.refl _ _).drew)).mono ?_
         rintro e w7 ⟨a7, b7, g7, rfl, hL7, hU7, hI7, hb7⟩
         have hb7' := below_drewC hb7
         have HB7 := hide (btC (unhide HB6) hb7')
         have NL7 := hide ((unhide NL6).below hb7')
         have NU7 := hide ((unhide NU6).below hb7')
         have NI7 := hide ((unhide NI6).on hb7')
         have ML7 := hide (hL7.any (Nat.zero_le _))
         have MU7 := hide (hU7.any (Nat.zero_le _))
         have MI7 := hide (hI7.low (Nat.zero_le _))
         obtain ⟨e0, e1, e2, e3, e4, e5, e6, e7, e8, e9, e10, e11, e12, e13, e14, e15⟩ := ((unhide HY6).below hb7').facts)
      | (go_at_call 8
         refine (unhide h9 a5 len b5 lem g5 l.length a7 len b7 lem g7 l.length _ (unhide NL7) (unhide NU7) (unhide NI7) (unhide ML7) (unhide MU7) (unhide MI7)).mono ?_
         rintro e w8 ⟨rfl, hb8⟩
         have HB8 := hide (btC (unhide HB7) hb8)))
    all_goals
      go_wp2_with fail
      go_ret
      exact ⟨rfl, unhide HB8⟩
  · rw [szv_no (by omega)] at h5
    clear hw
    go_enter Try.func3, Try.ntmps3
    go_wp2_with fail
    refine (unhide h5 _ (unhide HL) (unhide HU)).mono ?_
    rintro e w2 ⟨rfl, hb2⟩
    have HB2 := hide (btC (unhide HB0) hb2)
    clear hb2
    go_wp2_with fail
    go_ret
    exact ⟨rfl, unhide HB2⟩

end Go.Proofs.Ytnjddgdfancclaa
