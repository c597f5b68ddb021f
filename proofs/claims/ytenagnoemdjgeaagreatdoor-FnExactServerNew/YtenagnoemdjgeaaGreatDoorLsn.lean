/- laws.heldTerm of a term that is marked. laws.markServer and laws.heldServer of a server whose share is zero and that has taken nothing. The walk of laws.FnExactServerNew where the server is not right. The walk of laws.FnExactServerNew where the server is right. The walk of laws.FnExactServerNew: whatever its arguments are it answers true; nothing that was there is written. -/
import Derived.Test.YtenagnoemdjgeaaGreatDoorHd
import Derived.Test.YtenagnoemdjgeaaGreatDoorMk
import Derived.Deep.MidRow
import Derived.Deep.RegionWith
import Derived.Deep.RegionHeld3
import Derived.Deep.DeepCutAuto
import Derived.Test.YtenagnoemdjgeaaGreatDoorSos
import Derived.Test.YtenagnoemdjgeaaGreatDoorLf
import Derived.Test.YtenagnoemdjgeaaGreatDoorNx
import Derived.Test.YtenagnoemdjgeaaGreatDoorSny
namespace Go.Proofs.YtenagnoemdjgeaaGreatDoor
open Go.RowKit Go.Deep

set_option maxHeartbeats 1000000 in
theorem held_markedC (T : Tm) (op n : Int) (s : ByteArray) (a : Option Addr) (len cap k : Nat) (w : World) (hl : Lies w 0 (T.marked k) (tmCells op n s a len cap)) (h1 : 1 ≤ k) (hz : k + 3 * T.size ≤ 1099511627776) :
    Calls Tryz.prog 22 #[.agg #[.int .i64 op, .int .i64 n, .string s, .slice a len cap], .int .i64 (k : Int)] w fun e w' => e = .returned (.int .i64 ((k + 3 * Tm.sizes T.kids : Nat) : Int)) ∧ Below w.heap.size w w' := by
  obtain ⟨op', n', s', ks⟩ := T
  have hh := hl
  simp only [Tm.marked, Lies, tmCells, List.cons.injEq, Value.int.injEq, Value.string.injEq, true_and] at hh
  obtain ⟨_, _, ⟨rfl, rfl, rfl, _⟩, _⟩ := hh
  simp only [Tm.size] at hz
  exact held_any op n s ks a len cap k w hl h1 (by omega)

set_option maxRecDepth 100000 in
set_option maxHeartbeats 4000000 in
theorem markI0 (k : Int) (w : World) : Calls Tryz.prog 60 #[.slice none 0 0, .int .i64 k] w fun e w' => e = .returned (.int .i64 k) ∧ w' = w := by
  go_enter Tryz.func60, Tryz.ntmps60
  go_wp2_with fail
  go_loopw [1, 5] (fun x i wr => x = .int .i64 k ∧ i = .int .i64 0 ∧ wr = w) (fun _ _ _ => 0)
  case atStart => exact ⟨rfl, rfl, rfl⟩
  case round =>
    obtain ⟨rfl, rfl, rfl⟩ := hrel
    go_wp2_with fail
    go_ret
    exact ⟨rfl, rfl⟩

set_option maxRecDepth 100000 in
set_option maxHeartbeats 4000000 in
theorem heldI0 (k : Int) (w : World) : Calls Tryz.prog 61 #[.slice none 0 0, .int .i64 k] w fun e w' => e = .returned (.int .i64 k) ∧ w' = w := by
  go_enter Tryz.func61, Tryz.ntmps61
  go_wp2_with fail
  go_loopw [1, 5] (fun x i wr => x = .int .i64 k ∧ i = .int .i64 0 ∧ wr = w) (fun _ _ _ => 0)
  case atStart => exact ⟨rfl, rfl, rfl⟩
  case round =>
    obtain ⟨rfl, rfl, rfl⟩ := hrel
    go_wp2_with fail
    go_ret
    exact ⟨rfl, rfl⟩

theorem RowS.only {ty : TypeId} {w w' : World} {b : Nat} {st : Int} {h : ByteArray} {ke : Int} {ep : Int} {op : Int} {n : Int} {s : ByteArray} {a : Option Addr} {len : Nat} {cap : Nat} {oq : Int} {m : Int} {r : ByteArray} {c : Option Addr} {lem : Nat} {cat : Nat} {i : Int} {o : Int} {tl : Bool} {g : Option Addr} {gl : Nat} {gc : Nat} {fp : List Nat} (hr : RowS ty w b st h ke ep op n s a len cap oq m r c lem cat i o tl g gl gc) (ho : Only fp w w') (hf : b ∉ fp) : RowS ty w' b st h ke ep op n s a len cap oq m r c lem cat i o tl g gl gc := (ho.block b hr.lt hf).trans hr

set_option maxRecDepth 100000 in
set_option maxHeartbeats 4000000 in
theorem markSv (t : Tm) (st : Int) (h : ByteArray) (ke ep op n : Int) (s : ByteArray) (a : Option Addr) (len cap : Nat) (w : World) (fp : List Nat) (ho : Own w t (tmCells op n s a len cap) fp) (hnd : fp.Nodup) (hz : 1 + 3 * t.size ≤ 1099511627776) :
    Calls Tryz.prog 12 #[.agg #[.int .i64 st, .string h, .int .i64 ke, .int .i64 ep, .int .i64 op, .int .i64 n, .string s, .slice a len cap, .int .i64 0, .int .i64 0, .string ⟨#[]⟩, .slice none 0 0, .int .i64 0, .int .i64 0, .bool false, .slice none 0 0], .int .i64 1] w fun e w' => e = .returned (.int .i64 ((1 + 3 * Tm.sizes t.kids : Nat) : Int)) ∧ Own w' (t.marked 1) (tmCells op n s a len cap) fp ∧ Only fp w w' := by
  have hlt := Own.lt _ _ _ ho
  have HX := hide (RowS.new 27 w st h ke ep op n s a len cap 0 0 ⟨#[]⟩ none 0 0 0 0 false none 0 0)
  have hO := ho.below (abC (.cells #[.int .i64 st, .string h, .int .i64 ke, .int .i64 ep, .int .i64 op, .int .i64 n, .string s, .slice a len cap, .int .i64 0, .int .i64 0, .string ⟨#[]⟩, .slice none 0 0, .int .i64 0, .int .i64 0, .bool false, .slice none 0 0] 27))
  have GC := hide (mark_any t op n s a len cap 1 _ fp hO hnd (Nat.le_refl _) hz)
  have HN : Hid (w.heap.size ∉ fp) := fun hx => absurd (hlt _ hx) (Nat.lt_irrefl _)
  clear hlt hO ho hnd hz
  generalize 1 + 3 * Tm.sizes t.kids = q at *
  go_enter Tryz.func12, Tryz.ntmps12
  go_wp2_with fail
  refine (unhide GC).mono ?_
  rintro e w2 ⟨rfl, hO2, o2⟩
  have HX2 := hide ((unhide HX).only o2 (unhide HN))
  have HO2 := hide hO2
  have HP2 := hide ((Only.of_below (fp := fp) (abC (.cells #[.int .i64 st, .string h, .int .i64 ke, .int .i64 ep, .int .i64 op, .int .i64 n, .string s, .slice a len cap, .int .i64 0, .int .i64 0, .string ⟨#[]⟩, .slice none 0 0, .int .i64 0, .int .i64 0, .bool false, .slice none 0 0] 27))).trans o2)
  obtain ⟨c0, c1, c2, c3, c4, c5, c6, c7, c8, c9, c10, c11, c12, c13, c14, c15⟩ := (unhide HX2).facts
  clear hO2 o2 HX GC
  go_wp2_with fail
  refine (mark_leaf 0 0 ⟨#[]⟩ none 0 q _).mono ?_
  rintro e w3 ⟨rfl, hb3⟩
  have HX3 := hide ((unhide HX2).below hb3)
  have HO3 := hide ((unhide HO2).below hb3)
  have HP3 := hide ((unhide HP2).trans (Only.of_below hb3))
  clear hb3 HX2 HO2 HP2 c0 c1 c2 c3 c4 c5 c6 c7 c8 c9 c10 c11 c12 c13 c14 c15
  obtain ⟨c0, c1, c2, c3, c4, c5, c6, c7, c8, c9, c10, c11, c12, c13, c14, c15⟩ := (unhide HX3).facts
  go_wp2_with fail
  refine (markI0 q _).mono ?_
  rintro e w4 ⟨rfl, rfl⟩
  go_wp2_with fail
  go_ret
  exact ⟨rfl, unhide HO3, unhide HP3⟩

set_option maxRecDepth 100000 in
set_option maxHeartbeats 4000000 in
theorem markSz (w : World) : Calls Tryz.prog 12 #[.agg #[.int .i64 0, .string ⟨#[]⟩, .int .i64 0, .int .i64 0, .int .i64 0, .int .i64 0, .string ⟨#[]⟩, .slice none 0 0, .int .i64 0, .int .i64 0, .string ⟨#[]⟩, .slice none 0 0, .int .i64 0, .int .i64 0, .bool false, .slice none 0 0], .int .i64 1] w fun e w' => e = .returned (.int .i64 1) ∧ Below w.heap.size w w' := by
  have HX := hide (RowS.new 27 w 0 ⟨#[]⟩ 0 0 0 0 ⟨#[]⟩ none 0 0 0 0 ⟨#[]⟩ none 0 0 0 0 false none 0 0)
  have HB0 := hide (abC (w := w) (.cells #[.int .i64 0, .string ⟨#[]⟩, .int .i64 0, .int .i64 0, .int .i64 0, .int .i64 0, .string ⟨#[]⟩, .slice none 0 0, .int .i64 0, .int .i64 0, .string ⟨#[]⟩, .slice none 0 0, .int .i64 0, .int .i64 0, .bool false, .slice none 0 0] 27))
  go_enter Tryz.func12, Tryz.ntmps12
  go_wp2_with fail
  refine (mark_leaf 0 0 ⟨#[]⟩ none 0 1 _).mono ?_
  rintro e w2 ⟨rfl, hb2⟩
  have HB2 := hide hb2
  obtain ⟨c0, c1, c2, c3, c4, c5, c6, c7, c8, c9, c10, c11, c12, c13, c14, c15⟩ := ((unhide HX).below hb2).facts
  clear hb2
  go_wp2_with fail
  refine (mark_leaf 0 0 ⟨#[]⟩ none 0 1 _).mono ?_
  rintro e w3 ⟨rfl, hb3⟩
  have HB3 := hide (btC (unhide HB2) hb3)
  clear hb3 c0 c1 c2 c3 c4 c5 c6 c7 c8 c9 c10 c11 c12 c13 c14 c15
  obtain ⟨c0, c1, c2, c3, c4, c5, c6, c7, c8, c9, c10, c11, c12, c13, c14, c15⟩ := ((unhide HX).below (unhide HB3)).facts
  go_wp2_with fail
  refine (markI0 1 _).mono ?_
  rintro e w4 ⟨rfl, rfl⟩
  go_wp2_with fail
  go_ret
  exact ⟨rfl, btC (unhide HB0) (unhide HB3)⟩

set_option maxRecDepth 100000 in
set_option maxHeartbeats 4000000 in
theorem heldSv (st : Int) (h : ByteArray) (ke ep op n : Int) (s : ByteArray) (a : Option Addr) (len cap : Nat) (q : Int) (hq0 : 0 ≤ q) (w : World)
    (gc : ∀ v, Below w.heap.size w v → Calls Tryz.prog 22 #[.agg #[.int .i64 op, .int .i64 n, .string s, .slice a len cap], .int .i64 1] v fun e w' => e = .returned (.int .i64 q) ∧ Below v.heap.size v w') :
    Calls Tryz.prog 13 #[.agg #[.int .i64 st, .string h, .int .i64 ke, .int .i64 ep, .int .i64 op, .int .i64 n, .string s, .slice a len cap, .int .i64 0, .int .i64 0, .string ⟨#[]⟩, .slice none 0 0, .int .i64 0, .int .i64 0, .bool false, .slice none 0 0], .int .i64 1] w fun e w' => e = .returned (.int .i64 q) ∧ Below w.heap.size w w' := by
  have HX := hide (RowS.new 27 w st h ke ep op n s a len cap 0 0 ⟨#[]⟩ none 0 0 0 0 false none 0 0)
  have HB0 := hide (abC (w := w) (.cells #[.int .i64 st, .string h, .int .i64 ke, .int .i64 ep, .int .i64 op, .int .i64 n, .string s, .slice a len cap, .int .i64 0, .int .i64 0, .string ⟨#[]⟩, .slice none 0 0, .int .i64 0, .int .i64 0, .bool false, .slice none 0 0] 27))
  have GC := hide (gc _ (abC (.cells #[.int .i64 st, .string h, .int .i64 ke, .int .i64 ep, .int .i64 op, .int .i64 n, .string s, .slice a len cap, .int .i64 0, .int .i64 0, .string ⟨#[]⟩, .slice none 0 0, .int .i64 0, .int .i64 0, .bool false, .slice none 0 0] 27)))
  have hn : ¬ q < 0 := by omega
  have HQ0 : Hid (0 ≤ q) := hq0
  clear gc hq0
  go_enter Tryz.func13, Tryz.ntmps13
  go_wp2_with fail
  refine (unhide GC).mono ?_
  rintro e w2 ⟨rfl, hb2⟩
  have HB2 := hide hb2
  obtain ⟨c0, c1, c2, c3, c4, c5, c6, c7, c8, c9, c10, c11, c12, c13, c14, c15⟩ := ((unhide HX).below hb2).facts
  clear hb2
  go_wp2_with fail
  refine (held_leaf 0 0 ⟨#[]⟩ none 0 q _ (unhide HQ0)).mono ?_
  rintro e w3 ⟨rfl, hb3⟩
  have HB3 := hide (btC (unhide HB2) hb3)
  clear hb3 c0 c1 c2 c3 c4 c5 c6 c7 c8 c9 c10 c11 c12 c13 c14 c15
  obtain ⟨c0, c1, c2, c3, c4, c5, c6, c7, c8, c9, c10, c11, c12, c13, c14, c15⟩ := ((unhide HX).below (unhide HB3)).facts
  go_wp2_with fail
  refine (heldI0 q _).mono ?_
  rintro e w4 ⟨rfl, rfl⟩
  go_wp2_with fail
  go_ret
  exact ⟨rfl, btC (unhide HB0) (unhide HB3)⟩

set_option maxRecDepth 100000 in
set_option maxHeartbeats 4000000 in
theorem lawNew_no (h : ByteArray) (ke ep un : Int) (hw : (Lit.int .i64 ke).wf = true) (hh : h.size ≤ 1048576) (hB : serverB 1 h ke ep (certTm h (madeT 4 [.node (atOp ke) (atN ke) ByteArray.empty []]) un) zeroT 0 0 false [] = false) (w : World) (htab : Tab w) (herr : Err w) :
    Calls Tryz.prog 3 #[.string h, .int .i64 ke, .int .i64 ep, .int .i64 un] w fun e w' => e = .returned (.bool true) ∧ Below w.heap.size w w' := by
  have HTB := hide htab
  have HER := hide herr
  have hhz : h.size ≤ 2097152 := by omega
  have gS := hide (fun v => newS_no h ke ep un hw hhz hB v)
  have gI := hide (fun v ht he => newI_no h ke ep un hw hhz hB v ht he)
  have hln : ¬ (1048576 : Int) < (h.size : Int) := by omega
  have gE := hide (fun v => eqS zeroT zeroT [] 0 ⟨#[]⟩ 0 0 0 0 ⟨#[]⟩ none 0 0 0 0 ⟨#[]⟩ none 0 0 0 0 false none 0 0 0 ⟨#[]⟩ none 0 0 0 0 ⟨#[]⟩ none 0 0 none 0 v (lies_leaf _ 0 0 ByteArray.empty (by simp) rfl rfl) (lies_leaf _ 0 0 ByteArray.empty (by simp) rfl rfl) (Ints.nil _ _ _) (lies_leaf _ 0 0 ByteArray.empty (by simp) rfl rfl) (lies_leaf _ 0 0 ByteArray.empty (by simp) rfl rfl) (Ints.nil _ _ _) (by simp))
  have gM := hide markSz
  have gH := hide (fun v => heldSv 0 ⟨#[]⟩ 0 0 0 0 ⟨#[]⟩ none 0 0 1 (by omega) v (fun x _ => held_leaf 0 0 ⟨#[]⟩ none 0 1 x (by omega)))
  simp only [List.length_nil] at gE
  clear hB hh hhz hw htab herr
  go_enter Tryz.func3, Tryz.ntmps3
  go_wp2_with fail
  refine (unhide gS _).mono ?_
  rintro e w1 ⟨rfl, hb1⟩
  have hbx := abC (w := w1) (.cells #[.int .i64 0, .string ⟨#[]⟩, .int .i64 0, .int .i64 0, .int .i64 0, .int .i64 0, .string ⟨#[]⟩, .slice none 0 0, .int .i64 0, .int .i64 0, .string ⟨#[]⟩, .slice none 0 0, .int .i64 0, .int .i64 0, .bool false, .slice none 0 0] 27)
  have HB1 := hide (btC hb1 hbx)
  have HX1 := hide (RowS.new 27 w1 0 ⟨#[]⟩ 0 0 0 0 ⟨#[]⟩ none 0 0 0 0 ⟨#[]⟩ none 0 0 0 0 false none 0 0)
  clear hb1 hbx
  go_wp2_with (refine wpList_store_new rfl (.tmp 9) (.tmp 26) rfl 0 ⟨#[]⟩ 0 0 0 0 ⟨#[]⟩ none 0 0 0 0 ⟨#[]⟩ none 0 0 0 0 false none 0 0 rfl rfl ?_)
  refine (unhide gI _ ((unhide HTB).on (unhide HB1)) ((unhide HER).on (unhide HB1))).mono ?_
  rintro e w2 ⟨rfl, hb2⟩
  have hby := abC (w := w2) (.cells #[.int .i64 0, .string ⟨#[]⟩, .int .i64 0, .int .i64 0, .int .i64 0, .int .i64 0, .string ⟨#[]⟩, .slice none 0 0, .int .i64 0, .int .i64 0, .string ⟨#[]⟩, .slice none 0 0, .int .i64 0, .int .i64 0, .bool false, .slice none 0 0] 27)
  have HB2 := hide (btC (btC (unhide HB1) hb2) hby)
  have HX2 := hide (((unhide HX1).below hb2).below hby)
  have HY2 := hide (RowS.new 27 w2 0 ⟨#[]⟩ 0 0 0 0 ⟨#[]⟩ none 0 0 0 0 ⟨#[]⟩ none 0 0 0 0 false none 0 0)
  clear hb2 hby HB1 HX1
  have rx := (unhide HX2).range
  have ry := (unhide HY2).range
  go_wp2_with (first | (refine wpList_store_new rfl (.tmp 11) (.tmp 34) rfl 0 ⟨#[]⟩ 0 0 0 0 ⟨#[]⟩ none 0 0 0 0 ⟨#[]⟩ none 0 0 0 0 false none 0 0 rfl rfl ?_) | (refine wpList_load_mid rfl 27 (.tmp 11) rfl (w2.heap.size) 0 rfl _ _ ry Tryz.underlying27 rfl (by rw [info16]; rfl) ?_) | (refine wpList_load_mid rfl 27 (.tmp 9) rfl (w1.heap.size) 0 rfl _ _ rx Tryz.underlying27 rfl (by rw [info16]; rfl) ?_))
  refine (unhide gE _).mono ?_
  rintro e w3 ⟨rfl, hb3⟩
  have HB3 := hide (btC (unhide HB2) hb3)
  have HX3 := hide ((unhide HX2).below hb3)
  have HY3 := hide ((unhide HY2).below hb3)
  clear hb3 rx ry HX2 HY2 HB2
  have ry := (unhide HY3).range
  go_wp2_with (refine wpList_load_mid rfl 27 (.tmp 11) rfl (w2.heap.size) 0 rfl _ _ ry Tryz.underlying27 rfl (by rw [info16]; rfl) ?_)
  refine (unhide gM _).mono ?_
  rintro e w4 ⟨rfl, hb4⟩
  have HB4 := hide (btC (unhide HB3) hb4)
  have HX4 := hide ((unhide HX3).below hb4)
  have HY4 := hide ((unhide HY3).below hb4)
  clear hb4 ry HX3 HY3 HB3
  have ry := (unhide HY4).range
  go_wp2_with (refine wpList_load_mid rfl 27 (.tmp 11) rfl (w2.heap.size) 0 rfl _ _ ry Tryz.underlying27 rfl (by rw [info16]; rfl) ?_)
  refine (unhide gH _).mono ?_
  rintro e w5 ⟨rfl, hb5⟩
  have HB5 := hide (btC (unhide HB4) hb5)
  have HX5 := hide ((unhide HX4).below hb5)
  have HY5 := hide ((unhide HY4).below hb5)
  clear hb5 ry HX4 HY4 HB4
  go_wp2_with fail
  refine (unhide gI _ ((unhide HTB).on (unhide HB5)) ((unhide HER).on (unhide HB5))).mono ?_
  rintro e w6 ⟨rfl, hb6⟩
  have hbz := abC (w := w6) (.cells #[.int .i64 0, .string ⟨#[]⟩, .int .i64 0, .int .i64 0, .int .i64 0, .int .i64 0, .string ⟨#[]⟩, .slice none 0 0, .int .i64 0, .int .i64 0, .string ⟨#[]⟩, .slice none 0 0, .int .i64 0, .int .i64 0, .bool false, .slice none 0 0] 27)
  have HB6 := hide (btC (btC (unhide HB5) hb6) hbz)
  have HX6 := hide (((unhide HX5).below hb6).below hbz)
  have HY6 := hide (((unhide HY5).below hb6).below hbz)
  have HZ6 := hide (RowS.new 27 w6 0 ⟨#[]⟩ 0 0 0 0 ⟨#[]⟩ none 0 0 0 0 ⟨#[]⟩ none 0 0 0 0 false none 0 0)
  clear hb6 hbz HX5 HY5 HB5
  have rx := (unhide HX6).range
  have rz := (unhide HZ6).range
  go_wp2_with (first | (refine wpList_store_new rfl (.tmp 15) (.tmp 62) rfl 0 ⟨#[]⟩ 0 0 0 0 ⟨#[]⟩ none 0 0 0 0 ⟨#[]⟩ none 0 0 0 0 false none 0 0 rfl rfl ?_) | (refine wpList_load_mid rfl 27 (.tmp 15) rfl (w6.heap.size) 0 rfl _ _ rz Tryz.underlying27 rfl (by rw [info16]; rfl) ?_) | (refine wpList_load_mid rfl 27 (.tmp 9) rfl (w1.heap.size) 0 rfl _ _ rx Tryz.underlying27 rfl (by rw [info16]; rfl) ?_))
  refine (unhide gE _).mono ?_
  rintro e w7 ⟨rfl, hb7⟩
  have HB7 := hide (btC (unhide HB6) hb7)
  have HY7 := hide ((unhide HY6).below hb7)
  clear hb7 rx rz HX6 HY6 HZ6 HB6
  have ry := (unhide HY7).range
  go_wp2_with (refine wpList_load_mid rfl 27 (.tmp 11) rfl (w2.heap.size) 0 rfl _ _ ry Tryz.underlying27 rfl (by rw [info16]; rfl) ?_)
  refine (unhide gH _).mono ?_
  rintro e w8 ⟨rfl, hb8⟩
  have HB8 := hide (btC (unhide HB7) hb8)
  clear hb8
  go_wp2_with fail
  go_ret
  exact ⟨rfl, unhide HB8⟩

set_option maxRecDepth 100000 in
set_option maxHeartbeats 4000000 in
theorem lawNew_yes (h : ByteArray) (ke ep un : Int) (hw : (Lit.int .i64 ke).wf = true) (hh : h.size ≤ 1048576) (hB : serverB 1 h ke ep (certTm h (madeT 4 [.node (atOp ke) (atN ke) ByteArray.empty []]) un) zeroT 0 0 false [] = true) (w : World) (htab : Tab w) (herr : Err w) :
    Calls Tryz.prog 3 #[.string h, .int .i64 ke, .int .i64 ep, .int .i64 un] w fun e w' => e = .returned (.bool true) ∧ Below w.heap.size w w' := by
  have HTB := hide htab
  have HER := hide herr
  have hhz : h.size ≤ 2097152 := by omega
  have gS := hide (fun v => newS_yes h ke ep un hw hhz hB v)
  have gI := hide (fun v ht he => newI_yes h ke ep un hw hhz hB v ht he)
  have hTZ := certTm_200 h (madeT 4 [.node (atOp ke) (atN ke) ByteArray.empty []]) un
  have hln : ¬ (1048576 : Int) < (h.size : Int) := by omega
  generalize (certTm h (madeT 4 [.node (atOp ke) (atN ke) ByteArray.empty []]) un) = C at *
  have HTZ : Hid (1 + 3 * C.size ≤ 1099511627776) := by show _ ≤ _; omega
  have gE := hide (fun op n s a len cap op' n' s' a' len' cap' v hv hv' => eqS C zeroT [] 1 h ke ep op n s a len cap 0 0 ⟨#[]⟩ none 0 0 0 0 false none 0 op' n' s' a' len' cap' 0 0 ⟨#[]⟩ none 0 0 none 0 v hv (lies_leaf _ 0 0 ByteArray.empty (by simp) rfl rfl) (Ints.nil _ _ _) hv' (lies_leaf _ 0 0 ByteArray.empty (by simp) rfl rfl) (Ints.nil _ _ _) (by simp))
  have gM := hide (fun op n s a len cap v fp ho hnd => markSv C 1 h ke ep op n s a len cap v fp ho hnd (unhide HTZ))
  have gH := hide (fun op n s a len cap v hv => heldSv 1 h ke ep op n s a len cap ((1 + 3 * Tm.sizes C.kids : Nat) : Int) (by omega) v (fun x hb => held_markedC C op n s a len cap 1 x (Lies.below hv hb) (Nat.le_refl _) (unhide HTZ)))
  have hmb : (1 + 3 * Tm.sizes C.kids : Nat) ≤ 4194304 := by have := size_kids C; omega
  have hq0 : ¬ (((1 + 3 * Tm.sizes C.kids : Nat) : Int) < 0) := by omega
  simp only [List.length_nil] at gE
  generalize 1 + 3 * Tm.sizes C.kids = q at *
  have hqq : ((q : Int) != (q : Int)) = false := by simp
  clear hB hh hhz hw htab herr hTZ
  go_enter Tryz.func3, Tryz.ntmps3
  go_wp2_with fail
  refine (unhide gS _).mono ?_
  rintro e w1 ⟨opW, nW, sW, aW, lenW, capW, rfl, hL1, hb1⟩
  have hbx := abC (w := w1) (.cells #[.int .i64 1, .string h, .int .i64 ke, .int .i64 ep, .int .i64 opW, .int .i64 nW, .string sW, .slice aW lenW capW, .int .i64 0, .int .i64 0, .string ⟨#[]⟩, .slice none 0 0, .int .i64 0, .int .i64 0, .bool false, .slice none 0 0] 27)
  have HB1 := hide (btC hb1 hbx)
  have HX1 := hide (RowS.new 27 w1 1 h ke ep opW nW sW aW lenW capW 0 0 ⟨#[]⟩ none 0 0 0 0 false none 0 0)
  have HW1 := hide (hL1.below hbx)
  clear hb1 hL1 hbx
  go_wp2_with (refine wpList_store_new rfl (.tmp 9) (.tmp 26) rfl 1 h ke ep opW nW sW aW lenW capW 0 0 ⟨#[]⟩ none 0 0 0 0 false none 0 0 rfl rfl ?_)
  generalize hV1 : w1.alloc (.cells #[.int .i64 1, .string h, .int .i64 ke, .int .i64 ep, .int .i64 opW, .int .i64 nW, .string sW, .slice aW lenW capW, .int .i64 0, .int .i64 0, .string ⟨#[]⟩, .slice none 0 0, .int .i64 0, .int .i64 0, .bool false, .slice none 0 0] 27) = V1 at *
  have HGW : Hid (w1.heap.size + 1 = V1.heap.size) := by show _ = _; rw [← hV1, heap_size_alloc]
  generalize w1.heap.size = bW at *
  clear hV1
  refine (unhide gI _ ((unhide HTB).on (unhide HB1)) ((unhide HER).on (unhide HB1))).mono ?_
  rintro e w2 ⟨opG, nG, sG, aG, lenG, capG, fp, rfl, hO2, ⟨hnd, hge⟩, hb2⟩
  have hby := abC (w := w2) (.cells #[.int .i64 1, .string h, .int .i64 ke, .int .i64 ep, .int .i64 opG, .int .i64 nG, .string sG, .slice aG lenG capG, .int .i64 0, .int .i64 0, .string ⟨#[]⟩, .slice none 0 0, .int .i64 0, .int .i64 0, .bool false, .slice none 0 0] 27)
  have HV2 := hide (btC hb2 hby)
  have HX2 := hide (((unhide HX1).below hb2).below hby)
  have HY2 := hide (RowS.new 27 w2 1 h ke ep opG nG sG aG lenG capG 0 0 ⟨#[]⟩ none 0 0 0 0 false none 0 0)
  have HO2 := hide (hO2.below hby)
  have HLT := hide (Own.lt _ _ _ hO2)
  have HND := hide hnd
  have HGE := hide hge
  have HSZ := hide hb2.size
  clear hb2 hO2 hnd hge hby
  have rx := (unhide HX2).range
  have ry := (unhide HY2).range
  go_wp2_with (first | (refine wpList_store_new rfl (.tmp 11) (.tmp 34) rfl 1 h ke ep opG nG sG aG lenG capG 0 0 ⟨#[]⟩ none 0 0 0 0 false none 0 0 rfl rfl ?_) | (refine wpList_load_mid rfl 27 (.tmp 11) rfl (w2.heap.size) 0 rfl _ _ ry Tryz.underlying27 rfl (by rw [info16]; rfl) ?_) | (refine wpList_load_mid rfl 27 (.tmp 9) rfl (bW) 0 rfl _ _ rx Tryz.underlying27 rfl (by rw [info16]; rfl) ?_))
  generalize hV2 : w2.alloc (.cells #[.int .i64 1, .string h, .int .i64 ke, .int .i64 ep, .int .i64 opG, .int .i64 nG, .string sG, .slice aG lenG capG, .int .i64 0, .int .i64 0, .string ⟨#[]⟩, .slice none 0 0, .int .i64 0, .int .i64 0, .bool false, .slice none 0 0] 27) = V2 at *
  generalize hbG : w2.heap.size = bG at *
  clear hV2
  refine (unhide gE opG nG sG aG lenG capG opW nW sW aW lenW capW _ (unhide HO2).lies0 ((unhide HW1).below (unhide HV2))).mono ?_
  rintro e w3 ⟨rfl, hb3⟩
  have HV3 := hide (btC (unhide HV2) hb3)
  have HX3 := hide ((unhide HX2).below hb3)
  have HY3 := hide ((unhide HY2).below hb3)
  have HO3 := hide ((unhide HO2).below hb3)
  clear hb3 rx ry HX2 HY2 HO2
  have ry := (unhide HY3).range
  go_wp2_with (refine wpList_load_mid rfl 27 (.tmp 11) rfl (bG) 0 rfl _ _ ry Tryz.underlying27 rfl (by rw [info16]; rfl) ?_)
  refine (unhide gM opG nG sG aG lenG capG _ fp (unhide HO3) (unhide HND)).mono ?_
  rintro e w4 ⟨rfl, hO4, o4⟩
  have HV4 := hide ((unhide HV3).trans (o4.below (unhide HV3).size (unhide HGE)))
  have HX4 := hide ((unhide HX3).only o4 (fun hx => by have := unhide HGE _ hx; have := unhide HGW; omega))
  have HY4 := hide ((unhide HY3).only o4 (fun hx => absurd (unhide HLT _ hx) (by omega)))
  have HM4 := hide hO4.lies0
  clear hO4 o4 ry HX3 HY3 HO3 HV3
  have ry := (unhide HY4).range
  go_wp2_with (refine wpList_load_mid rfl 27 (.tmp 11) rfl (bG) 0 rfl _ _ ry Tryz.underlying27 rfl (by rw [info16]; rfl) ?_)
  refine (unhide gH opG nG sG aG lenG capG _ (unhide HM4)).mono ?_
  rintro e w5 ⟨rfl, hb5⟩
  have HV5 := hide (btC (unhide HV4) hb5)
  have HX5 := hide ((unhide HX4).below hb5)
  have HY5 := hide ((unhide HY4).below hb5)
  have HM5 := hide ((unhide HM4).below hb5)
  clear hb5 ry HX4 HY4 HM4 HV4
  go_wp2_with fail
  refine (unhide gI _ ((unhide HTB).on (btC (unhide HB1) (unhide HV5))) ((unhide HER).on (btC (unhide HB1) (unhide HV5)))).mono ?_
  rintro e w6 ⟨opH, nH, sH, aH, lenH, capH, fp6, rfl, hO6, -, hb6⟩
  have hbz := abC (w := w6) (.cells #[.int .i64 1, .string h, .int .i64 ke, .int .i64 ep, .int .i64 opH, .int .i64 nH, .string sH, .slice aH lenH capH, .int .i64 0, .int .i64 0, .string ⟨#[]⟩, .slice none 0 0, .int .i64 0, .int .i64 0, .bool false, .slice none 0 0] 27)
  have HV6 := hide (btC (btC (unhide HV5) hb6) hbz)
  have HX6 := hide (((unhide HX5).below hb6).below hbz)
  have HY6 := hide (((unhide HY5).below hb6).below hbz)
  have HM6 := hide (((unhide HM5).below hb6).below hbz)
  have HZ6 := hide (RowS.new 27 w6 1 h ke ep opH nH sH aH lenH capH 0 0 ⟨#[]⟩ none 0 0 0 0 false none 0 0)
  have HO6 := hide (hO6.below hbz).lies0
  clear hb6 hO6 hbz HX5 HY5 HM5 HV5
  have rx := (unhide HX6).range
  have rz := (unhide HZ6).range
  go_wp2_with (first | (refine wpList_store_new rfl (.tmp 15) (.tmp 62) rfl 1 h ke ep opH nH sH aH lenH capH 0 0 ⟨#[]⟩ none 0 0 0 0 false none 0 0 rfl rfl ?_) | (refine wpList_load_mid rfl 27 (.tmp 15) rfl (w6.heap.size) 0 rfl _ _ rz Tryz.underlying27 rfl (by rw [info16]; rfl) ?_) | (refine wpList_load_mid rfl 27 (.tmp 9) rfl (bW) 0 rfl _ _ rx Tryz.underlying27 rfl (by rw [info16]; rfl) ?_))
  refine (unhide gE opH nH sH aH lenH capH opW nW sW aW lenW capW _ (unhide HO6) ((unhide HW1).below (unhide HV6))).mono ?_
  rintro e w7 ⟨rfl, hb7⟩
  have HV7 := hide (btC (unhide HV6) hb7)
  have HY7 := hide ((unhide HY6).below hb7)
  have HM7 := hide ((unhide HM6).below hb7)
  clear hb7 rx rz HX6 HY6 HM6 HZ6 HO6 HV6
  have ry := (unhide HY7).range
  go_wp2_with (refine wpList_load_mid rfl 27 (.tmp 11) rfl (bG) 0 rfl _ _ ry Tryz.underlying27 rfl (by rw [info16]; rfl) ?_)
  refine (unhide gH opG nG sG aG lenG capG _ (unhide HM7)).mono ?_
  rintro e w8 ⟨rfl, hb8⟩
  have HV8 := hide (btC (unhide HV7) hb8)
  clear hb8
  go_wp2_with fail
  go_ret
  exact ⟨rfl, btC (unhide HB1) (unhide HV8)⟩

theorem lawServerNew (h : ByteArray) (ke ep un : Int) (w : World) (hw : (Lit.int .i64 ke).wf = true) (htab : Tab w) (herr : Err w) :
    Calls Tryz.prog 3 #[.string h, .int .i64 ke, .int .i64 ep, .int .i64 un] w fun e w' => e = .returned (.bool true) ∧ Below w.heap.size w w' := by
  by_cases hs : h.size ≤ 1048576
  · cases hB : serverB 1 h ke ep (certTm h (madeT 4 [.node (atOp ke) (atN ke) ByteArray.empty []]) un) zeroT 0 0 false [] with
    | true => exact lawNew_yes h ke ep un hw hs hB w htab herr
    | false => exact lawNew_no h ke ep un hw hs hB w htab herr
  · have hln : (1048576 : Int) < (h.size : Int) := by omega
    clear hs
    go_enter Tryz.func3, Tryz.ntmps3
    go_wp2_with fail
    go_ret
    exact ⟨rfl, Below.refl _ _⟩

end Go.Proofs.YtenagnoemdjgeaaGreatDoor
