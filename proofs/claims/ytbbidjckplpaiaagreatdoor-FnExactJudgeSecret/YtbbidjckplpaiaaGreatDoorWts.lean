
/- Servers and talks: the walks of laws.szServer, toServer, eqServer, szTalk; nothing that was there is written. Talks: the walks of laws.toTalk, eqTalk; nothing that was there is written. Lists of talks: the walks of laws.szTalkS, toTalkS, eqTalkS; nothing that was there is written. -/
import Derived.Test.YtbbidjckplpaiaaGreatDoorWk
import Derived.Test.YtbbidjckplpaiaaGreatDoorSo
import Derived.Deep.MidRow
import Derived.Deep.RegionHeld3
namespace Go.Proofs.YtbbidjckplpaiaaGreatDoor
open Go.RowKit Go.Deep

theorem infoLSv : (Tryz.prog.info? 94).map (·.size) = some 16 := by kernel_rfl
theorem infoISv : (Tryz.prog.info? 115).map (·.size) = some 16 := by kernel_rfl

theorem infoLTa : (Tryz.prog.info? 96).map (·.size) = some 17 := by kernel_rfl
theorem infoITa : (Tryz.prog.info? 117).map (·.size) = some 17 := by kernel_rfl

theorem szSv (x : Sv) (cs : List Value) (l0 : Int) (w : World) (h : svAt w 0 x cs) (hl0 : 0 ≤ l0) (hl1 : l0 ≤ 1048576) :
    Calls Tryz.prog 72 #[.agg cs.toArray, .int .i64 l0] w fun e w' => e = .returned (.int .i64 (szv l0 (svw x))) ∧ Below w.heap.size w w' := by
  obtain ⟨hh, hg, op, n, s, a, len, cap, oq, m, r, c, lem, cat, g, gc, rfl, hl, hu, hi⟩ := h
  exact szS x.t x.u x.l x.st x.h x.ke x.ep op n s a len cap oq m r c lem cat x.i x.o x.tl g gc l0 w hl0 hl1 hl hu hg hh
theorem toSv (x : Sv) (cs : List Value) (w : World) (h : svAt w 0 x cs) (hz : svw x ≤ 1048576) :
    Calls Tryz.prog 84 #[.agg cs.toArray] w fun e w' => ∃ ct, e = .returned (.agg ct.toArray) ∧ svAt w' w.heap.size x ct ∧ Below w.heap.size w w' := by
  obtain ⟨hh, hg, op, n, s, a, len, cap, oq, m, r, c, lem, cat, g, gc, rfl, hl, hu, hi⟩ := h
  refine (toS x.t x.u x.l x.st x.h x.ke x.ep op n s a len cap oq m r c lem cat x.i x.o x.tl g gc w hl hu hi (by have := x.t.size_le; unfold svw at hz; omega) (by have := x.u.size_le; unfold svw at hz; omega) (by unfold svw at hz; omega)).mono ?_
  rintro e w' ⟨a', c', g', rfl, h1, h2, h3, h4⟩
  exact ⟨_, rfl, ⟨hh, hg, op, n, s, a', len, len, oq, m, r, c', lem, lem, g', x.l.length, rfl, h1, h2, h3⟩, h4⟩
theorem eqSv (x : Sv) (cs cs' : List Value) (w : World) (h : svAt w 0 x cs) (h' : svAt w 0 x cs') (hz : svw x ≤ 1048576) :
    Calls Tryz.prog 105 #[.agg cs.toArray, .agg cs'.toArray] w fun e w' => e = .returned (.bool true) ∧ Below w.heap.size w w' := by
  obtain ⟨hh, hg, op, n, s, a, len, cap, oq, m, r, c, lem, cat, g, gc, rfl, hl, hu, hi⟩ := h
  obtain ⟨-, -, op', n', s', a', len', cap', oq', m', r', c', lem', cat', g', gc', rfl, hl', hu', hi'⟩ := h'
  exact eqS x.t x.u x.l x.st x.h x.ke x.ep op n s a len cap oq m r c lem cat x.i x.o x.tl g gc op' n' s' a' len' cap' oq' m' r' c' lem' cat' g' gc' w hl hu hi hl' hu' hi' (by unfold svw at hz; omega)
def taw (x : Ta) : Nat := svw x.s

set_option maxRecDepth 100000 in
set_option maxHeartbeats 2000000 in
theorem szTa (x : Ta) (cs : List Value) (l0 : Int) (w : World) (h : taAt w 0 x cs) (hl0 : 0 ≤ l0) (hl1 : l0 ≤ 1048576) :
    Calls Tryz.prog 41 #[.agg cs.toArray, .int .i64 l0] w fun e w' => e = .returned (.int .i64 (szv l0 (taw x))) ∧ Below w.heap.size w w' := by
  obtain ⟨cc, rfl, hc⟩ := h
  have hcl := svK.len (w := w) (L := 0) (x := x.s) hc
  have hX := Box.new w 96 (.int .i64 x.k :: cc)
  have HX := hide hX
  have HL := hide (show cc.length = 16 from hcl)
  have HR := hide (show ∀ j v, cc[j]? = some v → (Value.int .i64 x.k :: cc)[1 + j]? = some v from fun j v hj => by
    rw [Nat.add_comm, List.getElem?_cons_succ]; exact hj)
  have HC := hide (szSv x.s cc l0 _ (svK.on (w := w) (L := 0) (x := x.s) hc (abG (.cells (.int .i64 x.k :: cc).toArray 96))) hl0 hl1)
  have HF := hide hl1
  clear hX hcl hc
  generalize hcs : Value.int .i64 x.k :: cc = cs at *
  have hcw : taw x = svw x.s := rfl
  rw [hcw]
  generalize svw x.s = q at *
  clear hcw hcs
  by_cases hw : (q : Int) ≤ l0
  · rw [szv_yes hw] at HC ⊢
    have hsv : ¬ l0 - (q : Int) < 0 := by omega
    go_enter Tryz.func41, Tryz.ntmps41
    go_wp2_with (refine wpList_load_box rfl _ rfl w.heap.size 1 cc (unhide HX) (unhide HR) rfl Tryz.underlying94 rfl (by rw [unhide HL]; exact infoLSv) ?_)
    refine (unhide HC).mono ?_
    rintro e w2 ⟨rfl, hb2⟩
    have HB2 := hide (btG (abG _) hb2)
    clear hb2
    go_wp2_with fail
    go_ret
    exact ⟨rfl, unhide HB2⟩
  · rw [szv_no (by omega)] at HC ⊢
    go_enter Tryz.func41, Tryz.ntmps41
    go_wp2_with (refine wpList_load_box rfl _ rfl w.heap.size 1 cc (unhide HX) (unhide HR) rfl Tryz.underlying94 rfl (by rw [unhide HL]; exact infoLSv) ?_)
    refine (unhide HC).mono ?_
    rintro e w2 ⟨rfl, hb2⟩
    have HB2 := hide (btG (abG _) hb2)
    clear hb2
    go_wp2_with fail
    go_ret
    exact ⟨rfl, unhide HB2⟩

set_option maxRecDepth 100000 in
set_option maxHeartbeats 2000000 in
theorem toTa (x : Ta) (cs : List Value) (w : World) (h : taAt w 0 x cs) (hz : taw x ≤ 1048576) :
    Calls Tryz.prog 55 #[.agg cs.toArray] w fun e w' => ∃ ct, e = .returned (.agg ct.toArray) ∧ taAt w' w.heap.size x ct ∧ Below w.heap.size w w' := by
  obtain ⟨cc, rfl, hc⟩ := h
  have hc' := hc
  obtain ⟨hh, hg, op, n, s, a, len, cap, oq, m, r, c, lem, cat, g, gc, rfl, hl⟩ := hc
  show Calls Tryz.prog 55 #[.agg #[.int .i64 x.k, .int .i64 x.s.st, .string x.s.h, .int .i64 x.s.ke, .int .i64 x.s.ep, .int .i64 op, .int .i64 n, .string s, .slice a len cap, .int .i64 oq, .int .i64 m, .string r, .slice c lem cat, .int .i64 x.s.i, .int .i64 x.s.o, .bool x.s.tl, .slice g x.s.l.length gc]] w _
  have hb0 : Below w.heap.size w (((w.alloc (.cells #[.int .i64 x.k, .int .i64 x.s.st, .string x.s.h, .int .i64 x.s.ke, .int .i64 x.s.ep, .int .i64 op, .int .i64 n, .string s, .slice a len cap, .int .i64 oq, .int .i64 m, .string r, .slice c lem cat, .int .i64 x.s.i, .int .i64 x.s.o, .bool x.s.tl, .slice g x.s.l.length gc] 96)).alloc (.cells #[.int .i64 0, .int .i64 0, .string ⟨#[]⟩, .int .i64 0, .int .i64 0, .int .i64 0, .int .i64 0, .string ⟨#[]⟩, .slice none 0 0, .int .i64 0, .int .i64 0, .string ⟨#[]⟩, .slice none 0 0, .int .i64 0, .int .i64 0, .bool false, .slice none 0 0] 117)).alloc (.cells #[.int .i64 x.k, .int .i64 0, .string ⟨#[]⟩, .int .i64 0, .int .i64 0, .int .i64 0, .int .i64 0, .string ⟨#[]⟩, .slice none 0 0, .int .i64 0, .int .i64 0, .string ⟨#[]⟩, .slice none 0 0, .int .i64 0, .int .i64 0, .bool false, .slice none 0 0] 117)) := btG (btG (abG _) (abG _)) (abG _)
  have HX : Hid (Box (((w.alloc (.cells #[.int .i64 x.k, .int .i64 x.s.st, .string x.s.h, .int .i64 x.s.ke, .int .i64 x.s.ep, .int .i64 op, .int .i64 n, .string s, .slice a len cap, .int .i64 oq, .int .i64 m, .string r, .slice c lem cat, .int .i64 x.s.i, .int .i64 x.s.o, .bool x.s.tl, .slice g x.s.l.length gc] 96)).alloc (.cells #[.int .i64 0, .int .i64 0, .string ⟨#[]⟩, .int .i64 0, .int .i64 0, .int .i64 0, .int .i64 0, .string ⟨#[]⟩, .slice none 0 0, .int .i64 0, .int .i64 0, .string ⟨#[]⟩, .slice none 0 0, .int .i64 0, .int .i64 0, .bool false, .slice none 0 0] 117)).alloc (.cells #[.int .i64 x.k, .int .i64 0, .string ⟨#[]⟩, .int .i64 0, .int .i64 0, .int .i64 0, .int .i64 0, .string ⟨#[]⟩, .slice none 0 0, .int .i64 0, .int .i64 0, .string ⟨#[]⟩, .slice none 0 0, .int .i64 0, .int .i64 0, .bool false, .slice none 0 0] 117)) w.heap.size 96 [.int .i64 x.k, .int .i64 x.s.st, .string x.s.h, .int .i64 x.s.ke, .int .i64 x.s.ep, .int .i64 op, .int .i64 n, .string s, .slice a len cap, .int .i64 oq, .int .i64 m, .string r, .slice c lem cat, .int .i64 x.s.i, .int .i64 x.s.o, .bool x.s.tl, .slice g x.s.l.length gc]) := ((Box.new w 96 [.int .i64 x.k, .int .i64 x.s.st, .string x.s.h, .int .i64 x.s.ke, .int .i64 x.s.ep, .int .i64 op, .int .i64 n, .string s, .slice a len cap, .int .i64 oq, .int .i64 m, .string r, .slice c lem cat, .int .i64 x.s.i, .int .i64 x.s.o, .bool x.s.tl, .slice g x.s.l.length gc]).on (abG (.cells #[.int .i64 0, .int .i64 0, .string ⟨#[]⟩, .int .i64 0, .int .i64 0, .int .i64 0, .int .i64 0, .string ⟨#[]⟩, .slice none 0 0, .int .i64 0, .int .i64 0, .string ⟨#[]⟩, .slice none 0 0, .int .i64 0, .int .i64 0, .bool false, .slice none 0 0] 117))).on (abG (.cells #[.int .i64 x.k, .int .i64 0, .string ⟨#[]⟩, .int .i64 0, .int .i64 0, .int .i64 0, .int .i64 0, .string ⟨#[]⟩, .slice none 0 0, .int .i64 0, .int .i64 0, .string ⟨#[]⟩, .slice none 0 0, .int .i64 0, .int .i64 0, .bool false, .slice none 0 0] 117))
  have HZ : Hid (Box (((w.alloc (.cells #[.int .i64 x.k, .int .i64 x.s.st, .string x.s.h, .int .i64 x.s.ke, .int .i64 x.s.ep, .int .i64 op, .int .i64 n, .string s, .slice a len cap, .int .i64 oq, .int .i64 m, .string r, .slice c lem cat, .int .i64 x.s.i, .int .i64 x.s.o, .bool x.s.tl, .slice g x.s.l.length gc] 96)).alloc (.cells #[.int .i64 0, .int .i64 0, .string ⟨#[]⟩, .int .i64 0, .int .i64 0, .int .i64 0, .int .i64 0, .string ⟨#[]⟩, .slice none 0 0, .int .i64 0, .int .i64 0, .string ⟨#[]⟩, .slice none 0 0, .int .i64 0, .int .i64 0, .bool false, .slice none 0 0] 117)).alloc (.cells #[.int .i64 x.k, .int .i64 0, .string ⟨#[]⟩, .int .i64 0, .int .i64 0, .int .i64 0, .int .i64 0, .string ⟨#[]⟩, .slice none 0 0, .int .i64 0, .int .i64 0, .string ⟨#[]⟩, .slice none 0 0, .int .i64 0, .int .i64 0, .bool false, .slice none 0 0] 117)) (w.heap.size + 1) 117 [.int .i64 0, .int .i64 0, .string ⟨#[]⟩, .int .i64 0, .int .i64 0, .int .i64 0, .int .i64 0, .string ⟨#[]⟩, .slice none 0 0, .int .i64 0, .int .i64 0, .string ⟨#[]⟩, .slice none 0 0, .int .i64 0, .int .i64 0, .bool false, .slice none 0 0]) := by
    have := (Box.new (w.alloc (.cells #[.int .i64 x.k, .int .i64 x.s.st, .string x.s.h, .int .i64 x.s.ke, .int .i64 x.s.ep, .int .i64 op, .int .i64 n, .string s, .slice a len cap, .int .i64 oq, .int .i64 m, .string r, .slice c lem cat, .int .i64 x.s.i, .int .i64 x.s.o, .bool x.s.tl, .slice g x.s.l.length gc] 96)) 117 [.int .i64 0, .int .i64 0, .string ⟨#[]⟩, .int .i64 0, .int .i64 0, .int .i64 0, .int .i64 0, .string ⟨#[]⟩, .slice none 0 0, .int .i64 0, .int .i64 0, .string ⟨#[]⟩, .slice none 0 0, .int .i64 0, .int .i64 0, .bool false, .slice none 0 0]).on (abG (.cells #[.int .i64 x.k, .int .i64 0, .string ⟨#[]⟩, .int .i64 0, .int .i64 0, .int .i64 0, .int .i64 0, .string ⟨#[]⟩, .slice none 0 0, .int .i64 0, .int .i64 0, .string ⟨#[]⟩, .slice none 0 0, .int .i64 0, .int .i64 0, .bool false, .slice none 0 0] 117))
    rwa [heap_size_alloc] at this
  have HO : Hid (Box (((w.alloc (.cells #[.int .i64 x.k, .int .i64 x.s.st, .string x.s.h, .int .i64 x.s.ke, .int .i64 x.s.ep, .int .i64 op, .int .i64 n, .string s, .slice a len cap, .int .i64 oq, .int .i64 m, .string r, .slice c lem cat, .int .i64 x.s.i, .int .i64 x.s.o, .bool x.s.tl, .slice g x.s.l.length gc] 96)).alloc (.cells #[.int .i64 0, .int .i64 0, .string ⟨#[]⟩, .int .i64 0, .int .i64 0, .int .i64 0, .int .i64 0, .string ⟨#[]⟩, .slice none 0 0, .int .i64 0, .int .i64 0, .string ⟨#[]⟩, .slice none 0 0, .int .i64 0, .int .i64 0, .bool false, .slice none 0 0] 117)).alloc (.cells #[.int .i64 x.k, .int .i64 0, .string ⟨#[]⟩, .int .i64 0, .int .i64 0, .int .i64 0, .int .i64 0, .string ⟨#[]⟩, .slice none 0 0, .int .i64 0, .int .i64 0, .string ⟨#[]⟩, .slice none 0 0, .int .i64 0, .int .i64 0, .bool false, .slice none 0 0] 117)) (w.heap.size + 1 + 1) 117 [.int .i64 x.k, .int .i64 0, .string ⟨#[]⟩, .int .i64 0, .int .i64 0, .int .i64 0, .int .i64 0, .string ⟨#[]⟩, .slice none 0 0, .int .i64 0, .int .i64 0, .string ⟨#[]⟩, .slice none 0 0, .int .i64 0, .int .i64 0, .bool false, .slice none 0 0]) := by
    have := Box.new ((w.alloc (.cells #[.int .i64 x.k, .int .i64 x.s.st, .string x.s.h, .int .i64 x.s.ke, .int .i64 x.s.ep, .int .i64 op, .int .i64 n, .string s, .slice a len cap, .int .i64 oq, .int .i64 m, .string r, .slice c lem cat, .int .i64 x.s.i, .int .i64 x.s.o, .bool x.s.tl, .slice g x.s.l.length gc] 96)).alloc (.cells #[.int .i64 0, .int .i64 0, .string ⟨#[]⟩, .int .i64 0, .int .i64 0, .int .i64 0, .int .i64 0, .string ⟨#[]⟩, .slice none 0 0, .int .i64 0, .int .i64 0, .string ⟨#[]⟩, .slice none 0 0, .int .i64 0, .int .i64 0, .bool false, .slice none 0 0] 117)) 117 [.int .i64 x.k, .int .i64 0, .string ⟨#[]⟩, .int .i64 0, .int .i64 0, .int .i64 0, .int .i64 0, .string ⟨#[]⟩, .slice none 0 0, .int .i64 0, .int .i64 0, .string ⟨#[]⟩, .slice none 0 0, .int .i64 0, .int .i64 0, .bool false, .slice none 0 0]
    rwa [heap_size_alloc, heap_size_alloc] at this
  have HC := hide (toSv x.s _ _ (svK.on (w := w) (L := 0) (x := x.s) hc' hb0) hz)
  have HB0 := hide hb0
  clear hb0 hc' hl hz
  go_enter Tryz.func55, Tryz.ntmps55
  go_wp2_with (refine wpList_load_box rfl _ rfl w.heap.size 1 [.int .i64 x.s.st, .string x.s.h, .int .i64 x.s.ke, .int .i64 x.s.ep, .int .i64 op, .int .i64 n, .string s, .slice a len cap, .int .i64 oq, .int .i64 m, .string r, .slice c lem cat, .int .i64 x.s.i, .int .i64 x.s.o, .bool x.s.tl, .slice g x.s.l.length gc] (unhide HX) (fun j v hj => (by rw [Nat.add_comm, List.getElem?_cons_succ]; exact hj)) rfl Tryz.underlying94 rfl infoLSv ?_)
  refine (unhide HC).mono ?_
  rintro e w2 ⟨ct, rfl, hct, hb2⟩
  have hln : ct.length = 16 := svK.len (w := w2) (L := _) (x := x.s) hct
  have hon := hide (svK.one (w := w2) (L := _) (x := x.s) hct)
  have HL := hide hln
  have hsz : w.heap.size + 3 ≤ w2.heap.size := by have := hb2.size; simpa using this
  have HCT : Hid (svAt w2 (w.heap.size + 3) x.s ct) := hide (svK.low (w := w2) (x := x.s) hct (by simp))
  have HX2 := hide ((unhide HX).on hb2)
  have HZ2 := hide ((unhide HZ).on hb2)
  have HO2 := hide ((unhide HO).on hb2)
  have HB2 := hide (btG (unhide HB0) hb2)
  clear hct hb2 hln HX HZ HO HB0 hsz HC
  have HFN : Hid ((.int .i64 x.k :: (ct ++ [])).length = 17) := by
    have hl := unhide HL
    show _ = _
    simp [hl]
  have HF1 : Hid (∀ v ∈ (.int .i64 x.k :: (ct ++ [])), v.oneCell' = true) := fun v hv => by
    simp only [List.mem_cons, List.mem_append, List.not_mem_nil, or_false] at hv
    rcases hv with rfl | hv
    · rfl
    · exact unhide hon v hv

  go_wp2_with (first
  | (refine wpList_store_box rfl _ _ rfl (w.heap.size + 1 + 1) 1 ct (unhide HO2) (by have := unhide HL; simp [this]) rfl rfl (by rw [unhide HL]; exact infoISv) (unhide hon) ?_
     intro W hW
     have HBW := hide (show Below w.heap.size w W from by rw [hW]; exact setsG (unhide HB2) (by omega))
     have HCW := hide (show svAt W (w.heap.size + 3) x.s ct from by rw [hW]; exact svK.sets (x := x.s) (unhide HCT) (by omega))
     have HXW := hide (show Box W w.heap.size 96 [.int .i64 x.k, .int .i64 x.s.st, .string x.s.h, .int .i64 x.s.ke, .int .i64 x.s.ep, .int .i64 op, .int .i64 n, .string s, .slice a len cap, .int .i64 oq, .int .i64 m, .string r, .slice c lem cat, .int .i64 x.s.i, .int .i64 x.s.o, .bool x.s.tl, .slice g x.s.l.length gc] from by rw [hW]; exact (unhide HX2).fars (by omega) _ _)
     have HZW := hide (show Box W (w.heap.size + 1) 117 [.int .i64 0, .int .i64 0, .string ⟨#[]⟩, .int .i64 0, .int .i64 0, .int .i64 0, .int .i64 0, .string ⟨#[]⟩, .slice none 0 0, .int .i64 0, .int .i64 0, .string ⟨#[]⟩, .slice none 0 0, .int .i64 0, .int .i64 0, .bool false, .slice none 0 0] from by rw [hW]; exact (unhide HZ2).fars (by omega) _ _)
     have HOW := hide (show Box W (w.heap.size + 1 + 1) 117 (.int .i64 x.k :: (ct ++ [])) from by
       rw [hW]
       have hp : puts [.int .i64 x.k, .int .i64 0, .string ⟨#[]⟩, .int .i64 0, .int .i64 0, .int .i64 0, .int .i64 0, .string ⟨#[]⟩, .slice none 0 0, .int .i64 0, .int .i64 0, .string ⟨#[]⟩, .slice none 0 0, .int .i64 0, .int .i64 0, .bool false, .slice none 0 0] 1 ct = .int .i64 x.k :: (ct ++ []) := puts_mid (a := [.int .i64 x.k]) (z := [.int .i64 0, .string ⟨#[]⟩, .int .i64 0, .int .i64 0, .int .i64 0, .int .i64 0, .string ⟨#[]⟩, .slice none 0 0, .int .i64 0, .int .i64 0, .string ⟨#[]⟩, .slice none 0 0, .int .i64 0, .int .i64 0, .bool false, .slice none 0 0]) (b := []) (unhide HL)
       rw [← hp]
       exact Box.sets ct 1 _ _ (unhide HO2))
     clear hW HX2 HZ2 HO2 HB2 HCT
     have HO3 : Hid (Box W (w.heap.size + 1 + 1) 117 (.int .i64 x.k :: (ct ++ []))) := HOW
     have HZ3 : Hid (Box W (w.heap.size + 1) 117 [.int .i64 0, .int .i64 0, .string ⟨#[]⟩, .int .i64 0, .int .i64 0, .int .i64 0, .int .i64 0, .string ⟨#[]⟩, .slice none 0 0, .int .i64 0, .int .i64 0, .string ⟨#[]⟩, .slice none 0 0, .int .i64 0, .int .i64 0, .bool false, .slice none 0 0]) := HZW
     have HB3 : Hid (Below w.heap.size w W) := HBW
     have HC3 : Hid (svAt W (w.heap.size + 3) x.s ct) := HCW
     clear HXW HOW HZW HBW HCW)
  | (refine wpList_load_box rfl _ rfl (w.heap.size + 1 + 1) 0 (.int .i64 x.k :: (ct ++ [])) (unhide HO3) (fun j v hj => (by rw [Nat.zero_add]; exact hj)) rfl Tryz.underlying117 rfl (by rw [unhide HFN]; exact infoITa) ?_)
  | (refine wpList_store_box rfl _ _ rfl (w.heap.size + 1) 0 (.int .i64 x.k :: (ct ++ [])) (unhide HZ3) (by rw [unhide HFN]; decide) rfl rfl (by rw [unhide HFN]; exact infoITa) (unhide HF1) ?_
     intro V hV
     have HZV : Hid (Box V (w.heap.size + 1) 117 (.int .i64 x.k :: (ct ++ []))) := (by
       rw [hV]
       have hp : puts [.int .i64 0, .int .i64 0, .string ⟨#[]⟩, .int .i64 0, .int .i64 0, .int .i64 0, .int .i64 0, .string ⟨#[]⟩, .slice none 0 0, .int .i64 0, .int .i64 0, .string ⟨#[]⟩, .slice none 0 0, .int .i64 0, .int .i64 0, .bool false, .slice none 0 0] 0 (.int .i64 x.k :: (ct ++ [])) = (.int .i64 x.k :: (ct ++ [])) := puts_all (by rw [unhide HFN]; rfl)
       have := Box.sets (.int .i64 x.k :: (ct ++ [])) 0 _ _ (unhide HZ3)
       rw [hp] at this
       exact this)
     have HBV : Hid (Below w.heap.size w V) := (by rw [hV]; exact setsG (unhide HB3) (by omega))
     have HCV : Hid (svAt V (w.heap.size + 3) x.s ct) := (by rw [hV]; exact svK.sets (x := x.s) (unhide HC3) (by omega))
     clear hV HO3 HZ3 HB3 HC3))
  exact bodyPost_ret (v := .agg (.int .i64 x.k :: (ct ++ [])).toArray) (results_box Tryz.results55 (unhide HZV) rfl Tryz.underlying117 rfl (by rw [unhide HFN]; exact infoITa)) rfl ⟨_, rfl, ⟨ct, by rw [List.append_nil], svK.low (x := x.s) (unhide HCV) (by omega)⟩, unhide HBV⟩

set_option maxRecDepth 100000 in
set_option maxHeartbeats 2000000 in
theorem eqTa (x : Ta) (cs cs' : List Value) (w : World) (h : taAt w 0 x cs) (h' : taAt w 0 x cs') (hz : taw x ≤ 1048576) :
    Calls Tryz.prog 69 #[.agg cs.toArray, .agg cs'.toArray] w fun e w' => e = .returned (.bool true) ∧ Below w.heap.size w w' := by
  obtain ⟨cc, rfl, hc⟩ := h
  obtain ⟨cd, rfl, hd⟩ := h'
  have hc0 := hc
  have hd0 := hd
  obtain ⟨hh, hg, op, n, s, a, len, cap, oq, m, r, c, lem, cat, g, gc, rfl, -⟩ := hc
  obtain ⟨hh', hg', op', n', s', a', len', cap', oq', m', r', c', lem', cat', g', gc', rfl, -⟩ := hd
  show Calls Tryz.prog 69 #[.agg #[.int .i64 x.k, .int .i64 x.s.st, .string x.s.h, .int .i64 x.s.ke, .int .i64 x.s.ep, .int .i64 op, .int .i64 n, .string s, .slice a len cap, .int .i64 oq, .int .i64 m, .string r, .slice c lem cat, .int .i64 x.s.i, .int .i64 x.s.o, .bool x.s.tl, .slice g x.s.l.length gc], .agg #[.int .i64 x.k, .int .i64 x.s.st, .string x.s.h, .int .i64 x.s.ke, .int .i64 x.s.ep, .int .i64 op', .int .i64 n', .string s', .slice a' len' cap', .int .i64 oq', .int .i64 m', .string r', .slice c' lem' cat', .int .i64 x.s.i, .int .i64 x.s.o, .bool x.s.tl, .slice g' x.s.l.length gc']] w _
  have hb0 : Below w.heap.size w ((w.alloc (.cells #[.int .i64 x.k, .int .i64 x.s.st, .string x.s.h, .int .i64 x.s.ke, .int .i64 x.s.ep, .int .i64 op, .int .i64 n, .string s, .slice a len cap, .int .i64 oq, .int .i64 m, .string r, .slice c lem cat, .int .i64 x.s.i, .int .i64 x.s.o, .bool x.s.tl, .slice g x.s.l.length gc] 117)).alloc (.cells #[.int .i64 x.k, .int .i64 x.s.st, .string x.s.h, .int .i64 x.s.ke, .int .i64 x.s.ep, .int .i64 op', .int .i64 n', .string s', .slice a' len' cap', .int .i64 oq', .int .i64 m', .string r', .slice c' lem' cat', .int .i64 x.s.i, .int .i64 x.s.o, .bool x.s.tl, .slice g' x.s.l.length gc'] 117)) := btG (abG _) (abG _)
  have HX : Hid (Box ((w.alloc (.cells #[.int .i64 x.k, .int .i64 x.s.st, .string x.s.h, .int .i64 x.s.ke, .int .i64 x.s.ep, .int .i64 op, .int .i64 n, .string s, .slice a len cap, .int .i64 oq, .int .i64 m, .string r, .slice c lem cat, .int .i64 x.s.i, .int .i64 x.s.o, .bool x.s.tl, .slice g x.s.l.length gc] 117)).alloc (.cells #[.int .i64 x.k, .int .i64 x.s.st, .string x.s.h, .int .i64 x.s.ke, .int .i64 x.s.ep, .int .i64 op', .int .i64 n', .string s', .slice a' len' cap', .int .i64 oq', .int .i64 m', .string r', .slice c' lem' cat', .int .i64 x.s.i, .int .i64 x.s.o, .bool x.s.tl, .slice g' x.s.l.length gc'] 117)) w.heap.size 117 [.int .i64 x.k, .int .i64 x.s.st, .string x.s.h, .int .i64 x.s.ke, .int .i64 x.s.ep, .int .i64 op, .int .i64 n, .string s, .slice a len cap, .int .i64 oq, .int .i64 m, .string r, .slice c lem cat, .int .i64 x.s.i, .int .i64 x.s.o, .bool x.s.tl, .slice g x.s.l.length gc]) := (Box.new w 117 [.int .i64 x.k, .int .i64 x.s.st, .string x.s.h, .int .i64 x.s.ke, .int .i64 x.s.ep, .int .i64 op, .int .i64 n, .string s, .slice a len cap, .int .i64 oq, .int .i64 m, .string r, .slice c lem cat, .int .i64 x.s.i, .int .i64 x.s.o, .bool x.s.tl, .slice g x.s.l.length gc]).on (abG (.cells #[.int .i64 x.k, .int .i64 x.s.st, .string x.s.h, .int .i64 x.s.ke, .int .i64 x.s.ep, .int .i64 op', .int .i64 n', .string s', .slice a' len' cap', .int .i64 oq', .int .i64 m', .string r', .slice c' lem' cat', .int .i64 x.s.i, .int .i64 x.s.o, .bool x.s.tl, .slice g' x.s.l.length gc'] 117))
  have HY : Hid (Box ((w.alloc (.cells #[.int .i64 x.k, .int .i64 x.s.st, .string x.s.h, .int .i64 x.s.ke, .int .i64 x.s.ep, .int .i64 op, .int .i64 n, .string s, .slice a len cap, .int .i64 oq, .int .i64 m, .string r, .slice c lem cat, .int .i64 x.s.i, .int .i64 x.s.o, .bool x.s.tl, .slice g x.s.l.length gc] 117)).alloc (.cells #[.int .i64 x.k, .int .i64 x.s.st, .string x.s.h, .int .i64 x.s.ke, .int .i64 x.s.ep, .int .i64 op', .int .i64 n', .string s', .slice a' len' cap', .int .i64 oq', .int .i64 m', .string r', .slice c' lem' cat', .int .i64 x.s.i, .int .i64 x.s.o, .bool x.s.tl, .slice g' x.s.l.length gc'] 117)) (w.heap.size + 1) 117 [.int .i64 x.k, .int .i64 x.s.st, .string x.s.h, .int .i64 x.s.ke, .int .i64 x.s.ep, .int .i64 op', .int .i64 n', .string s', .slice a' len' cap', .int .i64 oq', .int .i64 m', .string r', .slice c' lem' cat', .int .i64 x.s.i, .int .i64 x.s.o, .bool x.s.tl, .slice g' x.s.l.length gc']) := by
    have := Box.new (w.alloc (.cells #[.int .i64 x.k, .int .i64 x.s.st, .string x.s.h, .int .i64 x.s.ke, .int .i64 x.s.ep, .int .i64 op, .int .i64 n, .string s, .slice a len cap, .int .i64 oq, .int .i64 m, .string r, .slice c lem cat, .int .i64 x.s.i, .int .i64 x.s.o, .bool x.s.tl, .slice g x.s.l.length gc] 117)) 117 [.int .i64 x.k, .int .i64 x.s.st, .string x.s.h, .int .i64 x.s.ke, .int .i64 x.s.ep, .int .i64 op', .int .i64 n', .string s', .slice a' len' cap', .int .i64 oq', .int .i64 m', .string r', .slice c' lem' cat', .int .i64 x.s.i, .int .i64 x.s.o, .bool x.s.tl, .slice g' x.s.l.length gc']
    rwa [heap_size_alloc] at this
  have HC := hide (eqSv x.s _ _ _ (svK.on (w := w) (L := 0) (x := x.s) hc0 hb0) (svK.on (w := w) (L := 0) (x := x.s) hd0 hb0) hz)
  have HB0 := hide hb0
  clear hb0 hc0 hd0 hz
  go_enter Tryz.func69, Tryz.ntmps69
  go_wp2_with (first
  | (refine wpList_load_box rfl _ rfl w.heap.size 1 [.int .i64 x.s.st, .string x.s.h, .int .i64 x.s.ke, .int .i64 x.s.ep, .int .i64 op, .int .i64 n, .string s, .slice a len cap, .int .i64 oq, .int .i64 m, .string r, .slice c lem cat, .int .i64 x.s.i, .int .i64 x.s.o, .bool x.s.tl, .slice g x.s.l.length gc] (unhide HX) (fun j v hj => (by rw [Nat.add_comm, List.getElem?_cons_succ]; exact hj)) rfl Tryz.underlying115 rfl infoISv ?_)
  | (refine wpList_load_box rfl _ rfl (w.heap.size + 1) 1 [.int .i64 x.s.st, .string x.s.h, .int .i64 x.s.ke, .int .i64 x.s.ep, .int .i64 op', .int .i64 n', .string s', .slice a' len' cap', .int .i64 oq', .int .i64 m', .string r', .slice c' lem' cat', .int .i64 x.s.i, .int .i64 x.s.o, .bool x.s.tl, .slice g' x.s.l.length gc'] (unhide HY) (fun j v hj => (by rw [Nat.add_comm, List.getElem?_cons_succ]; exact hj)) rfl Tryz.underlying115 rfl infoISv ?_))
  refine (unhide HC).mono ?_
  rintro e w2 ⟨rfl, hb2⟩
  have c14 : w2.cell? ⟨w.heap.size, 16, none⟩ = some (_) := ((unhide HX).on hb2).cell rfl
  have d14 : w2.cell? ⟨w.heap.size + 1, 16, none⟩ = some (_) := ((unhide HY).on hb2).cell rfl
  have HB2 := hide (btG (unhide HB0) hb2)
  clear hb2

  all_goals
    go_wp2_with fail
    go_ret
    exact ⟨rfl, unhide HB2⟩

set_option maxRecDepth 100000 in
set_option maxHeartbeats 2000000 in
theorem szTas (P : List Ta) (a : Option Addr) (cap : Nat) (left : Int) (w : World) (hl : taK.Ls w 0 a P) (hm : P.length ≤ maxLen) (h0 : 0 ≤ left) (h1 : left ≤ 1048576) :
    Calls Tryz.prog 14 #[.slice a P.length cap, .int .i64 left] w fun e w' => e = .returned (.int .i64 (szv left (P.length + ws taw P))) ∧ Below w.heap.size w w' := by
  unfold maxLen at hm
  generalize hlen : P.length = len at *
  have HL : Hid (P.length = len) := hlen
  clear hlen
  have w0 : wrap64 (left - (len : Int)) = left - (len : Int) := by unfold wrap64; omega
  by_cases hlt : left - len < 0
  · have HE : Hid (szv left (len + ws taw P) = -1) := szv_no (by omega)
    go_enter Tryz.func14, Tryz.ntmps14
    go_wp2_with fail
    go_ret
    exact ⟨ret_int (unhide HE).symm, Below.refl _ _⟩
  · have HF := hide h1
    go_enter Tryz.func14, Tryz.ntmps14
    go_wp2_with fail
    go_loopw [1, 5] (fun x i wr => ∃ k : Nat, k ≤ len ∧ i = .int .i64 k ∧ (len : Int) + (ws taw (P.take k) : Int) ≤ left ∧ x = .int .i64 (left - len - (ws taw (P.take k) : Int)) ∧ Below w.heap.size w wr) (fun _ i _ => len - (intOf i).toNat)
    case atStart => exact ⟨0, Nat.zero_le _, rfl, by simp [ws]; omega, by simp [ws], Below.refl _ _⟩
    case round =>
      obtain ⟨k, hk, rfl, hle, rfl, hbr⟩ := hrel
      have HB := hide hbr
      by_cases hkl : k < len
      · have hkl' : k < P.length := by have := HL.out; omega
        obtain ⟨p, hkp⟩ : ∃ p, P[k]? = some p := ⟨_, List.getElem?_eq_getElem hkl'⟩
        obtain ⟨b, o, cs, rfl, -, hbs, HR0, HT, hcl0⟩ := (hl.on hbr).get hkp
        have HR := hide (show wr.rangeAt b (o + k * 17) cs from HR0)
        have hcl := hide (show cs.length = 17 from hcl0)
        have HW := hide (ws_take taw P hkp)
        have HA := hide (ws_take_le taw P (k + 1))
        have q2 : (k : Int) < (len : Int) := by omega
        have q3 : (0 : Int) ≤ (k : Int) := by omega
        generalize hwl : ws taw (P.take k) = wl at *
        generalize hwk : ws taw (P.take (k + 1)) = wk at *
        have w2 : wrap64 ((k : Int) + 1) = ((k + 1 : Nat) : Int) := by unfold wrap64; omega
        have Hwk : Hid (ws taw (P.take (k + 1)) = wk) := hwk
        have HC := hide (szTa p cs (left - len - wl) wr HT (by omega) (by omega))
        clear hwl hwk hkp hl hbr HR0 HT hcl0 hbs
        generalize taw p = q at *
        by_cases hw : (q : Int) ≤ left - len - wl
        · rw [szv_yes hw] at HC
          have hsv : ¬ left - len - wl - (q : Int) < 0 := by omega
          go_wp2_with (refine wpList_load_mid rfl _ _ rfl b (o + k * 17) rfl cs _ (unhide HR) Tryz.underlying96 rfl (by rw [unhide hcl]; exact infoLTa) ?_)
          refine (unhide HC).mono ?_
          rintro e w3 ⟨rfl, hb3⟩
          have HB3 := hide (btG (unhide HB) hb3)
          clear hb3
          go_wp2_with fail
          go_roundw
          case rel => exact ⟨k + 1, by omega, rfl, by have := HW.out; have := Hwk.out; omega, by have := HW.out; have := Hwk.out; rw [this]; congr 1; omega, unhide HB3⟩
          case measure => simp [intOf]; omega
        · rw [szv_no (by omega)] at HC
          go_wp2_with (refine wpList_load_mid rfl _ _ rfl b (o + k * 17) rfl cs _ (unhide HR) Tryz.underlying96 rfl (by rw [unhide hcl]; exact infoLTa) ?_)
          refine (unhide HC).mono ?_
          rintro e w3 ⟨rfl, hb3⟩
          have HB3 := hide (btG (unhide HB) hb3)
          clear hb3
          go_wp2_with fail
          go_ret
          exact ⟨ret_int (by rw [szv_no (by have := HW.out; have := HA.out; omega)]), unhide HB3⟩
      · have c2 : ¬ (k : Int) < (len : Int) := by omega
        clear hbr
        go_wp2_with fail
        go_ret
        have hkk : k = len := by omega
        exact ⟨ret_int (by rw [List.take_of_length_le (by have := HL.out; omega)] at hle ⊢; rw [szv_yes (by omega)]; omega), unhide HB⟩

theorem infoTaz : (Tryz.prog.info? 117).map (fun i => (i.zero, i.size, i.bytes)) = some (some (.agg #[.int .i64 0, .int .i64 0, .string ByteArray.empty, .int .i64 0, .int .i64 0, .int .i64 0, .int .i64 0, .string ByteArray.empty, .slice none 0 0, .int .i64 0, .int .i64 0, .string ByteArray.empty, .slice none 0 0, .int .i64 0, .int .i64 0, .bool false, .slice none 0 0]), 17, 208) := by kernel_rfl
def madeTa (n : Nat) : Array Value := madeCells #[.int .i64 0, .int .i64 0, .string ByteArray.empty, .int .i64 0, .int .i64 0, .int .i64 0, .int .i64 0, .string ByteArray.empty, .slice none 0 0, .int .i64 0, .int .i64 0, .string ByteArray.empty, .slice none 0 0, .int .i64 0, .int .i64 0, .bool false, .slice none 0 0] (n * 17)
theorem madeTa_size (n : Nat) : (madeTa n).size = n * 17 := size_madeCells _ _
theorem make_Ta (n : Nat) (hn : n ≤ 2097152) (w : World) :
    (Instr.makeSlice 38 (.int .i64 (n : Int)) (.int .i64 (n : Int))).run Tryz.prog w = .ok (.slice (some ⟨w.heap.size, 0, none⟩) n n) (w.alloc (.cells (madeTa n) 117)) := by
  obtain ⟨i, hi, hzz⟩ := Option.map_eq_some_iff.1 infoTaz
  simp only [Prod.mk.injEq] at hzz
  obtain ⟨hz, hs, hb⟩ := hzz
  have hr := run_make (P := Tryz.prog) w 38 117 i _ Tryz.underlying38 hi hz .i64 .i64 n n (by omega) (Int.le_refl _) (by rw [hb]; omega) (by omega)
  simp only [Int.toNat_natCast, hs] at hr
  exact hr

set_option maxRecDepth 100000 in
set_option maxHeartbeats 2000000 in
theorem toTas (P : List Ta) (a : Option Addr) (cap : Nat) (w : World) (hl : taK.Ls w 0 a P) (hsz : P.length + ws taw P ≤ 1048576) :
    Calls Tryz.prog 25 #[.slice a P.length cap] w fun e w' => e = .returned (.slice (some ⟨w.heap.size, 0, none⟩) P.length P.length) ∧ taK.Ls w' w.heap.size (some ⟨w.heap.size, 0, none⟩) P ∧ Below w.heap.size w w' := by
  have hln : P.length ≤ 1048576 := by omega
  have hmk := make_Ta P.length (by omega)
  have HM := hide (Kd.Mid.start taK 117 w P (madeTa P.length) (madeTa_size _))
  have HT := hide hl
  have HZ := hide hsz
  clear hl hsz
  generalize hlen : P.length = len at hmk HM hln ⊢
  have HL : Hid (P.length = len) := hlen
  clear hlen
  go_enter Tryz.func25, Tryz.ntmps25
  go_wp2_with fail
  go_loopw [4] (fun i wr => ∃ k : Nat, k ≤ len ∧ i = .int .i64 k ∧ taK.Mid 117 w P k wr) (fun i _ => len - (intOf i).toNat)
  case atStart => exact ⟨0, Nat.zero_le _, rfl, HM.out⟩
  case round =>
    obtain ⟨k, hkl, rfl, hM⟩ := hrel
    by_cases hlt : k < len
    · have hlt' : k < P.length := by have := HL.out; omega
      obtain ⟨p, hkp⟩ : ∃ p, P[k]? = some p := ⟨_, List.getElem?_eq_getElem hlt'⟩
      obtain ⟨b, o, cs, rfl, -, hbs, HR0, HT0, hcl0⟩ := ((unhide HT).on hM.below).get hkp
      have HR := hide (show wr.rangeAt b (o + k * 17) cs from HR0)
      have hcl := hide (show cs.length = 17 from hcl0)
      have HC := hide (toTa p cs wr HT0 (by have := ws_get taw hkp; have := unhide HZ; have := unhide HL; omega))
      have HS : Hid (∀ w2 ct, Below wr.heap.size wr w2 → taK.at_ w2 wr.heap.size p ct → taK.Mid 117 w P (k + 1) (w2.setCells w.heap.size (k * 17) ct)) := fun w2 ct hb hx => hM.step hb hkp hx
      have HH : Hid (∀ w2, Below wr.heap.size wr w2 → w2.there w.heap.size (k * 17) 17) := fun w2 hb => hM.there hb hlt'
      have q2 : (k : Int) < (len : Int) := by omega
      have q3 : (0 : Int) ≤ (k : Int) := by omega
      have w2 : wrap64 ((k : Int) + 1) = ((k + 1 : Nat) : Int) := by unfold wrap64; omega
      clear hM hkp HR0 HT0 hcl0 hbs
      go_wp2_with (refine wpList_load_mid rfl _ _ rfl b (o + k * 17) rfl cs _ (unhide HR) Tryz.underlying96 rfl (by rw [unhide hcl]; exact infoLTa) ?_)
      refine (unhide HC).mono ?_
      rintro e w2 ⟨ct, rfl, hx2, hb2⟩
      have hth := hide (unhide HH _ hb2)
      have HM2 := hide (unhide HS w2 ct hb2 hx2)
      have hsz : Hid (ct.toArray.size = 17) := hide (taK.arr (w := w2) (L := wr.heap.size) (x := p) hx2)
      have hall := hide (taK.all (w := w2) (L := wr.heap.size) (x := p) hx2)
      clear hb2 hx2
      go_wp2_with (refine wpList_store_mid rfl _ _ _ rfl w.heap.size (k * 17) ct.toArray rfl rfl (by rw [unhide hsz]; exact unhide hth) (by rw [unhide hsz]; exact infoITa) (unhide hall) ?_)
      go_roundw
      case rel => exact ⟨k + 1, by omega, rfl, by simpa using HM2.out⟩
      case measure => simp [intOf]; omega
    · have c2 : ¬ (k : Int) < (len : Int) := by omega
      go_wp2_with fail
      go_ret
      have hkk : k = P.length := by have := HL.out; omega
      subst hkk
      have e := HL.out
      subst e
      exact ⟨rfl, hM.ls, hM.below⟩

set_option maxRecDepth 100000 in
set_option maxHeartbeats 2000000 in
theorem eqTas (P : List Ta) (a a' : Option Addr) (c c' : Nat) (w : World) (hl : P.length + ws taw P ≤ 1048576) (h : taK.Ls w 0 a P) (h' : taK.Ls w 0 a' P) :
    Calls Tryz.prog 34 #[.slice a P.length c, .slice a' P.length c'] w fun e w' => e = .returned (.bool true) ∧ Below w.heap.size w w' := by
  have H := hide h
  have H' := hide h'
  have HZ := hide hl
  have hln : P.length ≤ 1048576 := by omega
  clear h h' hl
  generalize hlen : P.length = len at *
  have HL : Hid (P.length = len) := hlen
  clear hlen
  have hne : ((len : Int) != (len : Int)) = false := by simp
  go_enter Tryz.func34, Tryz.ntmps34
  go_wp2_with fail
  go_loopw [5] (fun n wr => ∃ k : Nat, n = .int .i64 k ∧ Below w.heap.size w wr ∧ k ≤ len) (fun n _ => len - (intOf n).toNat)
  case atStart => exact ⟨0, rfl, Below.refl _ _, by omega⟩
  case round =>
    obtain ⟨k, rfl, hb, hk⟩ := hrel
    have HB := hide hb
    by_cases hp : k < len
    · have hp' : k < P.length := by have := HL.out; omega
      obtain ⟨p, hkp⟩ : ∃ p, P[k]? = some p := ⟨_, List.getElem?_eq_getElem hp'⟩
      obtain ⟨b, o, cs, rfl, -, -, HR, HT, -⟩ := ((unhide H).on hb).get hkp
      obtain ⟨b', o', cs', rfl, -, -, HR', HT', -⟩ := ((unhide H').on hb).get hkp
      have hct := hide (fun v hv hv' => eqTa p cs cs' v hv hv' (by have := ws_get taw hkp; have := unhide HZ; have := unhide HL; omega))
      have HA := hide (taK.on HT (Below.refl _ _).drew)
      have HA' := hide (taK.on HT' (Below.refl _ _).drew)
      obtain ⟨cc, rfl, -, -, op_1, n_1, s_1, a_1, len_1, cap_1, oq_1, m_1, r_1, c_1, lem_1, cat_1, g_1, gc_1, rfl, -⟩ := HT
      obtain ⟨cc', rfl, -, -, op_2, n_2, s_2, a_2, len_2, cap_2, oq_2, m_2, r_2, c_2, lem_2, cat_2, g_2, gc_2, rfl, -⟩ := HT'

      have c0 : wr.cell? ⟨b, o + k * 17, none⟩ = some (.int .i64 p.k) := HR 0 _ rfl
      have d0 : wr.cell? ⟨b', o' + k * 17, none⟩ = some (.int .i64 p.k) := HR' 0 _ rfl
      have c1 : wr.cell? ⟨b, o + k * 17 + 1, none⟩ = some (.int .i64 p.s.st) := HR 1 _ rfl
      have d1 : wr.cell? ⟨b', o' + k * 17 + 1, none⟩ = some (.int .i64 p.s.st) := HR' 1 _ rfl
      have c2 : wr.cell? ⟨b, o + k * 17 + 2, none⟩ = some (.string p.s.h) := HR 2 _ rfl
      have d2 : wr.cell? ⟨b', o' + k * 17 + 2, none⟩ = some (.string p.s.h) := HR' 2 _ rfl
      have c3 : wr.cell? ⟨b, o + k * 17 + 3, none⟩ = some (.int .i64 p.s.ke) := HR 3 _ rfl
      have d3 : wr.cell? ⟨b', o' + k * 17 + 3, none⟩ = some (.int .i64 p.s.ke) := HR' 3 _ rfl
      have c4 : wr.cell? ⟨b, o + k * 17 + 4, none⟩ = some (.int .i64 p.s.ep) := HR 4 _ rfl
      have d4 : wr.cell? ⟨b', o' + k * 17 + 4, none⟩ = some (.int .i64 p.s.ep) := HR' 4 _ rfl
      have c5 : wr.cell? ⟨b, o + k * 17 + 5, none⟩ = some (.int .i64 op_1) := HR 5 _ rfl
      have d5 : wr.cell? ⟨b', o' + k * 17 + 5, none⟩ = some (.int .i64 op_2) := HR' 5 _ rfl
      have c6 : wr.cell? ⟨b, o + k * 17 + 6, none⟩ = some (.int .i64 n_1) := HR 6 _ rfl
      have d6 : wr.cell? ⟨b', o' + k * 17 + 6, none⟩ = some (.int .i64 n_2) := HR' 6 _ rfl
      have c7 : wr.cell? ⟨b, o + k * 17 + 7, none⟩ = some (.string s_1) := HR 7 _ rfl
      have d7 : wr.cell? ⟨b', o' + k * 17 + 7, none⟩ = some (.string s_2) := HR' 7 _ rfl
      have c8 : wr.cell? ⟨b, o + k * 17 + 8, none⟩ = some (.slice a_1 len_1 cap_1) := HR 8 _ rfl
      have d8 : wr.cell? ⟨b', o' + k * 17 + 8, none⟩ = some (.slice a_2 len_2 cap_2) := HR' 8 _ rfl
      have c9 : wr.cell? ⟨b, o + k * 17 + 9, none⟩ = some (.int .i64 oq_1) := HR 9 _ rfl
      have d9 : wr.cell? ⟨b', o' + k * 17 + 9, none⟩ = some (.int .i64 oq_2) := HR' 9 _ rfl
      have c10 : wr.cell? ⟨b, o + k * 17 + 10, none⟩ = some (.int .i64 m_1) := HR 10 _ rfl
      have d10 : wr.cell? ⟨b', o' + k * 17 + 10, none⟩ = some (.int .i64 m_2) := HR' 10 _ rfl
      have c11 : wr.cell? ⟨b, o + k * 17 + 11, none⟩ = some (.string r_1) := HR 11 _ rfl
      have d11 : wr.cell? ⟨b', o' + k * 17 + 11, none⟩ = some (.string r_2) := HR' 11 _ rfl
      have c12 : wr.cell? ⟨b, o + k * 17 + 12, none⟩ = some (.slice c_1 lem_1 cat_1) := HR 12 _ rfl
      have d12 : wr.cell? ⟨b', o' + k * 17 + 12, none⟩ = some (.slice c_2 lem_2 cat_2) := HR' 12 _ rfl
      have c13 : wr.cell? ⟨b, o + k * 17 + 13, none⟩ = some (.int .i64 p.s.i) := HR 13 _ rfl
      have d13 : wr.cell? ⟨b', o' + k * 17 + 13, none⟩ = some (.int .i64 p.s.i) := HR' 13 _ rfl
      have c14 : wr.cell? ⟨b, o + k * 17 + 14, none⟩ = some (.int .i64 p.s.o) := HR 14 _ rfl
      have d14 : wr.cell? ⟨b', o' + k * 17 + 14, none⟩ = some (.int .i64 p.s.o) := HR' 14 _ rfl
      have c15 : wr.cell? ⟨b, o + k * 17 + 15, none⟩ = some (.bool p.s.tl) := HR 15 _ rfl
      have d15 : wr.cell? ⟨b', o' + k * 17 + 15, none⟩ = some (.bool p.s.tl) := HR' 15 _ rfl
      have c16 : wr.cell? ⟨b, o + k * 17 + 16, none⟩ = some (.slice g_1 p.s.l.length gc_1) := HR 16 _ rfl
      have d16 : wr.cell? ⟨b', o' + k * 17 + 16, none⟩ = some (.slice g_2 p.s.l.length gc_2) := HR' 16 _ rfl

      have q2 : (k : Int) < (len : Int) := by omega
      have q3 : (0 : Int) ≤ (k : Int) := by omega
      have w1 : wrap64 ((k : Int) + 1) = ((k + 1 : Nat) : Int) := by unfold wrap64; omega
      clear hb hkp HR HR'
      generalize hid : taw p = qw at *
      clear hid
      go_wp2_with fail
      go_region_with (go_at_call 69; refine (unhide hct _ (unhide HA) (unhide HA')).mono ?_; rintro e w2 ⟨rfl, hb2⟩; have HB2 := hide (btG (unhide HB) (below_drewG hb2)); clear hb2)
      all_goals
        go_wp2_with fail
        go_roundw
        case rel => exact ⟨k + 1, rfl, unhide HB2, by omega⟩
        case measure => simp only [intOf]; omega
    · have c2 : ¬ (k : Int) < (len : Int) := by omega
      clear hb
      go_wp2_with fail
      go_ret
      exact ⟨rfl, unhide HB⟩

end Go.Proofs.YtbbidjckplpaiaaGreatDoor
