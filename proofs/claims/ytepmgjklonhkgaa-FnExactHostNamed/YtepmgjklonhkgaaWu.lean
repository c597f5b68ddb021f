/- Talks: the walks of laws.toTalk, eqTalk; nothing that was there is written. -/
import Derived.Test.YtepmgjklonhkgaaWt
import Derived.Deep.MidRow
import Derived.Deep.RegionHeld3
namespace Go.Proofs.Ytepmgjklonhkgaa
open Go.RowKit Go.Deep

set_option maxRecDepth 100000 in
set_option maxHeartbeats 2000000 in
theorem toTa (x : Ta) (cs : List Value) (w : World) (h : taAt w 0 x cs) (hz : taw x ≤ 1048576) :
    Calls Try.prog 42 #[.agg cs.toArray] w fun e w' => ∃ ct, e = .returned (.agg ct.toArray) ∧ taAt w' w.heap.size x ct ∧ Below w.heap.size w w' := by
  obtain ⟨cc, rfl, hc⟩ := h
  have hc' := hc
  obtain ⟨hh, hg, op, n, s, a, len, cap, oq, m, r, c, lem, cat, g, gc, rfl, hl⟩ := hc
  show Calls Try.prog 42 #[.agg #[.int .i64 x.k, .int .i64 x.s.st, .string x.s.h, .int .i64 x.s.ke, .int .i64 x.s.ep, .int .i64 op, .int .i64 n, .string s, .slice a len cap, .int .i64 oq, .int .i64 m, .string r, .slice c lem cat, .int .i64 x.s.i, .int .i64 x.s.o, .bool x.s.tl, .slice g x.s.l.length gc]] w _
  have hb0 : Below w.heap.size w (((w.alloc (.cells #[.int .i64 x.k, .int .i64 x.s.st, .string x.s.h, .int .i64 x.s.ke, .int .i64 x.s.ep, .int .i64 op, .int .i64 n, .string s, .slice a len cap, .int .i64 oq, .int .i64 m, .string r, .slice c lem cat, .int .i64 x.s.i, .int .i64 x.s.o, .bool x.s.tl, .slice g x.s.l.length gc] 89)).alloc (.cells #[.int .i64 0, .int .i64 0, .string ⟨#[]⟩, .int .i64 0, .int .i64 0, .int .i64 0, .int .i64 0, .string ⟨#[]⟩, .slice none 0 0, .int .i64 0, .int .i64 0, .string ⟨#[]⟩, .slice none 0 0, .int .i64 0, .int .i64 0, .bool false, .slice none 0 0] 106)).alloc (.cells #[.int .i64 x.k, .int .i64 0, .string ⟨#[]⟩, .int .i64 0, .int .i64 0, .int .i64 0, .int .i64 0, .string ⟨#[]⟩, .slice none 0 0, .int .i64 0, .int .i64 0, .string ⟨#[]⟩, .slice none 0 0, .int .i64 0, .int .i64 0, .bool false, .slice none 0 0] 106)) := btG (btG (abG _) (abG _)) (abG _)
  have HX : Hid (Box (((w.alloc (.cells #[.int .i64 x.k, .int .i64 x.s.st, .string x.s.h, .int .i64 x.s.ke, .int .i64 x.s.ep, .int .i64 op, .int .i64 n, .string s, .slice a len cap, .int .i64 oq, .int .i64 m, .string r, .slice c lem cat, .int .i64 x.s.i, .int .i64 x.s.o, .bool x.s.tl, .slice g x.s.l.length gc] 89)).alloc (.cells #[.int .i64 0, .int .i64 0, .string ⟨#[]⟩, .int .i64 0, .int .i64 0, .int .i64 0, .int .i64 0, .string ⟨#[]⟩, .slice none 0 0, .int .i64 0, .int .i64 0, .string ⟨#[]⟩, .slice none 0 0, .int .i64 0, .int .i64 0, .bool false, .slice none 0 0] 106)).alloc (.cells #[.int .i64 x.k, .int .i64 0, .string ⟨#[]⟩, .int .i64 0, .int .i64 0, .int .i64 0, .int .i64 0, .string ⟨#[]⟩, .slice none 0 0, .int .i64 0, .int .i64 0, .string ⟨#[]⟩, .slice none 0 0, .int .i64 0, .int .i64 0, .bool false, .slice none 0 0] 106)) w.heap.size 89 [.int .i64 x.k, .int .i64 x.s.st, .string x.s.h, .int .i64 x.s.ke, .int .i64 x.s.ep, .int .i64 op, .int .i64 n, .string s, .slice a len cap, .int .i64 oq, .int .i64 m, .string r, .slice c lem cat, .int .i64 x.s.i, .int .i64 x.s.o, .bool x.s.tl, .slice g x.s.l.length gc]) := ((Box.new w 89 [.int .i64 x.k, .int .i64 x.s.st, .string x.s.h, .int .i64 x.s.ke, .int .i64 x.s.ep, .int .i64 op, .int .i64 n, .string s, .slice a len cap, .int .i64 oq, .int .i64 m, .string r, .slice c lem cat, .int .i64 x.s.i, .int .i64 x.s.o, .bool x.s.tl, .slice g x.s.l.length gc]).on (abG (.cells #[.int .i64 0, .int .i64 0, .string ⟨#[]⟩, .int .i64 0, .int .i64 0, .int .i64 0, .int .i64 0, .string ⟨#[]⟩, .slice none 0 0, .int .i64 0, .int .i64 0, .string ⟨#[]⟩, .slice none 0 0, .int .i64 0, .int .i64 0, .bool false, .slice none 0 0] 106))).on (abG (.cells #[.int .i64 x.k, .int .i64 0, .string ⟨#[]⟩, .int .i64 0, .int .i64 0, .int .i64 0, .int .i64 0, .string ⟨#[]⟩, .slice none 0 0, .int .i64 0, .int .i64 0, .string ⟨#[]⟩, .slice none 0 0, .int .i64 0, .int .i64 0, .bool false, .slice none 0 0] 106))
  have HZ : Hid (Box (((w.alloc (.cells #[.int .i64 x.k, .int .i64 x.s.st, .string x.s.h, .int .i64 x.s.ke, .int .i64 x.s.ep, .int .i64 op, .int .i64 n, .string s, .slice a len cap, .int .i64 oq, .int .i64 m, .string r, .slice c lem cat, .int .i64 x.s.i, .int .i64 x.s.o, .bool x.s.tl, .slice g x.s.l.length gc] 89)).alloc (.cells #[.int .i64 0, .int .i64 0, .string ⟨#[]⟩, .int .i64 0, .int .i64 0, .int .i64 0, .int .i64 0, .string ⟨#[]⟩, .slice none 0 0, .int .i64 0, .int .i64 0, .string ⟨#[]⟩, .slice none 0 0, .int .i64 0, .int .i64 0, .bool false, .slice none 0 0] 106)).alloc (.cells #[.int .i64 x.k, .int .i64 0, .string ⟨#[]⟩, .int .i64 0, .int .i64 0, .int .i64 0, .int .i64 0, .string ⟨#[]⟩, .slice none 0 0, .int .i64 0, .int .i64 0, .string ⟨#[]⟩, .slice none 0 0, .int .i64 0, .int .i64 0, .bool false, .slice none 0 0] 106)) (w.heap.size + 1) 106 [.int .i64 0, .int .i64 0, .string ⟨#[]⟩, .int .i64 0, .int .i64 0, .int .i64 0, .int .i64 0, .string ⟨#[]⟩, .slice none 0 0, .int .i64 0, .int .i64 0, .string ⟨#[]⟩, .slice none 0 0, .int .i64 0, .int .i64 0, .bool false, .slice none 0 0]) := by
    have := (Box.new (w.alloc (.cells #[.int .i64 x.k, .int .i64 x.s.st, .string x.s.h, .int .i64 x.s.ke, .int .i64 x.s.ep, .int .i64 op, .int .i64 n, .string s, .slice a len cap, .int .i64 oq, .int .i64 m, .string r, .slice c lem cat, .int .i64 x.s.i, .int .i64 x.s.o, .bool x.s.tl, .slice g x.s.l.length gc] 89)) 106 [.int .i64 0, .int .i64 0, .string ⟨#[]⟩, .int .i64 0, .int .i64 0, .int .i64 0, .int .i64 0, .string ⟨#[]⟩, .slice none 0 0, .int .i64 0, .int .i64 0, .string ⟨#[]⟩, .slice none 0 0, .int .i64 0, .int .i64 0, .bool false, .slice none 0 0]).on (abG (.cells #[.int .i64 x.k, .int .i64 0, .string ⟨#[]⟩, .int .i64 0, .int .i64 0, .int .i64 0, .int .i64 0, .string ⟨#[]⟩, .slice none 0 0, .int .i64 0, .int .i64 0, .string ⟨#[]⟩, .slice none 0 0, .int .i64 0, .int .i64 0, .bool false, .slice none 0 0] 106))
    rwa [heap_size_alloc] at this
  have HO : Hid (Box (((w.alloc (.cells #[.int .i64 x.k, .int .i64 x.s.st, .string x.s.h, .int .i64 x.s.ke, .int .i64 x.s.ep, .int .i64 op, .int .i64 n, .string s, .slice a len cap, .int .i64 oq, .int .i64 m, .string r, .slice c lem cat, .int .i64 x.s.i, .int .i64 x.s.o, .bool x.s.tl, .slice g x.s.l.length gc] 89)).alloc (.cells #[.int .i64 0, .int .i64 0, .string ⟨#[]⟩, .int .i64 0, .int .i64 0, .int .i64 0, .int .i64 0, .string ⟨#[]⟩, .slice none 0 0, .int .i64 0, .int .i64 0, .string ⟨#[]⟩, .slice none 0 0, .int .i64 0, .int .i64 0, .bool false, .slice none 0 0] 106)).alloc (.cells #[.int .i64 x.k, .int .i64 0, .string ⟨#[]⟩, .int .i64 0, .int .i64 0, .int .i64 0, .int .i64 0, .string ⟨#[]⟩, .slice none 0 0, .int .i64 0, .int .i64 0, .string ⟨#[]⟩, .slice none 0 0, .int .i64 0, .int .i64 0, .bool false, .slice none 0 0] 106)) (w.heap.size + 1 + 1) 106 [.int .i64 x.k, .int .i64 0, .string ⟨#[]⟩, .int .i64 0, .int .i64 0, .int .i64 0, .int .i64 0, .string ⟨#[]⟩, .slice none 0 0, .int .i64 0, .int .i64 0, .string ⟨#[]⟩, .slice none 0 0, .int .i64 0, .int .i64 0, .bool false, .slice none 0 0]) := by
    have := Box.new ((w.alloc (.cells #[.int .i64 x.k, .int .i64 x.s.st, .string x.s.h, .int .i64 x.s.ke, .int .i64 x.s.ep, .int .i64 op, .int .i64 n, .string s, .slice a len cap, .int .i64 oq, .int .i64 m, .string r, .slice c lem cat, .int .i64 x.s.i, .int .i64 x.s.o, .bool x.s.tl, .slice g x.s.l.length gc] 89)).alloc (.cells #[.int .i64 0, .int .i64 0, .string ⟨#[]⟩, .int .i64 0, .int .i64 0, .int .i64 0, .int .i64 0, .string ⟨#[]⟩, .slice none 0 0, .int .i64 0, .int .i64 0, .string ⟨#[]⟩, .slice none 0 0, .int .i64 0, .int .i64 0, .bool false, .slice none 0 0] 106)) 106 [.int .i64 x.k, .int .i64 0, .string ⟨#[]⟩, .int .i64 0, .int .i64 0, .int .i64 0, .int .i64 0, .string ⟨#[]⟩, .slice none 0 0, .int .i64 0, .int .i64 0, .string ⟨#[]⟩, .slice none 0 0, .int .i64 0, .int .i64 0, .bool false, .slice none 0 0]
    rwa [heap_size_alloc, heap_size_alloc] at this
  have HC := hide (toSv x.s _ _ (svK.on (w := w) (L := 0) (x := x.s) hc' hb0) hz)
  have HB0 := hide hb0
  clear hb0 hc' hl hz
  go_enter Try.func42, Try.ntmps42
  go_wp2_with (refine wpList_load_box rfl _ rfl w.heap.size 1 [.int .i64 x.s.st, .string x.s.h, .int .i64 x.s.ke, .int .i64 x.s.ep, .int .i64 op, .int .i64 n, .string s, .slice a len cap, .int .i64 oq, .int .i64 m, .string r, .slice c lem cat, .int .i64 x.s.i, .int .i64 x.s.o, .bool x.s.tl, .slice g x.s.l.length gc] (unhide HX) (fun j v hj => (by rw [Nat.add_comm, List.getElem?_cons_succ]; exact hj)) rfl Try.underlying87 rfl infoLSv ?_)
  refine (unhide HC).mono ?_
  rintro e w2 ⟨ct, rfl, hct, hb2⟩
  have hln : ct.length = 16 := svK.len (w := w2) (L := _) (x := x.s) hct
  have hon := hide (svK.one (w := w2) (L := _) (x := x.s) hct)
  have HL := hide hln
  have hsz : w.heap.size + 3 ≤ w2.heap.size := by have := hb2.size; simpa using this
  have HCT : Hid (svAt w2 (w.heap.size + 3) x.s ct) := hide (svK.low (w := w2) (x := x.s) hct (by simp))
  have HX2 := hide ((unhide HX).on hb2)
  have HZ2 := hide ((unhide HZ).on hb2)
  have HO2 := hide ((unhide HO).on hb2)
  have HB2 := hide (btG (unhide HB0) hb2)
  clear hct hb2 hln HX HZ HO HB0 hsz HC
  have HFN : Hid ((.int .i64 x.k :: (ct ++ [])).length = 17) := by
    have hl := unhide HL
    show _ = _
    simp [hl]
  have HF1 : Hid (∀ v ∈ (.int .i64 x.k :: (ct ++ [])), v.oneCell' = true) := fun v hv => by
    simp only [List.mem_cons, List.mem_append, List.not_mem_nil, or_false] at hv
    rcases hv with rfl | hv
    · rfl
    · exact unhide hon v hv

  go_wp2_with (first
  | (refine wpList_store_box rfl _ _ rfl (w.heap.size + 1 + 1) 1 ct (unhide HO2) (by have := unhide HL; simp [this]) rfl rfl (by rw [unhide HL]; exact infoISv) (unhide hon) ?_
     intro W hW
     have HBW := hide (show Below w.heap.size w W from by rw [hW]; exact setsG (unhide HB2) (by omega))
     have HCW := hide (show svAt W (w.heap.size + 3) x.s ct from by rw [hW]; exact svK.sets (x := x.s) (unhide HCT) (by omega))
     have HXW := hide (show Box W w.heap.size 89 [.int .i64 x.k, .int .i64 x.s.st, .string x.s.h, .int .i64 x.s.ke, .int .i64 x.s.ep, .int .i64 op, .int .i64 n, .string s, .slice a len cap, .int .i64 oq, .int .i64 m, .string r, .slice c lem cat, .int .i64 x.s.i, .int .i64 x.s.o, .bool x.s.tl, .slice g x.s.l.length gc] from by rw [hW]; exact (unhide HX2).fars (by omega) _ _)
     have HZW := hide (show Box W (w.heap.size + 1) 106 [.int .i64 0, .int .i64 0, .string ⟨#[]⟩, .int .i64 0, .int .i64 0, .int .i64 0, .int .i64 0, .string ⟨#[]⟩, .slice none 0 0, .int .i64 0, .int .i64 0, .string ⟨#[]⟩, .slice none 0 0, .int .i64 0, .int .i64 0, .bool false, .slice none 0 0] from by rw [hW]; exact (unhide HZ2).fars (by omega) _ _)
     have HOW := hide (show Box W (w.heap.size + 1 + 1) 106 (.int .i64 x.k :: (ct ++ [])) from by
       rw [hW]
       have hp : puts [.int .i64 x.k, .int .i64 0, .string ⟨#[]⟩, .int .i64 0, .int .i64 0, .int .i64 0, .int .i64 0, .string ⟨#[]⟩, .slice none 0 0, .int .i64 0, .int .i64 0, .string ⟨#[]⟩, .slice none 0 0, .int .i64 0, .int .i64 0, .bool false, .slice none 0 0] 1 ct = .int .i64 x.k :: (ct ++ []) := puts_mid (a := [.int .i64 x.k]) (z := [.int .i64 0, .string ⟨#[]⟩, .int .i64 0, .int .i64 0, .int .i64 0, .int .i64 0, .string ⟨#[]⟩, .slice none 0 0, .int .i64 0, .int .i64 0, .string ⟨#[]⟩, .slice none 0 0, .int .i64 0, .int .i64 0, .bool false, .slice none 0 0]) (b := []) (unhide HL)
       rw [← hp]
       exact Box.sets ct 1 _ _ (unhide HO2))
     clear hW HX2 HZ2 HO2 HB2 HCT
     have HO3 : Hid (Box W (w.heap.size + 1 + 1) 106 (.int .i64 x.k :: (ct ++ []))) := HOW
     have HZ3 : Hid (Box W (w.heap.size + 1) 106 [.int .i64 0, .int .i64 0, .string ⟨#[]⟩, .int .i64 0, .int .i64 0, .int .i64 0, .int .i64 0, .string ⟨#[]⟩, .slice none 0 0, .int .i64 0, .int .i64 0, .string ⟨#[]⟩, .slice none 0 0, .int .i64 0, .int .i64 0, .bool false, .slice none 0 0]) := HZW
     have HB3 : Hid (Below w.heap.size w W) := HBW
     have HC3 : Hid (svAt W (w.heap.size + 3) x.s ct) := HCW
     clear HXW HOW HZW HBW HCW)
  | (refine wpList_load_box rfl _ rfl (w.heap.size + 1 + 1) 0 (.int .i64 x.k :: (ct ++ [])) (unhide HO3) (fun j v hj => (by rw [Nat.zero_add]; exact hj)) rfl Try.underlying106 rfl (by rw [unhide HFN]; exact infoITa) ?_)
  | (refine wpList_store_box rfl _ _ rfl (w.heap.size + 1) 0 (.int .i64 x.k :: (ct ++ [])) (unhide HZ3) (by rw [unhide HFN]; decide) rfl rfl (by rw [unhide HFN]; exact infoITa) (unhide HF1) ?_
     intro V hV
     have HZV : Hid (Box V (w.heap.size + 1) 106 (.int .i64 x.k :: (ct ++ []))) := (by
       rw [hV]
       have hp : puts [.int .i64 0, .int .i64 0, .string ⟨#[]⟩, .int .i64 0, .int .i64 0, .int .i64 0, .int .i64 0, .string ⟨#[]⟩, .slice none 0 0, .int .i64 0, .int .i64 0, .string ⟨#[]⟩, .slice none 0 0, .int .i64 0, .int .i64 0, .bool false, .slice none 0 0] 0 (.int .i64 x.k :: (ct ++ [])) = (.int .i64 x.k :: (ct ++ [])) := puts_all (by rw [unhide HFN]; rfl)
       have := Box.sets (.int .i64 x.k :: (ct ++ [])) 0 _ _ (unhide HZ3)
       rw [hp] at this
       exact this)
     have HBV : Hid (Below w.heap.size w V) := (by rw [hV]; exact setsG (unhide HB3) (by omega))
     have HCV : Hid (svAt V (w.heap.size + 3) x.s ct) := (by rw [hV]; exact svK.sets (x := x.s) (unhide HC3) (by omega))
     clear hV HO3 HZ3 HB3 HC3))
  exact bodyPost_ret (v := .agg (.int .i64 x.k :: (ct ++ [])).toArray) (results_box Try.results42 (unhide HZV) rfl Try.underlying106 rfl (by rw [unhide HFN]; exact infoITa)) rfl ⟨_, rfl, ⟨ct, by rw [List.append_nil], svK.low (x := x.s) (unhide HCV) (by omega)⟩, unhide HBV⟩

set_option maxRecDepth 100000 in
set_option maxHeartbeats 2000000 in
theorem eqTa (x : Ta) (cs cs' : List Value) (w : World) (h : taAt w 0 x cs) (h' : taAt w 0 x cs') (hz : taw x ≤ 1048576) :
    Calls Try.prog 50 #[.agg cs.toArray, .agg cs'.toArray] w fun e w' => e = .returned (.bool true) ∧ Below w.heap.size w w' := by
  obtain ⟨cc, rfl, hc⟩ := h
  obtain ⟨cd, rfl, hd⟩ := h'
  have hc0 := hc
  have hd0 := hd
  obtain ⟨hh, hg, op, n, s, a, len, cap, oq, m, r, c, lem, cat, g, gc, rfl, -⟩ := hc
  obtain ⟨hh', hg', op', n', s', a', len', cap', oq', m', r', c', lem', cat', g', gc', rfl, -⟩ := hd
  show Calls Try.prog 50 #[.agg #[.int .i64 x.k, .int .i64 x.s.st, .string x.s.h, .int .i64 x.s.ke, .int .i64 x.s.ep, .int .i64 op, .int .i64 n, .string s, .slice a len cap, .int .i64 oq, .int .i64 m, .string r, .slice c lem cat, .int .i64 x.s.i, .int .i64 x.s.o, .bool x.s.tl, .slice g x.s.l.length gc], .agg #[.int .i64 x.k, .int .i64 x.s.st, .string x.s.h, .int .i64 x.s.ke, .int .i64 x.s.ep, .int .i64 op', .int .i64 n', .string s', .slice a' len' cap', .int .i64 oq', .int .i64 m', .string r', .slice c' lem' cat', .int .i64 x.s.i, .int .i64 x.s.o, .bool x.s.tl, .slice g' x.s.l.length gc']] w _
  have hb0 : Below w.heap.size w ((w.alloc (.cells #[.int .i64 x.k, .int .i64 x.s.st, .string x.s.h, .int .i64 x.s.ke, .int .i64 x.s.ep, .int .i64 op, .int .i64 n, .string s, .slice a len cap, .int .i64 oq, .int .i64 m, .string r, .slice c lem cat, .int .i64 x.s.i, .int .i64 x.s.o, .bool x.s.tl, .slice g x.s.l.length gc] 106)).alloc (.cells #[.int .i64 x.k, .int .i64 x.s.st, .string x.s.h, .int .i64 x.s.ke, .int .i64 x.s.ep, .int .i64 op', .int .i64 n', .string s', .slice a' len' cap', .int .i64 oq', .int .i64 m', .string r', .slice c' lem' cat', .int .i64 x.s.i, .int .i64 x.s.o, .bool x.s.tl, .slice g' x.s.l.length gc'] 106)) := btG (abG _) (abG _)
  have HX : Hid (Box ((w.alloc (.cells #[.int .i64 x.k, .int .i64 x.s.st, .string x.s.h, .int .i64 x.s.ke, .int .i64 x.s.ep, .int .i64 op, .int .i64 n, .string s, .slice a len cap, .int .i64 oq, .int .i64 m, .string r, .slice c lem cat, .int .i64 x.s.i, .int .i64 x.s.o, .bool x.s.tl, .slice g x.s.l.length gc] 106)).alloc (.cells #[.int .i64 x.k, .int .i64 x.s.st, .string x.s.h, .int .i64 x.s.ke, .int .i64 x.s.ep, .int .i64 op', .int .i64 n', .string s', .slice a' len' cap', .int .i64 oq', .int .i64 m', .string r', .slice c' lem' cat', .int .i64 x.s.i, .int .i64 x.s.o, .bool x.s.tl, .slice g' x.s.l.length gc'] 106)) w.heap.size 106 [.int .i64 x.k, .int .i64 x.s.st, .string x.s.h, .int .i64 x.s.ke, .int .i64 x.s.ep, .int .i64 op, .int .i64 n, .string s, .slice a len cap, .int .i64 oq, .int .i64 m, .string r, .slice c lem cat, .int .i64 x.s.i, .int .i64 x.s.o, .bool x.s.tl, .slice g x.s.l.length gc]) := (Box.new w 106 [.int .i64 x.k, .int .i64 x.s.st, .string x.s.h, .int .i64 x.s.ke, .int .i64 x.s.ep, .int .i64 op, .int .i64 n, .string s, .slice a len cap, .int .i64 oq, .int .i64 m, .string r, .slice c lem cat, .int .i64 x.s.i, .int .i64 x.s.o, .bool x.s.tl, .slice g x.s.l.length gc]).on (abG (.cells #[.int .i64 x.k, .int .i64 x.s.st, .string x.s.h, .int .i64 x.s.ke, .int .i64 x.s.ep, .int .i64 op', .int .i64 n', .string s', .slice a' len' cap', .int .i64 oq', .int .i64 m', .string r', .slice c' lem' cat', .int .i64 x.s.i, .int .i64 x.s.o, .bool x.s.tl, .slice g' x.s.l.length gc'] 106))
  have HY : Hid (Box ((w.alloc (.cells #[.int .i64 x.k, .int .i64 x.s.st, .string x.s.h, .int .i64 x.s.ke, .int .i64 x.s.ep, .int .i64 op, .int .i64 n, .string s, .slice a len cap, .int .i64 oq, .int .i64 m, .string r, .slice c lem cat, .int .i64 x.s.i, .int .i64 x.s.o, .bool x.s.tl, .slice g x.s.l.length gc] 106)).alloc (.cells #[.int .i64 x.k, .int .i64 x.s.st, .string x.s.h, .int .i64 x.s.ke, .int .i64 x.s.ep, .int .i64 op', .int .i64 n', .string s', .slice a' len' cap', .int .i64 oq', .int .i64 m', .string r', .slice c' lem' cat', .int .i64 x.s.i, .int .i64 x.s.o, .bool x.s.tl, .slice g' x.s.l.length gc'] 106)) (w.heap.size + 1) 106 [.int .i64 x.k, .int .i64 x.s.st, .string x.s.h, .int .i64 x.s.ke, .int .i64 x.s.ep, .int .i64 op', .int .i64 n', .string s', .slice a' len' cap', .int .i64 oq', .int .i64 m', .string r', .slice c' lem' cat', .int .i64 x.s.i, .int .i64 x.s.o, .bool x.s.tl, .slice g' x.s.l.length gc']) := by
    have := Box.new (w.alloc (.cells #[.int .i64 x.k, .int .i64 x.s.st, .string x.s.h, .int .i64 x.s.ke, .int .i64 x.s.ep, .int .i64 op, .int .i64 n, .string s, .slice a len cap, .int .i64 oq, .int .i64 m, .string r, .slice c lem cat, .int .i64 x.s.i, .int .i64 x.s.o, .bool x.s.tl, .slice g x.s.l.length gc] 106)) 106 [.int .i64 x.k, .int .i64 x.s.st, .string x.s.h, .int .i64 x.s.ke, .int .i64 x.s.ep, .int .i64 op', .int .i64 n', .string s', .slice a' len' cap', .int .i64 oq', .int .i64 m', .string r', .slice c' lem' cat', .int .i64 x.s.i, .int .i64 x.s.o, .bool x.s.tl, .slice g' x.s.l.length gc']
    rwa [heap_size_alloc] at this
  have HC := hide (eqSv x.s _ _ _ (svK.on (w := w) (L := 0) (x := x.s) hc0 hb0) (svK.on (w := w) (L := 0) (x := x.s) hd0 hb0) hz)
  have HB0 := hide hb0
  clear hb0 hc0 hd0 hz
  go_enter Try.func50, Try.ntmps50
  go_wp2_with (first
  | (refine wpList_load_box rfl _ rfl w.heap.size 1 [.int .i64 x.s.st, .string x.s.h, .int .i64 x.s.ke, .int .i64 x.s.ep, .int .i64 op, .int .i64 n, .string s, .slice a len cap, .int .i64 oq, .int .i64 m, .string r, .slice c lem cat, .int .i64 x.s.i, .int .i64 x.s.o, .bool x.s.tl, .slice g x.s.l.length gc] (unhide HX) (fun j v hj => (by rw [Nat.add_comm, List.getElem?_cons_succ]; exact hj)) rfl Try.underlying104 rfl infoISv ?_)
  | (refine wpList_load_box rfl _ rfl (w.heap.size + 1) 1 [.int .i64 x.s.st, .string x.s.h, .int .i64 x.s.ke, .int .i64 x.s.ep, .int .i64 op', .int .i64 n', .string s', .slice a' len' cap', .int .i64 oq', .int .i64 m', .string r', .slice c' lem' cat', .int .i64 x.s.i, .int .i64 x.s.o, .bool x.s.tl, .slice g' x.s.l.length gc'] (unhide HY) (fun j v hj => (by rw [Nat.add_comm, List.getElem?_cons_succ]; exact hj)) rfl Try.underlying104 rfl infoISv ?_))
  refine (unhide HC).mono ?_
  rintro e w2 ⟨rfl, hb2⟩
  have c14 : w2.cell? ⟨w.heap.size, 16, none⟩ = some (_) := ((unhide HX).on hb2).cell rfl
  have d14 : w2.cell? ⟨w.heap.size + 1, 16, none⟩ = some (_) := ((unhide HY).on hb2).cell rfl
  have HB2 := hide (btG (unhide HB0) hb2)
  clear hb2

  all_goals
    go_wp2_with fail
    go_ret
    exact ⟨rfl, unhide HB2⟩


end Go.Proofs.Ytepmgjklonhkgaa
