/- Calls: the walks of laws.toCall, eqCall; nothing that was there is written. -/
import Derived.Test.YtepmgjklonhkgaaWc
import Derived.Deep.MidRow
import Derived.Deep.RegionHeld3
namespace Go.Proofs.Ytepmgjklonhkgaa
open Go.RowKit Go.Deep

set_option maxRecDepth 100000 in
set_option maxHeartbeats 2000000 in
theorem toCa (x : Ca) (cs : List Value) (w : World) (h : caAt w 0 x cs) (hz : caw x ≤ 1048576) :
    Calls Try.prog 41 #[.agg cs.toArray] w fun e w' => ∃ ct, e = .returned (.agg ct.toArray) ∧ caAt w' w.heap.size x ct ∧ Below w.heap.size w w' := by
  obtain ⟨cc, rfl, hc⟩ := h
  have hc' := hc
  obtain ⟨hh, op, n, s, a, len, cap, rfl, hl⟩ := hc
  show Calls Try.prog 41 #[.agg #[.int .i64 x.k, .int .i64 x.c.st, .string x.c.h, .bool x.c.mu, .int .i64 x.c.ep, .int .i64 x.c.bo, .int .i64 op, .int .i64 n, .string s, .slice a len cap, .int .i64 x.c.i, .int .i64 x.c.o, .bool x.c.tl, .bool x.c.pr, .bool x.g]] w _
  have hb0 : Below w.heap.size w (((w.alloc (.cells #[.int .i64 x.k, .int .i64 x.c.st, .string x.c.h, .bool x.c.mu, .int .i64 x.c.ep, .int .i64 x.c.bo, .int .i64 op, .int .i64 n, .string s, .slice a len cap, .int .i64 x.c.i, .int .i64 x.c.o, .bool x.c.tl, .bool x.c.pr, .bool x.g] 84)).alloc (.cells #[.int .i64 0, .int .i64 0, .string ⟨#[]⟩, .bool false, .int .i64 0, .int .i64 0, .int .i64 0, .int .i64 0, .string ⟨#[]⟩, .slice none 0 0, .int .i64 0, .int .i64 0, .bool false, .bool false, .bool false] 101)).alloc (.cells #[.int .i64 x.k, .int .i64 0, .string ⟨#[]⟩, .bool false, .int .i64 0, .int .i64 0, .int .i64 0, .int .i64 0, .string ⟨#[]⟩, .slice none 0 0, .int .i64 0, .int .i64 0, .bool false, .bool false, .bool false] 101)) := btG (btG (abG _) (abG _)) (abG _)
  have HX : Hid (Box (((w.alloc (.cells #[.int .i64 x.k, .int .i64 x.c.st, .string x.c.h, .bool x.c.mu, .int .i64 x.c.ep, .int .i64 x.c.bo, .int .i64 op, .int .i64 n, .string s, .slice a len cap, .int .i64 x.c.i, .int .i64 x.c.o, .bool x.c.tl, .bool x.c.pr, .bool x.g] 84)).alloc (.cells #[.int .i64 0, .int .i64 0, .string ⟨#[]⟩, .bool false, .int .i64 0, .int .i64 0, .int .i64 0, .int .i64 0, .string ⟨#[]⟩, .slice none 0 0, .int .i64 0, .int .i64 0, .bool false, .bool false, .bool false] 101)).alloc (.cells #[.int .i64 x.k, .int .i64 0, .string ⟨#[]⟩, .bool false, .int .i64 0, .int .i64 0, .int .i64 0, .int .i64 0, .string ⟨#[]⟩, .slice none 0 0, .int .i64 0, .int .i64 0, .bool false, .bool false, .bool false] 101)) w.heap.size 84 [.int .i64 x.k, .int .i64 x.c.st, .string x.c.h, .bool x.c.mu, .int .i64 x.c.ep, .int .i64 x.c.bo, .int .i64 op, .int .i64 n, .string s, .slice a len cap, .int .i64 x.c.i, .int .i64 x.c.o, .bool x.c.tl, .bool x.c.pr, .bool x.g]) := ((Box.new w 84 [.int .i64 x.k, .int .i64 x.c.st, .string x.c.h, .bool x.c.mu, .int .i64 x.c.ep, .int .i64 x.c.bo, .int .i64 op, .int .i64 n, .string s, .slice a len cap, .int .i64 x.c.i, .int .i64 x.c.o, .bool x.c.tl, .bool x.c.pr, .bool x.g]).on (abG (.cells #[.int .i64 0, .int .i64 0, .string ⟨#[]⟩, .bool false, .int .i64 0, .int .i64 0, .int .i64 0, .int .i64 0, .string ⟨#[]⟩, .slice none 0 0, .int .i64 0, .int .i64 0, .bool false, .bool false, .bool false] 101))).on (abG (.cells #[.int .i64 x.k, .int .i64 0, .string ⟨#[]⟩, .bool false, .int .i64 0, .int .i64 0, .int .i64 0, .int .i64 0, .string ⟨#[]⟩, .slice none 0 0, .int .i64 0, .int .i64 0, .bool false, .bool false, .bool false] 101))
  have HZ : Hid (Box (((w.alloc (.cells #[.int .i64 x.k, .int .i64 x.c.st, .string x.c.h, .bool x.c.mu, .int .i64 x.c.ep, .int .i64 x.c.bo, .int .i64 op, .int .i64 n, .string s, .slice a len cap, .int .i64 x.c.i, .int .i64 x.c.o, .bool x.c.tl, .bool x.c.pr, .bool x.g] 84)).alloc (.cells #[.int .i64 0, .int .i64 0, .string ⟨#[]⟩, .bool false, .int .i64 0, .int .i64 0, .int .i64 0, .int .i64 0, .string ⟨#[]⟩, .slice none 0 0, .int .i64 0, .int .i64 0, .bool false, .bool false, .bool false] 101)).alloc (.cells #[.int .i64 x.k, .int .i64 0, .string ⟨#[]⟩, .bool false, .int .i64 0, .int .i64 0, .int .i64 0, .int .i64 0, .string ⟨#[]⟩, .slice none 0 0, .int .i64 0, .int .i64 0, .bool false, .bool false, .bool false] 101)) (w.heap.size + 1) 101 [.int .i64 0, .int .i64 0, .string ⟨#[]⟩, .bool false, .int .i64 0, .int .i64 0, .int .i64 0, .int .i64 0, .string ⟨#[]⟩, .slice none 0 0, .int .i64 0, .int .i64 0, .bool false, .bool false, .bool false]) := by
    have := (Box.new (w.alloc (.cells #[.int .i64 x.k, .int .i64 x.c.st, .string x.c.h, .bool x.c.mu, .int .i64 x.c.ep, .int .i64 x.c.bo, .int .i64 op, .int .i64 n, .string s, .slice a len cap, .int .i64 x.c.i, .int .i64 x.c.o, .bool x.c.tl, .bool x.c.pr, .bool x.g] 84)) 101 [.int .i64 0, .int .i64 0, .string ⟨#[]⟩, .bool false, .int .i64 0, .int .i64 0, .int .i64 0, .int .i64 0, .string ⟨#[]⟩, .slice none 0 0, .int .i64 0, .int .i64 0, .bool false, .bool false, .bool false]).on (abG (.cells #[.int .i64 x.k, .int .i64 0, .string ⟨#[]⟩, .bool false, .int .i64 0, .int .i64 0, .int .i64 0, .int .i64 0, .string ⟨#[]⟩, .slice none 0 0, .int .i64 0, .int .i64 0, .bool false, .bool false, .bool false] 101))
    rwa [heap_size_alloc] at this
  have HO : Hid (Box (((w.alloc (.cells #[.int .i64 x.k, .int .i64 x.c.st, .string x.c.h, .bool x.c.mu, .int .i64 x.c.ep, .int .i64 x.c.bo, .int .i64 op, .int .i64 n, .string s, .slice a len cap, .int .i64 x.c.i, .int .i64 x.c.o, .bool x.c.tl, .bool x.c.pr, .bool x.g] 84)).alloc (.cells #[.int .i64 0, .int .i64 0, .string ⟨#[]⟩, .bool false, .int .i64 0, .int .i64 0, .int .i64 0, .int .i64 0, .string ⟨#[]⟩, .slice none 0 0, .int .i64 0, .int .i64 0, .bool false, .bool false, .bool false] 101)).alloc (.cells #[.int .i64 x.k, .int .i64 0, .string ⟨#[]⟩, .bool false, .int .i64 0, .int .i64 0, .int .i64 0, .int .i64 0, .string ⟨#[]⟩, .slice none 0 0, .int .i64 0, .int .i64 0, .bool false, .bool false, .bool false] 101)) (w.heap.size + 1 + 1) 101 [.int .i64 x.k, .int .i64 0, .string ⟨#[]⟩, .bool false, .int .i64 0, .int .i64 0, .int .i64 0, .int .i64 0, .string ⟨#[]⟩, .slice none 0 0, .int .i64 0, .int .i64 0, .bool false, .bool false, .bool false]) := by
    have := Box.new ((w.alloc (.cells #[.int .i64 x.k, .int .i64 x.c.st, .string x.c.h, .bool x.c.mu, .int .i64 x.c.ep, .int .i64 x.c.bo, .int .i64 op, .int .i64 n, .string s, .slice a len cap, .int .i64 x.c.i, .int .i64 x.c.o, .bool x.c.tl, .bool x.c.pr, .bool x.g] 84)).alloc (.cells #[.int .i64 0, .int .i64 0, .string ⟨#[]⟩, .bool false, .int .i64 0, .int .i64 0, .int .i64 0, .int .i64 0, .string ⟨#[]⟩, .slice none 0 0, .int .i64 0, .int .i64 0, .bool false, .bool false, .bool false] 101)) 101 [.int .i64 x.k, .int .i64 0, .string ⟨#[]⟩, .bool false, .int .i64 0, .int .i64 0, .int .i64 0, .int .i64 0, .string ⟨#[]⟩, .slice none 0 0, .int .i64 0, .int .i64 0, .bool false, .bool false, .bool false]
    rwa [heap_size_alloc, heap_size_alloc] at this
  have HC := hide (toCl x.c _ _ (clK.on (w := w) (L := 0) (x := x.c) hc' hb0) hz)
  have HB0 := hide hb0
  clear hb0 hc' hl hz
  go_enter Try.func41, Try.ntmps41
  go_wp2_with (refine wpList_load_box rfl _ rfl w.heap.size 1 [.int .i64 x.c.st, .string x.c.h, .bool x.c.mu, .int .i64 x.c.ep, .int .i64 x.c.bo, .int .i64 op, .int .i64 n, .string s, .slice a len cap, .int .i64 x.c.i, .int .i64 x.c.o, .bool x.c.tl, .bool x.c.pr] (unhide HX) (fun j v hj => (by rw [Nat.add_comm, List.getElem?_cons_succ]; exact (List.getElem?_append_left (l₁ := [.int .i64 x.c.st, .string x.c.h, .bool x.c.mu, .int .i64 x.c.ep, .int .i64 x.c.bo, .int .i64 op, .int .i64 n, .string s, .slice a len cap, .int .i64 x.c.i, .int .i64 x.c.o, .bool x.c.tl, .bool x.c.pr]) (l₂ := [.bool x.g]) (List.getElem?_eq_some_iff.1 hj).1).trans hj)) rfl Try.underlying82 rfl infoLCl ?_)
  refine (unhide HC).mono ?_
  rintro e w2 ⟨ct, rfl, hct, hb2⟩
  have hln : ct.length = 13 := clK.len (w := w2) (L := _) (x := x.c) hct
  have hon := hide (clK.one (w := w2) (L := _) (x := x.c) hct)
  have HL := hide hln
  have hsz : w.heap.size + 3 ≤ w2.heap.size := by have := hb2.size; simpa using this
  have HCT : Hid (clAt w2 (w.heap.size + 3) x.c ct) := hide (clK.low (w := w2) (x := x.c) hct (by simp))
  have HX2 := hide ((unhide HX).on hb2)
  have HZ2 := hide ((unhide HZ).on hb2)
  have HO2 := hide ((unhide HO).on hb2)
  have HB2 := hide (btG (unhide HB0) hb2)
  clear hct hb2 hln HX HZ HO HB0 hsz HC
  have HFN : Hid ((.int .i64 x.k :: (ct ++ [.bool x.g])).length = 15) := by
    have hl := unhide HL
    show _ = _
    simp [hl]
  have HF1 : Hid (∀ v ∈ (.int .i64 x.k :: (ct ++ [.bool x.g])), v.oneCell' = true) := fun v hv => by
    simp only [List.mem_cons, List.mem_append, List.not_mem_nil, or_false] at hv
    rcases hv with rfl | hv | rfl
    · rfl
    · exact unhide hon v hv
    · rfl
  go_wp2_with (first
  | (refine wpList_store_box rfl _ _ rfl (w.heap.size + 1 + 1) 1 ct (unhide HO2) (by have := unhide HL; simp [this]) rfl rfl (by rw [unhide HL]; exact infoICl) (unhide hon) ?_
     intro W hW
     have HBW := hide (show Below w.heap.size w W from by rw [hW]; exact setsG (unhide HB2) (by omega))
     have HCW := hide (show clAt W (w.heap.size + 3) x.c ct from by rw [hW]; exact clK.sets (x := x.c) (unhide HCT) (by omega))
     have HXW := hide (show Box W w.heap.size 84 [.int .i64 x.k, .int .i64 x.c.st, .string x.c.h, .bool x.c.mu, .int .i64 x.c.ep, .int .i64 x.c.bo, .int .i64 op, .int .i64 n, .string s, .slice a len cap, .int .i64 x.c.i, .int .i64 x.c.o, .bool x.c.tl, .bool x.c.pr, .bool x.g] from by rw [hW]; exact (unhide HX2).fars (by omega) _ _)
     have HZW := hide (show Box W (w.heap.size + 1) 101 [.int .i64 0, .int .i64 0, .string ⟨#[]⟩, .bool false, .int .i64 0, .int .i64 0, .int .i64 0, .int .i64 0, .string ⟨#[]⟩, .slice none 0 0, .int .i64 0, .int .i64 0, .bool false, .bool false, .bool false] from by rw [hW]; exact (unhide HZ2).fars (by omega) _ _)
     have HOW := hide (show Box W (w.heap.size + 1 + 1) 101 (.int .i64 x.k :: (ct ++ [.bool false])) from by
       rw [hW]
       have hp : puts [.int .i64 x.k, .int .i64 0, .string ⟨#[]⟩, .bool false, .int .i64 0, .int .i64 0, .int .i64 0, .int .i64 0, .string ⟨#[]⟩, .slice none 0 0, .int .i64 0, .int .i64 0, .bool false, .bool false, .bool false] 1 ct = .int .i64 x.k :: (ct ++ [.bool false]) := puts_mid (a := [.int .i64 x.k]) (z := [.int .i64 0, .string ⟨#[]⟩, .bool false, .int .i64 0, .int .i64 0, .int .i64 0, .int .i64 0, .string ⟨#[]⟩, .slice none 0 0, .int .i64 0, .int .i64 0, .bool false, .bool false]) (b := [.bool false]) (unhide HL)
       rw [← hp]
       exact Box.sets ct 1 _ _ (unhide HO2))
     clear hW HX2 HZ2 HO2 HB2 HCT
     have c14 : W.cell? ⟨w.heap.size, 14, none⟩ = some (.bool x.g) := (unhide HXW).cell rfl
     have hl := unhide HL
     have d14 : W.cell? ⟨w.heap.size + 1 + 1, 14, none⟩ = some (.bool false) := (unhide HOW).cell (by simp [hl])
     have f14 : W.frozen? ⟨w.heap.size + 1 + 1, 14, none⟩ = false := (unhide HOW).free _
     have HO3 : Hid (Box (W.setCell ⟨w.heap.size + 1 + 1, 14, none⟩ (.bool x.g)) (w.heap.size + 1 + 1) 101 (.int .i64 x.k :: (ct ++ [.bool x.g]))) := by
       have hs : (Value.int .i64 x.k :: (ct ++ [.bool false])).set 14 (.bool x.g) = (.int .i64 x.k :: (ct ++ [.bool x.g])) := by
         rw [List.set_cons_succ, List.set_append_right _ _ (by omega), hl]; rfl
       rw [← hs]
       exact (unhide HOW).set _ _
     have HZ3 : Hid (Box (W.setCell ⟨w.heap.size + 1 + 1, 14, none⟩ (.bool x.g)) (w.heap.size + 1) 101 [.int .i64 0, .int .i64 0, .string ⟨#[]⟩, .bool false, .int .i64 0, .int .i64 0, .int .i64 0, .int .i64 0, .string ⟨#[]⟩, .slice none 0 0, .int .i64 0, .int .i64 0, .bool false, .bool false, .bool false]) := (unhide HZW).far (by omega) _ _
     have HB3 : Hid (Below w.heap.size w (W.setCell ⟨w.heap.size + 1 + 1, 14, none⟩ (.bool x.g))) := setG (unhide HBW) (by omega)
     have HC3 : Hid (clAt (W.setCell ⟨w.heap.size + 1 + 1, 14, none⟩ (.bool x.g)) (w.heap.size + 3) x.c ct) := clK.set (x := x.c) (unhide HCW) (by omega)
     clear hl HXW HOW HZW HBW HCW)
  | (refine wpList_load_box rfl _ rfl (w.heap.size + 1 + 1) 0 (.int .i64 x.k :: (ct ++ [.bool x.g])) (unhide HO3) (fun j v hj => (by rw [Nat.zero_add]; exact hj)) rfl Try.underlying101 rfl (by rw [unhide HFN]; exact infoICa) ?_)
  | (refine wpList_store_box rfl _ _ rfl (w.heap.size + 1) 0 (.int .i64 x.k :: (ct ++ [.bool x.g])) (unhide HZ3) (by rw [unhide HFN]; decide) rfl rfl (by rw [unhide HFN]; exact infoICa) (unhide HF1) ?_
     intro V hV
     have HZV : Hid (Box V (w.heap.size + 1) 101 (.int .i64 x.k :: (ct ++ [.bool x.g]))) := (by
       rw [hV]
       have hp : puts [.int .i64 0, .int .i64 0, .string ⟨#[]⟩, .bool false, .int .i64 0, .int .i64 0, .int .i64 0, .int .i64 0, .string ⟨#[]⟩, .slice none 0 0, .int .i64 0, .int .i64 0, .bool false, .bool false, .bool false] 0 (.int .i64 x.k :: (ct ++ [.bool x.g])) = (.int .i64 x.k :: (ct ++ [.bool x.g])) := puts_all (by rw [unhide HFN]; rfl)
       have := Box.sets (.int .i64 x.k :: (ct ++ [.bool x.g])) 0 _ _ (unhide HZ3)
       rw [hp] at this
       exact this)
     have HBV : Hid (Below w.heap.size w V) := (by rw [hV]; exact setsG (unhide HB3) (by omega))
     have HCV : Hid (clAt V (w.heap.size + 3) x.c ct) := (by rw [hV]; exact clK.sets (x := x.c) (unhide HC3) (by omega))
     clear hV HO3 HZ3 HB3 HC3))
  exact bodyPost_ret (v := .agg (.int .i64 x.k :: (ct ++ [.bool x.g])).toArray) (results_box Try.results41 (unhide HZV) rfl Try.underlying101 rfl (by rw [unhide HFN]; exact infoICa)) rfl ⟨_, rfl, ⟨ct, rfl, clK.low (x := x.c) (unhide HCV) (by omega)⟩, unhide HBV⟩

set_option maxRecDepth 100000 in
set_option maxHeartbeats 2000000 in
theorem eqCa (x : Ca) (cs cs' : List Value) (w : World) (h : caAt w 0 x cs) (h' : caAt w 0 x cs') (hz : caw x ≤ 1048576) :
    Calls Try.prog 49 #[.agg cs.toArray, .agg cs'.toArray] w fun e w' => e = .returned (.bool true) ∧ Below w.heap.size w w' := by
  obtain ⟨cc, rfl, hc⟩ := h
  obtain ⟨cd, rfl, hd⟩ := h'
  have hc0 := hc
  have hd0 := hd
  obtain ⟨hh, op, n, s, a, len, cap, rfl, -⟩ := hc
  obtain ⟨hh', op', n', s', a', len', cap', rfl, -⟩ := hd
  show Calls Try.prog 49 #[.agg #[.int .i64 x.k, .int .i64 x.c.st, .string x.c.h, .bool x.c.mu, .int .i64 x.c.ep, .int .i64 x.c.bo, .int .i64 op, .int .i64 n, .string s, .slice a len cap, .int .i64 x.c.i, .int .i64 x.c.o, .bool x.c.tl, .bool x.c.pr, .bool x.g], .agg #[.int .i64 x.k, .int .i64 x.c.st, .string x.c.h, .bool x.c.mu, .int .i64 x.c.ep, .int .i64 x.c.bo, .int .i64 op', .int .i64 n', .string s', .slice a' len' cap', .int .i64 x.c.i, .int .i64 x.c.o, .bool x.c.tl, .bool x.c.pr, .bool x.g]] w _
  have hb0 : Below w.heap.size w ((w.alloc (.cells #[.int .i64 x.k, .int .i64 x.c.st, .string x.c.h, .bool x.c.mu, .int .i64 x.c.ep, .int .i64 x.c.bo, .int .i64 op, .int .i64 n, .string s, .slice a len cap, .int .i64 x.c.i, .int .i64 x.c.o, .bool x.c.tl, .bool x.c.pr, .bool x.g] 101)).alloc (.cells #[.int .i64 x.k, .int .i64 x.c.st, .string x.c.h, .bool x.c.mu, .int .i64 x.c.ep, .int .i64 x.c.bo, .int .i64 op', .int .i64 n', .string s', .slice a' len' cap', .int .i64 x.c.i, .int .i64 x.c.o, .bool x.c.tl, .bool x.c.pr, .bool x.g] 101)) := btG (abG _) (abG _)
  have HX : Hid (Box ((w.alloc (.cells #[.int .i64 x.k, .int .i64 x.c.st, .string x.c.h, .bool x.c.mu, .int .i64 x.c.ep, .int .i64 x.c.bo, .int .i64 op, .int .i64 n, .string s, .slice a len cap, .int .i64 x.c.i, .int .i64 x.c.o, .bool x.c.tl, .bool x.c.pr, .bool x.g] 101)).alloc (.cells #[.int .i64 x.k, .int .i64 x.c.st, .string x.c.h, .bool x.c.mu, .int .i64 x.c.ep, .int .i64 x.c.bo, .int .i64 op', .int .i64 n', .string s', .slice a' len' cap', .int .i64 x.c.i, .int .i64 x.c.o, .bool x.c.tl, .bool x.c.pr, .bool x.g] 101)) w.heap.size 101 [.int .i64 x.k, .int .i64 x.c.st, .string x.c.h, .bool x.c.mu, .int .i64 x.c.ep, .int .i64 x.c.bo, .int .i64 op, .int .i64 n, .string s, .slice a len cap, .int .i64 x.c.i, .int .i64 x.c.o, .bool x.c.tl, .bool x.c.pr, .bool x.g]) := (Box.new w 101 [.int .i64 x.k, .int .i64 x.c.st, .string x.c.h, .bool x.c.mu, .int .i64 x.c.ep, .int .i64 x.c.bo, .int .i64 op, .int .i64 n, .string s, .slice a len cap, .int .i64 x.c.i, .int .i64 x.c.o, .bool x.c.tl, .bool x.c.pr, .bool x.g]).on (abG (.cells #[.int .i64 x.k, .int .i64 x.c.st, .string x.c.h, .bool x.c.mu, .int .i64 x.c.ep, .int .i64 x.c.bo, .int .i64 op', .int .i64 n', .string s', .slice a' len' cap', .int .i64 x.c.i, .int .i64 x.c.o, .bool x.c.tl, .bool x.c.pr, .bool x.g] 101))
  have HY : Hid (Box ((w.alloc (.cells #[.int .i64 x.k, .int .i64 x.c.st, .string x.c.h, .bool x.c.mu, .int .i64 x.c.ep, .int .i64 x.c.bo, .int .i64 op, .int .i64 n, .string s, .slice a len cap, .int .i64 x.c.i, .int .i64 x.c.o, .bool x.c.tl, .bool x.c.pr, .bool x.g] 101)).alloc (.cells #[.int .i64 x.k, .int .i64 x.c.st, .string x.c.h, .bool x.c.mu, .int .i64 x.c.ep, .int .i64 x.c.bo, .int .i64 op', .int .i64 n', .string s', .slice a' len' cap', .int .i64 x.c.i, .int .i64 x.c.o, .bool x.c.tl, .bool x.c.pr, .bool x.g] 101)) (w.heap.size + 1) 101 [.int .i64 x.k, .int .i64 x.c.st, .string x.c.h, .bool x.c.mu, .int .i64 x.c.ep, .int .i64 x.c.bo, .int .i64 op', .int .i64 n', .string s', .slice a' len' cap', .int .i64 x.c.i, .int .i64 x.c.o, .bool x.c.tl, .bool x.c.pr, .bool x.g]) := by
    have := Box.new (w.alloc (.cells #[.int .i64 x.k, .int .i64 x.c.st, .string x.c.h, .bool x.c.mu, .int .i64 x.c.ep, .int .i64 x.c.bo, .int .i64 op, .int .i64 n, .string s, .slice a len cap, .int .i64 x.c.i, .int .i64 x.c.o, .bool x.c.tl, .bool x.c.pr, .bool x.g] 101)) 101 [.int .i64 x.k, .int .i64 x.c.st, .string x.c.h, .bool x.c.mu, .int .i64 x.c.ep, .int .i64 x.c.bo, .int .i64 op', .int .i64 n', .string s', .slice a' len' cap', .int .i64 x.c.i, .int .i64 x.c.o, .bool x.c.tl, .bool x.c.pr, .bool x.g]
    rwa [heap_size_alloc] at this
  have HC := hide (eqCl x.c _ _ _ (clK.on (w := w) (L := 0) (x := x.c) hc0 hb0) (clK.on (w := w) (L := 0) (x := x.c) hd0 hb0) hz)
  have HB0 := hide hb0
  clear hb0 hc0 hd0 hz
  go_enter Try.func49, Try.ntmps49
  go_wp2_with (first
  | (refine wpList_load_box rfl _ rfl w.heap.size 1 [.int .i64 x.c.st, .string x.c.h, .bool x.c.mu, .int .i64 x.c.ep, .int .i64 x.c.bo, .int .i64 op, .int .i64 n, .string s, .slice a len cap, .int .i64 x.c.i, .int .i64 x.c.o, .bool x.c.tl, .bool x.c.pr] (unhide HX) (fun j v hj => (by rw [Nat.add_comm, List.getElem?_cons_succ]; exact (List.getElem?_append_left (l₁ := [.int .i64 x.c.st, .string x.c.h, .bool x.c.mu, .int .i64 x.c.ep, .int .i64 x.c.bo, .int .i64 op, .int .i64 n, .string s, .slice a len cap, .int .i64 x.c.i, .int .i64 x.c.o, .bool x.c.tl, .bool x.c.pr]) (l₂ := [.bool x.g]) (List.getElem?_eq_some_iff.1 hj).1).trans hj)) rfl Try.underlying99 rfl infoICl ?_)
  | (refine wpList_load_box rfl _ rfl (w.heap.size + 1) 1 [.int .i64 x.c.st, .string x.c.h, .bool x.c.mu, .int .i64 x.c.ep, .int .i64 x.c.bo, .int .i64 op', .int .i64 n', .string s', .slice a' len' cap', .int .i64 x.c.i, .int .i64 x.c.o, .bool x.c.tl, .bool x.c.pr] (unhide HY) (fun j v hj => (by rw [Nat.add_comm, List.getElem?_cons_succ]; exact (List.getElem?_append_left (l₁ := [.int .i64 x.c.st, .string x.c.h, .bool x.c.mu, .int .i64 x.c.ep, .int .i64 x.c.bo, .int .i64 op', .int .i64 n', .string s', .slice a' len' cap', .int .i64 x.c.i, .int .i64 x.c.o, .bool x.c.tl, .bool x.c.pr]) (l₂ := [.bool x.g]) (List.getElem?_eq_some_iff.1 hj).1).trans hj)) rfl Try.underlying99 rfl infoICl ?_))
  refine (unhide HC).mono ?_
  rintro e w2 ⟨rfl, hb2⟩
  have c14 : w2.cell? ⟨w.heap.size, 14, none⟩ = some (_) := ((unhide HX).on hb2).cell rfl
  have d14 : w2.cell? ⟨w.heap.size + 1, 14, none⟩ = some (_) := ((unhide HY).on hb2).cell rfl
  have HB2 := hide (btG (unhide HB0) hb2)
  clear hb2
  generalize x.g = G at *
  cases G
  all_goals
    go_wp2_with fail
    go_ret
    exact ⟨rfl, unhide HB2⟩


end Go.Proofs.Ytepmgjklonhkgaa
