
/- Clients and calls: the walks of laws.szClient, toClient, eqClient, szCall; nothing that was there is written. Calls: the walks of laws.toCall, eqCall; nothing that was there is written. Lists of calls: the walks of laws.szCallS, toCallS, eqCallS; nothing that was there is written. -/
import Derived.Test.YtbbidjckplpaiaaGreatDoorWk
import Derived.Test.YtbbidjckplpaiaaGreatDoorCk
import Derived.Deep.MidRow
import Derived.Deep.RegionHeld3
namespace Go.Proofs.YtbbidjckplpaiaaGreatDoor
open Go.RowKit Go.Deep

theorem infoLCl : (Tryz.prog.info? 89).map (·.size) = some 13 := by kernel_rfl
theorem infoICl : (Tryz.prog.info? 110).map (·.size) = some 13 := by kernel_rfl

theorem infoLCa : (Tryz.prog.info? 91).map (·.size) = some 15 := by kernel_rfl
theorem infoICa : (Tryz.prog.info? 112).map (·.size) = some 15 := by kernel_rfl

theorem szCl (x : Cl) (cs : List Value) (l0 : Int) (w : World) (h : clAt w 0 x cs) (hl0 : 0 ≤ l0) (hl1 : l0 ≤ 1048576) :
    Calls Tryz.prog 71 #[.agg cs.toArray, .int .i64 l0] w fun e w' => e = .returned (.int .i64 (szv l0 (clw x))) ∧ Below w.heap.size w w' := by
  obtain ⟨hh, op, n, s, a, len, cap, rfl, hl⟩ := h
  exact szK x.t x.st x.h x.mu x.ep x.bo op n s a len cap x.i x.o x.tl x.pr l0 w hl0 hl1 hl hh
theorem toCl (x : Cl) (cs : List Value) (w : World) (h : clAt w 0 x cs) (hz : clw x ≤ 1048576) :
    Calls Tryz.prog 83 #[.agg cs.toArray] w fun e w' => ∃ ct, e = .returned (.agg ct.toArray) ∧ clAt w' w.heap.size x ct ∧ Below w.heap.size w w' := by
  obtain ⟨hh, op, n, s, a, len, cap, rfl, hl⟩ := h
  refine (toK x.t x.st x.h x.mu x.ep x.bo op n s a len cap x.i x.o x.tl x.pr w hl (by have := x.t.size_le; unfold clw at hz; omega)).mono ?_
  rintro e w' ⟨a', rfl, h1, h2⟩
  exact ⟨[.int .i64 x.st, .string x.h, .bool x.mu, .int .i64 x.ep, .int .i64 x.bo, .int .i64 op, .int .i64 n, .string s, .slice a' len len, .int .i64 x.i, .int .i64 x.o, .bool x.tl, .bool x.pr], rfl, ⟨hh, op, n, s, a', len, len, rfl, h1⟩, h2⟩
theorem eqCl (x : Cl) (cs cs' : List Value) (w : World) (h : clAt w 0 x cs) (h' : clAt w 0 x cs') (_ : clw x ≤ 1048576) :
    Calls Tryz.prog 104 #[.agg cs.toArray, .agg cs'.toArray] w fun e w' => e = .returned (.bool true) ∧ Below w.heap.size w w' := by
  obtain ⟨-, op, n, s, a, len, cap, rfl, hl⟩ := h
  obtain ⟨-, op', n', s', a', len', cap', rfl, hl'⟩ := h'
  exact eqK x.t x.st x.h x.mu x.ep x.bo op n s a len cap x.i x.o x.tl x.pr op' n' s' a' len' cap' w hl hl'
def caw (x : Ca) : Nat := clw x.c

set_option maxRecDepth 100000 in
set_option maxHeartbeats 2000000 in
theorem szCa (x : Ca) (cs : List Value) (l0 : Int) (w : World) (h : caAt w 0 x cs) (hl0 : 0 ≤ l0) (hl1 : l0 ≤ 1048576) :
    Calls Tryz.prog 40 #[.agg cs.toArray, .int .i64 l0] w fun e w' => e = .returned (.int .i64 (szv l0 (caw x))) ∧ Below w.heap.size w w' := by
  obtain ⟨cc, rfl, hc⟩ := h
  have hcl := clK.len (w := w) (L := 0) (x := x.c) hc
  have hX := Box.new w 91 (.int .i64 x.k :: (cc ++ [.bool x.g]))
  have HX := hide hX
  have HL := hide (show cc.length = 13 from hcl)
  have HR := hide (show ∀ j v, cc[j]? = some v → (Value.int .i64 x.k :: (cc ++ [.bool x.g]))[1 + j]? = some v from fun j v hj => by
    rw [Nat.add_comm, List.getElem?_cons_succ, List.getElem?_append_left (List.getElem?_eq_some_iff.1 hj).1]; exact hj)
  have HC := hide (szCl x.c cc l0 _ (clK.on (w := w) (L := 0) (x := x.c) hc (abG (.cells (.int .i64 x.k :: (cc ++ [.bool x.g])).toArray 91))) hl0 hl1)
  have HF := hide hl1
  clear hX hcl hc
  generalize hcs : Value.int .i64 x.k :: (cc ++ [.bool x.g]) = cs at *
  have hcw : caw x = clw x.c := rfl
  rw [hcw]
  generalize clw x.c = q at *
  clear hcw hcs
  by_cases hw : (q : Int) ≤ l0
  · rw [szv_yes hw] at HC ⊢
    have hsv : ¬ l0 - (q : Int) < 0 := by omega
    go_enter Tryz.func40, Tryz.ntmps40
    go_wp2_with (refine wpList_load_box rfl _ rfl w.heap.size 1 cc (unhide HX) (unhide HR) rfl Tryz.underlying89 rfl (by rw [unhide HL]; exact infoLCl) ?_)
    refine (unhide HC).mono ?_
    rintro e w2 ⟨rfl, hb2⟩
    have HB2 := hide (btG (abG _) hb2)
    clear hb2
    go_wp2_with fail
    go_ret
    exact ⟨rfl, unhide HB2⟩
  · rw [szv_no (by omega)] at HC ⊢
    go_enter Tryz.func40, Tryz.ntmps40
    go_wp2_with (refine wpList_load_box rfl _ rfl w.heap.size 1 cc (unhide HX) (unhide HR) rfl Tryz.underlying89 rfl (by rw [unhide HL]; exact infoLCl) ?_)
    refine (unhide HC).mono ?_
    rintro e w2 ⟨rfl, hb2⟩
    have HB2 := hide (btG (abG _) hb2)
    clear hb2
    go_wp2_with fail
    go_ret
    exact ⟨rfl, unhide HB2⟩

set_option maxRecDepth 100000 in
set_option maxHeartbeats 2000000 in
theorem toCa (x : Ca) (cs : List Value) (w : World) (h : caAt w 0 x cs) (hz : caw x ≤ 1048576) :
    Calls Tryz.prog 54 #[.agg cs.toArray] w fun e w' => ∃ ct, e = .returned (.agg ct.toArray) ∧ caAt w' w.heap.size x ct ∧ Below w.heap.size w w' := by
  obtain ⟨cc, rfl, hc⟩ := h
  have hc' := hc
  obtain ⟨hh, op, n, s, a, len, cap, rfl, hl⟩ := hc
  show Calls Tryz.prog 54 #[.agg #[.int .i64 x.k, .int .i64 x.c.st, .string x.c.h, .bool x.c.mu, .int .i64 x.c.ep, .int .i64 x.c.bo, .int .i64 op, .int .i64 n, .string s, .slice a len cap, .int .i64 x.c.i, .int .i64 x.c.o, .bool x.c.tl, .bool x.c.pr, .bool x.g]] w _
  have hb0 : Below w.heap.size w (((w.alloc (.cells #[.int .i64 x.k, .int .i64 x.c.st, .string x.c.h, .bool x.c.mu, .int .i64 x.c.ep, .int .i64 x.c.bo, .int .i64 op, .int .i64 n, .string s, .slice a len cap, .int .i64 x.c.i, .int .i64 x.c.o, .bool x.c.tl, .bool x.c.pr, .bool x.g] 91)).alloc (.cells #[.int .i64 0, .int .i64 0, .string ⟨#[]⟩, .bool false, .int .i64 0, .int .i64 0, .int .i64 0, .int .i64 0, .string ⟨#[]⟩, .slice none 0 0, .int .i64 0, .int .i64 0, .bool false, .bool false, .bool false] 112)).alloc (.cells #[.int .i64 x.k, .int .i64 0, .string ⟨#[]⟩, .bool false, .int .i64 0, .int .i64 0, .int .i64 0, .int .i64 0, .string ⟨#[]⟩, .slice none 0 0, .int .i64 0, .int .i64 0, .bool false, .bool false, .bool false] 112)) := btG (btG (abG _) (abG _)) (abG _)
  have HX : Hid (Box (((w.alloc (.cells #[.int .i64 x.k, .int .i64 x.c.st, .string x.c.h, .bool x.c.mu, .int .i64 x.c.ep, .int .i64 x.c.bo, .int .i64 op, .int .i64 n, .string s, .slice a len cap, .int .i64 x.c.i, .int .i64 x.c.o, .bool x.c.tl, .bool x.c.pr, .bool x.g] 91)).alloc (.cells #[.int .i64 0, .int .i64 0, .string ⟨#[]⟩, .bool false, .int .i64 0, .int .i64 0, .int .i64 0, .int .i64 0, .string ⟨#[]⟩, .slice none 0 0, .int .i64 0, .int .i64 0, .bool false, .bool false, .bool false] 112)).alloc (.cells #[.int .i64 x.k, .int .i64 0, .string ⟨#[]⟩, .bool false, .int .i64 0, .int .i64 0, .int .i64 0, .int .i64 0, .string ⟨#[]⟩, .slice none 0 0, .int .i64 0, .int .i64 0, .bool false, .bool false, .bool false] 112)) w.heap.size 91 [.int .i64 x.k, .int .i64 x.c.st, .string x.c.h, .bool x.c.mu, .int .i64 x.c.ep, .int .i64 x.c.bo, .int .i64 op, .int .i64 n, .string s, .slice a len cap, .int .i64 x.c.i, .int .i64 x.c.o, .bool x.c.tl, .bool x.c.pr, .bool x.g]) := ((Box.new w 91 [.int .i64 x.k, .int .i64 x.c.st, .string x.c.h, .bool x.c.mu, .int .i64 x.c.ep, .int .i64 x.c.bo, .int .i64 op, .int .i64 n, .string s, .slice a len cap, .int .i64 x.c.i, .int .i64 x.c.o, .bool x.c.tl, .bool x.c.pr, .bool x.g]).on (abG (.cells #[.int .i64 0, .int .i64 0, .string ⟨#[]⟩, .bool false, .int .i64 0, .int .i64 0, .int .i64 0, .int .i64 0, .string ⟨#[]⟩, .slice none 0 0, .int .i64 0, .int .i64 0, .bool false, .bool false, .bool false] 112))).on (abG (.cells #[.int .i64 x.k, .int .i64 0, .string ⟨#[]⟩, .bool false, .int .i64 0, .int .i64 0, .int .i64 0, .int .i64 0, .string ⟨#[]⟩, .slice none 0 0, .int .i64 0, .int .i64 0, .bool false, .bool false, .bool false] 112))
  have HZ : Hid (Box (((w.alloc (.cells #[.int .i64 x.k, .int .i64 x.c.st, .string x.c.h, .bool x.c.mu, .int .i64 x.c.ep, .int .i64 x.c.bo, .int .i64 op, .int .i64 n, .string s, .slice a len cap, .int .i64 x.c.i, .int .i64 x.c.o, .bool x.c.tl, .bool x.c.pr, .bool x.g] 91)).alloc (.cells #[.int .i64 0, .int .i64 0, .string ⟨#[]⟩, .bool false, .int .i64 0, .int .i64 0, .int .i64 0, .int .i64 0, .string ⟨#[]⟩, .slice none 0 0, .int .i64 0, .int .i64 0, .bool false, .bool false, .bool false] 112)).alloc (.cells #[.int .i64 x.k, .int .i64 0, .string ⟨#[]⟩, .bool false, .int .i64 0, .int .i64 0, .int .i64 0, .int .i64 0, .string ⟨#[]⟩, .slice none 0 0, .int .i64 0, .int .i64 0, .bool false, .bool false, .bool false] 112)) (w.heap.size + 1) 112 [.int .i64 0, .int .i64 0, .string ⟨#[]⟩, .bool false, .int .i64 0, .int .i64 0, .int .i64 0, .int .i64 0, .string ⟨#[]⟩, .slice none 0 0, .int .i64 0, .int .i64 0, .bool false, .bool false, .bool false]) := by
    have := (Box.new (w.alloc (.cells #[.int .i64 x.k, .int .i64 x.c.st, .string x.c.h, .bool x.c.mu, .int .i64 x.c.ep, .int .i64 x.c.bo, .int .i64 op, .int .i64 n, .string s, .slice a len cap, .int .i64 x.c.i, .int .i64 x.c.o, .bool x.c.tl, .bool x.c.pr, .bool x.g] 91)) 112 [.int .i64 0, .int .i64 0, .string ⟨#[]⟩, .bool false, .int .i64 0, .int .i64 0, .int .i64 0, .int .i64 0, .string ⟨#[]⟩, .slice none 0 0, .int .i64 0, .int .i64 0, .bool false, .bool false, .bool false]).on (abG (.cells #[.int .i64 x.k, .int .i64 0, .string ⟨#[]⟩, .bool false, .int .i64 0, .int .i64 0, .int .i64 0, .int .i64 0, .string ⟨#[]⟩, .slice none 0 0, .int .i64 0, .int .i64 0, .bool false, .bool false, .bool false] 112))
    rwa [heap_size_alloc] at this
  have HO : Hid (Box (((w.alloc (.cells #[.int .i64 x.k, .int .i64 x.c.st, .string x.c.h, .bool x.c.mu, .int .i64 x.c.ep, .int .i64 x.c.bo, .int .i64 op, .int .i64 n, .string s, .slice a len cap, .int .i64 x.c.i, .int .i64 x.c.o, .bool x.c.tl, .bool x.c.pr, .bool x.g] 91)).alloc (.cells #[.int .i64 0, .int .i64 0, .string ⟨#[]⟩, .bool false, .int .i64 0, .int .i64 0, .int .i64 0, .int .i64 0, .string ⟨#[]⟩, .slice none 0 0, .int .i64 0, .int .i64 0, .bool false, .bool false, .bool false] 112)).alloc (.cells #[.int .i64 x.k, .int .i64 0, .string ⟨#[]⟩, .bool false, .int .i64 0, .int .i64 0, .int .i64 0, .int .i64 0, .string ⟨#[]⟩, .slice none 0 0, .int .i64 0, .int .i64 0, .bool false, .bool false, .bool false] 112)) (w.heap.size + 1 + 1) 112 [.int .i64 x.k, .int .i64 0, .string ⟨#[]⟩, .bool false, .int .i64 0, .int .i64 0, .int .i64 0, .int .i64 0, .string ⟨#[]⟩, .slice none 0 0, .int .i64 0, .int .i64 0, .bool false, .bool false, .bool false]) := by
    have := Box.new ((w.alloc (.cells #[.int .i64 x.k, .int .i64 x.c.st, .string x.c.h, .bool x.c.mu, .int .i64 x.c.ep, .int .i64 x.c.bo, .int .i64 op, .int .i64 n, .string s, .slice a len cap, .int .i64 x.c.i, .int .i64 x.c.o, .bool x.c.tl, .bool x.c.pr, .bool x.g] 91)).alloc (.cells #[.int .i64 0, .int .i64 0, .string ⟨#[]⟩, .bool false, .int .i64 0, .int .i64 0, .int .i64 0, .int .i64 0, .string ⟨#[]⟩, .slice none 0 0, .int .i64 0, .int .i64 0, .bool false, .bool false, .bool false] 112)) 112 [.int .i64 x.k, .int .i64 0, .string ⟨#[]⟩, .bool false, .int .i64 0, .int .i64 0, .int .i64 0, .int .i64 0, .string ⟨#[]⟩, .slice none 0 0, .int .i64 0, .int .i64 0, .bool false, .bool false, .bool false]
    rwa [heap_size_alloc, heap_size_alloc] at this
  have HC := hide (toCl x.c _ _ (clK.on (w := w) (L := 0) (x := x.c) hc' hb0) hz)
  have HB0 := hide hb0
  clear hb0 hc' hl hz
  go_enter Tryz.func54, Tryz.ntmps54
  go_wp2_with (refine wpList_load_box rfl _ rfl w.heap.size 1 [.int .i64 x.c.st, .string x.c.h, .bool x.c.mu, .int .i64 x.c.ep, .int .i64 x.c.bo, .int .i64 op, .int .i64 n, .string s, .slice a len cap, .int .i64 x.c.i, .int .i64 x.c.o, .bool x.c.tl, .bool x.c.pr] (unhide HX) (fun j v hj => (by rw [Nat.add_comm, List.getElem?_cons_succ]; exact (List.getElem?_append_left (l₁ := [.int .i64 x.c.st, .string x.c.h, .bool x.c.mu, .int .i64 x.c.ep, .int .i64 x.c.bo, .int .i64 op, .int .i64 n, .string s, .slice a len cap, .int .i64 x.c.i, .int .i64 x.c.o, .bool x.c.tl, .bool x.c.pr]) (l₂ := [.bool x.g]) (List.getElem?_eq_some_iff.1 hj).1).trans hj)) rfl Tryz.underlying89 rfl infoLCl ?_)
  refine (unhide HC).mono ?_
  rintro e w2 ⟨ct, rfl, hct, hb2⟩
  have hln : ct.length = 13 := clK.len (w := w2) (L := _) (x := x.c) hct
  have hon := hide (clK.one (w := w2) (L := _) (x := x.c) hct)
  have HL := hide hln
  have hsz : w.heap.size + 3 ≤ w2.heap.size := by have := hb2.size; simpa using this
  have HCT : Hid (clAt w2 (w.heap.size + 3) x.c ct) := hide (clK.low (w := w2) (x := x.c) hct (by simp))
  have HX2 := hide ((unhide HX).on hb2)
  have HZ2 := hide ((unhide HZ).on hb2)
  have HO2 := hide ((unhide HO).on hb2)
  have HB2 := hide (btG (unhide HB0) hb2)
  clear hct hb2 hln HX HZ HO HB0 hsz HC
  have HFN : Hid ((.int .i64 x.k :: (ct ++ [.bool x.g])).length = 15) := by
    have hl := unhide HL
    show _ = _
    simp [hl]
  have HF1 : Hid (∀ v ∈ (.int .i64 x.k :: (ct ++ [.bool x.g])), v.oneCell' = true) := fun v hv => by
    simp only [List.mem_cons, List.mem_append, List.not_mem_nil, or_false] at hv
    rcases hv with rfl | hv | rfl
    · rfl
    · exact unhide hon v hv
    · rfl
  go_wp2_with (first
  | (refine wpList_store_box rfl _ _ rfl (w.heap.size + 1 + 1) 1 ct (unhide HO2) (by have := unhide HL; simp [this]) rfl rfl (by rw [unhide HL]; exact infoICl) (unhide hon) ?_
     intro W hW
     have HBW := hide (show Below w.heap.size w W from by rw [hW]; exact setsG (unhide HB2) (by omega))
     have HCW := hide (show clAt W (w.heap.size + 3) x.c ct from by rw [hW]; exact clK.sets (x := x.c) (unhide HCT) (by omega))
     have HXW := hide (show Box W w.heap.size 91 [.int .i64 x.k, .int .i64 x.c.st, .string x.c.h, .bool x.c.mu, .int .i64 x.c.ep, .int .i64 x.c.bo, .int .i64 op, .int .i64 n, .string s, .slice a len cap, .int .i64 x.c.i, .int .i64 x.c.o, .bool x.c.tl, .bool x.c.pr, .bool x.g] from by rw [hW]; exact (unhide HX2).fars (by omega) _ _)
     have HZW := hide (show Box W (w.heap.size + 1) 112 [.int .i64 0, .int .i64 0, .string ⟨#[]⟩, .bool false, .int .i64 0, .int .i64 0, .int .i64 0, .int .i64 0, .string ⟨#[]⟩, .slice none 0 0, .int .i64 0, .int .i64 0, .bool false, .bool false, .bool false] from by rw [hW]; exact (unhide HZ2).fars (by omega) _ _)
     have HOW := hide (show Box W (w.heap.size + 1 + 1) 112 (.int .i64 x.k :: (ct ++ [.bool false])) from by
       rw [hW]
       have hp : puts [.int .i64 x.k, .int .i64 0, .string ⟨#[]⟩, .bool false, .int .i64 0, .int .i64 0, .int .i64 0, .int .i64 0, .string ⟨#[]⟩, .slice none 0 0, .int .i64 0, .int .i64 0, .bool false, .bool false, .bool false] 1 ct = .int .i64 x.k :: (ct ++ [.bool false]) := puts_mid (a := [.int .i64 x.k]) (z := [.int .i64 0, .string ⟨#[]⟩, .bool false, .int .i64 0, .int .i64 0, .int .i64 0, .int .i64 0, .string ⟨#[]⟩, .slice none 0 0, .int .i64 0, .int .i64 0, .bool false, .bool false]) (b := [.bool false]) (unhide HL)
       rw [← hp]
       exact Box.sets ct 1 _ _ (unhide HO2))
     clear hW HX2 HZ2 HO2 HB2 HCT
     have c14 : W.cell? ⟨w.heap.size, 14, none⟩ = some (.bool x.g) := (unhide HXW).cell rfl
     have hl := unhide HL
     have d14 : W.cell? ⟨w.heap.size + 1 + 1, 14, none⟩ = some (.bool false) := (unhide HOW).cell (by simp [hl])
     have f14 : W.frozen? ⟨w.heap.size + 1 + 1, 14, none⟩ = false := (unhide HOW).free _
     have HO3 : Hid (Box (W.setCell ⟨w.heap.size + 1 + 1, 14, none⟩ (.bool x.g)) (w.heap.size + 1 + 1) 112 (.int .i64 x.k :: (ct ++ [.bool x.g]))) := by
       have hs : (Value.int .i64 x.k :: (ct ++ [.bool false])).set 14 (.bool x.g) = (.int .i64 x.k :: (ct ++ [.bool x.g])) := by
         rw [List.set_cons_succ, List.set_append_right _ _ (by omega), hl]; rfl
       rw [← hs]
       exact (unhide HOW).set _ _
     have HZ3 : Hid (Box (W.setCell ⟨w.heap.size + 1 + 1, 14, none⟩ (.bool x.g)) (w.heap.size + 1) 112 [.int .i64 0, .int .i64 0, .string ⟨#[]⟩, .bool false, .int .i64 0, .int .i64 0, .int .i64 0, .int .i64 0, .string ⟨#[]⟩, .slice none 0 0, .int .i64 0, .int .i64 0, .bool false, .bool false, .bool false]) := (unhide HZW).far (by omega) _ _
     have HB3 : Hid (Below w.heap.size w (W.setCell ⟨w.heap.size + 1 + 1, 14, none⟩ (.bool x.g))) := setG (unhide HBW) (by omega)
     have HC3 : Hid (clAt (W.setCell ⟨w.heap.size + 1 + 1, 14, none⟩ (.bool x.g)) (w.heap.size + 3) x.c ct) := clK.set (x := x.c) (unhide HCW) (by omega)
     clear hl HXW HOW HZW HBW HCW)
  | (refine wpList_load_box rfl _ rfl (w.heap.size + 1 + 1) 0 (.int .i64 x.k :: (ct ++ [.bool x.g])) (unhide HO3) (fun j v hj => (by rw [Nat.zero_add]; exact hj)) rfl Tryz.underlying112 rfl (by rw [unhide HFN]; exact infoICa) ?_)
  | (refine wpList_store_box rfl _ _ rfl (w.heap.size + 1) 0 (.int .i64 x.k :: (ct ++ [.bool x.g])) (unhide HZ3) (by rw [unhide HFN]; decide) rfl rfl (by rw [unhide HFN]; exact infoICa) (unhide HF1) ?_
     intro V hV
     have HZV : Hid (Box V (w.heap.size + 1) 112 (.int .i64 x.k :: (ct ++ [.bool x.g]))) := (by
       rw [hV]
       have hp : puts [.int .i64 0, .int .i64 0, .string ⟨#[]⟩, .bool false, .int .i64 0, .int .i64 0, .int .i64 0, .int .i64 0, .string ⟨#[]⟩, .slice none 0 0, .int .i64 0, .int .i64 0, .bool false, .bool false, .bool false] 0 (.int .i64 x.k :: (ct ++ [.bool x.g])) = (.int .i64 x.k :: (ct ++ [.bool x.g])) := puts_all (by rw [unhide HFN]; rfl)
       have := Box.sets (.int .i64 x.k :: (ct ++ [.bool x.g])) 0 _ _ (unhide HZ3)
       rw [hp] at this
       exact this)
     have HBV : Hid (Below w.heap.size w V) := (by rw [hV]; exact setsG (unhide HB3) (by omega))
     have HCV : Hid (clAt V (w.heap.size + 3) x.c ct) := (by rw [hV]; exact clK.sets (x := x.c) (unhide HC3) (by omega))
     clear hV HO3 HZ3 HB3 HC3))
  exact bodyPost_ret (v := .agg (.int .i64 x.k :: (ct ++ [.bool x.g])).toArray) (results_box Tryz.results54 (unhide HZV) rfl Tryz.underlying112 rfl (by rw [unhide HFN]; exact infoICa)) rfl ⟨_, rfl, ⟨ct, rfl, clK.low (x := x.c) (unhide HCV) (by omega)⟩, unhide HBV⟩

set_option maxRecDepth 100000 in
set_option maxHeartbeats 2000000 in
theorem eqCa (x : Ca) (cs cs' : List Value) (w : World) (h : caAt w 0 x cs) (h' : caAt w 0 x cs') (hz : caw x ≤ 1048576) :
    Calls Tryz.prog 68 #[.agg cs.toArray, .agg cs'.toArray] w fun e w' => e = .returned (.bool true) ∧ Below w.heap.size w w' := by
  obtain ⟨cc, rfl, hc⟩ := h
  obtain ⟨cd, rfl, hd⟩ := h'
  have hc0 := hc
  have hd0 := hd
  obtain ⟨hh, op, n, s, a, len, cap, rfl, -⟩ := hc
  obtain ⟨hh', op', n', s', a', len', cap', rfl, -⟩ := hd
  show Calls Tryz.prog 68 #[.agg #[.int .i64 x.k, .int .i64 x.c.st, .string x.c.h, .bool x.c.mu, .int .i64 x.c.ep, .int .i64 x.c.bo, .int .i64 op, .int .i64 n, .string s, .slice a len cap, .int .i64 x.c.i, .int .i64 x.c.o, .bool x.c.tl, .bool x.c.pr, .bool x.g], .agg #[.int .i64 x.k, .int .i64 x.c.st, .string x.c.h, .bool x.c.mu, .int .i64 x.c.ep, .int .i64 x.c.bo, .int .i64 op', .int .i64 n', .string s', .slice a' len' cap', .int .i64 x.c.i, .int .i64 x.c.o, .bool x.c.tl, .bool x.c.pr, .bool x.g]] w _
  have hb0 : Below w.heap.size w ((w.alloc (.cells #[.int .i64 x.k, .int .i64 x.c.st, .string x.c.h, .bool x.c.mu, .int .i64 x.c.ep, .int .i64 x.c.bo, .int .i64 op, .int .i64 n, .string s, .slice a len cap, .int .i64 x.c.i, .int .i64 x.c.o, .bool x.c.tl, .bool x.c.pr, .bool x.g] 112)).alloc (.cells #[.int .i64 x.k, .int .i64 x.c.st, .string x.c.h, .bool x.c.mu, .int .i64 x.c.ep, .int .i64 x.c.bo, .int .i64 op', .int .i64 n', .string s', .slice a' len' cap', .int .i64 x.c.i, .int .i64 x.c.o, .bool x.c.tl, .bool x.c.pr, .bool x.g] 112)) := btG (abG _) (abG _)
  have HX : Hid (Box ((w.alloc (.cells #[.int .i64 x.k, .int .i64 x.c.st, .string x.c.h, .bool x.c.mu, .int .i64 x.c.ep, .int .i64 x.c.bo, .int .i64 op, .int .i64 n, .string s, .slice a len cap, .int .i64 x.c.i, .int .i64 x.c.o, .bool x.c.tl, .bool x.c.pr, .bool x.g] 112)).alloc (.cells #[.int .i64 x.k, .int .i64 x.c.st, .string x.c.h, .bool x.c.mu, .int .i64 x.c.ep, .int .i64 x.c.bo, .int .i64 op', .int .i64 n', .string s', .slice a' len' cap', .int .i64 x.c.i, .int .i64 x.c.o, .bool x.c.tl, .bool x.c.pr, .bool x.g] 112)) w.heap.size 112 [.int .i64 x.k, .int .i64 x.c.st, .string x.c.h, .bool x.c.mu, .int .i64 x.c.ep, .int .i64 x.c.bo, .int .i64 op, .int .i64 n, .string s, .slice a len cap, .int .i64 x.c.i, .int .i64 x.c.o, .bool x.c.tl, .bool x.c.pr, .bool x.g]) := (Box.new w 112 [.int .i64 x.k, .int .i64 x.c.st, .string x.c.h, .bool x.c.mu, .int .i64 x.c.ep, .int .i64 x.c.bo, .int .i64 op, .int .i64 n, .string s, .slice a len cap, .int .i64 x.c.i, .int .i64 x.c.o, .bool x.c.tl, .bool x.c.pr, .bool x.g]).on (abG (.cells #[.int .i64 x.k, .int .i64 x.c.st, .string x.c.h, .bool x.c.mu, .int .i64 x.c.ep, .int .i64 x.c.bo, .int .i64 op', .int .i64 n', .string s', .slice a' len' cap', .int .i64 x.c.i, .int .i64 x.c.o, .bool x.c.tl, .bool x.c.pr, .bool x.g] 112))
  have HY : Hid (Box ((w.alloc (.cells #[.int .i64 x.k, .int .i64 x.c.st, .string x.c.h, .bool x.c.mu, .int .i64 x.c.ep, .int .i64 x.c.bo, .int .i64 op, .int .i64 n, .string s, .slice a len cap, .int .i64 x.c.i, .int .i64 x.c.o, .bool x.c.tl, .bool x.c.pr, .bool x.g] 112)).alloc (.cells #[.int .i64 x.k, .int .i64 x.c.st, .string x.c.h, .bool x.c.mu, .int .i64 x.c.ep, .int .i64 x.c.bo, .int .i64 op', .int .i64 n', .string s', .slice a' len' cap', .int .i64 x.c.i, .int .i64 x.c.o, .bool x.c.tl, .bool x.c.pr, .bool x.g] 112)) (w.heap.size + 1) 112 [.int .i64 x.k, .int .i64 x.c.st, .string x.c.h, .bool x.c.mu, .int .i64 x.c.ep, .int .i64 x.c.bo, .int .i64 op', .int .i64 n', .string s', .slice a' len' cap', .int .i64 x.c.i, .int .i64 x.c.o, .bool x.c.tl, .bool x.c.pr, .bool x.g]) := by
    have := Box.new (w.alloc (.cells #[.int .i64 x.k, .int .i64 x.c.st, .string x.c.h, .bool x.c.mu, .int .i64 x.c.ep, .int .i64 x.c.bo, .int .i64 op, .int .i64 n, .string s, .slice a len cap, .int .i64 x.c.i, .int .i64 x.c.o, .bool x.c.tl, .bool x.c.pr, .bool x.g] 112)) 112 [.int .i64 x.k, .int .i64 x.c.st, .string x.c.h, .bool x.c.mu, .int .i64 x.c.ep, .int .i64 x.c.bo, .int .i64 op', .int .i64 n', .string s', .slice a' len' cap', .int .i64 x.c.i, .int .i64 x.c.o, .bool x.c.tl, .bool x.c.pr, .bool x.g]
    rwa [heap_size_alloc] at this
  have HC := hide (eqCl x.c _ _ _ (clK.on (w := w) (L := 0) (x := x.c) hc0 hb0) (clK.on (w := w) (L := 0) (x := x.c) hd0 hb0) hz)
  have HB0 := hide hb0
  clear hb0 hc0 hd0 hz
  go_enter Tryz.func68, Tryz.ntmps68
  go_wp2_with (first
  | (refine wpList_load_box rfl _ rfl w.heap.size 1 [.int .i64 x.c.st, .string x.c.h, .bool x.c.mu, .int .i64 x.c.ep, .int .i64 x.c.bo, .int .i64 op, .int .i64 n, .string s, .slice a len cap, .int .i64 x.c.i, .int .i64 x.c.o, .bool x.c.tl, .bool x.c.pr] (unhide HX) (fun j v hj => (by rw [Nat.add_comm, List.getElem?_cons_succ]; exact (List.getElem?_append_left (l₁ := [.int .i64 x.c.st, .string x.c.h, .bool x.c.mu, .int .i64 x.c.ep, .int .i64 x.c.bo, .int .i64 op, .int .i64 n, .string s, .slice a len cap, .int .i64 x.c.i, .int .i64 x.c.o, .bool x.c.tl, .bool x.c.pr]) (l₂ := [.bool x.g]) (List.getElem?_eq_some_iff.1 hj).1).trans hj)) rfl Tryz.underlying110 rfl infoICl ?_)
  | (refine wpList_load_box rfl _ rfl (w.heap.size + 1) 1 [.int .i64 x.c.st, .string x.c.h, .bool x.c.mu, .int .i64 x.c.ep, .int .i64 x.c.bo, .int .i64 op', .int .i64 n', .string s', .slice a' len' cap', .int .i64 x.c.i, .int .i64 x.c.o, .bool x.c.tl, .bool x.c.pr] (unhide HY) (fun j v hj => (by rw [Nat.add_comm, List.getElem?_cons_succ]; exact (List.getElem?_append_left (l₁ := [.int .i64 x.c.st, .string x.c.h, .bool x.c.mu, .int .i64 x.c.ep, .int .i64 x.c.bo, .int .i64 op', .int .i64 n', .string s', .slice a' len' cap', .int .i64 x.c.i, .int .i64 x.c.o, .bool x.c.tl, .bool x.c.pr]) (l₂ := [.bool x.g]) (List.getElem?_eq_some_iff.1 hj).1).trans hj)) rfl Tryz.underlying110 rfl infoICl ?_))
  refine (unhide HC).mono ?_
  rintro e w2 ⟨rfl, hb2⟩
  have c14 : w2.cell? ⟨w.heap.size, 14, none⟩ = some (_) := ((unhide HX).on hb2).cell rfl
  have d14 : w2.cell? ⟨w.heap.size + 1, 14, none⟩ = some (_) := ((unhide HY).on hb2).cell rfl
  have HB2 := hide (btG (unhide HB0) hb2)
  clear hb2
  generalize x.g = G at *
  cases G
  all_goals
    go_wp2_with fail
    go_ret
    exact ⟨rfl, unhide HB2⟩

set_option maxRecDepth 100000 in
set_option maxHeartbeats 2000000 in
theorem szCas (P : List Ca) (a : Option Addr) (cap : Nat) (left : Int) (w : World) (hl : caK.Ls w 0 a P) (hm : P.length ≤ maxLen) (h0 : 0 ≤ left) (h1 : left ≤ 1048576) :
    Calls Tryz.prog 13 #[.slice a P.length cap, .int .i64 left] w fun e w' => e = .returned (.int .i64 (szv left (P.length + ws caw P))) ∧ Below w.heap.size w w' := by
  unfold maxLen at hm
  generalize hlen : P.length = len at *
  have HL : Hid (P.length = len) := hlen
  clear hlen
  have w0 : wrap64 (left - (len : Int)) = left - (len : Int) := by unfold wrap64; omega
  by_cases hlt : left - len < 0
  · have HE : Hid (szv left (len + ws caw P) = -1) := szv_no (by omega)
    go_enter Tryz.func13, Tryz.ntmps13
    go_wp2_with fail
    go_ret
    exact ⟨ret_int (unhide HE).symm, Below.refl _ _⟩
  · have HF := hide h1
    go_enter Tryz.func13, Tryz.ntmps13
    go_wp2_with fail
    go_loopw [1, 5] (fun x i wr => ∃ k : Nat, k ≤ len ∧ i = .int .i64 k ∧ (len : Int) + (ws caw (P.take k) : Int) ≤ left ∧ x = .int .i64 (left - len - (ws caw (P.take k) : Int)) ∧ Below w.heap.size w wr) (fun _ i _ => len - (intOf i).toNat)
    case atStart => exact ⟨0, Nat.zero_le _, rfl, by simp [ws]; omega, by simp [ws], Below.refl _ _⟩
    case round =>
      obtain ⟨k, hk, rfl, hle, rfl, hbr⟩ := hrel
      have HB := hide hbr
      by_cases hkl : k < len
      · have hkl' : k < P.length := by have := HL.out; omega
        obtain ⟨p, hkp⟩ : ∃ p, P[k]? = some p := ⟨_, List.getElem?_eq_getElem hkl'⟩
        obtain ⟨b, o, cs, rfl, -, hbs, HR0, HT, hcl0⟩ := (hl.on hbr).get hkp
        have HR := hide (show wr.rangeAt b (o + k * 15) cs from HR0)
        have hcl := hide (show cs.length = 15 from hcl0)
        have HW := hide (ws_take caw P hkp)
        have HA := hide (ws_take_le caw P (k + 1))
        have q2 : (k : Int) < (len : Int) := by omega
        have q3 : (0 : Int) ≤ (k : Int) := by omega
        generalize hwl : ws caw (P.take k) = wl at *
        generalize hwk : ws caw (P.take (k + 1)) = wk at *
        have w2 : wrap64 ((k : Int) + 1) = ((k + 1 : Nat) : Int) := by unfold wrap64; omega
        have Hwk : Hid (ws caw (P.take (k + 1)) = wk) := hwk
        have HC := hide (szCa p cs (left - len - wl) wr HT (by omega) (by omega))
        clear hwl hwk hkp hl hbr HR0 HT hcl0 hbs
        generalize caw p = q at *
        by_cases hw : (q : Int) ≤ left - len - wl
        · rw [szv_yes hw] at HC
          have hsv : ¬ left - len - wl - (q : Int) < 0 := by omega
          go_wp2_with (refine wpList_load_mid rfl _ _ rfl b (o + k * 15) rfl cs _ (unhide HR) Tryz.underlying91 rfl (by rw [unhide hcl]; exact infoLCa) ?_)
          refine (unhide HC).mono ?_
          rintro e w3 ⟨rfl, hb3⟩
          have HB3 := hide (btG (unhide HB) hb3)
          clear hb3
          go_wp2_with fail
          go_roundw
          case rel => exact ⟨k + 1, by omega, rfl, by have := HW.out; have := Hwk.out; omega, by have := HW.out; have := Hwk.out; rw [this]; congr 1; omega, unhide HB3⟩
          case measure => simp [intOf]; omega
        · rw [szv_no (by omega)] at HC
          go_wp2_with (refine wpList_load_mid rfl _ _ rfl b (o + k * 15) rfl cs _ (unhide HR) Tryz.underlying91 rfl (by rw [unhide hcl]; exact infoLCa) ?_)
          refine (unhide HC).mono ?_
          rintro e w3 ⟨rfl, hb3⟩
          have HB3 := hide (btG (unhide HB) hb3)
          clear hb3
          go_wp2_with fail
          go_ret
          exact ⟨ret_int (by rw [szv_no (by have := HW.out; have := HA.out; omega)]), unhide HB3⟩
      · have c2 : ¬ (k : Int) < (len : Int) := by omega
        clear hbr
        go_wp2_with fail
        go_ret
        have hkk : k = len := by omega
        exact ⟨ret_int (by rw [List.take_of_length_le (by have := HL.out; omega)] at hle ⊢; rw [szv_yes (by omega)]; omega), unhide HB⟩

theorem infoCaz : (Tryz.prog.info? 112).map (fun i => (i.zero, i.size, i.bytes)) = some (some (.agg #[.int .i64 0, .int .i64 0, .string ByteArray.empty, .bool false, .int .i64 0, .int .i64 0, .int .i64 0, .int .i64 0, .string ByteArray.empty, .slice none 0 0, .int .i64 0, .int .i64 0, .bool false, .bool false, .bool false]), 15, 144) := by kernel_rfl
def madeCa (n : Nat) : Array Value := madeCells #[.int .i64 0, .int .i64 0, .string ByteArray.empty, .bool false, .int .i64 0, .int .i64 0, .int .i64 0, .int .i64 0, .string ByteArray.empty, .slice none 0 0, .int .i64 0, .int .i64 0, .bool false, .bool false, .bool false] (n * 15)
theorem madeCa_size (n : Nat) : (madeCa n).size = n * 15 := size_madeCells _ _
theorem make_Ca (n : Nat) (hn : n ≤ 2097152) (w : World) :
    (Instr.makeSlice 37 (.int .i64 (n : Int)) (.int .i64 (n : Int))).run Tryz.prog w = .ok (.slice (some ⟨w.heap.size, 0, none⟩) n n) (w.alloc (.cells (madeCa n) 112)) := by
  obtain ⟨i, hi, hzz⟩ := Option.map_eq_some_iff.1 infoCaz
  simp only [Prod.mk.injEq] at hzz
  obtain ⟨hz, hs, hb⟩ := hzz
  have hr := run_make (P := Tryz.prog) w 37 112 i _ Tryz.underlying37 hi hz .i64 .i64 n n (by omega) (Int.le_refl _) (by rw [hb]; omega) (by omega)
  simp only [Int.toNat_natCast, hs] at hr
  exact hr

set_option maxRecDepth 100000 in
set_option maxHeartbeats 2000000 in
theorem toCas (P : List Ca) (a : Option Addr) (cap : Nat) (w : World) (hl : caK.Ls w 0 a P) (hsz : P.length + ws caw P ≤ 1048576) :
    Calls Tryz.prog 24 #[.slice a P.length cap] w fun e w' => e = .returned (.slice (some ⟨w.heap.size, 0, none⟩) P.length P.length) ∧ caK.Ls w' w.heap.size (some ⟨w.heap.size, 0, none⟩) P ∧ Below w.heap.size w w' := by
  have hln : P.length ≤ 1048576 := by omega
  have hmk := make_Ca P.length (by omega)
  have HM := hide (Kd.Mid.start caK 112 w P (madeCa P.length) (madeCa_size _))
  have HT := hide hl
  have HZ := hide hsz
  clear hl hsz
  generalize hlen : P.length = len at hmk HM hln ⊢
  have HL : Hid (P.length = len) := hlen
  clear hlen
  go_enter Tryz.func24, Tryz.ntmps24
  go_wp2_with fail
  go_loopw [4] (fun i wr => ∃ k : Nat, k ≤ len ∧ i = .int .i64 k ∧ caK.Mid 112 w P k wr) (fun i _ => len - (intOf i).toNat)
  case atStart => exact ⟨0, Nat.zero_le _, rfl, HM.out⟩
  case round =>
    obtain ⟨k, hkl, rfl, hM⟩ := hrel
    by_cases hlt : k < len
    · have hlt' : k < P.length := by have := HL.out; omega
      obtain ⟨p, hkp⟩ : ∃ p, P[k]? = some p := ⟨_, List.getElem?_eq_getElem hlt'⟩
      obtain ⟨b, o, cs, rfl, -, hbs, HR0, HT0, hcl0⟩ := ((unhide HT).on hM.below).get hkp
      have HR := hide (show wr.rangeAt b (o + k * 15) cs from HR0)
      have hcl := hide (show cs.length = 15 from hcl0)
      have HC := hide (toCa p cs wr HT0 (by have := ws_get caw hkp; have := unhide HZ; have := unhide HL; omega))
      have HS : Hid (∀ w2 ct, Below wr.heap.size wr w2 → caK.at_ w2 wr.heap.size p ct → caK.Mid 112 w P (k + 1) (w2.setCells w.heap.size (k * 15) ct)) := fun w2 ct hb hx => hM.step hb hkp hx
      have HH : Hid (∀ w2, Below wr.heap.size wr w2 → w2.there w.heap.size (k * 15) 15) := fun w2 hb => hM.there hb hlt'
      have q2 : (k : Int) < (len : Int) := by omega
      have q3 : (0 : Int) ≤ (k : Int) := by omega
      have w2 : wrap64 ((k : Int) + 1) = ((k + 1 : Nat) : Int) := by unfold wrap64; omega
      clear hM hkp HR0 HT0 hcl0 hbs
      go_wp2_with (refine wpList_load_mid rfl _ _ rfl b (o + k * 15) rfl cs _ (unhide HR) Tryz.underlying91 rfl (by rw [unhide hcl]; exact infoLCa) ?_)
      refine (unhide HC).mono ?_
      rintro e w2 ⟨ct, rfl, hx2, hb2⟩
      have hth := hide (unhide HH _ hb2)
      have HM2 := hide (unhide HS w2 ct hb2 hx2)
      have hsz : Hid (ct.toArray.size = 15) := hide (caK.arr (w := w2) (L := wr.heap.size) (x := p) hx2)
      have hall := hide (caK.all (w := w2) (L := wr.heap.size) (x := p) hx2)
      clear hb2 hx2
      go_wp2_with (refine wpList_store_mid rfl _ _ _ rfl w.heap.size (k * 15) ct.toArray rfl rfl (by rw [unhide hsz]; exact unhide hth) (by rw [unhide hsz]; exact infoICa) (unhide hall) ?_)
      go_roundw
      case rel => exact ⟨k + 1, by omega, rfl, by simpa using HM2.out⟩
      case measure => simp [intOf]; omega
    · have c2 : ¬ (k : Int) < (len : Int) := by omega
      go_wp2_with fail
      go_ret
      have hkk : k = P.length := by have := HL.out; omega
      subst hkk
      have e := HL.out
      subst e
      exact ⟨rfl, hM.ls, hM.below⟩

set_option maxRecDepth 100000 in
set_option maxHeartbeats 2000000 in
theorem eqCas (P : List Ca) (a a' : Option Addr) (c c' : Nat) (w : World) (hl : P.length + ws caw P ≤ 1048576) (h : caK.Ls w 0 a P) (h' : caK.Ls w 0 a' P) :
    Calls Tryz.prog 33 #[.slice a P.length c, .slice a' P.length c'] w fun e w' => e = .returned (.bool true) ∧ Below w.heap.size w w' := by
  have H := hide h
  have H' := hide h'
  have HZ := hide hl
  have hln : P.length ≤ 1048576 := by omega
  clear h h' hl
  generalize hlen : P.length = len at *
  have HL : Hid (P.length = len) := hlen
  clear hlen
  have hne : ((len : Int) != (len : Int)) = false := by simp
  go_enter Tryz.func33, Tryz.ntmps33
  go_wp2_with fail
  go_loopw [5] (fun n wr => ∃ k : Nat, n = .int .i64 k ∧ Below w.heap.size w wr ∧ k ≤ len) (fun n _ => len - (intOf n).toNat)
  case atStart => exact ⟨0, rfl, Below.refl _ _, by omega⟩
  case round =>
    obtain ⟨k, rfl, hb, hk⟩ := hrel
    have HB := hide hb
    by_cases hp : k < len
    · have hp' : k < P.length := by have := HL.out; omega
      obtain ⟨p, hkp⟩ : ∃ p, P[k]? = some p := ⟨_, List.getElem?_eq_getElem hp'⟩
      obtain ⟨b, o, cs, rfl, -, -, HR, HT, -⟩ := ((unhide H).on hb).get hkp
      obtain ⟨b', o', cs', rfl, -, -, HR', HT', -⟩ := ((unhide H').on hb).get hkp
      have hct := hide (fun v hv hv' => eqCa p cs cs' v hv hv' (by have := ws_get caw hkp; have := unhide HZ; have := unhide HL; omega))
      have HA := hide (caK.on HT (Below.refl _ _).drew)
      have HA' := hide (caK.on HT' (Below.refl _ _).drew)
      obtain ⟨cc, rfl, -, op1, n1, s1, a1, len1, cap1, rfl, -⟩ := HT
      obtain ⟨cc', rfl, -, op2, n2, s2, a2, len2, cap2, rfl, -⟩ := HT'

      have c0 : wr.cell? ⟨b, o + k * 15, none⟩ = some (.int .i64 p.k) := HR 0 _ rfl
      have d0 : wr.cell? ⟨b', o' + k * 15, none⟩ = some (.int .i64 p.k) := HR' 0 _ rfl
      have c1 : wr.cell? ⟨b, o + k * 15 + 1, none⟩ = some (.int .i64 p.c.st) := HR 1 _ rfl
      have d1 : wr.cell? ⟨b', o' + k * 15 + 1, none⟩ = some (.int .i64 p.c.st) := HR' 1 _ rfl
      have c2 : wr.cell? ⟨b, o + k * 15 + 2, none⟩ = some (.string p.c.h) := HR 2 _ rfl
      have d2 : wr.cell? ⟨b', o' + k * 15 + 2, none⟩ = some (.string p.c.h) := HR' 2 _ rfl
      have c3 : wr.cell? ⟨b, o + k * 15 + 3, none⟩ = some (.bool p.c.mu) := HR 3 _ rfl
      have d3 : wr.cell? ⟨b', o' + k * 15 + 3, none⟩ = some (.bool p.c.mu) := HR' 3 _ rfl
      have c4 : wr.cell? ⟨b, o + k * 15 + 4, none⟩ = some (.int .i64 p.c.ep) := HR 4 _ rfl
      have d4 : wr.cell? ⟨b', o' + k * 15 + 4, none⟩ = some (.int .i64 p.c.ep) := HR' 4 _ rfl
      have c5 : wr.cell? ⟨b, o + k * 15 + 5, none⟩ = some (.int .i64 p.c.bo) := HR 5 _ rfl
      have d5 : wr.cell? ⟨b', o' + k * 15 + 5, none⟩ = some (.int .i64 p.c.bo) := HR' 5 _ rfl
      have c6 : wr.cell? ⟨b, o + k * 15 + 6, none⟩ = some (.int .i64 op1) := HR 6 _ rfl
      have d6 : wr.cell? ⟨b', o' + k * 15 + 6, none⟩ = some (.int .i64 op2) := HR' 6 _ rfl
      have c7 : wr.cell? ⟨b, o + k * 15 + 7, none⟩ = some (.int .i64 n1) := HR 7 _ rfl
      have d7 : wr.cell? ⟨b', o' + k * 15 + 7, none⟩ = some (.int .i64 n2) := HR' 7 _ rfl
      have c8 : wr.cell? ⟨b, o + k * 15 + 8, none⟩ = some (.string s1) := HR 8 _ rfl
      have d8 : wr.cell? ⟨b', o' + k * 15 + 8, none⟩ = some (.string s2) := HR' 8 _ rfl
      have c9 : wr.cell? ⟨b, o + k * 15 + 9, none⟩ = some (.slice a1 len1 cap1) := HR 9 _ rfl
      have d9 : wr.cell? ⟨b', o' + k * 15 + 9, none⟩ = some (.slice a2 len2 cap2) := HR' 9 _ rfl
      have c10 : wr.cell? ⟨b, o + k * 15 + 10, none⟩ = some (.int .i64 p.c.i) := HR 10 _ rfl
      have d10 : wr.cell? ⟨b', o' + k * 15 + 10, none⟩ = some (.int .i64 p.c.i) := HR' 10 _ rfl
      have c11 : wr.cell? ⟨b, o + k * 15 + 11, none⟩ = some (.int .i64 p.c.o) := HR 11 _ rfl
      have d11 : wr.cell? ⟨b', o' + k * 15 + 11, none⟩ = some (.int .i64 p.c.o) := HR' 11 _ rfl
      have c12 : wr.cell? ⟨b, o + k * 15 + 12, none⟩ = some (.bool p.c.tl) := HR 12 _ rfl
      have d12 : wr.cell? ⟨b', o' + k * 15 + 12, none⟩ = some (.bool p.c.tl) := HR' 12 _ rfl
      have c13 : wr.cell? ⟨b, o + k * 15 + 13, none⟩ = some (.bool p.c.pr) := HR 13 _ rfl
      have d13 : wr.cell? ⟨b', o' + k * 15 + 13, none⟩ = some (.bool p.c.pr) := HR' 13 _ rfl
      have c14 : wr.cell? ⟨b, o + k * 15 + 14, none⟩ = some (.bool p.g) := HR 14 _ rfl
      have d14 : wr.cell? ⟨b', o' + k * 15 + 14, none⟩ = some (.bool p.g) := HR' 14 _ rfl

      have q2 : (k : Int) < (len : Int) := by omega
      have q3 : (0 : Int) ≤ (k : Int) := by omega
      have w1 : wrap64 ((k : Int) + 1) = ((k + 1 : Nat) : Int) := by unfold wrap64; omega
      clear hb hkp HR HR'
      generalize hid : caw p = qw at *
      clear hid
      go_wp2_with fail
      go_region_with (go_at_call 68; refine (unhide hct _ (unhide HA) (unhide HA')).mono ?_; rintro e w2 ⟨rfl, hb2⟩; have HB2 := hide (btG (unhide HB) (below_drewG hb2)); clear hb2)
      all_goals
        go_wp2_with fail
        go_roundw
        case rel => exact ⟨k + 1, rfl, unhide HB2, by omega⟩
        case measure => simp only [intOf]; omega
    · have c2 : ¬ (k : Int) < (len : Int) := by omega
      clear hb
      go_wp2_with fail
      go_ret
      exact ⟨rfl, unhide HB⟩

end Go.Proofs.YtbbidjckplpaiaaGreatDoor
