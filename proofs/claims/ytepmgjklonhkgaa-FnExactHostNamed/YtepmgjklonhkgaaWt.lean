/- Servers and talks: the walks of laws.szServer, toServer, eqServer, szTalk; nothing that was there is written. -/
import Derived.Test.YtepmgjklonhkgaaWk
import Derived.Test.YtepmgjklonhkgaaBx
import Derived.Test.YtepmgjklonhkgaaSo
import Derived.Deep.MidRow
import Derived.Deep.RegionHeld3
namespace Go.Proofs.Ytepmgjklonhkgaa
open Go.RowKit Go.Deep

theorem infoLSv : (Try.prog.info? 87).map (·.size) = some 16 := by kernel_rfl
theorem infoISv : (Try.prog.info? 104).map (·.size) = some 16 := by kernel_rfl

theorem infoLTa : (Try.prog.info? 89).map (·.size) = some 17 := by kernel_rfl
theorem infoITa : (Try.prog.info? 106).map (·.size) = some 17 := by kernel_rfl

theorem szSv (x : Sv) (cs : List Value) (l0 : Int) (w : World) (h : svAt w 0 x cs) (hl0 : 0 ≤ l0) (hl1 : l0 ≤ 1048576) :
    Calls Try.prog 53 #[.agg cs.toArray, .int .i64 l0] w fun e w' => e = .returned (.int .i64 (szv l0 (svw x))) ∧ Below w.heap.size w w' := by
  obtain ⟨hh, hg, op, n, s, a, len, cap, oq, m, r, c, lem, cat, g, gc, rfl, hl, hu, hi⟩ := h
  exact szS x.t x.u x.l x.st x.h x.ke x.ep op n s a len cap oq m r c lem cat x.i x.o x.tl g gc l0 w hl0 hl1 hl hu hg hh
theorem toSv (x : Sv) (cs : List Value) (w : World) (h : svAt w 0 x cs) (hz : svw x ≤ 1048576) :
    Calls Try.prog 56 #[.agg cs.toArray] w fun e w' => ∃ ct, e = .returned (.agg ct.toArray) ∧ svAt w' w.heap.size x ct ∧ Below w.heap.size w w' := by
  obtain ⟨hh, hg, op, n, s, a, len, cap, oq, m, r, c, lem, cat, g, gc, rfl, hl, hu, hi⟩ := h
  refine (toS x.t x.u x.l x.st x.h x.ke x.ep op n s a len cap oq m r c lem cat x.i x.o x.tl g gc w hl hu hi (by have := x.t.size_le; unfold svw at hz; omega) (by have := x.u.size_le; unfold svw at hz; omega) (by unfold svw at hz; omega)).mono ?_
  rintro e w' ⟨a', c', g', rfl, h1, h2, h3, h4⟩
  exact ⟨_, rfl, ⟨hh, hg, op, n, s, a', len, len, oq, m, r, c', lem, lem, g', x.l.length, rfl, h1, h2, h3⟩, h4⟩
theorem eqSv (x : Sv) (cs cs' : List Value) (w : World) (h : svAt w 0 x cs) (h' : svAt w 0 x cs') (hz : svw x ≤ 1048576) :
    Calls Try.prog 59 #[.agg cs.toArray, .agg cs'.toArray] w fun e w' => e = .returned (.bool true) ∧ Below w.heap.size w w' := by
  obtain ⟨hh, hg, op, n, s, a, len, cap, oq, m, r, c, lem, cat, g, gc, rfl, hl, hu, hi⟩ := h
  obtain ⟨-, -, op', n', s', a', len', cap', oq', m', r', c', lem', cat', g', gc', rfl, hl', hu', hi'⟩ := h'
  exact eqS x.t x.u x.l x.st x.h x.ke x.ep op n s a len cap oq m r c lem cat x.i x.o x.tl g gc op' n' s' a' len' cap' oq' m' r' c' lem' cat' g' gc' w hl hu hi hl' hu' hi' (by unfold svw at hz; omega)
def taw (x : Ta) : Nat := svw x.s

set_option maxRecDepth 100000 in
set_option maxHeartbeats 2000000 in
theorem szTa (x : Ta) (cs : List Value) (l0 : Int) (w : World) (h : taAt w 0 x cs) (hl0 : 0 ≤ l0) (hl1 : l0 ≤ 1048576) :
    Calls Try.prog 36 #[.agg cs.toArray, .int .i64 l0] w fun e w' => e = .returned (.int .i64 (szv l0 (taw x))) ∧ Below w.heap.size w w' := by
  obtain ⟨cc, rfl, hc⟩ := h
  have hcl := svK.len (w := w) (L := 0) (x := x.s) hc
  have hX := Box.new w 89 (.int .i64 x.k :: cc)
  have HX := hide hX
  have HL := hide (show cc.length = 16 from hcl)
  have HR := hide (show ∀ j v, cc[j]? = some v → (Value.int .i64 x.k :: cc)[1 + j]? = some v from fun j v hj => by
    rw [Nat.add_comm, List.getElem?_cons_succ]; exact hj)
  have HC := hide (szSv x.s cc l0 _ (svK.on (w := w) (L := 0) (x := x.s) hc (abG (.cells (.int .i64 x.k :: cc).toArray 89))) hl0 hl1)
  have HF := hide hl1
  clear hX hcl hc
  generalize hcs : Value.int .i64 x.k :: cc = cs at *
  have hcw : taw x = svw x.s := rfl
  rw [hcw]
  generalize svw x.s = q at *
  clear hcw hcs
  by_cases hw : (q : Int) ≤ l0
  · rw [szv_yes hw] at HC ⊢
    have hsv : ¬ l0 - (q : Int) < 0 := by omega
    go_enter Try.func36, Try.ntmps36
    go_wp2_with (refine wpList_load_box rfl _ rfl w.heap.size 1 cc (unhide HX) (unhide HR) rfl Try.underlying87 rfl (by rw [unhide HL]; exact infoLSv) ?_)
    refine (unhide HC).mono ?_
    rintro e w2 ⟨rfl, hb2⟩
    have HB2 := hide (btG (abG _) hb2)
    clear hb2
    go_wp2_with fail
    go_ret
    exact ⟨rfl, unhide HB2⟩
  · rw [szv_no (by omega)] at HC ⊢
    go_enter Try.func36, Try.ntmps36
    go_wp2_with (refine wpList_load_box rfl _ rfl w.heap.size 1 cc (unhide HX) (unhide HR) rfl Try.underlying87 rfl (by rw [unhide HL]; exact infoLSv) ?_)
    refine (unhide HC).mono ?_
    rintro e w2 ⟨rfl, hb2⟩
    have HB2 := hide (btG (abG _) hb2)
    clear hb2
    go_wp2_with fail
    go_ret
    exact ⟨rfl, unhide HB2⟩


end Go.Proofs.Ytepmgjklonhkgaa
