/- Clients and calls: the walks of laws.szClient, toClient, eqClient, szCall; nothing that was there is written. -/
import Derived.Test.YtepmgjklonhkgaaWk
import Derived.Test.YtepmgjklonhkgaaBx
import Derived.Test.YtepmgjklonhkgaaCk
import Derived.Deep.MidRow
import Derived.Deep.RegionHeld3
namespace Go.Proofs.Ytepmgjklonhkgaa
open Go.RowKit Go.Deep

theorem infoLCl : (Try.prog.info? 82).map (·.size) = some 13 := by kernel_rfl
theorem infoICl : (Try.prog.info? 99).map (·.size) = some 13 := by kernel_rfl

theorem infoLCa : (Try.prog.info? 84).map (·.size) = some 15 := by kernel_rfl
theorem infoICa : (Try.prog.info? 101).map (·.size) = some 15 := by kernel_rfl

theorem szCl (x : Cl) (cs : List Value) (l0 : Int) (w : World) (h : clAt w 0 x cs) (hl0 : 0 ≤ l0) (hl1 : l0 ≤ 1048576) :
    Calls Try.prog 52 #[.agg cs.toArray, .int .i64 l0] w fun e w' => e = .returned (.int .i64 (szv l0 (clw x))) ∧ Below w.heap.size w w' := by
  obtain ⟨hh, op, n, s, a, len, cap, rfl, hl⟩ := h
  exact szK x.t x.st x.h x.mu x.ep x.bo op n s a len cap x.i x.o x.tl x.pr l0 w hl0 hl1 hl hh
theorem toCl (x : Cl) (cs : List Value) (w : World) (h : clAt w 0 x cs) (hz : clw x ≤ 1048576) :
    Calls Try.prog 55 #[.agg cs.toArray] w fun e w' => ∃ ct, e = .returned (.agg ct.toArray) ∧ clAt w' w.heap.size x ct ∧ Below w.heap.size w w' := by
  obtain ⟨hh, op, n, s, a, len, cap, rfl, hl⟩ := h
  refine (toK x.t x.st x.h x.mu x.ep x.bo op n s a len cap x.i x.o x.tl x.pr w hl (by have := x.t.size_le; unfold clw at hz; omega)).mono ?_
  rintro e w' ⟨a', rfl, h1, h2⟩
  exact ⟨[.int .i64 x.st, .string x.h, .bool x.mu, .int .i64 x.ep, .int .i64 x.bo, .int .i64 op, .int .i64 n, .string s, .slice a' len len, .int .i64 x.i, .int .i64 x.o, .bool x.tl, .bool x.pr], rfl, ⟨hh, op, n, s, a', len, len, rfl, h1⟩, h2⟩
theorem eqCl (x : Cl) (cs cs' : List Value) (w : World) (h : clAt w 0 x cs) (h' : clAt w 0 x cs') (_ : clw x ≤ 1048576) :
    Calls Try.prog 58 #[.agg cs.toArray, .agg cs'.toArray] w fun e w' => e = .returned (.bool true) ∧ Below w.heap.size w w' := by
  obtain ⟨-, op, n, s, a, len, cap, rfl, hl⟩ := h
  obtain ⟨-, op', n', s', a', len', cap', rfl, hl'⟩ := h'
  exact eqK x.t x.st x.h x.mu x.ep x.bo op n s a len cap x.i x.o x.tl x.pr op' n' s' a' len' cap' w hl hl'
def caw (x : Ca) : Nat := clw x.c

set_option maxRecDepth 100000 in
set_option maxHeartbeats 2000000 in
theorem szCa (x : Ca) (cs : List Value) (l0 : Int) (w : World) (h : caAt w 0 x cs) (hl0 : 0 ≤ l0) (hl1 : l0 ≤ 1048576) :
    Calls Try.prog 35 #[.agg cs.toArray, .int .i64 l0] w fun e w' => e = .returned (.int .i64 (szv l0 (caw x))) ∧ Below w.heap.size w w' := by
  obtain ⟨cc, rfl, hc⟩ := h
  have hcl := clK.len (w := w) (L := 0) (x := x.c) hc
  have hX := Box.new w 84 (.int .i64 x.k :: (cc ++ [.bool x.g]))
  have HX := hide hX
  have HL := hide (show cc.length = 13 from hcl)
  have HR := hide (show ∀ j v, cc[j]? = some v → (Value.int .i64 x.k :: (cc ++ [.bool x.g]))[1 + j]? = some v from fun j v hj => by
    rw [Nat.add_comm, List.getElem?_cons_succ, List.getElem?_append_left (List.getElem?_eq_some_iff.1 hj).1]; exact hj)
  have HC := hide (szCl x.c cc l0 _ (clK.on (w := w) (L := 0) (x := x.c) hc (abG (.cells (.int .i64 x.k :: (cc ++ [.bool x.g])).toArray 84))) hl0 hl1)
  have HF := hide hl1
  clear hX hcl hc
  generalize hcs : Value.int .i64 x.k :: (cc ++ [.bool x.g]) = cs at *
  have hcw : caw x = clw x.c := rfl
  rw [hcw]
  generalize clw x.c = q at *
  clear hcw hcs
  by_cases hw : (q : Int) ≤ l0
  · rw [szv_yes hw] at HC ⊢
    have hsv : ¬ l0 - (q : Int) < 0 := by omega
    go_enter Try.func35, Try.ntmps35
    go_wp2_with (refine wpList_load_box rfl _ rfl w.heap.size 1 cc (unhide HX) (unhide HR) rfl Try.underlying82 rfl (by rw [unhide HL]; exact infoLCl) ?_)
    refine (unhide HC).mono ?_
    rintro e w2 ⟨rfl, hb2⟩
    have HB2 := hide (btG (abG _) hb2)
    clear hb2
    go_wp2_with fail
    go_ret
    exact ⟨rfl, unhide HB2⟩
  · rw [szv_no (by omega)] at HC ⊢
    go_enter Try.func35, Try.ntmps35
    go_wp2_with (refine wpList_load_box rfl _ rfl w.heap.size 1 cc (unhide HX) (unhide HR) rfl Try.underlying82 rfl (by rw [unhide HL]; exact infoLCl) ?_)
    refine (unhide HC).mono ?_
    rintro e w2 ⟨rfl, hb2⟩
    have HB2 := hide (btG (abG _) hb2)
    clear hb2
    go_wp2_with fail
    go_ret
    exact ⟨rfl, unhide HB2⟩


end Go.Proofs.Ytepmgjklonhkgaa
