
/- The walk of spec.Reply: the reply and true, or zero and false; nothing that was there is written. -/
import Derived.Test.YtacmpodanebglaaGreatDoorR0
import Derived.Test.YtacmpodanebglaaGreatDoorPb
import Derived.Test.YtacmpodanebglaaGreatDoorSg
import Derived.Deep.RegionHeld3
import Derived.Deep.RegionWith
import Derived.Deep.DeepCutAuto
namespace Go.Proofs.YtacmpodanebglaaGreatDoor
open Go.RowKit Go.Deep

theorem pick200 (x : Tm) : (pickT (okT x) x).size ≤ 200 := by
  unfold pickT
  split
  · rename_i h
    simp only [okT, Bool.and_eq_true, decide_eq_true_eq] at h
    exact h.1
  · simp [Tm.size, Tm.sizes]
theorem made200 (op : Int) (ks : List Tm) : (madeT op ks).size ≤ 200 := pick200 _
theorem agree200 (t u : Tm) : (agreeT t u).size ≤ 200 := by
  obtain ⟨o, n, s, ks⟩ := u
  match ks with
  | [] => simp [agreeT, Tm.size, Tm.sizes]
  | [k] =>
    show (pickT (agreeB t (.node o n s [k])) (shareT t k)).size ≤ 200
    cases h : agreeB t (.node o n s [k]) with
    | true =>
      have h2 : okT (shareT t k) = true := by
        simp only [agreeB, Bool.and_eq_true] at h
        exact h.2
      have := pick200 (shareT t k)
      rwa [h2] at this
    | false => simp [pickT, Tm.size, Tm.sizes]
  | _ :: _ :: _ => simp [agreeT, Tm.size, Tm.sizes]
/-- Whether there is a reply, and which. -/
def replyB (t u ky ce : Tm) : Bool := agreeB t u && okT (replyR t u ky ce (agreeT t u))
def replyT (t u ky ce : Tm) : Tm := pickT (replyB t u ky ce) (replyR t u ky ce (agreeT t u))
theorem replyT200 (t u ky ce : Tm) : (replyT t u ky ce).size ≤ 200 := by
  unfold replyT
  cases h : replyB t u ky ce with
  | false => simp [pickT, Tm.size, Tm.sizes]
  | true =>
    simp only [replyB, Bool.and_eq_true] at h
    have := pick200 (replyR t u ky ce (agreeT t u))
    rwa [h.2] at this
def Tm.opOf' : Tm → Int | .node o _ _ _ => o
theorem pick_op {w : World} {L : Nat} {R : Tm} {op n : Int} {s : ByteArray} {a : Option Addr} {len cap : Nat} (h : Lies w L (pickT (okT R) R) (tmCells op n s a len cap)) (hR : R.opOf' = 3) : (op == 3) = okT R := by
  have h0 := h.any (Nat.zero_le L)
  cases hk : okT R with
  | true =>
    rw [hk] at h0
    obtain ⟨o, m, z, ks⟩ := R
    simp only [pickT, if_true, Lies, tmCells, List.cons.injEq, Value.int.injEq, true_and] at h0
    obtain ⟨_, _, ⟨h1, _⟩, _⟩ := h0
    simp only [Tm.opOf'] at hR
    simp [h1, hR]
  | false =>
    rw [hk] at h0
    simp only [pickT, Bool.false_eq_true, if_false, Lies, tmCells, List.cons.injEq, Value.int.injEq, true_and] at h0
    obtain ⟨_, _, ⟨h1, _⟩, _⟩ := h0
    simp [h1]
/-- What an order of the makings leaves: the box of the answer, which lies in memory; what was there stays. -/
def RpCut (X : Tm) (w2 : World) (p : Value) (wx : World) : Prop := ∃ bW opW nW sW aW lenW capW, p = .pointer (some ⟨bW, 0, none⟩) ∧ RowT 28 wx bW opW nW sW aW lenW capW ∧ Lies wx w2.heap.size X (tmCells opW nW sW aW lenW capW) ∧ w2.heap.size ≤ bW ∧ Below w2.heap.size w2 wx
theorem RpCut.late {X : Tm} {w2 w5 : World} {op n : Int} {s : ByteArray} {a : Option Addr} {len cap : Nat} (hb : Below w2.heap.size w2 w5) (hl : Lies w5 w2.heap.size X (tmCells op n s a len cap)) : RpCut X w2 (.pointer (some ⟨w5.heap.size, 0, none⟩)) (w5.alloc (.cells #[.int .i64 op, .int .i64 n, .string s, .slice a len cap] 28)) :=
  ⟨_, _, _, _, _, _, _, rfl, RowT.new 28 w5 op n s a len cap, hl.below (ab _), hb.size, bt hb (ab _) (Nat.le_refl _)⟩
theorem RpCut.early {X : Tm} {w2 w5 : World} {g L : Nat} {op n : Int} {s : ByteArray} {a : Option Addr} {len cap : Nat} (hb : Below w2.heap.size w2 w5) (hz : ZBox w5 g) (hg : w2.heap.size ≤ g) (hl : Lies w5 L X (tmCells op n s a len cap)) (hL : g < L) (hLL : w2.heap.size ≤ L) :
    RpCut X w2 (.pointer (some ⟨g, 0, none⟩)) ((((w5.setCell ⟨g, 0, none⟩ (.int .i64 op)).setCell ⟨g, 1, none⟩ (.int .i64 n)).setCell ⟨g, 2, none⟩ (.string s)).setCell ⟨g, 3, none⟩ (.slice a len cap)) :=
  ⟨_, _, _, _, _, _, _, rfl, fill26 hz op n s a len cap, set4_lies hl hL _ hLL, hg, set4_below hb hg⟩


end Go.Proofs.YtacmpodanebglaaGreatDoor
