/- Terms as trees, and what it means that one lies in memory: the tree of a struct of two ints, a string and a slice of the same struct; carried from world to world where the blocks that it lies in are as they were. Plain: nothing of the program is named. The walks of laws.szTerm and laws.szTermS: whatever term lies in memory, and a room between 0 and 2^20, they answer the room that is left when the term's weight is taken, or -1; nothing that was there is written. The walk of spec.TermSize: of whatever term lies in memory, of at most 2^21 within it, it answers how many are within it; nothing that was there is written. The walks of laws.toTerm and laws.toTermS: of whatever term lies in memory, of at most 2^21 within it, they make the same term in new memory; nothing that was there is written. The walks of laws.eqTerm and laws.eqTermS: of two that are one and the same term, wherever the two lie in memory, they answer true; nothing that was there is written. A list of terms that a call keeps for itself in a slice of its own, the last one taken off and that one's kids put on: what append does to it. A term whose kids lie in blocks of their own: the list of these blocks; what stays of it where only other blocks change. A list of terms in a slice of its own, each term in blocks of its own: what append makes of it. The walks of laws.toTerm and laws.toTermS, and of impl.copyTerm: of whatever term lies in memory they make the same term, in new blocks of its own; nothing that was there is written. -/
import Derived.WalkKit
import Derived.ProofKit
import Derived.Deep.MidRow
import Derived.Deep.Slices
import Derived.Deep.Fields
import Derived.Lib.SmallJoins
import Derived.Test.YtmklgikbajhcpaaGreatDoorRows
import Derived.Deep.RegionWith
import Derived.Deep.DeepAppendWide
import Derived.Deep.Upon
import Derived.WalkSmall
namespace Go.Proofs.YtmklgikbajhcpaaGreatDoor
open Go.RowKit Go.Deep

inductive Tm where
  | node (op n : Int) (s : ByteArray) (kids : List Tm)

instance : Inhabited Tm := ⟨.node 0 0 ByteArray.empty []⟩

namespace Tm
def kids : Tm → List Tm | .node _ _ _ ks => ks
def str : Tm → ByteArray | .node _ _ s _ => s

mutual
def size : Tm → Nat
  | .node _ _ _ ks => 1 + sizes ks
def sizes : List Tm → Nat
  | [] => 0
  | t :: r => size t + sizes r
end

mutual
def wt : Tm → Nat
  | .node _ _ s ks => s.size + (ks.length + wts ks)
def wts : List Tm → Nat
  | [] => 0
  | t :: r => wt t + wts r
end

mutual
theorem size_le : ∀ t : Tm, t.size ≤ 1 + t.wt
  | .node op n s ks => by
    have := sizes_le ks
    simp only [size, wt]
    omega
theorem sizes_le : ∀ ks : List Tm, sizes ks ≤ ks.length + wts ks
  | [] => by simp [sizes]
  | t :: r => by
    have h1 := size_le t
    have h2 := sizes_le r
    simp only [sizes, wts, List.length_cons]
    omega
end

theorem size_pos (t : Tm) : 1 ≤ t.size := by cases t; simp only [size]; omega

theorem sizes_append (a b : List Tm) : sizes (a ++ b) = sizes a + sizes b := by
  induction a with
  | nil => simp [sizes]
  | cons t r ih => simp only [List.cons_append, sizes, ih]; omega

theorem wts_append (a b : List Tm) : wts (a ++ b) = wts a + wts b := by
  induction a with
  | nil => simp [wts]
  | cons t r ih => simp only [List.cons_append, wts, ih]; omega

theorem size_mem {t : Tm} {ks : List Tm} (h : t ∈ ks) : t.size ≤ sizes ks := by
  induction ks with
  | nil => cases h
  | cons x r ih =>
    simp only [sizes]
    rcases List.mem_cons.1 h with rfl | h
    · omega
    · have := ih h; omega

theorem length_le_sizes (ks : List Tm) : ks.length ≤ sizes ks := by
  induction ks with
  | nil => simp [sizes]
  | cons t r ih => have := size_pos t; simp only [sizes, List.length_cons]; omega

theorem take_succ_get {ks : List Tm} {k : Nat} {t : Tm} (h : ks[k]? = some t) : ks.take (k + 1) = ks.take k ++ [t] := by
  rw [List.take_add_one, h]; rfl
end Tm

/-- The cells of a term. -/
def tmCells (op n : Int) (s : ByteArray) (a : Option Addr) (len cap : Nat) : List Value := [.int .i64 op, .int .i64 n, .string s, .slice a len cap]

mutual
/-- The term lies in the world, in blocks from L on: its own cells are these. -/
def Lies (w : World) (L : Nat) : Tm → List Value → Prop
  | .node op n s ks, cs => ∃ a cap, cs = tmCells op n s a ks.length cap ∧ (s.size ≤ maxLen ∧ ks.length ≤ cap ∧ cap ≤ maxLen) ∧ ((Lit.int .i64 op).wf = true ∧ (Lit.int .i64 n).wf = true) ∧ LiesAll w L a 0 ks
def LiesAll (w : World) (L : Nat) (a : Option Addr) : Nat → List Tm → Prop
  | _, [] => True
  | i, t :: r => (∃ b o cs, a = some ⟨b, o, none⟩ ∧ L ≤ b ∧ w.rangeAt b (o + i * 4) cs ∧ Lies w L t cs) ∧ LiesAll w L a (i + 1) r
end

theorem LiesAll.get {w : World} {L : Nat} {a : Option Addr} : ∀ {i : Nat} {ks : List Tm}, LiesAll w L a i ks → ∀ {k : Nat} {t : Tm}, ks[k]? = some t →
    ∃ b o cs, a = some ⟨b, o, none⟩ ∧ L ≤ b ∧ w.rangeAt b (o + (i + k) * 4) cs ∧ Lies w L t cs
  | i, [], _, k, t, h => by simp at h
  | i, x :: r, hl, 0, t, h => by
    simp only [List.getElem?_cons_zero, Option.some.injEq] at h
    subst h
    simp only [LiesAll] at hl
    exact hl.1
  | i, x :: r, hl, k + 1, t, h => by
    simp only [LiesAll] at hl
    have := LiesAll.get hl.2 (k := k) (t := t) (by simpa using h)
    rwa [show i + 1 + k = i + (k + 1) by omega] at this

theorem LiesAll.mk {w : World} {L : Nat} {a : Option Addr} : ∀ {i : Nat} {ks : List Tm}, (∀ (k : Nat) (t : Tm), ks[k]? = some t → ∃ b o cs, a = some ⟨b, o, none⟩ ∧ L ≤ b ∧ w.rangeAt b (o + (i + k) * 4) cs ∧ Lies w L t cs) → LiesAll w L a i ks
  | i, [], _ => by simp [LiesAll]
  | i, x :: r, h => by
    simp only [LiesAll]
    refine ⟨by simpa using h 0 x rfl, LiesAll.mk fun k t hk => ?_⟩
    have := h (k + 1) t (by simpa using hk)
    rwa [show i + (k + 1) = i + 1 + k by omega] at this

theorem Lies.cells {w : World} {L : Nat} {t : Tm} {cs : List Value} (h : Lies w L t cs) : ∃ op n s a len cap, cs = tmCells op n s a len cap := by
  cases t
  simp only [Lies] at h
  obtain ⟨a, cap, rfl, _⟩ := h
  exact ⟨_, _, _, _, _, _, rfl⟩

theorem lt_of_cell {w : World} {b o : Nat} {v : Value} (h : w.cell? ⟨b, o, none⟩ = some v) : b < w.heap.size := by
  by_cases hb : b < w.heap.size
  · exact hb
  · have : w.heap[b]? = none := by simp; omega
    simp [World.cell?, this] at h

theorem rangeAt_lt {w : World} {b o : Nat} {cs : List Value} (h : w.rangeAt b o cs) (hc : 0 < cs.length) : b < w.heap.size := by
  obtain ⟨v, hv⟩ : ∃ v, cs[0]? = some v := ⟨cs[0], by simp [hc]⟩
  exact lt_of_cell (h 0 v hv)

theorem tmCells_length (op n : Int) (s : ByteArray) (a : Option Addr) (len cap : Nat) : (tmCells op n s a len cap).length = 4 := rfl

theorem Lies.length {w : World} {L : Nat} {t : Tm} {cs : List Value} (h : Lies w L t cs) : cs.length = 4 := by
  obtain ⟨_, _, _, _, _, _, rfl⟩ := h.cells
  rfl

mutual
theorem Lies.carry {w w' : World} {L L' : Nat} (hL : L' ≤ L) (hc : ∀ b o, L ≤ b → b < w.heap.size → w'.cell? ⟨b, o, none⟩ = w.cell? ⟨b, o, none⟩) : ∀ (t : Tm) (cs : List Value), Lies w L t cs → Lies w' L' t cs
  | .node op n s ks, cs, h => by
    simp only [Lies] at h ⊢
    obtain ⟨a, cap, rfl, h1, h2, h4⟩ := h
    exact ⟨a, cap, rfl, h1, h2, LiesAll.carry hL hc a 0 ks h4⟩
theorem LiesAll.carry {w w' : World} {L L' : Nat} (hL : L' ≤ L) (hc : ∀ b o, L ≤ b → b < w.heap.size → w'.cell? ⟨b, o, none⟩ = w.cell? ⟨b, o, none⟩) (a : Option Addr) : ∀ (i : Nat) (ks : List Tm), LiesAll w L a i ks → LiesAll w' L' a i ks
  | i, [], _ => by simp [LiesAll]
  | i, t :: r, h => by
    simp only [LiesAll] at h ⊢
    obtain ⟨⟨b, o, cs, ha, hb, hr, ht⟩, h2⟩ := h
    have hlt := rangeAt_lt hr (by rw [ht.length]; omega)
    exact ⟨⟨b, o, cs, ha, by omega, fun j v hj => by rw [hc b _ hb hlt]; exact hr j v hj, Lies.carry hL hc t cs ht⟩, LiesAll.carry hL hc a (i + 1) r h2⟩
end

theorem Lies.below {w w' : World} {L : Nat} {t : Tm} {cs : List Value} (h : Lies w L t cs) (hb : Below w.heap.size w w') : Lies w' L t cs :=
  Lies.carry (Nat.le_refl _) (fun _ _ _ hlt => hb.cell (p := ⟨_, _, none⟩) hlt) t cs h

theorem LiesAll.below {w w' : World} {L : Nat} {a : Option Addr} {i : Nat} {ks : List Tm} (h : LiesAll w L a i ks) (hb : Below w.heap.size w w') : LiesAll w' L a i ks :=
  LiesAll.carry (Nat.le_refl _) (fun _ _ _ hlt => hb.cell (p := ⟨_, _, none⟩) hlt) a i ks h

theorem Lies.any {w : World} {L L' : Nat} {t : Tm} {cs : List Value} (h : Lies w L t cs) (hL : L' ≤ L) : Lies w L' t cs :=
  Lies.carry hL (fun _ _ _ _ => rfl) t cs h

theorem rangeAt_below {w w' : World} {b o : Nat} {cs : List Value} (h : w.rangeAt b o cs) (hb : Below w.heap.size w w') : w'.rangeAt b o cs := fun j v hj => by
  have h0 := h j v hj
  rw [hb.cell (p := ⟨b, o + j, none⟩) (lt_of_cell h0)]
  exact h0

/-- An element of a slice of terms: its address, its four cells. -/
theorem LiesAll.elem {w : World} {L : Nat} {a : Option Addr} {ks : List Tm} (h : LiesAll w L a 0 ks) {k : Nat} (hk : k < ks.length) :
    ∃ b o op n s a' len cap, a = some ⟨b, o, none⟩ ∧ L ≤ b ∧ b < w.heap.size ∧ w.cell? ⟨b, o + k * 4, none⟩ = some (.int .i64 op) ∧ w.cell? ⟨b, o + k * 4 + 1, none⟩ = some (.int .i64 n) ∧
      w.cell? ⟨b, o + k * 4 + 2, none⟩ = some (.string s) ∧ w.cell? ⟨b, o + k * 4 + 3, none⟩ = some (.slice a' len cap) ∧ Lies w L ks[k] (tmCells op n s a' len cap) := by
  obtain ⟨b, o, cs, ha, hL, hr, hl⟩ := h.get (k := k) (t := ks[k]) (by simp [hk])
  obtain ⟨op, n, s, a', len, cap, rfl⟩ := hl.cells
  rw [Nat.zero_add] at hr
  exact ⟨b, o, op, n, s, a', len, cap, ha, hL, rangeAt_lt hr (by simp [tmCells]), hr 0 _ rfl, hr 1 _ rfl, hr 2 _ rfl, hr 3 _ rfl, hl⟩

/-- A term opened out of the row's own reading. -/
theorem open_tm {H : Type} {enc : TypeId × Value → H} {P : Program} {w : World} {t e : TypeId} {tint tstr : TypeId} {f0 f1 f2 f3 : Field}
    (hs : P.underlying e = some (.struct #[f0, f1, f2, f3])) (hone : oneCellFields P #[f0, f1, f2, f3] = true) (hC : P.cellsOf e = 4)
    (e0 : f0.type = tint) (e1 : f1.type = tint) (e2 : f2.type = tstr) (e3 : f3.type = t)
    (hi : P.underlying tint = some (.int .i64)) (hst : P.underlying tstr = some .string) (hsl : P.underlying t = some (.slice e)) :
    ∀ (fuel : Nat) (cs : List Value) (x : DataW H × List MemPlace), DataW.trod enc P w 0 (fun _ => true) true fuel e cs = some x → ∃ T, Lies w 0 T cs := by
  intro fuel
  induction fuel using Nat.strongRecOn with
  | ind fuel ih =>
    intro cs x h
    obtain ⟨xs, n, hfu, hx, hl, hlen, hf⟩ := DataW.trod_struct hs h
    obtain ⟨o0, k0⟩ := hone_of hone 0 f0 rfl
    obtain ⟨o1, k1⟩ := hone_of hone 1 f1 rfl
    obtain ⟨o2, k2⟩ := hone_of hone 2 f2 rfl
    obtain ⟨o3, k3⟩ := hone_of hone 3 f3 rfl
    rw [hC] at hl
    match cs, hl with
    | [c0, c1, c2, c3], _ =>
      match xs, hlen with
      | [y0, y1, y2, y3], _ =>
        have g0 := hf 0 f0 rfl
        have g1 := hf 1 f1 rfl
        have g2 := hf 2 f2 rfl
        have g3 := hf 3 f3 rfl
        rw [o0, k0, e0] at g0
        rw [o1, k1, e1] at g1
        rw [o2, k2, e2] at g2
        rw [o3, k3, e3] at g3
        obtain ⟨op, q0, _, w0⟩ := DataW.trod_int hi (by simpa using g0)
        obtain ⟨nn, q1, _, w1⟩ := DataW.trod_int hi (by simpa using g1)
        obtain ⟨s, q2, _, w2⟩ := DataW.trod_string hst (by simpa using g2)
        simp at q0 q1 q2
        subst q0 q1 q2
        rcases DataW.trod_slice hsl (by simpa using g3) with ⟨h0, _⟩ | ⟨a, len, cap, elems, rest, m, hm, h0, _, _, hlc, hcm, hel, hget, _⟩
        · simp at h0
          subst h0
          exact ⟨.node op nn s [], by simp only [Lies]; exact ⟨none, 0, rfl, ⟨w2, by simp, by simp⟩, ⟨w0, w1⟩, by simp [LiesAll]⟩⟩
        · simp at h0
          subst h0
          rw [hC] at hget
          have hk : ∀ i, i < len → ∃ T : Tm, ∃ b o cs, a = ⟨b, o, none⟩ ∧ w.rangeAt b (o + i * 4) cs ∧ Lies w 0 T cs := fun i hi => by
            have hb := hget i hi
            rw [List.getElem?_eq_getElem (by omega)] at hb
            obtain ⟨cs', c1', c2'⟩ := Option.bind_eq_some_iff.1 hb
            obtain ⟨T, hT⟩ := ih m (by omega) cs' _ c2'
            obtain ⟨_, hl4, hcell⟩ := World.cells?_some c1'
            have hsp : a.spot = none := by
              have := hcell 1 (by omega)
              have h00 := hcell 0 (by omega)
              rw [List.getElem?_eq_getElem (by omega)] at h00
              have := World.cell?_spot h00
              unfold Addr.add at this
              by_cases hz : i * 4 = 0
              · simpa [hz] using this
              · have hi0 : i ≠ 0 := by omega
                have h0c := hget 0 (by omega)
                rw [List.getElem?_eq_getElem (by omega)] at h0c
                obtain ⟨cs0, d1', _⟩ := Option.bind_eq_some_iff.1 h0c
                obtain ⟨_, hl0, hcell0⟩ := World.cells?_some d1'
                have h000 := hcell0 0 (by omega)
                rw [List.getElem?_eq_getElem (by omega)] at h000
                have := World.cell?_spot h000
                simpa [Addr.add] using this
            obtain ⟨b, o, sp⟩ := a
            simp only at hsp
            subst hsp
            refine ⟨T, b, o, cs', rfl, fun j v hj => ?_, hT⟩
            have hjl : j < cs'.length := by
              by_cases hq : j < cs'.length
              · exact hq
              · rw [List.getElem?_eq_none (by omega)] at hj; cases hj
            have := hcell j (by omega)
            rw [hj] at this
            rw [Addr.add_mid, Addr.add_mid] at this
            exact this
          obtain ⟨F, hF⟩ := choose_lt (α := Tm) (p := fun i T => ∃ b o cs, a = ⟨b, o, none⟩ ∧ w.rangeAt b (o + i * 4) cs ∧ Lies w 0 T cs) hk
          refine ⟨.node op nn s ((List.range len).map F), ?_⟩
          simp only [Lies]
          refine ⟨some a, cap, by simp [tmCells], ⟨w2, by simpa using hlc, hcm⟩, ⟨w0, w1⟩, LiesAll.mk fun k t hkt => ?_⟩
          have hkl : k < len := by
            by_cases hq : k < len
            · exact hq
            · rw [List.getElem?_eq_none (by simp; omega)] at hkt; cases hkt
          simp [hkl] at hkt
          subst hkt
          obtain ⟨b, o, cs, rfl, hr, hl⟩ := hF k hkl
          exact ⟨b, o, cs, rfl, Nat.zero_le _, by rwa [Nat.zero_add], hl⟩

def szv (left : Int) (wt : Nat) : Int := if (wt : Int) ≤ left then left - wt else -1

theorem szv_yes {left : Int} {wt : Nat} (h : (wt : Int) ≤ left) : szv left wt = left - wt := by unfold szv; rw [if_pos h]
theorem szv_no {left : Int} {wt : Nat} (h : left < (wt : Int)) : szv left wt = -1 := by unfold szv; rw [if_neg (by omega)]
theorem ret_int {k : IntKind} {a b : Int} (h : a = b) : Ending.returned (.int k a) = .returned (.int k b) := by rw [h]

def SzOk (t : Tm) : Prop := ∀ (op n : Int) (s : ByteArray) (a : Option Addr) (len cap : Nat) (left : Int) (w : World), Lies w 0 t (tmCells op n s a len cap) → 0 ≤ left → left ≤ 1048576 →
  Calls Tryz.prog 9 #[.agg #[.int .i64 op, .int .i64 n, .string s, .slice a len cap], .int .i64 left] w fun e w' => e = .returned (.int .i64 (szv left t.wt)) ∧ Below w.heap.size w w'

theorem bcell {W w1 : World} (hb : Below W.heap.size W w1) : (∀ b o, b < W.heap.size → w1.cell? ⟨b, o, none⟩ = W.cell? ⟨b, o, none⟩) ∧ (∀ b o, b < W.heap.size → w1.frozen? ⟨b, o, none⟩ = W.frozen? ⟨b, o, none⟩) :=
  ⟨fun b o h => hb.cell (p := ⟨b, o, none⟩) h, fun b o h => hb.frozen (p := ⟨b, o, none⟩) h⟩

set_option maxHeartbeats 400000 in
theorem szS_any (ks : List Tm) (hks : ∀ t ∈ ks, SzOk t) (a : Option Addr) (cap : Nat) (left : Int) (w : World) (hl : LiesAll w 0 a 0 ks) (hm : ks.length ≤ maxLen) (h0 : 0 ≤ left) (h1 : left ≤ 1048576) :
    Calls Tryz.prog 58 #[.slice a ks.length cap, .int .i64 left] w fun e w' => e = .returned (.int .i64 (szv left (ks.length + Tm.wts ks))) ∧ Below w.heap.size w w' := by
  unfold maxLen at hm
  generalize hlen : ks.length = len at *
  have HL : Hid (ks.length = len) := hlen
  clear hlen
  by_cases hlt : left - len < 0
  · go_enter Tryz.func58, Tryz.ntmps58
    go_wp2_with fail
    go_ret
    exact ⟨ret_int (by rw [szv_no (by omega)]), Below.refl _ _⟩
  · have hge : 0 ≤ left - len := by omega
    go_enter Tryz.func58, Tryz.ntmps58
    go_wp2_with fail
    go_loopw [1, 5] (fun l i wr => ∃ k : Nat, k ≤ len ∧ i = .int .i64 k ∧ (len : Int) + (Tm.wts (ks.take k) : Int) ≤ left ∧ l = .int .i64 (left - len - (Tm.wts (ks.take k) : Int)) ∧ Below w.heap.size w wr) (fun _ i _ => len - (intOf i).toNat)
    case atStart => exact ⟨0, Nat.zero_le _, rfl, by simp [Tm.wts]; omega, by simp [Tm.wts], Below.refl _ _⟩
    case round =>
      obtain ⟨k, hk, rfl, hle, rfl, hb⟩ := hrel
      by_cases hkl : k < len
      · have hkl' : k < ks.length := by have := HL.out; omega
        obtain ⟨b, o, op, n, s, a', len', cap', rfl, _, hbs, c0, c1, c2, c3, hT⟩ := hl.elem (k := k) hkl'
        have ht : ks.take (k + 1) = ks.take k ++ [ks[k]] := Tm.take_succ_get (by simp [hkl'])
        have hwt : Tm.wts (ks.take (k + 1)) = Tm.wts (ks.take k) + ks[k].wt := by rw [ht, Tm.wts_append]; simp [Tm.wts]
        have HW : Hid (Tm.wts (ks.take (k + 1)) = Tm.wts (ks.take k) + ks[k].wt) := hwt
        have HA : Hid (Tm.wts (ks.take (k + 1)) ≤ Tm.wts ks) := by
          have := Tm.wts_append (ks.take (k + 1)) (ks.drop (k + 1))
          rw [List.take_append_drop] at this
          show _ ≤ _
          omega
        clear ht hwt
        have c0' := (hb.cell (p := ⟨b, o + k * 4, none⟩) hbs).trans c0
        have c1' := (hb.cell (p := ⟨b, o + k * 4 + 1, none⟩) hbs).trans c1
        have c2' := (hb.cell (p := ⟨b, o + k * 4 + 2, none⟩) hbs).trans c2
        have c3' := (hb.cell (p := ⟨b, o + k * 4 + 3, none⟩) hbs).trans c3
        clear c0 c1 c2 c3
        have HT : Hid (Lies wr 0 ks[k] (tmCells op n s a' len' cap')) := hT.below hb
        have hct := hks ks[k] (List.getElem_mem hkl')
        generalize hwl : Tm.wts (ks.take k) = wl at *
        generalize hwk : Tm.wts (ks.take (k + 1)) = wk at *
        generalize hq : ks[k] = tk at *
        generalize hqw : tk.wt = qw at *
        have Hqw : Hid (tk.wt = qw) := hqw
        have Hwk : Hid (Tm.wts (ks.take (k + 1)) = wk) := hwk
        clear hwl hwk hq hqw hks hl hT
        by_cases hw : (qw : Int) ≤ left - len - wl
        · have hsv : 0 ≤ left - len - wl - qw := by omega
          go_wp2_with fail
          refine (hct op n s a' len' cap' _ _ HT.out (by omega) (by omega)).mono ?_
          rintro e w2 ⟨rfl, hb2⟩
          rw [Hqw.out, szv_yes hw]
          go_wp2_with fail
          go_roundw
          case rel => exact ⟨k + 1, by omega, by go_num, by rw [Hwk.out, HW.out]; omega, by rw [Hwk.out, HW.out]; go_num, hb.trans (hb2.mono hb.size)⟩
          case measure => simp [intOf]; omega
        · go_wp2_with fail
          refine (hct op n s a' len' cap' _ _ HT.out (by omega) (by omega)).mono ?_
          rintro e w2 ⟨rfl, hb2⟩
          rw [Hqw.out, szv_no (by omega)]
          go_wp2_with fail
          go_ret
          exact ⟨ret_int (by rw [szv_no (by have := HW.out; have := HA.out; omega)]), hb.trans (hb2.mono hb.size)⟩
      · go_wp2_with fail
        go_ret
        have hkk : k = len := by omega
        exact ⟨ret_int (by rw [List.take_of_length_le (by have := HL.out; omega)] at hle ⊢; rw [szv_yes (by omega)]; omega), hb⟩

theorem sz_step (t : Tm) (h : ∀ x ∈ t.kids, SzOk x) : SzOk t := by
  intro op n s a len cap left w hl h0 h1
  cases t with
  | node op' n' s' ks =>
    simp only [Lies, tmCells] at hl
    obtain ⟨a', cap', he, ⟨hs, hlc, hcm⟩, _, hk⟩ := hl
    simp only [List.cons.injEq, Value.int.injEq, Value.string.injEq, Value.slice.injEq, true_and, and_true] at he
    obtain ⟨rfl, rfl, rfl, rfl, rfl, rfl⟩ := he
    have hm : ks.length ≤ maxLen := by omega
    have hS := szS_any ks h
    have HW : Hid ((Tm.node op n s ks).wt = s.size + (ks.length + Tm.wts ks)) := by show _ = _; simp only [Tm.wt]
    generalize (Tm.node op n s ks).wt = wt at *
    generalize ks.length + Tm.wts ks = r at *
    clear h
    unfold maxLen at hs hcm
    by_cases hlt : left - s.size < 0
    · go_enter Tryz.func9, Tryz.ntmps9
      go_wp2_with fail
      go_ret
      exact ⟨ret_int (by rw [szv_no (by have := HW.out; omega)]), (Below.refl _ _).alloc (Nat.le_refl _) _⟩
    · have hge : 0 ≤ left - s.size := by omega
      go_enter Tryz.func9, Tryz.ntmps9
      go_wp2_with fail
      refine (hS a cap _ _ (hk.below ((Below.refl _ _).alloc (Nat.le_refl _) _)) hm (by omega) (by omega)).mono ?_
      rintro e w2 ⟨rfl, hb2⟩
      by_cases hw : (r : Int) ≤ left - s.size
      · rw [szv_yes hw]
        have hp : 0 ≤ left - s.size - r := by omega
        go_wp2_with fail
        go_ret
        exact ⟨ret_int (by rw [szv_yes (by have := HW.out; omega)]; have := HW.out; omega), ((Below.refl _ _).alloc (Nat.le_refl _) _).trans (hb2.mono (by simp))⟩
      · rw [szv_no (by omega)]
        go_wp2_with fail
        go_ret
        exact ⟨ret_int (by rw [szv_no (by have := HW.out; omega)]), ((Below.refl _ _).alloc (Nat.le_refl _) _).trans (hb2.mono (by simp))⟩

theorem sz_any : ∀ (k : Nat) (t : Tm), t.size ≤ k → SzOk t
  | 0, t, h => by have := t.size_pos; omega
  | k + 1, t, h => sz_step t fun x hx => sz_any k x (by
      cases t with
      | node op n s ks =>
        have := Tm.size_mem (ks := ks) hx
        simp only [Tm.size] at h
        omega)

theorem sz_calls (t : Tm) : SzOk t := sz_any t.size t (Nat.le_refl _)

theorem box_cell (w : World) (cs : Array Value) (t : TypeId) (j : Nat) (v : Value) (h : cs[j]? = some v) : (w.alloc (.cells cs t)).cell? ⟨w.heap.size, j, none⟩ = some v := by
  have e : (w.alloc (.cells cs t)).heap[w.heap.size]? = some (.cells cs t) := heap_alloc_new w _
  unfold World.cell?
  rw [e]
  exact h

def TsOk (t : Tm) : Prop := ∀ (op n : Int) (s : ByteArray) (a : Option Addr) (len cap : Nat) (w : World), Lies w 0 t (tmCells op n s a len cap) → t.size ≤ 2097152 →
  Calls Tryz.prog 146 #[.agg #[.int .i64 op, .int .i64 n, .string s, .slice a len cap]] w fun e w' => e = .returned (.int .i64 (t.size : Int)) ∧ Below w.heap.size w w'

set_option maxHeartbeats 400000 in
theorem ts_step (t : Tm) (h : ∀ x ∈ t.kids, TsOk x) : TsOk t := by
  intro op n s a len cap w hl hsz
  cases t with
  | node op' n' s' ks =>
    simp only [Lies, tmCells] at hl
    obtain ⟨a', cap', he, ⟨hs, hlc, hcm⟩, _, hk⟩ := hl
    simp only [List.cons.injEq, Value.int.injEq, Value.string.injEq, Value.slice.injEq, true_and, and_true] at he
    obtain ⟨rfl, rfl, rfl, rfl, rfl, rfl⟩ := he
    have HZ : Hid ((Tm.node op n s ks).size = 1 + Tm.sizes ks) := by show _ = _; simp only [Tm.size]
    generalize (Tm.node op n s ks).size = z at *
    have hzs : Tm.sizes ks ≤ 2097152 := by have := HZ.out; omega
    have h' : ∀ x ∈ ks, TsOk x := h
    clear h
    have hll := Tm.length_le_sizes ks
    generalize hlen : ks.length = len at *
    have HL : Hid (ks.length = len) := hlen
    clear hlen
    unfold maxLen at hs hcm
    go_enter Tryz.func146, Tryz.ntmps146
    go_wp2_with fail
    go_loopw [3, 4] (fun l i wr => ∃ k : Nat, k ≤ len ∧ i = .int .i64 k ∧ l = .int .i64 (1 + (Tm.sizes (ks.take k) : Int)) ∧ Below (w.heap.size + 1) (w.alloc (.cells #[.int .i64 op, .int .i64 n, .string s, .slice a len cap] 29)) wr) (fun _ i _ => len - (intOf i).toNat)
    case atStart => exact ⟨0, Nat.zero_le _, rfl, by simp [Tm.sizes], Below.refl _ _⟩
    case round =>
      obtain ⟨k, hkl, rfl, rfl, hb⟩ := hrel
      have b3 : wr.cell? ⟨w.heap.size, 3, none⟩ = some (.slice a len cap) := (hb.cell (p := ⟨w.heap.size, 3, none⟩) (by simp)).trans (box_cell _ _ _ 3 _ rfl)
      have hbw : Below w.heap.size w wr := ((Below.refl _ _).alloc (Nat.le_refl _) _).trans (hb.mono (by omega))
      by_cases hlt : k < len
      · have hlt' : k < ks.length := by have := HL.out; omega
        obtain ⟨b, o, op1, n1, s1, a1, len1, cap1, rfl, _, hbs, c0, c1, c2, c3, hT⟩ := hk.elem (k := k) hlt'
        have ht : ks.take (k + 1) = ks.take k ++ [ks[k]] := Tm.take_succ_get (by simp [hlt'])
        have hwt : Tm.sizes (ks.take (k + 1)) = Tm.sizes (ks.take k) + ks[k].size := by rw [ht, Tm.sizes_append]; simp [Tm.sizes]
        have HW : Hid (Tm.sizes (ks.take (k + 1)) = Tm.sizes (ks.take k) + ks[k].size) := hwt
        have hA : Tm.sizes (ks.take (k + 1)) ≤ Tm.sizes ks := by
          have := Tm.sizes_append (ks.take (k + 1)) (ks.drop (k + 1))
          rw [List.take_append_drop] at this
          omega
        have c0' := (hbw.cell (p := ⟨b, o + k * 4, none⟩) hbs).trans c0
        have c1' := (hbw.cell (p := ⟨b, o + k * 4 + 1, none⟩) hbs).trans c1
        have c2' := (hbw.cell (p := ⟨b, o + k * 4 + 2, none⟩) hbs).trans c2
        have c3' := (hbw.cell (p := ⟨b, o + k * 4 + 3, none⟩) hbs).trans c3
        have HT : Hid (Lies wr 0 ks[k] (tmCells op1 n1 s1 a1 len1 cap1)) := hT.below hbw
        have hct := h' ks[k] (List.getElem_mem hlt')
        generalize hwl : Tm.sizes (ks.take k) = wl at *
        generalize hwk : Tm.sizes (ks.take (k + 1)) = wk at *
        generalize hq : ks[k] = tk at *
        generalize hqw : tk.size = qw at *
        have Hqw : Hid (tk.size = qw) := hqw
        have Hwk : Hid (Tm.sizes (ks.take (k + 1)) = wk) := hwk
        have hq1 : wl + qw ≤ 2097152 := by omega
        have hq2 : qw ≤ 2097152 := by omega
        have HB : Hid (Below (w.heap.size + 1) (w.alloc (.cells #[.int .i64 op, .int .i64 n, .string s, .slice (some ⟨b, o, none⟩) len cap] 29)) wr) := hb
        clear hwl hwk hq hqw h' hk hT ht hwt hA c0 c1 c2 c3 hb hbw
        go_wp2_with fail
        refine (hct op1 n1 s1 a1 len1 cap1 _ HT.out (by rw [Hqw.out]; exact hq2)).mono ?_
        rintro e w2 ⟨rfl, hb2⟩
        rw [Hqw.out]
        go_wp2_with fail
        go_roundw
        case rel => exact ⟨k + 1, by omega, by go_num, by rw [Hwk.out, HW.out]; go_num, HB.out.trans (hb2.mono (by have := HB.out.size; simp at this; omega))⟩
        case measure => simp [intOf]; omega
      · go_wp2_with fail
        go_ret
        exact ⟨ret_int (by rw [List.take_of_length_le (by have := HL.out; omega), HZ.out]; omega), hbw⟩

theorem ts_any : ∀ (k : Nat) (t : Tm), t.size ≤ k → TsOk t
  | 0, t, h => by have := t.size_pos; omega
  | k + 1, t, h => ts_step t fun x hx => ts_any k x (by
      cases t with
      | node op n s ks =>
        have := Tm.size_mem (ks := ks) hx
        simp only [Tm.size] at h
        omega)

theorem ts_calls (t : Tm) : TsOk t := ts_any t.size t (Nat.le_refl _)

theorem info29 : (Tryz.prog.info? 29).map (fun i => (i.zero, i.size, i.bytes)) = some (some (.agg #[.int .i64 0, .int .i64 0, .string ByteArray.empty, .slice none 0 0]), 4, 56) := by kernel_rfl

def madeTm (n : Nat) : Array Value := madeCells #[.int .i64 0, .int .i64 0, .string ByteArray.empty, .slice none 0 0] (n * 4)
theorem madeTm_size (n : Nat) : (madeTm n).size = n * 4 := size_madeCells _ _

theorem make_tm (n : Nat) (hn : n ≤ 2097152) (w : World) :
    (Instr.makeSlice 27 (.int .i64 (n : Int)) (.int .i64 (n : Int))).run Tryz.prog w = .ok (.slice (some ⟨w.heap.size, 0, none⟩) n n) (w.alloc (.cells (madeTm n) 29)) := by
  obtain ⟨i, hi, hzz⟩ := Option.map_eq_some_iff.1 info29
  simp only [Prod.mk.injEq] at hzz
  obtain ⟨hz, hs, hb⟩ := hzz
  have hr := run_make (P := Tryz.prog) w 27 29 i _ Tryz.underlying27 hi hz .i64 .i64 n n (by omega) (Int.le_refl _) (by rw [hb]; omega) (by omega)
  simp only [Int.toNat_natCast, hs] at hr
  exact hr

theorem setCells_row {b : Nat} {t : TypeId} {fr : Nat × Nat} : ∀ (vs : List Value) (o : Nat) (w : World) (C : Array Value), w.heap[b]? = some (.cells C t fr) →
    ∃ C', (w.setCells b o vs).heap[b]? = some (.cells C' t fr) ∧ C'.size = C.size
  | [], o, w, C, h => ⟨C, h, rfl⟩
  | v :: r, o, w, C, h => by
    have h1 : (w.setCell ⟨b, o, none⟩ v).heap[b]? = some (.cells (C.setIfInBounds o v) t fr) := by
      simp only [World.setCell, Array.getElem?_modify]
      simp [h]
    obtain ⟨C', h2, h3⟩ := setCells_row r (o + 1) _ _ h1
    exact ⟨C', h2, by simpa using h3⟩

theorem cell_of_row {w : World} {b j : Nat} {C : Array Value} {t : TypeId} {fr : Nat × Nat} (h : w.heap[b]? = some (.cells C t fr)) (hj : j < C.size) : w.cell? ⟨b, j, none⟩ = some C[j] := by
  unfold World.cell?
  rw [h]
  simp [hj]

theorem frozen_of_row {w : World} {b j : Nat} {C : Array Value} {t : TypeId} (h : w.heap[b]? = some (.cells C t (0, 0))) : w.frozen? ⟨b, j, none⟩ = false := by
  unfold World.frozen?
  rw [h]
  simp

/-- In the middle of the copy: k of the kids are there. -/
structure ToMid (w : World) (ks : List Tm) (k : Nat) (wr : World) : Prop where
  below : Below w.heap.size w wr
  row : ∃ C, wr.heap[w.heap.size]? = some (.cells C 29 (0, 0)) ∧ C.size = ks.length * 4
  done : ∀ j t, j < k → ks[j]? = some t → ∃ cs, wr.rangeAt w.heap.size (j * 4) cs ∧ Lies wr (w.heap.size + 1) t cs

theorem ToMid.start (w : World) (ks : List Tm) : ToMid w ks 0 (w.alloc (.cells (madeTm ks.length) 29)) :=
  ⟨(Below.refl _ _).alloc (Nat.le_refl _) _, ⟨madeTm ks.length, heap_alloc_new w _, madeTm_size _⟩, fun _ _ hj => absurd hj (Nat.not_lt_zero _)⟩

theorem ToMid.lt {w wr : World} {ks : List Tm} {k : Nat} (h : ToMid w ks k wr) : w.heap.size < wr.heap.size := by
  obtain ⟨C, h1, _⟩ := h.row
  by_cases hb : w.heap.size < wr.heap.size
  · exact hb
  · have : wr.heap[w.heap.size]? = none := by simp; omega
    rw [this] at h1
    cases h1

theorem ToMid.row2 {w wr w2 : World} {ks : List Tm} {k : Nat} (h : ToMid w ks k wr) (hb : Below wr.heap.size wr w2) : ∃ C, w2.heap[w.heap.size]? = some (.cells C 29 (0, 0)) ∧ C.size = ks.length * 4 := by
  obtain ⟨C, h1, h2⟩ := h.row
  exact ⟨C, (hb.block _ h.lt).trans h1, h2⟩

theorem ToMid.there {w wr w2 : World} {ks : List Tm} {k : Nat} (h : ToMid w ks k wr) (hb : Below wr.heap.size wr w2) (hk : k < ks.length) : w2.there w.heap.size (k * 4) 4 := by
  obtain ⟨C, h1, h2⟩ := h.row2 hb
  intro j hj
  exact ⟨by rw [cell_of_row h1 (by omega)]; rfl, frozen_of_row h1⟩

theorem ToMid.step {w wr w2 : World} {ks : List Tm} {k : Nat} {cs : List Value} (h : ToMid w ks k wr) (hb : Below wr.heap.size wr w2) (hk : k < ks.length) (hl : Lies w2 wr.heap.size ks[k] cs) :
    ToMid w ks (k + 1) (w2.setCells w.heap.size (k * 4) cs) := by
  have hlt := h.lt
  have h4 := hl.length
  have hth := h.there hb hk
  have out : ∀ b o, w.heap.size + 1 ≤ b → (w2.setCells w.heap.size (k * 4) cs).cell? ⟨b, o, none⟩ = w2.cell? ⟨b, o, none⟩ := fun b o hbb =>
    World.cell?_setCells_out _ _ _ _ _ (fun e => by simp only at e; omega)
  obtain ⟨C, h1, h2⟩ := h.row2 hb
  obtain ⟨C', g1, g2⟩ := setCells_row cs (k * 4) w2 C h1
  refine ⟨?_, ⟨C', g1, g2.trans h2⟩, fun j t hj ht => ?_⟩
  · refine (h.below.trans (hb.mono (by omega))).trans ?_
    have : ∀ (vs : List Value) (o : Nat) (v : World), Below w.heap.size v (v.setCells w.heap.size o vs) := by
      intro vs
      induction vs with
      | nil => exact fun o v => Below.refl _ _
      | cons x r ih => exact fun o v => ((Below.refl _ v).setCell (p := ⟨w.heap.size, o, none⟩) (Nat.le_refl _) x).trans (ih (o + 1) _)
    exact this _ _ _
  · rcases Nat.lt_succ_iff_lt_or_eq.1 hj with hjk | rfl
    · obtain ⟨cs', r1, r2⟩ := h.done j t hjk ht
      have r3 : w2.rangeAt w.heap.size (j * 4) cs' := rangeAt_below r1 hb
      refine ⟨cs', World.rangeAt_setCells_apart r3 _ _ _ (Or.inr (Or.inl (by rw [r2.length]; omega))), ?_⟩
      exact Lies.carry (Nat.le_refl _) (fun b o hb1 _ => out b o hb1) t cs' (r2.below hb)
    · rw [List.getElem?_eq_getElem hk] at ht
      cases ht
      exact ⟨cs, World.rangeAt_setCells_same _ _ _ _ (by rw [h4]; exact hth), Lies.carry (by omega) (fun b o hb1 _ => out b o (by omega)) _ cs hl⟩

theorem ToMid.lies {w wr : World} {ks : List Tm} (h : ToMid w ks ks.length wr) : LiesAll wr w.heap.size (some ⟨w.heap.size, 0, none⟩) 0 ks :=
  LiesAll.mk fun k t hk => by
    have hkl : k < ks.length := by
      by_cases hq : k < ks.length
      · exact hq
      · rw [List.getElem?_eq_none (by omega)] at hk; cases hk
    obtain ⟨cs, h1, h2⟩ := h.done k t hkl hk
    exact ⟨w.heap.size, 0, cs, rfl, Nat.le_refl _, by rw [Nat.zero_add, Nat.zero_add]; exact h1, h2.any (by omega)⟩

theorem below_alloc3 (w : World) (x y z : Obj) : Below w.heap.size w (((w.alloc x).alloc y).alloc z) :=
  (((Below.refl _ _).alloc (Nat.le_refl _) _).alloc (by simp) _).alloc (by simp; omega) _
theorem heap_size_alloc (w : World) (x : Obj) : (w.alloc x).heap.size = w.heap.size + 1 := by simp
theorem cell_set_other {w : World} {b o b' o' : Nat} {v : Value} (h : b' ≠ b) : (w.setCell ⟨b, o, none⟩ v).cell? ⟨b', o', none⟩ = w.cell? ⟨b', o', none⟩ :=
  World.cell?_setCell_other _ _ _ _ (fun e => h (by cases e; rfl))

def ToOk (t : Tm) : Prop := ∀ (op n : Int) (s : ByteArray) (a : Option Addr) (len cap : Nat) (w : World), Lies w 0 t (tmCells op n s a len cap) → t.size ≤ 2097152 →
  Calls Tryz.prog 11 #[.agg #[.int .i64 op, .int .i64 n, .string s, .slice a len cap]] w fun e w' => ∃ a', e = .returned (.agg #[.int .i64 op, .int .i64 n, .string s, .slice a' len len]) ∧ Lies w' w.heap.size t (tmCells op n s a' len len) ∧ Below w.heap.size w w'

set_option maxHeartbeats 400000 in
theorem toS_any (ks : List Tm) (hks : ∀ t ∈ ks, ToOk t) (a : Option Addr) (cap : Nat) (w : World) (hl : LiesAll w 0 a 0 ks) (hsz : Tm.sizes ks ≤ 2097152) :
    Calls Tryz.prog 62 #[.slice a ks.length cap] w fun e w' => e = .returned (.slice (some ⟨w.heap.size, 0, none⟩) ks.length ks.length) ∧ LiesAll w' w.heap.size (some ⟨w.heap.size, 0, none⟩) 0 ks ∧ Below w.heap.size w w' := by
  have hll := Tm.length_le_sizes ks
  have hmk := make_tm ks.length (by omega)
  have HS : Hid (∀ k (hk : k < ks.length), (ks[k]).size ≤ 2097152) := fun k hk => by have := Tm.size_mem (List.getElem_mem hk); omega
  have HM := ToMid.start w ks
  have HM' : Hid (ToMid w ks 0 (w.alloc (.cells (madeTm ks.length) 29))) := HM
  clear HM
  have hlb : ks.length ≤ 2097152 := by omega
  generalize hlen : ks.length = len at hmk hll hlb HM' ⊢
  have HL : Hid (ks.length = len) := hlen
  clear hlen
  go_enter Tryz.func62, Tryz.ntmps62
  go_wp2_with fail
  go_loopw [4] (fun i wr => ∃ k : Nat, k ≤ len ∧ i = .int .i64 k ∧ ToMid w ks k wr) (fun i _ => len - (intOf i).toNat)
  case atStart => exact ⟨0, Nat.zero_le _, rfl, HM'.out⟩
  case round =>
    obtain ⟨k, hkl, rfl, hM⟩ := hrel
    by_cases hlt : k < len
    · have hlt' : k < ks.length := by have := HL.out; omega
      obtain ⟨b, o, op1, n1, s1, a1, len1, cap1, rfl, _, hbs, c0, c1, c2, c3, hT⟩ := hl.elem (k := k) hlt'
      have c0' := (hM.below.cell (p := ⟨b, o + k * 4, none⟩) hbs).trans c0
      have c1' := (hM.below.cell (p := ⟨b, o + k * 4 + 1, none⟩) hbs).trans c1
      have c2' := (hM.below.cell (p := ⟨b, o + k * 4 + 2, none⟩) hbs).trans c2
      have c3' := (hM.below.cell (p := ⟨b, o + k * 4 + 3, none⟩) hbs).trans c3
      have HT : Hid (Lies wr 0 ks[k] (tmCells op1 n1 s1 a1 len1 cap1)) := hT.below hM.below
      have hct := hks ks[k] (List.getElem_mem hlt')
      clear c0 c1 c2 c3 hT
      go_wp2_with fail
      refine (hct op1 n1 s1 a1 len1 cap1 _ HT.out (HS.out k hlt')).mono ?_
      rintro e w2 ⟨a2, rfl, hL2, hb2⟩
      have hth := hM.there hb2 hlt'
      obtain ⟨d0, f0⟩ := hth 0 (by omega)
      obtain ⟨d1, f1⟩ := hth 1 (by omega)
      obtain ⟨d2, f2⟩ := hth 2 (by omega)
      obtain ⟨d3, f3⟩ := hth 3 (by omega)
      obtain ⟨u0, d0⟩ := Option.isSome_iff_exists.1 d0
      obtain ⟨u1, d1⟩ := Option.isSome_iff_exists.1 d1
      obtain ⟨u2, d2⟩ := Option.isSome_iff_exists.1 d2
      obtain ⟨u3, d3⟩ := Option.isSome_iff_exists.1 d3
      rw [Nat.add_zero] at d0 f0
      have HM2 : Hid (ToMid w ks (k + 1) (w2.setCells w.heap.size (k * 4) (tmCells op1 n1 s1 a2 len1 len1))) := hM.step hb2 hlt' hL2
      clear hL2 hth
      go_wp2_with fail
      go_roundw
      case rel => exact ⟨k + 1, by omega, by go_num, HM2.out⟩
      case measure => simp [intOf]; omega
    · go_wp2_with fail
      go_ret
      have hkk : k = ks.length := by have := HL.out; omega
      subst hkk
      exact ⟨rfl, hM.lies, hM.below⟩

set_option maxHeartbeats 400000 in
theorem to_step (t : Tm) (h : ∀ x ∈ t.kids, ToOk x) : ToOk t := by
  intro op n s a len cap w hl hsz
  cases t with
  | node op' n' s' ks =>
    simp only [Lies, tmCells] at hl
    obtain ⟨a', cap', he, ⟨hs, hlc, hcm⟩, hwf, hk⟩ := hl
    simp only [List.cons.injEq, Value.int.injEq, Value.string.injEq, Value.slice.injEq, true_and, and_true] at he
    obtain ⟨rfl, rfl, rfl, rfl, rfl, rfl⟩ := he
    have hzs : Tm.sizes ks ≤ 2097152 := by simp only [Tm.size] at hsz; omega
    have hS := toS_any ks h
    have HF : Hid (s.size ≤ maxLen ∧ ks.length ≤ ks.length ∧ ks.length ≤ maxLen) := ⟨hs, Nat.le_refl _, by omega⟩
    have HW : Hid ((Lit.int .i64 op).wf = true ∧ (Lit.int .i64 n).wf = true) := hwf
    have HK : Hid (LiesAll w 0 a 0 ks) := hk
    clear h hk hwf hs hlc hcm
    go_enter Tryz.func11, Tryz.ntmps11
    go_wp2_with fail
    refine (hS a cap _ (HK.out.below (below_alloc3 _ _ _ _)) hzs).mono ?_
    rintro e w2 ⟨rfl, hL2, hb2⟩
    obtain ⟨hc, hf⟩ := bcell hb2
    go_wp2_with fail
    simp only [heap_size_alloc] at hL2 hb2 hc
    have hb3 : Below w.heap.size w w2 := (below_alloc3 _ _ _ _).trans (hb2.mono (by omega))
    refine bodyPost_ret (v := .agg #[.int .i64 op, .int .i64 n, .string s, .slice (some ⟨w.heap.size + 1 + 1 + 1, 0, none⟩) ks.length ks.length]) (by simp [results, Tryz.results11, go_sem, hc]) rfl ⟨_, rfl, ?_, ?_⟩
    · simp only [Lies]
      refine ⟨_, _, rfl, HF.out, HW.out, ?_⟩
      refine LiesAll.carry (L := w.heap.size + 1 + 1 + 1) (by omega) (fun b o hb _ => ?_) _ _ _ hL2
      rw [cell_set_other (by omega), cell_set_other (by omega), cell_set_other (by omega), cell_set_other (by omega), cell_set_other (by omega)]
    · exact ((((hb3.setCell (by show w.heap.size ≤ w.heap.size + 1 + 1; omega) _).setCell (by simp) _).setCell (by simp) _).setCell (by simp) _).setCell (by simp) _

theorem to_any : ∀ (k : Nat) (t : Tm), t.size ≤ k → ToOk t
  | 0, t, h => by have := t.size_pos; omega
  | k + 1, t, h => to_step t fun x hx => to_any k x (by
      cases t with
      | node op n s ks =>
        have := Tm.size_mem (ks := ks) hx
        simp only [Tm.size] at h
        omega)

theorem to_calls (t : Tm) : ToOk t := to_any t.size t (Nat.le_refl _)

theorem below_alloc2 (w : World) (x y : Obj) : Below w.heap.size w ((w.alloc x).alloc y) :=
  ((Below.refl _ _).alloc (Nat.le_refl _) _).alloc (by simp) _

def EqOk (t : Tm) : Prop := ∀ (op n : Int) (s : ByteArray) (a : Option Addr) (len cap : Nat) (op' n' : Int) (s' : ByteArray) (a' : Option Addr) (len' cap' : Nat) (w : World), Lies w 0 t (tmCells op n s a len cap) → Lies w 0 t (tmCells op' n' s' a' len' cap') →
  Calls Tryz.prog 13 #[.agg #[.int .i64 op, .int .i64 n, .string s, .slice a len cap], .agg #[.int .i64 op', .int .i64 n', .string s', .slice a' len' cap']] w fun e w' => e = .returned (.bool true) ∧ Below w.heap.size w w'

set_option maxHeartbeats 400000 in
theorem eqS_any (ks : List Tm) (hks : ∀ t ∈ ks, EqOk t) (a a' : Option Addr) (cap cap' : Nat) (w : World) (hl : LiesAll w 0 a 0 ks) (hl' : LiesAll w 0 a' 0 ks) (hm : ks.length ≤ maxLen) :
    Calls Tryz.prog 64 #[.slice a ks.length cap, .slice a' ks.length cap'] w fun e w' => e = .returned (.bool true) ∧ Below w.heap.size w w' := by
  unfold maxLen at hm
  generalize hlen : ks.length = len at *
  have HL : Hid (ks.length = len) := hlen
  clear hlen
  have hne : ((len : Int) != (len : Int)) = false := by simp
  go_enter Tryz.func64, Tryz.ntmps64
  go_wp2_with fail
  go_loopw [5] (fun i wr => ∃ k : Nat, k ≤ len ∧ i = .int .i64 k ∧ Below w.heap.size w wr) (fun i _ => len - (intOf i).toNat)
  case atStart => exact ⟨0, Nat.zero_le _, rfl, Below.refl _ _⟩
  case round =>
    obtain ⟨k, hkl, rfl, hb⟩ := hrel
    by_cases hlt : k < len
    · have hlt' : k < ks.length := by have := HL.out; omega
      obtain ⟨b, o, op1, n1, s1, a1, len1, cap1, rfl, _, hbs, c0, c1, c2, c3, hT⟩ := hl.elem (k := k) hlt'
      obtain ⟨b', o', op2, n2, s2, a2, len2, cap2, rfl, _, hbs', d0, d1, d2, d3, hT'⟩ := hl'.elem (k := k) hlt'
      have c0' := (hb.cell (p := ⟨b, o + k * 4, none⟩) hbs).trans c0
      have c1' := (hb.cell (p := ⟨b, o + k * 4 + 1, none⟩) hbs).trans c1
      have c2' := (hb.cell (p := ⟨b, o + k * 4 + 2, none⟩) hbs).trans c2
      have c3' := (hb.cell (p := ⟨b, o + k * 4 + 3, none⟩) hbs).trans c3
      have d0' := (hb.cell (p := ⟨b', o' + k * 4, none⟩) hbs').trans d0
      have d1' := (hb.cell (p := ⟨b', o' + k * 4 + 1, none⟩) hbs').trans d1
      have d2' := (hb.cell (p := ⟨b', o' + k * 4 + 2, none⟩) hbs').trans d2
      have d3' := (hb.cell (p := ⟨b', o' + k * 4 + 3, none⟩) hbs').trans d3
      have HT : Hid (Lies wr.drew 0 ks[k] (tmCells op1 n1 s1 a1 len1 cap1)) := hT.below hb.drew
      have HT' : Hid (Lies wr.drew 0 ks[k] (tmCells op2 n2 s2 a2 len2 cap2)) := hT'.below hb.drew
      have hct := hks ks[k] (List.getElem_mem hlt')
      clear c0 c1 c2 c3 hT d0 d1 d2 d3 hT' hl hl' hks
      generalize ks[k] = tk at *
      go_wp2_with fail
      go_region_with (go_at_call 13; refine (hct op1 n1 s1 a1 len1 cap1 op2 n2 s2 a2 len2 cap2 _ HT.out HT'.out).mono ?_; rintro e w2 ⟨rfl, hb2⟩)
      all_goals
        go_wp2_with fail
        go_roundw
        case rel => exact ⟨k + 1, by omega, by go_num, hb.trans ((Below.drew (Below.refl _ _)).trans (hb2.mono (by have := hb.size; simpa using this)))⟩
        case measure => simp [intOf]; omega
    · go_wp2_with fail
      go_ret
      exact ⟨rfl, hb⟩

set_option maxHeartbeats 400000 in
theorem eq_step (t : Tm) (h : ∀ x ∈ t.kids, EqOk x) : EqOk t := by
  intro op n s a len cap op' n' s' a' len' cap' w hl hl'
  cases t with
  | node op1 n1 s1 ks =>
    simp only [Lies, tmCells] at hl hl'
    obtain ⟨a1, cap1, he, ⟨hs, hlc, hcm⟩, _, hk⟩ := hl
    simp only [List.cons.injEq, Value.int.injEq, Value.string.injEq, Value.slice.injEq, true_and, and_true] at he
    obtain ⟨rfl, rfl, rfl, rfl, rfl, rfl⟩ := he
    obtain ⟨a2, cap2, he, ⟨_, hlc', hcm'⟩, _, hk'⟩ := hl'
    simp only [List.cons.injEq, Value.int.injEq, Value.string.injEq, Value.slice.injEq, true_and, and_true] at he
    obtain ⟨rfl, rfl, rfl, rfl, rfl, rfl⟩ := he
    have hS := eqS_any ks h
    have HK : Hid (LiesAll w 0 a 0 ks) := hk
    have HK' : Hid (LiesAll w 0 a' 0 ks) := hk'
    have hm : ks.length ≤ maxLen := by omega
    have HM : Hid (ks.length ≤ maxLen) := hm
    clear h hk hk' hs hlc hcm hlc' hcm' hm
    have e1 : (op' != op') = false := by simp
    have e2 : (n' != n') = false := by simp
    go_enter Tryz.func13, Tryz.ntmps13
    go_wp2_with fail
    refine (hS a a' cap cap' _ (HK.out.below (below_alloc2 _ _ _)) (HK'.out.below (below_alloc2 _ _ _)) HM.out).mono ?_
    rintro e w2 ⟨rfl, hb2⟩
    go_wp2_with fail
    go_ret
    exact ⟨rfl, (below_alloc2 _ _ _).trans (hb2.mono (by simp; omega))⟩

theorem eq_any : ∀ (k : Nat) (t : Tm), t.size ≤ k → EqOk t
  | 0, t, h => by have := t.size_pos; omega
  | k + 1, t, h => eq_step t fun x hx => eq_any k x (by
      cases t with
      | node op n s ks =>
        have := Tm.size_mem (ks := ks) hx
        simp only [Tm.size] at h
        omega)

theorem eq_calls (t : Tm) : EqOk t := eq_any t.size t (Nat.le_refl _)

theorem hide {p : Prop} (h : p) : Hid p := h
theorem unhide {p : Prop} (h : Hid p) : p := h

/-- The kids of a term that lies in memory, each with its cells. -/
theorem LiesAll.pairs {w : World} {L : Nat} {a : Option Addr} : ∀ {i : Nat} {ks : List Tm}, LiesAll w L a i ks →
    ∃ kp : List (Tm × List Value), kp.map (·.1) = ks ∧ (∀ p ∈ kp, Lies w L p.1 p.2) ∧ (ks ≠ [] → ∃ b o, a = some ⟨b, o, none⟩ ∧ w.rangeAt b (o + i * 4) (kp.flatMap (·.2)))
  | i, [], _ => ⟨[], rfl, fun _ h => (by cases h), fun h => absurd rfl h⟩
  | i, t :: r, h => by
    simp only [LiesAll] at h
    obtain ⟨⟨b, o, cs, ha, hb, hr, ht⟩, h2⟩ := h
    obtain ⟨kp, k1, k2, k3⟩ := LiesAll.pairs h2
    refine ⟨(t, cs) :: kp, by simp [k1], fun p hp => ?_, fun _ => ⟨b, o, ha, ?_⟩⟩
    · rcases List.mem_cons.1 hp with rfl | hp
      · exact ht
      · exact k2 p hp
    · have h4 := ht.length
      intro j v hj
      simp only [List.flatMap_cons] at hj
      by_cases hlt : j < cs.length
      · rw [List.getElem?_append_left hlt] at hj
        exact hr j v hj
      · rw [List.getElem?_append_right (by omega)] at hj
        by_cases hn : r = []
        · subst hn
          have : kp = [] := by simpa using k1
          subst this
          simp at hj
        · obtain ⟨b', o', ha', hr'⟩ := k3 hn
          rw [ha] at ha'
          cases ha'
          have := hr' (j - cs.length) v hj
          rw [show o + (i + 1) * 4 + (j - cs.length) = o + i * 4 + j by omega] at this
          exact this

theorem Lies.one {w : World} {L : Nat} {t : Tm} {cs : List Value} (h : Lies w L t cs) : ∀ u ∈ cs, u.oneCell' = true := by
  obtain ⟨op, n, s, a, len, cap, rfl⟩ := h.cells
  intro u hu
  simp only [tmCells, List.mem_cons, List.not_mem_nil, or_false] at hu
  rcases hu with rfl | rfl | rfl | rfl <;> rfl

theorem pairs_length {w : World} {L : Nat} : ∀ {kp : List (Tm × List Value)}, (∀ p ∈ kp, Lies w L p.1 p.2) → (kp.flatMap (·.2)).length = kp.length * 4
  | [], _ => rfl
  | p :: r, h => by
    have h1 := (h p (by simp)).length
    have h2 := pairs_length (kp := r) fun q hq => h q (by simp [hq])
    simp only [List.flatMap_cons, List.length_append, List.length_cons, h1, h2]
    omega

/-- The list that the call keeps: its slice is the value v. -/
structure Stk (w : World) (ps : List (Tm × List Value)) (v : Value) (wr : World) : Prop where
  below : Below w.heap.size w wr
  own : wr.ownsRow w.heap.size 29 4 v ps.length (ps.flatMap (·.2))
  lies : ∀ p ∈ ps, Lies w 0 p.1 p.2

theorem Stk.shape {w wr : World} {ps : List (Tm × List Value)} {v : Value} (h : Stk w ps v wr) : ∃ a c, v = .slice a ps.length c ∧ ps.length ≤ c ∧ c ≤ maxLen := by
  rcases h.own.2 with ⟨h1, h2⟩ | ⟨g, cap, cur, h1, _, _, h2, h3, _⟩
  · exact ⟨none, 0, by rw [h2]; exact h1, by omega, by simp⟩
  · exact ⟨_, _, h1, h2, h3⟩

theorem Stk.top {w wr : World} {us : List (Tm × List Value)} {p : Tm × List Value} {v : Value} (h : Stk w (us ++ [p]) v wr) :
    ∃ g c, v = .slice (some ⟨g, 0, none⟩) (us.length + 1) c ∧ us.length + 1 ≤ c ∧ c ≤ maxLen ∧ ∀ j u, p.2[j]? = some u → wr.cell? ⟨g, us.length * 4 + j, none⟩ = some u := by
  have ho := h.own
  rcases ho.2 with ⟨h1, h2⟩ | ⟨g, cap, cur, h1, _, _, h2, h3, _⟩
  · simp at h2
  · simp only [List.length_append, List.length_cons, List.length_nil, Nat.zero_add] at h1 h2
    refine ⟨g, cap, h1, h2, h3, fun j u hj => ?_⟩
    have hj4 : j < 4 := by
      have := (h.lies p (by simp)).length
      have := (List.getElem?_eq_some_iff.1 hj).1
      omega
    have hus := pairs_length (kp := us) (w := w) (L := 0) fun q hq => h.lies q (by simp [hq])
    have hcells := ho.cells (g := g) (by rw [h1]; rfl) (us.length * 4 + j) u (by
      simp only [List.flatMap_append, List.flatMap_cons, List.flatMap_nil, List.append_nil]
      rw [List.getElem?_append_right (by omega), hus, show us.length * 4 + j - us.length * 4 = j by omega]
      exact hj)
    rw [Addr.add_mid, Nat.zero_add] at hcells
    exact hcells

theorem Stk.push {w wr : World} {us : List (Tm × List Value)} {p : Tm × List Value} {g c : Nat} (h : Stk w (us ++ [p]) (.slice (some ⟨g, 0, none⟩) (us.length + 1) c) wr)
    {a : Option Addr} {ks : List Tm} (cap : Nat) (hk : LiesAll w 0 a 0 ks) (hn : us.length + ks.length ≤ 4194304) (ty : TypeId) :
    ∃ kp : List (Tm × List Value), kp.map (·.1) = ks ∧ ∃ v' w', (Builtin.append_ #[27, 27] ty #[.slice (some ⟨g, 0, none⟩) us.length c, .slice a ks.length cap]).run Tryz.prog wr = .ok v' w' ∧ Stk w (us ++ kp) v' w' := by
  obtain ⟨kp, k1, k2, k3⟩ := hk.pairs
  refine ⟨kp, k1, ?_⟩
  have hkl : kp.length = ks.length := by rw [← k1]; simp
  have hus := pairs_length (kp := us) (w := w) (L := 0) fun q hq => h.lies q (by simp [hq])
  have ho : wr.ownsRow w.heap.size 29 4 (.slice (some ⟨g, 0, none⟩) us.length c) us.length (us.flatMap (·.2)) := by
    have := h.own
    simp only [List.flatMap_append, List.flatMap_cons, List.flatMap_nil, List.append_nil, List.length_append, List.length_cons, List.length_nil, Nat.zero_add] at this
    exact ownsRow_pop (n := us.length) hus this
  have hlies : ∀ q ∈ us ++ kp, Lies w 0 q.1 q.2 := fun q hq => by
    rcases List.mem_append.1 hq with hq | hq
    · exact h.lies q (by simp [hq])
    · exact k2 q hq
  obtain ⟨i, hi, hzz⟩ := Option.map_eq_some_iff.1 info29
  simp only [Prod.mk.injEq] at hzz
  obtain ⟨hz, hs, hb⟩ := hzz
  by_cases hnil : ks = []
  · subst hnil
    have hkp : kp = [] := by simpa using k1
    subst hkp
    have hcap : us.length ≤ c := by
      rcases ho.2 with ⟨h1, _⟩ | ⟨_, _, _, h1, _, _, h2, _⟩
      · cases h1
      · cases h1; exact h2
    have hsrc : Src Tryz.prog i.size 27 (.slice a ([] : List Tm).length cap) 0 [] wr := by
      cases a with
      | none => exact Src.ofNil wr Tryz.underlying27 cap
      | some x => exact Src.ofSlice wr Tryz.underlying27 x 0 cap [] (by simp) (fun j u hj => by simp at hj) (fun u hu => by cases hu)
    exact ⟨_, _, run_append_nothing wr 27 27 ty 29 i Tryz.underlying27 hi _ _ _ hcap _ hsrc, by simpa using h.below, by simpa using ho, by simpa using hlies⟩
  · obtain ⟨b, o, rfl, hr⟩ := k3 hnil
    rw [Nat.zero_mul, Nat.add_zero] at hr
    have hr' : wr.rangeAt b o (kp.flatMap (·.2)) := rangeAt_below hr h.below
    obtain ⟨v', w', g1, g2, g3, _⟩ := run_append_own_wide (P := Tryz.prog) wr w.heap.size 27 ty 29 i _ 4 56 Tryz.underlying27 hi hz hs hb rfl (by omega) _ us.length _ ho ⟨b, o, none⟩ ks.length cap (kp.flatMap (·.2))
      (by rw [pairs_length k2, hkl]) (fun j u hj => by rw [Addr.add_mid]; exact hr' j u hj)
      (fun u hu => by
        obtain ⟨q, hq, hu⟩ := List.mem_flatMap.1 hu
        exact (k2 q hq).one u hu)
      (by unfold maxLen; omega) (by omega) h.below.size
    refine ⟨v', w', g1, h.below.grown g3 h.below.size (fun k hk => (ho.lt k hk).1), ?_, hlies⟩
    rw [List.length_append, List.flatMap_append, hkl]
    exact g2

theorem Stk.start {w w0 : World} {t : Tm} {cs : List Value} (hb : Below w.heap.size w w0) (hl : Lies w 0 t cs) :
    Stk w [(t, cs)] (.slice (some ⟨w0.heap.size, 0, none⟩) 1 1) (w0.alloc (.cells cs.toArray 29)) := by
  refine ⟨hb.alloc hb.size _, ?_, fun p hp => by rw [List.mem_singleton] at hp; subst hp; exact hl⟩
  have := World.ownsRow_lit (base := w.heap.size) (e := 29) (size := 4) w0 cs.toArray 1 hb.size (by simp [maxLen]) (by simp [hl.length])
  simpa using this

/-- An append in the walk, by what its run comes to. -/
theorem wpList_append_run {P : Program} {w : World} {ops : Array Oper} {rest : List Oper} {o : Oper} {a : Act} {Q : Exit → Act → World → Prop} (hgd : o.guard = none) (s x : Operand) (t : TypeId)
    (ho : o.op = .call { callee := .builtin .append, args := #[s, x], argTypes := #[t, t] }) (v xv : Value) (hs : a.eval s = v) (hx : a.eval x = xv) (R : Value → World → Prop)
    (hrun : ∃ v' w', (Builtin.append_ #[t, t] o.type #[v, xv]).run P w = .ok v' w' ∧ R v' w') (h : ∀ v' w', R v' w' → wpList P ops Q rest (a.put o.dst v') w') : wpList P ops Q (o :: rest) a w :=
  wpList_plain hgd fun K hK => by
    obtain ⟨v', w', hr, h2⟩ := hrun
    unfold Oper.wp execOp
    simp only [ho, resolve, invoke, builtin, Sem.run_bind, Sem.run_pure, Result.andThen_ok, List.map_toArray, List.map_cons, List.map_nil, hs, hx, hr]
    exact hK _ _ (h v' w' h2)

mutual
/-- The term's own cells are these; its kids, and theirs, lie in the blocks of the list, a block for each term that has kids. -/
def Own (w : World) : Tm → List Value → List Nat → Prop
  | .node op n s ks, cs, fp => ∃ a cap, cs = tmCells op n s a ks.length cap ∧ (s.size ≤ maxLen ∧ ks.length ≤ cap ∧ cap ≤ maxLen) ∧ ((Lit.int .i64 op).wf = true ∧ (Lit.int .i64 n).wf = true) ∧
      ((ks = [] ∧ fp = []) ∨ ∃ b C f, a = some ⟨b, 0, none⟩ ∧ fp = b :: f ∧ w.heap[b]? = some (.cells C 29 (0, 0)) ∧ OwnAll w b 0 ks f)
def OwnAll (w : World) (b : Nat) : Nat → List Tm → List Nat → Prop
  | _, [], fp => fp = []
  | i, t :: r, fp => ∃ cs f1 f2, fp = f1 ++ f2 ∧ w.rangeAt b (i * 4) cs ∧ Own w t cs f1 ∧ OwnAll w b (i + 1) r f2
end

theorem Own.length {w : World} {t : Tm} {cs : List Value} {fp : List Nat} (h : Own w t cs fp) : cs.length = 4 := by
  cases t
  simp only [Own] at h
  obtain ⟨a, cap, rfl, _⟩ := h
  rfl

mutual
theorem Own.keep {w w' : World} : ∀ (t : Tm) (cs : List Value) (fp : List Nat), Own w t cs fp → (∀ b ∈ fp, w'.heap[b]? = w.heap[b]?) → Own w' t cs fp
  | .node op n s ks, cs, fp, h, hf => by
    simp only [Own] at h ⊢
    obtain ⟨a, cap, h1, h2, h3, h4⟩ := h
    refine ⟨a, cap, h1, h2, h3, ?_⟩
    rcases h4 with h4 | ⟨b, C, f, ha, rfl, hb, hk⟩
    · exact Or.inl h4
    · exact Or.inr ⟨b, C, f, ha, rfl, (hf b (by simp)).trans hb, OwnAll.keep b 0 ks f hk (fun j _ _ => World.cell?_of_block (hf b (by simp))) fun x hx => hf x (by simp [hx])⟩
theorem OwnAll.keep {w w' : World} (b : Nat) : ∀ (i : Nat) (ks : List Tm) (fp : List Nat), OwnAll w b i ks fp → (∀ j, i * 4 ≤ j → j < (i + ks.length) * 4 → w'.cell? ⟨b, j, none⟩ = w.cell? ⟨b, j, none⟩) → (∀ x ∈ fp, w'.heap[x]? = w.heap[x]?) → OwnAll w' b i ks fp
  | i, [], fp, h, _, _ => by simpa [OwnAll] using h
  | i, t :: r, fp, h, hb, hf => by
    simp only [OwnAll] at h ⊢
    obtain ⟨cs, f1, f2, rfl, hr, ht, hk⟩ := h
    refine ⟨cs, f1, f2, rfl, fun j v hj => ?_, Own.keep t cs f1 ht fun x hx => hf x (by simp [hx]), OwnAll.keep b (i + 1) r f2 hk (fun j h1 h2 => hb j (by omega) (by simp only [List.length_cons]; omega)) fun x hx => hf x (by simp [hx])⟩
    have hl := ht.length
    have hj4 : j < 4 := by have := (List.getElem?_eq_some_iff.1 hj).1; omega
    rw [hb (i * 4 + j) (by omega) (by simp only [List.length_cons]; omega)]
    exact hr j v hj
end

theorem OwnAll.split {w : World} {b : Nat} {t : Tm} {l2 : List Tm} : ∀ {i : Nat} {l1 : List Tm} {f : List Nat}, OwnAll w b i (l1 ++ t :: l2) f →
    ∃ fA f1 fB cs, f = fA ++ (f1 ++ fB) ∧ OwnAll w b i l1 fA ∧ w.rangeAt b ((i + l1.length) * 4) cs ∧ Own w t cs f1 ∧ OwnAll w b (i + l1.length + 1) l2 fB
  | i, [], f, h => by
    simp only [List.nil_append, OwnAll] at h
    obtain ⟨cs, f1, f2, rfl, hr, ht, hk⟩ := h
    exact ⟨[], f1, f2, cs, by simp, by simp [OwnAll], by simpa using hr, ht, by simpa using hk⟩
  | i, x :: l1, f, h => by
    simp only [List.cons_append, OwnAll] at h
    obtain ⟨cs, f1, f2, rfl, hr, ht, hk⟩ := h
    obtain ⟨fA, g1, fB, cs', rfl, k1, k2, k3, k4⟩ := OwnAll.split hk
    refine ⟨f1 ++ fA, g1, fB, cs', by simp, ?_, ?_, k3, ?_⟩
    · simp only [OwnAll]
      exact ⟨cs, f1, fA, rfl, hr, ht, k1⟩
    · simpa [Nat.add_assoc, Nat.add_comm, Nat.add_left_comm] using k2
    · simpa [Nat.add_assoc, Nat.add_comm, Nat.add_left_comm] using k4

theorem OwnAll.join {w : World} {b : Nat} {t : Tm} {l2 : List Tm} {f1 fB : List Nat} {cs : List Value} : ∀ {i : Nat} {l1 : List Tm} {fA : List Nat}, OwnAll w b i l1 fA → w.rangeAt b ((i + l1.length) * 4) cs → Own w t cs f1 → OwnAll w b (i + l1.length + 1) l2 fB →
    OwnAll w b i (l1 ++ t :: l2) (fA ++ (f1 ++ fB))
  | i, [], fA, h, hr, ht, hk => by
    simp only [OwnAll] at h
    subst h
    simp only [List.nil_append, OwnAll]
    exact ⟨cs, f1, fB, rfl, by simpa using hr, ht, by simpa using hk⟩
  | i, x :: l1, fA, h, hr, ht, hk => by
    simp only [OwnAll] at h
    obtain ⟨cs', g1, g2, rfl, h1, h2, h3⟩ := h
    simp only [List.cons_append, OwnAll]
    refine ⟨cs', g1, g2 ++ (f1 ++ fB), by simp, h1, h2, OwnAll.join h3 ?_ ht ?_⟩
    · simpa [Nat.add_assoc, Nat.add_comm, Nat.add_left_comm] using hr
    · simpa [Nat.add_assoc, Nat.add_comm, Nat.add_left_comm] using hk

mutual
theorem Own.lies {w : World} {L : Nat} : ∀ (t : Tm) (cs : List Value) (fp : List Nat), Own w t cs fp → (∀ b ∈ fp, L ≤ b) → Lies w L t cs
  | .node op n s ks, cs, fp, h, hf => by
    simp only [Own] at h
    simp only [Lies]
    obtain ⟨a, cap, h1, h2, h3, h4⟩ := h
    refine ⟨a, cap, h1, h2, h3, ?_⟩
    rcases h4 with ⟨rfl, _⟩ | ⟨b, C, f, rfl, rfl, hb, hk⟩
    · simp [LiesAll]
    · exact OwnAll.lies b (hf b (by simp)) 0 ks f hk fun x hx => hf x (by simp [hx])
theorem OwnAll.lies {w : World} {L : Nat} (b : Nat) (hb : L ≤ b) : ∀ (i : Nat) (ks : List Tm) (fp : List Nat), OwnAll w b i ks fp → (∀ x ∈ fp, L ≤ x) → LiesAll w L (some ⟨b, 0, none⟩) i ks
  | i, [], fp, _, _ => by simp [LiesAll]
  | i, t :: r, fp, h, hf => by
    simp only [OwnAll] at h
    simp only [LiesAll]
    obtain ⟨cs, f1, f2, rfl, hr, ht, hk⟩ := h
    exact ⟨⟨b, 0, cs, rfl, hb, by rw [Nat.zero_add]; exact hr, Own.lies t cs f1 ht fun x hx => hf x (by simp [hx])⟩, OwnAll.lies b hb (i + 1) r f2 hk fun x hx => hf x (by simp [hx])⟩
end

/-- Only these blocks may have changed. -/
structure Only (fp : List Nat) (w w' : World) : Prop where
  os : w'.os = w.os
  tape : w'.tape = w.tape
  output : w'.output = w.output
  size : w.heap.size ≤ w'.heap.size
  block : ∀ k, k < w.heap.size → k ∉ fp → w'.heap[k]? = w.heap[k]?

theorem Only.refl (fp : List Nat) (w : World) : Only fp w w := ⟨rfl, rfl, rfl, Nat.le_refl _, fun _ _ _ => rfl⟩
theorem Only.trans {fp : List Nat} {a b c : World} (h : Only fp a b) (k : Only fp b c) : Only fp a c :=
  ⟨k.os.trans h.os, k.tape.trans h.tape, k.output.trans h.output, Nat.le_trans h.size k.size, fun i hi hf => (k.block i (Nat.lt_of_lt_of_le hi h.size) hf).trans (h.block i hi hf)⟩
theorem Only.mono {fp fp' : List Nat} {a b : World} (h : Only fp a b) (hs : ∀ x ∈ fp, x ∈ fp') : Only fp' a b := ⟨h.os, h.tape, h.output, h.size, fun k hk hf => h.block k hk fun hx => hf (hs k hx)⟩
theorem Only.of_below {fp : List Nat} {a b : World} (h : Below a.heap.size a b) : Only fp a b := ⟨h.os, h.tape, h.output, h.size, fun k hk _ => h.block k hk⟩
theorem Only.below {fp : List Nat} {a b : World} {B : Nat} (h : Only fp a b) (hB : B ≤ a.heap.size) (hf : ∀ x ∈ fp, B ≤ x) : Below B a b :=
  ⟨h.os, h.tape, h.output, h.size, fun k hk => h.block k (by omega) fun hx => absurd (hf k hx) (by omega)⟩
theorem Only.set {fp : List Nat} {a b : World} (h : Only fp a b) {p : Addr} (hp : p.block ∈ fp) (u : Value) : Only fp a (b.setCell p u) :=
  ⟨h.os, h.tape, h.output, by simpa using h.size, fun k hk hf => by rw [Below.heap_setCell b p u k (fun e => hf (by rw [e]; exact hp))]; exact h.block k hk hf⟩

theorem kpc {v v' : World} (h : Below v.heap.size v v') {b o : Nat} {u : Value} (hc : v.cell? ⟨b, o, none⟩ = some u) : v'.cell? ⟨b, o, none⟩ = some u :=
  (h.cell (p := ⟨b, o, none⟩) (lt_of_cell hc)).trans hc
theorem below_drew' {v v' : World} (h : Below v.drew.heap.size v.drew v') : Below v.heap.size v v' :=
  ((Below.refl _ _).drew).trans h

/-- A term with no kids lies everywhere. -/
theorem lies_leaf (w : World) (op n : Int) (s : ByteArray) (hs : s.size ≤ maxLen) (h1 : (Lit.int .i64 op).wf = true) (h2 : (Lit.int .i64 n).wf = true) : Lies w 0 (.node op n s []) (tmCells op n s none 0 0) := by
  simp only [Lies]
  exact ⟨none, 0, rfl, ⟨hs, by simp, by simp⟩, ⟨h1, h2⟩, by simp [LiesAll]⟩

/-- The kids of a term, in blocks of their own. -/
def KidsOwn (w : World) (a : Option Addr) (ks : List Tm) (fp : List Nat) : Prop :=
  (ks = [] ∧ fp = []) ∨ ∃ b C f, a = some ⟨b, 0, none⟩ ∧ fp = b :: f ∧ w.heap[b]? = some (.cells C 29 (0, 0)) ∧ OwnAll w b 0 ks f

theorem lt_of_heap {w : World} {b : Nat} {o : Obj} (h : w.heap[b]? = some o) : b < w.heap.size := (Array.getElem?_eq_some_iff.1 h).1

mutual
theorem Own.lt {w : World} : ∀ (t : Tm) (cs : List Value) (fp : List Nat), Own w t cs fp → ∀ x ∈ fp, x < w.heap.size
  | .node op n s ks, cs, fp, h, x, hx => by
    simp only [Own] at h
    obtain ⟨a, cap, h1, h2, h3, h4⟩ := h
    rcases h4 with ⟨_, rfl⟩ | ⟨b, C, f, ha, rfl, hb, hk⟩
    · cases hx
    · rcases List.mem_cons.1 hx with rfl | hx
      · exact lt_of_heap hb
      · exact OwnAll.lt b 0 ks f hk x hx
theorem OwnAll.lt {w : World} (b : Nat) : ∀ (i : Nat) (ks : List Tm) (fp : List Nat), OwnAll w b i ks fp → ∀ x ∈ fp, x < w.heap.size
  | i, [], fp, h, x, hx => by
    simp only [OwnAll] at h
    subst h
    cases hx
  | i, t :: r, fp, h, x, hx => by
    simp only [OwnAll] at h
    obtain ⟨cs, f1, f2, rfl, hr, ht, hk⟩ := h
    rcases List.mem_append.1 hx with hx | hx
    · exact Own.lt t cs f1 ht x hx
    · exact OwnAll.lt b (i + 1) r f2 hk x hx
end

theorem KidsOwn.lt {w : World} {a : Option Addr} {ks : List Tm} {fp : List Nat} (h : KidsOwn w a ks fp) : ∀ x ∈ fp, x < w.heap.size := by
  intro x hx
  rcases h with ⟨_, rfl⟩ | ⟨b, C, f, ha, rfl, hb, hk⟩
  · cases hx
  · rcases List.mem_cons.1 hx with rfl | hx
    · exact lt_of_heap hb
    · exact OwnAll.lt b 0 ks f hk x hx

theorem KidsOwn.keep {w w' : World} {a : Option Addr} {ks : List Tm} {fp : List Nat} (h : KidsOwn w a ks fp) (hf : ∀ b ∈ fp, w'.heap[b]? = w.heap[b]?) : KidsOwn w' a ks fp := by
  rcases h with h | ⟨b, C, f, ha, rfl, hb, hk⟩
  · exact Or.inl h
  · exact Or.inr ⟨b, C, f, ha, rfl, (hf b (by simp)).trans hb, OwnAll.keep b 0 ks f hk (fun j _ _ => World.cell?_of_block (hf b (by simp))) fun x hx => hf x (by simp [hx])⟩

theorem Own.kids {w : World} {op n : Int} {s : ByteArray} {ks : List Tm} {cs : List Value} {fp : List Nat} (h : Own w (.node op n s ks) cs fp) :
    ∃ a cap, cs = tmCells op n s a ks.length cap ∧ (s.size ≤ maxLen ∧ ks.length ≤ cap ∧ cap ≤ maxLen) ∧ ((Lit.int .i64 op).wf = true ∧ (Lit.int .i64 n).wf = true) ∧ KidsOwn w a ks fp := by
  simp only [Own] at h
  exact h

theorem Own.of_kids {w : World} {op n : Int} {s : ByteArray} {ks : List Tm} {a : Option Addr} {cap : Nat} {fp : List Nat} (h1 : s.size ≤ maxLen ∧ ks.length ≤ cap ∧ cap ≤ maxLen)
    (h2 : (Lit.int .i64 op).wf = true ∧ (Lit.int .i64 n).wf = true) (hk : KidsOwn w a ks fp) : Own w (.node op n s ks) (tmCells op n s a ks.length cap) fp := by
  simp only [Own]
  exact ⟨a, cap, rfl, h1, h2, hk⟩

theorem KidsOwn.lies {w : World} {a : Option Addr} {ks : List Tm} {fp : List Nat} (h : KidsOwn w a ks fp) : LiesAll w 0 a 0 ks := by
  rcases h with ⟨rfl, _⟩ | ⟨b, C, f, rfl, rfl, hb, hk⟩
  · simp [LiesAll]
  · exact OwnAll.lies b (Nat.zero_le _) 0 ks f hk fun x _ => Nat.zero_le x

/-- Terms in a row, each with its cells and blocks. -/
def OwnRow (w : World) : List Tm → List Value → List Nat → Prop
  | [], xs, f => xs = [] ∧ f = []
  | t :: r, xs, f => ∃ cs xs' f1 f2, xs = cs ++ xs' ∧ f = f1 ++ f2 ∧ Own w t cs f1 ∧ OwnRow w r xs' f2

theorem OwnRow.length {w : World} : ∀ {ks : List Tm} {xs : List Value} {f : List Nat}, OwnRow w ks xs f → xs.length = ks.length * 4
  | [], xs, f, h => by simp only [OwnRow] at h; simp [h.1]
  | t :: r, xs, f, h => by
    simp only [OwnRow] at h
    obtain ⟨cs, xs', f1, f2, rfl, rfl, ht, hr⟩ := h
    have := ht.length
    have := hr.length
    simp only [List.length_append, List.length_cons]
    omega

theorem OwnRow.lt {w : World} : ∀ {ks : List Tm} {xs : List Value} {f : List Nat}, OwnRow w ks xs f → ∀ x ∈ f, x < w.heap.size
  | [], xs, f, h, x, hx => by simp only [OwnRow] at h; rw [h.2] at hx; cases hx
  | t :: r, xs, f, h, x, hx => by
    simp only [OwnRow] at h
    obtain ⟨cs, xs', f1, f2, rfl, rfl, ht, hr⟩ := h
    rcases List.mem_append.1 hx with hx | hx
    · exact Own.lt t cs f1 ht x hx
    · exact hr.lt x hx

theorem OwnRow.keep {w w' : World} : ∀ {ks : List Tm} {xs : List Value} {f : List Nat}, OwnRow w ks xs f → (∀ b ∈ f, w'.heap[b]? = w.heap[b]?) → OwnRow w' ks xs f
  | [], xs, f, h, _ => by simp only [OwnRow] at h ⊢; exact h
  | t :: r, xs, f, h, hf => by
    simp only [OwnRow] at h ⊢
    obtain ⟨cs, xs', f1, f2, rfl, rfl, ht, hr⟩ := h
    exact ⟨cs, xs', f1, f2, rfl, rfl, Own.keep t cs f1 ht fun b hb => hf b (by simp [hb]), hr.keep fun b hb => hf b (by simp [hb])⟩

theorem OwnRow.snoc {w : World} {t : Tm} {cs : List Value} {f1 : List Nat} (ht : Own w t cs f1) : ∀ {ks : List Tm} {xs : List Value} {f : List Nat}, OwnRow w ks xs f → OwnRow w (ks ++ [t]) (xs ++ cs) (f ++ f1)
  | [], xs, f, h => by
    simp only [OwnRow] at h
    obtain ⟨rfl, rfl⟩ := h
    simp only [List.nil_append, OwnRow]
    exact ⟨cs, [], f1, [], by simp, by simp, ht, rfl, rfl⟩
  | x :: r, xs, f, h => by
    simp only [OwnRow] at h
    obtain ⟨c1, xs', g1, g2, rfl, rfl, hx, hr⟩ := h
    simp only [List.cons_append, OwnRow]
    exact ⟨c1, xs' ++ cs, g1, g2 ++ f1, by simp, by simp, hx, OwnRow.snoc ht hr⟩

theorem OwnRow.all {w : World} {b : Nat} : ∀ {i : Nat} {ks : List Tm} {xs : List Value} {f : List Nat}, OwnRow w ks xs f → w.rangeAt b (i * 4) xs → OwnAll w b i ks f
  | i, [], xs, f, h, _ => by simp only [OwnRow] at h; simp only [OwnAll]; exact h.2
  | i, t :: r, xs, f, h, hc => by
    simp only [OwnRow] at h
    obtain ⟨cs, xs', f1, f2, rfl, rfl, ht, hr⟩ := h
    have h4 := ht.length
    simp only [OwnAll]
    refine ⟨cs, f1, f2, rfl, fun j v hj => hc j v ?_, ht, OwnRow.all hr fun j v hj => ?_⟩
    · rw [List.getElem?_append_left (List.getElem?_eq_some_iff.1 hj).1]
      exact hj
    · have := hc (4 + j) v (by rw [List.getElem?_append_right (by omega), show 4 + j - cs.length = j by omega]; exact hj)
      rw [show (i + 1) * 4 + j = i * 4 + (4 + j) by omega]
      exact this

/-- The list as it grows: its slice is the value v, its terms lie in the blocks f, all from B on. -/
structure Grow (B : Nat) (ks : List Tm) (v : Value) (f : List Nat) (w : World) : Prop where
  row : ∃ xs, w.ownsRow B 29 4 v ks.length xs ∧ OwnRow w ks xs f
  nd : f.Nodup
  ge : ∀ x ∈ f, B ≤ x
  out : ∀ g, v.ownBlock = some g → g ∉ f

theorem Grow.start (B : Nat) (w : World) : Grow B [] (.slice none 0 0) [] w :=
  ⟨⟨[], World.ownsRow_nil w B 29 4, by simp [OwnRow]⟩, by simp, by simp, by simp⟩

theorem Grow.lt {B : Nat} {ks : List Tm} {v : Value} {f : List Nat} {w : World} (h : Grow B ks v f w) : ∀ x ∈ f, x < w.heap.size := by
  obtain ⟨xs, _, hr⟩ := h.row
  exact hr.lt

theorem Grow.own_lt {B : Nat} {ks : List Tm} {v : Value} {f : List Nat} {w : World} (h : Grow B ks v f w) : ∀ g, v.ownBlock = some g → B ≤ g ∧ g < w.heap.size := by
  obtain ⟨xs, ho, _⟩ := h.row
  exact ho.lt

theorem Grow.carry {B : Nat} {ks : List Tm} {v : Value} {f : List Nat} {w w' : World} (h : Grow B ks v f w) (hb : Below w.heap.size w w') : Grow B ks v f w' := by
  obtain ⟨xs, ho, hr⟩ := h.row
  refine ⟨⟨xs, ?_, hr.keep fun b hbf => hb.block b (hr.lt b hbf)⟩, h.nd, h.ge, h.out⟩
  exact ho.kept (row := none) ⟨hb.os, hb.tape, hb.output, hb.size, fun k hk _ => hb.block k hk⟩ (by
    cases v.ownBlock with
    | none => exact Or.inl rfl
    | some g => exact Or.inr (by simp))

theorem Grow.shape {B : Nat} {ks : List Tm} {v : Value} {f : List Nat} {w : World} (h : Grow B ks v f w) : ∃ a c, v = .slice a ks.length c ∧ ks.length ≤ c ∧ c ≤ maxLen := by
  obtain ⟨xs, ho, _⟩ := h.row
  rcases ho.2 with ⟨h1, h2⟩ | ⟨g, cap, cur, h1, _, _, h2, h3, _⟩
  · exact ⟨none, 0, by rw [h2]; exact h1, by omega, by simp⟩
  · exact ⟨_, _, h1, h2, h3⟩

theorem Grow.kids {B : Nat} {ks : List Tm} {v : Value} {f : List Nat} {w : World} (h : Grow B ks v f w) :
    ∃ a cap fp, v = .slice a ks.length cap ∧ ks.length ≤ cap ∧ cap ≤ maxLen ∧ KidsOwn w a ks fp ∧ fp.Nodup ∧ ∀ x ∈ fp, B ≤ x := by
  obtain ⟨xs, ho, hr⟩ := h.row
  rcases ho.2 with ⟨h1, h2⟩ | ⟨g, cap, cur, h1, h2, h3, h4, h5, h6, h7⟩
  · have : ks = [] := List.length_eq_zero_iff.1 h2
    subst this
    exact ⟨none, 0, [], by simpa using h1, by simp, by simp, Or.inl ⟨rfl, rfl⟩, by simp, by simp⟩
  · refine ⟨some ⟨g, 0, none⟩, cap, g :: f, h1, h4, h5, Or.inr ⟨g, cur, f, rfl, rfl, h3, hr.all ?_⟩, List.nodup_cons.2 ⟨h.out g (by rw [h1]; rfl), h.nd⟩, fun x hx => ?_⟩
    · intro j u hj
      have := ho.cells (g := g) (by rw [h1]; rfl) j u hj
      rw [Addr.add_mid] at this
      simpa using this
    · rcases List.mem_cons.1 hx with rfl | hx
      · exact h2
      · exact h.ge x hx

theorem info24 : (Tryz.prog.info? 29).map (fun i => (i.zero, i.size, i.bytes)) = some (some (.agg #[.int .i64 0, .int .i64 0, .string ByteArray.empty, .slice none 0 0]), 4, 56) := by kernel_rfl

theorem Own.one {w : World} {t : Tm} {cs : List Value} {fp : List Nat} (h : Own w t cs fp) : ∀ u ∈ cs, u.oneCell' = true :=
  (Own.lies (L := 0) t cs fp h fun _ _ => Nat.zero_le _).one

/-- A term more. -/
theorem Grow.push {B : Nat} {ks : List Tm} {v : Value} {f : List Nat} {w : World} (h : Grow B ks v f w) {t : Tm} {cs : List Value} {f1 : List Nat} (ht : Own w t cs f1) (hnd : f1.Nodup) (hge : ∀ x ∈ f1, B ≤ x)
    (hd : ∀ x ∈ f1, x ∉ f) (hv : ∀ g, v.ownBlock = some g → g ∉ f1) {b o : Nat} (hr : w.rangeAt b o cs) (c : Nat) (hn : ks.length ≤ 4194304) (hB : B ≤ w.heap.size) (ty : TypeId) :
    ∃ v' w', (Builtin.append_ #[27, 27] ty #[v, .slice (some ⟨b, o, none⟩) 1 c]).run Tryz.prog w = .ok v' w' ∧ Grow B (ks ++ [t]) v' (f ++ f1) w' ∧ Below B w w' := by
  obtain ⟨xs, ho, hrow⟩ := h.row
  obtain ⟨i, hi, hzz⟩ := Option.map_eq_some_iff.1 info24
  simp only [Prod.mk.injEq] at hzz
  obtain ⟨hz, hs, hb⟩ := hzz
  have h4 := ht.length
  have hnews : ∀ j u, cs[j]? = some u → w.cell? ((⟨b, o, none⟩ : Addr).add j) = some u := fun j u hj => by rw [Addr.add_mid]; exact hr j u hj
  obtain ⟨v', w', g1, g2, g3, g4⟩ := run_append_own_wide (P := Tryz.prog) w B 27 ty 29 i _ 4 56 Tryz.underlying27 hi hz hs hb rfl (by omega) v ks.length xs ho ⟨b, o, none⟩ 1 c cs (by omega) hnews ht.one
    (by unfold maxLen; omega) (by omega) hB
  have hwhere : ∀ g, v'.ownBlock = some g → v.ownBlock = some g ∨ w.heap.size ≤ g := by
    intro g hg
    rcases ho.2 with ⟨rfl, hn0⟩ | ⟨g0, cap, cur, rfl, hbg, hg0, hnc, hcm, hcs, htake⟩
    · have hx : xs = [] := List.eq_nil_of_length_eq_zero (by rw [ho.1, hn0])
      subst hx
      obtain ⟨v2, w2, k1, k2, _⟩ := run_append_own_wide (P := Tryz.prog) w w.heap.size 27 ty 29 i _ 4 56 Tryz.underlying27 hi hz hs hb rfl (by omega) (.slice none 0 0) ks.length [] (by rw [hn0]; exact World.ownsRow_nil w _ 29 4) ⟨b, o, none⟩ 1 c cs (by omega) hnews ht.one
        (by unfold maxLen; omega) (by omega) (Nat.le_refl _)
      rw [g1] at k1
      injection k1 with k1 k1'
      subst k1
      exact Or.inr (k2.lt g hg).1
    · by_cases hroom : ks.length + 1 ≤ cap
      · have k1 := run_append_room (P := Tryz.prog) w 27 ty 29 i Tryz.underlying27 hi g0 ks.length cap cur hg0 ⟨b, o, none⟩ 1 c cs (by omega) hnews ht.one hroom (by rw [hs, hcs]; omega)
        rw [g1] at k1
        injection k1 with k1 k1'
        subst k1
        exact Or.inl hg
      · have holds : ∀ j u, xs[j]? = some u → w.cell? ((⟨g0, 0, none⟩ : Addr).add j) = some u := ho.cells (g := g0) rfl
        have k1 := run_append_grow (P := Tryz.prog) w 27 ty 29 i _ Tryz.underlying27 hi hz ⟨g0, 0, none⟩ ks.length cap xs (by rw [hs]; exact ho.1) holds ⟨b, o, none⟩ 1 c cs (by omega) hnews (by omega) (by omega) (by rw [hb]; exact growslice_fits_wide (by omega) (by omega))
        rw [g1] at k1
        injection k1 with k1 k1'
        subst k1
        simp only [Value.ownBlock, Option.some.injEq] at hg
        exact Or.inr (by omega)
  have hkeep : ∀ x, x < w.heap.size → (∀ g, v.ownBlock = some g → x ≠ g) → w'.heap[x]? = w.heap[x]? := fun x hx hne => g3.block x hx fun e => hne x e.symm rfl
  refine ⟨v', w', g1, ⟨⟨xs ++ cs, by simpa using g2, OwnRow.snoc (Own.keep t cs f1 ht fun x hx => hkeep x (Own.lt t cs f1 ht x hx) fun g hg e => hv g hg (e ▸ hx)) (hrow.keep fun x hx => hkeep x (hrow.lt x hx) fun g hg e => h.out g hg (e ▸ hx))⟩, ?_, ?_, ?_⟩, ?_⟩
  · exact List.nodup_append.2 ⟨h.nd, hnd, fun x hx y hy e => hd y hy (e ▸ hx)⟩
  · intro x hx
    rcases List.mem_append.1 hx with hx | hx
    · exact h.ge x hx
    · exact hge x hx
  · intro g hg hx
    rcases hwhere g hg with hg' | hg'
    · rcases List.mem_append.1 hx with hx | hx
      · exact h.out g hg' hx
      · exact hv g hg' hx
    · rcases List.mem_append.1 hx with hx | hx
      · have := hrow.lt g hx; omega
      · have := Own.lt t cs f1 ht g hx; omega
  · exact (Below.refl B w).grown g3 hB fun k hk => (ho.lt k hk).1

/-- The box of an argument, and behind it the box of a result. -/
theorem boxes2 {w W0 w2 : World} {op n : Int} {s : ByteArray} {a : Option Addr} {len cap : Nat}
    (hW : (w.alloc (.cells #[.int .i64 op, .int .i64 n, .string s, .slice a len cap] 29)).alloc (.cells #[.int .i64 0, .int .i64 0, .string ByteArray.empty, .slice none 0 0] 29) = W0) (hb : Below W0.heap.size W0 w2) :
    (w2.cell? ⟨w.heap.size, 0, none⟩ = some (.int .i64 op) ∧ w2.cell? ⟨w.heap.size, 1, none⟩ = some (.int .i64 n) ∧ w2.cell? ⟨w.heap.size, 2, none⟩ = some (.string s) ∧ w2.cell? ⟨w.heap.size, 3, none⟩ = some (.slice a len cap)) ∧
    (w2.cell? ⟨w.heap.size + 1, 0, none⟩ = some (.int .i64 0) ∧ w2.cell? ⟨w.heap.size + 1, 1, none⟩ = some (.int .i64 0) ∧ w2.cell? ⟨w.heap.size + 1, 2, none⟩ = some (.string ByteArray.empty) ∧ w2.cell? ⟨w.heap.size + 1, 3, none⟩ = some (.slice none 0 0)) ∧
    (w2.frozen? ⟨w.heap.size + 1, 0, none⟩ = false ∧ w2.frozen? ⟨w.heap.size + 1, 1, none⟩ = false ∧ w2.frozen? ⟨w.heap.size + 1, 2, none⟩ = false ∧ w2.frozen? ⟨w.heap.size + 1, 3, none⟩ = false) := by
  subst hW
  have h1 : w2.heap[w.heap.size + 1]? = some (.cells #[.int .i64 0, .int .i64 0, .string ByteArray.empty, .slice none 0 0] 29) := by
    rw [hb.block _ (by simp)]
    have := heap_alloc_new (w.alloc (.cells #[.int .i64 op, .int .i64 n, .string s, .slice a len cap] 29)) (.cells #[.int .i64 0, .int .i64 0, .string ByteArray.empty, .slice none 0 0] 29)
    rwa [heap_size_alloc] at this
  have h2 : w2.heap[w.heap.size]? = some (.cells #[.int .i64 op, .int .i64 n, .string s, .slice a len cap] 29) := by
    rw [hb.block _ (by simp; omega), heap_alloc_old _ _ (by simp)]
    exact heap_alloc_new w _
  exact ⟨⟨cell_of_row h2 (by simp), cell_of_row h2 (by simp), cell_of_row h2 (by simp), cell_of_row h2 (by simp)⟩, ⟨cell_of_row h1 (by simp), cell_of_row h1 (by simp), cell_of_row h1 (by simp), cell_of_row h1 (by simp)⟩, frozen_of_row h1, frozen_of_row h1, frozen_of_row h1, frozen_of_row h1⟩

/-- In the middle of the copy: k of the kids are there. -/
structure TpMid (w : World) (ks : List Tm) (k : Nat) (wr : World) : Prop where
  below : Below w.heap.size w wr
  row : ∃ C, wr.heap[w.heap.size]? = some (.cells C 29 (0, 0)) ∧ C.size = ks.length * 4
  done : ∃ f, OwnAll wr w.heap.size 0 (ks.take k) f ∧ f.Nodup ∧ ∀ x ∈ f, w.heap.size < x

theorem TpMid.start (w : World) (ks : List Tm) : TpMid w ks 0 (w.alloc (.cells (madeTm ks.length) 29)) :=
  ⟨(Below.refl _ _).alloc (Nat.le_refl _) _, ⟨madeTm ks.length, heap_alloc_new w _, madeTm_size _⟩, [], by simp [OwnAll], by simp, by simp⟩

theorem TpMid.lt {w wr : World} {ks : List Tm} {k : Nat} (h : TpMid w ks k wr) : w.heap.size < wr.heap.size := by
  obtain ⟨C, h1, _⟩ := h.row
  exact lt_of_heap h1

theorem TpMid.row2 {w wr w2 : World} {ks : List Tm} {k : Nat} (h : TpMid w ks k wr) (hb : Below wr.heap.size wr w2) : ∃ C, w2.heap[w.heap.size]? = some (.cells C 29 (0, 0)) ∧ C.size = ks.length * 4 := by
  obtain ⟨C, h1, h2⟩ := h.row
  exact ⟨C, (hb.block _ h.lt).trans h1, h2⟩

theorem TpMid.there {w wr w2 : World} {ks : List Tm} {k : Nat} (h : TpMid w ks k wr) (hb : Below wr.heap.size wr w2) (hk : k < ks.length) : w2.there w.heap.size (k * 4) 4 := by
  obtain ⟨C, h1, h2⟩ := h.row2 hb
  intro j hj
  exact ⟨by rw [cell_of_row h1 (by omega)]; rfl, frozen_of_row h1⟩

theorem setCells_other (b : Nat) : ∀ (vs : List Value) (o : Nat) (v : World) (x : Nat), x ≠ b → (v.setCells b o vs).heap[x]? = v.heap[x]?
  | [], _, _, _, _ => rfl
  | u :: r, o, v, x, h => (setCells_other b r (o + 1) _ x h).trans (Below.heap_setCell v ⟨b, o, none⟩ u x h)

theorem setCells_below (B b : Nat) (hB : B ≤ b) : ∀ (vs : List Value) (o : Nat) (v : World), Below B v (v.setCells b o vs)
  | [], _, _ => Below.refl _ _
  | x :: r, o, v => ((Below.refl _ v).setCell (p := ⟨b, o, none⟩) hB x).trans (setCells_below B b hB r (o + 1) _)

theorem TpMid.step {w wr w2 : World} {ks : List Tm} {k : Nat} {cs : List Value} {f1 : List Nat} (h : TpMid w ks k wr) (hb : Below wr.heap.size wr w2) (hk : k < ks.length) (hl : Own w2 ks[k] cs f1) (hnd : f1.Nodup) (hge : ∀ x ∈ f1, wr.heap.size ≤ x) :
    TpMid w ks (k + 1) (w2.setCells w.heap.size (k * 4) cs) := by
  have hlt := h.lt
  have h4 := hl.length
  have hth := h.there hb hk
  have out : ∀ x, x ≠ w.heap.size → (w2.setCells w.heap.size (k * 4) cs).heap[x]? = w2.heap[x]? := setCells_other _ _ _ _
  obtain ⟨C, h1, h2⟩ := h.row2 hb
  obtain ⟨C', g1, g2⟩ := setCells_row cs (k * 4) w2 C h1
  obtain ⟨f, d1, d2, d3⟩ := h.done
  have hfl := OwnAll.lt _ _ _ f d1
  have hdis : ∀ x ∈ f, x ∉ f1 := fun x hx hx1 => by have := hge x hx1; have := hfl x hx; omega
  refine ⟨(h.below.trans (hb.mono (by omega))).trans (setCells_below _ _ (Nat.le_refl _) _ _ _), ⟨C', g1, g2.trans h2⟩, f ++ f1, ?_, List.nodup_append.2 ⟨d2, hnd, fun x hx y hy e => hdis x hx (e ▸ hy)⟩, fun x hx => ?_⟩
  · rw [Tm.take_succ_get (List.getElem?_eq_getElem hk)]
    have := OwnAll.join (w := w2.setCells w.heap.size (k * 4) cs) (b := w.heap.size) (t := ks[k]) (l2 := []) (f1 := f1) (fB := []) (cs := cs) (i := 0) (l1 := ks.take k) (fA := f) ?_ ?_ ?_ (by simp [OwnAll])
    · rw [List.append_nil] at this
      exact this
    · refine OwnAll.keep _ 0 _ f d1 (fun i _ hi => ?_) fun x hx => (out x (by have := d3 x hx; omega)).trans (hb.block x (hfl x hx))
      rw [List.length_take, Nat.min_eq_left (by omega)] at hi
      rw [World.cell?_setCells_out _ _ _ _ _ (fun _ => by simp only; omega)]
      exact World.cell?_of_block (hb.block _ hlt)
    · rw [List.length_take, Nat.min_eq_left (by omega), Nat.zero_add]
      exact World.rangeAt_setCells_same _ _ _ _ (by rw [h4]; exact hth)
    · exact Own.keep _ cs f1 hl fun x hx => out x (by have := hge x hx; omega)
  · rcases List.mem_append.1 hx with hx | hx
    · exact d3 x hx
    · have := hge x hx; omega

theorem TpMid.kids {w wr : World} {ks : List Tm} (h : TpMid w ks ks.length wr) : ∃ fp, KidsOwn wr (some ⟨w.heap.size, 0, none⟩) ks fp ∧ fp.Nodup ∧ ∀ x ∈ fp, w.heap.size ≤ x := by
  obtain ⟨C, h1, _⟩ := h.row
  obtain ⟨f, d1, d2, d3⟩ := h.done
  rw [List.take_length] at d1
  refine ⟨w.heap.size :: f, Or.inr ⟨_, C, f, rfl, rfl, h1, d1⟩, List.nodup_cons.2 ⟨fun hx => by have := d3 _ hx; omega, d2⟩, fun x hx => ?_⟩
  rcases List.mem_cons.1 hx with rfl | hx
  · exact Nat.le_refl _
  · exact Nat.le_of_lt (d3 x hx)

def TpOk (t : Tm) : Prop := ∀ (op n : Int) (s : ByteArray) (a : Option Addr) (len cap : Nat) (w : World), Lies w 0 t (tmCells op n s a len cap) → t.size ≤ 2097152 →
  Calls Tryz.prog 11 #[.agg #[.int .i64 op, .int .i64 n, .string s, .slice a len cap]] w fun e w' => ∃ a' fp, e = .returned (.agg #[.int .i64 op, .int .i64 n, .string s, .slice a' len len]) ∧ Own w' t (tmCells op n s a' len len) fp ∧ (fp.Nodup ∧ ∀ x ∈ fp, w.heap.size ≤ x) ∧ Below w.heap.size w w'

set_option maxHeartbeats 400000 in
theorem tpS_any (ks : List Tm) (hks : ∀ t ∈ ks, TpOk t) (a : Option Addr) (cap : Nat) (w : World) (hl : LiesAll w 0 a 0 ks) (hsz : Tm.sizes ks ≤ 2097152) :
    Calls Tryz.prog 62 #[.slice a ks.length cap] w fun e w' => e = .returned (.slice (some ⟨w.heap.size, 0, none⟩) ks.length ks.length) ∧ (∃ fp, KidsOwn w' (some ⟨w.heap.size, 0, none⟩) ks fp ∧ fp.Nodup ∧ ∀ x ∈ fp, w.heap.size ≤ x) ∧ Below w.heap.size w w' := by
  have hll := Tm.length_le_sizes ks
  have hmk := make_tm ks.length (by omega)
  have HS : Hid (∀ k (hk : k < ks.length), (ks[k]).size ≤ 2097152) := fun k hk => by have := Tm.size_mem (List.getElem_mem hk); omega
  have HM := TpMid.start w ks
  have HM' : Hid (TpMid w ks 0 (w.alloc (.cells (madeTm ks.length) 29))) := HM
  clear HM
  have hlb : ks.length ≤ 2097152 := by omega
  generalize hlen : ks.length = len at hmk hll hlb HM' ⊢
  have HL : Hid (ks.length = len) := hlen
  clear hlen
  go_enter Tryz.func62, Tryz.ntmps62
  go_wp2_with fail
  go_loopw [4] (fun i wr => ∃ k : Nat, k ≤ len ∧ i = .int .i64 k ∧ TpMid w ks k wr) (fun i _ => len - (intOf i).toNat)
  case atStart => exact ⟨0, Nat.zero_le _, rfl, HM'.out⟩
  case round =>
    obtain ⟨k, hkl, rfl, hM⟩ := hrel
    by_cases hlt : k < len
    · have hlt' : k < ks.length := by have := HL.out; omega
      obtain ⟨b, o, op1, n1, s1, a1, len1, cap1, rfl, _, hbs, c0, c1, c2, c3, hT⟩ := hl.elem (k := k) hlt'
      have c0' := (hM.below.cell (p := ⟨b, o + k * 4, none⟩) hbs).trans c0
      have c1' := (hM.below.cell (p := ⟨b, o + k * 4 + 1, none⟩) hbs).trans c1
      have c2' := (hM.below.cell (p := ⟨b, o + k * 4 + 2, none⟩) hbs).trans c2
      have c3' := (hM.below.cell (p := ⟨b, o + k * 4 + 3, none⟩) hbs).trans c3
      have HT : Hid (Lies wr 0 ks[k] (tmCells op1 n1 s1 a1 len1 cap1)) := hT.below hM.below
      have hct := hks ks[k] (List.getElem_mem hlt')
      clear c0 c1 c2 c3 hT
      go_wp2_with fail
      refine (hct op1 n1 s1 a1 len1 cap1 _ HT.out (HS.out k hlt')).mono ?_
      rintro e w2 ⟨a2, f2, rfl, hL2, ⟨hnd2, hge2⟩, hb2⟩
      have hth := hM.there hb2 hlt'
      obtain ⟨d0, f0⟩ := hth 0 (by omega)
      obtain ⟨d1, f1⟩ := hth 1 (by omega)
      obtain ⟨d2, f2⟩ := hth 2 (by omega)
      obtain ⟨d3, f3⟩ := hth 3 (by omega)
      obtain ⟨u0, d0⟩ := Option.isSome_iff_exists.1 d0
      obtain ⟨u1, d1⟩ := Option.isSome_iff_exists.1 d1
      obtain ⟨u2, d2⟩ := Option.isSome_iff_exists.1 d2
      obtain ⟨u3, d3⟩ := Option.isSome_iff_exists.1 d3
      rw [Nat.add_zero] at d0 f0
      have HM2 : Hid (TpMid w ks (k + 1) (w2.setCells w.heap.size (k * 4) (tmCells op1 n1 s1 a2 len1 len1))) := hM.step hb2 hlt' hL2 hnd2 hge2
      clear hL2 hth hnd2 hge2
      go_wp2_with fail
      go_roundw
      case rel => exact ⟨k + 1, by omega, by go_num, HM2.out⟩
      case measure => simp [intOf]; omega
    · go_wp2_with fail
      go_ret
      have hkk : k = ks.length := by have := HL.out; omega
      subst hkk
      exact ⟨rfl, hM.kids, hM.below⟩

set_option maxHeartbeats 400000 in
theorem tp_step (t : Tm) (h : ∀ x ∈ t.kids, TpOk x) : TpOk t := by
  intro op n s a len cap w hl hsz
  cases t with
  | node op' n' s' ks =>
    simp only [Lies, tmCells] at hl
    obtain ⟨a', cap', he, ⟨hs, hlc, hcm⟩, hwf, hk⟩ := hl
    simp only [List.cons.injEq, Value.int.injEq, Value.string.injEq, Value.slice.injEq, true_and, and_true] at he
    obtain ⟨rfl, rfl, rfl, rfl, rfl, rfl⟩ := he
    have hzs : Tm.sizes ks ≤ 2097152 := by simp only [Tm.size] at hsz; omega
    have hS := tpS_any ks h
    have HF : Hid (s.size ≤ maxLen ∧ ks.length ≤ ks.length ∧ ks.length ≤ maxLen) := ⟨hs, Nat.le_refl _, by omega⟩
    have HW : Hid ((Lit.int .i64 op).wf = true ∧ (Lit.int .i64 n).wf = true) := hwf
    have HK : Hid (LiesAll w 0 a 0 ks) := hk
    clear h hk hwf hs hlc hcm
    go_enter Tryz.func11, Tryz.ntmps11
    go_wp2_with fail
    refine (hS a cap _ (HK.out.below (below_alloc3 _ _ _ _)) hzs).mono ?_
    rintro e w2 ⟨rfl, ⟨fp, hL2, hnd, hge⟩, hb2⟩
    obtain ⟨hc, hf⟩ := bcell hb2
    go_wp2_with fail
    simp only [heap_size_alloc] at hL2 hb2 hc hge
    have hb3 : Below w.heap.size w w2 := (below_alloc3 _ _ _ _).trans (hb2.mono (by omega))
    refine bodyPost_ret (v := .agg #[.int .i64 op, .int .i64 n, .string s, .slice (some ⟨w.heap.size + 1 + 1 + 1, 0, none⟩) ks.length ks.length]) (by simp [results, Tryz.results11, go_sem, hc]) rfl ⟨_, fp, rfl, ?_, ⟨hnd, fun x hx => by have := hge x hx; omega⟩, ?_⟩
    · refine Own.of_kids HF.out HW.out (hL2.keep fun b hb => ?_)
      have hbb := hge b hb
      rw [Below.heap_setCell _ _ _ _ (by show b ≠ _; simp only; omega), Below.heap_setCell _ _ _ _ (by show b ≠ _; simp only; omega), Below.heap_setCell _ _ _ _ (by show b ≠ _; simp only; omega), Below.heap_setCell _ _ _ _ (by show b ≠ _; simp only; omega), Below.heap_setCell _ _ _ _ (by show b ≠ _; simp only; omega)]
    · exact ((((hb3.setCell (by show w.heap.size ≤ w.heap.size + 1 + 1; omega) _).setCell (by simp) _).setCell (by simp) _).setCell (by simp) _).setCell (by simp) _

theorem tp_any : ∀ (k : Nat) (t : Tm), t.size ≤ k → TpOk t
  | 0, t, h => by have := t.size_pos; omega
  | k + 1, t, h => tp_step t fun x hx => tp_any k x (by
      cases t with
      | node op n s ks =>
        have := Tm.size_mem (ks := ks) hx
        simp only [Tm.size] at h
        omega)

theorem tp_calls (t : Tm) : TpOk t := tp_any t.size t (Nat.le_refl _)

end Go.Proofs.YtmklgikbajhcpaaGreatDoor
