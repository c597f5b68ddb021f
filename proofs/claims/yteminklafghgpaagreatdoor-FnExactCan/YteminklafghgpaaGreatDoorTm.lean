
/- Terms as trees, and what it means that one lies in memory: the tree of a struct of two ints, a string and a slice of the same struct; carried from world to world where the blocks that it lies in are as they were. Plain: nothing of the program is named. -/
import Derived.WalkKit
import Derived.ProofKit
import Derived.Deep.MidRow
import Derived.Deep.Slices
import Derived.Deep.Fields
import Derived.Lib.SmallJoins
namespace Go.Proofs.YteminklafghgpaaGreatDoor
open Go.RowKit Go.Deep

inductive Tm where
  | node (op n : Int) (s : ByteArray) (kids : List Tm)

instance : Inhabited Tm := ⟨.node 0 0 ByteArray.empty []⟩

namespace Tm
def kids : Tm → List Tm | .node _ _ _ ks => ks
def str : Tm → ByteArray | .node _ _ s _ => s

mutual
def size : Tm → Nat
  | .node _ _ _ ks => 1 + sizes ks
def sizes : List Tm → Nat
  | [] => 0
  | t :: r => size t + sizes r
end

mutual
def wt : Tm → Nat
  | .node _ _ s ks => s.size + (ks.length + wts ks)
def wts : List Tm → Nat
  | [] => 0
  | t :: r => wt t + wts r
end

mutual
theorem size_le : ∀ t : Tm, t.size ≤ 1 + t.wt
  | .node op n s ks => by
    have := sizes_le ks
    simp only [size, wt]
    omega
theorem sizes_le : ∀ ks : List Tm, sizes ks ≤ ks.length + wts ks
  | [] => by simp [sizes]
  | t :: r => by
    have h1 := size_le t
    have h2 := sizes_le r
    simp only [sizes, wts, List.length_cons]
    omega
end

theorem size_pos (t : Tm) : 1 ≤ t.size := by cases t; simp only [size]; omega

theorem sizes_append (a b : List Tm) : sizes (a ++ b) = sizes a + sizes b := by
  induction a with
  | nil => simp [sizes]
  | cons t r ih => simp only [List.cons_append, sizes, ih]; omega

theorem wts_append (a b : List Tm) : wts (a ++ b) = wts a + wts b := by
  induction a with
  | nil => simp [wts]
  | cons t r ih => simp only [List.cons_append, wts, ih]; omega

theorem size_mem {t : Tm} {ks : List Tm} (h : t ∈ ks) : t.size ≤ sizes ks := by
  induction ks with
  | nil => cases h
  | cons x r ih =>
    simp only [sizes]
    rcases List.mem_cons.1 h with rfl | h
    · omega
    · have := ih h; omega

theorem length_le_sizes (ks : List Tm) : ks.length ≤ sizes ks := by
  induction ks with
  | nil => simp [sizes]
  | cons t r ih => have := size_pos t; simp only [sizes, List.length_cons]; omega

theorem take_succ_get {ks : List Tm} {k : Nat} {t : Tm} (h : ks[k]? = some t) : ks.take (k + 1) = ks.take k ++ [t] := by
  rw [List.take_add_one, h]; rfl
end Tm

/-- The cells of a term. -/
def tmCells (op n : Int) (s : ByteArray) (a : Option Addr) (len cap : Nat) : List Value := [.int .i64 op, .int .i64 n, .string s, .slice a len cap]

mutual
/-- The term lies in the world, in blocks from L on: its own cells are these. -/
def Lies (w : World) (L : Nat) : Tm → List Value → Prop
  | .node op n s ks, cs => ∃ a cap, cs = tmCells op n s a ks.length cap ∧ (s.size ≤ maxLen ∧ ks.length ≤ cap ∧ cap ≤ maxLen) ∧ ((Lit.int .i64 op).wf = true ∧ (Lit.int .i64 n).wf = true) ∧ LiesAll w L a 0 ks
def LiesAll (w : World) (L : Nat) (a : Option Addr) : Nat → List Tm → Prop
  | _, [] => True
  | i, t :: r => (∃ b o cs, a = some ⟨b, o, none⟩ ∧ L ≤ b ∧ w.rangeAt b (o + i * 4) cs ∧ Lies w L t cs) ∧ LiesAll w L a (i + 1) r
end

theorem LiesAll.get {w : World} {L : Nat} {a : Option Addr} : ∀ {i : Nat} {ks : List Tm}, LiesAll w L a i ks → ∀ {k : Nat} {t : Tm}, ks[k]? = some t →
    ∃ b o cs, a = some ⟨b, o, none⟩ ∧ L ≤ b ∧ w.rangeAt b (o + (i + k) * 4) cs ∧ Lies w L t cs
  | i, [], _, k, t, h => by simp at h
  | i, x :: r, hl, 0, t, h => by
    simp only [List.getElem?_cons_zero, Option.some.injEq] at h
    subst h
    simp only [LiesAll] at hl
    exact hl.1
  | i, x :: r, hl, k + 1, t, h => by
    simp only [LiesAll] at hl
    have := LiesAll.get hl.2 (k := k) (t := t) (by simpa using h)
    rwa [show i + 1 + k = i + (k + 1) by omega] at this

theorem LiesAll.mk {w : World} {L : Nat} {a : Option Addr} : ∀ {i : Nat} {ks : List Tm}, (∀ (k : Nat) (t : Tm), ks[k]? = some t → ∃ b o cs, a = some ⟨b, o, none⟩ ∧ L ≤ b ∧ w.rangeAt b (o + (i + k) * 4) cs ∧ Lies w L t cs) → LiesAll w L a i ks
  | i, [], _ => by simp [LiesAll]
  | i, x :: r, h => by
    simp only [LiesAll]
    refine ⟨by simpa using h 0 x rfl, LiesAll.mk fun k t hk => ?_⟩
    have := h (k + 1) t (by simpa using hk)
    rwa [show i + (k + 1) = i + 1 + k by omega] at this

theorem Lies.cells {w : World} {L : Nat} {t : Tm} {cs : List Value} (h : Lies w L t cs) : ∃ op n s a len cap, cs = tmCells op n s a len cap := by
  cases t
  simp only [Lies] at h
  obtain ⟨a, cap, rfl, _⟩ := h
  exact ⟨_, _, _, _, _, _, rfl⟩

theorem lt_of_cell {w : World} {b o : Nat} {v : Value} (h : w.cell? ⟨b, o, none⟩ = some v) : b < w.heap.size := by
  by_cases hb : b < w.heap.size
  · exact hb
  · have : w.heap[b]? = none := by simp; omega
    simp [World.cell?, this] at h

theorem rangeAt_lt {w : World} {b o : Nat} {cs : List Value} (h : w.rangeAt b o cs) (hc : 0 < cs.length) : b < w.heap.size := by
  obtain ⟨v, hv⟩ : ∃ v, cs[0]? = some v := ⟨cs[0], by simp [hc]⟩
  exact lt_of_cell (h 0 v hv)

theorem tmCells_length (op n : Int) (s : ByteArray) (a : Option Addr) (len cap : Nat) : (tmCells op n s a len cap).length = 4 := rfl

theorem Lies.length {w : World} {L : Nat} {t : Tm} {cs : List Value} (h : Lies w L t cs) : cs.length = 4 := by
  obtain ⟨_, _, _, _, _, _, rfl⟩ := h.cells
  rfl

mutual
theorem Lies.carry {w w' : World} {L L' : Nat} (hL : L' ≤ L) (hc : ∀ b o, L ≤ b → b < w.heap.size → w'.cell? ⟨b, o, none⟩ = w.cell? ⟨b, o, none⟩) : ∀ (t : Tm) (cs : List Value), Lies w L t cs → Lies w' L' t cs
  | .node op n s ks, cs, h => by
    simp only [Lies] at h ⊢
    obtain ⟨a, cap, rfl, h1, h2, h4⟩ := h
    exact ⟨a, cap, rfl, h1, h2, LiesAll.carry hL hc a 0 ks h4⟩
theorem LiesAll.carry {w w' : World} {L L' : Nat} (hL : L' ≤ L) (hc : ∀ b o, L ≤ b → b < w.heap.size → w'.cell? ⟨b, o, none⟩ = w.cell? ⟨b, o, none⟩) (a : Option Addr) : ∀ (i : Nat) (ks : List Tm), LiesAll w L a i ks → LiesAll w' L' a i ks
  | i, [], _ => by simp [LiesAll]
  | i, t :: r, h => by
    simp only [LiesAll] at h ⊢
    obtain ⟨⟨b, o, cs, ha, hb, hr, ht⟩, h2⟩ := h
    have hlt := rangeAt_lt hr (by rw [ht.length]; omega)
    exact ⟨⟨b, o, cs, ha, by omega, fun j v hj => by rw [hc b _ hb hlt]; exact hr j v hj, Lies.carry hL hc t cs ht⟩, LiesAll.carry hL hc a (i + 1) r h2⟩
end

theorem Lies.below {w w' : World} {L : Nat} {t : Tm} {cs : List Value} (h : Lies w L t cs) (hb : Below w.heap.size w w') : Lies w' L t cs :=
  Lies.carry (Nat.le_refl _) (fun _ _ _ hlt => hb.cell (p := ⟨_, _, none⟩) hlt) t cs h

theorem LiesAll.below {w w' : World} {L : Nat} {a : Option Addr} {i : Nat} {ks : List Tm} (h : LiesAll w L a i ks) (hb : Below w.heap.size w w') : LiesAll w' L a i ks :=
  LiesAll.carry (Nat.le_refl _) (fun _ _ _ hlt => hb.cell (p := ⟨_, _, none⟩) hlt) a i ks h

theorem Lies.any {w : World} {L L' : Nat} {t : Tm} {cs : List Value} (h : Lies w L t cs) (hL : L' ≤ L) : Lies w L' t cs :=
  Lies.carry hL (fun _ _ _ _ => rfl) t cs h

theorem rangeAt_below {w w' : World} {b o : Nat} {cs : List Value} (h : w.rangeAt b o cs) (hb : Below w.heap.size w w') : w'.rangeAt b o cs := fun j v hj => by
  have h0 := h j v hj
  rw [hb.cell (p := ⟨b, o + j, none⟩) (lt_of_cell h0)]
  exact h0

/-- An element of a slice of terms: its address, its four cells. -/
theorem LiesAll.elem {w : World} {L : Nat} {a : Option Addr} {ks : List Tm} (h : LiesAll w L a 0 ks) {k : Nat} (hk : k < ks.length) :
    ∃ b o op n s a' len cap, a = some ⟨b, o, none⟩ ∧ L ≤ b ∧ b < w.heap.size ∧ w.cell? ⟨b, o + k * 4, none⟩ = some (.int .i64 op) ∧ w.cell? ⟨b, o + k * 4 + 1, none⟩ = some (.int .i64 n) ∧
      w.cell? ⟨b, o + k * 4 + 2, none⟩ = some (.string s) ∧ w.cell? ⟨b, o + k * 4 + 3, none⟩ = some (.slice a' len cap) ∧ Lies w L ks[k] (tmCells op n s a' len cap) := by
  obtain ⟨b, o, cs, ha, hL, hr, hl⟩ := h.get (k := k) (t := ks[k]) (by simp [hk])
  obtain ⟨op, n, s, a', len, cap, rfl⟩ := hl.cells
  rw [Nat.zero_add] at hr
  exact ⟨b, o, op, n, s, a', len, cap, ha, hL, rangeAt_lt hr (by simp [tmCells]), hr 0 _ rfl, hr 1 _ rfl, hr 2 _ rfl, hr 3 _ rfl, hl⟩

/-- A term opened out of the row's own reading. -/
theorem open_tm {H : Type} {enc : TypeId × Value → H} {P : Program} {w : World} {t e : TypeId} {tint tstr : TypeId} {f0 f1 f2 f3 : Field}
    (hs : P.underlying e = some (.struct #[f0, f1, f2, f3])) (hone : oneCellFields P #[f0, f1, f2, f3] = true) (hC : P.cellsOf e = 4)
    (e0 : f0.type = tint) (e1 : f1.type = tint) (e2 : f2.type = tstr) (e3 : f3.type = t)
    (hi : P.underlying tint = some (.int .i64)) (hst : P.underlying tstr = some .string) (hsl : P.underlying t = some (.slice e)) :
    ∀ (fuel : Nat) (cs : List Value) (x : DataW H × List MemPlace), DataW.trod enc P w 0 (fun _ => true) true fuel e cs = some x → ∃ T, Lies w 0 T cs := by
  intro fuel
  induction fuel using Nat.strongRecOn with
  | ind fuel ih =>
    intro cs x h
    obtain ⟨xs, n, hfu, hx, hl, hlen, hf⟩ := DataW.trod_struct hs h
    obtain ⟨o0, k0⟩ := hone_of hone 0 f0 rfl
    obtain ⟨o1, k1⟩ := hone_of hone 1 f1 rfl
    obtain ⟨o2, k2⟩ := hone_of hone 2 f2 rfl
    obtain ⟨o3, k3⟩ := hone_of hone 3 f3 rfl
    rw [hC] at hl
    match cs, hl with
    | [c0, c1, c2, c3], _ =>
      match xs, hlen with
      | [y0, y1, y2, y3], _ =>
        have g0 := hf 0 f0 rfl
        have g1 := hf 1 f1 rfl
        have g2 := hf 2 f2 rfl
        have g3 := hf 3 f3 rfl
        rw [o0, k0, e0] at g0
        rw [o1, k1, e1] at g1
        rw [o2, k2, e2] at g2
        rw [o3, k3, e3] at g3
        obtain ⟨op, q0, _, w0⟩ := DataW.trod_int hi (by simpa using g0)
        obtain ⟨nn, q1, _, w1⟩ := DataW.trod_int hi (by simpa using g1)
        obtain ⟨s, q2, _, w2⟩ := DataW.trod_string hst (by simpa using g2)
        simp at q0 q1 q2
        subst q0 q1 q2
        rcases DataW.trod_slice hsl (by simpa using g3) with ⟨h0, _⟩ | ⟨a, len, cap, elems, rest, m, hm, h0, _, _, hlc, hcm, hel, hget, _⟩
        · simp at h0
          subst h0
          exact ⟨.node op nn s [], by simp only [Lies]; exact ⟨none, 0, rfl, ⟨w2, by simp, by simp⟩, ⟨w0, w1⟩, by simp [LiesAll]⟩⟩
        · simp at h0
          subst h0
          rw [hC] at hget
          have hk : ∀ i, i < len → ∃ T : Tm, ∃ b o cs, a = ⟨b, o, none⟩ ∧ w.rangeAt b (o + i * 4) cs ∧ Lies w 0 T cs := fun i hi => by
            have hb := hget i hi
            rw [List.getElem?_eq_getElem (by omega)] at hb
            obtain ⟨cs', c1', c2'⟩ := Option.bind_eq_some_iff.1 hb
            obtain ⟨T, hT⟩ := ih m (by omega) cs' _ c2'
            obtain ⟨_, hl4, hcell⟩ := World.cells?_some c1'
            have hsp : a.spot = none := by
              have := hcell 1 (by omega)
              have h00 := hcell 0 (by omega)
              rw [List.getElem?_eq_getElem (by omega)] at h00
              have := World.cell?_spot h00
              unfold Addr.add at this
              by_cases hz : i * 4 = 0
              · simpa [hz] using this
              · have hi0 : i ≠ 0 := by omega
                have h0c := hget 0 (by omega)
                rw [List.getElem?_eq_getElem (by omega)] at h0c
                obtain ⟨cs0, d1', _⟩ := Option.bind_eq_some_iff.1 h0c
                obtain ⟨_, hl0, hcell0⟩ := World.cells?_some d1'
                have h000 := hcell0 0 (by omega)
                rw [List.getElem?_eq_getElem (by omega)] at h000
                have := World.cell?_spot h000
                simpa [Addr.add] using this
            obtain ⟨b, o, sp⟩ := a
            simp only at hsp
            subst hsp
            refine ⟨T, b, o, cs', rfl, fun j v hj => ?_, hT⟩
            have hjl : j < cs'.length := by
              by_cases hq : j < cs'.length
              · exact hq
              · rw [List.getElem?_eq_none (by omega)] at hj; cases hj
            have := hcell j (by omega)
            rw [hj] at this
            rw [Addr.add_mid, Addr.add_mid] at this
            exact this
          obtain ⟨F, hF⟩ := choose_lt (α := Tm) (p := fun i T => ∃ b o cs, a = ⟨b, o, none⟩ ∧ w.rangeAt b (o + i * 4) cs ∧ Lies w 0 T cs) hk
          refine ⟨.node op nn s ((List.range len).map F), ?_⟩
          simp only [Lies]
          refine ⟨some a, cap, by simp [tmCells], ⟨w2, by simpa using hlc, hcm⟩, ⟨w0, w1⟩, LiesAll.mk fun k t hkt => ?_⟩
          have hkl : k < len := by
            by_cases hq : k < len
            · exact hq
            · rw [List.getElem?_eq_none (by simp; omega)] at hkt; cases hkt
          simp [hkl] at hkt
          subst hkt
          obtain ⟨b, o, cs, rfl, hr, hl⟩ := hF k hkl
          exact ⟨b, o, cs, rfl, Nat.zero_le _, by rwa [Nat.zero_add], hl⟩

end Go.Proofs.YteminklafghgpaaGreatDoor
