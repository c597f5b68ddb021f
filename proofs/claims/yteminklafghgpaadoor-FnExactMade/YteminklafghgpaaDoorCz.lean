
/- The walk of spec.l1Copy: of whatever term lies in memory it makes the same term, in new blocks of its own; nothing that was there is written. -/
import Derived.Test.YteminklafghgpaaDoorOx
import Derived.Deep.RegionLaw
namespace Go.Proofs.YteminklafghgpaaDoor
open Go.RowKit Go.Deep

theorem Grow.blocks {B : Nat} {ks : List Tm} {v : Value} {f : List Nat} {w w' : World} (h : Grow B ks v f w) (hb : ∀ x, B ≤ x → w'.heap[x]? = w.heap[x]?) : Grow B ks v f w' := by
  obtain ⟨xs, ho, hr⟩ := h.row
  refine ⟨⟨xs, ⟨ho.1, ?_⟩, hr.keep fun b hbf => hb b (h.ge b hbf)⟩, h.nd, h.ge, h.out⟩
  rcases ho.2 with h1 | ⟨g, cap, cur, h1, h2, h3, h4⟩
  · exact Or.inl h1
  · exact Or.inr ⟨g, cap, cur, h1, h2, (hb g h2).trans h3, h4⟩

/-- In the middle of the copy: k of the kids are there, the list in the last cell of the block g. -/
structure CzMid (W0 : World) (op n : Int) (s : ByteArray) (ks : List Tm) (k : Nat) (wr : World) : Prop where
  below : Below W0.heap.size W0 wr
  grow : ∃ v f, wr.heap[W0.heap.size]? = some (.cells #[.int .i64 op, .int .i64 n, .string s, v] 31 (0, 0)) ∧ Grow (W0.heap.size + 1) (ks.take k) v f wr

theorem CzMid.start (W0 : World) (op n : Int) (s : ByteArray) (ks : List Tm) : CzMid W0 op n s ks 0 (W0.alloc (.cells #[.int .i64 op, .int .i64 n, .string s, .slice none 0 0] 31)) :=
  ⟨(Below.refl _ _).alloc (Nat.le_refl _) _, .slice none 0 0, [], heap_alloc_new W0 _, by simpa using Grow.start _ _⟩

theorem setCell3 {w : World} {b : Nat} {x0 x1 x2 x3 : Value} {t : TypeId} {fr : Nat × Nat} (v : Value) (h : w.heap[b]? = some (.cells #[x0, x1, x2, x3] t fr)) : (w.setCell ⟨b, 3, none⟩ v).heap[b]? = some (.cells #[x0, x1, x2, v] t fr) := by
  simp only [World.setCell, Array.getElem?_modify]
  simp [h]

theorem CzMid.lt {W0 wr : World} {op n : Int} {s : ByteArray} {ks : List Tm} {k : Nat} (h : CzMid W0 op n s ks k wr) : W0.heap.size < wr.heap.size := by
  obtain ⟨v, f, h1, _⟩ := h.grow
  exact lt_of_heap h1

theorem CzMid.cell {W0 wr : World} {op n : Int} {s : ByteArray} {ks : List Tm} {k : Nat} (h : CzMid W0 op n s ks k wr) : ∃ v, wr.cell? ⟨W0.heap.size, 3, none⟩ = some v ∧
    ∀ (w2 w3 : World) (cs : List Value) (f1 : List Nat) (b o : Nat), Below wr.heap.size wr w2 → (hk : k < ks.length) → Own w2 ks[k] cs f1 → f1.Nodup → (∀ x ∈ f1, wr.heap.size ≤ x) → Below w2.heap.size w2 w3 → w3.rangeAt b o cs → ∀ (c : Nat), ks.length ≤ 2097152 → ∀ ty : TypeId,
      ∃ v' w', (Builtin.append_ #[28, 28] ty #[v, .slice (some ⟨b, o, none⟩) 1 c]).run Tryd.prog w3 = .ok v' w' ∧ w'.cell? ⟨W0.heap.size, 3, none⟩ = some v ∧ w'.frozen? ⟨W0.heap.size, 3, none⟩ = false ∧ (∃ xa xl xc, v' = .slice xa xl xc) ∧ CzMid W0 op n s ks (k + 1) (w'.setCell ⟨W0.heap.size, 3, none⟩ v') := by
  have hlt0 := h.lt
  have hB := h.below.size
  have hbel := h.below
  obtain ⟨v, f, h1, hg⟩ := h.grow
  refine ⟨v, cell_of_row h1 (by simp), ?_⟩
  intro w2 w3 cs f1 b o hb hk hl hnd hge hb3 hr c hn ty
  have hb13 : Below wr.heap.size wr w3 := hb.trans (hb3.mono hb.size)
  have hg3 := hg.carry hb13
  have hl3 : Own w3 ks[k] cs f1 := Own.keep _ cs f1 hl fun x hx => hb3.block x (Own.lt _ _ _ hl x hx)
  obtain ⟨v', w', r1, r2, r3⟩ := hg3.push (t := ks[k]) hl3 hnd (fun x hx => by have := hge x hx; omega) (fun x hx hxf => by have := hge x hx; have := hg.lt x hxf; omega) (fun g hgv hx => by have := hge g hx; have := hg.own_lt g hgv; omega) hr c (by rw [List.length_take]; omega) (by have := hb13.size; omega) ty
  have hrow : w'.heap[W0.heap.size]? = some (.cells #[.int .i64 op, .int .i64 n, .string s, v] 31 (0, 0)) := by
    rw [r3.block _ (by omega), hb13.block _ hlt0]
    exact h1
  obtain ⟨xa, xc, hsh, _⟩ := r2.shape
  refine ⟨v', w', r1, cell_of_row hrow (by simp), frozen_of_row hrow, ⟨xa, _, xc, hsh⟩, ?_, v', f ++ f1, setCell3 v' hrow, ?_⟩
  · exact ((hbel.trans (hb13.mono hB)).trans (r3.mono (by omega))).setCell (Nat.le_refl _) _
  · rw [Tm.take_succ_get (List.getElem?_eq_getElem hk)]
    exact r2.blocks fun x hx => Below.heap_setCell _ _ _ _ (by show x ≠ _; simp only; omega)

theorem CzMid.kids {W0 wr : World} {op n : Int} {s : ByteArray} {ks : List Tm} (h : CzMid W0 op n s ks ks.length wr) : ∃ a cap fp, wr.heap[W0.heap.size]? = some (.cells #[.int .i64 op, .int .i64 n, .string s, .slice a ks.length cap] 31 (0, 0)) ∧
    ks.length ≤ cap ∧ cap ≤ maxLen ∧ KidsOwn wr a ks fp ∧ fp.Nodup ∧ ∀ x ∈ fp, W0.heap.size + 1 ≤ x := by
  obtain ⟨v, f, h1, hg⟩ := h.grow
  rw [List.take_length] at hg
  obtain ⟨a, cap, fp, rfl, h2, h3, h4, h5, h6⟩ := hg.kids
  exact ⟨a, cap, fp, h1, h2, h3, h4, h5, h6⟩

theorem box_at (w : World) (cs : List Value) (j : Nat) (v : Value) (h : cs[j]? = some v) : (w.alloc (.cells cs.toArray 31)).cell? ⟨w.heap.size, 0 + j, none⟩ = some v := by
  rw [Nat.zero_add]
  exact box_cell w _ 31 j v (by simpa using h)
theorem len_le {a b : Nat} (h : a = b) (hb : b ≤ 2097152) : a ≤ 2097152 := by omega

/-- An append in a region that draws its order, by what its run comes to. -/
theorem cz_append_run {P : Program} {ops : Array Oper} {o : Oper} {a : Act} {w : World} {K : Act → World → Prop} {Q : Exit → Act → World → Prop} {E : Prop}
    (hg : o.guard = none) (s x : Operand) (t : TypeId) (hop : o.op = Op.call { callee := Callee.builtin Builtin.append, args := #[s, x], argTypes := #[t, t] })
    (v xv : Value) (hs : a.eval s = v) (hx : a.eval x = xv) (R : Value → World → Prop) (hrun : ∃ v' w', (Builtin.append_ #[t, t] o.type #[v, xv]).run P w = .ok v' w' ∧ R v' w')
    (hK : ∀ v' w', R v' w' → K (a.put o.dst v') w') :
    if Region.wanted o (yielded ops a.tmps) = true then Oper.wp P o a w K Q else E := by
  have hw : Region.wanted o (yielded ops a.tmps) = true := by simp [Region.wanted, hg]
  rw [if_pos hw]
  obtain ⟨v', w', hr, h2⟩ := hrun
  unfold Oper.wp
  simp [execOp, hop, resolve, invoke, builtin, hs, hx, hr, Result.andThen]
  exact hK v' w' h2

end Go.Proofs.YteminklafghgpaaDoor
