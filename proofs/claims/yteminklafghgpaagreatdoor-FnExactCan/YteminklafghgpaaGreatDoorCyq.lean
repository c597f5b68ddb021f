
/- What holds in the middle of impl.copyTerm: the term half copied, the row of places that are still to be done, the box of the result; one round's steps as lemmas. -/
import Derived.Test.YteminklafghgpaaGreatDoorCyp
namespace Go.Proofs.YteminklafghgpaaGreatDoor
open Go.RowKit Go.Deep

/-- In the middle of the copy: H is all that is still to be done, R what of it stands in the row v. -/
structure CyS (w : World) (t : Tm) (H R : List Hole) (v : Value) (wr : World) : Prop where
  below : Below w.heap.size w wr
  root : ∃ fp, OwnP wr w t w.heap.size 0 fp H ∧ fp.Nodup ∧ ∀ y ∈ fp, w.heap.size + 2 ≤ y
  rty : ∃ C, wr.heap[w.heap.size]? = some (.cells C 35 (0, 0))
  res : wr.heap[w.heap.size + 1]? = some (.cells #[.int .i64 0, .int .i64 0, .string ByteArray.empty, .slice none 0 0] 35 (0, 0))
  row : wr.ownsRow (w.heap.size + 2) 62 1 v R.length (R.map hv)

theorem map_hv_length (R : List Hole) : (R.map hv).length = R.length := by simp

theorem CyS.carry {w wr wr2 : World} {t : Tm} {H R : List Hole} {v : Value} (h : CyS w t H R v wr) (hb : Below wr.heap.size wr wr2) : CyS w t H R v wr2 := by
  obtain ⟨fp, h1, h2, h3⟩ := h.root
  obtain ⟨C, hC⟩ := h.rty
  refine ⟨h.below.trans (hb.mono h.below.size), ⟨fp, ?_, h2, h3⟩, ⟨C, (hb.block _ (lt_of_heap hC)).trans hC⟩, (hb.block _ (lt_of_heap h.res)).trans h.res, ?_⟩
  · exact OwnP.keep t _ 0 fp H h1 (fun j _ => hb.cell (p := ⟨_, _, none⟩) (lt_of_heap hC)) fun y hy => hb.block y (h1.lt y hy)
  · exact h.row.kept (row := none) ⟨hb.os, hb.tape, hb.output, hb.size, fun k hk _ => hb.block k hk⟩ (by
      cases v.ownBlock with
      | none => exact Or.inl rfl
      | some g => exact Or.inr (by simp))

theorem CyS.shape {w wr : World} {t : Tm} {H R : List Hole} {v : Value} (h : CyS w t H R v wr) : ∃ a c, v = .slice a R.length c ∧ R.length ≤ c ∧ c ≤ maxLen := by
  rcases h.row.2 with ⟨h1, h2⟩ | ⟨g, cap, cur, h1, _, _, h2, h3, _⟩
  · exact ⟨none, 0, by rw [h2]; exact h1, by omega, by simp⟩
  · exact ⟨_, _, h1, h2, h3⟩

theorem CyS.start {w : World} {op n : Int} {s : ByteArray} {a : Option Addr} {cap : Nat} {ks : List Tm} (hl : Lies w 0 (.node op n s ks) (tmCells op n s a ks.length cap)) :
    CyS w (.node op n s ks) [(w.heap.size, 0, .node op n s ks)] [(w.heap.size, 0, .node op n s ks)] (.slice (some ⟨w.heap.size + 2, 0, none⟩) 1 1)
      (((w.alloc (.cells #[.int .i64 op, .int .i64 n, .string s, .slice a ks.length cap] 35)).alloc (.cells #[.int .i64 0, .int .i64 0, .string ByteArray.empty, .slice none 0 0] 35)).alloc (.cells #[.pointer (some ⟨w.heap.size, 0, none⟩)] 62)) := by
  have e1 : (w.alloc (.cells #[.int .i64 op, .int .i64 n, .string s, .slice a ks.length cap] 35)).heap[w.heap.size]? = some (.cells #[.int .i64 op, .int .i64 n, .string s, .slice a ks.length cap] 35 (0, 0)) := heap_alloc_new w _
  have hB : (((w.alloc (.cells #[.int .i64 op, .int .i64 n, .string s, .slice a ks.length cap] 35)).alloc (.cells #[.int .i64 0, .int .i64 0, .string ByteArray.empty, .slice none 0 0] 35)).alloc (.cells #[.pointer (some ⟨w.heap.size, 0, none⟩)] 62)).heap[w.heap.size]? = some (.cells #[.int .i64 op, .int .i64 n, .string s, .slice a ks.length cap] 35 (0, 0)) := by
    rw [heap_alloc_old _ _ (by simp; omega), heap_alloc_old _ _ (by simp)]
    exact e1
  refine ⟨(((Below.refl _ _).alloc (Nat.le_refl _) _).alloc (by simp) _).alloc (by simp; omega) _, ⟨[], ?_, by simp, by simp⟩, ⟨_, hB⟩, ?_, ?_⟩
  · simp only [Lies, tmCells] at hl
    obtain ⟨a', cap', he, h1, h2, h3⟩ := hl
    simp only [List.cons.injEq, Value.slice.injEq, true_and, and_true] at he
    obtain ⟨rfl, rfl⟩ := he
    simp only [OwnP]
    refine ⟨a, cap, fun j v hj => ?_, h1, h2, Or.inl ⟨by trivial, by trivial, h3⟩⟩
    rw [Nat.zero_add]
    have hj4 : j < 4 := by have := (List.getElem?_eq_some_iff.1 hj).1; simpa [tmCells] using this
    have hc := cell_of_row (j := j) hB (by simpa using hj4)
    rw [hc]
    rw [← hj]
    simp only [tmCells]
    rw [← List.getElem?_toArray]
    simp [hj4]
  · rw [heap_alloc_old _ _ (by simp)]
    have := heap_alloc_new (w.alloc (.cells #[.int .i64 op, .int .i64 n, .string s, .slice a ks.length cap] 35)) (.cells #[.int .i64 0, .int .i64 0, .string ByteArray.empty, .slice none 0 0] 35)
    rwa [heap_size_alloc] at this
  · have := World.ownsRow_lit (base := w.heap.size + 2) (e := 62) (size := 1) ((w.alloc (.cells #[.int .i64 op, .int .i64 n, .string s, .slice a ks.length cap] 35)).alloc (.cells #[.int .i64 0, .int .i64 0, .string ByteArray.empty, .slice none 0 0] 35)) #[.pointer (some ⟨w.heap.size, 0, none⟩)] 1 (by simp) (by simp [maxLen]) (by simp)
    simpa [hv] using this

/-- Where a place lies: in a block of terms. -/
theorem OwnP.block {w w0 : World} {t : Tm} {b o : Nat} {fp : List Nat} {hs : List Hole} (h : OwnP w w0 t b o fp hs) (hb : ∃ C, w.heap[b]? = some (.cells C 35 (0, 0))) : ∀ x ∈ hs, ∃ C, w.heap[x.1]? = some (.cells C 35 (0, 0)) := fun x hx => by
  rcases OwnP.place t b o fp hs h x hx with ⟨h1, _⟩ | h1
  · rw [h1]; exact hb
  · exact OwnP.ty t b o fp hs h x.1 h1

mutual
/-- The cells of a place that is still to be done. -/
theorem OwnP.hole {w w0 : World} : ∀ (t : Tm) (b o : Nat) (fp : List Nat) (hs : List Hole), OwnP w w0 t b o fp hs → ∀ (hb ho : Nat) (op n : Int) (s : ByteArray) (ks : List Tm), (hb, ho, Tm.node op n s ks) ∈ hs →
      ∃ a cap, w.rangeAt hb ho (tmCells op n s a ks.length cap) ∧ (s.size ≤ maxLen ∧ ks.length ≤ cap ∧ cap ≤ maxLen) ∧ ((Lit.int .i64 op).wf = true ∧ (Lit.int .i64 n).wf = true) ∧ LiesAll w0 0 a 0 ks
  | .node op' n' s' ks', b, o, fp, hs, h, hb, ho, op, n, s, ks, hx => by
    simp only [OwnP] at h
    obtain ⟨a, cap, h1, h2, h3, h4⟩ := h
    rcases h4 with ⟨_, rfl, h5⟩ | ⟨_, _, rfl, _⟩ | ⟨b', C, f, ha, _, rfl, hb', hk⟩
    · rw [List.mem_singleton] at hx
      simp only [Prod.mk.injEq, Tm.node.injEq] at hx
      obtain ⟨rfl, rfl, rfl, rfl, rfl, rfl⟩ := hx
      exact ⟨a, cap, h1, h2, h3, h5⟩
    · cases hx
    · exact OwnPs.hole ks' b' 0 f hs hk hb ho op n s ks hx
theorem OwnPs.hole {w w0 : World} : ∀ (ts : List Tm) (b i : Nat) (fp : List Nat) (hs : List Hole), OwnPs w w0 ts b i fp hs → ∀ (hb ho : Nat) (op n : Int) (s : ByteArray) (ks : List Tm), (hb, ho, Tm.node op n s ks) ∈ hs →
      ∃ a cap, w.rangeAt hb ho (tmCells op n s a ks.length cap) ∧ (s.size ≤ maxLen ∧ ks.length ≤ cap ∧ cap ≤ maxLen) ∧ ((Lit.int .i64 op).wf = true ∧ (Lit.int .i64 n).wf = true) ∧ LiesAll w0 0 a 0 ks
  | [], b, i, fp, hs, h, hb, ho, op, n, s, ks, hx => by
    simp only [OwnPs] at h
    rw [h.2] at hx
    cases hx
  | t :: r, b, i, fp, hs, h, hb, ho, op, n, s, ks, hx => by
    simp only [OwnPs] at h
    obtain ⟨f1, f2, h1, h2, rfl, rfl, ht, hr⟩ := h
    rcases List.mem_append.1 hx with hx | hx
    · exact OwnP.hole t b (i * 4) f1 h1 ht hb ho op n s ks hx
    · exact OwnPs.hole r b (i + 1) f2 h2 hr hb ho op n s ks hx
end

/-- The last place: its pointer stands at the row's end; its cells. -/
theorem CyS.top {w wr : World} {t : Tm} {H : List Hole} {hb ho : Nat} {op n : Int} {s : ByteArray} {ks : List Tm} {v : Value} (h : CyS w t (H ++ [(hb, ho, .node op n s ks)]) (H ++ [(hb, ho, .node op n s ks)]) v wr) :
    ∃ g c, v = .slice (some ⟨g, 0, none⟩) (H.length + 1) c ∧ H.length + 1 ≤ c ∧ c ≤ maxLen ∧ wr.cell? ⟨g, H.length, none⟩ = some (.pointer (some ⟨hb, ho, none⟩)) ∧
      CyS w t (H ++ [(hb, ho, .node op n s ks)]) H (.slice (some ⟨g, 0, none⟩) H.length c) wr := by
  have ho' := h.row
  rcases ho'.2 with ⟨h1, h2⟩ | ⟨g, cap, cur, h1, _, _, h2, h3, _⟩
  · simp at h2
  · simp only [List.length_append, List.length_cons, List.length_nil, Nat.zero_add] at h1 h2
    refine ⟨g, cap, h1, h2, h3, ?_, h.below, h.root, h.rty, h.res, ?_⟩
    · have hcells := ho'.cells (g := g) (by rw [h1]; rfl) H.length (.pointer (some ⟨hb, ho, none⟩)) (by simp [hv])
      rw [Addr.add_mid, Nat.zero_add] at hcells
      exact hcells
    · have := ho'
      simp only [List.map_append, List.map_cons, List.map_nil, List.length_append, List.length_cons, List.length_nil, Nat.zero_add] at this
      rw [h1] at this
      exact ownsRow_pop (n := H.length) (xs := H.map hv) (by simp) this

theorem CyS.cells {w wr : World} {t : Tm} {H R : List Hole} {hb ho : Nat} {op n : Int} {s : ByteArray} {ks : List Tm} {v : Value} (h : CyS w t (H ++ [(hb, ho, .node op n s ks)]) R v wr) :
    ∃ a cap C, wr.heap[hb]? = some (.cells C 35 (0, 0)) ∧ w.heap.size ≤ hb ∧ hb ≠ w.heap.size + 1 ∧ wr.rangeAt hb ho (tmCells op n s a ks.length cap) ∧ (s.size ≤ maxLen ∧ ks.length ≤ cap ∧ cap ≤ maxLen) ∧ ((Lit.int .i64 op).wf = true ∧ (Lit.int .i64 n).wf = true) ∧ LiesAll w 0 a 0 ks := by
  obtain ⟨fp, h1, h2, h3⟩ := h.root
  obtain ⟨C, hC⟩ := h1.block h.rty (hb, ho, .node op n s ks) (by simp)
  obtain ⟨a, cap, k1, k2, k3, k4⟩ := OwnP.hole t _ 0 fp _ h1 hb ho op n s ks (by simp)
  have hp := OwnP.place t _ 0 fp _ h1 (hb, ho, .node op n s ks) (by simp)
  refine ⟨a, cap, C, hC, ?_, ?_, k1, k2, k3, k4⟩
  · rcases hp with ⟨e, _⟩ | e
    · exact Nat.le_of_eq e.symm
    · have := h3 hb e; omega
  · rcases hp with ⟨e, _⟩ | e
    · have : hb = w.heap.size := e
      omega
    · have := h3 hb e; omega

theorem info113 : (Tryz.prog.info? 62).map (fun i => (i.zero, i.size, i.bytes)) = some (some (.pointer none), 1, 8) := by kernel_rfl
theorem und114 : Tryz.prog.underlying 63 = some (.slice 62) := by kernel_rfl
theorem und22 : Tryz.prog.underlying 24 = some (.slice 35) := by kernel_rfl
theorem info24y : (Tryz.prog.info? 35).map (fun i => (i.zero, i.size, i.bytes)) = some (some (.agg #[.int .i64 0, .int .i64 0, .string ByteArray.empty, .slice none 0 0]), 4, 56) := by kernel_rfl

/-- What a row of pointers' block is not: one of terms. -/
theorem row_apart {w : World} {B : Nat} {v : Value} {n : Nat} {xs : List Value} (h : w.ownsRow B 62 1 v n xs) {k : Nat} {C : Array Value} (hk : w.heap[k]? = some (.cells C 35 (0, 0))) : some k ≠ v.ownBlock := by
  rcases h.2 with ⟨rfl, _⟩ | ⟨g, cap, cur, rfl, _, hg, _⟩
  · simp [Value.ownBlock]
  · intro e
    simp only [Value.ownBlock, Option.some.injEq] at e
    subst e
    rw [hg] at hk
    simp at hk

/-- A pointer more in the row; all blocks of terms stay as they were. -/
theorem CyS.push {w wr : World} {t : Tm} {H R : List Hole} {v : Value} (h : CyS w t H R v wr) (x : Hole) (hn : R.length ≤ 4194304) (ty : TypeId) :
    ∃ v' w', (Builtin.append_ #[63, 63] ty #[v, .slice (some ⟨wr.heap.size, 0, none⟩) 1 1]).run Tryz.prog (wr.alloc (Obj.cells #[hv x] 62)) = .ok v' w' ∧ CyS w t H (R ++ [x]) v' w' ∧
      ∀ (k : Nat) (C : Array Value), wr.heap[k]? = some (.cells C 35 (0, 0)) → w'.heap[k]? = wr.heap[k]? := by
  have hb1 : Below wr.heap.size wr (wr.alloc (Obj.cells #[hv x] 62)) := (Below.refl _ _).alloc (Nat.le_refl _) _
  have h1 := h.carry hb1
  obtain ⟨i, hi, hzz⟩ := Option.map_eq_some_iff.1 info113
  simp only [Prod.mk.injEq] at hzz
  obtain ⟨hz, hs, hb⟩ := hzz
  have hcell : (wr.alloc (Obj.cells #[hv x] 62)).cell? ⟨wr.heap.size, 0, none⟩ = some (hv x) := cell_of_row (heap_alloc_new wr _) (by simp)
  obtain ⟨C0, hC0⟩ := h1.rty
  have hB : w.heap.size + 2 ≤ (wr.alloc (Obj.cells #[hv x] 62)).heap.size := by have := lt_of_heap h1.res; omega
  obtain ⟨v', w', g1, g2, g3, _⟩ := run_append_own_wide (P := Tryz.prog) (wr.alloc (Obj.cells #[hv x] 62)) (w.heap.size + 2) 63 ty 62 i _ 1 8 und114 hi hz hs hb rfl (by omega) v R.length (R.map hv) h1.row ⟨wr.heap.size, 0, none⟩ 1 1 [hv x] (by simp)
    (fun j u hj => by
      cases j with
      | zero => simp only [List.getElem?_cons_zero, Option.some.injEq] at hj; subst hj; rw [Addr.add_mid]; exact hcell
      | succ j => simp at hj)
    (fun u hu => by rw [List.mem_singleton] at hu; subst hu; rfl) (by unfold maxLen; omega) (by omega) hB
  have hkeep : ∀ (k : Nat) (C : Array Value), (wr.alloc (Obj.cells #[hv x] 62)).heap[k]? = some (.cells C 35 (0, 0)) → w'.heap[k]? = (wr.alloc (Obj.cells #[hv x] 62)).heap[k]? := fun k C hk => g3.block k (lt_of_heap hk) (row_apart h1.row hk)
  refine ⟨v', w', g1, ⟨?_, ?_, ?_, ?_, ?_⟩, fun k C hk => ?_⟩
  · exact h1.below.grown g3 h1.below.size fun k hk => by have := (h1.row.lt k hk).1; omega
  · obtain ⟨fp, k1, k2, k3⟩ := h1.root
    exact ⟨fp, OwnP.keep t _ 0 fp H k1 (fun j _ => World.cell?_of_block (hkeep _ C0 hC0)) (fun y hy => by obtain ⟨C, hC⟩ := OwnP.ty t _ 0 fp H k1 y hy; exact hkeep y C hC), k2, k3⟩
  · exact ⟨C0, (hkeep _ C0 hC0).trans hC0⟩
  · exact (hkeep _ _ h1.res).trans h1.res
  · simpa using g2
  · have h5 : (wr.alloc (Obj.cells #[hv x] 62)).heap[k]? = wr.heap[k]? := hb1.block k (lt_of_heap hk)
    rw [hkeep k C (h5.trans hk), h5]

/-- What is left when all is done: the term in blocks of its own. -/
theorem CyS.finish {w wr : World} {t : Tm} {v : Value} (h : CyS w t [] [] v wr) : ∃ cs fp, wr.rangeAt w.heap.size 0 cs ∧ Own wr t cs fp ∧ fp.Nodup ∧ (∀ y ∈ fp, w.heap.size + 2 ≤ y) ∧ ∀ op n s, t = .node op n s [] → wr.rangeAt w.heap.size 0 (tmCells op n s none 0 0) := by
  obtain ⟨fp, h1, h2, h3⟩ := h.root
  obtain ⟨cs, k1, k2⟩ := OwnP.done t _ 0 fp h1
  exact ⟨cs, fp, k1, k2, h2, h3, fun op n s e => by subst e; exact OwnP.leaf h1⟩

/-- The kids' cells in a new block. -/
theorem copy_kids {w wr : World} {a : Option Addr} {ks : List Tm} (cap : Nat) (hk : LiesAll w 0 a 0 ks) (hb : Below w.heap.size w wr) (hn : ks.length ≤ 4194304) (ty : TypeId) :
    ∃ v' w', (Builtin.append_ #[24, 24] ty #[.slice none 0 0, .slice a ks.length cap]).run Tryz.prog wr = .ok v' w' ∧ Below wr.heap.size wr w' ∧
      ∃ a' cap', v' = .slice a' ks.length cap' ∧ ks.length ≤ cap' ∧ cap' ≤ maxLen ∧ ((ks = [] ∧ a' = none ∧ cap' = 0) ∨ ∃ g C, a' = some ⟨g, 0, none⟩ ∧ ks ≠ [] ∧ wr.heap.size ≤ g ∧ w'.heap[g]? = some (.cells C 35 (0, 0)) ∧ OwnPs w' w ks g 0 [] (kidsH g 0 ks)) := by
  obtain ⟨kp, k1, k2, k3⟩ := hk.pairs
  have hkl : kp.length = ks.length := by rw [← k1]; simp
  obtain ⟨i, hi, hzz⟩ := Option.map_eq_some_iff.1 info24y
  simp only [Prod.mk.injEq] at hzz
  obtain ⟨hz, hs, hby⟩ := hzz
  by_cases hnil : ks = []
  · subst hnil
    have hsrc : Src Tryz.prog i.size 24 (.slice a ([] : List Tm).length cap) 0 [] wr := by
      cases a with
      | none => exact Src.ofNil wr und22 cap
      | some x => exact Src.ofSlice wr und22 x 0 cap [] (by simp) (fun j u hj => by simp at hj) (fun u hu => by cases hu)
    exact ⟨_, _, run_append_nothing wr 24 24 ty 35 i und22 hi _ _ _ (Nat.le_refl _) _ hsrc, Below.refl _ _, none, 0, by simp, by simp, by simp, Or.inl ⟨rfl, rfl, rfl⟩⟩
  · obtain ⟨b, o, rfl, hr⟩ := k3 hnil
    rw [Nat.zero_mul, Nat.add_zero] at hr
    have hr' : wr.rangeAt b o (kp.flatMap (·.2)) := rangeAt_below hr hb
    obtain ⟨v', w', g1, g2, g3, _⟩ := run_append_own_wide (P := Tryz.prog) wr wr.heap.size 24 ty 35 i _ 4 56 und22 hi hz hs hby rfl (by omega) _ 0 _ (World.ownsRow_nil wr wr.heap.size 35 4) ⟨b, o, none⟩ ks.length cap (kp.flatMap (·.2))
      (by rw [pairs_length k2, hkl]) (fun j u hj => by rw [Addr.add_mid]; exact hr' j u hj)
      (fun u hu => by
        obtain ⟨q, hq, hu⟩ := List.mem_flatMap.1 hu
        exact (k2 q hq).one u hu)
      (by unfold maxLen; omega) (by omega) (Nat.le_refl _)
    rw [Nat.zero_add, List.nil_append] at g2
    refine ⟨v', w', g1, (Below.refl _ _).grown g3 (Nat.le_refl _) (fun k hk => by simp [Value.ownBlock] at hk), ?_⟩
    rcases g2.2 with ⟨_, h2⟩ | ⟨g, cap', cur, h1, h2, h3, h4, h5, _⟩
    · exact absurd (List.length_eq_zero_iff.1 h2) hnil
    · refine ⟨some ⟨g, 0, none⟩, cap', h1, h4, h5, Or.inr ⟨g, cur, rfl, hnil, h2, h3, ?_⟩⟩
      have := OwnPs.fresh (w := w') (w0 := w) (b := g) (i := 0) (kp := kp) k2 (fun j u hj => by
        have := g2.cells (g := g) (by rw [h1]; rfl) j u hj
        rw [Addr.add_mid, Nat.zero_add] at this
        rw [Nat.zero_mul, Nat.zero_add]
        exact this)
      rwa [k1] at this

/-- A place is done: its kids lie in a new block, and are the next to be done. -/
theorem CyS.step {w wr : World} {t : Tm} {H R : List Hole} {hb ho : Nat} {op n : Int} {s : ByteArray} {ks : List Tm} {v : Value} {a : Option Addr} {cap : Nat} (h : CyS w t (H ++ [(hb, ho, .node op n s ks)]) R v wr)
    (hr : wr.rangeAt hb ho (tmCells op n s a ks.length cap)) (hk : LiesAll w 0 a 0 ks) (hn : ks.length ≤ 4194304) (ty : TypeId) :
    ∃ v' w2, (Builtin.append_ #[24, 24] ty #[.slice none 0 0, .slice a ks.length cap]).run Tryz.prog (wr.setCell ⟨hb, ho + 2, none⟩ (.string s)) = .ok v' w2 ∧
      ∃ a' cap' g, v' = .slice a' ks.length cap' ∧ ks.length ≤ cap' ∧ cap' ≤ maxLen ∧ (0 < ks.length → a' = some ⟨g, 0, none⟩) ∧ w2.frozen? ⟨hb, ho + 3, none⟩ = false ∧ (∃ u, w2.cell? ⟨hb, ho + 3, none⟩ = some u) ∧
      CyS w t (H ++ kidsH g 0 ks) R v (w2.setCell ⟨hb, ho + 3, none⟩ v') ∧ (w2.setCell ⟨hb, ho + 3, none⟩ v').cell? ⟨hb, ho + 3, none⟩ = some v' ∧ ∃ C, (w2.setCell ⟨hb, ho + 3, none⟩ v').heap[hb]? = some (.cells C 35 (0, 0)) := by
  obtain ⟨a0, cap0, C, hC, hge, hne1, hr0, hz0, hwf, _⟩ := h.cells
  have hlt : hb < wr.heap.size := lt_of_heap hC
  have hbset : Below w.heap.size w (wr.setCell ⟨hb, ho + 2, none⟩ (.string s)) := h.below.setCell hge _
  obtain ⟨v', w2, g1, g2, a', cap', rfl, hc1, hc2, hor⟩ := copy_kids (wr := wr.setCell ⟨hb, ho + 2, none⟩ (.string s)) cap hk hbset hn ty
  have hsz : (wr.setCell ⟨hb, ho + 2, none⟩ (.string s)).heap.size = wr.heap.size := by simp
  rw [hsz] at g2 hor
  have c0 : wr.cell? ⟨hb, ho, none⟩ = some (.int .i64 op) := hr 0 _ rfl
  have c1 : wr.cell? ⟨hb, ho + 1, none⟩ = some (.int .i64 n) := hr 1 _ rfl
  have c2 : wr.cell? ⟨hb, ho + 2, none⟩ = some (.string s) := hr 2 _ rfl
  have c3 : wr.cell? ⟨hb, ho + 3, none⟩ = some (.slice a ks.length cap) := hr 3 _ rfl
  have s2 : ∀ o', (wr.setCell ⟨hb, ho + 2, none⟩ (.string s)).cell? ⟨hb, o', none⟩ = wr.cell? ⟨hb, o', none⟩ := fun o' => by
    by_cases e : o' = ho + 2
    · subst e
      rw [World.cell?_setCell_same _ _ _ c2, c2]
    · exact World.cell?_setCell_other _ _ _ _ (fun e' => e (by cases e'; rfl))
  have hcw2 : ∀ o', w2.cell? ⟨hb, o', none⟩ = wr.cell? ⟨hb, o', none⟩ := fun o' => by
    rw [g2.cell (p := ⟨hb, o', none⟩) hlt, s2]
  have hCs : (wr.setCell ⟨hb, ho + 2, none⟩ (.string s)).heap[hb]? = some (.cells (C.setIfInBounds (ho + 2) (.string s)) 35 (0, 0)) := heap_setCell_same wr hb (ho + 2) C 35 _ hC
  have hC2 : w2.heap[hb]? = some (.cells (C.setIfInBounds (ho + 2) (.string s)) 35 (0, 0)) := (g2.block hb hlt).trans hCs
  have hC3 := heap_setCell_same w2 hb (ho + 3) _ 35 (.slice a' ks.length cap') hC2
  have hc3' : (w2.setCell ⟨hb, ho + 3, none⟩ (.slice a' ks.length cap')).cell? ⟨hb, ho + 3, none⟩ = some (.slice a' ks.length cap') := World.cell?_setCell_same _ _ _ ((hcw2 (ho + 3)).trans c3)
  have hoth : ∀ k, k < wr.heap.size → k ≠ hb → (w2.setCell ⟨hb, ho + 3, none⟩ (.slice a' ks.length cap')).heap[k]? = wr.heap[k]? := fun k hk hne => by
    rw [Below.heap_setCell _ _ _ _ (by exact hne), g2.block k hk, Below.heap_setCell _ _ _ _ (by exact hne)]
  have hch : Chg1 hb ho wr (w2.setCell ⟨hb, ho + 3, none⟩ (.slice a' ks.length cap')) := by
    refine ⟨hoth, fun o' ho' => ?_, fun C' _ => ⟨_, hC3⟩⟩
    rw [World.cell?_setCell_other _ _ _ _ (fun e' => by cases e'; omega), hcw2]
  have hrange : (w2.setCell ⟨hb, ho + 3, none⟩ (.slice a' ks.length cap')).rangeAt hb ho (tmCells op n s a' ks.length cap') := fun j u hj => by
    match j, hj with
    | 0, hj =>
      simp only [tmCells, List.getElem?_cons_zero, Option.some.injEq] at hj
      subst hj
      rw [World.cell?_setCell_other _ _ _ _ (fun e' => by simp at e'), hcw2]
      exact c0
    | 1, hj =>
      simp only [tmCells, List.getElem?_cons_succ, List.getElem?_cons_zero, Option.some.injEq] at hj
      subst hj
      rw [World.cell?_setCell_other _ _ _ _ (fun e' => by simp at e'), hcw2]
      exact c1
    | 2, hj =>
      simp only [tmCells, List.getElem?_cons_succ, List.getElem?_cons_zero, Option.some.injEq] at hj
      subst hj
      rw [World.cell?_setCell_other _ _ _ _ (fun e' => by simp at e'), hcw2]
      exact c2
    | 3, hj =>
      simp only [tmCells, List.getElem?_cons_succ, List.getElem?_cons_zero, Option.some.injEq] at hj
      subst hj
      exact hc3'
    | j + 4, hj => simp [tmCells] at hj
  have hbel : Below w.heap.size w (w2.setCell ⟨hb, ho + 3, none⟩ (.slice a' ks.length cap')) := ((hbset.trans (by rw [← hsz] at g2; exact g2.mono hbset.size))).setCell hge _
  obtain ⟨fp, k1, k2, k3⟩ := h.root
  obtain ⟨C0, hC0⟩ := h.rty
  have hx : ∃ g f', OwnP (w2.setCell ⟨hb, ho + 3, none⟩ (.slice a' ks.length cap')) w (.node op n s ks) hb ho f' (kidsH g 0 ks) ∧ f'.Nodup ∧ (∀ y ∈ f', wr.heap.size ≤ y) ∧ (0 < ks.length → a' = some ⟨g, 0, none⟩) := by
    rcases hor with ⟨rfl, rfl, rfl⟩ | ⟨g, C', rfl, hnn, hg, hC', hps⟩
    · refine ⟨0, [], ?_, by simp, by simp, by simp⟩
      simp only [OwnP, kidsH]
      exact ⟨none, 0, hrange, ⟨hz0.1, hc1, hc2⟩, hwf, Or.inr (Or.inl ⟨by trivial, by trivial, by trivial, by trivial, by trivial⟩)⟩
    · have hgne : g ≠ hb := by omega
      have hgk : (w2.setCell ⟨hb, ho + 3, none⟩ (.slice (some ⟨g, 0, none⟩) ks.length cap')).heap[g]? = w2.heap[g]? := Below.heap_setCell _ _ _ _ (by exact hgne)
      refine ⟨g, [g], ?_, by simp, by simpa using hg, fun _ => rfl⟩
      simp only [OwnP]
      refine ⟨some ⟨g, 0, none⟩, cap', hrange, ⟨hz0.1, hc1, hc2⟩, hwf, Or.inr (Or.inr ⟨g, C', [], rfl, hnn, rfl, hgk.trans hC', ?_⟩)⟩
      exact OwnPs.keep ks g 0 [] _ hps (fun j _ => World.cell?_of_block hgk) fun y hy => by cases hy
  obtain ⟨g, f', hx1, hx2, hx3, hx4⟩ := hx
  have hltB : w.heap.size < wr.heap.size := lt_of_heap hC0
  obtain ⟨fp', m1, m2, m3⟩ := OwnP.put hch hx1 hx2 hx3 t _ 0 fp H k1 k2 (fun hy => by have := k3 _ hy; omega) hltB
  refine ⟨_, w2, g1, a', cap', g, rfl, hc1, hc2, hx4, frozen_of_row hC2, ⟨_, (hcw2 (ho + 3)).trans c3⟩, ⟨hbel, ⟨fp', m1, m2, fun y hy => ?_⟩, ?_, ?_, ?_⟩, hc3', ⟨_, hC3⟩⟩
  · rcases m3 y hy with h5 | h5
    · exact k3 y h5
    · have := hx3 y h5
      have := lt_of_heap h.res
      omega
  · by_cases e : w.heap.size = hb
    · rw [e]; exact ⟨_, hC3⟩
    · exact ⟨C0, (hoth _ hltB e).trans hC0⟩
  · exact (hoth _ (lt_of_heap h.res) (fun e => hne1 e.symm)).trans h.res
  · refine h.row.kept (row := some hb) ⟨hbel.os.trans h.below.os.symm, hbel.tape.trans h.below.tape.symm, hbel.output.trans h.below.output.symm, ?_, fun k hk hne => hoth k hk (fun e => hne (by rw [e]))⟩ (Or.inr fun e => row_apart h.row hC e.symm)
    have := g2.size
    rw [hsz] at this
    simp only [World.setCell, Array.size_modify]
    exact this

end Go.Proofs.YteminklafghgpaaGreatDoor
