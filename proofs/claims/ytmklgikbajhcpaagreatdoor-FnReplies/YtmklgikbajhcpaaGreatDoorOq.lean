
/- A region whose order is drawn, by states: an invariant over what has come up, the frame and the world; one operation each. -/
import Derived.Test.YtmklgikbajhcpaaGreatDoorHj
import Derived.Test.YtmklgikbajhcpaaGreatDoorTx
import Derived.BigCall
import Derived.Deep.RegionHeld3
namespace Go.Proofs.YtmklgikbajhcpaaGreatDoor
open Go.RowKit Go.Deep

theorem RowT.load {w : World} {b : Nat} {op n : Int} {s : ByteArray} {a : Option Addr} {len cap : Nat} (h : RowT 29 w b op n s a len cap) : (loadVar 29 ⟨b, 0, none⟩).run Tryz.prog w = .ok (.agg #[.int .i64 op, .int .i64 n, .string s, .slice a len cap]) w := by
  obtain ⟨c0, c1, c2, c3⟩ := h.facts
  have := run_loadVar_mid (P := Tryz.prog) w b 0 29 [.int .i64 op, .int .i64 n, .string s, .slice a len cap] _ (by
    intro j v hj
    match j, hj with
    | 0, hj => simp only [List.getElem?_cons_zero, Option.some.injEq] at hj; subst hj; exact c0
    | 1, hj => simp only [List.getElem?_cons_succ, List.getElem?_cons_zero, Option.some.injEq] at hj; subst hj; exact c1
    | 2, hj => simp only [List.getElem?_cons_succ, List.getElem?_cons_zero, Option.some.injEq] at hj; subst hj; exact c2
    | 3, hj => simp only [List.getElem?_cons_succ, List.getElem?_cons_zero, Option.some.injEq] at hj; subst hj; exact c3
    | j + 4, hj => simp at hj) Tryz.underlying29 rfl (by kernel_rfl)
  simpa using this
theorem results_cells4 {P : Program} {fn : Func} {c0 c1 c2 c3 u : Tmp} {t0 t1 t2 t3 : TypeId} (h : fn.results = #[.cell c0 t0, .cell c1 t1, .cell c2 t2, .cell c3 t3, .tmp u]) {tmps : Array Value} {w : World} {v0 v1 v2 v3 : Value} {b0 b1 b2 b3 : Addr} (p0 : tmps.getD c0 undef = .pointer (some b0)) (p1 : tmps.getD c1 undef = .pointer (some b1)) (p2 : tmps.getD c2 undef = .pointer (some b2)) (p3 : tmps.getD c3 undef = .pointer (some b3))
    (l0 : (loadVar t0 b0).run P w = .ok v0 w) (l1 : (loadVar t1 b1).run P w = .ok v1 w) (l2 : (loadVar t2 b2).run P w = .ok v2 w) (l3 : (loadVar t3 b3).run P w = .ok v3 w) :
    (results fn tmps).run P w = .ok (.tuple #[v0, v1, v2, v3, tmps.getD u undef]) w := by
  have p0' : tmps[c0]?.getD undef = .pointer (some b0) := by simpa using p0
  have p1' : tmps[c1]?.getD undef = .pointer (some b1) := by simpa using p1
  have p2' : tmps[c2]?.getD undef = .pointer (some b2) := by simpa using p2
  have p3' : tmps[c3]?.getD undef = .pointer (some b3) := by simpa using p3
  simp [results, h, p0', p1', p2', p3', l0, l1, l2, l3, asAddr]

/-- Four cells of a box are written over. -/
abbrev fill4 (w : World) (g : Nat) (op n : Int) (s : ByteArray) (a : Option Addr) (len cap : Nat) : World :=
  (((w.setCell ⟨g, 0, none⟩ (.int .i64 op)).setCell ⟨g, 1, none⟩ (.int .i64 n)).setCell ⟨g, 2, none⟩ (.string s)).setCell ⟨g, 3, none⟩ (.slice a len cap)
theorem RowT.other {w : World} {g b : Nat} {op n : Int} {s : ByteArray} {a : Option Addr} {len cap : Nat} {op1 n1 : Int} {s1 : ByteArray} {a1 : Option Addr} {len1 cap1 : Nat} (h : RowT 29 w b op n s a len cap) (hne : b ≠ g) : RowT 29 (fill4 w g op1 n1 s1 a1 len1 cap1) b op n s a len cap :=
  (set4_heap w g _ _ _ _ b hne).trans h
/-- Four boxes side by side are filled. -/
theorem fill_four {w : World} {g : Nat} {op0 n0 op1 n1 op2 n2 op3 n3 : Int} {s0 s1 s2 s3 : ByteArray} {a0 a1 a2 a3 : Option Addr} {l0 k0 l1 k1 l2 k2 l3 k3 : Nat} (h0 : RowT 29 w g 0 0 ⟨#[]⟩ none 0 0) (h1 : RowT 29 w (g + 1) 0 0 ⟨#[]⟩ none 0 0) (h2 : RowT 29 w (g + 1 + 1) 0 0 ⟨#[]⟩ none 0 0) (h3 : RowT 29 w (g + 1 + 1 + 1) 0 0 ⟨#[]⟩ none 0 0) :
    RowT 29 (fill4 (fill4 (fill4 (fill4 w g op0 n0 s0 a0 l0 k0) (g + 1) op1 n1 s1 a1 l1 k1) (g + 1 + 1) op2 n2 s2 a2 l2 k2) (g + 1 + 1 + 1) op3 n3 s3 a3 l3 k3) g op0 n0 s0 a0 l0 k0 ∧
    RowT 29 (fill4 (fill4 (fill4 (fill4 w g op0 n0 s0 a0 l0 k0) (g + 1) op1 n1 s1 a1 l1 k1) (g + 1 + 1) op2 n2 s2 a2 l2 k2) (g + 1 + 1 + 1) op3 n3 s3 a3 l3 k3) (g + 1) op1 n1 s1 a1 l1 k1 ∧
    RowT 29 (fill4 (fill4 (fill4 (fill4 w g op0 n0 s0 a0 l0 k0) (g + 1) op1 n1 s1 a1 l1 k1) (g + 1 + 1) op2 n2 s2 a2 l2 k2) (g + 1 + 1 + 1) op3 n3 s3 a3 l3 k3) (g + 1 + 1) op2 n2 s2 a2 l2 k2 ∧
    RowT 29 (fill4 (fill4 (fill4 (fill4 w g op0 n0 s0 a0 l0 k0) (g + 1) op1 n1 s1 a1 l1 k1) (g + 1 + 1) op2 n2 s2 a2 l2 k2) (g + 1 + 1 + 1) op3 n3 s3 a3 l3 k3) (g + 1 + 1 + 1) op3 n3 s3 a3 l3 k3 := by
  have r0 := RowT.fill h0 op0 n0 s0 a0 l0 k0
  have r1 := RowT.fill (RowT.other (op1 := op0) (n1 := n0) (s1 := s0) (a1 := a0) (len1 := l0) (cap1 := k0) h1 (g := g) (by omega)) op1 n1 s1 a1 l1 k1
  have r2 := RowT.fill (RowT.other (op1 := op1) (n1 := n1) (s1 := s1) (a1 := a1) (len1 := l1) (cap1 := k1) (RowT.other (op1 := op0) (n1 := n0) (s1 := s0) (a1 := a0) (len1 := l0) (cap1 := k0) h2 (g := g) (by omega)) (g := g + 1) (by omega)) op2 n2 s2 a2 l2 k2
  have r3 := RowT.fill (RowT.other (op1 := op2) (n1 := n2) (s1 := s2) (a1 := a2) (len1 := l2) (cap1 := k2) (RowT.other (op1 := op1) (n1 := n1) (s1 := s1) (a1 := a1) (len1 := l1) (cap1 := k1) (RowT.other (op1 := op0) (n1 := n0) (s1 := s0) (a1 := a0) (len1 := l0) (cap1 := k0) h3 (g := g) (by omega)) (g := g + 1) (by omega)) (g := g + 1 + 1) (by omega)) op3 n3 s3 a3 l3 k3
  exact ⟨RowT.other (RowT.other (RowT.other r0 (by omega)) (by omega)) (by omega), RowT.other (RowT.other r1 (by omega)) (by omega), RowT.other r2 (by omega), r3⟩
theorem fill_four_heap {w : World} {g b : Nat} {op0 n0 op1 n1 op2 n2 op3 n3 : Int} {s0 s1 s2 s3 : ByteArray} {a0 a1 a2 a3 : Option Addr} {l0 k0 l1 k1 l2 k2 l3 k3 : Nat} (h : g + 1 + 1 + 1 < b) :
    (fill4 (fill4 (fill4 (fill4 w g op0 n0 s0 a0 l0 k0) (g + 1) op1 n1 s1 a1 l1 k1) (g + 1 + 1) op2 n2 s2 a2 l2 k2) (g + 1 + 1 + 1) op3 n3 s3 a3 l3 k3).heap[b]? = w.heap[b]? := by
  rw [fill4, set4_heap _ _ _ _ _ _ b (by omega), fill4, set4_heap _ _ _ _ _ _ b (by omega), fill4, set4_heap _ _ _ _ _ _ b (by omega), fill4, set4_heap _ _ _ _ _ _ b (by omega)]
theorem fill_four_below {B : Nat} {v w : World} {g : Nat} {op0 n0 op1 n1 op2 n2 op3 n3 : Int} {s0 s1 s2 s3 : ByteArray} {a0 a1 a2 a3 : Option Addr} {l0 k0 l1 k1 l2 k2 l3 k3 : Nat} (h : Below B v w) (hg : B ≤ g) :
    Below B v (fill4 (fill4 (fill4 (fill4 w g op0 n0 s0 a0 l0 k0) (g + 1) op1 n1 s1 a1 l1 k1) (g + 1 + 1) op2 n2 s2 a2 l2 k2) (g + 1 + 1 + 1) op3 n3 s3 a3 l3 k3) :=
  set4_below (set4_below (set4_below (set4_below h hg) (by omega)) (by omega)) (by omega)

theorem far4 {n a b b0 b1 b2 b3 : Nat} (h0 : n + 6 ≤ a) (h1 : a ≤ b) (h2 : b ≤ b0) (h3 : b0 < b1) (h4 : b1 < b2) (h5 : b2 < b3) : n + 1 + 1 + 1 + 1 + 1 < b0 ∧ n + 1 + 1 + 1 + 1 + 1 < b1 ∧ n + 1 + 1 + 1 + 1 + 1 < b2 ∧ n + 1 + 1 + 1 + 1 + 1 < b3 := by omega
theorem ne_far {n b : Nat} (h : n + 1 + 1 + 1 + 1 + 1 < b) : b ≠ n + 1 + 1 ∧ b ≠ n + 1 + 1 + 1 ∧ b ≠ n + 1 + 1 + 1 + 1 ∧ b ≠ n + 1 + 1 + 1 + 1 + 1 := by omega
theorem zne (n : Nat) : (n + 1 ≠ n ∧ n + 1 + 1 ≠ n ∧ n + 1 + 1 + 1 ≠ n) ∧ (n + 1 + 1 ≠ n + 1 ∧ n + 1 + 1 + 1 ≠ n + 1) ∧ n + 1 + 1 + 1 ≠ n + 1 + 1 := by omega
theorem le_two (n : Nat) : n ≤ n + 1 + 1 := by omega
theorem far_lt {n a b y : Nat} (h0 : n + 6 ≤ a) (h1 : a ≤ b) (h2 : b ≤ y) : n + 1 + 1 + 1 + 1 + 1 < y := by omega
theorem far_lt' {n b y : Nat} (h0 : n + 1 + 1 + 1 + 1 + 1 < b) (h2 : b < y) : n + 1 + 1 + 1 + 1 + 1 < y := by omega
theorem fill4_size {w : World} {g : Nat} {op n : Int} {s : ByteArray} {a : Option Addr} {len cap : Nat} : (fill4 w g op n s a len cap).heap.size = w.heap.size := by
  simp [fill4, World.setCell]
theorem le_fill4 {w : World} {m g : Nat} {op0 n0 op1 n1 op2 n2 op3 n3 : Int} {s0 s1 s2 s3 : ByteArray} {a0 a1 a2 a3 : Option Addr} {l0 k0 l1 k1 l2 k2 l3 k3 : Nat} (h : m ≤ w.heap.size) :
    m ≤ (fill4 (fill4 (fill4 (fill4 w g op0 n0 s0 a0 l0 k0) (g + 1) op1 n1 s1 a1 l1 k1) (g + 1 + 1) op2 n2 s2 a2 l2 k2) (g + 1 + 1 + 1) op3 n3 s3 a3 l3 k3).heap.size := by
  rw [fill4_size, fill4_size, fill4_size, fill4_size]
  exact h

theorem wpAny_inv {P : Program} {md : Region.Mode} {ops : Array Oper} {Q : Exit → Act → World → Prop} (I : Nat → Array Bool → Act → World → Prop)
    (hs : ∀ n l a w, I n l a w → wpAny P md ops Q n l a w ∨ ∃ m, n = m + 1 ∧ Region.ready md ops l ≠ [] ∧ ∀ i ∈ Region.ready md ops l, wpOp P ops Q i (I m (l.setIfInBounds i true)) a w) :
    ∀ n l a w, I n l a w → wpAny P md ops Q n l a w := by
  intro n
  induction n with
  | zero =>
    intro l a w h
    rcases hs 0 l a w h with h | ⟨m, hm, _⟩
    · exact h
    · omega
  | succ n ih =>
    intro l a w h
    rcases hs _ l a w h with h | ⟨m, hm, hne, hr⟩
    · exact h
    · obtain rfl : n = m := by omega
      exact ⟨fun h0 => absurd h0 hne, fun i hi => wpOp_mono (fun a' w' h' => ih _ a' w' h') (hr i hi)⟩

/-- The frame a0 with some temporaries written over. -/
def ov (a0 : Act) (σ : Nat → Option Value) : Act := { a0 with tmps := a0.tmps.mapIdx fun k v => (σ k).getD v }
def upd (σ : Nat → Option Value) (d : Nat) (v : Value) : Nat → Option Value := fun k => if k = d then some v else σ k

theorem ov_put (a0 : Act) (σ : Nat → Option Value) (d : Nat) (v : Value) : (ov a0 σ).put (some d) v = ov a0 (upd σ d v) := by
  unfold ov Act.put upd
  simp only [Act.mk.injEq, and_true]
  apply Array.ext_getElem?
  intro k
  rw [Array.getElem?_setIfInBounds, Array.getElem?_mapIdx, Array.getElem?_mapIdx]
  by_cases h : d = k
  · subst h
    by_cases hk : d < a0.tmps.size
    · simp [hk]
    · simp [hk]
  · simp [h, Ne.symm h]

theorem ov_new {a0 : Act} {σ : Nat → Option Value} {k : Nat} {v : Value} (h : σ k = some v) (hk : k < a0.tmps.size) : (ov a0 σ).eval (.tmp k) = v := by
  simp [ov, Act.eval, h, hk]

theorem ov_old {a0 : Act} {σ : Nat → Option Value} {k : Nat} (h : σ k = none) : (ov a0 σ).eval (.tmp k) = a0.eval (.tmp k) := by
  simp only [ov, Act.eval]
  by_cases hk : k < a0.tmps.size
  · simp [h, hk]
  · simp [hk]

theorem step_alloc {ops : Array Oper} {Q : Exit → Act → World → Prop} {i d : Nat} {ty : TypeId} {pos : String} {after : Array Edge} {K : Act → World → Prop} {a : Act} {w : World}
    (ho : ops[i]? = some { dst := some d, op := .alloc 29, type := ty, pos := pos, after := after, guard := none })
    (h : K (a.put (some d) (.pointer (some ⟨w.heap.size, 0, none⟩))) (w.alloc (.cells #[.int .i64 0, .int .i64 0, .string ByteArray.empty, .slice none 0 0] 29))) :
    wpOp Tryz.prog ops Q i K a w := by
  refine wpOp_step ho fun K' hK => ?_
  have H := hide (hK _ _ h)
  clear h hK ho
  go_simp
  exact unhide H

theorem step_move {ops : Array Oper} {Q : Exit → Act → World → Prop} {i d t : Nat} {ty : TypeId} {pos : String} {after : Array Edge} {K : Act → World → Prop} {a : Act} {w : World}
    (ho : ops[i]? = some { dst := some d, op := .move (.tmp t), type := ty, pos := pos, after := after, guard := none })
    (h : K (a.put (some d) (a.eval (.tmp t))) w) :
    wpOp Tryz.prog ops Q i K a w := by
  refine wpOp_step ho fun K' hK => ?_
  exact hK _ _ h

theorem callFunc_enter {P : Program} {f : Nat} {fn : Func} {args : Array Value} {w : World} (hf : P.funcs[f]? = some fn) (hn : (fn.name == "runtime.NumGoroutine") = false) (hb : fn.body.isNone = false) :
    (callFunc f args).run P w = .ok (.enter f args) w := by
  simp [callFunc, go_sem, hf]
  rw [if_neg (by simpa using hn), if_neg (by intro h; rw [h] at hb; cases hb)]

theorem step_call {P : Program} {ops : Array Oper} {Q : Exit → Act → World → Prop} {i d f : Nat} {fn : Func} {xs : Array Operand} {ats : Array TypeId} {ty : TypeId} {pos : String} {after : Array Edge} {K : Act → World → Prop} {a : Act} {w : World}
    (ho : ops[i]? = some { dst := some d, op := .call { callee := .value (.func f), args := xs, argTypes := ats }, type := ty, pos := pos, after := after, guard := none })
    (hf : P.funcs[f]? = some fn) (hn : (fn.name == "runtime.NumGoroutine") = false) (hb : fn.body.isNone = false)
    (h : Calls P f (xs.map a.eval) w fun e w' => ∃ v, e = .returned v ∧ K (a.put (some d) v) w') :
    wpOp P ops Q i K a w := by
  refine wpOp_step ho fun K' hK => ?_
  rw [if_pos (by rfl)]
  unfold Oper.wp
  rw [execOp_call_go, callFunc_enter hf hn hb]
  have he : (#[] ++ xs.map a.eval ++ #[] : Array Value) = xs.map a.eval := by simp
  rw [he]
  refine Calls.mono h ?_
  rintro e w' ⟨v, rfl, hv⟩
  exact hK _ _ hv

theorem step_load {ops : Array Oper} {Q : Exit → Act → World → Prop} {i d t : Nat} {ty : TypeId} {pos : String} {after : Array Edge} {K : Act → World → Prop} {a : Act} {w : World} {g : Nat} {op n : Int} {s : ByteArray} {ad : Option Addr} {len cap : Nat}
    (ho : ops[i]? = some { dst := some d, op := .load 24 (.tmp t), type := ty, pos := pos, after := after, guard := none })
    (hx : a.eval (.tmp t) = .pointer (some ⟨g, 0, none⟩)) (hr : RowT 24 w g op n s ad len cap)
    (h : K (a.put (some d) (.agg #[.int .i64 op, .int .i64 n, .string s, .slice ad len cap])) w) :
    wpOp Tryz.prog ops Q i K a w := by
  refine wpOp_step ho fun K' hK => ?_
  have H := hide (hK _ _ h)
  clear h hK ho
  obtain ⟨c0, c1, c2, c3⟩ := hr.facts
  have hx' : a.tmps[t]?.getD undef = .pointer (some ⟨g, 0, none⟩) := by simpa [Act.eval] using hx
  clear hx hr
  go_simp
  exact unhide H


theorem step_extract {ops : Array Oper} {Q : Exit → Act → World → Prop} {i d t k : Nat} {ty : TypeId} {pos : String} {after : Array Edge} {K : Act → World → Prop} {a : Act} {w : World} {xs : Array Value} {v : Value}
    (ho : ops[i]? = some { dst := some d, op := .extract (.tmp t) k, type := ty, pos := pos, after := after, guard := none })
    (hx : a.eval (.tmp t) = .tuple xs) (hk : xs[k]? = some v)
    (h : K (a.put (some d) v) w) :
    wpOp Tryz.prog ops Q i K a w := by
  refine wpOp_step ho fun K' hK => ?_
  have H := hide (hK _ _ h)
  clear h hK ho
  have hx' : a.tmps[t]?.getD undef = .tuple xs := by simpa [Act.eval] using hx
  clear hx
  go_simp
  exact unhide H
theorem step_assign {ops : Array Oper} {Q : Exit → Act → World → Prop} {i d t : Nat} {ty : TypeId} {pos : String} {after : Array Edge} {K : Act → World → Prop} {a : Act} {w : World}
    (ho : ops[i]? = some { dst := some d, op := .assign (.tmp t), type := ty, pos := pos, after := after, guard := none })
    (h : K (a.put (some d) (a.eval (.tmp t))) w) :
    wpOp Tryz.prog ops Q i K a w := by
  refine wpOp_step ho fun K' hK => ?_
  exact hK _ _ h
abbrev ptr (p : Nat) : Value := .pointer (some ⟨p, 0, none⟩)
theorem step_store {ops : Array Oper} {Q : Exit → Act → World → Prop} {i t u : Nat} {ty : TypeId} {pos : String} {after : Array Edge} {K : Act → World → Prop} {a : Act} {w : World} {g : Nat} {op n : Int} {s : ByteArray} {ad : Option Addr} {len cap : Nat}
    (ho : ops[i]? = some { dst := none, op := .store 29 (.tmp t) (.tmp u), type := ty, pos := pos, after := after, guard := none })
    (hx : a.eval (.tmp t) = ptr g) (hy : a.eval (.tmp u) = .agg #[.int .i64 op, .int .i64 n, .string s, .slice ad len cap]) (hz : ZBox w g)
    (h : K a (fill4 w g op n s ad len cap)) :
    wpOp Tryz.prog ops Q i K a w := by
  refine wpOp_step ho fun K' hK => ?_
  have H := hide (hK _ _ h)
  clear h hK ho
  obtain ⟨c0, c1, c2, c3, f0, f1, f2, f3⟩ := hz.facts
  have hx' : a.tmps[t]?.getD undef = .pointer (some ⟨g, 0, none⟩) := by simpa [Act.eval] using hx
  have hy' : a.tmps[u]?.getD undef = .agg #[.int .i64 op, .int .i64 n, .string s, .slice ad len cap] := by simpa [Act.eval] using hy
  clear hx hy hz
  go_simp
  exact unhide H
theorem upd_eq (σ : Nat → Option Value) (d : Nat) (v : Value) : upd σ d v d = some v := by simp [upd]
theorem upd_ne (σ : Nat → Option Value) {d k : Nat} (v : Value) (h : k ≠ d) : upd σ d v k = σ k := by simp [upd, h]
def bUpd (b : Nat → Bool) (i : Nat) : Nat → Bool := fun k => if k = i then true else b k
theorem bUpd_ne (b : Nat → Bool) {i k : Nat} (h : k ≠ i) : bUpd b i k = b k := by simp [bUpd, h]
theorem bUpd_eq (b : Nat → Bool) (i : Nat) : bUpd b i i = true := by simp [bUpd]
theorem bUpd_of {b : Nat → Bool} {i k : Nat} (h : b k = true) : bUpd b i k = true := by
  unfold bUpd
  split
  · rfl
  · exact h
theorem ov_none (a0 : Act) : ov a0 (fun _ => none) = a0 := by
  cases a0
  simp only [ov, Option.getD_none, Act.mk.injEq, and_true]
  apply Array.ext_getElem?
  intro k
  simp
section
variable {ops : Array Oper} {Q : Exit → Act → World → Prop} {S : World → Prop} {md : Region.Mode}
theorem take_load {i d t : Nat} {ty : TypeId} {pos : String} {after : Array Edge} {fuel : Nat} {listed : Array Bool} {a : Act} {w : World} {g : Nat} {op n : Int} {s : ByteArray} {ad : Option Addr} {len cap : Nat}
    (ho : ops[i]? = some { dst := some d, op := .load 29 (.tmp t), type := ty, pos := pos, after := after, guard := none })
    (hx : a.eval (.tmp t) = ptr g) (hr : ∀ y, S y → RowT 29 y g op n s ad len cap)
    (hs : Region.noSelect ops = true) (hf : Region.free md ops listed i = true) (hy : (Region.ready md ops listed).contains i = true) (hQ : ∀ c a w v, Q (.panic c) (a.put (some d) v) w → Q (.panic c) a w) (hS : S w)
    (h : wpAnyH Tryz.prog md ops Q S fuel (listed.setIfInBounds i true) (a.put (some d) (.agg #[.int .i64 op, .int .i64 n, .string s, .slice ad len cap])) w) : wpAnyH Tryz.prog md ops Q S (fuel + 1) listed a w := by
  refine wpAnyH_take (v := .agg #[.int .i64 op, .int .i64 n, .string s, .slice ad len cap]) ho hs hf hy (fun c a w hq => hQ c a w _ hq) (Or.inl ⟨by rfl, ?_⟩) hS h
  intro y hSy
  obtain ⟨c0, c1, c2, c3⟩ := (hr y hSy).facts
  have hx' : a.tmps[t]?.getD undef = .pointer (some ⟨g, 0, none⟩) := by simpa [Act.eval] using hx
  clear hx hr ho hf hy hQ hS h hSy
  go_simp
  try with_reducible rfl
theorem take_move {i d t : Nat} {ty : TypeId} {pos : String} {after : Array Edge} {fuel : Nat} {listed : Array Bool} {a : Act} {w : World} {v : Value}
    (ho : ops[i]? = some { dst := some d, op := .move (.tmp t), type := ty, pos := pos, after := after, guard := none })
    (hx : a.eval (.tmp t) = v)
    (hs : Region.noSelect ops = true) (hf : Region.free md ops listed i = true) (hy : (Region.ready md ops listed).contains i = true) (hQ : ∀ c a w v, Q (.panic c) (a.put (some d) v) w → Q (.panic c) a w) (hS : S w)
    (h : wpAnyH Tryz.prog md ops Q S fuel (listed.setIfInBounds i true) (a.put (some d) v) w) : wpAnyH Tryz.prog md ops Q S (fuel + 1) listed a w := by
  refine wpAnyH_take (v := v) ho hs hf hy (fun c a w hq => hQ c a w _ hq) (Or.inl ⟨by rfl, ?_⟩) hS h
  intro y hSy
  have hx' : a.tmps[t]?.getD undef = v := by simpa [Act.eval] using hx
  clear hx ho hf hy hQ hS h hSy
  go_simp
  try with_reducible rfl
theorem take_field3 {i d t : Nat} {ty : TypeId} {pos : String} {after : Array Edge} {fuel : Nat} {listed : Array Bool} {a : Act} {w : World} {g : Nat}
    (ho : ops[i]? = some { dst := some d, op := .fieldAddr 29 (.tmp t) 3, type := ty, pos := pos, after := after, guard := none })
    (hx : a.eval (.tmp t) = ptr g)
    (hs : Region.noSelect ops = true) (hf : Region.free md ops listed i = true) (hy : (Region.ready md ops listed).contains i = true) (hQ : ∀ c a w v, Q (.panic c) (a.put (some d) v) w → Q (.panic c) a w) (hS : S w)
    (h : wpAnyH Tryz.prog md ops Q S fuel (listed.setIfInBounds i true) (a.put (some d) (.pointer (some ⟨g, 3, none⟩))) w) : wpAnyH Tryz.prog md ops Q S (fuel + 1) listed a w := by
  refine wpAnyH_take (v := .pointer (some ⟨g, 3, none⟩)) ho hs hf hy (fun c a w hq => hQ c a w _ hq) (Or.inl ⟨by rfl, ?_⟩) hS h
  intro y hSy
  have hx' : a.tmps[t]?.getD undef = .pointer (some ⟨g, 0, none⟩) := by simpa [Act.eval] using hx
  clear hx ho hf hy hQ hS h hSy
  go_simp
  try with_reducible rfl
theorem take_load26 {i d t : Nat} {ty : TypeId} {pos : String} {after : Array Edge} {fuel : Nat} {listed : Array Bool} {a : Act} {w : World} {g o : Nat} {ad : Option Addr} {len cap : Nat}
    (ho : ops[i]? = some { dst := some d, op := .load 27 (.tmp t), type := ty, pos := pos, after := after, guard := none })
    (hx : a.eval (.tmp t) = .pointer (some ⟨g, o, none⟩)) (hr : ∀ y, S y → y.cell? ⟨g, o, none⟩ = some (.slice ad len cap))
    (hs : Region.noSelect ops = true) (hf : Region.free md ops listed i = true) (hy : (Region.ready md ops listed).contains i = true) (hQ : ∀ c a w v, Q (.panic c) (a.put (some d) v) w → Q (.panic c) a w) (hS : S w)
    (h : wpAnyH Tryz.prog md ops Q S fuel (listed.setIfInBounds i true) (a.put (some d) (.slice ad len cap)) w) : wpAnyH Tryz.prog md ops Q S (fuel + 1) listed a w := by
  refine wpAnyH_take (v := .slice ad len cap) ho hs hf hy (fun c a w hq => hQ c a w _ hq) (Or.inl ⟨by rfl, ?_⟩) hS h
  intro y hSy
  have hc := hr y hSy
  have hx' : a.tmps[t]?.getD undef = .pointer (some ⟨g, o, none⟩) := by simpa [Act.eval] using hx
  clear hx hr ho hf hy hQ hS h hSy
  go_simp
  try with_reducible rfl
theorem take_index0 {i d t : Nat} {ty : TypeId} {pos : String} {after : Array Edge} {fuel : Nat} {listed : Array Bool} {a : Act} {w : World} {g o cap : Nat}
    (ho : ops[i]? = some { dst := some d, op := .indexAddr 27 (.tmp t) (.const (.int .i64 0)), type := ty, pos := pos, after := after, guard := none })
    (hx : a.eval (.tmp t) = .slice (some ⟨g, o, none⟩) 2 cap)
    (hs : Region.noSelect ops = true) (hf : Region.free md ops listed i = true) (hy : (Region.ready md ops listed).contains i = true) (hQ : ∀ c a w v, Q (.panic c) (a.put (some d) v) w → Q (.panic c) a w) (hS : S w)
    (h : wpAnyH Tryz.prog md ops Q S fuel (listed.setIfInBounds i true) (a.put (some d) (.pointer (some ⟨g, o, none⟩))) w) : wpAnyH Tryz.prog md ops Q S (fuel + 1) listed a w := by
  refine wpAnyH_take (v := .pointer (some ⟨g, o, none⟩)) ho hs hf hy (fun c a w hq => hQ c a w _ hq) (Or.inl ⟨by rfl, ?_⟩) hS h
  intro y hSy
  have hx' : a.tmps[t]?.getD undef = .slice (some ⟨g, o, none⟩) 2 cap := by simpa [Act.eval] using hx
  clear hx ho hf hy hQ hS h hSy
  go_simp
  try with_reducible rfl
theorem take_index1 {i d t : Nat} {ty : TypeId} {pos : String} {after : Array Edge} {fuel : Nat} {listed : Array Bool} {a : Act} {w : World} {g o cap : Nat}
    (ho : ops[i]? = some { dst := some d, op := .indexAddr 27 (.tmp t) (.const (.int .i64 1)), type := ty, pos := pos, after := after, guard := none })
    (hx : a.eval (.tmp t) = .slice (some ⟨g, o, none⟩) 2 cap)
    (hs : Region.noSelect ops = true) (hf : Region.free md ops listed i = true) (hy : (Region.ready md ops listed).contains i = true) (hQ : ∀ c a w v, Q (.panic c) (a.put (some d) v) w → Q (.panic c) a w) (hS : S w)
    (h : wpAnyH Tryz.prog md ops Q S fuel (listed.setIfInBounds i true) (a.put (some d) (.pointer (some ⟨g, o + 4, none⟩))) w) : wpAnyH Tryz.prog md ops Q S (fuel + 1) listed a w := by
  refine wpAnyH_take (v := .pointer (some ⟨g, o + 4, none⟩)) ho hs hf hy (fun c a w hq => hQ c a w _ hq) (Or.inl ⟨by rfl, ?_⟩) hS h
  intro y hSy
  have hx' : a.tmps[t]?.getD undef = .slice (some ⟨g, o, none⟩) 2 cap := by simpa [Act.eval] using hx
  clear hx ho hf hy hQ hS h hSy
  go_simp
  try with_reducible rfl
theorem take_cells {i d t : Nat} {ty : TypeId} {pos : String} {after : Array Edge} {fuel : Nat} {listed : Array Bool} {a : Act} {w : World} {g o : Nat} {op n : Int} {s : ByteArray} {ad : Option Addr} {len cap : Nat}
    (ho : ops[i]? = some { dst := some d, op := .load 29 (.tmp t), type := ty, pos := pos, after := after, guard := none })
    (hx : a.eval (.tmp t) = .pointer (some ⟨g, o, none⟩)) (h0 : ∀ y, S y → y.cell? ⟨g, o, none⟩ = some (.int .i64 op)) (h1 : ∀ y, S y → y.cell? ⟨g, o + 1, none⟩ = some (.int .i64 n)) (h2 : ∀ y, S y → y.cell? ⟨g, o + 2, none⟩ = some (.string s)) (h3 : ∀ y, S y → y.cell? ⟨g, o + 3, none⟩ = some (.slice ad len cap))
    (hs : Region.noSelect ops = true) (hf : Region.free md ops listed i = true) (hy : (Region.ready md ops listed).contains i = true) (hQ : ∀ c a w v, Q (.panic c) (a.put (some d) v) w → Q (.panic c) a w) (hS : S w)
    (h : wpAnyH Tryz.prog md ops Q S fuel (listed.setIfInBounds i true) (a.put (some d) (.agg #[.int .i64 op, .int .i64 n, .string s, .slice ad len cap])) w) : wpAnyH Tryz.prog md ops Q S (fuel + 1) listed a w := by
  refine wpAnyH_take (v := .agg #[.int .i64 op, .int .i64 n, .string s, .slice ad len cap]) ho hs hf hy (fun c a w hq => hQ c a w _ hq) (Or.inl ⟨by rfl, ?_⟩) hS h
  intro y hSy
  have c0 := h0 y hSy
  have c1 := h1 y hSy
  have c2 := h2 y hSy
  have c3 := h3 y hSy
  have hx' : a.tmps[t]?.getD undef = .pointer (some ⟨g, o, none⟩) := by simpa [Act.eval] using hx
  clear hx h0 h1 h2 h3 ho hf hy hQ hS h hSy
  go_simp
  try with_reducible rfl
theorem all_store {i t u : Nat} {ty : TypeId} {pos : String} {after : Array Edge} {fuel : Nat} {listed : Array Bool} {a : Act} {w : World} {g : Nat} {op n : Int} {s : ByteArray} {ad : Option Addr} {len cap : Nat}
    (hr : Region.ready md ops listed = [i])
    (ho : ops[i]? = some { dst := none, op := .store 29 (.tmp t) (.tmp u), type := ty, pos := pos, after := after, guard := none })
    (hx : a.eval (.tmp t) = ptr g) (hy : a.eval (.tmp u) = .agg #[.int .i64 op, .int .i64 n, .string s, .slice ad len cap]) (hz : RowT 29 w g 0 0 ByteArray.empty none 0 0)
    (hS : S (fill4 w g op n s ad len cap))
    (h : S (fill4 w g op n s ad len cap) → wpAnyH Tryz.prog md ops Q S fuel (listed.setIfInBounds i true) a (fill4 w g op n s ad len cap)) : wpAnyH Tryz.prog md ops Q S (fuel + 1) listed a w :=
  wpAnyH_all hr (by simp) fun j hj => by
    obtain rfl : j = i := by simpa using hj
    exact step_store ho hx hy hz ⟨hS, h hS⟩
theorem all_assign {i d : Nat} {x : Operand} {ty : TypeId} {pos : String} {after : Array Edge} {fuel : Nat} {listed : Array Bool} {a : Act} {w : World} {v : Value}
    (hr : Region.ready md ops listed = [i])
    (ho : ops[i]? = some { dst := some d, op := .assign x, type := ty, pos := pos, after := after, guard := none })
    (hx : a.eval x = v) (hS : S w)
    (h : wpAnyH Tryz.prog md ops Q S fuel (listed.setIfInBounds i true) (a.put (some d) v) w) : wpAnyH Tryz.prog md ops Q S (fuel + 1) listed a w :=
  wpAnyH_all hr (by simp) fun j hj => by
    obtain rfl : j = i := by simpa using hj
    refine wpOp_step ho fun K' hK => ?_
    exact hK _ _ (hx ▸ ⟨hS, h⟩)
end

end Go.Proofs.YtmklgikbajhcpaaGreatDoor
