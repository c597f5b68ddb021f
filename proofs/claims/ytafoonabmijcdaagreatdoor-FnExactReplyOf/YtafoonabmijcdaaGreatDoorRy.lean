/- A region whose order is drawn, by states: an invariant over what has come up, the frame and the world; one operation each. The walk of impl.ReplyOf: the four terms, each in memory of its own, or zeros; nothing that was there is written. What is read of a reply, by the model's own questions; the box of a term whose kids are right, made early or late. The walk of spec.ReplyOf: the four terms that a reply tells, or zeros; nothing that was there is written. The walk of spec.ReplyOf where it reads a reply; and both ways, told by what is read. -/
import Derived.Test.YtafoonabmijcdaaGreatDoorRg
import Derived.Test.YtafoonabmijcdaaGreatDoorNw
import Derived.BigCall
import Derived.Deep.RegionHeld3
import Derived.Test.YtafoonabmijcdaaGreatDoorG4
import Derived.Test.YtafoonabmijcdaaGreatDoorBq
import Derived.Test.YtafoonabmijcdaaGreatDoorDq
import Derived.Deep.RegionWith
import Derived.Deep.DeepCutAuto
import Derived.Test.YtafoonabmijcdaaGreatDoorCz
namespace Go.Proofs.YtafoonabmijcdaaGreatDoor
open Go.RowKit Go.Deep

theorem RowT.load {w : World} {b : Nat} {op n : Int} {s : ByteArray} {a : Option Addr} {len cap : Nat} (h : RowT 28 w b op n s a len cap) : (loadVar 28 ⟨b, 0, none⟩).run Tryz.prog w = .ok (.agg #[.int .i64 op, .int .i64 n, .string s, .slice a len cap]) w := by
  obtain ⟨c0, c1, c2, c3⟩ := h.facts
  have := run_loadVar_mid (P := Tryz.prog) w b 0 28 [.int .i64 op, .int .i64 n, .string s, .slice a len cap] _ (by
    intro j v hj
    match j, hj with
    | 0, hj => simp only [List.getElem?_cons_zero, Option.some.injEq] at hj; subst hj; exact c0
    | 1, hj => simp only [List.getElem?_cons_succ, List.getElem?_cons_zero, Option.some.injEq] at hj; subst hj; exact c1
    | 2, hj => simp only [List.getElem?_cons_succ, List.getElem?_cons_zero, Option.some.injEq] at hj; subst hj; exact c2
    | 3, hj => simp only [List.getElem?_cons_succ, List.getElem?_cons_zero, Option.some.injEq] at hj; subst hj; exact c3
    | j + 4, hj => simp at hj) Tryz.underlying28 rfl (by kernel_rfl)
  simpa using this
theorem results_cells4 {P : Program} {fn : Func} {c0 c1 c2 c3 u : Tmp} {t0 t1 t2 t3 : TypeId} (h : fn.results = #[.cell c0 t0, .cell c1 t1, .cell c2 t2, .cell c3 t3, .tmp u]) {tmps : Array Value} {w : World} {v0 v1 v2 v3 : Value} {b0 b1 b2 b3 : Addr} (p0 : tmps.getD c0 undef = .pointer (some b0)) (p1 : tmps.getD c1 undef = .pointer (some b1)) (p2 : tmps.getD c2 undef = .pointer (some b2)) (p3 : tmps.getD c3 undef = .pointer (some b3))
    (l0 : (loadVar t0 b0).run P w = .ok v0 w) (l1 : (loadVar t1 b1).run P w = .ok v1 w) (l2 : (loadVar t2 b2).run P w = .ok v2 w) (l3 : (loadVar t3 b3).run P w = .ok v3 w) :
    (results fn tmps).run P w = .ok (.tuple #[v0, v1, v2, v3, tmps.getD u undef]) w := by
  have p0' : tmps[c0]?.getD undef = .pointer (some b0) := by simpa using p0
  have p1' : tmps[c1]?.getD undef = .pointer (some b1) := by simpa using p1
  have p2' : tmps[c2]?.getD undef = .pointer (some b2) := by simpa using p2
  have p3' : tmps[c3]?.getD undef = .pointer (some b3) := by simpa using p3
  simp [results, h, p0', p1', p2', p3', l0, l1, l2, l3, asAddr]

/-- Four cells of a box are written over. -/
abbrev fill4 (w : World) (g : Nat) (op n : Int) (s : ByteArray) (a : Option Addr) (len cap : Nat) : World :=
  (((w.setCell ⟨g, 0, none⟩ (.int .i64 op)).setCell ⟨g, 1, none⟩ (.int .i64 n)).setCell ⟨g, 2, none⟩ (.string s)).setCell ⟨g, 3, none⟩ (.slice a len cap)
theorem RowT.other {w : World} {g b : Nat} {op n : Int} {s : ByteArray} {a : Option Addr} {len cap : Nat} {op1 n1 : Int} {s1 : ByteArray} {a1 : Option Addr} {len1 cap1 : Nat} (h : RowT 28 w b op n s a len cap) (hne : b ≠ g) : RowT 28 (fill4 w g op1 n1 s1 a1 len1 cap1) b op n s a len cap :=
  (set4_heap w g _ _ _ _ b hne).trans h
/-- Four boxes side by side are filled. -/
theorem fill_four {w : World} {g : Nat} {op0 n0 op1 n1 op2 n2 op3 n3 : Int} {s0 s1 s2 s3 : ByteArray} {a0 a1 a2 a3 : Option Addr} {l0 k0 l1 k1 l2 k2 l3 k3 : Nat} (h0 : RowT 28 w g 0 0 ⟨#[]⟩ none 0 0) (h1 : RowT 28 w (g + 1) 0 0 ⟨#[]⟩ none 0 0) (h2 : RowT 28 w (g + 1 + 1) 0 0 ⟨#[]⟩ none 0 0) (h3 : RowT 28 w (g + 1 + 1 + 1) 0 0 ⟨#[]⟩ none 0 0) :
    RowT 28 (fill4 (fill4 (fill4 (fill4 w g op0 n0 s0 a0 l0 k0) (g + 1) op1 n1 s1 a1 l1 k1) (g + 1 + 1) op2 n2 s2 a2 l2 k2) (g + 1 + 1 + 1) op3 n3 s3 a3 l3 k3) g op0 n0 s0 a0 l0 k0 ∧
    RowT 28 (fill4 (fill4 (fill4 (fill4 w g op0 n0 s0 a0 l0 k0) (g + 1) op1 n1 s1 a1 l1 k1) (g + 1 + 1) op2 n2 s2 a2 l2 k2) (g + 1 + 1 + 1) op3 n3 s3 a3 l3 k3) (g + 1) op1 n1 s1 a1 l1 k1 ∧
    RowT 28 (fill4 (fill4 (fill4 (fill4 w g op0 n0 s0 a0 l0 k0) (g + 1) op1 n1 s1 a1 l1 k1) (g + 1 + 1) op2 n2 s2 a2 l2 k2) (g + 1 + 1 + 1) op3 n3 s3 a3 l3 k3) (g + 1 + 1) op2 n2 s2 a2 l2 k2 ∧
    RowT 28 (fill4 (fill4 (fill4 (fill4 w g op0 n0 s0 a0 l0 k0) (g + 1) op1 n1 s1 a1 l1 k1) (g + 1 + 1) op2 n2 s2 a2 l2 k2) (g + 1 + 1 + 1) op3 n3 s3 a3 l3 k3) (g + 1 + 1 + 1) op3 n3 s3 a3 l3 k3 := by
  have r0 := RowT.fill h0 op0 n0 s0 a0 l0 k0
  have r1 := RowT.fill (RowT.other (op1 := op0) (n1 := n0) (s1 := s0) (a1 := a0) (len1 := l0) (cap1 := k0) h1 (g := g) (by omega)) op1 n1 s1 a1 l1 k1
  have r2 := RowT.fill (RowT.other (op1 := op1) (n1 := n1) (s1 := s1) (a1 := a1) (len1 := l1) (cap1 := k1) (RowT.other (op1 := op0) (n1 := n0) (s1 := s0) (a1 := a0) (len1 := l0) (cap1 := k0) h2 (g := g) (by omega)) (g := g + 1) (by omega)) op2 n2 s2 a2 l2 k2
  have r3 := RowT.fill (RowT.other (op1 := op2) (n1 := n2) (s1 := s2) (a1 := a2) (len1 := l2) (cap1 := k2) (RowT.other (op1 := op1) (n1 := n1) (s1 := s1) (a1 := a1) (len1 := l1) (cap1 := k1) (RowT.other (op1 := op0) (n1 := n0) (s1 := s0) (a1 := a0) (len1 := l0) (cap1 := k0) h3 (g := g) (by omega)) (g := g + 1) (by omega)) (g := g + 1 + 1) (by omega)) op3 n3 s3 a3 l3 k3
  exact ⟨RowT.other (RowT.other (RowT.other r0 (by omega)) (by omega)) (by omega), RowT.other (RowT.other r1 (by omega)) (by omega), RowT.other r2 (by omega), r3⟩
theorem fill_four_heap {w : World} {g b : Nat} {op0 n0 op1 n1 op2 n2 op3 n3 : Int} {s0 s1 s2 s3 : ByteArray} {a0 a1 a2 a3 : Option Addr} {l0 k0 l1 k1 l2 k2 l3 k3 : Nat} (h : g + 1 + 1 + 1 < b) :
    (fill4 (fill4 (fill4 (fill4 w g op0 n0 s0 a0 l0 k0) (g + 1) op1 n1 s1 a1 l1 k1) (g + 1 + 1) op2 n2 s2 a2 l2 k2) (g + 1 + 1 + 1) op3 n3 s3 a3 l3 k3).heap[b]? = w.heap[b]? := by
  rw [fill4, set4_heap _ _ _ _ _ _ b (by omega), fill4, set4_heap _ _ _ _ _ _ b (by omega), fill4, set4_heap _ _ _ _ _ _ b (by omega), fill4, set4_heap _ _ _ _ _ _ b (by omega)]
theorem fill_four_below {B : Nat} {v w : World} {g : Nat} {op0 n0 op1 n1 op2 n2 op3 n3 : Int} {s0 s1 s2 s3 : ByteArray} {a0 a1 a2 a3 : Option Addr} {l0 k0 l1 k1 l2 k2 l3 k3 : Nat} (h : Below B v w) (hg : B ≤ g) :
    Below B v (fill4 (fill4 (fill4 (fill4 w g op0 n0 s0 a0 l0 k0) (g + 1) op1 n1 s1 a1 l1 k1) (g + 1 + 1) op2 n2 s2 a2 l2 k2) (g + 1 + 1 + 1) op3 n3 s3 a3 l3 k3) :=
  set4_below (set4_below (set4_below (set4_below h hg) (by omega)) (by omega)) (by omega)

theorem far4 {n a b b0 b1 b2 b3 : Nat} (h0 : n + 6 ≤ a) (h1 : a ≤ b) (h2 : b ≤ b0) (h3 : b0 < b1) (h4 : b1 < b2) (h5 : b2 < b3) : n + 1 + 1 + 1 + 1 + 1 < b0 ∧ n + 1 + 1 + 1 + 1 + 1 < b1 ∧ n + 1 + 1 + 1 + 1 + 1 < b2 ∧ n + 1 + 1 + 1 + 1 + 1 < b3 := by omega
theorem ne_far {n b : Nat} (h : n + 1 + 1 + 1 + 1 + 1 < b) : b ≠ n + 1 + 1 ∧ b ≠ n + 1 + 1 + 1 ∧ b ≠ n + 1 + 1 + 1 + 1 ∧ b ≠ n + 1 + 1 + 1 + 1 + 1 := by omega
theorem zne (n : Nat) : (n + 1 ≠ n ∧ n + 1 + 1 ≠ n ∧ n + 1 + 1 + 1 ≠ n) ∧ (n + 1 + 1 ≠ n + 1 ∧ n + 1 + 1 + 1 ≠ n + 1) ∧ n + 1 + 1 + 1 ≠ n + 1 + 1 := by omega
theorem le_two (n : Nat) : n ≤ n + 1 + 1 := by omega
theorem far_lt {n a b y : Nat} (h0 : n + 6 ≤ a) (h1 : a ≤ b) (h2 : b ≤ y) : n + 1 + 1 + 1 + 1 + 1 < y := by omega
theorem far_lt' {n b y : Nat} (h0 : n + 1 + 1 + 1 + 1 + 1 < b) (h2 : b < y) : n + 1 + 1 + 1 + 1 + 1 < y := by omega
theorem fill4_size {w : World} {g : Nat} {op n : Int} {s : ByteArray} {a : Option Addr} {len cap : Nat} : (fill4 w g op n s a len cap).heap.size = w.heap.size := by
  simp [fill4, World.setCell]
theorem le_fill4 {w : World} {m g : Nat} {op0 n0 op1 n1 op2 n2 op3 n3 : Int} {s0 s1 s2 s3 : ByteArray} {a0 a1 a2 a3 : Option Addr} {l0 k0 l1 k1 l2 k2 l3 k3 : Nat} (h : m ≤ w.heap.size) :
    m ≤ (fill4 (fill4 (fill4 (fill4 w g op0 n0 s0 a0 l0 k0) (g + 1) op1 n1 s1 a1 l1 k1) (g + 1 + 1) op2 n2 s2 a2 l2 k2) (g + 1 + 1 + 1) op3 n3 s3 a3 l3 k3).heap.size := by
  rw [fill4_size, fill4_size, fill4_size, fill4_size]
  exact h

theorem wpAny_inv {P : Program} {md : Region.Mode} {ops : Array Oper} {Q : Exit → Act → World → Prop} (I : Nat → Array Bool → Act → World → Prop)
    (hs : ∀ n l a w, I n l a w → wpAny P md ops Q n l a w ∨ ∃ m, n = m + 1 ∧ Region.ready md ops l ≠ [] ∧ ∀ i ∈ Region.ready md ops l, wpOp P ops Q i (I m (l.setIfInBounds i true)) a w) :
    ∀ n l a w, I n l a w → wpAny P md ops Q n l a w := by
  intro n
  induction n with
  | zero =>
    intro l a w h
    rcases hs 0 l a w h with h | ⟨m, hm, _⟩
    · exact h
    · omega
  | succ n ih =>
    intro l a w h
    rcases hs _ l a w h with h | ⟨m, hm, hne, hr⟩
    · exact h
    · obtain rfl : n = m := by omega
      exact ⟨fun h0 => absurd h0 hne, fun i hi => wpOp_mono (fun a' w' h' => ih _ a' w' h') (hr i hi)⟩

/-- The frame a0 with some temporaries written over. -/
def ov (a0 : Act) (σ : Nat → Option Value) : Act := { a0 with tmps := a0.tmps.mapIdx fun k v => (σ k).getD v }
def upd (σ : Nat → Option Value) (d : Nat) (v : Value) : Nat → Option Value := fun k => if k = d then some v else σ k

theorem ov_put (a0 : Act) (σ : Nat → Option Value) (d : Nat) (v : Value) : (ov a0 σ).put (some d) v = ov a0 (upd σ d v) := by
  unfold ov Act.put upd
  simp only [Act.mk.injEq, and_true]
  apply Array.ext_getElem?
  intro k
  rw [Array.getElem?_setIfInBounds, Array.getElem?_mapIdx, Array.getElem?_mapIdx]
  by_cases h : d = k
  · subst h
    by_cases hk : d < a0.tmps.size
    · simp [hk]
    · simp [hk]
  · simp [h, Ne.symm h]

theorem ov_new {a0 : Act} {σ : Nat → Option Value} {k : Nat} {v : Value} (h : σ k = some v) (hk : k < a0.tmps.size) : (ov a0 σ).eval (.tmp k) = v := by
  simp [ov, Act.eval, h, hk]

theorem ov_old {a0 : Act} {σ : Nat → Option Value} {k : Nat} (h : σ k = none) : (ov a0 σ).eval (.tmp k) = a0.eval (.tmp k) := by
  simp only [ov, Act.eval]
  by_cases hk : k < a0.tmps.size
  · simp [h, hk]
  · simp [hk]

theorem step_alloc {ops : Array Oper} {Q : Exit → Act → World → Prop} {i d : Nat} {ty : TypeId} {pos : String} {after : Array Edge} {K : Act → World → Prop} {a : Act} {w : World}
    (ho : ops[i]? = some { dst := some d, op := .alloc 28, type := ty, pos := pos, after := after, guard := none })
    (h : K (a.put (some d) (.pointer (some ⟨w.heap.size, 0, none⟩))) (w.alloc (.cells #[.int .i64 0, .int .i64 0, .string ByteArray.empty, .slice none 0 0] 28))) :
    wpOp Tryz.prog ops Q i K a w := by
  refine wpOp_step ho fun K' hK => ?_
  have H := hide (hK _ _ h)
  clear h hK ho
  go_simp
  exact unhide H

theorem step_move {ops : Array Oper} {Q : Exit → Act → World → Prop} {i d t : Nat} {ty : TypeId} {pos : String} {after : Array Edge} {K : Act → World → Prop} {a : Act} {w : World}
    (ho : ops[i]? = some { dst := some d, op := .move (.tmp t), type := ty, pos := pos, after := after, guard := none })
    (h : K (a.put (some d) (a.eval (.tmp t))) w) :
    wpOp Tryz.prog ops Q i K a w := by
  refine wpOp_step ho fun K' hK => ?_
  exact hK _ _ h

theorem callFunc_enter {P : Program} {f : Nat} {fn : Func} {args : Array Value} {w : World} (hf : P.funcs[f]? = some fn) (hn : (fn.name == "runtime.NumGoroutine") = false) (hb : fn.body.isNone = false) :
    (callFunc f args).run P w = .ok (.enter f args) w := by
  simp [callFunc, go_sem, hf]
  rw [if_neg (by simpa using hn), if_neg (by intro h; rw [h] at hb; cases hb)]

theorem step_call {P : Program} {ops : Array Oper} {Q : Exit → Act → World → Prop} {i d f : Nat} {fn : Func} {xs : Array Operand} {ats : Array TypeId} {ty : TypeId} {pos : String} {after : Array Edge} {K : Act → World → Prop} {a : Act} {w : World}
    (ho : ops[i]? = some { dst := some d, op := .call { callee := .value (.func f), args := xs, argTypes := ats }, type := ty, pos := pos, after := after, guard := none })
    (hf : P.funcs[f]? = some fn) (hn : (fn.name == "runtime.NumGoroutine") = false) (hb : fn.body.isNone = false)
    (h : Calls P f (xs.map a.eval) w fun e w' => ∃ v, e = .returned v ∧ K (a.put (some d) v) w') :
    wpOp P ops Q i K a w := by
  refine wpOp_step ho fun K' hK => ?_
  rw [if_pos (by rfl)]
  unfold Oper.wp
  rw [execOp_call_go, callFunc_enter hf hn hb]
  have he : (#[] ++ xs.map a.eval ++ #[] : Array Value) = xs.map a.eval := by simp
  rw [he]
  refine Calls.mono h ?_
  rintro e w' ⟨v, rfl, hv⟩
  exact hK _ _ hv

theorem step_load {ops : Array Oper} {Q : Exit → Act → World → Prop} {i d t : Nat} {ty : TypeId} {pos : String} {after : Array Edge} {K : Act → World → Prop} {a : Act} {w : World} {g : Nat} {op n : Int} {s : ByteArray} {ad : Option Addr} {len cap : Nat}
    (ho : ops[i]? = some { dst := some d, op := .load 24 (.tmp t), type := ty, pos := pos, after := after, guard := none })
    (hx : a.eval (.tmp t) = .pointer (some ⟨g, 0, none⟩)) (hr : RowT 24 w g op n s ad len cap)
    (h : K (a.put (some d) (.agg #[.int .i64 op, .int .i64 n, .string s, .slice ad len cap])) w) :
    wpOp Tryz.prog ops Q i K a w := by
  refine wpOp_step ho fun K' hK => ?_
  have H := hide (hK _ _ h)
  clear h hK ho
  obtain ⟨c0, c1, c2, c3⟩ := hr.facts
  have hx' : a.tmps[t]?.getD undef = .pointer (some ⟨g, 0, none⟩) := by simpa [Act.eval] using hx
  clear hx hr
  go_simp
  exact unhide H


theorem step_extract {ops : Array Oper} {Q : Exit → Act → World → Prop} {i d t k : Nat} {ty : TypeId} {pos : String} {after : Array Edge} {K : Act → World → Prop} {a : Act} {w : World} {xs : Array Value} {v : Value}
    (ho : ops[i]? = some { dst := some d, op := .extract (.tmp t) k, type := ty, pos := pos, after := after, guard := none })
    (hx : a.eval (.tmp t) = .tuple xs) (hk : xs[k]? = some v)
    (h : K (a.put (some d) v) w) :
    wpOp Tryz.prog ops Q i K a w := by
  refine wpOp_step ho fun K' hK => ?_
  have H := hide (hK _ _ h)
  clear h hK ho
  have hx' : a.tmps[t]?.getD undef = .tuple xs := by simpa [Act.eval] using hx
  clear hx
  go_simp
  exact unhide H
theorem step_assign {ops : Array Oper} {Q : Exit → Act → World → Prop} {i d t : Nat} {ty : TypeId} {pos : String} {after : Array Edge} {K : Act → World → Prop} {a : Act} {w : World}
    (ho : ops[i]? = some { dst := some d, op := .assign (.tmp t), type := ty, pos := pos, after := after, guard := none })
    (h : K (a.put (some d) (a.eval (.tmp t))) w) :
    wpOp Tryz.prog ops Q i K a w := by
  refine wpOp_step ho fun K' hK => ?_
  exact hK _ _ h
abbrev ptr (p : Nat) : Value := .pointer (some ⟨p, 0, none⟩)
abbrev Tc.agg (p : Tc) : Value := .agg #[.int .i64 p.op, .int .i64 p.n, .string p.s, .slice p.a p.len p.cap]
theorem step_store {ops : Array Oper} {Q : Exit → Act → World → Prop} {i t u : Nat} {ty : TypeId} {pos : String} {after : Array Edge} {K : Act → World → Prop} {a : Act} {w : World} {g : Nat} {op n : Int} {s : ByteArray} {ad : Option Addr} {len cap : Nat}
    (ho : ops[i]? = some { dst := none, op := .store 28 (.tmp t) (.tmp u), type := ty, pos := pos, after := after, guard := none })
    (hx : a.eval (.tmp t) = ptr g) (hy : a.eval (.tmp u) = .agg #[.int .i64 op, .int .i64 n, .string s, .slice ad len cap]) (hz : ZBox w g)
    (h : K a (fill4 w g op n s ad len cap)) :
    wpOp Tryz.prog ops Q i K a w := by
  refine wpOp_step ho fun K' hK => ?_
  have H := hide (hK _ _ h)
  clear h hK ho
  obtain ⟨c0, c1, c2, c3, f0, f1, f2, f3⟩ := hz.facts
  have hx' : a.tmps[t]?.getD undef = .pointer (some ⟨g, 0, none⟩) := by simpa [Act.eval] using hx
  have hy' : a.tmps[u]?.getD undef = .agg #[.int .i64 op, .int .i64 n, .string s, .slice ad len cap] := by simpa [Act.eval] using hy
  clear hx hy hz
  go_simp
  exact unhide H
theorem upd_eq (σ : Nat → Option Value) (d : Nat) (v : Value) : upd σ d v d = some v := by simp [upd]
theorem upd_ne (σ : Nat → Option Value) {d k : Nat} (v : Value) (h : k ≠ d) : upd σ d v k = σ k := by simp [upd, h]
def bUpd (b : Nat → Bool) (i : Nat) : Nat → Bool := fun k => if k = i then true else b k
theorem bUpd_ne (b : Nat → Bool) {i k : Nat} (h : k ≠ i) : bUpd b i k = b k := by simp [bUpd, h]
theorem bUpd_eq (b : Nat → Bool) (i : Nat) : bUpd b i i = true := by simp [bUpd]
theorem bUpd_of {b : Nat → Bool} {i k : Nat} (h : b k = true) : bUpd b i k = true := by
  unfold bUpd
  split
  · rfl
  · exact h
theorem ov_none (a0 : Act) : ov a0 (fun _ => none) = a0 := by
  cases a0
  simp only [ov, Option.getD_none, Act.mk.injEq, and_true]
  apply Array.ext_getElem?
  intro k
  simp
section
variable {ops : Array Oper} {Q : Exit → Act → World → Prop} {S : World → Prop} {md : Region.Mode}
theorem take_load {i d t : Nat} {ty : TypeId} {pos : String} {after : Array Edge} {fuel : Nat} {listed : Array Bool} {a : Act} {w : World} {g : Nat} {op n : Int} {s : ByteArray} {ad : Option Addr} {len cap : Nat}
    (ho : ops[i]? = some { dst := some d, op := .load 28 (.tmp t), type := ty, pos := pos, after := after, guard := none })
    (hx : a.eval (.tmp t) = ptr g) (hr : ∀ y, S y → RowT 28 y g op n s ad len cap)
    (hs : Region.noSelect ops = true) (hf : Region.free md ops listed i = true) (hy : (Region.ready md ops listed).contains i = true) (hQ : ∀ c a w v, Q (.panic c) (a.put (some d) v) w → Q (.panic c) a w) (hS : S w)
    (h : wpAnyH Tryz.prog md ops Q S fuel (listed.setIfInBounds i true) (a.put (some d) (.agg #[.int .i64 op, .int .i64 n, .string s, .slice ad len cap])) w) : wpAnyH Tryz.prog md ops Q S (fuel + 1) listed a w := by
  refine wpAnyH_take (v := .agg #[.int .i64 op, .int .i64 n, .string s, .slice ad len cap]) ho hs hf hy (fun c a w hq => hQ c a w _ hq) (Or.inl ⟨by rfl, ?_⟩) hS h
  intro y hSy
  obtain ⟨c0, c1, c2, c3⟩ := (hr y hSy).facts
  have hx' : a.tmps[t]?.getD undef = .pointer (some ⟨g, 0, none⟩) := by simpa [Act.eval] using hx
  clear hx hr ho hf hy hQ hS h hSy
  go_simp
  try with_reducible rfl
theorem take_move {i d t : Nat} {ty : TypeId} {pos : String} {after : Array Edge} {fuel : Nat} {listed : Array Bool} {a : Act} {w : World} {v : Value}
    (ho : ops[i]? = some { dst := some d, op := .move (.tmp t), type := ty, pos := pos, after := after, guard := none })
    (hx : a.eval (.tmp t) = v)
    (hs : Region.noSelect ops = true) (hf : Region.free md ops listed i = true) (hy : (Region.ready md ops listed).contains i = true) (hQ : ∀ c a w v, Q (.panic c) (a.put (some d) v) w → Q (.panic c) a w) (hS : S w)
    (h : wpAnyH Tryz.prog md ops Q S fuel (listed.setIfInBounds i true) (a.put (some d) v) w) : wpAnyH Tryz.prog md ops Q S (fuel + 1) listed a w := by
  refine wpAnyH_take (v := v) ho hs hf hy (fun c a w hq => hQ c a w _ hq) (Or.inl ⟨by rfl, ?_⟩) hS h
  intro y hSy
  have hx' : a.tmps[t]?.getD undef = v := by simpa [Act.eval] using hx
  clear hx ho hf hy hQ hS h hSy
  go_simp
  try with_reducible rfl
theorem take_field3 {i d t : Nat} {ty : TypeId} {pos : String} {after : Array Edge} {fuel : Nat} {listed : Array Bool} {a : Act} {w : World} {g : Nat}
    (ho : ops[i]? = some { dst := some d, op := .fieldAddr 28 (.tmp t) 3, type := ty, pos := pos, after := after, guard := none })
    (hx : a.eval (.tmp t) = ptr g)
    (hs : Region.noSelect ops = true) (hf : Region.free md ops listed i = true) (hy : (Region.ready md ops listed).contains i = true) (hQ : ∀ c a w v, Q (.panic c) (a.put (some d) v) w → Q (.panic c) a w) (hS : S w)
    (h : wpAnyH Tryz.prog md ops Q S fuel (listed.setIfInBounds i true) (a.put (some d) (.pointer (some ⟨g, 3, none⟩))) w) : wpAnyH Tryz.prog md ops Q S (fuel + 1) listed a w := by
  refine wpAnyH_take (v := .pointer (some ⟨g, 3, none⟩)) ho hs hf hy (fun c a w hq => hQ c a w _ hq) (Or.inl ⟨by rfl, ?_⟩) hS h
  intro y hSy
  have hx' : a.tmps[t]?.getD undef = .pointer (some ⟨g, 0, none⟩) := by simpa [Act.eval] using hx
  clear hx ho hf hy hQ hS h hSy
  go_simp
  try with_reducible rfl
theorem take_load26 {i d t : Nat} {ty : TypeId} {pos : String} {after : Array Edge} {fuel : Nat} {listed : Array Bool} {a : Act} {w : World} {g o : Nat} {ad : Option Addr} {len cap : Nat}
    (ho : ops[i]? = some { dst := some d, op := .load 26 (.tmp t), type := ty, pos := pos, after := after, guard := none })
    (hx : a.eval (.tmp t) = .pointer (some ⟨g, o, none⟩)) (hr : ∀ y, S y → y.cell? ⟨g, o, none⟩ = some (.slice ad len cap))
    (hs : Region.noSelect ops = true) (hf : Region.free md ops listed i = true) (hy : (Region.ready md ops listed).contains i = true) (hQ : ∀ c a w v, Q (.panic c) (a.put (some d) v) w → Q (.panic c) a w) (hS : S w)
    (h : wpAnyH Tryz.prog md ops Q S fuel (listed.setIfInBounds i true) (a.put (some d) (.slice ad len cap)) w) : wpAnyH Tryz.prog md ops Q S (fuel + 1) listed a w := by
  refine wpAnyH_take (v := .slice ad len cap) ho hs hf hy (fun c a w hq => hQ c a w _ hq) (Or.inl ⟨by rfl, ?_⟩) hS h
  intro y hSy
  have hc := hr y hSy
  have hx' : a.tmps[t]?.getD undef = .pointer (some ⟨g, o, none⟩) := by simpa [Act.eval] using hx
  clear hx hr ho hf hy hQ hS h hSy
  go_simp
  try with_reducible rfl
theorem take_index0 {i d t : Nat} {ty : TypeId} {pos : String} {after : Array Edge} {fuel : Nat} {listed : Array Bool} {a : Act} {w : World} {g o cap : Nat}
    (ho : ops[i]? = some { dst := some d, op := .indexAddr 26 (.tmp t) (.const (.int .i64 0)), type := ty, pos := pos, after := after, guard := none })
    (hx : a.eval (.tmp t) = .slice (some ⟨g, o, none⟩) 2 cap)
    (hs : Region.noSelect ops = true) (hf : Region.free md ops listed i = true) (hy : (Region.ready md ops listed).contains i = true) (hQ : ∀ c a w v, Q (.panic c) (a.put (some d) v) w → Q (.panic c) a w) (hS : S w)
    (h : wpAnyH Tryz.prog md ops Q S fuel (listed.setIfInBounds i true) (a.put (some d) (.pointer (some ⟨g, o, none⟩))) w) : wpAnyH Tryz.prog md ops Q S (fuel + 1) listed a w := by
  refine wpAnyH_take (v := .pointer (some ⟨g, o, none⟩)) ho hs hf hy (fun c a w hq => hQ c a w _ hq) (Or.inl ⟨by rfl, ?_⟩) hS h
  intro y hSy
  have hx' : a.tmps[t]?.getD undef = .slice (some ⟨g, o, none⟩) 2 cap := by simpa [Act.eval] using hx
  clear hx ho hf hy hQ hS h hSy
  go_simp
  try with_reducible rfl
theorem take_index1 {i d t : Nat} {ty : TypeId} {pos : String} {after : Array Edge} {fuel : Nat} {listed : Array Bool} {a : Act} {w : World} {g o cap : Nat}
    (ho : ops[i]? = some { dst := some d, op := .indexAddr 26 (.tmp t) (.const (.int .i64 1)), type := ty, pos := pos, after := after, guard := none })
    (hx : a.eval (.tmp t) = .slice (some ⟨g, o, none⟩) 2 cap)
    (hs : Region.noSelect ops = true) (hf : Region.free md ops listed i = true) (hy : (Region.ready md ops listed).contains i = true) (hQ : ∀ c a w v, Q (.panic c) (a.put (some d) v) w → Q (.panic c) a w) (hS : S w)
    (h : wpAnyH Tryz.prog md ops Q S fuel (listed.setIfInBounds i true) (a.put (some d) (.pointer (some ⟨g, o + 4, none⟩))) w) : wpAnyH Tryz.prog md ops Q S (fuel + 1) listed a w := by
  refine wpAnyH_take (v := .pointer (some ⟨g, o + 4, none⟩)) ho hs hf hy (fun c a w hq => hQ c a w _ hq) (Or.inl ⟨by rfl, ?_⟩) hS h
  intro y hSy
  have hx' : a.tmps[t]?.getD undef = .slice (some ⟨g, o, none⟩) 2 cap := by simpa [Act.eval] using hx
  clear hx ho hf hy hQ hS h hSy
  go_simp
  try with_reducible rfl
theorem take_cells {i d t : Nat} {ty : TypeId} {pos : String} {after : Array Edge} {fuel : Nat} {listed : Array Bool} {a : Act} {w : World} {g o : Nat} {op n : Int} {s : ByteArray} {ad : Option Addr} {len cap : Nat}
    (ho : ops[i]? = some { dst := some d, op := .load 28 (.tmp t), type := ty, pos := pos, after := after, guard := none })
    (hx : a.eval (.tmp t) = .pointer (some ⟨g, o, none⟩)) (h0 : ∀ y, S y → y.cell? ⟨g, o, none⟩ = some (.int .i64 op)) (h1 : ∀ y, S y → y.cell? ⟨g, o + 1, none⟩ = some (.int .i64 n)) (h2 : ∀ y, S y → y.cell? ⟨g, o + 2, none⟩ = some (.string s)) (h3 : ∀ y, S y → y.cell? ⟨g, o + 3, none⟩ = some (.slice ad len cap))
    (hs : Region.noSelect ops = true) (hf : Region.free md ops listed i = true) (hy : (Region.ready md ops listed).contains i = true) (hQ : ∀ c a w v, Q (.panic c) (a.put (some d) v) w → Q (.panic c) a w) (hS : S w)
    (h : wpAnyH Tryz.prog md ops Q S fuel (listed.setIfInBounds i true) (a.put (some d) (.agg #[.int .i64 op, .int .i64 n, .string s, .slice ad len cap])) w) : wpAnyH Tryz.prog md ops Q S (fuel + 1) listed a w := by
  refine wpAnyH_take (v := .agg #[.int .i64 op, .int .i64 n, .string s, .slice ad len cap]) ho hs hf hy (fun c a w hq => hQ c a w _ hq) (Or.inl ⟨by rfl, ?_⟩) hS h
  intro y hSy
  have c0 := h0 y hSy
  have c1 := h1 y hSy
  have c2 := h2 y hSy
  have c3 := h3 y hSy
  have hx' : a.tmps[t]?.getD undef = .pointer (some ⟨g, o, none⟩) := by simpa [Act.eval] using hx
  clear hx h0 h1 h2 h3 ho hf hy hQ hS h hSy
  go_simp
  try with_reducible rfl
theorem all_store {i t u : Nat} {ty : TypeId} {pos : String} {after : Array Edge} {fuel : Nat} {listed : Array Bool} {a : Act} {w : World} {g : Nat} {op n : Int} {s : ByteArray} {ad : Option Addr} {len cap : Nat}
    (hr : Region.ready md ops listed = [i])
    (ho : ops[i]? = some { dst := none, op := .store 28 (.tmp t) (.tmp u), type := ty, pos := pos, after := after, guard := none })
    (hx : a.eval (.tmp t) = ptr g) (hy : a.eval (.tmp u) = .agg #[.int .i64 op, .int .i64 n, .string s, .slice ad len cap]) (hz : RowT 28 w g 0 0 ByteArray.empty none 0 0)
    (hS : S (fill4 w g op n s ad len cap))
    (h : S (fill4 w g op n s ad len cap) → wpAnyH Tryz.prog md ops Q S fuel (listed.setIfInBounds i true) a (fill4 w g op n s ad len cap)) : wpAnyH Tryz.prog md ops Q S (fuel + 1) listed a w :=
  wpAnyH_all hr (by simp) fun j hj => by
    obtain rfl : j = i := by simpa using hj
    exact step_store ho hx hy hz ⟨hS, h hS⟩
theorem all_assign {i d : Nat} {x : Operand} {ty : TypeId} {pos : String} {after : Array Edge} {fuel : Nat} {listed : Array Bool} {a : Act} {w : World} {v : Value}
    (hr : Region.ready md ops listed = [i])
    (ho : ops[i]? = some { dst := some d, op := .assign x, type := ty, pos := pos, after := after, guard := none })
    (hx : a.eval x = v) (hS : S w)
    (h : wpAnyH Tryz.prog md ops Q S fuel (listed.setIfInBounds i true) (a.put (some d) v) w) : wpAnyH Tryz.prog md ops Q S (fuel + 1) listed a w :=
  wpAnyH_all hr (by simp) fun j hj => by
    obtain rfl : j = i := by simpa using hj
    refine wpOp_step ho fun K' hK => ?_
    exact hK _ _ (hx ▸ ⟨hS, h⟩)
end

set_option maxRecDepth 100000 in
set_option maxHeartbeats 4000000 in
theorem replyI_no (e t : Tm) (op n : Int) (s : ByteArray) (a : Option Addr) (len cap : Nat) (op2 n2 : Int) (s2 : ByteArray) (a2 : Option Addr) (len2 cap2 : Nat) (x : Addr) (w : World) (he : ErrAt x w) (htab : Tab w) (hl : Lies w 0 e (tmCells op n s a len cap)) (hl2 : Lies w 0 t (tmCells op2 n2 s2 a2 len2 cap2)) (hst : e.size + t.size ≤ 1048578) (h : replyO e t = none) : Calls Tryz.prog 7 #[.agg #[.int .i64 op, .int .i64 n, .string s, .slice a len cap], .agg #[.int .i64 op2, .int .i64 n2, .string s2, .slice a2 len2 cap2]] w fun q w' => q = .returned (.tuple #[.agg #[.int .i64 0, .int .i64 0, .string ⟨#[]⟩, .slice none 0 0], .agg #[.int .i64 0, .int .i64 0, .string ⟨#[]⟩, .slice none 0 0], .agg #[.int .i64 0, .int .i64 0, .string ⟨#[]⟩, .slice none 0 0], .agg #[.int .i64 0, .int .i64 0, .string ⟨#[]⟩, .slice none 0 0], .bool false]) ∧ Below w.heap.size w w' := by
  have hb0 : Below w.heap.size w ((((((w.alloc (.cells #[.int .i64 op, .int .i64 n, .string s, .slice a len cap] 28)).alloc (.cells #[.int .i64 op2, .int .i64 n2, .string s2, .slice a2 len2 cap2] 28)).alloc (.cells #[.int .i64 0, .int .i64 0, .string ⟨#[]⟩, .slice none 0 0] 28)).alloc (.cells #[.int .i64 0, .int .i64 0, .string ⟨#[]⟩, .slice none 0 0] 28)).alloc (.cells #[.int .i64 0, .int .i64 0, .string ⟨#[]⟩, .slice none 0 0] 28)).alloc (.cells #[.int .i64 0, .int .i64 0, .string ⟨#[]⟩, .slice none 0 0] 28)) := bt (bt (bt (bt (bt (ab _) (ab _) (Nat.le_refl _)) (ab _) (Nat.le_refl _)) (ab _) (Nat.le_refl _)) (ab _) (Nat.le_refl _)) (ab _) (Nat.le_refl _)
  have HZ0 : Hid (RowT 28 ((((((w.alloc (.cells #[.int .i64 op, .int .i64 n, .string s, .slice a len cap] 28)).alloc (.cells #[.int .i64 op2, .int .i64 n2, .string s2, .slice a2 len2 cap2] 28)).alloc (.cells #[.int .i64 0, .int .i64 0, .string ⟨#[]⟩, .slice none 0 0] 28)).alloc (.cells #[.int .i64 0, .int .i64 0, .string ⟨#[]⟩, .slice none 0 0] 28)).alloc (.cells #[.int .i64 0, .int .i64 0, .string ⟨#[]⟩, .slice none 0 0] 28)).alloc (.cells #[.int .i64 0, .int .i64 0, .string ⟨#[]⟩, .slice none 0 0] 28)) (w.heap.size + 1 + 1) 0 0 ⟨#[]⟩ none 0 0) := by
    have := (((RowT.new 28 ((w.alloc (.cells #[.int .i64 op, .int .i64 n, .string s, .slice a len cap] 28)).alloc (.cells #[.int .i64 op2, .int .i64 n2, .string s2, .slice a2 len2 cap2] 28)) 0 0 ⟨#[]⟩ none 0 0).below (ab (.cells #[.int .i64 0, .int .i64 0, .string ⟨#[]⟩, .slice none 0 0] 28))).below (ab (.cells #[.int .i64 0, .int .i64 0, .string ⟨#[]⟩, .slice none 0 0] 28))).below (ab (.cells #[.int .i64 0, .int .i64 0, .string ⟨#[]⟩, .slice none 0 0] 28))
    rwa [heap_size_alloc, heap_size_alloc] at this
  have HZ1 : Hid (RowT 28 ((((((w.alloc (.cells #[.int .i64 op, .int .i64 n, .string s, .slice a len cap] 28)).alloc (.cells #[.int .i64 op2, .int .i64 n2, .string s2, .slice a2 len2 cap2] 28)).alloc (.cells #[.int .i64 0, .int .i64 0, .string ⟨#[]⟩, .slice none 0 0] 28)).alloc (.cells #[.int .i64 0, .int .i64 0, .string ⟨#[]⟩, .slice none 0 0] 28)).alloc (.cells #[.int .i64 0, .int .i64 0, .string ⟨#[]⟩, .slice none 0 0] 28)).alloc (.cells #[.int .i64 0, .int .i64 0, .string ⟨#[]⟩, .slice none 0 0] 28)) (w.heap.size + 1 + 1 + 1) 0 0 ⟨#[]⟩ none 0 0) := by
    have := ((RowT.new 28 (((w.alloc (.cells #[.int .i64 op, .int .i64 n, .string s, .slice a len cap] 28)).alloc (.cells #[.int .i64 op2, .int .i64 n2, .string s2, .slice a2 len2 cap2] 28)).alloc (.cells #[.int .i64 0, .int .i64 0, .string ⟨#[]⟩, .slice none 0 0] 28)) 0 0 ⟨#[]⟩ none 0 0).below (ab (.cells #[.int .i64 0, .int .i64 0, .string ⟨#[]⟩, .slice none 0 0] 28))).below (ab (.cells #[.int .i64 0, .int .i64 0, .string ⟨#[]⟩, .slice none 0 0] 28))
    rwa [heap_size_alloc, heap_size_alloc, heap_size_alloc] at this
  have HZ2 : Hid (RowT 28 ((((((w.alloc (.cells #[.int .i64 op, .int .i64 n, .string s, .slice a len cap] 28)).alloc (.cells #[.int .i64 op2, .int .i64 n2, .string s2, .slice a2 len2 cap2] 28)).alloc (.cells #[.int .i64 0, .int .i64 0, .string ⟨#[]⟩, .slice none 0 0] 28)).alloc (.cells #[.int .i64 0, .int .i64 0, .string ⟨#[]⟩, .slice none 0 0] 28)).alloc (.cells #[.int .i64 0, .int .i64 0, .string ⟨#[]⟩, .slice none 0 0] 28)).alloc (.cells #[.int .i64 0, .int .i64 0, .string ⟨#[]⟩, .slice none 0 0] 28)) (w.heap.size + 1 + 1 + 1 + 1) 0 0 ⟨#[]⟩ none 0 0) := by
    have := (RowT.new 28 ((((w.alloc (.cells #[.int .i64 op, .int .i64 n, .string s, .slice a len cap] 28)).alloc (.cells #[.int .i64 op2, .int .i64 n2, .string s2, .slice a2 len2 cap2] 28)).alloc (.cells #[.int .i64 0, .int .i64 0, .string ⟨#[]⟩, .slice none 0 0] 28)).alloc (.cells #[.int .i64 0, .int .i64 0, .string ⟨#[]⟩, .slice none 0 0] 28)) 0 0 ⟨#[]⟩ none 0 0).below (ab (.cells #[.int .i64 0, .int .i64 0, .string ⟨#[]⟩, .slice none 0 0] 28))
    rwa [heap_size_alloc, heap_size_alloc, heap_size_alloc, heap_size_alloc] at this
  have HZ3 : Hid (RowT 28 ((((((w.alloc (.cells #[.int .i64 op, .int .i64 n, .string s, .slice a len cap] 28)).alloc (.cells #[.int .i64 op2, .int .i64 n2, .string s2, .slice a2 len2 cap2] 28)).alloc (.cells #[.int .i64 0, .int .i64 0, .string ⟨#[]⟩, .slice none 0 0] 28)).alloc (.cells #[.int .i64 0, .int .i64 0, .string ⟨#[]⟩, .slice none 0 0] 28)).alloc (.cells #[.int .i64 0, .int .i64 0, .string ⟨#[]⟩, .slice none 0 0] 28)).alloc (.cells #[.int .i64 0, .int .i64 0, .string ⟨#[]⟩, .slice none 0 0] 28)) (w.heap.size + 1 + 1 + 1 + 1 + 1) 0 0 ⟨#[]⟩ none 0 0) := by
    have := RowT.new 28 (((((w.alloc (.cells #[.int .i64 op, .int .i64 n, .string s, .slice a len cap] 28)).alloc (.cells #[.int .i64 op2, .int .i64 n2, .string s2, .slice a2 len2 cap2] 28)).alloc (.cells #[.int .i64 0, .int .i64 0, .string ⟨#[]⟩, .slice none 0 0] 28)).alloc (.cells #[.int .i64 0, .int .i64 0, .string ⟨#[]⟩, .slice none 0 0] 28)).alloc (.cells #[.int .i64 0, .int .i64 0, .string ⟨#[]⟩, .slice none 0 0] 28)) 0 0 ⟨#[]⟩ none 0 0
    rwa [heap_size_alloc, heap_size_alloc, heap_size_alloc, heap_size_alloc, heap_size_alloc] at this
  have HLE := hide (hl.below hb0)
  have HL2 := hide (hl2.below hb0)
  have HER := hide (he.on hb0)
  have HTB := hide (htab.on hb0)
  have HB0 := hide hb0
  have HH := hide h
  have HST := hide hst
  clear he hl hl2 hb0 htab h hst
  go_enter Tryz.func7, Tryz.ntmps7
  go_wp2_with fail
  generalize hgw : ((((((w.alloc (.cells #[.int .i64 op, .int .i64 n, .string s, .slice a len cap] 28)).alloc (.cells #[.int .i64 op2, .int .i64 n2, .string s2, .slice a2 len2 cap2] 28)).alloc (.cells #[.int .i64 0, .int .i64 0, .string ⟨#[]⟩, .slice none 0 0] 28)).alloc (.cells #[.int .i64 0, .int .i64 0, .string ⟨#[]⟩, .slice none 0 0] 28)).alloc (.cells #[.int .i64 0, .int .i64 0, .string ⟨#[]⟩, .slice none 0 0] 28)).alloc (.cells #[.int .i64 0, .int .i64 0, .string ⟨#[]⟩, .slice none 0 0] 28)) = W1 at *
  clear hgw
  refine (readI_none e t op n s a len cap op2 n2 s2 a2 len2 cap2 x _ (unhide HER) (unhide HTB) (unhide HLE) (unhide HL2) (unhide HST) (unhide HH)).mono ?_
  rintro q w1 ⟨rfl, hb1⟩
  clear HH HST
  have HR : Hid (RowV (w1.alloc (.cells #[.int .i64 0, .int .i64 0, .string ⟨#[]⟩, .slice none 0 0, .int .i64 0, .int .i64 0, .string ⟨#[]⟩, .slice none 0 0, .int .i64 0, .int .i64 0, .string ⟨#[]⟩, .slice none 0 0, .int .i64 0, .int .i64 0, .string ⟨#[]⟩, .slice none 0 0] 44)) w1.heap.size #[.int .i64 0, .int .i64 0, .string ⟨#[]⟩, .slice none 0 0, .int .i64 0, .int .i64 0, .string ⟨#[]⟩, .slice none 0 0, .int .i64 0, .int .i64 0, .string ⟨#[]⟩, .slice none 0 0, .int .i64 0, .int .i64 0, .string ⟨#[]⟩, .slice none 0 0]) := RowV.new w1 _ rfl
  have HBR : Hid (Below w1.heap.size w1 (w1.alloc (.cells #[.int .i64 0, .int .i64 0, .string ⟨#[]⟩, .slice none 0 0, .int .i64 0, .int .i64 0, .string ⟨#[]⟩, .slice none 0 0, .int .i64 0, .int .i64 0, .string ⟨#[]⟩, .slice none 0 0, .int .i64 0, .int .i64 0, .string ⟨#[]⟩, .slice none 0 0] 44))) := ab _
  have HB1 := hide (bt (unhide HB0) hb1 (Nat.le_refl _))
  have HE1 := hide ((unhide HER).on hb1)
  have HZ0 := hide ((unhide HZ0).below hb1)
  have HZ1 := hide ((unhide HZ1).below hb1)
  have HZ2 := hide ((unhide HZ2).below hb1)
  have HZ3 := hide ((unhide HZ3).below hb1)
  have HLT : Hid (w.heap.size + 6 ≤ w1.heap.size) := by have := hb1.size; have := (unhide HZ3).lt; show _ ≤ _; omega
  clear hb1 HB0 HER HLE HL2 HTB
  go_wp2_with (refine wpList_storeR rfl (.tmp 9) (.tmp 23) rfl #[.int .i64 0, .int .i64 0, .string ⟨#[]⟩, .slice none 0 0, .int .i64 0, .int .i64 0, .string ⟨#[]⟩, .slice none 0 0, .int .i64 0, .int .i64 0, .string ⟨#[]⟩, .slice none 0 0, .int .i64 0, .int .i64 0, .string ⟨#[]⟩, .slice none 0 0] (unhide HR) rfl (by simp [Value.oneCell']) rfl rfl (unhide HBR) (Nat.le_refl _) ?_; intro W hW hBW; have x0 : W.cell? ⟨w1.heap.size, 0, none⟩ = some (.int .i64 0) := (by simpa using hW.cells 0 _ rfl); have x1 : W.cell? ⟨w1.heap.size, 1, none⟩ = some (.int .i64 0) := (by simpa using hW.cells 1 _ rfl); have x2 : W.cell? ⟨w1.heap.size, 2, none⟩ = some (.string ⟨#[]⟩) := (by simpa using hW.cells 2 _ rfl); have x3 : W.cell? ⟨w1.heap.size, 3, none⟩ = some (.slice none 0 0) := (by simpa using hW.cells 3 _ rfl); have HW := hide hW; have HBW := hide hBW; clear hW hBW)
  have HB2 := hide (bt (unhide HB1) (unhide HBW) (Nat.le_refl _))
  have HE2 := hide ((unhide HE1).on (unhide HBW))
  have HZ0 := hide ((unhide HZ0).below (unhide HBW))
  have HZ1 := hide ((unhide HZ1).below (unhide HBW))
  have HZ2 := hide ((unhide HZ2).below (unhide HBW))
  have HZ3 := hide ((unhide HZ3).below (unhide HBW))
  have HLT2 := hide (unhide HBW).size
  have HRL : Hid (w1.heap.size < W.heap.size) := by have := ((unhide HW).there 0 (by omega)).1; obtain ⟨u, hu⟩ := Option.isSome_iff_exists.1 this; exact lt_of_cell hu
  clear HR HBR HB1 HE1
  clear HBW
  clear x0 x1 x2 x3
  refine (answer_no 0 0 ⟨#[]⟩ none 0 0 x _ (unhide HE2)).mono ?_
  rintro q w2 ⟨rfl, hb⟩
  have hp := bt hb (ab (.cells #[.int .i64 0, .int .i64 0, .string ByteArray.empty, .slice none 0 0] 28)) (Nat.le_refl _)
  have HB2 := hide (bt (unhide HB2) hp (Nat.le_refl _))
  have HE2 := hide ((unhide HE2).on hp)
  have HW := hide ((unhide HW).below hp)
  have HZ0 := hide ((unhide HZ0).below hp)
  have HZ1 := hide ((unhide HZ1).below hp)
  have HZ2 := hide ((unhide HZ2).below hp)
  have HZ3 := hide ((unhide HZ3).below hp)
  have HX0 := hide (RowT.new 28 w2 0 0 ByteArray.empty none 0 0)
  have HJ0 : Hid (W.heap.size ≤ w2.heap.size) := by have := hb.size; show _ ≤ _; omega
  have HK0 : Hid (w2.heap.size + 1 = (w2.alloc (.cells #[.int .i64 0, .int .i64 0, .string ByteArray.empty, .slice none 0 0] 28)).heap.size) := by show _ = _; rw [heap_size_alloc]
  clear hb hp
  have x0 : (w2.alloc (.cells #[.int .i64 0, .int .i64 0, .string ByteArray.empty, .slice none 0 0] 28)).cell? ⟨w1.heap.size, 4, none⟩ = some (.int .i64 0) := by simpa using (unhide HW).cells 4 _ rfl
  have x1 : (w2.alloc (.cells #[.int .i64 0, .int .i64 0, .string ByteArray.empty, .slice none 0 0] 28)).cell? ⟨w1.heap.size, 5, none⟩ = some (.int .i64 0) := by simpa using (unhide HW).cells 5 _ rfl
  have x2 : (w2.alloc (.cells #[.int .i64 0, .int .i64 0, .string ByteArray.empty, .slice none 0 0] 28)).cell? ⟨w1.heap.size, 6, none⟩ = some (.string ⟨#[]⟩) := by simpa using (unhide HW).cells 6 _ rfl
  have x3 : (w2.alloc (.cells #[.int .i64 0, .int .i64 0, .string ByteArray.empty, .slice none 0 0] 28)).cell? ⟨w1.heap.size, 7, none⟩ = some (.slice none 0 0) := by simpa using (unhide HW).cells 7 _ rfl
  go_wp2_with fail
  clear x0 x1 x2 x3
  generalize hgw : w2.alloc (.cells #[.int .i64 0, .int .i64 0, .string ByteArray.empty, .slice none 0 0] 28) = V0 at *
  clear hgw
  generalize w2.heap.size = b0 at *
  refine (answer_no 0 0 ⟨#[]⟩ none 0 0 x _ (unhide HE2)).mono ?_
  rintro q w3 ⟨rfl, hb⟩
  have hp := bt hb (ab (.cells #[.int .i64 0, .int .i64 0, .string ByteArray.empty, .slice none 0 0] 28)) (Nat.le_refl _)
  have HB2 := hide (bt (unhide HB2) hp (Nat.le_refl _))
  have HE2 := hide ((unhide HE2).on hp)
  have HW := hide ((unhide HW).below hp)
  have HZ0 := hide ((unhide HZ0).below hp)
  have HZ1 := hide ((unhide HZ1).below hp)
  have HZ2 := hide ((unhide HZ2).below hp)
  have HZ3 := hide ((unhide HZ3).below hp)
  have HX0 := hide ((unhide HX0).below hp)
  have HX1 := hide (RowT.new 28 w3 0 0 ByteArray.empty none 0 0)
  have HJ1 : Hid (b0 < w3.heap.size) := by have := hb.size; have := unhide HK0; show _ < _; omega
  have HK1 : Hid (w3.heap.size + 1 = (w3.alloc (.cells #[.int .i64 0, .int .i64 0, .string ByteArray.empty, .slice none 0 0] 28)).heap.size) := by show _ = _; rw [heap_size_alloc]
  clear hb hp
  have x0 : (w3.alloc (.cells #[.int .i64 0, .int .i64 0, .string ByteArray.empty, .slice none 0 0] 28)).cell? ⟨w1.heap.size, 8, none⟩ = some (.int .i64 0) := by simpa using (unhide HW).cells 8 _ rfl
  have x1 : (w3.alloc (.cells #[.int .i64 0, .int .i64 0, .string ByteArray.empty, .slice none 0 0] 28)).cell? ⟨w1.heap.size, 9, none⟩ = some (.int .i64 0) := by simpa using (unhide HW).cells 9 _ rfl
  have x2 : (w3.alloc (.cells #[.int .i64 0, .int .i64 0, .string ByteArray.empty, .slice none 0 0] 28)).cell? ⟨w1.heap.size, 10, none⟩ = some (.string ⟨#[]⟩) := by simpa using (unhide HW).cells 10 _ rfl
  have x3 : (w3.alloc (.cells #[.int .i64 0, .int .i64 0, .string ByteArray.empty, .slice none 0 0] 28)).cell? ⟨w1.heap.size, 11, none⟩ = some (.slice none 0 0) := by simpa using (unhide HW).cells 11 _ rfl
  go_wp2_with fail
  clear x0 x1 x2 x3
  generalize hgw : w3.alloc (.cells #[.int .i64 0, .int .i64 0, .string ByteArray.empty, .slice none 0 0] 28) = V1 at *
  clear hgw
  generalize w3.heap.size = b1 at *
  refine (answer_no 0 0 ⟨#[]⟩ none 0 0 x _ (unhide HE2)).mono ?_
  rintro q w4 ⟨rfl, hb⟩
  have hp := bt hb (ab (.cells #[.int .i64 0, .int .i64 0, .string ByteArray.empty, .slice none 0 0] 28)) (Nat.le_refl _)
  have HB2 := hide (bt (unhide HB2) hp (Nat.le_refl _))
  have HE2 := hide ((unhide HE2).on hp)
  have HW := hide ((unhide HW).below hp)
  have HZ0 := hide ((unhide HZ0).below hp)
  have HZ1 := hide ((unhide HZ1).below hp)
  have HZ2 := hide ((unhide HZ2).below hp)
  have HZ3 := hide ((unhide HZ3).below hp)
  have HX0 := hide ((unhide HX0).below hp)
  have HX1 := hide ((unhide HX1).below hp)
  have HX2 := hide (RowT.new 28 w4 0 0 ByteArray.empty none 0 0)
  have HJ2 : Hid (b1 < w4.heap.size) := by have := hb.size; have := unhide HK1; show _ < _; omega
  have HK2 : Hid (w4.heap.size + 1 = (w4.alloc (.cells #[.int .i64 0, .int .i64 0, .string ByteArray.empty, .slice none 0 0] 28)).heap.size) := by show _ = _; rw [heap_size_alloc]
  clear hb hp
  have x0 : (w4.alloc (.cells #[.int .i64 0, .int .i64 0, .string ByteArray.empty, .slice none 0 0] 28)).cell? ⟨w1.heap.size, 12, none⟩ = some (.int .i64 0) := by simpa using (unhide HW).cells 12 _ rfl
  have x1 : (w4.alloc (.cells #[.int .i64 0, .int .i64 0, .string ByteArray.empty, .slice none 0 0] 28)).cell? ⟨w1.heap.size, 13, none⟩ = some (.int .i64 0) := by simpa using (unhide HW).cells 13 _ rfl
  have x2 : (w4.alloc (.cells #[.int .i64 0, .int .i64 0, .string ByteArray.empty, .slice none 0 0] 28)).cell? ⟨w1.heap.size, 14, none⟩ = some (.string ⟨#[]⟩) := by simpa using (unhide HW).cells 14 _ rfl
  have x3 : (w4.alloc (.cells #[.int .i64 0, .int .i64 0, .string ByteArray.empty, .slice none 0 0] 28)).cell? ⟨w1.heap.size, 15, none⟩ = some (.slice none 0 0) := by simpa using (unhide HW).cells 15 _ rfl
  go_wp2_with fail
  clear x0 x1 x2 x3
  generalize hgw : w4.alloc (.cells #[.int .i64 0, .int .i64 0, .string ByteArray.empty, .slice none 0 0] 28) = V2 at *
  clear hgw
  generalize w4.heap.size = b2 at *
  refine (answer_no 0 0 ⟨#[]⟩ none 0 0 x _ (unhide HE2)).mono ?_
  rintro q w5 ⟨rfl, hb⟩
  have hp := bt hb (ab (.cells #[.int .i64 0, .int .i64 0, .string ByteArray.empty, .slice none 0 0] 28)) (Nat.le_refl _)
  have HB2 := hide (bt (unhide HB2) hp (Nat.le_refl _))
  have HE2 := hide ((unhide HE2).on hp)
  have HW := hide ((unhide HW).below hp)
  have HZ0 := hide ((unhide HZ0).below hp)
  have HZ1 := hide ((unhide HZ1).below hp)
  have HZ2 := hide ((unhide HZ2).below hp)
  have HZ3 := hide ((unhide HZ3).below hp)
  have HX0 := hide ((unhide HX0).below hp)
  have HX1 := hide ((unhide HX1).below hp)
  have HX2 := hide ((unhide HX2).below hp)
  have HX3 := hide (RowT.new 28 w5 0 0 ByteArray.empty none 0 0)
  have HJ3 : Hid (b2 < w5.heap.size) := by have := hb.size; have := unhide HK2; show _ < _; omega
  have HK3 : Hid (w5.heap.size + 1 = (w5.alloc (.cells #[.int .i64 0, .int .i64 0, .string ByteArray.empty, .slice none 0 0] 28)).heap.size) := by show _ = _; rw [heap_size_alloc]
  clear hb hp
  go_wp2_with fail
  generalize hgw : w5.alloc (.cells #[.int .i64 0, .int .i64 0, .string ByteArray.empty, .slice none 0 0] 28) = V3 at *
  clear hgw
  generalize w5.heap.size = b3 at *
  have FF := far4 (unhide HLT) (unhide HLT2) (unhide HJ0) (unhide HJ1) (unhide HJ2) (unhide HJ3)
  have F0 := ne_far FF.1
  have F1 := ne_far FF.2.1
  have F2 := ne_far FF.2.2.1
  have F3 := ne_far FF.2.2.2
  refine wp_region_held (S := fun y => RowT 28 y b0 0 0 ByteArray.empty none 0 0 ∧ RowT 28 y b1 0 0 ByteArray.empty none 0 0 ∧ RowT 28 y b2 0 0 ByteArray.empty none 0 0 ∧ RowT 28 y b3 0 0 ByteArray.empty none 0 0) (by kernel_rfl) ?_
  have hS : (fun y : World => RowT 28 y b0 0 0 ByteArray.empty none 0 0 ∧ RowT 28 y b1 0 0 ByteArray.empty none 0 0 ∧ RowT 28 y b2 0 0 ByteArray.empty none 0 0 ∧ RowT 28 y b3 0 0 ByteArray.empty none 0 0) V3.drew := ⟨unhide HX0, unhide HX1, unhide HX2, unhide HX3⟩
  show wpAnyH _ _ _ _ _ _ _ _ V3.drew
  refine take_load (i := 0) rfl rfl (fun y h => h.1) (by kernel_rfl) (by kernel_rfl) (by kernel_rfl) (fun _ _ _ _ h => h) hS ?_
  simp only [Act.put, List.setIfInBounds_toArray, List.set_cons_succ, List.set_cons_zero]
  refine take_load (i := 1) rfl rfl (fun y h => h.2.1) (by kernel_rfl) (by kernel_rfl) (by kernel_rfl) (fun _ _ _ _ h => h) hS ?_
  simp only [Act.put, List.setIfInBounds_toArray, List.set_cons_succ, List.set_cons_zero]
  refine take_load (i := 2) rfl rfl (fun y h => h.2.2.1) (by kernel_rfl) (by kernel_rfl) (by kernel_rfl) (fun _ _ _ _ h => h) hS ?_
  simp only [Act.put, List.setIfInBounds_toArray, List.set_cons_succ, List.set_cons_zero]
  refine take_load (i := 3) rfl rfl (fun y h => h.2.2.2) (by kernel_rfl) (by kernel_rfl) (by kernel_rfl) (fun _ _ _ _ h => h) hS ?_
  simp only [Act.put, List.setIfInBounds_toArray, List.set_cons_succ, List.set_cons_zero]
  refine take_move (i := 4) rfl rfl (by kernel_rfl) (by kernel_rfl) (by kernel_rfl) (fun _ _ _ _ h => h) hS ?_
  simp only [Act.put, List.setIfInBounds_toArray, List.set_cons_succ, List.set_cons_zero]
  refine all_store (i := 5) (by kernel_rfl) rfl rfl rfl (unhide HZ0) (⟨RowT.other hS.1 F0.1, RowT.other hS.2.1 F1.1, RowT.other hS.2.2.1 F2.1, RowT.other hS.2.2.2 F3.1⟩) fun hS => ?_
  refine all_store (i := 6) (by kernel_rfl) rfl rfl rfl (RowT.other (unhide HZ1) (zne _).1.1) (⟨RowT.other hS.1 F0.2.1, RowT.other hS.2.1 F1.2.1, RowT.other hS.2.2.1 F2.2.1, RowT.other hS.2.2.2 F3.2.1⟩) fun hS => ?_
  refine all_store (i := 7) (by kernel_rfl) rfl rfl rfl (RowT.other (RowT.other (unhide HZ2) (zne _).1.2.1) (zne _).2.1.1) (⟨RowT.other hS.1 F0.2.2.1, RowT.other hS.2.1 F1.2.2.1, RowT.other hS.2.2.1 F2.2.2.1, RowT.other hS.2.2.2 F3.2.2.1⟩) fun hS => ?_
  refine all_store (i := 8) (by kernel_rfl) rfl rfl rfl (RowT.other (RowT.other (RowT.other (unhide HZ3) (zne _).1.2.2) (zne _).2.1.2) (zne _).2.2) (⟨RowT.other hS.1 F0.2.2.2, RowT.other hS.2.1 F1.2.2.2, RowT.other hS.2.2.1 F2.2.2.2, RowT.other hS.2.2.2 F3.2.2.2⟩) fun hS => ?_
  refine all_assign (i := 9) (by kernel_rfl) rfl rfl hS ?_
  refine wpAnyH_done (by kernel_rfl) ?_ _
  simp only [Act.put, List.setIfInBounds_toArray, List.set_cons_succ, List.set_cons_zero]
  go_wp2_with fail
  obtain ⟨r0, r1, r2, r3⟩ := fill_four (w := V3.drew) (op0 := 0) (n0 := 0) (s0 := ByteArray.empty) (a0 := none) (l0 := 0) (k0 := 0) (op1 := 0) (n1 := 0) (s1 := ByteArray.empty) (a1 := none) (l1 := 0) (k1 := 0) (op2 := 0) (n2 := 0) (s2 := ByteArray.empty) (a2 := none) (l2 := 0) (k2 := 0) (op3 := 0) (n3 := 0) (s3 := ByteArray.empty) (a3 := none) (l3 := 0) (k3 := 0) (unhide HZ0) (unhide HZ1) (unhide HZ2) (unhide HZ3)
  exact bodyPost_ret (v := .tuple #[.agg #[.int .i64 0, .int .i64 0, .string ⟨#[]⟩, .slice none 0 0], .agg #[.int .i64 0, .int .i64 0, .string ⟨#[]⟩, .slice none 0 0], .agg #[.int .i64 0, .int .i64 0, .string ⟨#[]⟩, .slice none 0 0], .agg #[.int .i64 0, .int .i64 0, .string ⟨#[]⟩, .slice none 0 0], .bool false]) (results_cells4 Tryz.results7 rfl rfl rfl rfl (RowT.load r0) (RowT.load r1) (RowT.load r2) (RowT.load r3)) rfl ⟨rfl, fill_four_below (w := V3.drew) (unhide HB2).drew (le_two _)⟩

/-- Four terms, each in memory of its own. -/
def FourI (pub sh c g : Tm) (w : World) (q : Ending) (w' : World) : Prop := ∃ op4 n4 s4 a4 len4 cap4 f4 op6 n6 s6 a6 len6 cap6 f6 op9 n9 s9 a9 len9 cap9 f9 op10 n10 s10 a10 len10 cap10 f10, q = .returned (.tuple #[.agg #[.int .i64 op4, .int .i64 n4, .string s4, .slice a4 len4 cap4], .agg #[.int .i64 op6, .int .i64 n6, .string s6, .slice a6 len6 cap6], .agg #[.int .i64 op9, .int .i64 n9, .string s9, .slice a9 len9 cap9], .agg #[.int .i64 op10, .int .i64 n10, .string s10, .slice a10 len10 cap10], .bool true]) ∧ Own w' pub (tmCells op4 n4 s4 a4 len4 cap4) f4 ∧ Own w' sh (tmCells op6 n6 s6 a6 len6 cap6) f6 ∧ Own w' c (tmCells op9 n9 s9 a9 len9 cap9) f9 ∧ Own w' g (tmCells op10 n10 s10 a10 len10 cap10) f10 ∧ (f4.Nodup ∧ f6.Nodup ∧ f9.Nodup ∧ f10.Nodup) ∧ (∃ m0 m1 m2 m3, w.heap.size ≤ m0 ∧ m0 ≤ m1 ∧ m1 ≤ m2 ∧ m2 ≤ m3 ∧ m3 ≤ w'.heap.size ∧ (∀ y ∈ f4, m0 ≤ y ∧ y < m1) ∧ (∀ y ∈ f6, m1 < y ∧ y < m2) ∧ (∀ y ∈ f9, m2 < y ∧ y < m3) ∧ (∀ y ∈ f10, m3 < y)) ∧ Below w.heap.size w w'

set_option maxRecDepth 100000 in
set_option maxHeartbeats 4000000 in
theorem replyI_yes (e t pub sh c g : Tm) (op n : Int) (s : ByteArray) (a : Option Addr) (len cap : Nat) (op2 n2 : Int) (s2 : ByteArray) (a2 : Option Addr) (len2 cap2 : Nat) (x : Addr) (w : World) (he : ErrAt x w) (htab : Tab w) (hl : Lies w 0 e (tmCells op n s a len cap)) (hl2 : Lies w 0 t (tmCells op2 n2 s2 a2 len2 cap2)) (hst : e.size + t.size ≤ 1048578) (h : replyO e t = some (pub, sh, c, g)) : Calls Tryz.prog 7 #[.agg #[.int .i64 op, .int .i64 n, .string s, .slice a len cap], .agg #[.int .i64 op2, .int .i64 n2, .string s2, .slice a2 len2 cap2]] w fun q w' => FourI pub sh c g w q w' := by
  have hb0 : Below w.heap.size w ((((((w.alloc (.cells #[.int .i64 op, .int .i64 n, .string s, .slice a len cap] 28)).alloc (.cells #[.int .i64 op2, .int .i64 n2, .string s2, .slice a2 len2 cap2] 28)).alloc (.cells #[.int .i64 0, .int .i64 0, .string ⟨#[]⟩, .slice none 0 0] 28)).alloc (.cells #[.int .i64 0, .int .i64 0, .string ⟨#[]⟩, .slice none 0 0] 28)).alloc (.cells #[.int .i64 0, .int .i64 0, .string ⟨#[]⟩, .slice none 0 0] 28)).alloc (.cells #[.int .i64 0, .int .i64 0, .string ⟨#[]⟩, .slice none 0 0] 28)) := bt (bt (bt (bt (bt (ab _) (ab _) (Nat.le_refl _)) (ab _) (Nat.le_refl _)) (ab _) (Nat.le_refl _)) (ab _) (Nat.le_refl _)) (ab _) (Nat.le_refl _)
  have HZ0 : Hid (RowT 28 ((((((w.alloc (.cells #[.int .i64 op, .int .i64 n, .string s, .slice a len cap] 28)).alloc (.cells #[.int .i64 op2, .int .i64 n2, .string s2, .slice a2 len2 cap2] 28)).alloc (.cells #[.int .i64 0, .int .i64 0, .string ⟨#[]⟩, .slice none 0 0] 28)).alloc (.cells #[.int .i64 0, .int .i64 0, .string ⟨#[]⟩, .slice none 0 0] 28)).alloc (.cells #[.int .i64 0, .int .i64 0, .string ⟨#[]⟩, .slice none 0 0] 28)).alloc (.cells #[.int .i64 0, .int .i64 0, .string ⟨#[]⟩, .slice none 0 0] 28)) (w.heap.size + 1 + 1) 0 0 ⟨#[]⟩ none 0 0) := by
    have := (((RowT.new 28 ((w.alloc (.cells #[.int .i64 op, .int .i64 n, .string s, .slice a len cap] 28)).alloc (.cells #[.int .i64 op2, .int .i64 n2, .string s2, .slice a2 len2 cap2] 28)) 0 0 ⟨#[]⟩ none 0 0).below (ab (.cells #[.int .i64 0, .int .i64 0, .string ⟨#[]⟩, .slice none 0 0] 28))).below (ab (.cells #[.int .i64 0, .int .i64 0, .string ⟨#[]⟩, .slice none 0 0] 28))).below (ab (.cells #[.int .i64 0, .int .i64 0, .string ⟨#[]⟩, .slice none 0 0] 28))
    rwa [heap_size_alloc, heap_size_alloc] at this
  have HZ1 : Hid (RowT 28 ((((((w.alloc (.cells #[.int .i64 op, .int .i64 n, .string s, .slice a len cap] 28)).alloc (.cells #[.int .i64 op2, .int .i64 n2, .string s2, .slice a2 len2 cap2] 28)).alloc (.cells #[.int .i64 0, .int .i64 0, .string ⟨#[]⟩, .slice none 0 0] 28)).alloc (.cells #[.int .i64 0, .int .i64 0, .string ⟨#[]⟩, .slice none 0 0] 28)).alloc (.cells #[.int .i64 0, .int .i64 0, .string ⟨#[]⟩, .slice none 0 0] 28)).alloc (.cells #[.int .i64 0, .int .i64 0, .string ⟨#[]⟩, .slice none 0 0] 28)) (w.heap.size + 1 + 1 + 1) 0 0 ⟨#[]⟩ none 0 0) := by
    have := ((RowT.new 28 (((w.alloc (.cells #[.int .i64 op, .int .i64 n, .string s, .slice a len cap] 28)).alloc (.cells #[.int .i64 op2, .int .i64 n2, .string s2, .slice a2 len2 cap2] 28)).alloc (.cells #[.int .i64 0, .int .i64 0, .string ⟨#[]⟩, .slice none 0 0] 28)) 0 0 ⟨#[]⟩ none 0 0).below (ab (.cells #[.int .i64 0, .int .i64 0, .string ⟨#[]⟩, .slice none 0 0] 28))).below (ab (.cells #[.int .i64 0, .int .i64 0, .string ⟨#[]⟩, .slice none 0 0] 28))
    rwa [heap_size_alloc, heap_size_alloc, heap_size_alloc] at this
  have HZ2 : Hid (RowT 28 ((((((w.alloc (.cells #[.int .i64 op, .int .i64 n, .string s, .slice a len cap] 28)).alloc (.cells #[.int .i64 op2, .int .i64 n2, .string s2, .slice a2 len2 cap2] 28)).alloc (.cells #[.int .i64 0, .int .i64 0, .string ⟨#[]⟩, .slice none 0 0] 28)).alloc (.cells #[.int .i64 0, .int .i64 0, .string ⟨#[]⟩, .slice none 0 0] 28)).alloc (.cells #[.int .i64 0, .int .i64 0, .string ⟨#[]⟩, .slice none 0 0] 28)).alloc (.cells #[.int .i64 0, .int .i64 0, .string ⟨#[]⟩, .slice none 0 0] 28)) (w.heap.size + 1 + 1 + 1 + 1) 0 0 ⟨#[]⟩ none 0 0) := by
    have := (RowT.new 28 ((((w.alloc (.cells #[.int .i64 op, .int .i64 n, .string s, .slice a len cap] 28)).alloc (.cells #[.int .i64 op2, .int .i64 n2, .string s2, .slice a2 len2 cap2] 28)).alloc (.cells #[.int .i64 0, .int .i64 0, .string ⟨#[]⟩, .slice none 0 0] 28)).alloc (.cells #[.int .i64 0, .int .i64 0, .string ⟨#[]⟩, .slice none 0 0] 28)) 0 0 ⟨#[]⟩ none 0 0).below (ab (.cells #[.int .i64 0, .int .i64 0, .string ⟨#[]⟩, .slice none 0 0] 28))
    rwa [heap_size_alloc, heap_size_alloc, heap_size_alloc, heap_size_alloc] at this
  have HZ3 : Hid (RowT 28 ((((((w.alloc (.cells #[.int .i64 op, .int .i64 n, .string s, .slice a len cap] 28)).alloc (.cells #[.int .i64 op2, .int .i64 n2, .string s2, .slice a2 len2 cap2] 28)).alloc (.cells #[.int .i64 0, .int .i64 0, .string ⟨#[]⟩, .slice none 0 0] 28)).alloc (.cells #[.int .i64 0, .int .i64 0, .string ⟨#[]⟩, .slice none 0 0] 28)).alloc (.cells #[.int .i64 0, .int .i64 0, .string ⟨#[]⟩, .slice none 0 0] 28)).alloc (.cells #[.int .i64 0, .int .i64 0, .string ⟨#[]⟩, .slice none 0 0] 28)) (w.heap.size + 1 + 1 + 1 + 1 + 1) 0 0 ⟨#[]⟩ none 0 0) := by
    have := RowT.new 28 (((((w.alloc (.cells #[.int .i64 op, .int .i64 n, .string s, .slice a len cap] 28)).alloc (.cells #[.int .i64 op2, .int .i64 n2, .string s2, .slice a2 len2 cap2] 28)).alloc (.cells #[.int .i64 0, .int .i64 0, .string ⟨#[]⟩, .slice none 0 0] 28)).alloc (.cells #[.int .i64 0, .int .i64 0, .string ⟨#[]⟩, .slice none 0 0] 28)).alloc (.cells #[.int .i64 0, .int .i64 0, .string ⟨#[]⟩, .slice none 0 0] 28)) 0 0 ⟨#[]⟩ none 0 0
    rwa [heap_size_alloc, heap_size_alloc, heap_size_alloc, heap_size_alloc, heap_size_alloc] at this
  have HLE := hide (hl.below hb0)
  have HL2 := hide (hl2.below hb0)
  have HER := hide (he.on hb0)
  have HTB := hide (htab.on hb0)
  have HB0 := hide hb0
  have HH := hide h
  have HST := hide hst
  clear he hl hl2 hb0 htab h hst
  go_enter Tryz.func7, Tryz.ntmps7
  go_wp2_with fail
  generalize hgw : ((((((w.alloc (.cells #[.int .i64 op, .int .i64 n, .string s, .slice a len cap] 28)).alloc (.cells #[.int .i64 op2, .int .i64 n2, .string s2, .slice a2 len2 cap2] 28)).alloc (.cells #[.int .i64 0, .int .i64 0, .string ⟨#[]⟩, .slice none 0 0] 28)).alloc (.cells #[.int .i64 0, .int .i64 0, .string ⟨#[]⟩, .slice none 0 0] 28)).alloc (.cells #[.int .i64 0, .int .i64 0, .string ⟨#[]⟩, .slice none 0 0] 28)).alloc (.cells #[.int .i64 0, .int .i64 0, .string ⟨#[]⟩, .slice none 0 0] 28)) = W1 at *
  clear hgw
  refine (readI_some e t pub sh c g op n s a len cap op2 n2 s2 a2 len2 cap2 x _ (unhide HER) (unhide HTB) (unhide HLE) (unhide HL2) (unhide HST) (unhide HH)).mono ?_
  rintro q w1 ⟨op4, n4, s4, a4, len4, cap4, op6, n6, s6, a6, len6, cap6, op9, n9, s9, a9, len9, cap9, op10, n10, s10, a10, len10, cap10, rfl, h4, h6, h9, h10, hb1⟩
  have HOK := hide (replyO_ok (unhide HH))
  have HL4 := hide h4
  have HL6 := hide h6
  have HL9 := hide h9
  have HL10 := hide h10
  clear h4 h6 h9 h10 HH HST
  have HR : Hid (RowV (w1.alloc (.cells #[.int .i64 0, .int .i64 0, .string ⟨#[]⟩, .slice none 0 0, .int .i64 0, .int .i64 0, .string ⟨#[]⟩, .slice none 0 0, .int .i64 0, .int .i64 0, .string ⟨#[]⟩, .slice none 0 0, .int .i64 0, .int .i64 0, .string ⟨#[]⟩, .slice none 0 0] 44)) w1.heap.size #[.int .i64 0, .int .i64 0, .string ⟨#[]⟩, .slice none 0 0, .int .i64 0, .int .i64 0, .string ⟨#[]⟩, .slice none 0 0, .int .i64 0, .int .i64 0, .string ⟨#[]⟩, .slice none 0 0, .int .i64 0, .int .i64 0, .string ⟨#[]⟩, .slice none 0 0]) := RowV.new w1 _ rfl
  have HBR : Hid (Below w1.heap.size w1 (w1.alloc (.cells #[.int .i64 0, .int .i64 0, .string ⟨#[]⟩, .slice none 0 0, .int .i64 0, .int .i64 0, .string ⟨#[]⟩, .slice none 0 0, .int .i64 0, .int .i64 0, .string ⟨#[]⟩, .slice none 0 0, .int .i64 0, .int .i64 0, .string ⟨#[]⟩, .slice none 0 0] 44))) := ab _
  have HB1 := hide (bt (unhide HB0) hb1 (Nat.le_refl _))
  have HE1 := hide ((unhide HER).on hb1)
  have HZ0 := hide ((unhide HZ0).below hb1)
  have HZ1 := hide ((unhide HZ1).below hb1)
  have HZ2 := hide ((unhide HZ2).below hb1)
  have HZ3 := hide ((unhide HZ3).below hb1)
  have HLT : Hid (w.heap.size + 6 ≤ w1.heap.size) := by have := hb1.size; have := (unhide HZ3).lt; show _ ≤ _; omega
  clear hb1 HB0 HER HLE HL2 HTB
  go_wp2_with (refine wpList_storeR rfl (.tmp 9) (.tmp 23) rfl #[.int .i64 op4, .int .i64 n4, .string s4, .slice a4 len4 cap4, .int .i64 op6, .int .i64 n6, .string s6, .slice a6 len6 cap6, .int .i64 op9, .int .i64 n9, .string s9, .slice a9 len9 cap9, .int .i64 op10, .int .i64 n10, .string s10, .slice a10 len10 cap10] (unhide HR) rfl (by simp [Value.oneCell']) rfl rfl (unhide HBR) (Nat.le_refl _) ?_; intro W hW hBW; have x0 : W.cell? ⟨w1.heap.size, 0, none⟩ = some (.int .i64 op4) := (by simpa using hW.cells 0 _ rfl); have x1 : W.cell? ⟨w1.heap.size, 1, none⟩ = some (.int .i64 n4) := (by simpa using hW.cells 1 _ rfl); have x2 : W.cell? ⟨w1.heap.size, 2, none⟩ = some (.string s4) := (by simpa using hW.cells 2 _ rfl); have x3 : W.cell? ⟨w1.heap.size, 3, none⟩ = some (.slice a4 len4 cap4) := (by simpa using hW.cells 3 _ rfl); have HW := hide hW; have HBW := hide hBW; clear hW hBW)
  have HB2 := hide (bt (unhide HB1) (unhide HBW) (Nat.le_refl _))
  have HE2 := hide ((unhide HE1).on (unhide HBW))
  have HZ0 := hide ((unhide HZ0).below (unhide HBW))
  have HZ1 := hide ((unhide HZ1).below (unhide HBW))
  have HZ2 := hide ((unhide HZ2).below (unhide HBW))
  have HZ3 := hide ((unhide HZ3).below (unhide HBW))
  have HLT2 := hide (unhide HBW).size
  have HRL : Hid (w1.heap.size < W.heap.size) := by have := ((unhide HW).there 0 (by omega)).1; obtain ⟨u, hu⟩ := Option.isSome_iff_exists.1 this; exact lt_of_cell hu
  clear HR HBR HB1 HE1
  have HL4 := hide ((unhide HL4).below (unhide HBW))
  have HL6 := hide ((unhide HL6).below (unhide HBW))
  have HL9 := hide ((unhide HL9).below (unhide HBW))
  have HL10 := hide ((unhide HL10).below (unhide HBW))
  clear HBW
  clear x0 x1 x2 x3
  refine (answer_yes pub op4 n4 s4 a4 len4 cap4 x _ (unhide HL4) (by have := okT_small (unhide HOK).1; omega) (unhide HE2)).mono ?_
  rintro q w2 ⟨a4', cap4', f4, rfl, hO, ⟨hnd, hge⟩, hb⟩
  have hp := bt hb (ab (.cells #[.int .i64 op4, .int .i64 n4, .string s4, .slice a4' len4 cap4'] 28)) (Nat.le_refl _)
  have HB2 := hide (bt (unhide HB2) hp (Nat.le_refl _))
  have HE2 := hide ((unhide HE2).on hp)
  have HW := hide ((unhide HW).below hp)
  have HZ0 := hide ((unhide HZ0).below hp)
  have HZ1 := hide ((unhide HZ1).below hp)
  have HZ2 := hide ((unhide HZ2).below hp)
  have HZ3 := hide ((unhide HZ3).below hp)
  have HX0 := hide (RowT.new 28 w2 op4 n4 s4 a4' len4 cap4')
  have HL6 := hide ((unhide HL6).below hp)
  have HL9 := hide ((unhide HL9).below hp)
  have HL10 := hide ((unhide HL10).below hp)
  have HO0 := hide (hO.below (ab (.cells #[.int .i64 op4, .int .i64 n4, .string s4, .slice a4' len4 cap4'] 28)))
  have HND0 := hide hnd
  have HI0 : Hid (∀ y ∈ f4, W.heap.size ≤ y ∧ y < w2.heap.size) := fun y hy => ⟨by have := hge y hy; omega, Own.lt _ _ _ hO y hy⟩
  have HJ0 : Hid (W.heap.size ≤ w2.heap.size) := by have := hb.size; show _ ≤ _; omega
  clear hO hnd hge HL4
  have HK0 : Hid (w2.heap.size + 1 = (w2.alloc (.cells #[.int .i64 op4, .int .i64 n4, .string s4, .slice a4' len4 cap4'] 28)).heap.size) := by show _ = _; rw [heap_size_alloc]
  clear hb hp
  have x0 : (w2.alloc (.cells #[.int .i64 op4, .int .i64 n4, .string s4, .slice a4' len4 cap4'] 28)).cell? ⟨w1.heap.size, 4, none⟩ = some (.int .i64 op6) := by simpa using (unhide HW).cells 4 _ rfl
  have x1 : (w2.alloc (.cells #[.int .i64 op4, .int .i64 n4, .string s4, .slice a4' len4 cap4'] 28)).cell? ⟨w1.heap.size, 5, none⟩ = some (.int .i64 n6) := by simpa using (unhide HW).cells 5 _ rfl
  have x2 : (w2.alloc (.cells #[.int .i64 op4, .int .i64 n4, .string s4, .slice a4' len4 cap4'] 28)).cell? ⟨w1.heap.size, 6, none⟩ = some (.string s6) := by simpa using (unhide HW).cells 6 _ rfl
  have x3 : (w2.alloc (.cells #[.int .i64 op4, .int .i64 n4, .string s4, .slice a4' len4 cap4'] 28)).cell? ⟨w1.heap.size, 7, none⟩ = some (.slice a6 len6 cap6) := by simpa using (unhide HW).cells 7 _ rfl
  go_wp2_with fail
  clear x0 x1 x2 x3
  generalize hgw : w2.alloc (.cells #[.int .i64 op4, .int .i64 n4, .string s4, .slice a4' len4 cap4'] 28) = V0 at *
  clear hgw
  generalize w2.heap.size = b0 at *
  refine (answer_yes sh op6 n6 s6 a6 len6 cap6 x _ (unhide HL6) (by have := okT_small (unhide HOK).2.1; omega) (unhide HE2)).mono ?_
  rintro q w3 ⟨a6', cap6', f6, rfl, hO, ⟨hnd, hge⟩, hb⟩
  have hp := bt hb (ab (.cells #[.int .i64 op6, .int .i64 n6, .string s6, .slice a6' len6 cap6'] 28)) (Nat.le_refl _)
  have HB2 := hide (bt (unhide HB2) hp (Nat.le_refl _))
  have HE2 := hide ((unhide HE2).on hp)
  have HW := hide ((unhide HW).below hp)
  have HZ0 := hide ((unhide HZ0).below hp)
  have HZ1 := hide ((unhide HZ1).below hp)
  have HZ2 := hide ((unhide HZ2).below hp)
  have HZ3 := hide ((unhide HZ3).below hp)
  have HX0 := hide ((unhide HX0).below hp)
  have HX1 := hide (RowT.new 28 w3 op6 n6 s6 a6' len6 cap6')
  have HO0 := hide ((unhide HO0).below hp)
  have HL9 := hide ((unhide HL9).below hp)
  have HL10 := hide ((unhide HL10).below hp)
  have HO1 := hide (hO.below (ab (.cells #[.int .i64 op6, .int .i64 n6, .string s6, .slice a6' len6 cap6'] 28)))
  have HND1 := hide hnd
  have HI1 : Hid (∀ y ∈ f6, b0 < y ∧ y < w3.heap.size) := fun y hy => ⟨by have := hge y hy; have := unhide HK0; omega, Own.lt _ _ _ hO y hy⟩
  have HJ1 : Hid (b0 < w3.heap.size) := by have := hb.size; have := unhide HK0; show _ < _; omega
  clear hO hnd hge HL6
  have HK1 : Hid (w3.heap.size + 1 = (w3.alloc (.cells #[.int .i64 op6, .int .i64 n6, .string s6, .slice a6' len6 cap6'] 28)).heap.size) := by show _ = _; rw [heap_size_alloc]
  clear hb hp
  have x0 : (w3.alloc (.cells #[.int .i64 op6, .int .i64 n6, .string s6, .slice a6' len6 cap6'] 28)).cell? ⟨w1.heap.size, 8, none⟩ = some (.int .i64 op9) := by simpa using (unhide HW).cells 8 _ rfl
  have x1 : (w3.alloc (.cells #[.int .i64 op6, .int .i64 n6, .string s6, .slice a6' len6 cap6'] 28)).cell? ⟨w1.heap.size, 9, none⟩ = some (.int .i64 n9) := by simpa using (unhide HW).cells 9 _ rfl
  have x2 : (w3.alloc (.cells #[.int .i64 op6, .int .i64 n6, .string s6, .slice a6' len6 cap6'] 28)).cell? ⟨w1.heap.size, 10, none⟩ = some (.string s9) := by simpa using (unhide HW).cells 10 _ rfl
  have x3 : (w3.alloc (.cells #[.int .i64 op6, .int .i64 n6, .string s6, .slice a6' len6 cap6'] 28)).cell? ⟨w1.heap.size, 11, none⟩ = some (.slice a9 len9 cap9) := by simpa using (unhide HW).cells 11 _ rfl
  go_wp2_with fail
  clear x0 x1 x2 x3
  generalize hgw : w3.alloc (.cells #[.int .i64 op6, .int .i64 n6, .string s6, .slice a6' len6 cap6'] 28) = V1 at *
  clear hgw
  generalize w3.heap.size = b1 at *
  refine (answer_yes c op9 n9 s9 a9 len9 cap9 x _ (unhide HL9) (by have := okT_small (unhide HOK).2.2.1; omega) (unhide HE2)).mono ?_
  rintro q w4 ⟨a9', cap9', f9, rfl, hO, ⟨hnd, hge⟩, hb⟩
  have hp := bt hb (ab (.cells #[.int .i64 op9, .int .i64 n9, .string s9, .slice a9' len9 cap9'] 28)) (Nat.le_refl _)
  have HB2 := hide (bt (unhide HB2) hp (Nat.le_refl _))
  have HE2 := hide ((unhide HE2).on hp)
  have HW := hide ((unhide HW).below hp)
  have HZ0 := hide ((unhide HZ0).below hp)
  have HZ1 := hide ((unhide HZ1).below hp)
  have HZ2 := hide ((unhide HZ2).below hp)
  have HZ3 := hide ((unhide HZ3).below hp)
  have HX0 := hide ((unhide HX0).below hp)
  have HX1 := hide ((unhide HX1).below hp)
  have HX2 := hide (RowT.new 28 w4 op9 n9 s9 a9' len9 cap9')
  have HO0 := hide ((unhide HO0).below hp)
  have HO1 := hide ((unhide HO1).below hp)
  have HL10 := hide ((unhide HL10).below hp)
  have HO2 := hide (hO.below (ab (.cells #[.int .i64 op9, .int .i64 n9, .string s9, .slice a9' len9 cap9'] 28)))
  have HND2 := hide hnd
  have HI2 : Hid (∀ y ∈ f9, b1 < y ∧ y < w4.heap.size) := fun y hy => ⟨by have := hge y hy; have := unhide HK1; omega, Own.lt _ _ _ hO y hy⟩
  have HJ2 : Hid (b1 < w4.heap.size) := by have := hb.size; have := unhide HK1; show _ < _; omega
  clear hO hnd hge HL9
  have HK2 : Hid (w4.heap.size + 1 = (w4.alloc (.cells #[.int .i64 op9, .int .i64 n9, .string s9, .slice a9' len9 cap9'] 28)).heap.size) := by show _ = _; rw [heap_size_alloc]
  clear hb hp
  have x0 : (w4.alloc (.cells #[.int .i64 op9, .int .i64 n9, .string s9, .slice a9' len9 cap9'] 28)).cell? ⟨w1.heap.size, 12, none⟩ = some (.int .i64 op10) := by simpa using (unhide HW).cells 12 _ rfl
  have x1 : (w4.alloc (.cells #[.int .i64 op9, .int .i64 n9, .string s9, .slice a9' len9 cap9'] 28)).cell? ⟨w1.heap.size, 13, none⟩ = some (.int .i64 n10) := by simpa using (unhide HW).cells 13 _ rfl
  have x2 : (w4.alloc (.cells #[.int .i64 op9, .int .i64 n9, .string s9, .slice a9' len9 cap9'] 28)).cell? ⟨w1.heap.size, 14, none⟩ = some (.string s10) := by simpa using (unhide HW).cells 14 _ rfl
  have x3 : (w4.alloc (.cells #[.int .i64 op9, .int .i64 n9, .string s9, .slice a9' len9 cap9'] 28)).cell? ⟨w1.heap.size, 15, none⟩ = some (.slice a10 len10 cap10) := by simpa using (unhide HW).cells 15 _ rfl
  go_wp2_with fail
  clear x0 x1 x2 x3
  generalize hgw : w4.alloc (.cells #[.int .i64 op9, .int .i64 n9, .string s9, .slice a9' len9 cap9'] 28) = V2 at *
  clear hgw
  generalize w4.heap.size = b2 at *
  refine (answer_yes g op10 n10 s10 a10 len10 cap10 x _ (unhide HL10) (by have := okT_small (unhide HOK).2.2.2; omega) (unhide HE2)).mono ?_
  rintro q w5 ⟨a10', cap10', f10, rfl, hO, ⟨hnd, hge⟩, hb⟩
  have hp := bt hb (ab (.cells #[.int .i64 op10, .int .i64 n10, .string s10, .slice a10' len10 cap10'] 28)) (Nat.le_refl _)
  have HB2 := hide (bt (unhide HB2) hp (Nat.le_refl _))
  have HE2 := hide ((unhide HE2).on hp)
  have HW := hide ((unhide HW).below hp)
  have HZ0 := hide ((unhide HZ0).below hp)
  have HZ1 := hide ((unhide HZ1).below hp)
  have HZ2 := hide ((unhide HZ2).below hp)
  have HZ3 := hide ((unhide HZ3).below hp)
  have HX0 := hide ((unhide HX0).below hp)
  have HX1 := hide ((unhide HX1).below hp)
  have HX2 := hide ((unhide HX2).below hp)
  have HX3 := hide (RowT.new 28 w5 op10 n10 s10 a10' len10 cap10')
  have HO0 := hide ((unhide HO0).below hp)
  have HO1 := hide ((unhide HO1).below hp)
  have HO2 := hide ((unhide HO2).below hp)
  have HO3 := hide (hO.below (ab (.cells #[.int .i64 op10, .int .i64 n10, .string s10, .slice a10' len10 cap10'] 28)))
  have HND3 := hide hnd
  have HI3 : Hid (∀ y ∈ f10, b2 < y ∧ y < w5.heap.size) := fun y hy => ⟨by have := hge y hy; have := unhide HK2; omega, Own.lt _ _ _ hO y hy⟩
  have HJ3 : Hid (b2 < w5.heap.size) := by have := hb.size; have := unhide HK2; show _ < _; omega
  clear hO hnd hge HL10
  have HK3 : Hid (w5.heap.size + 1 = (w5.alloc (.cells #[.int .i64 op10, .int .i64 n10, .string s10, .slice a10' len10 cap10'] 28)).heap.size) := by show _ = _; rw [heap_size_alloc]
  clear hb hp
  go_wp2_with fail
  generalize hgw : w5.alloc (.cells #[.int .i64 op10, .int .i64 n10, .string s10, .slice a10' len10 cap10'] 28) = V3 at *
  clear hgw
  generalize w5.heap.size = b3 at *
  have FF := far4 (unhide HLT) (unhide HLT2) (unhide HJ0) (unhide HJ1) (unhide HJ2) (unhide HJ3)
  have F0 := ne_far FF.1
  have F1 := ne_far FF.2.1
  have F2 := ne_far FF.2.2.1
  have F3 := ne_far FF.2.2.2
  refine wp_region_held (S := fun y => RowT 28 y b0 op4 n4 s4 a4' len4 cap4' ∧ RowT 28 y b1 op6 n6 s6 a6' len6 cap6' ∧ RowT 28 y b2 op9 n9 s9 a9' len9 cap9' ∧ RowT 28 y b3 op10 n10 s10 a10' len10 cap10') (by kernel_rfl) ?_
  have hS : (fun y : World => RowT 28 y b0 op4 n4 s4 a4' len4 cap4' ∧ RowT 28 y b1 op6 n6 s6 a6' len6 cap6' ∧ RowT 28 y b2 op9 n9 s9 a9' len9 cap9' ∧ RowT 28 y b3 op10 n10 s10 a10' len10 cap10') V3.drew := ⟨unhide HX0, unhide HX1, unhide HX2, unhide HX3⟩
  show wpAnyH _ _ _ _ _ _ _ _ V3.drew
  refine take_load (i := 0) rfl rfl (fun y h => h.1) (by kernel_rfl) (by kernel_rfl) (by kernel_rfl) (fun _ _ _ _ h => h) hS ?_
  simp only [Act.put, List.setIfInBounds_toArray, List.set_cons_succ, List.set_cons_zero]
  refine take_load (i := 1) rfl rfl (fun y h => h.2.1) (by kernel_rfl) (by kernel_rfl) (by kernel_rfl) (fun _ _ _ _ h => h) hS ?_
  simp only [Act.put, List.setIfInBounds_toArray, List.set_cons_succ, List.set_cons_zero]
  refine take_load (i := 2) rfl rfl (fun y h => h.2.2.1) (by kernel_rfl) (by kernel_rfl) (by kernel_rfl) (fun _ _ _ _ h => h) hS ?_
  simp only [Act.put, List.setIfInBounds_toArray, List.set_cons_succ, List.set_cons_zero]
  refine take_load (i := 3) rfl rfl (fun y h => h.2.2.2) (by kernel_rfl) (by kernel_rfl) (by kernel_rfl) (fun _ _ _ _ h => h) hS ?_
  simp only [Act.put, List.setIfInBounds_toArray, List.set_cons_succ, List.set_cons_zero]
  refine take_move (i := 4) rfl rfl (by kernel_rfl) (by kernel_rfl) (by kernel_rfl) (fun _ _ _ _ h => h) hS ?_
  simp only [Act.put, List.setIfInBounds_toArray, List.set_cons_succ, List.set_cons_zero]
  refine all_store (i := 5) (by kernel_rfl) rfl rfl rfl (unhide HZ0) (⟨RowT.other hS.1 F0.1, RowT.other hS.2.1 F1.1, RowT.other hS.2.2.1 F2.1, RowT.other hS.2.2.2 F3.1⟩) fun hS => ?_
  refine all_store (i := 6) (by kernel_rfl) rfl rfl rfl (RowT.other (unhide HZ1) (zne _).1.1) (⟨RowT.other hS.1 F0.2.1, RowT.other hS.2.1 F1.2.1, RowT.other hS.2.2.1 F2.2.1, RowT.other hS.2.2.2 F3.2.1⟩) fun hS => ?_
  refine all_store (i := 7) (by kernel_rfl) rfl rfl rfl (RowT.other (RowT.other (unhide HZ2) (zne _).1.2.1) (zne _).2.1.1) (⟨RowT.other hS.1 F0.2.2.1, RowT.other hS.2.1 F1.2.2.1, RowT.other hS.2.2.1 F2.2.2.1, RowT.other hS.2.2.2 F3.2.2.1⟩) fun hS => ?_
  refine all_store (i := 8) (by kernel_rfl) rfl rfl rfl (RowT.other (RowT.other (RowT.other (unhide HZ3) (zne _).1.2.2) (zne _).2.1.2) (zne _).2.2) (⟨RowT.other hS.1 F0.2.2.2, RowT.other hS.2.1 F1.2.2.2, RowT.other hS.2.2.1 F2.2.2.2, RowT.other hS.2.2.2 F3.2.2.2⟩) fun hS => ?_
  refine all_assign (i := 9) (by kernel_rfl) rfl rfl hS ?_
  refine wpAnyH_done (by kernel_rfl) ?_ _
  simp only [Act.put, List.setIfInBounds_toArray, List.set_cons_succ, List.set_cons_zero]
  go_wp2_with fail
  obtain ⟨r0, r1, r2, r3⟩ := fill_four (w := V3.drew) (op0 := op4) (n0 := n4) (s0 := s4) (a0 := a4') (l0 := len4) (k0 := cap4') (op1 := op6) (n1 := n6) (s1 := s6) (a1 := a6') (l1 := len6) (k1 := cap6') (op2 := op9) (n2 := n9) (s2 := s9) (a2 := a9') (l2 := len9) (k2 := cap9') (op3 := op10) (n3 := n10) (s3 := s10) (a3 := a10') (l3 := len10) (k3 := cap10') (unhide HZ0) (unhide HZ1) (unhide HZ2) (unhide HZ3)
  refine bodyPost_ret (v := .tuple #[.agg #[.int .i64 op4, .int .i64 n4, .string s4, .slice a4' len4 cap4'], .agg #[.int .i64 op6, .int .i64 n6, .string s6, .slice a6' len6 cap6'], .agg #[.int .i64 op9, .int .i64 n9, .string s9, .slice a9' len9 cap9'], .agg #[.int .i64 op10, .int .i64 n10, .string s10, .slice a10' len10 cap10'], .bool true]) (results_cells4 Tryz.results7 rfl rfl rfl rfl (RowT.load r0) (RowT.load r1) (RowT.load r2) (RowT.load r3)) rfl ⟨_, _, _, _, _, _, _, _, _, _, _, _, _, _, _, _, _, _, _, _, _, _, _, _, _, _, _, _, rfl, Own.keep _ _ _ (unhide HO0) (fun y hy => (fill_four_heap (w := V3.drew) (far_lt (unhide HLT) (unhide HLT2) (unhide HI0 y hy).1)).trans rfl), Own.keep _ _ _ (unhide HO1) (fun y hy => (fill_four_heap (w := V3.drew) (far_lt' FF.1 (unhide HI1 y hy).1)).trans rfl), Own.keep _ _ _ (unhide HO2) (fun y hy => (fill_four_heap (w := V3.drew) (far_lt' FF.2.1 (unhide HI2 y hy).1)).trans rfl), Own.keep _ _ _ (unhide HO3) (fun y hy => (fill_four_heap (w := V3.drew) (far_lt' FF.2.2.1 (unhide HI3 y hy).1)).trans rfl), ⟨unhide HND0, unhide HND1, unhide HND2, unhide HND3⟩, ⟨W.heap.size, b0, b1, b2, Nat.le_trans (Nat.le_trans (Nat.le_add_right _ 6) (unhide HLT)) (unhide HLT2), unhide HJ0, Nat.le_of_lt (unhide HJ1), Nat.le_of_lt (unhide HJ2), le_fill4 (w := V3.drew) (Nat.le_trans (Nat.le_succ_of_le (Nat.le_of_lt (unhide HJ3))) (Nat.le_of_eq (unhide HK3))), unhide HI0, fun y hy => unhide HI1 y hy, fun y hy => unhide HI2 y hy, fun y hy => (unhide HI3 y hy).1⟩, fill_four_below (w := V3.drew) (unhide HB2).drew (le_two _)⟩

theorem replyO_named_none {e t : Tm} (h : behO 3 (textT replyW) t = none) : replyO e t = none := by
  obtain ⟨op, n, s, ks⟩ := t
  cases hok : okT (.node op n s ks) with
  | false => simp [replyO, inO, hok]
  | true =>
    by_cases h3 : op = 3
    · subst h3
      obtain ⟨k0, k1, rfl⟩ := ok_two (Or.inl rfl) hok
      simp only [behO, hok, decide_true, Bool.true_and] at h
      have hs : sameB k0 (textT replyW) = false := by
        cases hs : sameB k0 (textT replyW) with
        | false => rfl
        | true => rw [hs] at h; simp at h
      simp only [replyO, inO, hok, if_true, rowO_yes]
      cases hr : rowO 1 k1 with
      | none => rfl
      | some l =>
        have hl := rowO_len 1 k1 l hr
        match l, hl with
        | [p, q], _ => simp [hs]
    · simp [replyO, inO, hok, rowO_no h3]
theorem replyO_named_op {e t k : Tm} (h : behO 3 (textT replyW) t = some k) (h3 : k.opOf ≠ 3) : replyO e t = none := by
  obtain ⟨n, s, k0, rfl, hok, hs⟩ := behO_some h
  obtain ⟨ko, kn, ks, kk⟩ := k
  simp [replyO, inO, hok, rowO_yes, rowO_no (show ko ≠ 3 from h3)]
theorem inO_of_named {t : Tm} {n : Int} {s : ByteArray} {pub sealed : Tm} (h : behO 3 (textT replyW) t = some (.node 3 n s [pub, sealed])) : okT pub = true ∧ okT sealed = true ∧ pub.size + sealed.size ≤ t.size ∧ ∃ k0, sameB k0 (textT replyW) = true ∧ inO 2 t = some [k0, pub, sealed] := by
  obtain ⟨n', s', k0, rfl, hok, hs⟩ := behO_some h
  have h1 := okT_kid hok (x := .node 3 n s [pub, sealed]) (by simp)
  refine ⟨okT_kid h1 (by simp), okT_kid h1 (by simp), ?_, k0, hs, ?_⟩
  · simp only [Tm.size, Tm.sizes]; omega
  · simp [inO, hok, rowO]
theorem replyO_agree_no {e t : Tm} {n : Int} {s : ByteArray} {pub sealed : Tm} (h : behO 3 (textT replyW) t = some (.node 3 n s [pub, sealed])) (ha : agreeB e pub = false) : replyO e t = none := by
  obtain ⟨hp, -, -, k0, hs, hi⟩ := inO_of_named h
  have hb : shrB e pub = false := by
    cases hb : shrB e pub with
    | false => rfl
    | true => rw [sh_agree hb ha] at hp; cases hp
  simp [replyO, hi, hs, hb]
theorem replyO_open_no {e t : Tm} {n : Int} {s : ByteArray} {pub sealed : Tm} (h : behO 3 (textT replyW) t = some (.node 3 n s [pub, sealed])) (ha : agreeB e pub = true) (ho : openO (keyT (agreeT e pub) 0) 0 sealed = none) : replyO e t = none := by
  obtain ⟨hp, -, -, k0, hs, hi⟩ := inO_of_named h
  obtain ⟨hb, he⟩ := agree_sh ha
  rw [he] at ho
  simp [replyO, hi, hs, hb, ho]
theorem replyO_body_no {e t : Tm} {n : Int} {s : ByteArray} {pub sealed body : Tm} (h : behO 3 (textT replyW) t = some (.node 3 n s [pub, sealed])) (ha : agreeB e pub = true) (ho : openO (keyT (agreeT e pub) 0) 0 sealed = some body) (h3 : body.opOf ≠ 3) : replyO e t = none := by
  obtain ⟨hp, -, -, k0, hs, hi⟩ := inO_of_named h
  obtain ⟨hb, he⟩ := agree_sh ha
  have hok := openO_ok ho
  rw [he] at ho
  have hin : inO 1 body = none := by
    obtain ⟨ko, kn, ks, kk⟩ := body
    simp [inO, rowO_no (show ko ≠ 3 from h3)]
  simp [replyO, hi, hs, hb, ho, hin]
theorem replyO_body_yes {e t : Tm} {n n2 : Int} {s s2 : ByteArray} {pub sealed c g : Tm} (h : behO 3 (textT replyW) t = some (.node 3 n s [pub, sealed])) (ha : agreeB e pub = true) (ho : openO (keyT (agreeT e pub) 0) 0 sealed = some (.node 3 n2 s2 [c, g])) : replyO e t = some (pub, agreeT e pub, c, g) := by
  obtain ⟨hp, -, -, k0, hs, hi⟩ := inO_of_named h
  obtain ⟨hb, he⟩ := agree_sh ha
  have hok := openO_ok ho
  rw [he] at ho ⊢
  have hin : inO 1 (.node 3 n2 s2 [c, g]) = some [c, g] := by simp [inO, hok, rowO]
  simp [replyO, hi, hs, hb, ho, hin]

/-- The kids are right. -/
def KidsOk (t : Tm) : Prop := ∀ x ∈ t.kids, okT x = true
theorem KidsOk.of {t : Tm} (h : okT t = true) : KidsOk t := by
  cases t with
  | node op n s ks => exact fun x hx => okT_kid h hx
theorem KidsOk.zero : KidsOk (.node 0 0 ByteArray.empty []) := fun x hx => by simp [Tm.kids] at hx
theorem Lies.apartK {w w' : World} {L g : Nat} (hz : ZBox w g) (hc : ∀ b o, b ≠ g → w'.cell? ⟨b, o, none⟩ = w.cell? ⟨b, o, none⟩) : ∀ (t : Tm) (cs : List Value), KidsOk t → Lies w L t cs → Lies w' L t cs
  | .node op n s ks, cs, hk, h => by
    simp only [Lies] at h ⊢
    obtain ⟨a, cap, rfl, h1, h2, h4⟩ := h
    exact ⟨a, cap, rfl, h1, h2, LiesAll.apartZ hz hc a 0 ks hk h4⟩
def CutK (T : Tm) (w2 : World) (ev : Value) (p q : Value) (wx : World) : Prop := ∃ b op n s a len cap, p = .pointer (some ⟨b, 0, none⟩) ∧ q = ev ∧ w2.heap.size ≤ b ∧ RowT 28 wx b op n s a len cap ∧ Lies wx 0 T (tmCells op n s a len cap) ∧ Below w2.heap.size w2 wx
theorem CutK.late {T : Tm} {w2 w5 : World} {op n : Int} {s : ByteArray} {a : Option Addr} {len cap : Nat} {ev : Value} (hb : Below w2.heap.size w2 w5) (hl : Lies w5 0 T (tmCells op n s a len cap)) : CutK T w2 ev (.pointer (some ⟨w5.heap.size, 0, none⟩)) ev (w5.alloc (.cells #[.int .i64 op, .int .i64 n, .string s, .slice a len cap] 28)) :=
  ⟨_, _, _, _, _, _, _, rfl, rfl, hb.size, RowT.new 28 w5 op n s a len cap, hl.below (ab _), bt hb (ab _) (Nat.le_refl _)⟩
theorem CutK.early {T : Tm} {w2 w5 : World} {g : Nat} {op n : Int} {s : ByteArray} {a : Option Addr} {len cap : Nat} {ev : Value} (hb : Below w2.heap.size w2 w5) (hz : ZBox w5 g) (hg : w2.heap.size ≤ g) (hok : KidsOk T) (hl : Lies w5 0 T (tmCells op n s a len cap)) : CutK T w2 ev (.pointer (some ⟨g, 0, none⟩)) ev ((((w5.setCell ⟨g, 0, none⟩ (.int .i64 op)).setCell ⟨g, 1, none⟩ (.int .i64 n)).setCell ⟨g, 2, none⟩ (.string s)).setCell ⟨g, 3, none⟩ (.slice a len cap)) :=
  ⟨_, _, _, _, _, _, _, rfl, rfl, hg, fill26 hz op n s a len cap, Lies.apartK hz (fun b _ hne => World.cell?_of_block (set4_heap _ _ _ _ _ _ b hne)) T _ hok hl, set4_below hb hg⟩

/-- spec.Open, told alike whether it opens. -/
def openT (k : Tm) (m : Int) (t : Tm) : Tm := (openO k m t).getD (.node 0 0 ByteArray.empty [])
theorem openT_kids (k : Tm) (m : Int) (t : Tm) : KidsOk (openT k m t) := by
  unfold openT
  cases h : openO k m t with
  | none => exact KidsOk.zero
  | some v => exact KidsOk.of (openO_ok h)
theorem openS_any (k t : Tm) (m op n : Int) (s : ByteArray) (a : Option Addr) (len cap : Nat) (op2 n2 : Int) (s2 : ByteArray) (a2 : Option Addr) (len2 cap2 : Nat) (w : World) (hlf : Lies w 0 k (tmCells op n s a len cap)) (hl : Lies w 0 t (tmCells op2 n2 s2 a2 len2 cap2)) (hsz : t.size ≤ 2097152) (h0 : -9223372036854775808 ≤ m) (h1 : m ≤ 9223372036854775807) :
    Calls Tryz.prog 14 #[.agg #[.int .i64 op, .int .i64 n, .string s, .slice a len cap], .int .i64 m, .agg #[.int .i64 op2, .int .i64 n2, .string s2, .slice a2 len2 cap2]] w fun e w' => ∃ op' n' s' a' len' cap', e = .returned (.tuple #[.agg #[.int .i64 op', .int .i64 n', .string s', .slice a' len' cap'], .bool (openO k m t).isSome]) ∧ Lies w' 0 (openT k m t) (tmCells op' n' s' a' len' cap') ∧ Below w.heap.size w w' := by
  cases h : openO k m t with
  | none =>
    refine (openS_none k t m op n s a len cap op2 n2 s2 a2 len2 cap2 w hlf hl hsz h0 h1 h).mono ?_
    rintro e w' ⟨rfl, hb⟩
    refine ⟨0, 0, ByteArray.empty, none, 0, 0, rfl, ?_, hb⟩
    unfold openT
    rw [h]
    exact zero_lies w' 0
  | some v =>
    refine (openS_some k t m op n s a len cap op2 n2 s2 a2 len2 cap2 w hlf hl hsz h0 h1 v h).mono ?_
    rintro e w' ⟨op', n', s', a', len', cap', rfl, hL, hb⟩
    refine ⟨op', n', s', a', len', cap', rfl, ?_, hb⟩
    unfold openT
    rw [h]
    exact hL.any (Nat.zero_le _)

set_option maxRecDepth 100000 in
set_option maxHeartbeats 4000000 in
theorem replyS_none (e t : Tm) (op n : Int) (s : ByteArray) (a : Option Addr) (len cap : Nat) (op2 n2 : Int) (s2 : ByteArray) (a2 : Option Addr) (len2 cap2 : Nat) (w : World) (hl : Lies w 0 e (tmCells op n s a len cap)) (hl2 : Lies w 0 t (tmCells op2 n2 s2 a2 len2 cap2)) (hst : e.size + t.size ≤ 1048578) (hb : behO 3 (textT replyW) t = none) : Calls Tryz.prog 5 #[.agg #[.int .i64 op, .int .i64 n, .string s, .slice a len cap], .agg #[.int .i64 op2, .int .i64 n2, .string s2, .slice a2 len2 cap2]] w fun q w' => q = .returned (.tuple #[.agg #[.int .i64 0, .int .i64 0, .string ⟨#[]⟩, .slice none 0 0], .agg #[.int .i64 0, .int .i64 0, .string ⟨#[]⟩, .slice none 0 0], .agg #[.int .i64 0, .int .i64 0, .string ⟨#[]⟩, .slice none 0 0], .agg #[.int .i64 0, .int .i64 0, .string ⟨#[]⟩, .slice none 0 0], .bool false]) ∧ Below w.heap.size w w' := by
  have hN := hide (fun V hl => named_none t replyW (by decide) op2 n2 s2 a2 len2 cap2 V hl (by omega) hb)
  clear hb hst
  have hb0 : Below w.heap.size w (((((((w.alloc (.cells #[.int .i64 op, .int .i64 n, .string s, .slice a len cap] 28)).alloc (.cells #[.int .i64 op2, .int .i64 n2, .string s2, .slice a2 len2 cap2] 28)).alloc (.cells #[.int .i64 0, .int .i64 0, .string ⟨#[]⟩, .slice none 0 0] 28)).alloc (.cells #[.int .i64 0, .int .i64 0, .string ⟨#[]⟩, .slice none 0 0] 28)).alloc (.cells #[.int .i64 0, .int .i64 0, .string ⟨#[]⟩, .slice none 0 0] 28)).alloc (.cells #[.int .i64 0, .int .i64 0, .string ⟨#[]⟩, .slice none 0 0] 28)).alloc (.cells #[.int .i64 0, .int .i64 0, .string ⟨#[]⟩, .slice none 0 0] 28)) := bt (bt (bt (bt (bt (bt (ab _) (ab _) (Nat.le_refl _)) (ab _) (Nat.le_refl _)) (ab _) (Nat.le_refl _)) (ab _) (Nat.le_refl _)) (ab _) (Nat.le_refl _)) (ab _) (Nat.le_refl _)
  have HZ0 : Hid (RowT 28 (((((((w.alloc (.cells #[.int .i64 op, .int .i64 n, .string s, .slice a len cap] 28)).alloc (.cells #[.int .i64 op2, .int .i64 n2, .string s2, .slice a2 len2 cap2] 28)).alloc (.cells #[.int .i64 0, .int .i64 0, .string ⟨#[]⟩, .slice none 0 0] 28)).alloc (.cells #[.int .i64 0, .int .i64 0, .string ⟨#[]⟩, .slice none 0 0] 28)).alloc (.cells #[.int .i64 0, .int .i64 0, .string ⟨#[]⟩, .slice none 0 0] 28)).alloc (.cells #[.int .i64 0, .int .i64 0, .string ⟨#[]⟩, .slice none 0 0] 28)).alloc (.cells #[.int .i64 0, .int .i64 0, .string ⟨#[]⟩, .slice none 0 0] 28)) (w.heap.size + 1 + 1) 0 0 ⟨#[]⟩ none 0 0) := by
    have := ((((RowT.new 28 ((w.alloc (.cells #[.int .i64 op, .int .i64 n, .string s, .slice a len cap] 28)).alloc (.cells #[.int .i64 op2, .int .i64 n2, .string s2, .slice a2 len2 cap2] 28)) 0 0 ⟨#[]⟩ none 0 0).below (ab (.cells #[.int .i64 0, .int .i64 0, .string ⟨#[]⟩, .slice none 0 0] 28))).below (ab (.cells #[.int .i64 0, .int .i64 0, .string ⟨#[]⟩, .slice none 0 0] 28))).below (ab (.cells #[.int .i64 0, .int .i64 0, .string ⟨#[]⟩, .slice none 0 0] 28))).below (ab (.cells #[.int .i64 0, .int .i64 0, .string ⟨#[]⟩, .slice none 0 0] 28))
    rwa [heap_size_alloc, heap_size_alloc] at this
  have HZ1 : Hid (RowT 28 (((((((w.alloc (.cells #[.int .i64 op, .int .i64 n, .string s, .slice a len cap] 28)).alloc (.cells #[.int .i64 op2, .int .i64 n2, .string s2, .slice a2 len2 cap2] 28)).alloc (.cells #[.int .i64 0, .int .i64 0, .string ⟨#[]⟩, .slice none 0 0] 28)).alloc (.cells #[.int .i64 0, .int .i64 0, .string ⟨#[]⟩, .slice none 0 0] 28)).alloc (.cells #[.int .i64 0, .int .i64 0, .string ⟨#[]⟩, .slice none 0 0] 28)).alloc (.cells #[.int .i64 0, .int .i64 0, .string ⟨#[]⟩, .slice none 0 0] 28)).alloc (.cells #[.int .i64 0, .int .i64 0, .string ⟨#[]⟩, .slice none 0 0] 28)) (w.heap.size + 1 + 1 + 1) 0 0 ⟨#[]⟩ none 0 0) := by
    have := (((RowT.new 28 (((w.alloc (.cells #[.int .i64 op, .int .i64 n, .string s, .slice a len cap] 28)).alloc (.cells #[.int .i64 op2, .int .i64 n2, .string s2, .slice a2 len2 cap2] 28)).alloc (.cells #[.int .i64 0, .int .i64 0, .string ⟨#[]⟩, .slice none 0 0] 28)) 0 0 ⟨#[]⟩ none 0 0).below (ab (.cells #[.int .i64 0, .int .i64 0, .string ⟨#[]⟩, .slice none 0 0] 28))).below (ab (.cells #[.int .i64 0, .int .i64 0, .string ⟨#[]⟩, .slice none 0 0] 28))).below (ab (.cells #[.int .i64 0, .int .i64 0, .string ⟨#[]⟩, .slice none 0 0] 28))
    rwa [heap_size_alloc, heap_size_alloc, heap_size_alloc] at this
  have HZ2 : Hid (RowT 28 (((((((w.alloc (.cells #[.int .i64 op, .int .i64 n, .string s, .slice a len cap] 28)).alloc (.cells #[.int .i64 op2, .int .i64 n2, .string s2, .slice a2 len2 cap2] 28)).alloc (.cells #[.int .i64 0, .int .i64 0, .string ⟨#[]⟩, .slice none 0 0] 28)).alloc (.cells #[.int .i64 0, .int .i64 0, .string ⟨#[]⟩, .slice none 0 0] 28)).alloc (.cells #[.int .i64 0, .int .i64 0, .string ⟨#[]⟩, .slice none 0 0] 28)).alloc (.cells #[.int .i64 0, .int .i64 0, .string ⟨#[]⟩, .slice none 0 0] 28)).alloc (.cells #[.int .i64 0, .int .i64 0, .string ⟨#[]⟩, .slice none 0 0] 28)) (w.heap.size + 1 + 1 + 1 + 1) 0 0 ⟨#[]⟩ none 0 0) := by
    have := ((RowT.new 28 ((((w.alloc (.cells #[.int .i64 op, .int .i64 n, .string s, .slice a len cap] 28)).alloc (.cells #[.int .i64 op2, .int .i64 n2, .string s2, .slice a2 len2 cap2] 28)).alloc (.cells #[.int .i64 0, .int .i64 0, .string ⟨#[]⟩, .slice none 0 0] 28)).alloc (.cells #[.int .i64 0, .int .i64 0, .string ⟨#[]⟩, .slice none 0 0] 28)) 0 0 ⟨#[]⟩ none 0 0).below (ab (.cells #[.int .i64 0, .int .i64 0, .string ⟨#[]⟩, .slice none 0 0] 28))).below (ab (.cells #[.int .i64 0, .int .i64 0, .string ⟨#[]⟩, .slice none 0 0] 28))
    rwa [heap_size_alloc, heap_size_alloc, heap_size_alloc, heap_size_alloc] at this
  have HZ3 : Hid (RowT 28 (((((((w.alloc (.cells #[.int .i64 op, .int .i64 n, .string s, .slice a len cap] 28)).alloc (.cells #[.int .i64 op2, .int .i64 n2, .string s2, .slice a2 len2 cap2] 28)).alloc (.cells #[.int .i64 0, .int .i64 0, .string ⟨#[]⟩, .slice none 0 0] 28)).alloc (.cells #[.int .i64 0, .int .i64 0, .string ⟨#[]⟩, .slice none 0 0] 28)).alloc (.cells #[.int .i64 0, .int .i64 0, .string ⟨#[]⟩, .slice none 0 0] 28)).alloc (.cells #[.int .i64 0, .int .i64 0, .string ⟨#[]⟩, .slice none 0 0] 28)).alloc (.cells #[.int .i64 0, .int .i64 0, .string ⟨#[]⟩, .slice none 0 0] 28)) (w.heap.size + 1 + 1 + 1 + 1 + 1) 0 0 ⟨#[]⟩ none 0 0) := by
    have := (RowT.new 28 (((((w.alloc (.cells #[.int .i64 op, .int .i64 n, .string s, .slice a len cap] 28)).alloc (.cells #[.int .i64 op2, .int .i64 n2, .string s2, .slice a2 len2 cap2] 28)).alloc (.cells #[.int .i64 0, .int .i64 0, .string ⟨#[]⟩, .slice none 0 0] 28)).alloc (.cells #[.int .i64 0, .int .i64 0, .string ⟨#[]⟩, .slice none 0 0] 28)).alloc (.cells #[.int .i64 0, .int .i64 0, .string ⟨#[]⟩, .slice none 0 0] 28)) 0 0 ⟨#[]⟩ none 0 0).below (ab (.cells #[.int .i64 0, .int .i64 0, .string ⟨#[]⟩, .slice none 0 0] 28))
    rwa [heap_size_alloc, heap_size_alloc, heap_size_alloc, heap_size_alloc, heap_size_alloc] at this
  have HZ4 : Hid (RowT 28 (((((((w.alloc (.cells #[.int .i64 op, .int .i64 n, .string s, .slice a len cap] 28)).alloc (.cells #[.int .i64 op2, .int .i64 n2, .string s2, .slice a2 len2 cap2] 28)).alloc (.cells #[.int .i64 0, .int .i64 0, .string ⟨#[]⟩, .slice none 0 0] 28)).alloc (.cells #[.int .i64 0, .int .i64 0, .string ⟨#[]⟩, .slice none 0 0] 28)).alloc (.cells #[.int .i64 0, .int .i64 0, .string ⟨#[]⟩, .slice none 0 0] 28)).alloc (.cells #[.int .i64 0, .int .i64 0, .string ⟨#[]⟩, .slice none 0 0] 28)).alloc (.cells #[.int .i64 0, .int .i64 0, .string ⟨#[]⟩, .slice none 0 0] 28)) (w.heap.size + 1 + 1 + 1 + 1 + 1 + 1) 0 0 ⟨#[]⟩ none 0 0) := by
    have := RowT.new 28 ((((((w.alloc (.cells #[.int .i64 op, .int .i64 n, .string s, .slice a len cap] 28)).alloc (.cells #[.int .i64 op2, .int .i64 n2, .string s2, .slice a2 len2 cap2] 28)).alloc (.cells #[.int .i64 0, .int .i64 0, .string ⟨#[]⟩, .slice none 0 0] 28)).alloc (.cells #[.int .i64 0, .int .i64 0, .string ⟨#[]⟩, .slice none 0 0] 28)).alloc (.cells #[.int .i64 0, .int .i64 0, .string ⟨#[]⟩, .slice none 0 0] 28)).alloc (.cells #[.int .i64 0, .int .i64 0, .string ⟨#[]⟩, .slice none 0 0] 28)) 0 0 ⟨#[]⟩ none 0 0
    rwa [heap_size_alloc, heap_size_alloc, heap_size_alloc, heap_size_alloc, heap_size_alloc, heap_size_alloc] at this
  have HE0 : Hid (RowT 28 (((((((w.alloc (.cells #[.int .i64 op, .int .i64 n, .string s, .slice a len cap] 28)).alloc (.cells #[.int .i64 op2, .int .i64 n2, .string s2, .slice a2 len2 cap2] 28)).alloc (.cells #[.int .i64 0, .int .i64 0, .string ⟨#[]⟩, .slice none 0 0] 28)).alloc (.cells #[.int .i64 0, .int .i64 0, .string ⟨#[]⟩, .slice none 0 0] 28)).alloc (.cells #[.int .i64 0, .int .i64 0, .string ⟨#[]⟩, .slice none 0 0] 28)).alloc (.cells #[.int .i64 0, .int .i64 0, .string ⟨#[]⟩, .slice none 0 0] 28)).alloc (.cells #[.int .i64 0, .int .i64 0, .string ⟨#[]⟩, .slice none 0 0] 28)) w.heap.size op n s a len cap) := ((((((RowT.new 28 w op n s a len cap).below (ab (.cells #[.int .i64 op2, .int .i64 n2, .string s2, .slice a2 len2 cap2] 28))).below (ab (.cells #[.int .i64 0, .int .i64 0, .string ⟨#[]⟩, .slice none 0 0] 28))).below (ab (.cells #[.int .i64 0, .int .i64 0, .string ⟨#[]⟩, .slice none 0 0] 28))).below (ab (.cells #[.int .i64 0, .int .i64 0, .string ⟨#[]⟩, .slice none 0 0] 28))).below (ab (.cells #[.int .i64 0, .int .i64 0, .string ⟨#[]⟩, .slice none 0 0] 28))).below (ab (.cells #[.int .i64 0, .int .i64 0, .string ⟨#[]⟩, .slice none 0 0] 28))
  have HLE := hide (hl.below hb0)
  have HL2 := hide (hl2.below hb0)
  have HB0 := hide hb0
  clear hl hl2 hb0
  go_enter Tryz.func5, Tryz.ntmps5
  go_wp2_with fail
  generalize hgw : (((((((w.alloc (.cells #[.int .i64 op, .int .i64 n, .string s, .slice a len cap] 28)).alloc (.cells #[.int .i64 op2, .int .i64 n2, .string s2, .slice a2 len2 cap2] 28)).alloc (.cells #[.int .i64 0, .int .i64 0, .string ⟨#[]⟩, .slice none 0 0] 28)).alloc (.cells #[.int .i64 0, .int .i64 0, .string ⟨#[]⟩, .slice none 0 0] 28)).alloc (.cells #[.int .i64 0, .int .i64 0, .string ⟨#[]⟩, .slice none 0 0] 28)).alloc (.cells #[.int .i64 0, .int .i64 0, .string ⟨#[]⟩, .slice none 0 0] 28)).alloc (.cells #[.int .i64 0, .int .i64 0, .string ⟨#[]⟩, .slice none 0 0] 28)) = W1 at *
  clear hgw
  refine (unhide hN _ (unhide HL2)).mono ?_
  rintro q w1 ⟨rfl, hb1⟩
  have hp := bt hb1 (ab (.cells #[.int .i64 0, .int .i64 0, .string ByteArray.empty, .slice none 0 0] 28)) (Nat.le_refl _)
  have HB := hide (bt (unhide HB0) hp (Nat.le_refl _))
  have HZ0 := hide ((unhide HZ0).below hp)
  have HZ1 := hide ((unhide HZ1).below hp)
  have HZ2 := hide ((unhide HZ2).below hp)
  have HZ3 := hide ((unhide HZ3).below hp)
  have HZ4 := hide ((unhide HZ4).below hp)
  clear hp hb1 hN HB0 HLE HL2 HE0
  go_wp2_with fail
  generalize hgw : w1.alloc (.cells #[.int .i64 0, .int .i64 0, .string ByteArray.empty, .slice none 0 0] 28) = V3 at *
  clear hgw
  have F0 : w.heap.size + 1 + 1 + 1 + 1 + 1 + 1 ≠ w.heap.size + 1 + 1 ∧ w.heap.size + 1 + 1 + 1 + 1 + 1 + 1 ≠ w.heap.size + 1 + 1 + 1 ∧ w.heap.size + 1 + 1 + 1 + 1 + 1 + 1 ≠ w.heap.size + 1 + 1 + 1 + 1 ∧ w.heap.size + 1 + 1 + 1 + 1 + 1 + 1 ≠ w.heap.size + 1 + 1 + 1 + 1 + 1 := ne_far (Nat.lt_succ_self _)
  refine wp_region_held (S := fun y => RowT 28 y (w.heap.size + 1 + 1 + 1 + 1 + 1 + 1) 0 0 ⟨#[]⟩ none 0 0) (by kernel_rfl) ?_
  have hS : (fun y : World => RowT 28 y (w.heap.size + 1 + 1 + 1 + 1 + 1 + 1) 0 0 ⟨#[]⟩ none 0 0) V3.drew := unhide HZ4
  show wpAnyH _ _ _ _ _ _ _ _ V3.drew
  refine take_load (i := 0) rfl rfl (fun y h => h) (by kernel_rfl) (by kernel_rfl) (by kernel_rfl) (fun _ _ _ _ h => h) hS ?_
  simp only [Act.put, List.setIfInBounds_toArray, List.set_cons_succ, List.set_cons_zero]
  refine take_load (i := 1) rfl rfl (fun y h => h) (by kernel_rfl) (by kernel_rfl) (by kernel_rfl) (fun _ _ _ _ h => h) hS ?_
  simp only [Act.put, List.setIfInBounds_toArray, List.set_cons_succ, List.set_cons_zero]
  refine take_load (i := 2) rfl rfl (fun y h => h) (by kernel_rfl) (by kernel_rfl) (by kernel_rfl) (fun _ _ _ _ h => h) hS ?_
  simp only [Act.put, List.setIfInBounds_toArray, List.set_cons_succ, List.set_cons_zero]
  refine take_load (i := 3) rfl rfl (fun y h => h) (by kernel_rfl) (by kernel_rfl) (by kernel_rfl) (fun _ _ _ _ h => h) hS ?_
  simp only [Act.put, List.setIfInBounds_toArray, List.set_cons_succ, List.set_cons_zero]
  refine all_store (i := 4) (by kernel_rfl) rfl rfl rfl (unhide HZ0) (RowT.other hS F0.1) fun hS => ?_
  refine all_store (i := 5) (by kernel_rfl) rfl rfl rfl (RowT.other (unhide HZ1) (zne _).1.1) (RowT.other hS F0.2.1) fun hS => ?_
  refine all_store (i := 6) (by kernel_rfl) rfl rfl rfl (RowT.other (RowT.other (unhide HZ2) (zne _).1.2.1) (zne _).2.1.1) (RowT.other hS F0.2.2.1) fun hS => ?_
  refine all_store (i := 7) (by kernel_rfl) rfl rfl rfl (RowT.other (RowT.other (RowT.other (unhide HZ3) (zne _).1.2.2) (zne _).2.1.2) (zne _).2.2) (RowT.other hS F0.2.2.2) fun hS => ?_
  refine all_assign (i := 8) (by kernel_rfl) rfl rfl hS ?_
  refine wpAnyH_done (by kernel_rfl) ?_ _
  simp only [Act.put, List.setIfInBounds_toArray, List.set_cons_succ, List.set_cons_zero]
  go_wp2_with fail
  obtain ⟨r0, r1, r2, r3⟩ := fill_four (w := V3.drew) (op0 := 0) (n0 := 0) (s0 := ⟨#[]⟩) (a0 := none) (l0 := 0) (k0 := 0) (op1 := 0) (n1 := 0) (s1 := ⟨#[]⟩) (a1 := none) (l1 := 0) (k1 := 0) (op2 := 0) (n2 := 0) (s2 := ⟨#[]⟩) (a2 := none) (l2 := 0) (k2 := 0) (op3 := 0) (n3 := 0) (s3 := ⟨#[]⟩) (a3 := none) (l3 := 0) (k3 := 0) (unhide HZ0) (unhide HZ1) (unhide HZ2) (unhide HZ3)
  exact bodyPost_ret (v := .tuple #[.agg #[.int .i64 0, .int .i64 0, .string ⟨#[]⟩, .slice none 0 0], .agg #[.int .i64 0, .int .i64 0, .string ⟨#[]⟩, .slice none 0 0], .agg #[.int .i64 0, .int .i64 0, .string ⟨#[]⟩, .slice none 0 0], .agg #[.int .i64 0, .int .i64 0, .string ⟨#[]⟩, .slice none 0 0], .bool false]) (results_cells4 Tryz.results5 rfl rfl rfl rfl (RowT.load r0) (RowT.load r1) (RowT.load r2) (RowT.load r3)) rfl ⟨rfl, fill_four_below (w := V3.drew) (unhide HB).drew (le_two _)⟩

set_option maxRecDepth 100000 in
set_option maxHeartbeats 4000000 in
theorem replyS_op (e t k : Tm) (op n : Int) (s : ByteArray) (a : Option Addr) (len cap : Nat) (op2 n2 : Int) (s2 : ByteArray) (a2 : Option Addr) (len2 cap2 : Nat) (w : World) (hl : Lies w 0 e (tmCells op n s a len cap)) (hl2 : Lies w 0 t (tmCells op2 n2 s2 a2 len2 cap2)) (hst : e.size + t.size ≤ 1048578) (hb : behO 3 (textT replyW) t = some k) (h3 : k.opOf ≠ 3) : Calls Tryz.prog 5 #[.agg #[.int .i64 op, .int .i64 n, .string s, .slice a len cap], .agg #[.int .i64 op2, .int .i64 n2, .string s2, .slice a2 len2 cap2]] w fun q w' => q = .returned (.tuple #[.agg #[.int .i64 0, .int .i64 0, .string ⟨#[]⟩, .slice none 0 0], .agg #[.int .i64 0, .int .i64 0, .string ⟨#[]⟩, .slice none 0 0], .agg #[.int .i64 0, .int .i64 0, .string ⟨#[]⟩, .slice none 0 0], .agg #[.int .i64 0, .int .i64 0, .string ⟨#[]⟩, .slice none 0 0], .bool false]) ∧ Below w.heap.size w w' := by
  have hN := hide (fun V hl => named_some t k replyW (by decide) op2 n2 s2 a2 len2 cap2 V hl (by omega) hb)
  have H3 := hide h3
  clear hb hst h3
  have hb0 : Below w.heap.size w (((((((w.alloc (.cells #[.int .i64 op, .int .i64 n, .string s, .slice a len cap] 28)).alloc (.cells #[.int .i64 op2, .int .i64 n2, .string s2, .slice a2 len2 cap2] 28)).alloc (.cells #[.int .i64 0, .int .i64 0, .string ⟨#[]⟩, .slice none 0 0] 28)).alloc (.cells #[.int .i64 0, .int .i64 0, .string ⟨#[]⟩, .slice none 0 0] 28)).alloc (.cells #[.int .i64 0, .int .i64 0, .string ⟨#[]⟩, .slice none 0 0] 28)).alloc (.cells #[.int .i64 0, .int .i64 0, .string ⟨#[]⟩, .slice none 0 0] 28)).alloc (.cells #[.int .i64 0, .int .i64 0, .string ⟨#[]⟩, .slice none 0 0] 28)) := bt (bt (bt (bt (bt (bt (ab _) (ab _) (Nat.le_refl _)) (ab _) (Nat.le_refl _)) (ab _) (Nat.le_refl _)) (ab _) (Nat.le_refl _)) (ab _) (Nat.le_refl _)) (ab _) (Nat.le_refl _)
  have HZ0 : Hid (RowT 28 (((((((w.alloc (.cells #[.int .i64 op, .int .i64 n, .string s, .slice a len cap] 28)).alloc (.cells #[.int .i64 op2, .int .i64 n2, .string s2, .slice a2 len2 cap2] 28)).alloc (.cells #[.int .i64 0, .int .i64 0, .string ⟨#[]⟩, .slice none 0 0] 28)).alloc (.cells #[.int .i64 0, .int .i64 0, .string ⟨#[]⟩, .slice none 0 0] 28)).alloc (.cells #[.int .i64 0, .int .i64 0, .string ⟨#[]⟩, .slice none 0 0] 28)).alloc (.cells #[.int .i64 0, .int .i64 0, .string ⟨#[]⟩, .slice none 0 0] 28)).alloc (.cells #[.int .i64 0, .int .i64 0, .string ⟨#[]⟩, .slice none 0 0] 28)) (w.heap.size + 1 + 1) 0 0 ⟨#[]⟩ none 0 0) := by
    have := ((((RowT.new 28 ((w.alloc (.cells #[.int .i64 op, .int .i64 n, .string s, .slice a len cap] 28)).alloc (.cells #[.int .i64 op2, .int .i64 n2, .string s2, .slice a2 len2 cap2] 28)) 0 0 ⟨#[]⟩ none 0 0).below (ab (.cells #[.int .i64 0, .int .i64 0, .string ⟨#[]⟩, .slice none 0 0] 28))).below (ab (.cells #[.int .i64 0, .int .i64 0, .string ⟨#[]⟩, .slice none 0 0] 28))).below (ab (.cells #[.int .i64 0, .int .i64 0, .string ⟨#[]⟩, .slice none 0 0] 28))).below (ab (.cells #[.int .i64 0, .int .i64 0, .string ⟨#[]⟩, .slice none 0 0] 28))
    rwa [heap_size_alloc, heap_size_alloc] at this
  have HZ1 : Hid (RowT 28 (((((((w.alloc (.cells #[.int .i64 op, .int .i64 n, .string s, .slice a len cap] 28)).alloc (.cells #[.int .i64 op2, .int .i64 n2, .string s2, .slice a2 len2 cap2] 28)).alloc (.cells #[.int .i64 0, .int .i64 0, .string ⟨#[]⟩, .slice none 0 0] 28)).alloc (.cells #[.int .i64 0, .int .i64 0, .string ⟨#[]⟩, .slice none 0 0] 28)).alloc (.cells #[.int .i64 0, .int .i64 0, .string ⟨#[]⟩, .slice none 0 0] 28)).alloc (.cells #[.int .i64 0, .int .i64 0, .string ⟨#[]⟩, .slice none 0 0] 28)).alloc (.cells #[.int .i64 0, .int .i64 0, .string ⟨#[]⟩, .slice none 0 0] 28)) (w.heap.size + 1 + 1 + 1) 0 0 ⟨#[]⟩ none 0 0) := by
    have := (((RowT.new 28 (((w.alloc (.cells #[.int .i64 op, .int .i64 n, .string s, .slice a len cap] 28)).alloc (.cells #[.int .i64 op2, .int .i64 n2, .string s2, .slice a2 len2 cap2] 28)).alloc (.cells #[.int .i64 0, .int .i64 0, .string ⟨#[]⟩, .slice none 0 0] 28)) 0 0 ⟨#[]⟩ none 0 0).below (ab (.cells #[.int .i64 0, .int .i64 0, .string ⟨#[]⟩, .slice none 0 0] 28))).below (ab (.cells #[.int .i64 0, .int .i64 0, .string ⟨#[]⟩, .slice none 0 0] 28))).below (ab (.cells #[.int .i64 0, .int .i64 0, .string ⟨#[]⟩, .slice none 0 0] 28))
    rwa [heap_size_alloc, heap_size_alloc, heap_size_alloc] at this
  have HZ2 : Hid (RowT 28 (((((((w.alloc (.cells #[.int .i64 op, .int .i64 n, .string s, .slice a len cap] 28)).alloc (.cells #[.int .i64 op2, .int .i64 n2, .string s2, .slice a2 len2 cap2] 28)).alloc (.cells #[.int .i64 0, .int .i64 0, .string ⟨#[]⟩, .slice none 0 0] 28)).alloc (.cells #[.int .i64 0, .int .i64 0, .string ⟨#[]⟩, .slice none 0 0] 28)).alloc (.cells #[.int .i64 0, .int .i64 0, .string ⟨#[]⟩, .slice none 0 0] 28)).alloc (.cells #[.int .i64 0, .int .i64 0, .string ⟨#[]⟩, .slice none 0 0] 28)).alloc (.cells #[.int .i64 0, .int .i64 0, .string ⟨#[]⟩, .slice none 0 0] 28)) (w.heap.size + 1 + 1 + 1 + 1) 0 0 ⟨#[]⟩ none 0 0) := by
    have := ((RowT.new 28 ((((w.alloc (.cells #[.int .i64 op, .int .i64 n, .string s, .slice a len cap] 28)).alloc (.cells #[.int .i64 op2, .int .i64 n2, .string s2, .slice a2 len2 cap2] 28)).alloc (.cells #[.int .i64 0, .int .i64 0, .string ⟨#[]⟩, .slice none 0 0] 28)).alloc (.cells #[.int .i64 0, .int .i64 0, .string ⟨#[]⟩, .slice none 0 0] 28)) 0 0 ⟨#[]⟩ none 0 0).below (ab (.cells #[.int .i64 0, .int .i64 0, .string ⟨#[]⟩, .slice none 0 0] 28))).below (ab (.cells #[.int .i64 0, .int .i64 0, .string ⟨#[]⟩, .slice none 0 0] 28))
    rwa [heap_size_alloc, heap_size_alloc, heap_size_alloc, heap_size_alloc] at this
  have HZ3 : Hid (RowT 28 (((((((w.alloc (.cells #[.int .i64 op, .int .i64 n, .string s, .slice a len cap] 28)).alloc (.cells #[.int .i64 op2, .int .i64 n2, .string s2, .slice a2 len2 cap2] 28)).alloc (.cells #[.int .i64 0, .int .i64 0, .string ⟨#[]⟩, .slice none 0 0] 28)).alloc (.cells #[.int .i64 0, .int .i64 0, .string ⟨#[]⟩, .slice none 0 0] 28)).alloc (.cells #[.int .i64 0, .int .i64 0, .string ⟨#[]⟩, .slice none 0 0] 28)).alloc (.cells #[.int .i64 0, .int .i64 0, .string ⟨#[]⟩, .slice none 0 0] 28)).alloc (.cells #[.int .i64 0, .int .i64 0, .string ⟨#[]⟩, .slice none 0 0] 28)) (w.heap.size + 1 + 1 + 1 + 1 + 1) 0 0 ⟨#[]⟩ none 0 0) := by
    have := (RowT.new 28 (((((w.alloc (.cells #[.int .i64 op, .int .i64 n, .string s, .slice a len cap] 28)).alloc (.cells #[.int .i64 op2, .int .i64 n2, .string s2, .slice a2 len2 cap2] 28)).alloc (.cells #[.int .i64 0, .int .i64 0, .string ⟨#[]⟩, .slice none 0 0] 28)).alloc (.cells #[.int .i64 0, .int .i64 0, .string ⟨#[]⟩, .slice none 0 0] 28)).alloc (.cells #[.int .i64 0, .int .i64 0, .string ⟨#[]⟩, .slice none 0 0] 28)) 0 0 ⟨#[]⟩ none 0 0).below (ab (.cells #[.int .i64 0, .int .i64 0, .string ⟨#[]⟩, .slice none 0 0] 28))
    rwa [heap_size_alloc, heap_size_alloc, heap_size_alloc, heap_size_alloc, heap_size_alloc] at this
  have HZ4 : Hid (RowT 28 (((((((w.alloc (.cells #[.int .i64 op, .int .i64 n, .string s, .slice a len cap] 28)).alloc (.cells #[.int .i64 op2, .int .i64 n2, .string s2, .slice a2 len2 cap2] 28)).alloc (.cells #[.int .i64 0, .int .i64 0, .string ⟨#[]⟩, .slice none 0 0] 28)).alloc (.cells #[.int .i64 0, .int .i64 0, .string ⟨#[]⟩, .slice none 0 0] 28)).alloc (.cells #[.int .i64 0, .int .i64 0, .string ⟨#[]⟩, .slice none 0 0] 28)).alloc (.cells #[.int .i64 0, .int .i64 0, .string ⟨#[]⟩, .slice none 0 0] 28)).alloc (.cells #[.int .i64 0, .int .i64 0, .string ⟨#[]⟩, .slice none 0 0] 28)) (w.heap.size + 1 + 1 + 1 + 1 + 1 + 1) 0 0 ⟨#[]⟩ none 0 0) := by
    have := RowT.new 28 ((((((w.alloc (.cells #[.int .i64 op, .int .i64 n, .string s, .slice a len cap] 28)).alloc (.cells #[.int .i64 op2, .int .i64 n2, .string s2, .slice a2 len2 cap2] 28)).alloc (.cells #[.int .i64 0, .int .i64 0, .string ⟨#[]⟩, .slice none 0 0] 28)).alloc (.cells #[.int .i64 0, .int .i64 0, .string ⟨#[]⟩, .slice none 0 0] 28)).alloc (.cells #[.int .i64 0, .int .i64 0, .string ⟨#[]⟩, .slice none 0 0] 28)).alloc (.cells #[.int .i64 0, .int .i64 0, .string ⟨#[]⟩, .slice none 0 0] 28)) 0 0 ⟨#[]⟩ none 0 0
    rwa [heap_size_alloc, heap_size_alloc, heap_size_alloc, heap_size_alloc, heap_size_alloc, heap_size_alloc] at this
  have HE0 : Hid (RowT 28 (((((((w.alloc (.cells #[.int .i64 op, .int .i64 n, .string s, .slice a len cap] 28)).alloc (.cells #[.int .i64 op2, .int .i64 n2, .string s2, .slice a2 len2 cap2] 28)).alloc (.cells #[.int .i64 0, .int .i64 0, .string ⟨#[]⟩, .slice none 0 0] 28)).alloc (.cells #[.int .i64 0, .int .i64 0, .string ⟨#[]⟩, .slice none 0 0] 28)).alloc (.cells #[.int .i64 0, .int .i64 0, .string ⟨#[]⟩, .slice none 0 0] 28)).alloc (.cells #[.int .i64 0, .int .i64 0, .string ⟨#[]⟩, .slice none 0 0] 28)).alloc (.cells #[.int .i64 0, .int .i64 0, .string ⟨#[]⟩, .slice none 0 0] 28)) w.heap.size op n s a len cap) := ((((((RowT.new 28 w op n s a len cap).below (ab (.cells #[.int .i64 op2, .int .i64 n2, .string s2, .slice a2 len2 cap2] 28))).below (ab (.cells #[.int .i64 0, .int .i64 0, .string ⟨#[]⟩, .slice none 0 0] 28))).below (ab (.cells #[.int .i64 0, .int .i64 0, .string ⟨#[]⟩, .slice none 0 0] 28))).below (ab (.cells #[.int .i64 0, .int .i64 0, .string ⟨#[]⟩, .slice none 0 0] 28))).below (ab (.cells #[.int .i64 0, .int .i64 0, .string ⟨#[]⟩, .slice none 0 0] 28))).below (ab (.cells #[.int .i64 0, .int .i64 0, .string ⟨#[]⟩, .slice none 0 0] 28))
  have HLE := hide (hl.below hb0)
  have HL2 := hide (hl2.below hb0)
  have HB0 := hide hb0
  clear hl hl2 hb0
  go_enter Tryz.func5, Tryz.ntmps5
  go_wp2_with fail
  generalize hgw : (((((((w.alloc (.cells #[.int .i64 op, .int .i64 n, .string s, .slice a len cap] 28)).alloc (.cells #[.int .i64 op2, .int .i64 n2, .string s2, .slice a2 len2 cap2] 28)).alloc (.cells #[.int .i64 0, .int .i64 0, .string ⟨#[]⟩, .slice none 0 0] 28)).alloc (.cells #[.int .i64 0, .int .i64 0, .string ⟨#[]⟩, .slice none 0 0] 28)).alloc (.cells #[.int .i64 0, .int .i64 0, .string ⟨#[]⟩, .slice none 0 0] 28)).alloc (.cells #[.int .i64 0, .int .i64 0, .string ⟨#[]⟩, .slice none 0 0] 28)).alloc (.cells #[.int .i64 0, .int .i64 0, .string ⟨#[]⟩, .slice none 0 0] 28)) = W1 at *
  clear hgw
  refine (unhide hN _ (unhide HL2)).mono ?_
  rintro q w1 ⟨op3, n3, s3, a3, len3, cap3, rfl, hl3, hb1⟩
  have hne : (op3 != 3) = true := by rw [lies_opOf hl3]; simpa using unhide H3
  have hp := bt hb1 (ab (.cells #[.int .i64 op3, .int .i64 n3, .string s3, .slice a3 len3 cap3] 28)) (Nat.le_refl _)
  have HB := hide (bt (unhide HB0) hp (Nat.le_refl _))
  have HZ0 := hide ((unhide HZ0).below hp)
  have HZ1 := hide ((unhide HZ1).below hp)
  have HZ2 := hide ((unhide HZ2).below hp)
  have HZ3 := hide ((unhide HZ3).below hp)
  have HZ4 := hide ((unhide HZ4).below hp)
  clear hp hb1 hN HB0 HLE HL2 HE0 hl3 H3
  go_wp2_with fail
  generalize hgw : w1.alloc (.cells #[.int .i64 op3, .int .i64 n3, .string s3, .slice a3 len3 cap3] 28) = V3 at *
  clear hgw
  have F0 : w.heap.size + 1 + 1 + 1 + 1 + 1 + 1 ≠ w.heap.size + 1 + 1 ∧ w.heap.size + 1 + 1 + 1 + 1 + 1 + 1 ≠ w.heap.size + 1 + 1 + 1 ∧ w.heap.size + 1 + 1 + 1 + 1 + 1 + 1 ≠ w.heap.size + 1 + 1 + 1 + 1 ∧ w.heap.size + 1 + 1 + 1 + 1 + 1 + 1 ≠ w.heap.size + 1 + 1 + 1 + 1 + 1 := ne_far (Nat.lt_succ_self _)
  refine wp_region_held (S := fun y => RowT 28 y (w.heap.size + 1 + 1 + 1 + 1 + 1 + 1) 0 0 ⟨#[]⟩ none 0 0) (by kernel_rfl) ?_
  have hS : (fun y : World => RowT 28 y (w.heap.size + 1 + 1 + 1 + 1 + 1 + 1) 0 0 ⟨#[]⟩ none 0 0) V3.drew := unhide HZ4
  show wpAnyH _ _ _ _ _ _ _ _ V3.drew
  refine take_load (i := 0) rfl rfl (fun y h => h) (by kernel_rfl) (by kernel_rfl) (by kernel_rfl) (fun _ _ _ _ h => h) hS ?_
  simp only [Act.put, List.setIfInBounds_toArray, List.set_cons_succ, List.set_cons_zero]
  refine take_load (i := 1) rfl rfl (fun y h => h) (by kernel_rfl) (by kernel_rfl) (by kernel_rfl) (fun _ _ _ _ h => h) hS ?_
  simp only [Act.put, List.setIfInBounds_toArray, List.set_cons_succ, List.set_cons_zero]
  refine take_load (i := 2) rfl rfl (fun y h => h) (by kernel_rfl) (by kernel_rfl) (by kernel_rfl) (fun _ _ _ _ h => h) hS ?_
  simp only [Act.put, List.setIfInBounds_toArray, List.set_cons_succ, List.set_cons_zero]
  refine take_load (i := 3) rfl rfl (fun y h => h) (by kernel_rfl) (by kernel_rfl) (by kernel_rfl) (fun _ _ _ _ h => h) hS ?_
  simp only [Act.put, List.setIfInBounds_toArray, List.set_cons_succ, List.set_cons_zero]
  refine all_store (i := 4) (by kernel_rfl) rfl rfl rfl (unhide HZ0) (RowT.other hS F0.1) fun hS => ?_
  refine all_store (i := 5) (by kernel_rfl) rfl rfl rfl (RowT.other (unhide HZ1) (zne _).1.1) (RowT.other hS F0.2.1) fun hS => ?_
  refine all_store (i := 6) (by kernel_rfl) rfl rfl rfl (RowT.other (RowT.other (unhide HZ2) (zne _).1.2.1) (zne _).2.1.1) (RowT.other hS F0.2.2.1) fun hS => ?_
  refine all_store (i := 7) (by kernel_rfl) rfl rfl rfl (RowT.other (RowT.other (RowT.other (unhide HZ3) (zne _).1.2.2) (zne _).2.1.2) (zne _).2.2) (RowT.other hS F0.2.2.2) fun hS => ?_
  refine all_assign (i := 8) (by kernel_rfl) rfl rfl hS ?_
  refine wpAnyH_done (by kernel_rfl) ?_ _
  simp only [Act.put, List.setIfInBounds_toArray, List.set_cons_succ, List.set_cons_zero]
  go_wp2_with fail
  obtain ⟨r0, r1, r2, r3⟩ := fill_four (w := V3.drew) (op0 := 0) (n0 := 0) (s0 := ⟨#[]⟩) (a0 := none) (l0 := 0) (k0 := 0) (op1 := 0) (n1 := 0) (s1 := ⟨#[]⟩) (a1 := none) (l1 := 0) (k1 := 0) (op2 := 0) (n2 := 0) (s2 := ⟨#[]⟩) (a2 := none) (l2 := 0) (k2 := 0) (op3 := 0) (n3 := 0) (s3 := ⟨#[]⟩) (a3 := none) (l3 := 0) (k3 := 0) (unhide HZ0) (unhide HZ1) (unhide HZ2) (unhide HZ3)
  exact bodyPost_ret (v := .tuple #[.agg #[.int .i64 0, .int .i64 0, .string ⟨#[]⟩, .slice none 0 0], .agg #[.int .i64 0, .int .i64 0, .string ⟨#[]⟩, .slice none 0 0], .agg #[.int .i64 0, .int .i64 0, .string ⟨#[]⟩, .slice none 0 0], .agg #[.int .i64 0, .int .i64 0, .string ⟨#[]⟩, .slice none 0 0], .bool false]) (results_cells4 Tryz.results5 rfl rfl rfl rfl (RowT.load r0) (RowT.load r1) (RowT.load r2) (RowT.load r3)) rfl ⟨rfl, fill_four_below (w := V3.drew) (unhide HB).drew (le_two _)⟩

set_option maxRecDepth 100000 in
set_option maxHeartbeats 8000000 in
theorem replyS_agree_no (e t pub sealed : Tm) (nx : Int) (sx : ByteArray) (op n : Int) (s : ByteArray) (a : Option Addr) (len cap : Nat) (op2 n2 : Int) (s2 : ByteArray) (a2 : Option Addr) (len2 cap2 : Nat) (w : World) (hl : Lies w 0 e (tmCells op n s a len cap)) (hl2 : Lies w 0 t (tmCells op2 n2 s2 a2 len2 cap2)) (hst : e.size + t.size ≤ 1048578) (hb : behO 3 (textT replyW) t = some (.node 3 nx sx [pub, sealed])) (ha : agreeB e pub = false) : Calls Tryz.prog 5 #[.agg #[.int .i64 op, .int .i64 n, .string s, .slice a len cap], .agg #[.int .i64 op2, .int .i64 n2, .string s2, .slice a2 len2 cap2]] w fun q w' => q = .returned (.tuple #[.agg #[.int .i64 0, .int .i64 0, .string ⟨#[]⟩, .slice none 0 0], .agg #[.int .i64 0, .int .i64 0, .string ⟨#[]⟩, .slice none 0 0], .agg #[.int .i64 0, .int .i64 0, .string ⟨#[]⟩, .slice none 0 0], .agg #[.int .i64 0, .int .i64 0, .string ⟨#[]⟩, .slice none 0 0], .bool false]) ∧ Below w.heap.size w w' := by
  have HA := hide ha
  clear ha
  have HBH := hide hb
  obtain ⟨hp0, hp1, hpz, -⟩ := inO_of_named hb
  have HOP := hide hp0
  have HKZ := hide hpz
  have hN := hide (fun V hl => named_some t (.node 3 nx sx [pub, sealed]) replyW (by decide) op2 n2 s2 a2 len2 cap2 V hl (by omega) hb)
  have hAG := hide (fun op5 n5 s5 a5 len5 cap5 V h1 h2 => agree_calls e pub op n s a len cap op5 n5 s5 a5 len5 cap5 V h1 h2 (by omega))
  have HSZ : Hid (sealed.size ≤ 1048578) := by show _ ≤ _; omega
  have hCP := hide (fun op5 n5 s5 a5 len5 cap5 V h1 => cz_calls pub op5 n5 s5 a5 len5 cap5 V h1 (by have := okT_small hp0; omega))
  clear hp0 hp1 hpz hst hb
  have hb0 : Below w.heap.size w (((((((w.alloc (.cells #[.int .i64 op, .int .i64 n, .string s, .slice a len cap] 28)).alloc (.cells #[.int .i64 op2, .int .i64 n2, .string s2, .slice a2 len2 cap2] 28)).alloc (.cells #[.int .i64 0, .int .i64 0, .string ⟨#[]⟩, .slice none 0 0] 28)).alloc (.cells #[.int .i64 0, .int .i64 0, .string ⟨#[]⟩, .slice none 0 0] 28)).alloc (.cells #[.int .i64 0, .int .i64 0, .string ⟨#[]⟩, .slice none 0 0] 28)).alloc (.cells #[.int .i64 0, .int .i64 0, .string ⟨#[]⟩, .slice none 0 0] 28)).alloc (.cells #[.int .i64 0, .int .i64 0, .string ⟨#[]⟩, .slice none 0 0] 28)) := bt (bt (bt (bt (bt (bt (ab _) (ab _) (Nat.le_refl _)) (ab _) (Nat.le_refl _)) (ab _) (Nat.le_refl _)) (ab _) (Nat.le_refl _)) (ab _) (Nat.le_refl _)) (ab _) (Nat.le_refl _)
  have HZ0 : Hid (RowT 28 (((((((w.alloc (.cells #[.int .i64 op, .int .i64 n, .string s, .slice a len cap] 28)).alloc (.cells #[.int .i64 op2, .int .i64 n2, .string s2, .slice a2 len2 cap2] 28)).alloc (.cells #[.int .i64 0, .int .i64 0, .string ⟨#[]⟩, .slice none 0 0] 28)).alloc (.cells #[.int .i64 0, .int .i64 0, .string ⟨#[]⟩, .slice none 0 0] 28)).alloc (.cells #[.int .i64 0, .int .i64 0, .string ⟨#[]⟩, .slice none 0 0] 28)).alloc (.cells #[.int .i64 0, .int .i64 0, .string ⟨#[]⟩, .slice none 0 0] 28)).alloc (.cells #[.int .i64 0, .int .i64 0, .string ⟨#[]⟩, .slice none 0 0] 28)) (w.heap.size + 1 + 1) 0 0 ⟨#[]⟩ none 0 0) := by
    have := ((((RowT.new 28 ((w.alloc (.cells #[.int .i64 op, .int .i64 n, .string s, .slice a len cap] 28)).alloc (.cells #[.int .i64 op2, .int .i64 n2, .string s2, .slice a2 len2 cap2] 28)) 0 0 ⟨#[]⟩ none 0 0).below (ab (.cells #[.int .i64 0, .int .i64 0, .string ⟨#[]⟩, .slice none 0 0] 28))).below (ab (.cells #[.int .i64 0, .int .i64 0, .string ⟨#[]⟩, .slice none 0 0] 28))).below (ab (.cells #[.int .i64 0, .int .i64 0, .string ⟨#[]⟩, .slice none 0 0] 28))).below (ab (.cells #[.int .i64 0, .int .i64 0, .string ⟨#[]⟩, .slice none 0 0] 28))
    rwa [heap_size_alloc, heap_size_alloc] at this
  have HZ1 : Hid (RowT 28 (((((((w.alloc (.cells #[.int .i64 op, .int .i64 n, .string s, .slice a len cap] 28)).alloc (.cells #[.int .i64 op2, .int .i64 n2, .string s2, .slice a2 len2 cap2] 28)).alloc (.cells #[.int .i64 0, .int .i64 0, .string ⟨#[]⟩, .slice none 0 0] 28)).alloc (.cells #[.int .i64 0, .int .i64 0, .string ⟨#[]⟩, .slice none 0 0] 28)).alloc (.cells #[.int .i64 0, .int .i64 0, .string ⟨#[]⟩, .slice none 0 0] 28)).alloc (.cells #[.int .i64 0, .int .i64 0, .string ⟨#[]⟩, .slice none 0 0] 28)).alloc (.cells #[.int .i64 0, .int .i64 0, .string ⟨#[]⟩, .slice none 0 0] 28)) (w.heap.size + 1 + 1 + 1) 0 0 ⟨#[]⟩ none 0 0) := by
    have := (((RowT.new 28 (((w.alloc (.cells #[.int .i64 op, .int .i64 n, .string s, .slice a len cap] 28)).alloc (.cells #[.int .i64 op2, .int .i64 n2, .string s2, .slice a2 len2 cap2] 28)).alloc (.cells #[.int .i64 0, .int .i64 0, .string ⟨#[]⟩, .slice none 0 0] 28)) 0 0 ⟨#[]⟩ none 0 0).below (ab (.cells #[.int .i64 0, .int .i64 0, .string ⟨#[]⟩, .slice none 0 0] 28))).below (ab (.cells #[.int .i64 0, .int .i64 0, .string ⟨#[]⟩, .slice none 0 0] 28))).below (ab (.cells #[.int .i64 0, .int .i64 0, .string ⟨#[]⟩, .slice none 0 0] 28))
    rwa [heap_size_alloc, heap_size_alloc, heap_size_alloc] at this
  have HZ2 : Hid (RowT 28 (((((((w.alloc (.cells #[.int .i64 op, .int .i64 n, .string s, .slice a len cap] 28)).alloc (.cells #[.int .i64 op2, .int .i64 n2, .string s2, .slice a2 len2 cap2] 28)).alloc (.cells #[.int .i64 0, .int .i64 0, .string ⟨#[]⟩, .slice none 0 0] 28)).alloc (.cells #[.int .i64 0, .int .i64 0, .string ⟨#[]⟩, .slice none 0 0] 28)).alloc (.cells #[.int .i64 0, .int .i64 0, .string ⟨#[]⟩, .slice none 0 0] 28)).alloc (.cells #[.int .i64 0, .int .i64 0, .string ⟨#[]⟩, .slice none 0 0] 28)).alloc (.cells #[.int .i64 0, .int .i64 0, .string ⟨#[]⟩, .slice none 0 0] 28)) (w.heap.size + 1 + 1 + 1 + 1) 0 0 ⟨#[]⟩ none 0 0) := by
    have := ((RowT.new 28 ((((w.alloc (.cells #[.int .i64 op, .int .i64 n, .string s, .slice a len cap] 28)).alloc (.cells #[.int .i64 op2, .int .i64 n2, .string s2, .slice a2 len2 cap2] 28)).alloc (.cells #[.int .i64 0, .int .i64 0, .string ⟨#[]⟩, .slice none 0 0] 28)).alloc (.cells #[.int .i64 0, .int .i64 0, .string ⟨#[]⟩, .slice none 0 0] 28)) 0 0 ⟨#[]⟩ none 0 0).below (ab (.cells #[.int .i64 0, .int .i64 0, .string ⟨#[]⟩, .slice none 0 0] 28))).below (ab (.cells #[.int .i64 0, .int .i64 0, .string ⟨#[]⟩, .slice none 0 0] 28))
    rwa [heap_size_alloc, heap_size_alloc, heap_size_alloc, heap_size_alloc] at this
  have HZ3 : Hid (RowT 28 (((((((w.alloc (.cells #[.int .i64 op, .int .i64 n, .string s, .slice a len cap] 28)).alloc (.cells #[.int .i64 op2, .int .i64 n2, .string s2, .slice a2 len2 cap2] 28)).alloc (.cells #[.int .i64 0, .int .i64 0, .string ⟨#[]⟩, .slice none 0 0] 28)).alloc (.cells #[.int .i64 0, .int .i64 0, .string ⟨#[]⟩, .slice none 0 0] 28)).alloc (.cells #[.int .i64 0, .int .i64 0, .string ⟨#[]⟩, .slice none 0 0] 28)).alloc (.cells #[.int .i64 0, .int .i64 0, .string ⟨#[]⟩, .slice none 0 0] 28)).alloc (.cells #[.int .i64 0, .int .i64 0, .string ⟨#[]⟩, .slice none 0 0] 28)) (w.heap.size + 1 + 1 + 1 + 1 + 1) 0 0 ⟨#[]⟩ none 0 0) := by
    have := (RowT.new 28 (((((w.alloc (.cells #[.int .i64 op, .int .i64 n, .string s, .slice a len cap] 28)).alloc (.cells #[.int .i64 op2, .int .i64 n2, .string s2, .slice a2 len2 cap2] 28)).alloc (.cells #[.int .i64 0, .int .i64 0, .string ⟨#[]⟩, .slice none 0 0] 28)).alloc (.cells #[.int .i64 0, .int .i64 0, .string ⟨#[]⟩, .slice none 0 0] 28)).alloc (.cells #[.int .i64 0, .int .i64 0, .string ⟨#[]⟩, .slice none 0 0] 28)) 0 0 ⟨#[]⟩ none 0 0).below (ab (.cells #[.int .i64 0, .int .i64 0, .string ⟨#[]⟩, .slice none 0 0] 28))
    rwa [heap_size_alloc, heap_size_alloc, heap_size_alloc, heap_size_alloc, heap_size_alloc] at this
  have HZ4 : Hid (RowT 28 (((((((w.alloc (.cells #[.int .i64 op, .int .i64 n, .string s, .slice a len cap] 28)).alloc (.cells #[.int .i64 op2, .int .i64 n2, .string s2, .slice a2 len2 cap2] 28)).alloc (.cells #[.int .i64 0, .int .i64 0, .string ⟨#[]⟩, .slice none 0 0] 28)).alloc (.cells #[.int .i64 0, .int .i64 0, .string ⟨#[]⟩, .slice none 0 0] 28)).alloc (.cells #[.int .i64 0, .int .i64 0, .string ⟨#[]⟩, .slice none 0 0] 28)).alloc (.cells #[.int .i64 0, .int .i64 0, .string ⟨#[]⟩, .slice none 0 0] 28)).alloc (.cells #[.int .i64 0, .int .i64 0, .string ⟨#[]⟩, .slice none 0 0] 28)) (w.heap.size + 1 + 1 + 1 + 1 + 1 + 1) 0 0 ⟨#[]⟩ none 0 0) := by
    have := RowT.new 28 ((((((w.alloc (.cells #[.int .i64 op, .int .i64 n, .string s, .slice a len cap] 28)).alloc (.cells #[.int .i64 op2, .int .i64 n2, .string s2, .slice a2 len2 cap2] 28)).alloc (.cells #[.int .i64 0, .int .i64 0, .string ⟨#[]⟩, .slice none 0 0] 28)).alloc (.cells #[.int .i64 0, .int .i64 0, .string ⟨#[]⟩, .slice none 0 0] 28)).alloc (.cells #[.int .i64 0, .int .i64 0, .string ⟨#[]⟩, .slice none 0 0] 28)).alloc (.cells #[.int .i64 0, .int .i64 0, .string ⟨#[]⟩, .slice none 0 0] 28)) 0 0 ⟨#[]⟩ none 0 0
    rwa [heap_size_alloc, heap_size_alloc, heap_size_alloc, heap_size_alloc, heap_size_alloc, heap_size_alloc] at this
  have HE0 : Hid (RowT 28 (((((((w.alloc (.cells #[.int .i64 op, .int .i64 n, .string s, .slice a len cap] 28)).alloc (.cells #[.int .i64 op2, .int .i64 n2, .string s2, .slice a2 len2 cap2] 28)).alloc (.cells #[.int .i64 0, .int .i64 0, .string ⟨#[]⟩, .slice none 0 0] 28)).alloc (.cells #[.int .i64 0, .int .i64 0, .string ⟨#[]⟩, .slice none 0 0] 28)).alloc (.cells #[.int .i64 0, .int .i64 0, .string ⟨#[]⟩, .slice none 0 0] 28)).alloc (.cells #[.int .i64 0, .int .i64 0, .string ⟨#[]⟩, .slice none 0 0] 28)).alloc (.cells #[.int .i64 0, .int .i64 0, .string ⟨#[]⟩, .slice none 0 0] 28)) w.heap.size op n s a len cap) := ((((((RowT.new 28 w op n s a len cap).below (ab (.cells #[.int .i64 op2, .int .i64 n2, .string s2, .slice a2 len2 cap2] 28))).below (ab (.cells #[.int .i64 0, .int .i64 0, .string ⟨#[]⟩, .slice none 0 0] 28))).below (ab (.cells #[.int .i64 0, .int .i64 0, .string ⟨#[]⟩, .slice none 0 0] 28))).below (ab (.cells #[.int .i64 0, .int .i64 0, .string ⟨#[]⟩, .slice none 0 0] 28))).below (ab (.cells #[.int .i64 0, .int .i64 0, .string ⟨#[]⟩, .slice none 0 0] 28))).below (ab (.cells #[.int .i64 0, .int .i64 0, .string ⟨#[]⟩, .slice none 0 0] 28))
  have HLE := hide (hl.below hb0)
  have HL2 := hide (hl2.below hb0)
  have HB0 := hide hb0
  clear hl hl2 hb0
  go_enter Tryz.func5, Tryz.ntmps5
  go_wp2_with fail
  generalize hgw : (((((((w.alloc (.cells #[.int .i64 op, .int .i64 n, .string s, .slice a len cap] 28)).alloc (.cells #[.int .i64 op2, .int .i64 n2, .string s2, .slice a2 len2 cap2] 28)).alloc (.cells #[.int .i64 0, .int .i64 0, .string ⟨#[]⟩, .slice none 0 0] 28)).alloc (.cells #[.int .i64 0, .int .i64 0, .string ⟨#[]⟩, .slice none 0 0] 28)).alloc (.cells #[.int .i64 0, .int .i64 0, .string ⟨#[]⟩, .slice none 0 0] 28)).alloc (.cells #[.int .i64 0, .int .i64 0, .string ⟨#[]⟩, .slice none 0 0] 28)).alloc (.cells #[.int .i64 0, .int .i64 0, .string ⟨#[]⟩, .slice none 0 0] 28)) = W1 at *
  clear hgw
  refine (unhide hN _ (unhide HL2)).mono ?_
  rintro q w1 ⟨op3, n3, s3, a3, len3, cap3, rfl, hl3, hb1⟩
  obtain ⟨rfl, rfl, rfl, rfl, b, o, op5, n5, s5, a5, len5, cap5, op6, n6, s6, a6, len6, cap6, rfl, ⟨r0, r1, r2, r3, hk0⟩, r4, r5, r6, r7, hk1⟩ := lies_kids (hl3.below hb1)
  have HQ := hide (And.intro r0 (And.intro r1 (And.intro r2 (And.intro r3 (And.intro r4 (And.intro r5 (And.intro r6 r7)))))))
  have HPU := hide hk0
  have HSE := hide hk1
  have HB1 := hide (bt (unhide HB0) hb1 (Nat.le_refl _))
  have HZ0 := hide ((unhide HZ0).below hb1)
  have HZ1 := hide ((unhide HZ1).below hb1)
  have HZ2 := hide ((unhide HZ2).below hb1)
  have HZ3 := hide ((unhide HZ3).below hb1)
  have HZ4 := hide ((unhide HZ4).below hb1)
  have HE0 := hide ((unhide HE0).below hb1)
  have HLE := hide ((unhide HLE).below hb1)
  clear hb1 hN HB0 HL2 hl3 hk0 hk1 r0 r1 r2 r3 r4 r5 r6 r7
  have HWL : Hid (w.heap.size < w1.heap.size) := (unhide HE0).lt
  have HWL2 : Hid (w.heap.size + 1 + 1 + 1 + 1 + 1 < w1.heap.size) := Nat.lt_of_succ_lt (unhide HZ4).lt
  have hX : Hid (RowT 28 (w1.alloc (.cells #[.int .i64 3, .int .i64 n3, .string s3, .slice (some ⟨b, o, none⟩) 2 cap3] 28)) w1.heap.size 3 n3 s3 (some ⟨b, o, none⟩) 2 cap3) := RowT.new 28 w1 3 n3 s3 (some ⟨b, o, none⟩) 2 cap3
  have hp := ab (w := w1) (.cells #[.int .i64 3, .int .i64 n3, .string s3, .slice (some ⟨b, o, none⟩) 2 cap3] 28)
  have HB1 := hide (bt (unhide HB1) hp (Nat.le_refl _))
  have HZ0 := hide ((unhide HZ0).below hp)
  have HZ1 := hide ((unhide HZ1).below hp)
  have HZ2 := hide ((unhide HZ2).below hp)
  have HZ3 := hide ((unhide HZ3).below hp)
  have HZ4 := hide ((unhide HZ4).below hp)
  have HE0 := hide ((unhide HE0).below hp)
  have HLE := hide ((unhide HLE).below hp)
  have HPU := hide ((unhide HPU).below hp)
  have HSE := hide ((unhide HSE).below hp)
  obtain ⟨r0, r1, r2, r3, r4, r5, r6, r7⟩ := unhide HQ
  have r0 := kpc hp r0
  have r1 := kpc hp r1
  have r2 := kpc hp r2
  have r3 := kpc hp r3
  have r4 := kpc hp r4
  have r5 := kpc hp r5
  have r6 := kpc hp r6
  have r7 := kpc hp r7
  have HQ := hide (And.intro r0 (And.intro r1 (And.intro r2 (And.intro r3 (And.intro r4 (And.intro r5 (And.intro r6 r7)))))))
  clear r4 r5 r6 r7
  obtain ⟨x0, x1, x2, x3⟩ := (unhide hX).facts
  obtain ⟨y0, y1, y2, y3⟩ := ((unhide HE0).below (ab (.cells #[.int .i64 op5, .int .i64 n5, .string s5, .slice a5 len5 cap5] 28))).facts
  have HXN := hide (lt_of_cell x0)
  have yn : w.heap.size ≠ w1.heap.size + 1 := Nat.ne_of_lt (Nat.lt_succ_of_lt (unhide HWL))
  have ym := Ne.symm yn
  clear hp
  go_wp2_with fail
  have hp := ab (w := w1.alloc (.cells #[.int .i64 3, .int .i64 n3, .string s3, .slice (some ⟨b, o, none⟩) 2 cap3] 28)) (.cells #[.int .i64 op5, .int .i64 n5, .string s5, .slice a5 len5 cap5] 28)
  refine (unhide hAG op5 n5 s5 a5 len5 cap5 _ ((unhide HLE).below hp) ((unhide HPU).below hp)).mono ?_
  rintro q w2 ⟨op7, n7, s7, a7, len7, cap7, rfl, hl7, hb2, -⟩
  rw [unhide HA]
  have hX5 := (RowT.new 28 (w1.alloc (.cells #[.int .i64 3, .int .i64 n3, .string s3, .slice (some ⟨b, o, none⟩) 2 cap3] 28)) op5 n5 s5 a5 len5 cap5).below hb2
  rw [heap_size_alloc] at hX5
  have HX5 := hide hX5
  have HSL : Hid (w1.heap.size + 1 < w2.heap.size) := hX5.lt
  have hp := bt (bt hp hb2 (Nat.le_refl _)) (ab (.cells #[.int .i64 op7, .int .i64 n7, .string s7, .slice a7 len7 cap7] 28)) (Nat.le_refl _)
  have HX5 := hide ((unhide HX5).below (ab (.cells #[.int .i64 op7, .int .i64 n7, .string s7, .slice a7 len7 cap7] 28)))
  have HL7 := hide ((hl7.any (Nat.zero_le _)).below (ab (.cells #[.int .i64 op7, .int .i64 n7, .string s7, .slice a7 len7 cap7] 28)))
  have HX7 := hide (RowT.new 28 w2 op7 n7 s7 a7 len7 cap7)
  have HBA := hide (bt (unhide HB1) hp (Nat.le_refl _))
  have HZ0 := hide ((unhide HZ0).below hp)
  have HZ1 := hide ((unhide HZ1).below hp)
  have HZ2 := hide ((unhide HZ2).below hp)
  have HZ3 := hide ((unhide HZ3).below hp)
  have HZ4 := hide ((unhide HZ4).below hp)
  have hX := hide ((unhide hX).below hp)
  have HPU := hide ((unhide HPU).below hp)
  have HSE := hide ((unhide HSE).below hp)
  have r0 := kpc hp (unhide HQ).1
  have r1 := kpc hp (unhide HQ).2.1
  have r2 := kpc hp (unhide HQ).2.2.1
  have r3 := kpc hp (unhide HQ).2.2.2.1
  have r4 := kpc hp (unhide HQ).2.2.2.2.1
  have r5 := kpc hp (unhide HQ).2.2.2.2.2.1
  have r6 := kpc hp (unhide HQ).2.2.2.2.2.2.1
  have r7 := kpc hp (unhide HQ).2.2.2.2.2.2.2
  obtain ⟨x0, x1, x2, x3⟩ := (unhide hX).facts
  obtain ⟨g0, g1, g2, g3⟩ := (unhide HX7).facts
  clear hp hb2 hl7 hX5 HB1 HQ y0 y1 y2 y3 yn ym HE0 HLE hAG
  go_wp2_with fail
  generalize hgw : w2.alloc (.cells #[.int .i64 op7, .int .i64 n7, .string s7, .slice a7 len7 cap7] 28) = W2 at *
  clear hgw
  generalize w2.heap.size = bS at *
  generalize w1.heap.size = bX at *
  have hK := hide (fun V (hV : Below W2.heap.size W2 V) => keyS (agreeT e pub) 0 op7 n7 s7 a7 len7 cap7 V ((unhide HL7).below hV) (by have := agree200 e pub; omega) (by decide) (by decide))
  have hO := hide (fun op8 n8 s8 a8 len8 cap8 V (hV : Below W2.heap.size W2 V) hk => openS_any (keyT (agreeT e pub) 0) sealed 0 op8 n8 s8 a8 len8 cap8 op6 n6 s6 a6 len6 cap6 V hk ((unhide HSE).below hV) (by have := unhide HSZ; omega) (by decide) (by decide))
  have lx := lt_of_cell x0
  have ly := lt_of_cell g0
  have lw := lt_of_cell r0
  have lxn := Nat.ne_of_lt lx
  have lxm := Ne.symm lxn
  have lyn := Nat.ne_of_lt ly
  have lym := Ne.symm lyn
  have lwn := Nat.ne_of_lt lw
  have lwm := Ne.symm lwn
  generalize hgO : openT (keyT (agreeT e pub) 0) 0 sealed = OT at *
  have HOT : Hid (KidsOk OT) := hgO ▸ openT_kids _ _ _
  generalize hgB : (openO (keyT (agreeT e pub) 0) 0 sealed).isSome = OB at *
  go_cut [15, 16] (fun p q wx => CutK OT W2 (.bool OB) p q wx)
  case first =>
    go_region_held3 (fun x => x.cell? ⟨bS, 0, none⟩ = some (.int .i64 op7) ∧ x.cell? ⟨bS, 1, none⟩ = some (.int .i64 n7) ∧ x.cell? ⟨bS, 2, none⟩ = some (.string s7) ∧ x.cell? ⟨bS, 3, none⟩ = some (.slice a7 len7 cap7) ∧ x.cell? ⟨bX, 3, none⟩ = some (.slice (some ⟨b, o, none⟩) 2 cap3) ∧ x.cell? ⟨b, o + 4, none⟩ = some (.int .i64 op6) ∧ x.cell? ⟨b, o + 5, none⟩ = some (.int .i64 n6) ∧ x.cell? ⟨b, o + 6, none⟩ = some (.string s6) ∧ x.cell? ⟨b, o + 7, none⟩ = some (.slice a6 len6 cap6)) (go_keep)
      (first
        | (go_at_call 15
           refine (unhide hK _ ?_).mono ?_
           first
             | exact (Below.refl _ _).drew
             | exact (ab _).drew
           rintro e9 w6 ⟨op8, n8, s8, a8, len8, cap8, rfl, hl8, hb6⟩
           try have zz6 := hide (((ZBox.new W2).drew).below hb6)
           have HLK := hide (hl8.any (Nat.zero_le _))
           have C6 : Hid (Below W2.heap.size W2 w6) := by
             first
               | exact below_drew' hb6
               | exact bt (ab _) (below_drew' hb6) (Nat.le_refl _)
           have i0 := kpc (unhide C6) g0
           have i1 := kpc (unhide C6) g1
           have i2 := kpc (unhide C6) g2
           have i3 := kpc (unhide C6) g3
           have ix := kpc (unhide C6) x3
           have j4 := kpc (unhide C6) r4
           have j5 := kpc (unhide C6) r5
           have j6 := kpc (unhide C6) r6
           have j7 := kpc (unhide C6) r7
           clear hl8
           have lz := lt_of_cell i0
           have lzn := Nat.ne_of_lt lz
           have lzm := Ne.symm lzn
           have ls := lt_of_cell ix
           have lsn := Nat.ne_of_lt ls
           have lsm := Ne.symm lsn
           have lq := lt_of_cell j4
           have lqn := Nat.ne_of_lt lq
           have lqm := Ne.symm lqn)
        | (go_at_call 14
           refine (unhide hO _ _ _ _ _ _ _ ?_ ?_).mono ?_
           first
             | exact unhide C6
             | exact bt (unhide C6) (ab _) (Nat.le_refl _)
           first
             | exact unhide HLK
             | exact (unhide HLK).below (ab _)
           rintro e9 w7 ⟨op9, n9, s9, a9, len9, cap9, rfl, hl9, hb7⟩
           try have zz7 := hide ((unhide zz6).below hb7)
           try have zz7 := hide ((ZBox.new w6).below hb7)
           have C7 : Hid (Below w6.heap.size w6 w7) := by
             first
               | exact hb7
               | exact bt (ab _) hb7 (Nat.le_refl _)
           have HL9 := hide hl9
           clear hl9
           have k0 := kpc (unhide C7) i0
           have k1 := kpc (unhide C7) i1
           have k2 := kpc (unhide C7) i2
           have k3 := kpc (unhide C7) i3
           have kx := kpc (unhide C7) ix
           have m4 := kpc (unhide C7) j4
           have m5 := kpc (unhide C7) j5
           have m6 := kpc (unhide C7) j6
           have m7 := kpc (unhide C7) j7
           try obtain ⟨p0, p1, p2, p3, q0, q1, q2, q3⟩ := (unhide zz7).facts
           have lt7 := lt_of_cell k0
           have ltn := Nat.ne_of_lt lt7
           have ltm := Ne.symm ltn
           have lt8 := lt_of_cell kx
           have lt8n := Nat.ne_of_lt lt8
           have lt8m := Ne.symm lt8n
           have lt9 := lt_of_cell m4
           have lt9n := Nat.ne_of_lt lt9
           have lt9m := Ne.symm lt9n))
    all_goals
      go_wp2_with fail
      go_meet
      have s56 := (unhide C6).size
      first
        | (with_reducible refine CutK.late ?_ ?_
           exact bt (unhide C6) (unhide C7) (Nat.le_refl _)
           exact unhide HL9)
        | (with_reducible refine CutK.early ?_ ?_ ?_ ?_ ?_
           exact bt (unhide C6) (unhide C7) (Nat.le_refl _)
           exact unhide zz7
           omega
           exact unhide HOT
           exact unhide HL9)
  case rest =>
    obtain ⟨bB, op8, n8, s8, a8, len8, cap8, rfl, rfl, hge8, hR8, hl8, hbc⟩ := hcut
    have HB := hide (bt (unhide HBA) hbc (Nat.le_refl _))
    have HR8 := hide hR8
    have HL8 := hide hl8
    have HX7 := hide ((unhide HX7).below hbc)
    have HX5 := hide ((unhide HX5).below hbc)
    have HL7 := hide ((unhide HL7).below hbc)
    have HPU := hide ((unhide HPU).below hbc)
    have HZ0 := hide ((unhide HZ0).below hbc)
    have HZ1 := hide ((unhide HZ1).below hbc)
    have HZ2 := hide ((unhide HZ2).below hbc)
    have HZ3 := hide ((unhide HZ3).below hbc)
    have HZ4 := hide ((unhide HZ4).below hbc)
    clear hbc hR8 hl8 HBA r0 r1 r2 r3 r4 r5 r6 r7 x0 x1 x2 x3 g0 g1 g2 g3 lx ly lw lxn lxm lyn lym lwn lwm hK hO HSE
    obtain ⟨u0, u1, u2, u3⟩ := (unhide HR8).facts
    go_wp2_with fail
    have F0 : w.heap.size + 1 + 1 + 1 + 1 + 1 + 1 ≠ w.heap.size + 1 + 1 ∧ w.heap.size + 1 + 1 + 1 + 1 + 1 + 1 ≠ w.heap.size + 1 + 1 + 1 ∧ w.heap.size + 1 + 1 + 1 + 1 + 1 + 1 ≠ w.heap.size + 1 + 1 + 1 + 1 ∧ w.heap.size + 1 + 1 + 1 + 1 + 1 + 1 ≠ w.heap.size + 1 + 1 + 1 + 1 + 1 := ne_far (Nat.lt_succ_self _)
    refine wp_region_held (S := fun y => RowT 28 y (w.heap.size + 1 + 1 + 1 + 1 + 1 + 1) 0 0 ⟨#[]⟩ none 0 0) (by kernel_rfl) ?_
    have hS : (fun y : World => RowT 28 y (w.heap.size + 1 + 1 + 1 + 1 + 1 + 1) 0 0 ⟨#[]⟩ none 0 0) wc.drew := unhide HZ4
    show wpAnyH _ _ _ _ _ _ _ _ wc.drew
    refine take_load (i := 0) rfl rfl (fun y h => h) (by kernel_rfl) (by kernel_rfl) (by kernel_rfl) (fun _ _ _ _ h => h) hS ?_
    simp only [Act.put, List.setIfInBounds_toArray, List.set_cons_succ, List.set_cons_zero]
    refine take_load (i := 1) rfl rfl (fun y h => h) (by kernel_rfl) (by kernel_rfl) (by kernel_rfl) (fun _ _ _ _ h => h) hS ?_
    simp only [Act.put, List.setIfInBounds_toArray, List.set_cons_succ, List.set_cons_zero]
    refine take_load (i := 2) rfl rfl (fun y h => h) (by kernel_rfl) (by kernel_rfl) (by kernel_rfl) (fun _ _ _ _ h => h) hS ?_
    simp only [Act.put, List.setIfInBounds_toArray, List.set_cons_succ, List.set_cons_zero]
    refine take_load (i := 3) rfl rfl (fun y h => h) (by kernel_rfl) (by kernel_rfl) (by kernel_rfl) (fun _ _ _ _ h => h) hS ?_
    simp only [Act.put, List.setIfInBounds_toArray, List.set_cons_succ, List.set_cons_zero]
    refine all_store (i := 4) (by kernel_rfl) rfl rfl rfl (unhide HZ0) (RowT.other hS F0.1) fun hS => ?_
    refine all_store (i := 5) (by kernel_rfl) rfl rfl rfl (RowT.other (unhide HZ1) (zne _).1.1) (RowT.other hS F0.2.1) fun hS => ?_
    refine all_store (i := 6) (by kernel_rfl) rfl rfl rfl (RowT.other (RowT.other (unhide HZ2) (zne _).1.2.1) (zne _).2.1.1) (RowT.other hS F0.2.2.1) fun hS => ?_
    refine all_store (i := 7) (by kernel_rfl) rfl rfl rfl (RowT.other (RowT.other (RowT.other (unhide HZ3) (zne _).1.2.2) (zne _).2.1.2) (zne _).2.2) (RowT.other hS F0.2.2.2) fun hS => ?_
    refine all_assign (i := 8) (by kernel_rfl) rfl rfl hS ?_
    refine wpAnyH_done (by kernel_rfl) ?_ _
    simp only [Act.put, List.setIfInBounds_toArray, List.set_cons_succ, List.set_cons_zero]
    go_wp2_with fail
    obtain ⟨r0, r1, r2, r3⟩ := fill_four (w := wc.drew) (op0 := 0) (n0 := 0) (s0 := ⟨#[]⟩) (a0 := none) (l0 := 0) (k0 := 0) (op1 := 0) (n1 := 0) (s1 := ⟨#[]⟩) (a1 := none) (l1 := 0) (k1 := 0) (op2 := 0) (n2 := 0) (s2 := ⟨#[]⟩) (a2 := none) (l2 := 0) (k2 := 0) (op3 := 0) (n3 := 0) (s3 := ⟨#[]⟩) (a3 := none) (l3 := 0) (k3 := 0) (unhide HZ0) (unhide HZ1) (unhide HZ2) (unhide HZ3)
    exact bodyPost_ret (v := .tuple #[.agg #[.int .i64 0, .int .i64 0, .string ⟨#[]⟩, .slice none 0 0], .agg #[.int .i64 0, .int .i64 0, .string ⟨#[]⟩, .slice none 0 0], .agg #[.int .i64 0, .int .i64 0, .string ⟨#[]⟩, .slice none 0 0], .agg #[.int .i64 0, .int .i64 0, .string ⟨#[]⟩, .slice none 0 0], .bool false]) (results_cells4 Tryz.results5 rfl rfl rfl rfl (RowT.load r0) (RowT.load r1) (RowT.load r2) (RowT.load r3)) rfl ⟨rfl, fill_four_below (w := wc.drew) (unhide HB).drew (le_two _)⟩

set_option maxRecDepth 100000 in
set_option maxHeartbeats 8000000 in
theorem replyS_open_no (e t pub sealed : Tm) (nx : Int) (sx : ByteArray) (op n : Int) (s : ByteArray) (a : Option Addr) (len cap : Nat) (op2 n2 : Int) (s2 : ByteArray) (a2 : Option Addr) (len2 cap2 : Nat) (w : World) (hl : Lies w 0 e (tmCells op n s a len cap)) (hl2 : Lies w 0 t (tmCells op2 n2 s2 a2 len2 cap2)) (hst : e.size + t.size ≤ 1048578) (hb : behO 3 (textT replyW) t = some (.node 3 nx sx [pub, sealed])) (ha : agreeB e pub = true) (ho : openO (keyT (agreeT e pub) 0) 0 sealed = none) : Calls Tryz.prog 5 #[.agg #[.int .i64 op, .int .i64 n, .string s, .slice a len cap], .agg #[.int .i64 op2, .int .i64 n2, .string s2, .slice a2 len2 cap2]] w fun q w' => q = .returned (.tuple #[.agg #[.int .i64 0, .int .i64 0, .string ⟨#[]⟩, .slice none 0 0], .agg #[.int .i64 0, .int .i64 0, .string ⟨#[]⟩, .slice none 0 0], .agg #[.int .i64 0, .int .i64 0, .string ⟨#[]⟩, .slice none 0 0], .agg #[.int .i64 0, .int .i64 0, .string ⟨#[]⟩, .slice none 0 0], .bool false]) ∧ Below w.heap.size w w' := by
  have HA := hide ha
  have HO := hide ho
  clear ha ho
  have HBH := hide hb
  obtain ⟨hp0, hp1, hpz, -⟩ := inO_of_named hb
  have HOP := hide hp0
  have HKZ := hide hpz
  have hN := hide (fun V hl => named_some t (.node 3 nx sx [pub, sealed]) replyW (by decide) op2 n2 s2 a2 len2 cap2 V hl (by omega) hb)
  have hAG := hide (fun op5 n5 s5 a5 len5 cap5 V h1 h2 => agree_calls e pub op n s a len cap op5 n5 s5 a5 len5 cap5 V h1 h2 (by omega))
  have HSZ : Hid (sealed.size ≤ 1048578) := by show _ ≤ _; omega
  have hCP := hide (fun op5 n5 s5 a5 len5 cap5 V h1 => cz_calls pub op5 n5 s5 a5 len5 cap5 V h1 (by have := okT_small hp0; omega))
  clear hp0 hp1 hpz hst hb
  have hb0 : Below w.heap.size w (((((((w.alloc (.cells #[.int .i64 op, .int .i64 n, .string s, .slice a len cap] 28)).alloc (.cells #[.int .i64 op2, .int .i64 n2, .string s2, .slice a2 len2 cap2] 28)).alloc (.cells #[.int .i64 0, .int .i64 0, .string ⟨#[]⟩, .slice none 0 0] 28)).alloc (.cells #[.int .i64 0, .int .i64 0, .string ⟨#[]⟩, .slice none 0 0] 28)).alloc (.cells #[.int .i64 0, .int .i64 0, .string ⟨#[]⟩, .slice none 0 0] 28)).alloc (.cells #[.int .i64 0, .int .i64 0, .string ⟨#[]⟩, .slice none 0 0] 28)).alloc (.cells #[.int .i64 0, .int .i64 0, .string ⟨#[]⟩, .slice none 0 0] 28)) := bt (bt (bt (bt (bt (bt (ab _) (ab _) (Nat.le_refl _)) (ab _) (Nat.le_refl _)) (ab _) (Nat.le_refl _)) (ab _) (Nat.le_refl _)) (ab _) (Nat.le_refl _)) (ab _) (Nat.le_refl _)
  have HZ0 : Hid (RowT 28 (((((((w.alloc (.cells #[.int .i64 op, .int .i64 n, .string s, .slice a len cap] 28)).alloc (.cells #[.int .i64 op2, .int .i64 n2, .string s2, .slice a2 len2 cap2] 28)).alloc (.cells #[.int .i64 0, .int .i64 0, .string ⟨#[]⟩, .slice none 0 0] 28)).alloc (.cells #[.int .i64 0, .int .i64 0, .string ⟨#[]⟩, .slice none 0 0] 28)).alloc (.cells #[.int .i64 0, .int .i64 0, .string ⟨#[]⟩, .slice none 0 0] 28)).alloc (.cells #[.int .i64 0, .int .i64 0, .string ⟨#[]⟩, .slice none 0 0] 28)).alloc (.cells #[.int .i64 0, .int .i64 0, .string ⟨#[]⟩, .slice none 0 0] 28)) (w.heap.size + 1 + 1) 0 0 ⟨#[]⟩ none 0 0) := by
    have := ((((RowT.new 28 ((w.alloc (.cells #[.int .i64 op, .int .i64 n, .string s, .slice a len cap] 28)).alloc (.cells #[.int .i64 op2, .int .i64 n2, .string s2, .slice a2 len2 cap2] 28)) 0 0 ⟨#[]⟩ none 0 0).below (ab (.cells #[.int .i64 0, .int .i64 0, .string ⟨#[]⟩, .slice none 0 0] 28))).below (ab (.cells #[.int .i64 0, .int .i64 0, .string ⟨#[]⟩, .slice none 0 0] 28))).below (ab (.cells #[.int .i64 0, .int .i64 0, .string ⟨#[]⟩, .slice none 0 0] 28))).below (ab (.cells #[.int .i64 0, .int .i64 0, .string ⟨#[]⟩, .slice none 0 0] 28))
    rwa [heap_size_alloc, heap_size_alloc] at this
  have HZ1 : Hid (RowT 28 (((((((w.alloc (.cells #[.int .i64 op, .int .i64 n, .string s, .slice a len cap] 28)).alloc (.cells #[.int .i64 op2, .int .i64 n2, .string s2, .slice a2 len2 cap2] 28)).alloc (.cells #[.int .i64 0, .int .i64 0, .string ⟨#[]⟩, .slice none 0 0] 28)).alloc (.cells #[.int .i64 0, .int .i64 0, .string ⟨#[]⟩, .slice none 0 0] 28)).alloc (.cells #[.int .i64 0, .int .i64 0, .string ⟨#[]⟩, .slice none 0 0] 28)).alloc (.cells #[.int .i64 0, .int .i64 0, .string ⟨#[]⟩, .slice none 0 0] 28)).alloc (.cells #[.int .i64 0, .int .i64 0, .string ⟨#[]⟩, .slice none 0 0] 28)) (w.heap.size + 1 + 1 + 1) 0 0 ⟨#[]⟩ none 0 0) := by
    have := (((RowT.new 28 (((w.alloc (.cells #[.int .i64 op, .int .i64 n, .string s, .slice a len cap] 28)).alloc (.cells #[.int .i64 op2, .int .i64 n2, .string s2, .slice a2 len2 cap2] 28)).alloc (.cells #[.int .i64 0, .int .i64 0, .string ⟨#[]⟩, .slice none 0 0] 28)) 0 0 ⟨#[]⟩ none 0 0).below (ab (.cells #[.int .i64 0, .int .i64 0, .string ⟨#[]⟩, .slice none 0 0] 28))).below (ab (.cells #[.int .i64 0, .int .i64 0, .string ⟨#[]⟩, .slice none 0 0] 28))).below (ab (.cells #[.int .i64 0, .int .i64 0, .string ⟨#[]⟩, .slice none 0 0] 28))
    rwa [heap_size_alloc, heap_size_alloc, heap_size_alloc] at this
  have HZ2 : Hid (RowT 28 (((((((w.alloc (.cells #[.int .i64 op, .int .i64 n, .string s, .slice a len cap] 28)).alloc (.cells #[.int .i64 op2, .int .i64 n2, .string s2, .slice a2 len2 cap2] 28)).alloc (.cells #[.int .i64 0, .int .i64 0, .string ⟨#[]⟩, .slice none 0 0] 28)).alloc (.cells #[.int .i64 0, .int .i64 0, .string ⟨#[]⟩, .slice none 0 0] 28)).alloc (.cells #[.int .i64 0, .int .i64 0, .string ⟨#[]⟩, .slice none 0 0] 28)).alloc (.cells #[.int .i64 0, .int .i64 0, .string ⟨#[]⟩, .slice none 0 0] 28)).alloc (.cells #[.int .i64 0, .int .i64 0, .string ⟨#[]⟩, .slice none 0 0] 28)) (w.heap.size + 1 + 1 + 1 + 1) 0 0 ⟨#[]⟩ none 0 0) := by
    have := ((RowT.new 28 ((((w.alloc (.cells #[.int .i64 op, .int .i64 n, .string s, .slice a len cap] 28)).alloc (.cells #[.int .i64 op2, .int .i64 n2, .string s2, .slice a2 len2 cap2] 28)).alloc (.cells #[.int .i64 0, .int .i64 0, .string ⟨#[]⟩, .slice none 0 0] 28)).alloc (.cells #[.int .i64 0, .int .i64 0, .string ⟨#[]⟩, .slice none 0 0] 28)) 0 0 ⟨#[]⟩ none 0 0).below (ab (.cells #[.int .i64 0, .int .i64 0, .string ⟨#[]⟩, .slice none 0 0] 28))).below (ab (.cells #[.int .i64 0, .int .i64 0, .string ⟨#[]⟩, .slice none 0 0] 28))
    rwa [heap_size_alloc, heap_size_alloc, heap_size_alloc, heap_size_alloc] at this
  have HZ3 : Hid (RowT 28 (((((((w.alloc (.cells #[.int .i64 op, .int .i64 n, .string s, .slice a len cap] 28)).alloc (.cells #[.int .i64 op2, .int .i64 n2, .string s2, .slice a2 len2 cap2] 28)).alloc (.cells #[.int .i64 0, .int .i64 0, .string ⟨#[]⟩, .slice none 0 0] 28)).alloc (.cells #[.int .i64 0, .int .i64 0, .string ⟨#[]⟩, .slice none 0 0] 28)).alloc (.cells #[.int .i64 0, .int .i64 0, .string ⟨#[]⟩, .slice none 0 0] 28)).alloc (.cells #[.int .i64 0, .int .i64 0, .string ⟨#[]⟩, .slice none 0 0] 28)).alloc (.cells #[.int .i64 0, .int .i64 0, .string ⟨#[]⟩, .slice none 0 0] 28)) (w.heap.size + 1 + 1 + 1 + 1 + 1) 0 0 ⟨#[]⟩ none 0 0) := by
    have := (RowT.new 28 (((((w.alloc (.cells #[.int .i64 op, .int .i64 n, .string s, .slice a len cap] 28)).alloc (.cells #[.int .i64 op2, .int .i64 n2, .string s2, .slice a2 len2 cap2] 28)).alloc (.cells #[.int .i64 0, .int .i64 0, .string ⟨#[]⟩, .slice none 0 0] 28)).alloc (.cells #[.int .i64 0, .int .i64 0, .string ⟨#[]⟩, .slice none 0 0] 28)).alloc (.cells #[.int .i64 0, .int .i64 0, .string ⟨#[]⟩, .slice none 0 0] 28)) 0 0 ⟨#[]⟩ none 0 0).below (ab (.cells #[.int .i64 0, .int .i64 0, .string ⟨#[]⟩, .slice none 0 0] 28))
    rwa [heap_size_alloc, heap_size_alloc, heap_size_alloc, heap_size_alloc, heap_size_alloc] at this
  have HZ4 : Hid (RowT 28 (((((((w.alloc (.cells #[.int .i64 op, .int .i64 n, .string s, .slice a len cap] 28)).alloc (.cells #[.int .i64 op2, .int .i64 n2, .string s2, .slice a2 len2 cap2] 28)).alloc (.cells #[.int .i64 0, .int .i64 0, .string ⟨#[]⟩, .slice none 0 0] 28)).alloc (.cells #[.int .i64 0, .int .i64 0, .string ⟨#[]⟩, .slice none 0 0] 28)).alloc (.cells #[.int .i64 0, .int .i64 0, .string ⟨#[]⟩, .slice none 0 0] 28)).alloc (.cells #[.int .i64 0, .int .i64 0, .string ⟨#[]⟩, .slice none 0 0] 28)).alloc (.cells #[.int .i64 0, .int .i64 0, .string ⟨#[]⟩, .slice none 0 0] 28)) (w.heap.size + 1 + 1 + 1 + 1 + 1 + 1) 0 0 ⟨#[]⟩ none 0 0) := by
    have := RowT.new 28 ((((((w.alloc (.cells #[.int .i64 op, .int .i64 n, .string s, .slice a len cap] 28)).alloc (.cells #[.int .i64 op2, .int .i64 n2, .string s2, .slice a2 len2 cap2] 28)).alloc (.cells #[.int .i64 0, .int .i64 0, .string ⟨#[]⟩, .slice none 0 0] 28)).alloc (.cells #[.int .i64 0, .int .i64 0, .string ⟨#[]⟩, .slice none 0 0] 28)).alloc (.cells #[.int .i64 0, .int .i64 0, .string ⟨#[]⟩, .slice none 0 0] 28)).alloc (.cells #[.int .i64 0, .int .i64 0, .string ⟨#[]⟩, .slice none 0 0] 28)) 0 0 ⟨#[]⟩ none 0 0
    rwa [heap_size_alloc, heap_size_alloc, heap_size_alloc, heap_size_alloc, heap_size_alloc, heap_size_alloc] at this
  have HE0 : Hid (RowT 28 (((((((w.alloc (.cells #[.int .i64 op, .int .i64 n, .string s, .slice a len cap] 28)).alloc (.cells #[.int .i64 op2, .int .i64 n2, .string s2, .slice a2 len2 cap2] 28)).alloc (.cells #[.int .i64 0, .int .i64 0, .string ⟨#[]⟩, .slice none 0 0] 28)).alloc (.cells #[.int .i64 0, .int .i64 0, .string ⟨#[]⟩, .slice none 0 0] 28)).alloc (.cells #[.int .i64 0, .int .i64 0, .string ⟨#[]⟩, .slice none 0 0] 28)).alloc (.cells #[.int .i64 0, .int .i64 0, .string ⟨#[]⟩, .slice none 0 0] 28)).alloc (.cells #[.int .i64 0, .int .i64 0, .string ⟨#[]⟩, .slice none 0 0] 28)) w.heap.size op n s a len cap) := ((((((RowT.new 28 w op n s a len cap).below (ab (.cells #[.int .i64 op2, .int .i64 n2, .string s2, .slice a2 len2 cap2] 28))).below (ab (.cells #[.int .i64 0, .int .i64 0, .string ⟨#[]⟩, .slice none 0 0] 28))).below (ab (.cells #[.int .i64 0, .int .i64 0, .string ⟨#[]⟩, .slice none 0 0] 28))).below (ab (.cells #[.int .i64 0, .int .i64 0, .string ⟨#[]⟩, .slice none 0 0] 28))).below (ab (.cells #[.int .i64 0, .int .i64 0, .string ⟨#[]⟩, .slice none 0 0] 28))).below (ab (.cells #[.int .i64 0, .int .i64 0, .string ⟨#[]⟩, .slice none 0 0] 28))
  have HLE := hide (hl.below hb0)
  have HL2 := hide (hl2.below hb0)
  have HB0 := hide hb0
  clear hl hl2 hb0
  go_enter Tryz.func5, Tryz.ntmps5
  go_wp2_with fail
  generalize hgw : (((((((w.alloc (.cells #[.int .i64 op, .int .i64 n, .string s, .slice a len cap] 28)).alloc (.cells #[.int .i64 op2, .int .i64 n2, .string s2, .slice a2 len2 cap2] 28)).alloc (.cells #[.int .i64 0, .int .i64 0, .string ⟨#[]⟩, .slice none 0 0] 28)).alloc (.cells #[.int .i64 0, .int .i64 0, .string ⟨#[]⟩, .slice none 0 0] 28)).alloc (.cells #[.int .i64 0, .int .i64 0, .string ⟨#[]⟩, .slice none 0 0] 28)).alloc (.cells #[.int .i64 0, .int .i64 0, .string ⟨#[]⟩, .slice none 0 0] 28)).alloc (.cells #[.int .i64 0, .int .i64 0, .string ⟨#[]⟩, .slice none 0 0] 28)) = W1 at *
  clear hgw
  refine (unhide hN _ (unhide HL2)).mono ?_
  rintro q w1 ⟨op3, n3, s3, a3, len3, cap3, rfl, hl3, hb1⟩
  obtain ⟨rfl, rfl, rfl, rfl, b, o, op5, n5, s5, a5, len5, cap5, op6, n6, s6, a6, len6, cap6, rfl, ⟨r0, r1, r2, r3, hk0⟩, r4, r5, r6, r7, hk1⟩ := lies_kids (hl3.below hb1)
  have HQ := hide (And.intro r0 (And.intro r1 (And.intro r2 (And.intro r3 (And.intro r4 (And.intro r5 (And.intro r6 r7)))))))
  have HPU := hide hk0
  have HSE := hide hk1
  have HB1 := hide (bt (unhide HB0) hb1 (Nat.le_refl _))
  have HZ0 := hide ((unhide HZ0).below hb1)
  have HZ1 := hide ((unhide HZ1).below hb1)
  have HZ2 := hide ((unhide HZ2).below hb1)
  have HZ3 := hide ((unhide HZ3).below hb1)
  have HZ4 := hide ((unhide HZ4).below hb1)
  have HE0 := hide ((unhide HE0).below hb1)
  have HLE := hide ((unhide HLE).below hb1)
  clear hb1 hN HB0 HL2 hl3 hk0 hk1 r0 r1 r2 r3 r4 r5 r6 r7
  have HWL : Hid (w.heap.size < w1.heap.size) := (unhide HE0).lt
  have HWL2 : Hid (w.heap.size + 1 + 1 + 1 + 1 + 1 < w1.heap.size) := Nat.lt_of_succ_lt (unhide HZ4).lt
  have hX : Hid (RowT 28 (w1.alloc (.cells #[.int .i64 3, .int .i64 n3, .string s3, .slice (some ⟨b, o, none⟩) 2 cap3] 28)) w1.heap.size 3 n3 s3 (some ⟨b, o, none⟩) 2 cap3) := RowT.new 28 w1 3 n3 s3 (some ⟨b, o, none⟩) 2 cap3
  have hp := ab (w := w1) (.cells #[.int .i64 3, .int .i64 n3, .string s3, .slice (some ⟨b, o, none⟩) 2 cap3] 28)
  have HB1 := hide (bt (unhide HB1) hp (Nat.le_refl _))
  have HZ0 := hide ((unhide HZ0).below hp)
  have HZ1 := hide ((unhide HZ1).below hp)
  have HZ2 := hide ((unhide HZ2).below hp)
  have HZ3 := hide ((unhide HZ3).below hp)
  have HZ4 := hide ((unhide HZ4).below hp)
  have HE0 := hide ((unhide HE0).below hp)
  have HLE := hide ((unhide HLE).below hp)
  have HPU := hide ((unhide HPU).below hp)
  have HSE := hide ((unhide HSE).below hp)
  obtain ⟨r0, r1, r2, r3, r4, r5, r6, r7⟩ := unhide HQ
  have r0 := kpc hp r0
  have r1 := kpc hp r1
  have r2 := kpc hp r2
  have r3 := kpc hp r3
  have r4 := kpc hp r4
  have r5 := kpc hp r5
  have r6 := kpc hp r6
  have r7 := kpc hp r7
  have HQ := hide (And.intro r0 (And.intro r1 (And.intro r2 (And.intro r3 (And.intro r4 (And.intro r5 (And.intro r6 r7)))))))
  clear r4 r5 r6 r7
  obtain ⟨x0, x1, x2, x3⟩ := (unhide hX).facts
  obtain ⟨y0, y1, y2, y3⟩ := ((unhide HE0).below (ab (.cells #[.int .i64 op5, .int .i64 n5, .string s5, .slice a5 len5 cap5] 28))).facts
  have HXN := hide (lt_of_cell x0)
  have yn : w.heap.size ≠ w1.heap.size + 1 := Nat.ne_of_lt (Nat.lt_succ_of_lt (unhide HWL))
  have ym := Ne.symm yn
  clear hp
  go_wp2_with fail
  have hp := ab (w := w1.alloc (.cells #[.int .i64 3, .int .i64 n3, .string s3, .slice (some ⟨b, o, none⟩) 2 cap3] 28)) (.cells #[.int .i64 op5, .int .i64 n5, .string s5, .slice a5 len5 cap5] 28)
  refine (unhide hAG op5 n5 s5 a5 len5 cap5 _ ((unhide HLE).below hp) ((unhide HPU).below hp)).mono ?_
  rintro q w2 ⟨op7, n7, s7, a7, len7, cap7, rfl, hl7, hb2, -⟩
  rw [unhide HA]
  have hX5 := (RowT.new 28 (w1.alloc (.cells #[.int .i64 3, .int .i64 n3, .string s3, .slice (some ⟨b, o, none⟩) 2 cap3] 28)) op5 n5 s5 a5 len5 cap5).below hb2
  rw [heap_size_alloc] at hX5
  have HX5 := hide hX5
  have HSL : Hid (w1.heap.size + 1 < w2.heap.size) := hX5.lt
  have hp := bt (bt hp hb2 (Nat.le_refl _)) (ab (.cells #[.int .i64 op7, .int .i64 n7, .string s7, .slice a7 len7 cap7] 28)) (Nat.le_refl _)
  have HX5 := hide ((unhide HX5).below (ab (.cells #[.int .i64 op7, .int .i64 n7, .string s7, .slice a7 len7 cap7] 28)))
  have HL7 := hide ((hl7.any (Nat.zero_le _)).below (ab (.cells #[.int .i64 op7, .int .i64 n7, .string s7, .slice a7 len7 cap7] 28)))
  have HX7 := hide (RowT.new 28 w2 op7 n7 s7 a7 len7 cap7)
  have HBA := hide (bt (unhide HB1) hp (Nat.le_refl _))
  have HZ0 := hide ((unhide HZ0).below hp)
  have HZ1 := hide ((unhide HZ1).below hp)
  have HZ2 := hide ((unhide HZ2).below hp)
  have HZ3 := hide ((unhide HZ3).below hp)
  have HZ4 := hide ((unhide HZ4).below hp)
  have hX := hide ((unhide hX).below hp)
  have HPU := hide ((unhide HPU).below hp)
  have HSE := hide ((unhide HSE).below hp)
  have r0 := kpc hp (unhide HQ).1
  have r1 := kpc hp (unhide HQ).2.1
  have r2 := kpc hp (unhide HQ).2.2.1
  have r3 := kpc hp (unhide HQ).2.2.2.1
  have r4 := kpc hp (unhide HQ).2.2.2.2.1
  have r5 := kpc hp (unhide HQ).2.2.2.2.2.1
  have r6 := kpc hp (unhide HQ).2.2.2.2.2.2.1
  have r7 := kpc hp (unhide HQ).2.2.2.2.2.2.2
  obtain ⟨x0, x1, x2, x3⟩ := (unhide hX).facts
  obtain ⟨g0, g1, g2, g3⟩ := (unhide HX7).facts
  clear hp hb2 hl7 hX5 HB1 HQ y0 y1 y2 y3 yn ym HE0 HLE hAG
  go_wp2_with fail
  generalize hgw : w2.alloc (.cells #[.int .i64 op7, .int .i64 n7, .string s7, .slice a7 len7 cap7] 28) = W2 at *
  clear hgw
  generalize w2.heap.size = bS at *
  generalize w1.heap.size = bX at *
  have hK := hide (fun V (hV : Below W2.heap.size W2 V) => keyS (agreeT e pub) 0 op7 n7 s7 a7 len7 cap7 V ((unhide HL7).below hV) (by have := agree200 e pub; omega) (by decide) (by decide))
  have hO := hide (fun op8 n8 s8 a8 len8 cap8 V (hV : Below W2.heap.size W2 V) hk => openS_any (keyT (agreeT e pub) 0) sealed 0 op8 n8 s8 a8 len8 cap8 op6 n6 s6 a6 len6 cap6 V hk ((unhide HSE).below hV) (by have := unhide HSZ; omega) (by decide) (by decide))
  have lx := lt_of_cell x0
  have ly := lt_of_cell g0
  have lw := lt_of_cell r0
  have lxn := Nat.ne_of_lt lx
  have lxm := Ne.symm lxn
  have lyn := Nat.ne_of_lt ly
  have lym := Ne.symm lyn
  have lwn := Nat.ne_of_lt lw
  have lwm := Ne.symm lwn
  generalize hgO : openT (keyT (agreeT e pub) 0) 0 sealed = OT at *
  have HOT : Hid (KidsOk OT) := hgO ▸ openT_kids _ _ _
  generalize hgB : (openO (keyT (agreeT e pub) 0) 0 sealed).isSome = OB at *
  go_cut [15, 16] (fun p q wx => CutK OT W2 (.bool OB) p q wx)
  case first =>
    go_region_held3 (fun x => x.cell? ⟨bS, 0, none⟩ = some (.int .i64 op7) ∧ x.cell? ⟨bS, 1, none⟩ = some (.int .i64 n7) ∧ x.cell? ⟨bS, 2, none⟩ = some (.string s7) ∧ x.cell? ⟨bS, 3, none⟩ = some (.slice a7 len7 cap7) ∧ x.cell? ⟨bX, 3, none⟩ = some (.slice (some ⟨b, o, none⟩) 2 cap3) ∧ x.cell? ⟨b, o + 4, none⟩ = some (.int .i64 op6) ∧ x.cell? ⟨b, o + 5, none⟩ = some (.int .i64 n6) ∧ x.cell? ⟨b, o + 6, none⟩ = some (.string s6) ∧ x.cell? ⟨b, o + 7, none⟩ = some (.slice a6 len6 cap6)) (go_keep)
      (first
        | (go_at_call 15
           refine (unhide hK _ ?_).mono ?_
           first
             | exact (Below.refl _ _).drew
             | exact (ab _).drew
           rintro e9 w6 ⟨op8, n8, s8, a8, len8, cap8, rfl, hl8, hb6⟩
           try have zz6 := hide (((ZBox.new W2).drew).below hb6)
           have HLK := hide (hl8.any (Nat.zero_le _))
           have C6 : Hid (Below W2.heap.size W2 w6) := by
             first
               | exact below_drew' hb6
               | exact bt (ab _) (below_drew' hb6) (Nat.le_refl _)
           have i0 := kpc (unhide C6) g0
           have i1 := kpc (unhide C6) g1
           have i2 := kpc (unhide C6) g2
           have i3 := kpc (unhide C6) g3
           have ix := kpc (unhide C6) x3
           have j4 := kpc (unhide C6) r4
           have j5 := kpc (unhide C6) r5
           have j6 := kpc (unhide C6) r6
           have j7 := kpc (unhide C6) r7
           clear hl8
           have lz := lt_of_cell i0
           have lzn := Nat.ne_of_lt lz
           have lzm := Ne.symm lzn
           have ls := lt_of_cell ix
           have lsn := Nat.ne_of_lt ls
           have lsm := Ne.symm lsn
           have lq := lt_of_cell j4
           have lqn := Nat.ne_of_lt lq
           have lqm := Ne.symm lqn)
        | (go_at_call 14
           refine (unhide hO _ _ _ _ _ _ _ ?_ ?_).mono ?_
           first
             | exact unhide C6
             | exact bt (unhide C6) (ab _) (Nat.le_refl _)
           first
             | exact unhide HLK
             | exact (unhide HLK).below (ab _)
           rintro e9 w7 ⟨op9, n9, s9, a9, len9, cap9, rfl, hl9, hb7⟩
           try have zz7 := hide ((unhide zz6).below hb7)
           try have zz7 := hide ((ZBox.new w6).below hb7)
           have C7 : Hid (Below w6.heap.size w6 w7) := by
             first
               | exact hb7
               | exact bt (ab _) hb7 (Nat.le_refl _)
           have HL9 := hide hl9
           clear hl9
           have k0 := kpc (unhide C7) i0
           have k1 := kpc (unhide C7) i1
           have k2 := kpc (unhide C7) i2
           have k3 := kpc (unhide C7) i3
           have kx := kpc (unhide C7) ix
           have m4 := kpc (unhide C7) j4
           have m5 := kpc (unhide C7) j5
           have m6 := kpc (unhide C7) j6
           have m7 := kpc (unhide C7) j7
           try obtain ⟨p0, p1, p2, p3, q0, q1, q2, q3⟩ := (unhide zz7).facts
           have lt7 := lt_of_cell k0
           have ltn := Nat.ne_of_lt lt7
           have ltm := Ne.symm ltn
           have lt8 := lt_of_cell kx
           have lt8n := Nat.ne_of_lt lt8
           have lt8m := Ne.symm lt8n
           have lt9 := lt_of_cell m4
           have lt9n := Nat.ne_of_lt lt9
           have lt9m := Ne.symm lt9n))
    all_goals
      go_wp2_with fail
      go_meet
      have s56 := (unhide C6).size
      first
        | (with_reducible refine CutK.late ?_ ?_
           exact bt (unhide C6) (unhide C7) (Nat.le_refl _)
           exact unhide HL9)
        | (with_reducible refine CutK.early ?_ ?_ ?_ ?_ ?_
           exact bt (unhide C6) (unhide C7) (Nat.le_refl _)
           exact unhide zz7
           omega
           exact unhide HOT
           exact unhide HL9)
  case rest =>
    obtain ⟨bB, op8, n8, s8, a8, len8, cap8, rfl, rfl, hge8, hR8, hl8, hbc⟩ := hcut
    have HB := hide (bt (unhide HBA) hbc (Nat.le_refl _))
    have HR8 := hide hR8
    have HL8 := hide hl8
    have HX7 := hide ((unhide HX7).below hbc)
    have HX5 := hide ((unhide HX5).below hbc)
    have HL7 := hide ((unhide HL7).below hbc)
    have HPU := hide ((unhide HPU).below hbc)
    have HZ0 := hide ((unhide HZ0).below hbc)
    have HZ1 := hide ((unhide HZ1).below hbc)
    have HZ2 := hide ((unhide HZ2).below hbc)
    have HZ3 := hide ((unhide HZ3).below hbc)
    have HZ4 := hide ((unhide HZ4).below hbc)
    clear hbc hR8 hl8 HBA r0 r1 r2 r3 r4 r5 r6 r7 x0 x1 x2 x3 g0 g1 g2 g3 lx ly lw lxn lxm lyn lym lwn lwm hK hO HSE
    have hOB : OB = false := by rw [← hgB, unhide HO]; rfl
    subst hOB
    obtain ⟨u0, u1, u2, u3⟩ := (unhide HR8).facts
    go_wp2_with fail
    have F0 : w.heap.size + 1 + 1 + 1 + 1 + 1 + 1 ≠ w.heap.size + 1 + 1 ∧ w.heap.size + 1 + 1 + 1 + 1 + 1 + 1 ≠ w.heap.size + 1 + 1 + 1 ∧ w.heap.size + 1 + 1 + 1 + 1 + 1 + 1 ≠ w.heap.size + 1 + 1 + 1 + 1 ∧ w.heap.size + 1 + 1 + 1 + 1 + 1 + 1 ≠ w.heap.size + 1 + 1 + 1 + 1 + 1 := ne_far (Nat.lt_succ_self _)
    refine wp_region_held (S := fun y => RowT 28 y (w.heap.size + 1 + 1 + 1 + 1 + 1 + 1) 0 0 ⟨#[]⟩ none 0 0) (by kernel_rfl) ?_
    have hS : (fun y : World => RowT 28 y (w.heap.size + 1 + 1 + 1 + 1 + 1 + 1) 0 0 ⟨#[]⟩ none 0 0) wc.drew := unhide HZ4
    show wpAnyH _ _ _ _ _ _ _ _ wc.drew
    refine take_load (i := 0) rfl rfl (fun y h => h) (by kernel_rfl) (by kernel_rfl) (by kernel_rfl) (fun _ _ _ _ h => h) hS ?_
    simp only [Act.put, List.setIfInBounds_toArray, List.set_cons_succ, List.set_cons_zero]
    refine take_load (i := 1) rfl rfl (fun y h => h) (by kernel_rfl) (by kernel_rfl) (by kernel_rfl) (fun _ _ _ _ h => h) hS ?_
    simp only [Act.put, List.setIfInBounds_toArray, List.set_cons_succ, List.set_cons_zero]
    refine take_load (i := 2) rfl rfl (fun y h => h) (by kernel_rfl) (by kernel_rfl) (by kernel_rfl) (fun _ _ _ _ h => h) hS ?_
    simp only [Act.put, List.setIfInBounds_toArray, List.set_cons_succ, List.set_cons_zero]
    refine take_load (i := 3) rfl rfl (fun y h => h) (by kernel_rfl) (by kernel_rfl) (by kernel_rfl) (fun _ _ _ _ h => h) hS ?_
    simp only [Act.put, List.setIfInBounds_toArray, List.set_cons_succ, List.set_cons_zero]
    refine all_store (i := 4) (by kernel_rfl) rfl rfl rfl (unhide HZ0) (RowT.other hS F0.1) fun hS => ?_
    refine all_store (i := 5) (by kernel_rfl) rfl rfl rfl (RowT.other (unhide HZ1) (zne _).1.1) (RowT.other hS F0.2.1) fun hS => ?_
    refine all_store (i := 6) (by kernel_rfl) rfl rfl rfl (RowT.other (RowT.other (unhide HZ2) (zne _).1.2.1) (zne _).2.1.1) (RowT.other hS F0.2.2.1) fun hS => ?_
    refine all_store (i := 7) (by kernel_rfl) rfl rfl rfl (RowT.other (RowT.other (RowT.other (unhide HZ3) (zne _).1.2.2) (zne _).2.1.2) (zne _).2.2) (RowT.other hS F0.2.2.2) fun hS => ?_
    refine all_assign (i := 8) (by kernel_rfl) rfl rfl hS ?_
    refine wpAnyH_done (by kernel_rfl) ?_ _
    simp only [Act.put, List.setIfInBounds_toArray, List.set_cons_succ, List.set_cons_zero]
    go_wp2_with fail
    obtain ⟨r0, r1, r2, r3⟩ := fill_four (w := wc.drew) (op0 := 0) (n0 := 0) (s0 := ⟨#[]⟩) (a0 := none) (l0 := 0) (k0 := 0) (op1 := 0) (n1 := 0) (s1 := ⟨#[]⟩) (a1 := none) (l1 := 0) (k1 := 0) (op2 := 0) (n2 := 0) (s2 := ⟨#[]⟩) (a2 := none) (l2 := 0) (k2 := 0) (op3 := 0) (n3 := 0) (s3 := ⟨#[]⟩) (a3 := none) (l3 := 0) (k3 := 0) (unhide HZ0) (unhide HZ1) (unhide HZ2) (unhide HZ3)
    exact bodyPost_ret (v := .tuple #[.agg #[.int .i64 0, .int .i64 0, .string ⟨#[]⟩, .slice none 0 0], .agg #[.int .i64 0, .int .i64 0, .string ⟨#[]⟩, .slice none 0 0], .agg #[.int .i64 0, .int .i64 0, .string ⟨#[]⟩, .slice none 0 0], .agg #[.int .i64 0, .int .i64 0, .string ⟨#[]⟩, .slice none 0 0], .bool false]) (results_cells4 Tryz.results5 rfl rfl rfl rfl (RowT.load r0) (RowT.load r1) (RowT.load r2) (RowT.load r3)) rfl ⟨rfl, fill_four_below (w := wc.drew) (unhide HB).drew (le_two _)⟩

set_option maxRecDepth 100000 in
set_option maxHeartbeats 8000000 in
theorem replyS_body_no (e t pub sealed body : Tm) (nx : Int) (sx : ByteArray) (op n : Int) (s : ByteArray) (a : Option Addr) (len cap : Nat) (op2 n2 : Int) (s2 : ByteArray) (a2 : Option Addr) (len2 cap2 : Nat) (w : World) (hl : Lies w 0 e (tmCells op n s a len cap)) (hl2 : Lies w 0 t (tmCells op2 n2 s2 a2 len2 cap2)) (hst : e.size + t.size ≤ 1048578) (hb : behO 3 (textT replyW) t = some (.node 3 nx sx [pub, sealed])) (ha : agreeB e pub = true) (ho : openO (keyT (agreeT e pub) 0) 0 sealed = some body) (h3 : body.opOf ≠ 3) : Calls Tryz.prog 5 #[.agg #[.int .i64 op, .int .i64 n, .string s, .slice a len cap], .agg #[.int .i64 op2, .int .i64 n2, .string s2, .slice a2 len2 cap2]] w fun q w' => q = .returned (.tuple #[.agg #[.int .i64 0, .int .i64 0, .string ⟨#[]⟩, .slice none 0 0], .agg #[.int .i64 0, .int .i64 0, .string ⟨#[]⟩, .slice none 0 0], .agg #[.int .i64 0, .int .i64 0, .string ⟨#[]⟩, .slice none 0 0], .agg #[.int .i64 0, .int .i64 0, .string ⟨#[]⟩, .slice none 0 0], .bool false]) ∧ Below w.heap.size w w' := by
  have HA := hide ha
  have HO := hide ho
  have H3 := hide h3
  clear ha ho h3
  have HBH := hide hb
  obtain ⟨hp0, hp1, hpz, -⟩ := inO_of_named hb
  have HOP := hide hp0
  have HKZ := hide hpz
  have hN := hide (fun V hl => named_some t (.node 3 nx sx [pub, sealed]) replyW (by decide) op2 n2 s2 a2 len2 cap2 V hl (by omega) hb)
  have hAG := hide (fun op5 n5 s5 a5 len5 cap5 V h1 h2 => agree_calls e pub op n s a len cap op5 n5 s5 a5 len5 cap5 V h1 h2 (by omega))
  have HSZ : Hid (sealed.size ≤ 1048578) := by show _ ≤ _; omega
  have hCP := hide (fun op5 n5 s5 a5 len5 cap5 V h1 => cz_calls pub op5 n5 s5 a5 len5 cap5 V h1 (by have := okT_small hp0; omega))
  clear hp0 hp1 hpz hst hb
  have hb0 : Below w.heap.size w (((((((w.alloc (.cells #[.int .i64 op, .int .i64 n, .string s, .slice a len cap] 28)).alloc (.cells #[.int .i64 op2, .int .i64 n2, .string s2, .slice a2 len2 cap2] 28)).alloc (.cells #[.int .i64 0, .int .i64 0, .string ⟨#[]⟩, .slice none 0 0] 28)).alloc (.cells #[.int .i64 0, .int .i64 0, .string ⟨#[]⟩, .slice none 0 0] 28)).alloc (.cells #[.int .i64 0, .int .i64 0, .string ⟨#[]⟩, .slice none 0 0] 28)).alloc (.cells #[.int .i64 0, .int .i64 0, .string ⟨#[]⟩, .slice none 0 0] 28)).alloc (.cells #[.int .i64 0, .int .i64 0, .string ⟨#[]⟩, .slice none 0 0] 28)) := bt (bt (bt (bt (bt (bt (ab _) (ab _) (Nat.le_refl _)) (ab _) (Nat.le_refl _)) (ab _) (Nat.le_refl _)) (ab _) (Nat.le_refl _)) (ab _) (Nat.le_refl _)) (ab _) (Nat.le_refl _)
  have HZ0 : Hid (RowT 28 (((((((w.alloc (.cells #[.int .i64 op, .int .i64 n, .string s, .slice a len cap] 28)).alloc (.cells #[.int .i64 op2, .int .i64 n2, .string s2, .slice a2 len2 cap2] 28)).alloc (.cells #[.int .i64 0, .int .i64 0, .string ⟨#[]⟩, .slice none 0 0] 28)).alloc (.cells #[.int .i64 0, .int .i64 0, .string ⟨#[]⟩, .slice none 0 0] 28)).alloc (.cells #[.int .i64 0, .int .i64 0, .string ⟨#[]⟩, .slice none 0 0] 28)).alloc (.cells #[.int .i64 0, .int .i64 0, .string ⟨#[]⟩, .slice none 0 0] 28)).alloc (.cells #[.int .i64 0, .int .i64 0, .string ⟨#[]⟩, .slice none 0 0] 28)) (w.heap.size + 1 + 1) 0 0 ⟨#[]⟩ none 0 0) := by
    have := ((((RowT.new 28 ((w.alloc (.cells #[.int .i64 op, .int .i64 n, .string s, .slice a len cap] 28)).alloc (.cells #[.int .i64 op2, .int .i64 n2, .string s2, .slice a2 len2 cap2] 28)) 0 0 ⟨#[]⟩ none 0 0).below (ab (.cells #[.int .i64 0, .int .i64 0, .string ⟨#[]⟩, .slice none 0 0] 28))).below (ab (.cells #[.int .i64 0, .int .i64 0, .string ⟨#[]⟩, .slice none 0 0] 28))).below (ab (.cells #[.int .i64 0, .int .i64 0, .string ⟨#[]⟩, .slice none 0 0] 28))).below (ab (.cells #[.int .i64 0, .int .i64 0, .string ⟨#[]⟩, .slice none 0 0] 28))
    rwa [heap_size_alloc, heap_size_alloc] at this
  have HZ1 : Hid (RowT 28 (((((((w.alloc (.cells #[.int .i64 op, .int .i64 n, .string s, .slice a len cap] 28)).alloc (.cells #[.int .i64 op2, .int .i64 n2, .string s2, .slice a2 len2 cap2] 28)).alloc (.cells #[.int .i64 0, .int .i64 0, .string ⟨#[]⟩, .slice none 0 0] 28)).alloc (.cells #[.int .i64 0, .int .i64 0, .string ⟨#[]⟩, .slice none 0 0] 28)).alloc (.cells #[.int .i64 0, .int .i64 0, .string ⟨#[]⟩, .slice none 0 0] 28)).alloc (.cells #[.int .i64 0, .int .i64 0, .string ⟨#[]⟩, .slice none 0 0] 28)).alloc (.cells #[.int .i64 0, .int .i64 0, .string ⟨#[]⟩, .slice none 0 0] 28)) (w.heap.size + 1 + 1 + 1) 0 0 ⟨#[]⟩ none 0 0) := by
    have := (((RowT.new 28 (((w.alloc (.cells #[.int .i64 op, .int .i64 n, .string s, .slice a len cap] 28)).alloc (.cells #[.int .i64 op2, .int .i64 n2, .string s2, .slice a2 len2 cap2] 28)).alloc (.cells #[.int .i64 0, .int .i64 0, .string ⟨#[]⟩, .slice none 0 0] 28)) 0 0 ⟨#[]⟩ none 0 0).below (ab (.cells #[.int .i64 0, .int .i64 0, .string ⟨#[]⟩, .slice none 0 0] 28))).below (ab (.cells #[.int .i64 0, .int .i64 0, .string ⟨#[]⟩, .slice none 0 0] 28))).below (ab (.cells #[.int .i64 0, .int .i64 0, .string ⟨#[]⟩, .slice none 0 0] 28))
    rwa [heap_size_alloc, heap_size_alloc, heap_size_alloc] at this
  have HZ2 : Hid (RowT 28 (((((((w.alloc (.cells #[.int .i64 op, .int .i64 n, .string s, .slice a len cap] 28)).alloc (.cells #[.int .i64 op2, .int .i64 n2, .string s2, .slice a2 len2 cap2] 28)).alloc (.cells #[.int .i64 0, .int .i64 0, .string ⟨#[]⟩, .slice none 0 0] 28)).alloc (.cells #[.int .i64 0, .int .i64 0, .string ⟨#[]⟩, .slice none 0 0] 28)).alloc (.cells #[.int .i64 0, .int .i64 0, .string ⟨#[]⟩, .slice none 0 0] 28)).alloc (.cells #[.int .i64 0, .int .i64 0, .string ⟨#[]⟩, .slice none 0 0] 28)).alloc (.cells #[.int .i64 0, .int .i64 0, .string ⟨#[]⟩, .slice none 0 0] 28)) (w.heap.size + 1 + 1 + 1 + 1) 0 0 ⟨#[]⟩ none 0 0) := by
    have := ((RowT.new 28 ((((w.alloc (.cells #[.int .i64 op, .int .i64 n, .string s, .slice a len cap] 28)).alloc (.cells #[.int .i64 op2, .int .i64 n2, .string s2, .slice a2 len2 cap2] 28)).alloc (.cells #[.int .i64 0, .int .i64 0, .string ⟨#[]⟩, .slice none 0 0] 28)).alloc (.cells #[.int .i64 0, .int .i64 0, .string ⟨#[]⟩, .slice none 0 0] 28)) 0 0 ⟨#[]⟩ none 0 0).below (ab (.cells #[.int .i64 0, .int .i64 0, .string ⟨#[]⟩, .slice none 0 0] 28))).below (ab (.cells #[.int .i64 0, .int .i64 0, .string ⟨#[]⟩, .slice none 0 0] 28))
    rwa [heap_size_alloc, heap_size_alloc, heap_size_alloc, heap_size_alloc] at this
  have HZ3 : Hid (RowT 28 (((((((w.alloc (.cells #[.int .i64 op, .int .i64 n, .string s, .slice a len cap] 28)).alloc (.cells #[.int .i64 op2, .int .i64 n2, .string s2, .slice a2 len2 cap2] 28)).alloc (.cells #[.int .i64 0, .int .i64 0, .string ⟨#[]⟩, .slice none 0 0] 28)).alloc (.cells #[.int .i64 0, .int .i64 0, .string ⟨#[]⟩, .slice none 0 0] 28)).alloc (.cells #[.int .i64 0, .int .i64 0, .string ⟨#[]⟩, .slice none 0 0] 28)).alloc (.cells #[.int .i64 0, .int .i64 0, .string ⟨#[]⟩, .slice none 0 0] 28)).alloc (.cells #[.int .i64 0, .int .i64 0, .string ⟨#[]⟩, .slice none 0 0] 28)) (w.heap.size + 1 + 1 + 1 + 1 + 1) 0 0 ⟨#[]⟩ none 0 0) := by
    have := (RowT.new 28 (((((w.alloc (.cells #[.int .i64 op, .int .i64 n, .string s, .slice a len cap] 28)).alloc (.cells #[.int .i64 op2, .int .i64 n2, .string s2, .slice a2 len2 cap2] 28)).alloc (.cells #[.int .i64 0, .int .i64 0, .string ⟨#[]⟩, .slice none 0 0] 28)).alloc (.cells #[.int .i64 0, .int .i64 0, .string ⟨#[]⟩, .slice none 0 0] 28)).alloc (.cells #[.int .i64 0, .int .i64 0, .string ⟨#[]⟩, .slice none 0 0] 28)) 0 0 ⟨#[]⟩ none 0 0).below (ab (.cells #[.int .i64 0, .int .i64 0, .string ⟨#[]⟩, .slice none 0 0] 28))
    rwa [heap_size_alloc, heap_size_alloc, heap_size_alloc, heap_size_alloc, heap_size_alloc] at this
  have HZ4 : Hid (RowT 28 (((((((w.alloc (.cells #[.int .i64 op, .int .i64 n, .string s, .slice a len cap] 28)).alloc (.cells #[.int .i64 op2, .int .i64 n2, .string s2, .slice a2 len2 cap2] 28)).alloc (.cells #[.int .i64 0, .int .i64 0, .string ⟨#[]⟩, .slice none 0 0] 28)).alloc (.cells #[.int .i64 0, .int .i64 0, .string ⟨#[]⟩, .slice none 0 0] 28)).alloc (.cells #[.int .i64 0, .int .i64 0, .string ⟨#[]⟩, .slice none 0 0] 28)).alloc (.cells #[.int .i64 0, .int .i64 0, .string ⟨#[]⟩, .slice none 0 0] 28)).alloc (.cells #[.int .i64 0, .int .i64 0, .string ⟨#[]⟩, .slice none 0 0] 28)) (w.heap.size + 1 + 1 + 1 + 1 + 1 + 1) 0 0 ⟨#[]⟩ none 0 0) := by
    have := RowT.new 28 ((((((w.alloc (.cells #[.int .i64 op, .int .i64 n, .string s, .slice a len cap] 28)).alloc (.cells #[.int .i64 op2, .int .i64 n2, .string s2, .slice a2 len2 cap2] 28)).alloc (.cells #[.int .i64 0, .int .i64 0, .string ⟨#[]⟩, .slice none 0 0] 28)).alloc (.cells #[.int .i64 0, .int .i64 0, .string ⟨#[]⟩, .slice none 0 0] 28)).alloc (.cells #[.int .i64 0, .int .i64 0, .string ⟨#[]⟩, .slice none 0 0] 28)).alloc (.cells #[.int .i64 0, .int .i64 0, .string ⟨#[]⟩, .slice none 0 0] 28)) 0 0 ⟨#[]⟩ none 0 0
    rwa [heap_size_alloc, heap_size_alloc, heap_size_alloc, heap_size_alloc, heap_size_alloc, heap_size_alloc] at this
  have HE0 : Hid (RowT 28 (((((((w.alloc (.cells #[.int .i64 op, .int .i64 n, .string s, .slice a len cap] 28)).alloc (.cells #[.int .i64 op2, .int .i64 n2, .string s2, .slice a2 len2 cap2] 28)).alloc (.cells #[.int .i64 0, .int .i64 0, .string ⟨#[]⟩, .slice none 0 0] 28)).alloc (.cells #[.int .i64 0, .int .i64 0, .string ⟨#[]⟩, .slice none 0 0] 28)).alloc (.cells #[.int .i64 0, .int .i64 0, .string ⟨#[]⟩, .slice none 0 0] 28)).alloc (.cells #[.int .i64 0, .int .i64 0, .string ⟨#[]⟩, .slice none 0 0] 28)).alloc (.cells #[.int .i64 0, .int .i64 0, .string ⟨#[]⟩, .slice none 0 0] 28)) w.heap.size op n s a len cap) := ((((((RowT.new 28 w op n s a len cap).below (ab (.cells #[.int .i64 op2, .int .i64 n2, .string s2, .slice a2 len2 cap2] 28))).below (ab (.cells #[.int .i64 0, .int .i64 0, .string ⟨#[]⟩, .slice none 0 0] 28))).below (ab (.cells #[.int .i64 0, .int .i64 0, .string ⟨#[]⟩, .slice none 0 0] 28))).below (ab (.cells #[.int .i64 0, .int .i64 0, .string ⟨#[]⟩, .slice none 0 0] 28))).below (ab (.cells #[.int .i64 0, .int .i64 0, .string ⟨#[]⟩, .slice none 0 0] 28))).below (ab (.cells #[.int .i64 0, .int .i64 0, .string ⟨#[]⟩, .slice none 0 0] 28))
  have HLE := hide (hl.below hb0)
  have HL2 := hide (hl2.below hb0)
  have HB0 := hide hb0
  clear hl hl2 hb0
  go_enter Tryz.func5, Tryz.ntmps5
  go_wp2_with fail
  generalize hgw : (((((((w.alloc (.cells #[.int .i64 op, .int .i64 n, .string s, .slice a len cap] 28)).alloc (.cells #[.int .i64 op2, .int .i64 n2, .string s2, .slice a2 len2 cap2] 28)).alloc (.cells #[.int .i64 0, .int .i64 0, .string ⟨#[]⟩, .slice none 0 0] 28)).alloc (.cells #[.int .i64 0, .int .i64 0, .string ⟨#[]⟩, .slice none 0 0] 28)).alloc (.cells #[.int .i64 0, .int .i64 0, .string ⟨#[]⟩, .slice none 0 0] 28)).alloc (.cells #[.int .i64 0, .int .i64 0, .string ⟨#[]⟩, .slice none 0 0] 28)).alloc (.cells #[.int .i64 0, .int .i64 0, .string ⟨#[]⟩, .slice none 0 0] 28)) = W1 at *
  clear hgw
  refine (unhide hN _ (unhide HL2)).mono ?_
  rintro q w1 ⟨op3, n3, s3, a3, len3, cap3, rfl, hl3, hb1⟩
  obtain ⟨rfl, rfl, rfl, rfl, b, o, op5, n5, s5, a5, len5, cap5, op6, n6, s6, a6, len6, cap6, rfl, ⟨r0, r1, r2, r3, hk0⟩, r4, r5, r6, r7, hk1⟩ := lies_kids (hl3.below hb1)
  have HQ := hide (And.intro r0 (And.intro r1 (And.intro r2 (And.intro r3 (And.intro r4 (And.intro r5 (And.intro r6 r7)))))))
  have HPU := hide hk0
  have HSE := hide hk1
  have HB1 := hide (bt (unhide HB0) hb1 (Nat.le_refl _))
  have HZ0 := hide ((unhide HZ0).below hb1)
  have HZ1 := hide ((unhide HZ1).below hb1)
  have HZ2 := hide ((unhide HZ2).below hb1)
  have HZ3 := hide ((unhide HZ3).below hb1)
  have HZ4 := hide ((unhide HZ4).below hb1)
  have HE0 := hide ((unhide HE0).below hb1)
  have HLE := hide ((unhide HLE).below hb1)
  clear hb1 hN HB0 HL2 hl3 hk0 hk1 r0 r1 r2 r3 r4 r5 r6 r7
  have HWL : Hid (w.heap.size < w1.heap.size) := (unhide HE0).lt
  have HWL2 : Hid (w.heap.size + 1 + 1 + 1 + 1 + 1 < w1.heap.size) := Nat.lt_of_succ_lt (unhide HZ4).lt
  have hX : Hid (RowT 28 (w1.alloc (.cells #[.int .i64 3, .int .i64 n3, .string s3, .slice (some ⟨b, o, none⟩) 2 cap3] 28)) w1.heap.size 3 n3 s3 (some ⟨b, o, none⟩) 2 cap3) := RowT.new 28 w1 3 n3 s3 (some ⟨b, o, none⟩) 2 cap3
  have hp := ab (w := w1) (.cells #[.int .i64 3, .int .i64 n3, .string s3, .slice (some ⟨b, o, none⟩) 2 cap3] 28)
  have HB1 := hide (bt (unhide HB1) hp (Nat.le_refl _))
  have HZ0 := hide ((unhide HZ0).below hp)
  have HZ1 := hide ((unhide HZ1).below hp)
  have HZ2 := hide ((unhide HZ2).below hp)
  have HZ3 := hide ((unhide HZ3).below hp)
  have HZ4 := hide ((unhide HZ4).below hp)
  have HE0 := hide ((unhide HE0).below hp)
  have HLE := hide ((unhide HLE).below hp)
  have HPU := hide ((unhide HPU).below hp)
  have HSE := hide ((unhide HSE).below hp)
  obtain ⟨r0, r1, r2, r3, r4, r5, r6, r7⟩ := unhide HQ
  have r0 := kpc hp r0
  have r1 := kpc hp r1
  have r2 := kpc hp r2
  have r3 := kpc hp r3
  have r4 := kpc hp r4
  have r5 := kpc hp r5
  have r6 := kpc hp r6
  have r7 := kpc hp r7
  have HQ := hide (And.intro r0 (And.intro r1 (And.intro r2 (And.intro r3 (And.intro r4 (And.intro r5 (And.intro r6 r7)))))))
  clear r4 r5 r6 r7
  obtain ⟨x0, x1, x2, x3⟩ := (unhide hX).facts
  obtain ⟨y0, y1, y2, y3⟩ := ((unhide HE0).below (ab (.cells #[.int .i64 op5, .int .i64 n5, .string s5, .slice a5 len5 cap5] 28))).facts
  have HXN := hide (lt_of_cell x0)
  have yn : w.heap.size ≠ w1.heap.size + 1 := Nat.ne_of_lt (Nat.lt_succ_of_lt (unhide HWL))
  have ym := Ne.symm yn
  clear hp
  go_wp2_with fail
  have hp := ab (w := w1.alloc (.cells #[.int .i64 3, .int .i64 n3, .string s3, .slice (some ⟨b, o, none⟩) 2 cap3] 28)) (.cells #[.int .i64 op5, .int .i64 n5, .string s5, .slice a5 len5 cap5] 28)
  refine (unhide hAG op5 n5 s5 a5 len5 cap5 _ ((unhide HLE).below hp) ((unhide HPU).below hp)).mono ?_
  rintro q w2 ⟨op7, n7, s7, a7, len7, cap7, rfl, hl7, hb2, -⟩
  rw [unhide HA]
  have hX5 := (RowT.new 28 (w1.alloc (.cells #[.int .i64 3, .int .i64 n3, .string s3, .slice (some ⟨b, o, none⟩) 2 cap3] 28)) op5 n5 s5 a5 len5 cap5).below hb2
  rw [heap_size_alloc] at hX5
  have HX5 := hide hX5
  have HSL : Hid (w1.heap.size + 1 < w2.heap.size) := hX5.lt
  have hp := bt (bt hp hb2 (Nat.le_refl _)) (ab (.cells #[.int .i64 op7, .int .i64 n7, .string s7, .slice a7 len7 cap7] 28)) (Nat.le_refl _)
  have HX5 := hide ((unhide HX5).below (ab (.cells #[.int .i64 op7, .int .i64 n7, .string s7, .slice a7 len7 cap7] 28)))
  have HL7 := hide ((hl7.any (Nat.zero_le _)).below (ab (.cells #[.int .i64 op7, .int .i64 n7, .string s7, .slice a7 len7 cap7] 28)))
  have HX7 := hide (RowT.new 28 w2 op7 n7 s7 a7 len7 cap7)
  have HBA := hide (bt (unhide HB1) hp (Nat.le_refl _))
  have HZ0 := hide ((unhide HZ0).below hp)
  have HZ1 := hide ((unhide HZ1).below hp)
  have HZ2 := hide ((unhide HZ2).below hp)
  have HZ3 := hide ((unhide HZ3).below hp)
  have HZ4 := hide ((unhide HZ4).below hp)
  have hX := hide ((unhide hX).below hp)
  have HPU := hide ((unhide HPU).below hp)
  have HSE := hide ((unhide HSE).below hp)
  have r0 := kpc hp (unhide HQ).1
  have r1 := kpc hp (unhide HQ).2.1
  have r2 := kpc hp (unhide HQ).2.2.1
  have r3 := kpc hp (unhide HQ).2.2.2.1
  have r4 := kpc hp (unhide HQ).2.2.2.2.1
  have r5 := kpc hp (unhide HQ).2.2.2.2.2.1
  have r6 := kpc hp (unhide HQ).2.2.2.2.2.2.1
  have r7 := kpc hp (unhide HQ).2.2.2.2.2.2.2
  obtain ⟨x0, x1, x2, x3⟩ := (unhide hX).facts
  obtain ⟨g0, g1, g2, g3⟩ := (unhide HX7).facts
  clear hp hb2 hl7 hX5 HB1 HQ y0 y1 y2 y3 yn ym HE0 HLE hAG
  go_wp2_with fail
  generalize hgw : w2.alloc (.cells #[.int .i64 op7, .int .i64 n7, .string s7, .slice a7 len7 cap7] 28) = W2 at *
  clear hgw
  generalize w2.heap.size = bS at *
  generalize w1.heap.size = bX at *
  have hK := hide (fun V (hV : Below W2.heap.size W2 V) => keyS (agreeT e pub) 0 op7 n7 s7 a7 len7 cap7 V ((unhide HL7).below hV) (by have := agree200 e pub; omega) (by decide) (by decide))
  have hO := hide (fun op8 n8 s8 a8 len8 cap8 V (hV : Below W2.heap.size W2 V) hk => openS_any (keyT (agreeT e pub) 0) sealed 0 op8 n8 s8 a8 len8 cap8 op6 n6 s6 a6 len6 cap6 V hk ((unhide HSE).below hV) (by have := unhide HSZ; omega) (by decide) (by decide))
  have lx := lt_of_cell x0
  have ly := lt_of_cell g0
  have lw := lt_of_cell r0
  have lxn := Nat.ne_of_lt lx
  have lxm := Ne.symm lxn
  have lyn := Nat.ne_of_lt ly
  have lym := Ne.symm lyn
  have lwn := Nat.ne_of_lt lw
  have lwm := Ne.symm lwn
  generalize hgO : openT (keyT (agreeT e pub) 0) 0 sealed = OT at *
  have HOT : Hid (KidsOk OT) := hgO ▸ openT_kids _ _ _
  generalize hgB : (openO (keyT (agreeT e pub) 0) 0 sealed).isSome = OB at *
  go_cut [15, 16] (fun p q wx => CutK OT W2 (.bool OB) p q wx)
  case first =>
    go_region_held3 (fun x => x.cell? ⟨bS, 0, none⟩ = some (.int .i64 op7) ∧ x.cell? ⟨bS, 1, none⟩ = some (.int .i64 n7) ∧ x.cell? ⟨bS, 2, none⟩ = some (.string s7) ∧ x.cell? ⟨bS, 3, none⟩ = some (.slice a7 len7 cap7) ∧ x.cell? ⟨bX, 3, none⟩ = some (.slice (some ⟨b, o, none⟩) 2 cap3) ∧ x.cell? ⟨b, o + 4, none⟩ = some (.int .i64 op6) ∧ x.cell? ⟨b, o + 5, none⟩ = some (.int .i64 n6) ∧ x.cell? ⟨b, o + 6, none⟩ = some (.string s6) ∧ x.cell? ⟨b, o + 7, none⟩ = some (.slice a6 len6 cap6)) (go_keep)
      (first
        | (go_at_call 15
           refine (unhide hK _ ?_).mono ?_
           first
             | exact (Below.refl _ _).drew
             | exact (ab _).drew
           rintro e9 w6 ⟨op8, n8, s8, a8, len8, cap8, rfl, hl8, hb6⟩
           try have zz6 := hide (((ZBox.new W2).drew).below hb6)
           have HLK := hide (hl8.any (Nat.zero_le _))
           have C6 : Hid (Below W2.heap.size W2 w6) := by
             first
               | exact below_drew' hb6
               | exact bt (ab _) (below_drew' hb6) (Nat.le_refl _)
           have i0 := kpc (unhide C6) g0
           have i1 := kpc (unhide C6) g1
           have i2 := kpc (unhide C6) g2
           have i3 := kpc (unhide C6) g3
           have ix := kpc (unhide C6) x3
           have j4 := kpc (unhide C6) r4
           have j5 := kpc (unhide C6) r5
           have j6 := kpc (unhide C6) r6
           have j7 := kpc (unhide C6) r7
           clear hl8
           have lz := lt_of_cell i0
           have lzn := Nat.ne_of_lt lz
           have lzm := Ne.symm lzn
           have ls := lt_of_cell ix
           have lsn := Nat.ne_of_lt ls
           have lsm := Ne.symm lsn
           have lq := lt_of_cell j4
           have lqn := Nat.ne_of_lt lq
           have lqm := Ne.symm lqn)
        | (go_at_call 14
           refine (unhide hO _ _ _ _ _ _ _ ?_ ?_).mono ?_
           first
             | exact unhide C6
             | exact bt (unhide C6) (ab _) (Nat.le_refl _)
           first
             | exact unhide HLK
             | exact (unhide HLK).below (ab _)
           rintro e9 w7 ⟨op9, n9, s9, a9, len9, cap9, rfl, hl9, hb7⟩
           try have zz7 := hide ((unhide zz6).below hb7)
           try have zz7 := hide ((ZBox.new w6).below hb7)
           have C7 : Hid (Below w6.heap.size w6 w7) := by
             first
               | exact hb7
               | exact bt (ab _) hb7 (Nat.le_refl _)
           have HL9 := hide hl9
           clear hl9
           have k0 := kpc (unhide C7) i0
           have k1 := kpc (unhide C7) i1
           have k2 := kpc (unhide C7) i2
           have k3 := kpc (unhide C7) i3
           have kx := kpc (unhide C7) ix
           have m4 := kpc (unhide C7) j4
           have m5 := kpc (unhide C7) j5
           have m6 := kpc (unhide C7) j6
           have m7 := kpc (unhide C7) j7
           try obtain ⟨p0, p1, p2, p3, q0, q1, q2, q3⟩ := (unhide zz7).facts
           have lt7 := lt_of_cell k0
           have ltn := Nat.ne_of_lt lt7
           have ltm := Ne.symm ltn
           have lt8 := lt_of_cell kx
           have lt8n := Nat.ne_of_lt lt8
           have lt8m := Ne.symm lt8n
           have lt9 := lt_of_cell m4
           have lt9n := Nat.ne_of_lt lt9
           have lt9m := Ne.symm lt9n))
    all_goals
      go_wp2_with fail
      go_meet
      have s56 := (unhide C6).size
      first
        | (with_reducible refine CutK.late ?_ ?_
           exact bt (unhide C6) (unhide C7) (Nat.le_refl _)
           exact unhide HL9)
        | (with_reducible refine CutK.early ?_ ?_ ?_ ?_ ?_
           exact bt (unhide C6) (unhide C7) (Nat.le_refl _)
           exact unhide zz7
           omega
           exact unhide HOT
           exact unhide HL9)
  case rest =>
    obtain ⟨bB, op8, n8, s8, a8, len8, cap8, rfl, rfl, hge8, hR8, hl8, hbc⟩ := hcut
    have HB := hide (bt (unhide HBA) hbc (Nat.le_refl _))
    have HR8 := hide hR8
    have HL8 := hide hl8
    have HX7 := hide ((unhide HX7).below hbc)
    have HX5 := hide ((unhide HX5).below hbc)
    have HL7 := hide ((unhide HL7).below hbc)
    have HPU := hide ((unhide HPU).below hbc)
    have HZ0 := hide ((unhide HZ0).below hbc)
    have HZ1 := hide ((unhide HZ1).below hbc)
    have HZ2 := hide ((unhide HZ2).below hbc)
    have HZ3 := hide ((unhide HZ3).below hbc)
    have HZ4 := hide ((unhide HZ4).below hbc)
    clear hbc hR8 hl8 HBA r0 r1 r2 r3 r4 r5 r6 r7 x0 x1 x2 x3 g0 g1 g2 g3 lx ly lw lxn lxm lyn lym lwn lwm hK hO HSE
    have hOB : OB = true := by rw [← hgB, unhide HO]; rfl
    subst hOB
    obtain ⟨u0, u1, u2, u3⟩ := (unhide HR8).facts
    have hne : (op8 != 3) = true := by rw [lies_opOf (unhide HL8), ← hgO]; unfold openT; rw [unhide HO]; simpa using unhide H3
    go_wp2_with fail
    have F0 : w.heap.size + 1 + 1 + 1 + 1 + 1 + 1 ≠ w.heap.size + 1 + 1 ∧ w.heap.size + 1 + 1 + 1 + 1 + 1 + 1 ≠ w.heap.size + 1 + 1 + 1 ∧ w.heap.size + 1 + 1 + 1 + 1 + 1 + 1 ≠ w.heap.size + 1 + 1 + 1 + 1 ∧ w.heap.size + 1 + 1 + 1 + 1 + 1 + 1 ≠ w.heap.size + 1 + 1 + 1 + 1 + 1 := ne_far (Nat.lt_succ_self _)
    refine wp_region_held (S := fun y => RowT 28 y (w.heap.size + 1 + 1 + 1 + 1 + 1 + 1) 0 0 ⟨#[]⟩ none 0 0) (by kernel_rfl) ?_
    have hS : (fun y : World => RowT 28 y (w.heap.size + 1 + 1 + 1 + 1 + 1 + 1) 0 0 ⟨#[]⟩ none 0 0) wc.drew := unhide HZ4
    show wpAnyH _ _ _ _ _ _ _ _ wc.drew
    refine take_load (i := 0) rfl rfl (fun y h => h) (by kernel_rfl) (by kernel_rfl) (by kernel_rfl) (fun _ _ _ _ h => h) hS ?_
    simp only [Act.put, List.setIfInBounds_toArray, List.set_cons_succ, List.set_cons_zero]
    refine take_load (i := 1) rfl rfl (fun y h => h) (by kernel_rfl) (by kernel_rfl) (by kernel_rfl) (fun _ _ _ _ h => h) hS ?_
    simp only [Act.put, List.setIfInBounds_toArray, List.set_cons_succ, List.set_cons_zero]
    refine take_load (i := 2) rfl rfl (fun y h => h) (by kernel_rfl) (by kernel_rfl) (by kernel_rfl) (fun _ _ _ _ h => h) hS ?_
    simp only [Act.put, List.setIfInBounds_toArray, List.set_cons_succ, List.set_cons_zero]
    refine take_load (i := 3) rfl rfl (fun y h => h) (by kernel_rfl) (by kernel_rfl) (by kernel_rfl) (fun _ _ _ _ h => h) hS ?_
    simp only [Act.put, List.setIfInBounds_toArray, List.set_cons_succ, List.set_cons_zero]
    refine all_store (i := 4) (by kernel_rfl) rfl rfl rfl (unhide HZ0) (RowT.other hS F0.1) fun hS => ?_
    refine all_store (i := 5) (by kernel_rfl) rfl rfl rfl (RowT.other (unhide HZ1) (zne _).1.1) (RowT.other hS F0.2.1) fun hS => ?_
    refine all_store (i := 6) (by kernel_rfl) rfl rfl rfl (RowT.other (RowT.other (unhide HZ2) (zne _).1.2.1) (zne _).2.1.1) (RowT.other hS F0.2.2.1) fun hS => ?_
    refine all_store (i := 7) (by kernel_rfl) rfl rfl rfl (RowT.other (RowT.other (RowT.other (unhide HZ3) (zne _).1.2.2) (zne _).2.1.2) (zne _).2.2) (RowT.other hS F0.2.2.2) fun hS => ?_
    refine all_assign (i := 8) (by kernel_rfl) rfl rfl hS ?_
    refine wpAnyH_done (by kernel_rfl) ?_ _
    simp only [Act.put, List.setIfInBounds_toArray, List.set_cons_succ, List.set_cons_zero]
    go_wp2_with fail
    obtain ⟨r0, r1, r2, r3⟩ := fill_four (w := wc.drew) (op0 := 0) (n0 := 0) (s0 := ⟨#[]⟩) (a0 := none) (l0 := 0) (k0 := 0) (op1 := 0) (n1 := 0) (s1 := ⟨#[]⟩) (a1 := none) (l1 := 0) (k1 := 0) (op2 := 0) (n2 := 0) (s2 := ⟨#[]⟩) (a2 := none) (l2 := 0) (k2 := 0) (op3 := 0) (n3 := 0) (s3 := ⟨#[]⟩) (a3 := none) (l3 := 0) (k3 := 0) (unhide HZ0) (unhide HZ1) (unhide HZ2) (unhide HZ3)
    exact bodyPost_ret (v := .tuple #[.agg #[.int .i64 0, .int .i64 0, .string ⟨#[]⟩, .slice none 0 0], .agg #[.int .i64 0, .int .i64 0, .string ⟨#[]⟩, .slice none 0 0], .agg #[.int .i64 0, .int .i64 0, .string ⟨#[]⟩, .slice none 0 0], .agg #[.int .i64 0, .int .i64 0, .string ⟨#[]⟩, .slice none 0 0], .bool false]) (results_cells4 Tryz.results5 rfl rfl rfl rfl (RowT.load r0) (RowT.load r1) (RowT.load r2) (RowT.load r3)) rfl ⟨rfl, fill_four_below (w := wc.drew) (unhide HB).drew (le_two _)⟩

theorem all_call1 {ops : Array Oper} {Q : Exit → Act → World → Prop} {S : World → Prop} {md : Region.Mode} {P : Program} {i d f t : Nat} {fn : Func} {ats : Array TypeId} {ty : TypeId} {pos : String} {after : Array Edge} {fuel : Nat} {listed : Array Bool} {a : Act} {w : World} {v0 : Value}
    (hr : Region.ready md ops listed = [i])
    (ho : ops[i]? = some { dst := some d, op := .call { callee := .value (.func f), args := #[.tmp t], argTypes := ats }, type := ty, pos := pos, after := after, guard := none })
    (hf : P.funcs[f]? = some fn) (hn : (fn.name == "runtime.NumGoroutine") = false) (hb : fn.body.isNone = false)
    (hx : a.eval (.tmp t) = v0)
    (h : Calls P f #[v0] w fun e w' => ∃ v, e = .returned v ∧ S w' ∧ (S w' → wpAnyH P md ops Q S fuel (listed.setIfInBounds i true) (a.put (some d) v) w')) : wpAnyH P md ops Q S (fuel + 1) listed a w :=
  wpAnyH_all hr (by simp) fun j hj => by
    obtain rfl : j = i := by simpa using hj
    refine step_call ho hf hn hb ?_
    simp only [List.map_toArray, List.map_cons, List.map_nil]
    rw [hx]
    exact h.mono fun e w' ⟨v, he, hS, hk⟩ => ⟨v, he, hS, hk hS⟩
theorem ok_opOf {t : Tm} (h : okT t = true) : t.opOf ≠ 0 := by
  cases t with
  | node op n s ks => exact ok_op h
theorem ne_of_zbox {w : World} {g b o : Nat} {op : Int} (hz : RowT 28 w g 0 0 ⟨#[]⟩ none 0 0) (h : w.cell? ⟨b, o, none⟩ = some (.int .i64 op)) (h0 : op ≠ 0) : b ≠ g := by
  rintro rfl
  exact h0 (zbox_int (w := w) (g := b) (show w.heap[b]? = some (.cells #[.int .i64 0, .int .i64 0, .string ByteArray.empty, .slice none 0 0] 28 (0, 0)) from hz) h)
theorem cell_same {w w' : World} {b o : Nat} {v : Value} (h : w.cell? ⟨b, o, none⟩ = some v) (e : w'.heap[b]? = w.heap[b]?) : w'.cell? ⟨b, o, none⟩ = some v := (World.cell?_of_block e).trans h
theorem cell_fill {w : World} {g b o : Nat} {v : Value} {op n : Int} {s : ByteArray} {a : Option Addr} {len cap : Nat} (h : w.cell? ⟨b, o, none⟩ = some v) (hne : b ≠ g) : (fill4 w g op n s a len cap).cell? ⟨b, o, none⟩ = some v :=
  cell_same h (set4_heap w g (.int .i64 op) (.int .i64 n) (.string s) (.slice a len cap) b hne)
theorem fill_lies {w : World} {g : Nat} {op n : Int} {s : ByteArray} {a : Option Addr} {len cap : Nat} {t : Tm} {cs : List Value} (hz : RowT 28 w g 0 0 ⟨#[]⟩ none 0 0) (hok : okT t = true) (h : Lies w 0 t cs) : Lies (fill4 w g op n s a len cap) 0 t cs :=
  Lies.apartZ (show ZBox w g from hz) (fun b _ hne => World.cell?_of_block (set4_heap _ _ _ _ _ _ b hne)) t cs hok h
theorem fill_four_lies {w : World} {g : Nat} {op0 n0 op1 n1 op2 n2 op3 n3 : Int} {s0 s1 s2 s3 : ByteArray} {a0 a1 a2 a3 : Option Addr} {l0 k0 l1 k1 l2 k2 l3 k3 : Nat} {t : Tm} {cs : List Value} (h0 : RowT 28 w g 0 0 ⟨#[]⟩ none 0 0) (h1 : RowT 28 w (g + 1) 0 0 ⟨#[]⟩ none 0 0) (h2 : RowT 28 w (g + 1 + 1) 0 0 ⟨#[]⟩ none 0 0) (h3 : RowT 28 w (g + 1 + 1 + 1) 0 0 ⟨#[]⟩ none 0 0) (hok : okT t = true) (h : Lies w 0 t cs) :
    Lies (fill4 (fill4 (fill4 (fill4 w g op0 n0 s0 a0 l0 k0) (g + 1) op1 n1 s1 a1 l1 k1) (g + 1 + 1) op2 n2 s2 a2 l2 k2) (g + 1 + 1 + 1) op3 n3 s3 a3 l3 k3) 0 t cs :=
  fill_lies (RowT.other (RowT.other (RowT.other h3 (zne _).1.2.2) (zne _).2.1.2) (zne _).2.2) hok (fill_lies (RowT.other (RowT.other h2 (zne _).1.2.1) (zne _).2.1.1) hok (fill_lies (RowT.other h1 (zne _).1.1) hok (fill_lies h0 hok h)))

/-- Four terms that lie somewhere. -/
def FourS (pub sh c g : Tm) (w : World) (q : Ending) (w' : World) : Prop := ∃ op4 n4 s4 a4 len4 cap4 op6 n6 s6 a6 len6 cap6 op9 n9 s9 a9 len9 cap9 op10 n10 s10 a10 len10 cap10, q = .returned (.tuple #[.agg #[.int .i64 op4, .int .i64 n4, .string s4, .slice a4 len4 cap4], .agg #[.int .i64 op6, .int .i64 n6, .string s6, .slice a6 len6 cap6], .agg #[.int .i64 op9, .int .i64 n9, .string s9, .slice a9 len9 cap9], .agg #[.int .i64 op10, .int .i64 n10, .string s10, .slice a10 len10 cap10], .bool true]) ∧ Lies w' 0 pub (tmCells op4 n4 s4 a4 len4 cap4) ∧ Lies w' 0 sh (tmCells op6 n6 s6 a6 len6 cap6) ∧ Lies w' 0 c (tmCells op9 n9 s9 a9 len9 cap9) ∧ Lies w' 0 g (tmCells op10 n10 s10 a10 len10 cap10) ∧ Below w.heap.size w w'

set_option maxRecDepth 100000 in
set_option maxHeartbeats 8000000 in
theorem replyS_body_yes (e t pub sealed c g : Tm) (nx n2' : Int) (sx s2' : ByteArray) (op n : Int) (s : ByteArray) (a : Option Addr) (len cap : Nat) (op2 n2 : Int) (s2 : ByteArray) (a2 : Option Addr) (len2 cap2 : Nat) (w : World) (hl : Lies w 0 e (tmCells op n s a len cap)) (hl2 : Lies w 0 t (tmCells op2 n2 s2 a2 len2 cap2)) (hst : e.size + t.size ≤ 1048578) (hb : behO 3 (textT replyW) t = some (.node 3 nx sx [pub, sealed])) (ha : agreeB e pub = true) (ho : openO (keyT (agreeT e pub) 0) 0 sealed = some (.node 3 n2' s2' [c, g])) : Calls Tryz.prog 5 #[.agg #[.int .i64 op, .int .i64 n, .string s, .slice a len cap], .agg #[.int .i64 op2, .int .i64 n2, .string s2, .slice a2 len2 cap2]] w fun q w' => FourS pub (agreeT e pub) c g w q w' := by
  have HA := hide ha
  have HO := hide ho
  have hOKB := openO_ok ho
  have hCC := hide (fun op5 n5 s5 a5 len5 cap5 V h1 => cz_calls c op5 n5 s5 a5 len5 cap5 V h1 (by have := okT_small (okT_kid hOKB (x := c) (by simp)); omega))
  have hCG := hide (fun op5 n5 s5 a5 len5 cap5 V h1 => cz_calls g op5 n5 s5 a5 len5 cap5 V h1 (by have := okT_small (okT_kid hOKB (x := g) (by simp)); omega))
  clear ha ho hOKB
  have HBH := hide hb
  obtain ⟨hp0, hp1, hpz, -⟩ := inO_of_named hb
  have HOP := hide hp0
  have HKZ := hide hpz
  have hN := hide (fun V hl => named_some t (.node 3 nx sx [pub, sealed]) replyW (by decide) op2 n2 s2 a2 len2 cap2 V hl (by omega) hb)
  have hAG := hide (fun op5 n5 s5 a5 len5 cap5 V h1 h2 => agree_calls e pub op n s a len cap op5 n5 s5 a5 len5 cap5 V h1 h2 (by omega))
  have HSZ : Hid (sealed.size ≤ 1048578) := by show _ ≤ _; omega
  have hCP := hide (fun op5 n5 s5 a5 len5 cap5 V h1 => cz_calls pub op5 n5 s5 a5 len5 cap5 V h1 (by have := okT_small hp0; omega))
  clear hp0 hp1 hpz hst hb
  have hb0 : Below w.heap.size w (((((((w.alloc (.cells #[.int .i64 op, .int .i64 n, .string s, .slice a len cap] 28)).alloc (.cells #[.int .i64 op2, .int .i64 n2, .string s2, .slice a2 len2 cap2] 28)).alloc (.cells #[.int .i64 0, .int .i64 0, .string ⟨#[]⟩, .slice none 0 0] 28)).alloc (.cells #[.int .i64 0, .int .i64 0, .string ⟨#[]⟩, .slice none 0 0] 28)).alloc (.cells #[.int .i64 0, .int .i64 0, .string ⟨#[]⟩, .slice none 0 0] 28)).alloc (.cells #[.int .i64 0, .int .i64 0, .string ⟨#[]⟩, .slice none 0 0] 28)).alloc (.cells #[.int .i64 0, .int .i64 0, .string ⟨#[]⟩, .slice none 0 0] 28)) := bt (bt (bt (bt (bt (bt (ab _) (ab _) (Nat.le_refl _)) (ab _) (Nat.le_refl _)) (ab _) (Nat.le_refl _)) (ab _) (Nat.le_refl _)) (ab _) (Nat.le_refl _)) (ab _) (Nat.le_refl _)
  have HZ0 : Hid (RowT 28 (((((((w.alloc (.cells #[.int .i64 op, .int .i64 n, .string s, .slice a len cap] 28)).alloc (.cells #[.int .i64 op2, .int .i64 n2, .string s2, .slice a2 len2 cap2] 28)).alloc (.cells #[.int .i64 0, .int .i64 0, .string ⟨#[]⟩, .slice none 0 0] 28)).alloc (.cells #[.int .i64 0, .int .i64 0, .string ⟨#[]⟩, .slice none 0 0] 28)).alloc (.cells #[.int .i64 0, .int .i64 0, .string ⟨#[]⟩, .slice none 0 0] 28)).alloc (.cells #[.int .i64 0, .int .i64 0, .string ⟨#[]⟩, .slice none 0 0] 28)).alloc (.cells #[.int .i64 0, .int .i64 0, .string ⟨#[]⟩, .slice none 0 0] 28)) (w.heap.size + 1 + 1) 0 0 ⟨#[]⟩ none 0 0) := by
    have := ((((RowT.new 28 ((w.alloc (.cells #[.int .i64 op, .int .i64 n, .string s, .slice a len cap] 28)).alloc (.cells #[.int .i64 op2, .int .i64 n2, .string s2, .slice a2 len2 cap2] 28)) 0 0 ⟨#[]⟩ none 0 0).below (ab (.cells #[.int .i64 0, .int .i64 0, .string ⟨#[]⟩, .slice none 0 0] 28))).below (ab (.cells #[.int .i64 0, .int .i64 0, .string ⟨#[]⟩, .slice none 0 0] 28))).below (ab (.cells #[.int .i64 0, .int .i64 0, .string ⟨#[]⟩, .slice none 0 0] 28))).below (ab (.cells #[.int .i64 0, .int .i64 0, .string ⟨#[]⟩, .slice none 0 0] 28))
    rwa [heap_size_alloc, heap_size_alloc] at this
  have HZ1 : Hid (RowT 28 (((((((w.alloc (.cells #[.int .i64 op, .int .i64 n, .string s, .slice a len cap] 28)).alloc (.cells #[.int .i64 op2, .int .i64 n2, .string s2, .slice a2 len2 cap2] 28)).alloc (.cells #[.int .i64 0, .int .i64 0, .string ⟨#[]⟩, .slice none 0 0] 28)).alloc (.cells #[.int .i64 0, .int .i64 0, .string ⟨#[]⟩, .slice none 0 0] 28)).alloc (.cells #[.int .i64 0, .int .i64 0, .string ⟨#[]⟩, .slice none 0 0] 28)).alloc (.cells #[.int .i64 0, .int .i64 0, .string ⟨#[]⟩, .slice none 0 0] 28)).alloc (.cells #[.int .i64 0, .int .i64 0, .string ⟨#[]⟩, .slice none 0 0] 28)) (w.heap.size + 1 + 1 + 1) 0 0 ⟨#[]⟩ none 0 0) := by
    have := (((RowT.new 28 (((w.alloc (.cells #[.int .i64 op, .int .i64 n, .string s, .slice a len cap] 28)).alloc (.cells #[.int .i64 op2, .int .i64 n2, .string s2, .slice a2 len2 cap2] 28)).alloc (.cells #[.int .i64 0, .int .i64 0, .string ⟨#[]⟩, .slice none 0 0] 28)) 0 0 ⟨#[]⟩ none 0 0).below (ab (.cells #[.int .i64 0, .int .i64 0, .string ⟨#[]⟩, .slice none 0 0] 28))).below (ab (.cells #[.int .i64 0, .int .i64 0, .string ⟨#[]⟩, .slice none 0 0] 28))).below (ab (.cells #[.int .i64 0, .int .i64 0, .string ⟨#[]⟩, .slice none 0 0] 28))
    rwa [heap_size_alloc, heap_size_alloc, heap_size_alloc] at this
  have HZ2 : Hid (RowT 28 (((((((w.alloc (.cells #[.int .i64 op, .int .i64 n, .string s, .slice a len cap] 28)).alloc (.cells #[.int .i64 op2, .int .i64 n2, .string s2, .slice a2 len2 cap2] 28)).alloc (.cells #[.int .i64 0, .int .i64 0, .string ⟨#[]⟩, .slice none 0 0] 28)).alloc (.cells #[.int .i64 0, .int .i64 0, .string ⟨#[]⟩, .slice none 0 0] 28)).alloc (.cells #[.int .i64 0, .int .i64 0, .string ⟨#[]⟩, .slice none 0 0] 28)).alloc (.cells #[.int .i64 0, .int .i64 0, .string ⟨#[]⟩, .slice none 0 0] 28)).alloc (.cells #[.int .i64 0, .int .i64 0, .string ⟨#[]⟩, .slice none 0 0] 28)) (w.heap.size + 1 + 1 + 1 + 1) 0 0 ⟨#[]⟩ none 0 0) := by
    have := ((RowT.new 28 ((((w.alloc (.cells #[.int .i64 op, .int .i64 n, .string s, .slice a len cap] 28)).alloc (.cells #[.int .i64 op2, .int .i64 n2, .string s2, .slice a2 len2 cap2] 28)).alloc (.cells #[.int .i64 0, .int .i64 0, .string ⟨#[]⟩, .slice none 0 0] 28)).alloc (.cells #[.int .i64 0, .int .i64 0, .string ⟨#[]⟩, .slice none 0 0] 28)) 0 0 ⟨#[]⟩ none 0 0).below (ab (.cells #[.int .i64 0, .int .i64 0, .string ⟨#[]⟩, .slice none 0 0] 28))).below (ab (.cells #[.int .i64 0, .int .i64 0, .string ⟨#[]⟩, .slice none 0 0] 28))
    rwa [heap_size_alloc, heap_size_alloc, heap_size_alloc, heap_size_alloc] at this
  have HZ3 : Hid (RowT 28 (((((((w.alloc (.cells #[.int .i64 op, .int .i64 n, .string s, .slice a len cap] 28)).alloc (.cells #[.int .i64 op2, .int .i64 n2, .string s2, .slice a2 len2 cap2] 28)).alloc (.cells #[.int .i64 0, .int .i64 0, .string ⟨#[]⟩, .slice none 0 0] 28)).alloc (.cells #[.int .i64 0, .int .i64 0, .string ⟨#[]⟩, .slice none 0 0] 28)).alloc (.cells #[.int .i64 0, .int .i64 0, .string ⟨#[]⟩, .slice none 0 0] 28)).alloc (.cells #[.int .i64 0, .int .i64 0, .string ⟨#[]⟩, .slice none 0 0] 28)).alloc (.cells #[.int .i64 0, .int .i64 0, .string ⟨#[]⟩, .slice none 0 0] 28)) (w.heap.size + 1 + 1 + 1 + 1 + 1) 0 0 ⟨#[]⟩ none 0 0) := by
    have := (RowT.new 28 (((((w.alloc (.cells #[.int .i64 op, .int .i64 n, .string s, .slice a len cap] 28)).alloc (.cells #[.int .i64 op2, .int .i64 n2, .string s2, .slice a2 len2 cap2] 28)).alloc (.cells #[.int .i64 0, .int .i64 0, .string ⟨#[]⟩, .slice none 0 0] 28)).alloc (.cells #[.int .i64 0, .int .i64 0, .string ⟨#[]⟩, .slice none 0 0] 28)).alloc (.cells #[.int .i64 0, .int .i64 0, .string ⟨#[]⟩, .slice none 0 0] 28)) 0 0 ⟨#[]⟩ none 0 0).below (ab (.cells #[.int .i64 0, .int .i64 0, .string ⟨#[]⟩, .slice none 0 0] 28))
    rwa [heap_size_alloc, heap_size_alloc, heap_size_alloc, heap_size_alloc, heap_size_alloc] at this
  have HZ4 : Hid (RowT 28 (((((((w.alloc (.cells #[.int .i64 op, .int .i64 n, .string s, .slice a len cap] 28)).alloc (.cells #[.int .i64 op2, .int .i64 n2, .string s2, .slice a2 len2 cap2] 28)).alloc (.cells #[.int .i64 0, .int .i64 0, .string ⟨#[]⟩, .slice none 0 0] 28)).alloc (.cells #[.int .i64 0, .int .i64 0, .string ⟨#[]⟩, .slice none 0 0] 28)).alloc (.cells #[.int .i64 0, .int .i64 0, .string ⟨#[]⟩, .slice none 0 0] 28)).alloc (.cells #[.int .i64 0, .int .i64 0, .string ⟨#[]⟩, .slice none 0 0] 28)).alloc (.cells #[.int .i64 0, .int .i64 0, .string ⟨#[]⟩, .slice none 0 0] 28)) (w.heap.size + 1 + 1 + 1 + 1 + 1 + 1) 0 0 ⟨#[]⟩ none 0 0) := by
    have := RowT.new 28 ((((((w.alloc (.cells #[.int .i64 op, .int .i64 n, .string s, .slice a len cap] 28)).alloc (.cells #[.int .i64 op2, .int .i64 n2, .string s2, .slice a2 len2 cap2] 28)).alloc (.cells #[.int .i64 0, .int .i64 0, .string ⟨#[]⟩, .slice none 0 0] 28)).alloc (.cells #[.int .i64 0, .int .i64 0, .string ⟨#[]⟩, .slice none 0 0] 28)).alloc (.cells #[.int .i64 0, .int .i64 0, .string ⟨#[]⟩, .slice none 0 0] 28)).alloc (.cells #[.int .i64 0, .int .i64 0, .string ⟨#[]⟩, .slice none 0 0] 28)) 0 0 ⟨#[]⟩ none 0 0
    rwa [heap_size_alloc, heap_size_alloc, heap_size_alloc, heap_size_alloc, heap_size_alloc, heap_size_alloc] at this
  have HE0 : Hid (RowT 28 (((((((w.alloc (.cells #[.int .i64 op, .int .i64 n, .string s, .slice a len cap] 28)).alloc (.cells #[.int .i64 op2, .int .i64 n2, .string s2, .slice a2 len2 cap2] 28)).alloc (.cells #[.int .i64 0, .int .i64 0, .string ⟨#[]⟩, .slice none 0 0] 28)).alloc (.cells #[.int .i64 0, .int .i64 0, .string ⟨#[]⟩, .slice none 0 0] 28)).alloc (.cells #[.int .i64 0, .int .i64 0, .string ⟨#[]⟩, .slice none 0 0] 28)).alloc (.cells #[.int .i64 0, .int .i64 0, .string ⟨#[]⟩, .slice none 0 0] 28)).alloc (.cells #[.int .i64 0, .int .i64 0, .string ⟨#[]⟩, .slice none 0 0] 28)) w.heap.size op n s a len cap) := ((((((RowT.new 28 w op n s a len cap).below (ab (.cells #[.int .i64 op2, .int .i64 n2, .string s2, .slice a2 len2 cap2] 28))).below (ab (.cells #[.int .i64 0, .int .i64 0, .string ⟨#[]⟩, .slice none 0 0] 28))).below (ab (.cells #[.int .i64 0, .int .i64 0, .string ⟨#[]⟩, .slice none 0 0] 28))).below (ab (.cells #[.int .i64 0, .int .i64 0, .string ⟨#[]⟩, .slice none 0 0] 28))).below (ab (.cells #[.int .i64 0, .int .i64 0, .string ⟨#[]⟩, .slice none 0 0] 28))).below (ab (.cells #[.int .i64 0, .int .i64 0, .string ⟨#[]⟩, .slice none 0 0] 28))
  have HLE := hide (hl.below hb0)
  have HL2 := hide (hl2.below hb0)
  have HB0 := hide hb0
  clear hl hl2 hb0
  go_enter Tryz.func5, Tryz.ntmps5
  go_wp2_with fail
  generalize hgw : (((((((w.alloc (.cells #[.int .i64 op, .int .i64 n, .string s, .slice a len cap] 28)).alloc (.cells #[.int .i64 op2, .int .i64 n2, .string s2, .slice a2 len2 cap2] 28)).alloc (.cells #[.int .i64 0, .int .i64 0, .string ⟨#[]⟩, .slice none 0 0] 28)).alloc (.cells #[.int .i64 0, .int .i64 0, .string ⟨#[]⟩, .slice none 0 0] 28)).alloc (.cells #[.int .i64 0, .int .i64 0, .string ⟨#[]⟩, .slice none 0 0] 28)).alloc (.cells #[.int .i64 0, .int .i64 0, .string ⟨#[]⟩, .slice none 0 0] 28)).alloc (.cells #[.int .i64 0, .int .i64 0, .string ⟨#[]⟩, .slice none 0 0] 28)) = W1 at *
  clear hgw
  refine (unhide hN _ (unhide HL2)).mono ?_
  rintro q w1 ⟨op3, n3, s3, a3, len3, cap3, rfl, hl3, hb1⟩
  obtain ⟨rfl, rfl, rfl, rfl, b, o, op5, n5, s5, a5, len5, cap5, op6, n6, s6, a6, len6, cap6, rfl, ⟨r0, r1, r2, r3, hk0⟩, r4, r5, r6, r7, hk1⟩ := lies_kids (hl3.below hb1)
  have HQ := hide (And.intro r0 (And.intro r1 (And.intro r2 (And.intro r3 (And.intro r4 (And.intro r5 (And.intro r6 r7)))))))
  have HPU := hide hk0
  have HSE := hide hk1
  have HB1 := hide (bt (unhide HB0) hb1 (Nat.le_refl _))
  have HZ0 := hide ((unhide HZ0).below hb1)
  have HZ1 := hide ((unhide HZ1).below hb1)
  have HZ2 := hide ((unhide HZ2).below hb1)
  have HZ3 := hide ((unhide HZ3).below hb1)
  have HZ4 := hide ((unhide HZ4).below hb1)
  have HE0 := hide ((unhide HE0).below hb1)
  have HLE := hide ((unhide HLE).below hb1)
  clear hb1 hN HB0 HL2 hl3 hk0 hk1 r0 r1 r2 r3 r4 r5 r6 r7
  have HWL : Hid (w.heap.size < w1.heap.size) := (unhide HE0).lt
  have HWL2 : Hid (w.heap.size + 1 + 1 + 1 + 1 + 1 < w1.heap.size) := Nat.lt_of_succ_lt (unhide HZ4).lt
  have hX : Hid (RowT 28 (w1.alloc (.cells #[.int .i64 3, .int .i64 n3, .string s3, .slice (some ⟨b, o, none⟩) 2 cap3] 28)) w1.heap.size 3 n3 s3 (some ⟨b, o, none⟩) 2 cap3) := RowT.new 28 w1 3 n3 s3 (some ⟨b, o, none⟩) 2 cap3
  have hp := ab (w := w1) (.cells #[.int .i64 3, .int .i64 n3, .string s3, .slice (some ⟨b, o, none⟩) 2 cap3] 28)
  have HB1 := hide (bt (unhide HB1) hp (Nat.le_refl _))
  have HZ0 := hide ((unhide HZ0).below hp)
  have HZ1 := hide ((unhide HZ1).below hp)
  have HZ2 := hide ((unhide HZ2).below hp)
  have HZ3 := hide ((unhide HZ3).below hp)
  have HZ4 := hide ((unhide HZ4).below hp)
  have HE0 := hide ((unhide HE0).below hp)
  have HLE := hide ((unhide HLE).below hp)
  have HPU := hide ((unhide HPU).below hp)
  have HSE := hide ((unhide HSE).below hp)
  obtain ⟨r0, r1, r2, r3, r4, r5, r6, r7⟩ := unhide HQ
  have r0 := kpc hp r0
  have r1 := kpc hp r1
  have r2 := kpc hp r2
  have r3 := kpc hp r3
  have r4 := kpc hp r4
  have r5 := kpc hp r5
  have r6 := kpc hp r6
  have r7 := kpc hp r7
  have HQ := hide (And.intro r0 (And.intro r1 (And.intro r2 (And.intro r3 (And.intro r4 (And.intro r5 (And.intro r6 r7)))))))
  clear r4 r5 r6 r7
  obtain ⟨x0, x1, x2, x3⟩ := (unhide hX).facts
  obtain ⟨y0, y1, y2, y3⟩ := ((unhide HE0).below (ab (.cells #[.int .i64 op5, .int .i64 n5, .string s5, .slice a5 len5 cap5] 28))).facts
  have HXN := hide (lt_of_cell x0)
  have yn : w.heap.size ≠ w1.heap.size + 1 := Nat.ne_of_lt (Nat.lt_succ_of_lt (unhide HWL))
  have ym := Ne.symm yn
  clear hp
  go_wp2_with fail
  have hp := ab (w := w1.alloc (.cells #[.int .i64 3, .int .i64 n3, .string s3, .slice (some ⟨b, o, none⟩) 2 cap3] 28)) (.cells #[.int .i64 op5, .int .i64 n5, .string s5, .slice a5 len5 cap5] 28)
  refine (unhide hAG op5 n5 s5 a5 len5 cap5 _ ((unhide HLE).below hp) ((unhide HPU).below hp)).mono ?_
  rintro q w2 ⟨op7, n7, s7, a7, len7, cap7, rfl, hl7, hb2, -⟩
  rw [unhide HA]
  have hX5 := (RowT.new 28 (w1.alloc (.cells #[.int .i64 3, .int .i64 n3, .string s3, .slice (some ⟨b, o, none⟩) 2 cap3] 28)) op5 n5 s5 a5 len5 cap5).below hb2
  rw [heap_size_alloc] at hX5
  have HX5 := hide hX5
  have HSL : Hid (w1.heap.size + 1 < w2.heap.size) := hX5.lt
  have hp := bt (bt hp hb2 (Nat.le_refl _)) (ab (.cells #[.int .i64 op7, .int .i64 n7, .string s7, .slice a7 len7 cap7] 28)) (Nat.le_refl _)
  have HX5 := hide ((unhide HX5).below (ab (.cells #[.int .i64 op7, .int .i64 n7, .string s7, .slice a7 len7 cap7] 28)))
  have HL7 := hide ((hl7.any (Nat.zero_le _)).below (ab (.cells #[.int .i64 op7, .int .i64 n7, .string s7, .slice a7 len7 cap7] 28)))
  have HX7 := hide (RowT.new 28 w2 op7 n7 s7 a7 len7 cap7)
  have HBA := hide (bt (unhide HB1) hp (Nat.le_refl _))
  have HZ0 := hide ((unhide HZ0).below hp)
  have HZ1 := hide ((unhide HZ1).below hp)
  have HZ2 := hide ((unhide HZ2).below hp)
  have HZ3 := hide ((unhide HZ3).below hp)
  have HZ4 := hide ((unhide HZ4).below hp)
  have hX := hide ((unhide hX).below hp)
  have HPU := hide ((unhide HPU).below hp)
  have HSE := hide ((unhide HSE).below hp)
  have r0 := kpc hp (unhide HQ).1
  have r1 := kpc hp (unhide HQ).2.1
  have r2 := kpc hp (unhide HQ).2.2.1
  have r3 := kpc hp (unhide HQ).2.2.2.1
  have r4 := kpc hp (unhide HQ).2.2.2.2.1
  have r5 := kpc hp (unhide HQ).2.2.2.2.2.1
  have r6 := kpc hp (unhide HQ).2.2.2.2.2.2.1
  have r7 := kpc hp (unhide HQ).2.2.2.2.2.2.2
  obtain ⟨x0, x1, x2, x3⟩ := (unhide hX).facts
  obtain ⟨g0, g1, g2, g3⟩ := (unhide HX7).facts
  clear hp hb2 hl7 hX5 HB1 HQ y0 y1 y2 y3 yn ym HE0 HLE hAG
  go_wp2_with fail
  generalize hgw : w2.alloc (.cells #[.int .i64 op7, .int .i64 n7, .string s7, .slice a7 len7 cap7] 28) = W2 at *
  clear hgw
  have HSW : Hid (w2.heap.size < W2.heap.size) := (unhide HX7).lt
  generalize w2.heap.size = bS at *
  generalize w1.heap.size = bX at *
  have hK := hide (fun V (hV : Below W2.heap.size W2 V) => keyS (agreeT e pub) 0 op7 n7 s7 a7 len7 cap7 V ((unhide HL7).below hV) (by have := agree200 e pub; omega) (by decide) (by decide))
  have hO := hide (fun op8 n8 s8 a8 len8 cap8 V (hV : Below W2.heap.size W2 V) hk => openS_any (keyT (agreeT e pub) 0) sealed 0 op8 n8 s8 a8 len8 cap8 op6 n6 s6 a6 len6 cap6 V hk ((unhide HSE).below hV) (by have := unhide HSZ; omega) (by decide) (by decide))
  have lx := lt_of_cell x0
  have ly := lt_of_cell g0
  have lw := lt_of_cell r0
  have lxn := Nat.ne_of_lt lx
  have lxm := Ne.symm lxn
  have lyn := Nat.ne_of_lt ly
  have lym := Ne.symm lyn
  have lwn := Nat.ne_of_lt lw
  have lwm := Ne.symm lwn
  generalize hgO : openT (keyT (agreeT e pub) 0) 0 sealed = OT at *
  have HOT : Hid (KidsOk OT) := hgO ▸ openT_kids _ _ _
  generalize hgB : (openO (keyT (agreeT e pub) 0) 0 sealed).isSome = OB at *
  go_cut [15, 16] (fun p q wx => CutK OT W2 (.bool OB) p q wx)
  case first =>
    go_region_held3 (fun x => x.cell? ⟨bS, 0, none⟩ = some (.int .i64 op7) ∧ x.cell? ⟨bS, 1, none⟩ = some (.int .i64 n7) ∧ x.cell? ⟨bS, 2, none⟩ = some (.string s7) ∧ x.cell? ⟨bS, 3, none⟩ = some (.slice a7 len7 cap7) ∧ x.cell? ⟨bX, 3, none⟩ = some (.slice (some ⟨b, o, none⟩) 2 cap3) ∧ x.cell? ⟨b, o + 4, none⟩ = some (.int .i64 op6) ∧ x.cell? ⟨b, o + 5, none⟩ = some (.int .i64 n6) ∧ x.cell? ⟨b, o + 6, none⟩ = some (.string s6) ∧ x.cell? ⟨b, o + 7, none⟩ = some (.slice a6 len6 cap6)) (go_keep)
      (first
        | (go_at_call 15
           refine (unhide hK _ ?_).mono ?_
           first
             | exact (Below.refl _ _).drew
             | exact (ab _).drew
           rintro e9 w6 ⟨op8, n8, s8, a8, len8, cap8, rfl, hl8, hb6⟩
           try have zz6 := hide (((ZBox.new W2).drew).below hb6)
           have HLK := hide (hl8.any (Nat.zero_le _))
           have C6 : Hid (Below W2.heap.size W2 w6) := by
             first
               | exact below_drew' hb6
               | exact bt (ab _) (below_drew' hb6) (Nat.le_refl _)
           have i0 := kpc (unhide C6) g0
           have i1 := kpc (unhide C6) g1
           have i2 := kpc (unhide C6) g2
           have i3 := kpc (unhide C6) g3
           have ix := kpc (unhide C6) x3
           have j4 := kpc (unhide C6) r4
           have j5 := kpc (unhide C6) r5
           have j6 := kpc (unhide C6) r6
           have j7 := kpc (unhide C6) r7
           clear hl8
           have lz := lt_of_cell i0
           have lzn := Nat.ne_of_lt lz
           have lzm := Ne.symm lzn
           have ls := lt_of_cell ix
           have lsn := Nat.ne_of_lt ls
           have lsm := Ne.symm lsn
           have lq := lt_of_cell j4
           have lqn := Nat.ne_of_lt lq
           have lqm := Ne.symm lqn)
        | (go_at_call 14
           refine (unhide hO _ _ _ _ _ _ _ ?_ ?_).mono ?_
           first
             | exact unhide C6
             | exact bt (unhide C6) (ab _) (Nat.le_refl _)
           first
             | exact unhide HLK
             | exact (unhide HLK).below (ab _)
           rintro e9 w7 ⟨op9, n9, s9, a9, len9, cap9, rfl, hl9, hb7⟩
           try have zz7 := hide ((unhide zz6).below hb7)
           try have zz7 := hide ((ZBox.new w6).below hb7)
           have C7 : Hid (Below w6.heap.size w6 w7) := by
             first
               | exact hb7
               | exact bt (ab _) hb7 (Nat.le_refl _)
           have HL9 := hide hl9
           clear hl9
           have k0 := kpc (unhide C7) i0
           have k1 := kpc (unhide C7) i1
           have k2 := kpc (unhide C7) i2
           have k3 := kpc (unhide C7) i3
           have kx := kpc (unhide C7) ix
           have m4 := kpc (unhide C7) j4
           have m5 := kpc (unhide C7) j5
           have m6 := kpc (unhide C7) j6
           have m7 := kpc (unhide C7) j7
           try obtain ⟨p0, p1, p2, p3, q0, q1, q2, q3⟩ := (unhide zz7).facts
           have lt7 := lt_of_cell k0
           have ltn := Nat.ne_of_lt lt7
           have ltm := Ne.symm ltn
           have lt8 := lt_of_cell kx
           have lt8n := Nat.ne_of_lt lt8
           have lt8m := Ne.symm lt8n
           have lt9 := lt_of_cell m4
           have lt9n := Nat.ne_of_lt lt9
           have lt9m := Ne.symm lt9n))
    all_goals
      go_wp2_with fail
      go_meet
      have s56 := (unhide C6).size
      first
        | (with_reducible refine CutK.late ?_ ?_
           exact bt (unhide C6) (unhide C7) (Nat.le_refl _)
           exact unhide HL9)
        | (with_reducible refine CutK.early ?_ ?_ ?_ ?_ ?_
           exact bt (unhide C6) (unhide C7) (Nat.le_refl _)
           exact unhide zz7
           omega
           exact unhide HOT
           exact unhide HL9)
  case rest =>
    obtain ⟨bB, op8, n8, s8, a8, len8, cap8, rfl, rfl, hge8, hR8, hl8, hbc⟩ := hcut
    have HB := hide (bt (unhide HBA) hbc (Nat.le_refl _))
    have HR8 := hide hR8
    have HL8 := hide hl8
    have HX7 := hide ((unhide HX7).below hbc)
    have HX5 := hide ((unhide HX5).below hbc)
    have HL7 := hide ((unhide HL7).below hbc)
    have HPU := hide ((unhide HPU).below hbc)
    have HZ0 := hide ((unhide HZ0).below hbc)
    have HZ1 := hide ((unhide HZ1).below hbc)
    have HZ2 := hide ((unhide HZ2).below hbc)
    have HZ3 := hide ((unhide HZ3).below hbc)
    have HZ4 := hide ((unhide HZ4).below hbc)
    clear hbc hR8 hl8 HBA r0 r1 r2 r3 r4 r5 r6 r7 x0 x1 x2 x3 g0 g1 g2 g3 lx ly lw lxn lxm lyn lym lwn lwm hK hO HSE
    have hOB : OB = true := by rw [← hgB, unhide HO]; rfl
    subst hOB
    have hOT : OT = .node 3 n2' s2' [c, g] := by rw [← hgO]; unfold openT; rw [unhide HO]; rfl
    subst hOT
    obtain ⟨rfl, rfl, rfl, rfl, b', o', op11, n11, s11, a11, len11, cap11, op12, n12, s12, a12, len12, cap12, rfl, ⟨r0, r1, r2, r3, hk0⟩, r4, r5, r6, r7, hk1⟩ := lies_kids (unhide HL8)
    have HKC := hide hk0
    have HKG := hide hk1
    clear hk0 hk1
    obtain ⟨u0, u1, u2, u3⟩ := (unhide HR8).facts
    have HLTW : Hid (w.heap.size + 1 + 1 + 1 + 1 + 1 + 1 < wc.heap.size) := (unhide HZ4).lt
    obtain ⟨v0, v1, v2, v3⟩ := (unhide HX5).facts
    obtain ⟨t0, t1, t2, t3⟩ := (unhide HX7).facts
    go_wp2_with fail
    have HOKP : Hid (okT pub = true) := (inO_of_named (unhide HBH)).1
    have HOKS : Hid (okT (agreeT e pub) = true) := by have := agree_sh (unhide HA); show _ = _; rw [this.2]; exact shr_ok this.1
    have HOKC : Hid (okT c = true) := unhide HOT c (by simp [Tm.kids])
    have HOKG : Hid (okT g = true) := unhide HOT g (by simp [Tm.kids])
    have hne0 : op11 ≠ 0 := by rw [lies_opOf (unhide HKC)]; exact ok_opOf (unhide HOKC)
    have F0 := ne_far (Nat.lt_succ_of_lt (unhide HWL2))
    have F1 := ne_far (Nat.lt_trans (Nat.lt_succ_of_lt (unhide HWL2)) (unhide HSL))
    have F2 := ne_far (Nat.lt_of_lt_of_le (Nat.lt_trans (Nat.lt_trans (Nat.lt_succ_of_lt (unhide HWL2)) (unhide HSL)) (unhide HSW)) hge8)
    have F3 : b' ≠ w.heap.size + 1 + 1 ∧ b' ≠ w.heap.size + 1 + 1 + 1 ∧ b' ≠ w.heap.size + 1 + 1 + 1 + 1 ∧ b' ≠ w.heap.size + 1 + 1 + 1 + 1 + 1 := ⟨ne_of_zbox (unhide HZ0) r0 hne0, ne_of_zbox (unhide HZ1) r0 hne0, ne_of_zbox (unhide HZ2) r0 hne0, ne_of_zbox (unhide HZ3) r0 hne0⟩
    clear HOT HLTW hge8 hne0 v0 v1 v2 v3 t0 t1 t2 t3 u0 u1 u2 u3
    have hd0 : Below wc.heap.size wc wc.drew := (Below.refl _ _).drew
    refine wp_region_held (S := fun y => RowT 28 y (bX + 1) op5 n5 s5 a5 len5 cap5 ∧ RowT 28 y bS op7 n7 s7 a7 len7 cap7 ∧ RowT 28 y bB 3 n8 s8 (some ⟨b', o', none⟩) 2 cap8 ∧ y.cell? ⟨b', o', none⟩ = some (.int .i64 op11) ∧ y.cell? ⟨b', o' + 1, none⟩ = some (.int .i64 n11) ∧ y.cell? ⟨b', o' + 2, none⟩ = some (.string s11) ∧ y.cell? ⟨b', o' + 3, none⟩ = some (.slice a11 len11 cap11) ∧ y.cell? ⟨b', o' + 4, none⟩ = some (.int .i64 op12) ∧ y.cell? ⟨b', o' + 5, none⟩ = some (.int .i64 n12) ∧ y.cell? ⟨b', o' + 6, none⟩ = some (.string s12) ∧ y.cell? ⟨b', o' + 7, none⟩ = some (.slice a12 len12 cap12)) (by kernel_rfl) ?_
    have hS : (fun y : World => RowT 28 y (bX + 1) op5 n5 s5 a5 len5 cap5 ∧ RowT 28 y bS op7 n7 s7 a7 len7 cap7 ∧ RowT 28 y bB 3 n8 s8 (some ⟨b', o', none⟩) 2 cap8 ∧ y.cell? ⟨b', o', none⟩ = some (.int .i64 op11) ∧ y.cell? ⟨b', o' + 1, none⟩ = some (.int .i64 n11) ∧ y.cell? ⟨b', o' + 2, none⟩ = some (.string s11) ∧ y.cell? ⟨b', o' + 3, none⟩ = some (.slice a11 len11 cap11) ∧ y.cell? ⟨b', o' + 4, none⟩ = some (.int .i64 op12) ∧ y.cell? ⟨b', o' + 5, none⟩ = some (.int .i64 n12) ∧ y.cell? ⟨b', o' + 6, none⟩ = some (.string s12) ∧ y.cell? ⟨b', o' + 7, none⟩ = some (.slice a12 len12 cap12)) wc.drew := ⟨unhide HX5, unhide HX7, unhide HR8, r0, r1, r2, r3, r4, r5, r6, r7⟩
    show wpAnyH _ _ _ _ _ _ _ _ wc.drew
    clear r0 r1 r2 r3 r4 r5 r6 r7
    refine take_load (i := 0) rfl rfl (fun y h => h.1) (by kernel_rfl) (by kernel_rfl) (by kernel_rfl) (fun _ _ _ _ h => h) hS ?_
    simp only [Act.put, List.setIfInBounds_toArray, List.set_cons_succ, List.set_cons_zero]
    refine take_load (i := 2) rfl rfl (fun y h => h.2.1) (by kernel_rfl) (by kernel_rfl) (by kernel_rfl) (fun _ _ _ _ h => h) hS ?_
    simp only [Act.put, List.setIfInBounds_toArray, List.set_cons_succ, List.set_cons_zero]
    refine take_field3 (i := 3) rfl rfl (by kernel_rfl) (by kernel_rfl) (by kernel_rfl) (fun _ _ _ _ h => h) hS ?_
    simp only [Act.put, List.setIfInBounds_toArray, List.set_cons_succ, List.set_cons_zero]
    refine take_load26 (i := 4) rfl rfl (fun y h => (h.2.2.1).facts.2.2.2) (by kernel_rfl) (by kernel_rfl) (by kernel_rfl) (fun _ _ _ _ h => h) hS ?_
    simp only [Act.put, List.setIfInBounds_toArray, List.set_cons_succ, List.set_cons_zero]
    refine take_index0 (i := 5) rfl rfl (by kernel_rfl) (by kernel_rfl) (by kernel_rfl) (fun _ _ _ _ h => h) hS ?_
    simp only [Act.put, List.setIfInBounds_toArray, List.set_cons_succ, List.set_cons_zero]
    refine take_cells (i := 6) rfl rfl (fun y h => h.2.2.2.1) (fun y h => h.2.2.2.2.1) (fun y h => h.2.2.2.2.2.1) (fun y h => h.2.2.2.2.2.2.1) (by kernel_rfl) (by kernel_rfl) (by kernel_rfl) (fun _ _ _ _ h => h) hS ?_
    simp only [Act.put, List.setIfInBounds_toArray, List.set_cons_succ, List.set_cons_zero]
    refine take_field3 (i := 8) rfl rfl (by kernel_rfl) (by kernel_rfl) (by kernel_rfl) (fun _ _ _ _ h => h) hS ?_
    simp only [Act.put, List.setIfInBounds_toArray, List.set_cons_succ, List.set_cons_zero]
    refine take_load26 (i := 9) rfl rfl (fun y h => (h.2.2.1).facts.2.2.2) (by kernel_rfl) (by kernel_rfl) (by kernel_rfl) (fun _ _ _ _ h => h) hS ?_
    simp only [Act.put, List.setIfInBounds_toArray, List.set_cons_succ, List.set_cons_zero]
    refine take_index1 (i := 10) rfl rfl (by kernel_rfl) (by kernel_rfl) (by kernel_rfl) (fun _ _ _ _ h => h) hS ?_
    simp only [Act.put, List.setIfInBounds_toArray, List.set_cons_succ, List.set_cons_zero]
    refine take_cells (i := 11) rfl rfl (fun y h => h.2.2.2.2.2.2.2.1) (fun y h => h.2.2.2.2.2.2.2.2.1) (fun y h => h.2.2.2.2.2.2.2.2.2.1) (fun y h => h.2.2.2.2.2.2.2.2.2.2) (by kernel_rfl) (by kernel_rfl) (by kernel_rfl) (fun _ _ _ _ h => h) hS ?_
    simp only [Act.put, List.setIfInBounds_toArray, List.set_cons_succ, List.set_cons_zero]
    refine all_call1 (i := 1) (by kernel_rfl) rfl Tryz.func16 (by kernel_rfl) (by kernel_rfl) rfl ?_
    refine (unhide hCP op5 n5 s5 a5 len5 cap5 _ ((unhide HPU).below hd0)).mono ?_
    rintro q y1 ⟨a20, cap20, f20, rfl, hO20, -, hb20⟩
    have HO20 := hide hO20.lies0
    have hb1' : Below wc.heap.size wc y1 := bt hd0 hb20 (Nat.le_refl _)
    refine ⟨_, rfl, ⟨hS.1.below hb20, hS.2.1.below hb20, hS.2.2.1.below hb20, kpc hb20 hS.2.2.2.1, kpc hb20 hS.2.2.2.2.1, kpc hb20 hS.2.2.2.2.2.1, kpc hb20 hS.2.2.2.2.2.2.1, kpc hb20 hS.2.2.2.2.2.2.2.1, kpc hb20 hS.2.2.2.2.2.2.2.2.1, kpc hb20 hS.2.2.2.2.2.2.2.2.2.1, kpc hb20 hS.2.2.2.2.2.2.2.2.2.2⟩, fun hS => ?_⟩
    simp only [Act.put, List.setIfInBounds_toArray, List.set_cons_succ, List.set_cons_zero]
    refine all_call1 (i := 7) (by kernel_rfl) rfl Tryz.func16 (by kernel_rfl) (by kernel_rfl) rfl ?_
    refine (unhide hCC op11 n11 s11 a11 len11 cap11 _ ((unhide HKC).below hb1')).mono ?_
    rintro q y2 ⟨a21, cap21, f21, rfl, hO21, -, hb21⟩
    have HO21 := hide hO21.lies0
    have hb2' : Below wc.heap.size wc y2 := bt hb1' hb21 (Nat.le_refl _)
    refine ⟨_, rfl, ⟨hS.1.below hb21, hS.2.1.below hb21, hS.2.2.1.below hb21, kpc hb21 hS.2.2.2.1, kpc hb21 hS.2.2.2.2.1, kpc hb21 hS.2.2.2.2.2.1, kpc hb21 hS.2.2.2.2.2.2.1, kpc hb21 hS.2.2.2.2.2.2.2.1, kpc hb21 hS.2.2.2.2.2.2.2.2.1, kpc hb21 hS.2.2.2.2.2.2.2.2.2.1, kpc hb21 hS.2.2.2.2.2.2.2.2.2.2⟩, fun hS => ?_⟩
    simp only [Act.put, List.setIfInBounds_toArray, List.set_cons_succ, List.set_cons_zero]
    refine all_call1 (i := 12) (by kernel_rfl) rfl Tryz.func16 (by kernel_rfl) (by kernel_rfl) rfl ?_
    refine (unhide hCG op12 n12 s12 a12 len12 cap12 _ ((unhide HKG).below hb2')).mono ?_
    rintro q y3 ⟨a22, cap22, f22, rfl, hO22, -, hb22⟩
    have HO22 := hide hO22.lies0
    have hb3' : Below wc.heap.size wc y3 := bt hb2' hb22 (Nat.le_refl _)
    refine ⟨_, rfl, ⟨hS.1.below hb22, hS.2.1.below hb22, hS.2.2.1.below hb22, kpc hb22 hS.2.2.2.1, kpc hb22 hS.2.2.2.2.1, kpc hb22 hS.2.2.2.2.2.1, kpc hb22 hS.2.2.2.2.2.2.1, kpc hb22 hS.2.2.2.2.2.2.2.1, kpc hb22 hS.2.2.2.2.2.2.2.2.1, kpc hb22 hS.2.2.2.2.2.2.2.2.2.1, kpc hb22 hS.2.2.2.2.2.2.2.2.2.2⟩, fun hS => ?_⟩
    simp only [Act.put, List.setIfInBounds_toArray, List.set_cons_succ, List.set_cons_zero]
    have HO20 := hide (((unhide HO20).below hb21).below hb22)
    have HO21 := hide ((unhide HO21).below hb22)
    have HL7 := hide ((unhide HL7).below hb3')
    have HZ0 := hide ((unhide HZ0).below hb3')
    have HZ1 := hide ((unhide HZ1).below hb3')
    have HZ2 := hide ((unhide HZ2).below hb3')
    have HZ3 := hide ((unhide HZ3).below hb3')
    refine all_store (i := 13) (by kernel_rfl) rfl rfl rfl (unhide HZ0) (⟨RowT.other hS.1 F0.1, RowT.other hS.2.1 F1.1, RowT.other hS.2.2.1 F2.1, cell_fill hS.2.2.2.1 F3.1, cell_fill hS.2.2.2.2.1 F3.1, cell_fill hS.2.2.2.2.2.1 F3.1, cell_fill hS.2.2.2.2.2.2.1 F3.1, cell_fill hS.2.2.2.2.2.2.2.1 F3.1, cell_fill hS.2.2.2.2.2.2.2.2.1 F3.1, cell_fill hS.2.2.2.2.2.2.2.2.2.1 F3.1, cell_fill hS.2.2.2.2.2.2.2.2.2.2 F3.1⟩) fun hS => ?_
    refine all_store (i := 14) (by kernel_rfl) rfl rfl rfl (RowT.other (unhide HZ1) (zne _).1.1) (⟨RowT.other hS.1 F0.2.1, RowT.other hS.2.1 F1.2.1, RowT.other hS.2.2.1 F2.2.1, cell_fill hS.2.2.2.1 F3.2.1, cell_fill hS.2.2.2.2.1 F3.2.1, cell_fill hS.2.2.2.2.2.1 F3.2.1, cell_fill hS.2.2.2.2.2.2.1 F3.2.1, cell_fill hS.2.2.2.2.2.2.2.1 F3.2.1, cell_fill hS.2.2.2.2.2.2.2.2.1 F3.2.1, cell_fill hS.2.2.2.2.2.2.2.2.2.1 F3.2.1, cell_fill hS.2.2.2.2.2.2.2.2.2.2 F3.2.1⟩) fun hS => ?_
    refine all_store (i := 15) (by kernel_rfl) rfl rfl rfl (RowT.other (RowT.other (unhide HZ2) (zne _).1.2.1) (zne _).2.1.1) (⟨RowT.other hS.1 F0.2.2.1, RowT.other hS.2.1 F1.2.2.1, RowT.other hS.2.2.1 F2.2.2.1, cell_fill hS.2.2.2.1 F3.2.2.1, cell_fill hS.2.2.2.2.1 F3.2.2.1, cell_fill hS.2.2.2.2.2.1 F3.2.2.1, cell_fill hS.2.2.2.2.2.2.1 F3.2.2.1, cell_fill hS.2.2.2.2.2.2.2.1 F3.2.2.1, cell_fill hS.2.2.2.2.2.2.2.2.1 F3.2.2.1, cell_fill hS.2.2.2.2.2.2.2.2.2.1 F3.2.2.1, cell_fill hS.2.2.2.2.2.2.2.2.2.2 F3.2.2.1⟩) fun hS => ?_
    refine all_store (i := 16) (by kernel_rfl) rfl rfl rfl (RowT.other (RowT.other (RowT.other (unhide HZ3) (zne _).1.2.2) (zne _).2.1.2) (zne _).2.2) (⟨RowT.other hS.1 F0.2.2.2, RowT.other hS.2.1 F1.2.2.2, RowT.other hS.2.2.1 F2.2.2.2, cell_fill hS.2.2.2.1 F3.2.2.2, cell_fill hS.2.2.2.2.1 F3.2.2.2, cell_fill hS.2.2.2.2.2.1 F3.2.2.2, cell_fill hS.2.2.2.2.2.2.1 F3.2.2.2, cell_fill hS.2.2.2.2.2.2.2.1 F3.2.2.2, cell_fill hS.2.2.2.2.2.2.2.2.1 F3.2.2.2, cell_fill hS.2.2.2.2.2.2.2.2.2.1 F3.2.2.2, cell_fill hS.2.2.2.2.2.2.2.2.2.2 F3.2.2.2⟩) fun hS => ?_
    refine all_assign (i := 17) (by kernel_rfl) rfl rfl hS ?_
    refine wpAnyH_done (by kernel_rfl) ?_ _
    simp only [Act.put, List.setIfInBounds_toArray, List.set_cons_succ, List.set_cons_zero]
    go_wp2_with fail
    obtain ⟨r0, r1, r2, r3⟩ := fill_four (w := y3) (op0 := op5) (n0 := n5) (s0 := s5) (a0 := a20) (l0 := len5) (k0 := cap20) (op1 := op7) (n1 := n7) (s1 := s7) (a1 := a7) (l1 := len7) (k1 := cap7) (op2 := op11) (n2 := n11) (s2 := s11) (a2 := a21) (l2 := len11) (k2 := cap21) (op3 := op12) (n3 := n12) (s3 := s12) (a3 := a22) (l3 := len12) (k3 := cap22) (unhide HZ0) (unhide HZ1) (unhide HZ2) (unhide HZ3)
    exact bodyPost_ret (v := .tuple #[.agg #[.int .i64 op5, .int .i64 n5, .string s5, .slice a20 len5 cap20], .agg #[.int .i64 op7, .int .i64 n7, .string s7, .slice a7 len7 cap7], .agg #[.int .i64 op11, .int .i64 n11, .string s11, .slice a21 len11 cap21], .agg #[.int .i64 op12, .int .i64 n12, .string s12, .slice a22 len12 cap22], .bool true]) (results_cells4 Tryz.results5 rfl rfl rfl rfl (RowT.load r0) (RowT.load r1) (RowT.load r2) (RowT.load r3)) rfl ⟨_, _, _, _, _, _, _, _, _, _, _, _, _, _, _, _, _, _, _, _, _, _, _, _, rfl, fill_four_lies (w := y3) (unhide HZ0) (unhide HZ1) (unhide HZ2) (unhide HZ3) (unhide HOKP) (unhide HO20), fill_four_lies (w := y3) (unhide HZ0) (unhide HZ1) (unhide HZ2) (unhide HZ3) (unhide HOKS) (unhide HL7), fill_four_lies (w := y3) (unhide HZ0) (unhide HZ1) (unhide HZ2) (unhide HZ3) (unhide HOKC) (unhide HO21), fill_four_lies (w := y3) (unhide HZ0) (unhide HZ1) (unhide HZ2) (unhide HZ3) (unhide HOKG) (unhide HO22), fill_four_below (w := y3) (bt (unhide HB) hb3' (Nat.le_refl _)) (le_two _)⟩

theorem replyS_no (e t : Tm) (op n : Int) (s : ByteArray) (a : Option Addr) (len cap : Nat) (op2 n2 : Int) (s2 : ByteArray) (a2 : Option Addr) (len2 cap2 : Nat) (w : World) (hl : Lies w 0 e (tmCells op n s a len cap)) (hl2 : Lies w 0 t (tmCells op2 n2 s2 a2 len2 cap2)) (hst : e.size + t.size ≤ 1048578) (h : replyO e t = none) : Calls Tryz.prog 5 #[.agg #[.int .i64 op, .int .i64 n, .string s, .slice a len cap], .agg #[.int .i64 op2, .int .i64 n2, .string s2, .slice a2 len2 cap2]] w fun q w' => q = .returned (.tuple #[.agg #[.int .i64 0, .int .i64 0, .string ⟨#[]⟩, .slice none 0 0], .agg #[.int .i64 0, .int .i64 0, .string ⟨#[]⟩, .slice none 0 0], .agg #[.int .i64 0, .int .i64 0, .string ⟨#[]⟩, .slice none 0 0], .agg #[.int .i64 0, .int .i64 0, .string ⟨#[]⟩, .slice none 0 0], .bool false]) ∧ Below w.heap.size w w' := by
  cases hb : behO 3 (textT replyW) t with
  | none => exact replyS_none e t op n s a len cap op2 n2 s2 a2 len2 cap2 w hl hl2 hst hb
  | some k =>
    by_cases h3 : k.opOf = 3
    · obtain ⟨nt, st, k0, rfl, hok, hs⟩ := behO_some hb
      obtain ⟨ko, kn, ks, kk⟩ := k
      obtain rfl : ko = 3 := h3
      obtain ⟨pub, sealed, rfl⟩ := ok_two (Or.inl rfl) (okT_kid hok (x := .node 3 kn ks kk) (by simp))
      cases ha : agreeB e pub with
      | false => exact replyS_agree_no e _ pub sealed kn ks op n s a len cap op2 n2 s2 a2 len2 cap2 w hl hl2 hst hb ha
      | true =>
        cases ho : openO (keyT (agreeT e pub) 0) 0 sealed with
        | none => exact replyS_open_no e _ pub sealed kn ks op n s a len cap op2 n2 s2 a2 len2 cap2 w hl hl2 hst hb ha ho
        | some body =>
          by_cases hb3 : body.opOf = 3
          · exfalso
            have hok2 := openO_ok ho
            obtain ⟨bo, bn, bs, bk⟩ := body
            obtain rfl : bo = 3 := hb3
            obtain ⟨c, g, rfl⟩ := ok_two (Or.inl rfl) hok2
            rw [replyO_body_yes hb ha ho] at h
            cases h
          · exact replyS_body_no e _ pub sealed body kn ks op n s a len cap op2 n2 s2 a2 len2 cap2 w hl hl2 hst hb ha ho hb3
    · exact replyS_op e t k op n s a len cap op2 n2 s2 a2 len2 cap2 w hl hl2 hst hb h3

theorem replyS_yes (e t pub sh c g : Tm) (op n : Int) (s : ByteArray) (a : Option Addr) (len cap : Nat) (op2 n2 : Int) (s2 : ByteArray) (a2 : Option Addr) (len2 cap2 : Nat) (w : World) (hl : Lies w 0 e (tmCells op n s a len cap)) (hl2 : Lies w 0 t (tmCells op2 n2 s2 a2 len2 cap2)) (hst : e.size + t.size ≤ 1048578) (h : replyO e t = some (pub, sh, c, g)) : Calls Tryz.prog 5 #[.agg #[.int .i64 op, .int .i64 n, .string s, .slice a len cap], .agg #[.int .i64 op2, .int .i64 n2, .string s2, .slice a2 len2 cap2]] w fun q w' => FourS pub sh c g w q w' := by
  cases hb : behO 3 (textT replyW) t with
  | none => rw [replyO_named_none hb] at h; cases h
  | some k =>
    by_cases h3 : k.opOf = 3
    · obtain ⟨nt, st, k0, rfl, hok, hs⟩ := behO_some hb
      obtain ⟨ko, kn, ks, kk⟩ := k
      obtain rfl : ko = 3 := h3
      obtain ⟨pub', sealed, rfl⟩ := ok_two (Or.inl rfl) (okT_kid hok (x := .node 3 kn ks kk) (by simp))
      cases ha : agreeB e pub' with
      | false => rw [replyO_agree_no hb ha] at h; cases h
      | true =>
        cases ho : openO (keyT (agreeT e pub') 0) 0 sealed with
        | none => rw [replyO_open_no hb ha ho] at h; cases h
        | some body =>
          by_cases hb3 : body.opOf = 3
          · have hok2 := openO_ok ho
            obtain ⟨bo, bn, bs, bk⟩ := body
            obtain rfl : bo = 3 := hb3
            obtain ⟨c', g', rfl⟩ := ok_two (Or.inl rfl) hok2
            rw [replyO_body_yes hb ha ho] at h
            simp only [Option.some.injEq, Prod.mk.injEq] at h
            obtain ⟨rfl, rfl, rfl, rfl⟩ := h
            exact replyS_body_yes e _ pub' sealed c' g' kn bn ks bs op n s a len cap op2 n2 s2 a2 len2 cap2 w hl hl2 hst hb ha ho
          · rw [replyO_body_no hb ha ho hb3] at h; cases h
    · rw [replyO_named_op hb h3] at h; cases h

end Go.Proofs.YtafoonabmijcdaaGreatDoor
