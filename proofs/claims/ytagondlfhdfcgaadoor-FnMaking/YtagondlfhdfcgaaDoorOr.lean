
/- The row of FnMaking that calls four functions beside four new boxes: whatever order is drawn, by states. FnMaking's row of four calls beside four new boxes: the states, and that whatever order is drawn ends in one. FnMaking's row of four calls: whatever order is drawn, all thirteen ahead of the stores come to one state. FnMaking's row of four calls: the four stores behind them. -/
import Derived.Test.YtagondlfhdfcgaaDoorPb
import Derived.Test.YtagondlfhdfcgaaDoorPr
import Derived.Test.YtagondlfhdfcgaaDoorHs
import Derived.Test.YtagondlfhdfcgaaDoorNx
import Derived.BigCall
import Derived.Test.YtagondlfhdfcgaaDoorLg
namespace Go.Proofs.YtagondlfhdfcgaaDoor
open Go.RowKit Go.Deep

theorem wpAny_inv {P : Program} {md : Region.Mode} {ops : Array Oper} {Q : Exit → Act → World → Prop} (I : Nat → Array Bool → Act → World → Prop)
    (hs : ∀ n l a w, I n l a w → wpAny P md ops Q n l a w ∨ ∃ m, n = m + 1 ∧ Region.ready md ops l ≠ [] ∧ ∀ i ∈ Region.ready md ops l, wpOp P ops Q i (I m (l.setIfInBounds i true)) a w) :
    ∀ n l a w, I n l a w → wpAny P md ops Q n l a w := by
  intro n
  induction n with
  | zero =>
    intro l a w h
    rcases hs 0 l a w h with h | ⟨m, hm, _⟩
    · exact h
    · omega
  | succ n ih =>
    intro l a w h
    rcases hs _ l a w h with h | ⟨m, hm, hne, hr⟩
    · exact h
    · obtain rfl : n = m := by omega
      exact ⟨fun h0 => absurd h0 hne, fun i hi => wpOp_mono (fun a' w' h' => ih _ a' w' h') (hr i hi)⟩

/-- The frame a0 with some temporaries written over. -/
def ov (a0 : Act) (σ : Nat → Option Value) : Act := { a0 with tmps := a0.tmps.mapIdx fun k v => (σ k).getD v }
def upd (σ : Nat → Option Value) (d : Nat) (v : Value) : Nat → Option Value := fun k => if k = d then some v else σ k

theorem ov_put (a0 : Act) (σ : Nat → Option Value) (d : Nat) (v : Value) : (ov a0 σ).put (some d) v = ov a0 (upd σ d v) := by
  unfold ov Act.put upd
  simp only [Act.mk.injEq, and_true]
  apply Array.ext_getElem?
  intro k
  rw [Array.getElem?_setIfInBounds, Array.getElem?_mapIdx, Array.getElem?_mapIdx]
  by_cases h : d = k
  · subst h
    by_cases hk : d < a0.tmps.size
    · simp [hk]
    · simp [hk]
  · simp [h, Ne.symm h]

theorem ov_new {a0 : Act} {σ : Nat → Option Value} {k : Nat} {v : Value} (h : σ k = some v) (hk : k < a0.tmps.size) : (ov a0 σ).eval (.tmp k) = v := by
  simp [ov, Act.eval, h, hk]

theorem ov_old {a0 : Act} {σ : Nat → Option Value} {k : Nat} (h : σ k = none) : (ov a0 σ).eval (.tmp k) = a0.eval (.tmp k) := by
  simp only [ov, Act.eval]
  by_cases hk : k < a0.tmps.size
  · simp [h, hk]
  · simp [hk]

theorem step_alloc {ops : Array Oper} {Q : Exit → Act → World → Prop} {i d : Nat} {ty : TypeId} {pos : String} {after : Array Edge} {K : Act → World → Prop} {a : Act} {w : World}
    (ho : ops[i]? = some { dst := some d, op := .alloc 24, type := ty, pos := pos, after := after, guard := none })
    (h : K (a.put (some d) (.pointer (some ⟨w.heap.size, 0, none⟩))) (w.alloc (.cells #[.int .i64 0, .int .i64 0, .string ByteArray.empty, .slice none 0 0] 24))) :
    wpOp Tryd.prog ops Q i K a w := by
  refine wpOp_step ho fun K' hK => ?_
  have H := hide (hK _ _ h)
  clear h hK ho
  go_simp
  exact unhide H

theorem step_move {ops : Array Oper} {Q : Exit → Act → World → Prop} {i d t : Nat} {ty : TypeId} {pos : String} {after : Array Edge} {K : Act → World → Prop} {a : Act} {w : World}
    (ho : ops[i]? = some { dst := some d, op := .move (.tmp t), type := ty, pos := pos, after := after, guard := none })
    (h : K (a.put (some d) (a.eval (.tmp t))) w) :
    wpOp Tryd.prog ops Q i K a w := by
  refine wpOp_step ho fun K' hK => ?_
  exact hK _ _ h

theorem callFunc_enter {P : Program} {f : Nat} {fn : Func} {args : Array Value} {w : World} (hf : P.funcs[f]? = some fn) (hn : (fn.name == "runtime.NumGoroutine") = false) (hb : fn.body.isNone = false) :
    (callFunc f args).run P w = .ok (.enter f args) w := by
  simp [callFunc, go_sem, hf]
  rw [if_neg (by simpa using hn), if_neg (by intro h; rw [h] at hb; cases hb)]

theorem step_call {P : Program} {ops : Array Oper} {Q : Exit → Act → World → Prop} {i d f : Nat} {fn : Func} {xs : Array Operand} {ats : Array TypeId} {ty : TypeId} {pos : String} {after : Array Edge} {K : Act → World → Prop} {a : Act} {w : World}
    (ho : ops[i]? = some { dst := some d, op := .call { callee := .value (.func f), args := xs, argTypes := ats }, type := ty, pos := pos, after := after, guard := none })
    (hf : P.funcs[f]? = some fn) (hn : (fn.name == "runtime.NumGoroutine") = false) (hb : fn.body.isNone = false)
    (h : Calls P f (xs.map a.eval) w fun e w' => ∃ v, e = .returned v ∧ K (a.put (some d) v) w') :
    wpOp P ops Q i K a w := by
  refine wpOp_step ho fun K' hK => ?_
  rw [if_pos (by rfl)]
  unfold Oper.wp
  rw [execOp_call_go, callFunc_enter hf hn hb]
  have he : (#[] ++ xs.map a.eval ++ #[] : Array Value) = xs.map a.eval := by simp
  rw [he]
  refine Calls.mono h ?_
  rintro e w' ⟨v, rfl, hv⟩
  exact hK _ _ hv

theorem step_load {ops : Array Oper} {Q : Exit → Act → World → Prop} {i d t : Nat} {ty : TypeId} {pos : String} {after : Array Edge} {K : Act → World → Prop} {a : Act} {w : World} {g : Nat} {op n : Int} {s : ByteArray} {ad : Option Addr} {len cap : Nat}
    (ho : ops[i]? = some { dst := some d, op := .load 24 (.tmp t), type := ty, pos := pos, after := after, guard := none })
    (hx : a.eval (.tmp t) = .pointer (some ⟨g, 0, none⟩)) (hr : RowT 24 w g op n s ad len cap)
    (h : K (a.put (some d) (.agg #[.int .i64 op, .int .i64 n, .string s, .slice ad len cap])) w) :
    wpOp Tryd.prog ops Q i K a w := by
  refine wpOp_step ho fun K' hK => ?_
  have H := hide (hK _ _ h)
  clear h hK ho
  obtain ⟨c0, c1, c2, c3⟩ := hr.facts
  have hx' : a.tmps[t]?.getD undef = .pointer (some ⟨g, 0, none⟩) := by simpa [Act.eval] using hx
  clear hx hr
  go_simp
  exact unhide H

def ops6 : Array Oper := #[
  { dst := some 25, op := Op.load 24 (Operand.tmp 3), type := 24, pos := "laws.go:424", after := #[], guard := none }, 
  { dst := some 26, op := Op.load 24 (Operand.tmp 4), type := 24, pos := "laws.go:424", after := #[], guard := none }, 
  { dst := some 27, op := Op.call { callee := Callee.value (Operand.func 15), args := #[Operand.tmp 25, Operand.tmp 26], argTypes := #[24, 24] }, type := 24, pos := "laws.go:424", after := #[{ on := 0, ground := Ground.data }, { on := 1, ground := Ground.data }], guard := none }, 
  { dst := some 28, op := Op.move (Operand.tmp 5), type := 3, pos := "laws.go:424", after := #[], guard := none }, 
  { dst := some 29, op := Op.call { callee := Callee.value (Operand.func 8), args := #[Operand.tmp 28], argTypes := #[3] }, type := 24, pos := "laws.go:424", after := #[{ on := 3, ground := Ground.data }, { on := 2, ground := Ground.chain }], guard := none }, 
  { dst := some 30, op := Op.load 24 (Operand.tmp 6), type := 24, pos := "laws.go:424", after := #[], guard := none }, 
  { dst := some 31, op := Op.call { callee := Callee.value (Operand.func 26), args := #[Operand.tmp 30], argTypes := #[24] }, type := 24, pos := "laws.go:424", after := #[{ on := 5, ground := Ground.data }, { on := 4, ground := Ground.chain }], guard := none }, 
  { dst := some 32, op := Op.load 24 (Operand.tmp 7), type := 24, pos := "laws.go:424", after := #[], guard := none }, 
  { dst := some 33, op := Op.call { callee := Callee.value (Operand.func 27), args := #[Operand.tmp 32], argTypes := #[24] }, type := 24, pos := "laws.go:424", after := #[{ on := 7, ground := Ground.data }, { on := 6, ground := Ground.chain }], guard := none }, 
  { dst := some 8, op := Op.alloc 24, type := 0, pos := "laws.go:424", after := #[], guard := none }, 
  { dst := some 9, op := Op.alloc 24, type := 0, pos := "laws.go:424", after := #[], guard := none }, 
  { dst := some 10, op := Op.alloc 24, type := 0, pos := "laws.go:424", after := #[], guard := none }, 
  { dst := some 11, op := Op.alloc 24, type := 0, pos := "laws.go:424", after := #[], guard := none }, 
  { dst := none, op := Op.store 24 (Operand.tmp 8) (Operand.tmp 27), type := 0, pos := "laws.go:424", after := #[{ on := 9, ground := Ground.data }, { on := 2, ground := Ground.data }, { on := 8, ground := Ground.chain }, { on := 0, ground := Ground.phase }, { on := 1, ground := Ground.phase }, { on := 2, ground := Ground.phase }, { on := 3, ground := Ground.textOnly Departure.lateStores }, { on := 4, ground := Ground.textOnly Departure.lateStoresUnsure }, { on := 5, ground := Ground.textOnly Departure.lateStores }, { on := 6, ground := Ground.textOnly Departure.lateStoresUnsure }, { on := 7, ground := Ground.textOnly Departure.lateStores }, { on := 8, ground := Ground.textOnly Departure.lateStoresUnsure }, { on := 9, ground := Ground.phase }, { on := 10, ground := Ground.phase }, { on := 11, ground := Ground.phase }, { on := 12, ground := Ground.phase }], guard := none }, 
  { dst := none, op := Op.store 24 (Operand.tmp 9) (Operand.tmp 29), type := 0, pos := "laws.go:424", after := #[{ on := 10, ground := Ground.data }, { on := 4, ground := Ground.data }, { on := 13, ground := Ground.chain }, { on := 0, ground := Ground.phase }, { on := 1, ground := Ground.phase }, { on := 2, ground := Ground.phase }, { on := 3, ground := Ground.phase }, { on := 4, ground := Ground.phase }, { on := 5, ground := Ground.textOnly Departure.lateStores }, { on := 6, ground := Ground.textOnly Departure.lateStoresUnsure }, { on := 7, ground := Ground.textOnly Departure.lateStores }, { on := 8, ground := Ground.textOnly Departure.lateStoresUnsure }, { on := 9, ground := Ground.phase }, { on := 10, ground := Ground.phase }, { on := 11, ground := Ground.phase }, { on := 12, ground := Ground.phase }, { on := 13, ground := Ground.phase }], guard := none }, 
  { dst := none, op := Op.store 24 (Operand.tmp 10) (Operand.tmp 31), type := 0, pos := "laws.go:424", after := #[{ on := 11, ground := Ground.data }, { on := 6, ground := Ground.data }, { on := 14, ground := Ground.chain }, { on := 0, ground := Ground.phase }, { on := 1, ground := Ground.phase }, { on := 2, ground := Ground.phase }, { on := 3, ground := Ground.phase }, { on := 4, ground := Ground.phase }, { on := 5, ground := Ground.phase }, { on := 6, ground := Ground.phase }, { on := 7, ground := Ground.textOnly Departure.lateStores }, { on := 8, ground := Ground.textOnly Departure.lateStoresUnsure }, { on := 9, ground := Ground.phase }, { on := 10, ground := Ground.phase }, { on := 11, ground := Ground.phase }, { on := 12, ground := Ground.phase }, { on := 13, ground := Ground.phase }, { on := 14, ground := Ground.phase }], guard := none }, 
  { dst := none, op := Op.store 24 (Operand.tmp 11) (Operand.tmp 33), type := 0, pos := "laws.go:424", after := #[{ on := 12, ground := Ground.data }, { on := 8, ground := Ground.data }, { on := 15, ground := Ground.chain }, { on := 0, ground := Ground.phase }, { on := 1, ground := Ground.phase }, { on := 2, ground := Ground.phase }, { on := 3, ground := Ground.phase }, { on := 4, ground := Ground.phase }, { on := 5, ground := Ground.phase }, { on := 6, ground := Ground.phase }, { on := 7, ground := Ground.phase }, { on := 8, ground := Ground.phase }, { on := 9, ground := Ground.phase }, { on := 10, ground := Ground.phase }, { on := 11, ground := Ground.phase }, { on := 12, ground := Ground.phase }, { on := 13, ground := Ground.phase }, { on := 14, ground := Ground.phase }, { on := 15, ground := Ground.phase }], guard := none }]

def bUpd (b : Nat → Bool) (i : Nat) : Nat → Bool := fun k => if k = i then true else b k
def L6 (b : Nat → Bool) : Array Bool := #[b 0, b 1, b 2, b 3, b 4, b 5, b 6, b 7, b 8, b 9, b 10, b 11, b 12, false, false, false, false]


abbrev ptr (p : Nat) : Value := .pointer (some ⟨p, 0, none⟩)

theorem upd_eq (σ : Nat → Option Value) (d : Nat) (v : Value) : upd σ d v d = some v := by simp [upd]
theorem upd_ne (σ : Nat → Option Value) {d k : Nat} (v : Value) (h : k ≠ d) : upd σ d v k = σ k := by simp [upd, h]
theorem bUpd_ne (b : Nat → Bool) {i k : Nat} (h : k ≠ i) : bUpd b i k = b k := by simp [bUpd, h]

structure Sta (w0 : World) (T : Nat → Tm) (va vb vn vp vh : Value) (b : Nat → Bool) (σ : Nat → Option Value) (w : World) : Prop where
  other : ∀ k, (k < 8 ∨ (11 < k ∧ k < 25) ∨ 33 < k) → σ k = none
  below : Below w0.heap.size w0 w
  d0 : b 0 = true → σ 25 = some va
  d1 : b 1 = true → σ 26 = some vb
  d3 : b 3 = true → σ 28 = some vn
  d5 : b 5 = true → σ 30 = some vp
  d7 : b 7 = true → σ 32 = some vh
  box : ∀ j, j < 4 → b (9 + j) = true → ∃ p, σ (8 + j) = some (ptr p)
  zero : ∀ j p, j < 4 → σ (8 + j) = some (ptr p) → ZBox w p ∧ w0.heap.size ≤ p
  apart : ∀ j k p, j < 4 → k < 4 → j ≠ k → σ (8 + j) = some (ptr p) → σ (8 + k) ≠ some (ptr p)
  res : ∀ i, i < 4 → b (2 + 2 * i) = true → ∃ v, σ (27 + 2 * i) = some v
  own : ∀ i v, i < 4 → σ (27 + 2 * i) = some v → ∃ op n s ad len cap fp, v = .agg #[.int .i64 op, .int .i64 n, .string s, .slice ad len cap] ∧ Own w (T i) (tmCells op n s ad len cap) fp ∧ (∀ x ∈ fp, w0.heap.size ≤ x) ∧ ∀ j p, j < 4 → σ (8 + j) = some (ptr p) → p ∉ fp

section
variable {w0 : World} {T : Nat → Tm} {va vb vn vp vh : Value} {b : Nat → Bool} {σ : Nat → Option Value} {w : World}

theorem Sta.load (h : Sta w0 T va vb vn vp vh b σ w) {b' : Nat → Bool} {σ' : Nat → Option Value}
    (hσ : ∀ k, k < 25 ∨ 33 < k ∨ k = 27 ∨ k = 29 ∨ k = 31 ∨ k = 33 → σ' k = σ k) (hb : ∀ k, 8 < k ∨ k = 2 ∨ k = 4 ∨ k = 6 ∨ k = 8 → b' k = b k)
    (d0 : b' 0 = true → σ' 25 = some va) (d1 : b' 1 = true → σ' 26 = some vb) (d3 : b' 3 = true → σ' 28 = some vn) (d5 : b' 5 = true → σ' 30 = some vp) (d7 : b' 7 = true → σ' 32 = some vh) :
    Sta w0 T va vb vn vp vh b' σ' w := by
  refine ⟨fun k hk => ?_, h.below, d0, d1, d3, d5, d7, fun j hj hbj => ?_, fun j p hj hs => ?_, fun j k p hj hk hne hs => ?_, fun i hi hbi => ?_, fun i v hi hs => ?_⟩
  · rw [hσ k (by omega)]; exact h.other k hk
  · rw [hσ _ (by omega)]; rw [hb _ (by omega)] at hbj; exact h.box j hj hbj
  · rw [hσ _ (by omega)] at hs; exact h.zero j p hj hs
  · rw [hσ _ (by omega)] at hs ⊢; exact h.apart j k p hj hk hne hs
  · rw [hσ _ (by omega)]; rw [hb _ (by omega)] at hbi; exact h.res i hi hbi
  · rw [hσ _ (by omega)] at hs
    obtain ⟨op, n, s, ad, len, cap, fp, h1, h2, h3, h4⟩ := h.own i v hi hs
    refine ⟨op, n, s, ad, len, cap, fp, h1, h2, h3, fun j p hj hs => ?_⟩
    rw [hσ _ (by omega)] at hs
    exact h4 j p hj hs

theorem Sta.alloc (h : Sta w0 T va vb vn vp vh b σ w) (j0 : Nat) (hj0 : j0 < 4) :
    Sta w0 T va vb vn vp vh (bUpd b (9 + j0)) (upd σ (8 + j0) (ptr w.heap.size)) (w.alloc (.cells #[.int .i64 0, .int .i64 0, .string ByteArray.empty, .slice none 0 0] 24)) := by
  have hab : Below w.heap.size w (w.alloc (.cells #[.int .i64 0, .int .i64 0, .string ByteArray.empty, .slice none 0 0] 24)) := ab _
  have hlt : ∀ j p, j < 4 → σ (8 + j) = some (ptr p) → p < w.heap.size := fun j p hj hs => lt_of_heap (h.zero j p hj hs).1
  refine ⟨fun k hk => ?_, bt h.below hab (Nat.le_refl _), fun hb => ?_, fun hb => ?_, fun hb => ?_, fun hb => ?_, fun hb => ?_, fun j hj hbj => ?_, fun j p hj hs => ?_, fun j k p hj hk hne hs => ?_, fun i hi hbi => ?_, fun i v hi hs => ?_⟩
  · rw [upd_ne _ _ (by omega)]; exact h.other k hk
  · rw [upd_ne _ _ (by omega)]; rw [bUpd_ne _ (by omega)] at hb; exact h.d0 hb
  · rw [upd_ne _ _ (by omega)]; rw [bUpd_ne _ (by omega)] at hb; exact h.d1 hb
  · rw [upd_ne _ _ (by omega)]; rw [bUpd_ne _ (by omega)] at hb; exact h.d3 hb
  · rw [upd_ne _ _ (by omega)]; rw [bUpd_ne _ (by omega)] at hb; exact h.d5 hb
  · rw [upd_ne _ _ (by omega)]; rw [bUpd_ne _ (by omega)] at hb; exact h.d7 hb
  · by_cases he : j = j0
    · subst he; exact ⟨_, upd_eq _ _ _⟩
    · rw [upd_ne _ _ (by omega)]; rw [bUpd_ne _ (by omega)] at hbj; exact h.box j hj hbj
  · by_cases he : j = j0
    · subst he
      rw [upd_eq] at hs
      simp only [Option.some.injEq, Value.pointer.injEq, Addr.mk.injEq, and_true] at hs
      subst hs
      exact ⟨ZBox.new w, h.below.size⟩
    · rw [upd_ne _ _ (by omega)] at hs
      exact ⟨(h.zero j p hj hs).1.below hab, (h.zero j p hj hs).2⟩
  · by_cases he : j = j0
    · subst he
      rw [upd_eq] at hs
      simp only [Option.some.injEq, Value.pointer.injEq, Addr.mk.injEq, and_true] at hs
      subst hs
      rw [upd_ne _ _ (by omega)]
      intro hc
      exact Nat.lt_irrefl _ (hlt k _ hk hc)
    · rw [upd_ne _ _ (by omega)] at hs
      by_cases he2 : k = j0
      · subst he2
        rw [upd_eq]
        intro hc
        simp only [Option.some.injEq, Value.pointer.injEq, Addr.mk.injEq, and_true] at hc
        have := hlt j p hj hs
        omega
      · rw [upd_ne _ _ (by omega)]
        exact h.apart j k p hj hk hne hs
  · rw [upd_ne _ _ (by omega)]; rw [bUpd_ne _ (by omega)] at hbi; exact h.res i hi hbi
  · rw [upd_ne _ _ (by omega)] at hs
    obtain ⟨op, n, s, ad, len, cap, fp, h1, h2, h3, h4⟩ := h.own i v hi hs
    refine ⟨op, n, s, ad, len, cap, fp, h1, h2.below hab, h3, fun j p hj hs => ?_⟩
    by_cases he : j = j0
    · subst he
      rw [upd_eq] at hs
      simp only [Option.some.injEq, Value.pointer.injEq, Addr.mk.injEq, and_true] at hs
      subst hs
      intro hc
      exact Nat.lt_irrefl _ (Own.lt _ _ _ h2 _ hc)
    · rw [upd_ne _ _ (by omega)] at hs
      exact h4 j p hj hs

theorem Sta.call (h : Sta w0 T va vb vn vp vh b σ w) (i0 : Nat) (hi0 : i0 < 4) {w' : World} {op n : Int} {s : ByteArray} {ad : Option Addr} {len cap : Nat} {fp : List Nat}
    (ho : Own w' (T i0) (tmCells op n s ad len cap) fp) (hfp : ∀ x ∈ fp, w.heap.size ≤ x) (hbl : Below w.heap.size w w') :
    Sta w0 T va vb vn vp vh (bUpd b (2 + 2 * i0)) (upd σ (27 + 2 * i0) (.agg #[.int .i64 op, .int .i64 n, .string s, .slice ad len cap])) w' := by
  have hlt : ∀ j p, j < 4 → σ (8 + j) = some (ptr p) → p < w.heap.size := fun j p hj hs => lt_of_heap (h.zero j p hj hs).1
  refine ⟨fun k hk => ?_, bt h.below hbl (Nat.le_refl _), fun hb => ?_, fun hb => ?_, fun hb => ?_, fun hb => ?_, fun hb => ?_, fun j hj hbj => ?_, fun j p hj hs => ?_, fun j k p hj hk hne hs => ?_, fun i hi hbi => ?_, fun i v hi hs => ?_⟩
  · rw [upd_ne _ _ (by omega)]; exact h.other k hk
  · rw [upd_ne _ _ (by omega)]; rw [bUpd_ne _ (by omega)] at hb; exact h.d0 hb
  · rw [upd_ne _ _ (by omega)]; rw [bUpd_ne _ (by omega)] at hb; exact h.d1 hb
  · rw [upd_ne _ _ (by omega)]; rw [bUpd_ne _ (by omega)] at hb; exact h.d3 hb
  · rw [upd_ne _ _ (by omega)]; rw [bUpd_ne _ (by omega)] at hb; exact h.d5 hb
  · rw [upd_ne _ _ (by omega)]; rw [bUpd_ne _ (by omega)] at hb; exact h.d7 hb
  · rw [upd_ne _ _ (by omega)]; rw [bUpd_ne _ (by omega)] at hbj; exact h.box j hj hbj
  · rw [upd_ne _ _ (by omega)] at hs
    exact ⟨(h.zero j p hj hs).1.below hbl, (h.zero j p hj hs).2⟩
  · rw [upd_ne _ _ (by omega)] at hs ⊢
    exact h.apart j k p hj hk hne hs
  · by_cases he : i = i0
    · subst he; exact ⟨_, upd_eq _ _ _⟩
    · rw [upd_ne _ _ (by omega)]; rw [bUpd_ne _ (by omega)] at hbi; exact h.res i hi hbi
  · by_cases he : i = i0
    · subst he
      rw [upd_eq] at hs
      simp only [Option.some.injEq] at hs
      refine ⟨op, n, s, ad, len, cap, fp, hs.symm, ho, fun x hx => Nat.le_trans h.below.size (hfp x hx), fun j p hj hs2 hc => ?_⟩
      rw [upd_ne _ _ (by omega)] at hs2
      have h5 := hlt j p hj hs2
      have h6 := hfp p hc
      omega
    · rw [upd_ne _ _ (by omega)] at hs
      obtain ⟨op, n, s, ad, len, cap, fp, h1, h2, h3, h4⟩ := h.own i v hi hs
      refine ⟨op, n, s, ad, len, cap, fp, h1, h2.below hbl, h3, fun j p hj hs => ?_⟩
      rw [upd_ne _ _ (by omega)] at hs
      exact h4 j p hj hs
end

def cnt6 (b : Nat → Bool) : Nat := (!b 0).toNat + (!b 1).toNat + (!b 2).toNat + (!b 3).toNat + (!b 4).toNat + (!b 5).toNat + (!b 6).toNat + (!b 7).toNat + (!b 8).toNat + (!b 9).toNat + (!b 10).toNat + (!b 11).toNat + (!b 12).toNat

theorem ready6 (b : Nat → Bool) (h : Region.ready .any ops6 (L6 b) = []) : ∀ i, i < 13 → b i = true := by
  have key : ∀ i (ons : List Nat), (ops6[i]?).map (fun o => o.after.toList.map (·.on)) = some ons → (∀ k ∈ ons, (L6 b).getD k false = true) → (L6 b).getD i true = true := by
    intro i ons ho ha
    cases hc : (L6 b).getD i true with
    | true => rfl
    | false =>
      obtain ⟨o, h1, h2⟩ := Option.map_eq_some_iff.1 ho
      have : i ∈ Region.ready .any ops6 (L6 b) := mem_ready.2 ⟨hc, o, h1, fun e he _ => ha e.on (by rw [← h2]; exact List.mem_map.2 ⟨e, Array.mem_toList_iff.2 he, rfl⟩)⟩
      rw [h] at this
      cases this
  have r0 : b 0 = true := key 0 [] rfl (by intro k hk; cases hk)
  have r1 : b 1 = true := key 1 [] rfl (by intro k hk; cases hk)
  have r3 : b 3 = true := key 3 [] rfl (by intro k hk; cases hk)
  have r5 : b 5 = true := key 5 [] rfl (by intro k hk; cases hk)
  have r7 : b 7 = true := key 7 [] rfl (by intro k hk; cases hk)
  have r2 : b 2 = true := key 2 [0, 1] rfl (by intro k hk; simp only [List.mem_cons, List.not_mem_nil, or_false] at hk; rcases hk with rfl | rfl <;> assumption)
  have r4 : b 4 = true := key 4 [3, 2] rfl (by intro k hk; simp only [List.mem_cons, List.not_mem_nil, or_false] at hk; rcases hk with rfl | rfl <;> assumption)
  have r6 : b 6 = true := key 6 [5, 4] rfl (by intro k hk; simp only [List.mem_cons, List.not_mem_nil, or_false] at hk; rcases hk with rfl | rfl <;> assumption)
  have r8 : b 8 = true := key 8 [7, 6] rfl (by intro k hk; simp only [List.mem_cons, List.not_mem_nil, or_false] at hk; rcases hk with rfl | rfl <;> assumption)
  have r9 : b 9 = true := key 9 [] rfl (by intro k hk; cases hk)
  have r10 : b 10 = true := key 10 [] rfl (by intro k hk; cases hk)
  have r11 : b 11 = true := key 11 [] rfl (by intro k hk; cases hk)
  have r12 : b 12 = true := key 12 [] rfl (by intro k hk; cases hk)
  intro i hi
  obtain rfl | rfl | rfl | rfl | rfl | rfl | rfl | rfl | rfl | rfl | rfl | rfl | rfl : i = 0 ∨ i = 1 ∨ i = 2 ∨ i = 3 ∨ i = 4 ∨ i = 5 ∨ i = 6 ∨ i = 7 ∨ i = 8 ∨ i = 9 ∨ i = 10 ∨ i = 11 ∨ i = 12 := by omega
  all_goals assumption

/-- What may come up: it has not come up; what it waits for has. -/
theorem up6 {b : Nat → Bool} {i : Nat} (hi : i ∈ Region.ready .any ops6 (L6 b)) (ons : List Nat) (ho : (ops6[i]?).map (fun o => (o.after.toList.filter (Region.binds .any)).map (·.on)) = some ons) :
    (L6 b).getD i true = false ∧ ∀ k ∈ ons, (L6 b).getD k false = true := by
  obtain ⟨h0, o', ho', ha⟩ := mem_ready.1 hi
  rw [ho'] at ho
  cases ho
  refine ⟨h0, fun k hk => ?_⟩
  obtain ⟨e, he, rfl⟩ := List.mem_map.1 hk
  obtain ⟨h1, h2⟩ := List.mem_filter.1 he
  exact ha e (Array.mem_toList_iff.1 h1) h2

theorem lt6 {b : Nat → Bool} {i : Nat} (hi : i ∈ Region.ready .any ops6 (L6 b)) : i < 17 := by
  obtain ⟨_, o, ho, _⟩ := mem_ready.1 hi
  exact (Array.getElem?_eq_some_iff.1 ho).1

theorem ov_none (a0 : Act) : ov a0 (fun _ => none) = a0 := by
  cases a0
  simp only [ov, Option.getD_none, Act.mk.injEq, and_true]
  apply Array.ext_getElem?
  intro k
  simp

def ord6 (b : Nat → Bool) : Prop := (b 4 = true → b 3 = true ∧ b 2 = true) ∧ (b 6 = true → b 5 = true ∧ b 4 = true) ∧ (b 8 = true → b 7 = true ∧ b 6 = true)

theorem bUpd_of {b : Nat → Bool} {i k : Nat} (h : b k = true) : bUpd b i k = true := by
  unfold bUpd
  split
  · rfl
  · exact h

theorem ord6.step {b : Nat → Bool} (h : ord6 b) (i : Nat) (h4 : i = 4 → b 3 = true ∧ b 2 = true) (h6 : i = 6 → b 5 = true ∧ b 4 = true) (h8 : i = 8 → b 7 = true ∧ b 6 = true) : ord6 (bUpd b i) := by
  refine ⟨fun hb => ?_, fun hb => ?_, fun hb => ?_⟩
  · by_cases he : i = 4
    · exact ⟨bUpd_of (h4 he).1, bUpd_of (h4 he).2⟩
    · rw [bUpd_ne _ (Ne.symm he)] at hb
      exact ⟨bUpd_of (h.1 hb).1, bUpd_of (h.1 hb).2⟩
  · by_cases he : i = 6
    · exact ⟨bUpd_of (h6 he).1, bUpd_of (h6 he).2⟩
    · rw [bUpd_ne _ (Ne.symm he)] at hb
      exact ⟨bUpd_of (h.2.1 hb).1, bUpd_of (h.2.1 hb).2⟩
  · by_cases he : i = 8
    · exact ⟨bUpd_of (h8 he).1, bUpd_of (h8 he).2⟩
    · rw [bUpd_ne _ (Ne.symm he)] at hb
      exact ⟨bUpd_of (h.2.2 hb).1, bUpd_of (h.2.2 hb).2⟩

set_option maxHeartbeats 1000000 in
theorem rows6 {Q : Exit → Act → World → Prop} (a0 : Act) (w0 : World) (hsz : a0.tmps.size = 95) (ga gb gp gh : Nat) (vn : Int)
    (ta tb tp th : Tm) (op1 n1 op2 n2 op3 n3 op4 n4 : Int) (s1 s2 s3 s4 : ByteArray) (a1 a2 a3 a4 : Option Addr) (l1 c1 l2 c2 l3 c3 l4 c4 : Nat)
    (e3 : a0.eval (.tmp 3) = ptr ga) (e4 : a0.eval (.tmp 4) = ptr gb) (e5 : a0.eval (.tmp 5) = .int .i64 vn) (e6 : a0.eval (.tmp 6) = ptr gp) (e7 : a0.eval (.tmp 7) = ptr gh)
    (r3 : RowT 24 w0 ga op1 n1 s1 a1 l1 c1) (r4 : RowT 24 w0 gb op2 n2 s2 a2 l2 c2) (r6 : RowT 24 w0 gp op3 n3 s3 a3 l3 c3) (r7 : RowT 24 w0 gh op4 n4 s4 a4 l4 c4)
    (k1 : Lies w0 0 ta (tmCells op1 n1 s1 a1 l1 c1)) (k2 : Lies w0 0 tb (tmCells op2 n2 s2 a2 l2 c2)) (k3 : Lies w0 0 tp (tmCells op3 n3 s3 a3 l3 c3)) (k4 : Lies w0 0 th (tmCells op4 n4 s4 a4 l4 c4))
    (z1 : ta.size + tb.size ≤ 2097151) (z3 : tp.size ≤ 2097151) (z4 : th.size ≤ 2097151) (hn : (Lit.int .i64 vn).wf = true) (herr : Err w0)
    (T : Nat → Tm) (t0 : T 0 = madeT 3 [ta, tb]) (t1 : T 1 = .node (atOp vn) (atN vn) ByteArray.empty []) (t2 : T 2 = madeT 4 [tp]) (t3 : T 3 = madeT 6 [th])
    (hdone : ∀ b σ w m, (∀ i, i < 13 → b i = true) →
      Sta w0 T (.agg #[.int .i64 op1, .int .i64 n1, .string s1, .slice a1 l1 c1]) (.agg #[.int .i64 op2, .int .i64 n2, .string s2, .slice a2 l2 c2]) (.int .i64 vn) (.agg #[.int .i64 op3, .int .i64 n3, .string s3, .slice a3 l3 c3]) (.agg #[.int .i64 op4, .int .i64 n4, .string s4, .slice a4 l4 c4]) b σ w →
      wpAny Tryd.prog .any ops6 Q (m + 4) (L6 fun _ => true) (ov a0 σ) w) :
    wpAny Tryd.prog .any ops6 Q 17 (L6 fun _ => false) a0 w0 := by
  refine wpAny_inv (P := Tryd.prog) (md := .any) (ops := ops6) (Q := Q) (fun n l a w => ∃ b σ, l = L6 b ∧ a = ov a0 σ ∧ Sta w0 T (.agg #[.int .i64 op1, .int .i64 n1, .string s1, .slice a1 l1 c1]) (.agg #[.int .i64 op2, .int .i64 n2, .string s2, .slice a2 l2 c2]) (.int .i64 vn) (.agg #[.int .i64 op3, .int .i64 n3, .string s3, .slice a3 l3 c3]) (.agg #[.int .i64 op4, .int .i64 n4, .string s4, .slice a4 l4 c4]) b σ w ∧ ord6 b ∧ 4 + cnt6 b ≤ n) ?_ 17 _ _ _ ?_
  rotate_left
  · refine ⟨fun _ => false, fun _ => none, rfl, (ov_none a0).symm, ?_, ⟨nofun, nofun, nofun⟩, by decide⟩
    exact ⟨fun _ _ => rfl, Below.refl _ _, nofun, nofun, nofun, nofun, nofun, nofun, nofun, nofun, nofun, nofun⟩
  rintro n l a w ⟨b, σ, rfl, rfl, hS, hO6, hn4⟩
  obtain ⟨m, rfl⟩ : ∃ m, n = m + 4 := ⟨n - 4, by omega⟩
  by_cases hall : ∀ i, i < 13 → b i = true
  · left
    have hl : L6 b = L6 fun _ => true := by
      unfold L6
      rw [hall 0 (by omega), hall 1 (by omega), hall 2 (by omega), hall 3 (by omega), hall 4 (by omega), hall 5 (by omega), hall 6 (by omega), hall 7 (by omega), hall 8 (by omega), hall 9 (by omega), hall 10 (by omega), hall 11 (by omega), hall 12 (by omega)]
    rw [hl]
    exact hdone b σ w m hall hS
  right
  refine ⟨m + 3, rfl, fun h => hall (ready6 b h), fun i hi => ?_⟩
  have hbl := hS.below
  have hlt := lt6 hi
  have hd : ∀ d v, d < 95 → σ d = some v → (ov a0 σ).eval (.tmp d) = v := fun d v hd h => ov_new h (by omega)
  have ho : ∀ (d : Nat), d < 8 → (ov a0 σ).eval (.tmp d) = a0.eval (.tmp d) := fun d hd => ov_old (hS.other d (.inl hd))
  obtain rfl | rfl | rfl | rfl | rfl | rfl | rfl | rfl | rfl | rfl | rfl | rfl | rfl | rfl | rfl | rfl | rfl : i = 0 ∨ i = 1 ∨ i = 2 ∨ i = 3 ∨ i = 4 ∨ i = 5 ∨ i = 6 ∨ i = 7 ∨ i = 8 ∨ i = 9 ∨ i = 10 ∨ i = 11 ∨ i = 12 ∨ i = 13 ∨ i = 14 ∨ i = 15 ∨ i = 16 := by omega
  · obtain ⟨f, -⟩ := up6 hi [] rfl
    have f : b 0 = false := f
    refine step_load rfl ((ho 3 (by omega)).trans e3) (r3.below hbl) ⟨bUpd b 0, upd σ 25 _, rfl, ov_put .., hS.load (fun k hk => upd_ne _ _ (by omega)) (fun k hk => bUpd_ne _ (by omega)) ?_ ?_ ?_ ?_ ?_, hO6.step _ (by omega) (by omega) (by omega), ?_⟩
    · intro _; exact upd_eq ..
    · intro h; exact (upd_ne _ _ (by omega)).trans (hS.d1 h)
    · intro h; exact (upd_ne _ _ (by omega)).trans (hS.d3 h)
    · intro h; exact (upd_ne _ _ (by omega)).trans (hS.d5 h)
    · intro h; exact (upd_ne _ _ (by omega)).trans (hS.d7 h)
    · simp [cnt6, bUpd, f] at hn4 ⊢; omega
  · obtain ⟨f, -⟩ := up6 hi [] rfl
    have f : b 1 = false := f
    refine step_load rfl ((ho 4 (by omega)).trans e4) (r4.below hbl) ⟨bUpd b 1, upd σ 26 _, rfl, ov_put .., hS.load (fun k hk => upd_ne _ _ (by omega)) (fun k hk => bUpd_ne _ (by omega)) ?_ ?_ ?_ ?_ ?_, hO6.step _ (by omega) (by omega) (by omega), ?_⟩
    · intro h; exact (upd_ne _ _ (by omega)).trans (hS.d0 h)
    · intro _; exact upd_eq ..
    · intro h; exact (upd_ne _ _ (by omega)).trans (hS.d3 h)
    · intro h; exact (upd_ne _ _ (by omega)).trans (hS.d5 h)
    · intro h; exact (upd_ne _ _ (by omega)).trans (hS.d7 h)
    · simp [cnt6, bUpd, f] at hn4 ⊢; omega
  · obtain ⟨f, g⟩ := up6 hi [0, 1] rfl
    have f : b 2 = false := f
    have g0 : b 0 = true := g 0 (by simp)
    have g1 : b 1 = true := g 1 (by simp)
    refine step_call rfl Tryd.func15 (by kernel_rfl) (by kernel_rfl) ?_
    simp only [List.map_toArray, List.map_cons, List.map_nil]
    rw [hd 25 _ (by omega) (hS.d0 g0), hd 26 _ (by omega) (hS.d1 g1)]
    refine (pair14 ta tb op1 n1 s1 a1 l1 c1 op2 n2 s2 a2 l2 c2 w (k1.below hbl) (k2.below hbl) z1 (herr.on hbl)).mono ?_
    rintro e w' ⟨op', n', s', a', len', cap', fp, rfl, hO, ⟨-, hfp⟩, hb'⟩
    refine ⟨_, rfl, bUpd b 2, _, rfl, ov_put .., hS.call 0 (by omega) (t0 ▸ hO) hfp hb', hO6.step _ (by omega) (by omega) (by omega), ?_⟩
    simp [cnt6, bUpd, f] at hn4 ⊢; omega
  · obtain ⟨f, -⟩ := up6 hi [] rfl
    have f : b 3 = false := f
    refine step_move rfl ⟨bUpd b 3, upd σ 28 _, rfl, ov_put .., hS.load (fun k hk => upd_ne _ _ (by omega)) (fun k hk => bUpd_ne _ (by omega)) ?_ ?_ ?_ ?_ ?_, hO6.step _ (by omega) (by omega) (by omega), ?_⟩
    · intro h; exact (upd_ne _ _ (by omega)).trans (hS.d0 h)
    · intro h; exact (upd_ne _ _ (by omega)).trans (hS.d1 h)
    · intro _; rw [upd_eq, ho 5 (by omega), e5]
    · intro h; exact (upd_ne _ _ (by omega)).trans (hS.d5 h)
    · intro h; exact (upd_ne _ _ (by omega)).trans (hS.d7 h)
    · simp [cnt6, bUpd, f] at hn4 ⊢; omega
  · obtain ⟨f, g⟩ := up6 hi [3, 2] rfl
    have f : b 4 = false := f
    have g0 : b 3 = true := g 3 (by simp)
    refine step_call rfl Tryd.func8 (by kernel_rfl) (by kernel_rfl) ?_
    simp only [List.map_toArray, List.map_cons, List.map_nil]
    rw [hd 28 _ (by omega) (hS.d3 g0)]
    refine (atom7 vn w hn (herr.on hbl)).mono ?_
    rintro e w' ⟨rfl, hb'⟩
    have hO : Own w' (.node (atOp vn) (atN vn) ByteArray.empty []) (tmCells (atOp vn) (atN vn) ByteArray.empty none 0 0) [] := by
      simp only [Own]
      exact ⟨none, 0, rfl, ⟨by simp [maxLen], by simp, by simp [maxLen]⟩, at_wf hn, by simp⟩
    refine ⟨_, rfl, bUpd b 4, _, rfl, ov_put .., hS.call 1 (by omega) (t1 ▸ hO) (by intro x hx; cases hx) hb', hO6.step _ (fun _ => ⟨g0, g 2 (by simp)⟩) (by omega) (by omega), ?_⟩
    simp [cnt6, bUpd, f] at hn4 ⊢; omega
  · obtain ⟨f, -⟩ := up6 hi [] rfl
    have f : b 5 = false := f
    refine step_load rfl ((ho 6 (by omega)).trans e6) (r6.below hbl) ⟨bUpd b 5, upd σ 30 _, rfl, ov_put .., hS.load (fun k hk => upd_ne _ _ (by omega)) (fun k hk => bUpd_ne _ (by omega)) ?_ ?_ ?_ ?_ ?_, hO6.step _ (by omega) (by omega) (by omega), ?_⟩
    · intro h; exact (upd_ne _ _ (by omega)).trans (hS.d0 h)
    · intro h; exact (upd_ne _ _ (by omega)).trans (hS.d1 h)
    · intro h; exact (upd_ne _ _ (by omega)).trans (hS.d3 h)
    · intro _; exact upd_eq ..
    · intro h; exact (upd_ne _ _ (by omega)).trans (hS.d7 h)
    · simp [cnt6, bUpd, f] at hn4 ⊢; omega
  · obtain ⟨f, g⟩ := up6 hi [5, 4] rfl
    have f : b 6 = false := f
    have g0 : b 5 = true := g 5 (by simp)
    refine step_call rfl Tryd.func26 (by kernel_rfl) (by kernel_rfl) ?_
    simp only [List.map_toArray, List.map_cons, List.map_nil]
    rw [hd 30 _ (by omega) (hS.d5 g0)]
    refine (pubI tp op3 n3 s3 a3 l3 c3 w (k3.below hbl) z3 (herr.on hbl)).mono ?_
    rintro e w' ⟨op', n', s', a', len', cap', fp, rfl, hO, ⟨-, hfp⟩, hb'⟩
    refine ⟨_, rfl, bUpd b 6, _, rfl, ov_put .., hS.call 2 (by omega) (t2 ▸ hO) hfp hb', hO6.step _ (by omega) (fun _ => ⟨g0, g 4 (by simp)⟩) (by omega), ?_⟩
    simp [cnt6, bUpd, f] at hn4 ⊢; omega
  · obtain ⟨f, -⟩ := up6 hi [] rfl
    have f : b 7 = false := f
    refine step_load rfl ((ho 7 (by omega)).trans e7) (r7.below hbl) ⟨bUpd b 7, upd σ 32 _, rfl, ov_put .., hS.load (fun k hk => upd_ne _ _ (by omega)) (fun k hk => bUpd_ne _ (by omega)) ?_ ?_ ?_ ?_ ?_, hO6.step _ (by omega) (by omega) (by omega), ?_⟩
    · intro h; exact (upd_ne _ _ (by omega)).trans (hS.d0 h)
    · intro h; exact (upd_ne _ _ (by omega)).trans (hS.d1 h)
    · intro h; exact (upd_ne _ _ (by omega)).trans (hS.d3 h)
    · intro h; exact (upd_ne _ _ (by omega)).trans (hS.d5 h)
    · intro _; exact upd_eq ..
    · simp [cnt6, bUpd, f] at hn4 ⊢; omega
  · obtain ⟨f, g⟩ := up6 hi [7, 6] rfl
    have f : b 8 = false := f
    have g0 : b 7 = true := g 7 (by simp)
    refine step_call rfl Tryd.func27 (by kernel_rfl) (by kernel_rfl) ?_
    simp only [List.map_toArray, List.map_cons, List.map_nil]
    rw [hd 32 _ (by omega) (hS.d7 g0)]
    refine (hash16 th op4 n4 s4 a4 l4 c4 w (k4.below hbl) z4 (herr.on hbl)).mono ?_
    rintro e w' ⟨op', n', s', a', len', cap', fp, rfl, hO, ⟨-, hfp⟩, hb'⟩
    refine ⟨_, rfl, bUpd b 8, _, rfl, ov_put .., hS.call 3 (by omega) (t3 ▸ hO) hfp hb', hO6.step _ (by omega) (by omega) (fun _ => ⟨g0, g 6 (by simp)⟩), ?_⟩
    simp [cnt6, bUpd, f] at hn4 ⊢; omega
  · obtain ⟨f, -⟩ := up6 hi [] rfl
    have f : b 9 = false := f
    refine step_alloc rfl ⟨bUpd b 9, _, rfl, ov_put .., hS.alloc 0 (by omega), hO6.step _ (by omega) (by omega) (by omega), ?_⟩
    simp [cnt6, bUpd, f] at hn4 ⊢; omega
  · obtain ⟨f, -⟩ := up6 hi [] rfl
    have f : b 10 = false := f
    refine step_alloc rfl ⟨bUpd b 10, _, rfl, ov_put .., hS.alloc 1 (by omega), hO6.step _ (by omega) (by omega) (by omega), ?_⟩
    simp [cnt6, bUpd, f] at hn4 ⊢; omega
  · obtain ⟨f, -⟩ := up6 hi [] rfl
    have f : b 11 = false := f
    refine step_alloc rfl ⟨bUpd b 11, _, rfl, ov_put .., hS.alloc 2 (by omega), hO6.step _ (by omega) (by omega) (by omega), ?_⟩
    simp [cnt6, bUpd, f] at hn4 ⊢; omega
  · obtain ⟨f, -⟩ := up6 hi [] rfl
    have f : b 12 = false := f
    refine step_alloc rfl ⟨bUpd b 12, _, rfl, ov_put .., hS.alloc 3 (by omega), hO6.step _ (by omega) (by omega) (by omega), ?_⟩
    simp [cnt6, bUpd, f] at hn4 ⊢; omega
  · exfalso
    obtain ⟨-, g⟩ := up6 hi [9, 2, 8, 0, 1, 2, 9, 10, 11, 12] rfl
    have g9 : b 9 = true := g 9 (by simp)
    have g10 : b 10 = true := g 10 (by simp)
    have g11 : b 11 = true := g 11 (by simp)
    have g12 : b 12 = true := g 12 (by simp)
    have g8 : b 8 = true := g 8 (by simp)
    have g0 : b 0 = true := g 0 (by simp)
    have g1 : b 1 = true := g 1 (by simp)
    have g2 : b 2 = true := g 2 (by simp)
    have g67 := hO6.2.2 g8
    have g45 := hO6.2.1 g67.2
    have g3 := hO6.1 g45.2
    apply hall
    intro i hi
    obtain rfl | rfl | rfl | rfl | rfl | rfl | rfl | rfl | rfl | rfl | rfl | rfl | rfl : i = 0 ∨ i = 1 ∨ i = 2 ∨ i = 3 ∨ i = 4 ∨ i = 5 ∨ i = 6 ∨ i = 7 ∨ i = 8 ∨ i = 9 ∨ i = 10 ∨ i = 11 ∨ i = 12 := by omega
    · exact g0
    · exact g1
    · exact g2
    · exact g3.1
    · exact g45.2
    · exact g45.1
    · exact g67.2
    · exact g67.1
    · exact g8
    · exact g9
    · exact g10
    · exact g11
    · exact g12
  · exfalso
    obtain ⟨-, g⟩ := up6 hi [10, 4, 13, 0, 1, 2, 3, 4, 9, 10, 11, 12, 13] rfl
    have g13 : false = true := g 13 (by simp)
    cases g13
  · exfalso
    obtain ⟨-, g⟩ := up6 hi [11, 6, 14, 0, 1, 2, 3, 4, 5, 6, 9, 10, 11, 12, 13, 14] rfl
    have g13 : false = true := g 14 (by simp)
    cases g13
  · exfalso
    obtain ⟨-, g⟩ := up6 hi [12, 8, 15, 0, 1, 2, 3, 4, 5, 6, 7, 8, 9, 10, 11, 12, 13, 14, 15] rfl
    have g13 : false = true := g 15 (by simp)
    cases g13

theorem ov_frame (a0 : Act) (σ : Nat → Option Value) (v8 v9 v10 v11 v25 v26 v27 v28 v29 v30 v31 v32 v33 : Value) (hoth : ∀ k, (k < 8 ∨ (11 < k ∧ k < 25) ∨ 33 < k) → σ k = none)
    (x8 : σ 8 = some v8) (x9 : σ 9 = some v9) (x10 : σ 10 = some v10) (x11 : σ 11 = some v11) (x25 : σ 25 = some v25) (x26 : σ 26 = some v26) (x27 : σ 27 = some v27) (x28 : σ 28 = some v28) (x29 : σ 29 = some v29) (x30 : σ 30 = some v30) (x31 : σ 31 = some v31) (x32 : σ 32 = some v32) (x33 : σ 33 = some v33) :
    ov a0 σ = (((((((((((((a0.put (some 8) v8).put (some 9) v9).put (some 10) v10).put (some 11) v11).put (some 25) v25).put (some 26) v26).put (some 27) v27).put (some 28) v28).put (some 29) v29).put (some 30) v30).put (some 31) v31).put (some 32) v32).put (some 33) v33) := by
  have h : σ = (upd (upd (upd (upd (upd (upd (upd (upd (upd (upd (upd (upd (upd (fun _ => none) 8 v8) 9 v9) 10 v10) 11 v11) 25 v25) 26 v26) 27 v27) 28 v28) 29 v29) 30 v30) 31 v31) 32 v32) 33 v33) := by
    funext k
    by_cases h8 : k = 8
    · subst h8; simp [upd, x8]
    by_cases h9 : k = 9
    · subst h9; simp [upd, x9]
    by_cases h10 : k = 10
    · subst h10; simp [upd, x10]
    by_cases h11 : k = 11
    · subst h11; simp [upd, x11]
    by_cases h25 : k = 25
    · subst h25; simp [upd, x25]
    by_cases h26 : k = 26
    · subst h26; simp [upd, x26]
    by_cases h27 : k = 27
    · subst h27; simp [upd, x27]
    by_cases h28 : k = 28
    · subst h28; simp [upd, x28]
    by_cases h29 : k = 29
    · subst h29; simp [upd, x29]
    by_cases h30 : k = 30
    · subst h30; simp [upd, x30]
    by_cases h31 : k = 31
    · subst h31; simp [upd, x31]
    by_cases h32 : k = 32
    · subst h32; simp [upd, x32]
    by_cases h33 : k = 33
    · subst h33; simp [upd, x33]
    rw [hoth k (by omega)]
    simp [upd, h8, h9, h10, h11, h25, h26, h27, h28, h29, h30, h31, h32, h33]
  rw [h]
  simp only [← ov_put, ov_none]

def fill (w : World) (g : Nat) (op n : Int) (s : ByteArray) (a : Option Addr) (len cap : Nat) : World :=
  (((w.setCell ⟨g, 0, none⟩ (.int .i64 op)).setCell ⟨g, 1, none⟩ (.int .i64 n)).setCell ⟨g, 2, none⟩ (.string s)).setCell ⟨g, 3, none⟩ (.slice a len cap)

theorem fill_heap {w : World} {g b : Nat} {op n : Int} {s : ByteArray} {a : Option Addr} {len cap : Nat} (h : b ≠ g) : (fill w g op n s a len cap).heap[b]? = w.heap[b]? := set4_heap w g _ _ _ _ b h

theorem Own.filled {w : World} {g : Nat} {op n : Int} {s : ByteArray} {a : Option Addr} {len cap : Nat} {t : Tm} {cs : List Value} {fp : List Nat} (h : Own w t cs fp) (hg : g ∉ fp) : Own (fill w g op n s a len cap) t cs fp :=
  Own.keep t cs fp h fun _ hb => fill_heap fun e => hg (e ▸ hb)

theorem step_store {ops : Array Oper} {Q : Exit → Act → World → Prop} {i t u : Nat} {ty : TypeId} {pos : String} {after : Array Edge} {K : Act → World → Prop} {a : Act} {w : World} {g : Nat} {op n : Int} {s : ByteArray} {ad : Option Addr} {len cap : Nat}
    (ho : ops[i]? = some { dst := none, op := .store 24 (.tmp t) (.tmp u), type := ty, pos := pos, after := after, guard := none })
    (hx : a.eval (.tmp t) = ptr g) (hy : a.eval (.tmp u) = .agg #[.int .i64 op, .int .i64 n, .string s, .slice ad len cap]) (hz : ZBox w g)
    (h : K a (fill w g op n s ad len cap)) :
    wpOp Tryd.prog ops Q i K a w := by
  refine wpOp_step ho fun K' hK => ?_
  have H := hide (hK _ _ h)
  clear h hK ho
  obtain ⟨c0, c1, c2, c3, f0, f1, f2, f3⟩ := hz.facts
  have hx' : a.tmps[t]?.getD undef = .pointer (some ⟨g, 0, none⟩) := by simpa [Act.eval] using hx
  have hy' : a.tmps[u]?.getD undef = .agg #[.int .i64 op, .int .i64 n, .string s, .slice ad len cap] := by simpa [Act.eval] using hy
  clear hx hy hz
  go_simp
  exact unhide H

def S13 : Array Bool := #[true, true, true, true, true, true, true, true, true, true, true, true, true, true, false, false, false]
def S14 : Array Bool := #[true, true, true, true, true, true, true, true, true, true, true, true, true, true, true, false, false]
def S15 : Array Bool := #[true, true, true, true, true, true, true, true, true, true, true, true, true, true, true, true, false]
def S16 : Array Bool := #[true, true, true, true, true, true, true, true, true, true, true, true, true, true, true, true, true]

theorem one_up {P : Program} {Q : Exit → Act → World → Prop} {ops : Array Oper} {l l' : Array Bool} {i m : Nat} {a : Act} {w : World} (hr : Region.ready .any ops l = [i]) (hl : l.setIfInBounds i true = l')
    (h : wpOp P ops Q i (wpAny P .any ops Q m l') a w) : wpAny P .any ops Q (m + 1) l a w :=
  wpAny_all hr (by simp) fun j hj => by
    obtain rfl : j = i := by simpa using hj
    rw [hl]
    exact h

theorem done6 {Q : Exit → Act → World → Prop} {a0 : Act} {w0 : World} (hsz : a0.tmps.size = 95) {T : Nat → Tm} {va vb vn vp vh : Value} {b : Nat → Bool} {σ : Nat → Option Value} {w : World} {m : Nat} (hall : ∀ i, i < 13 → b i = true)
    (hS : Sta w0 T va vb vn vp vh b σ w)
    (hfin : ∀ (p0 p1 p2 p3 : Nat) (op5 n5 : Int) (s5 : ByteArray) (a5 : Option Addr) (l5 k5 : Nat) (op6 n6 : Int) (s6 : ByteArray) (a6 : Option Addr) (l6 k6 : Nat) (op7 n7 : Int) (s7 : ByteArray) (a7 : Option Addr) (l7 k7 : Nat) (op8 n8 : Int) (s8 : ByteArray) (a8 : Option Addr) (l8 k8 : Nat) (y : World), RowT 24 y p0 op5 n5 s5 a5 l5 k5 → RowT 24 y p1 op6 n6 s6 a6 l6 k6 → RowT 24 y p2 op7 n7 s7 a7 l7 k7 → RowT 24 y p3 op8 n8 s8 a8 l8 k8 →
      Lies y 0 (T 0) (tmCells op5 n5 s5 a5 l5 k5) → Lies y 0 (T 1) (tmCells op6 n6 s6 a6 l6 k6) → Lies y 0 (T 2) (tmCells op7 n7 s7 a7 l7 k7) → Lies y 0 (T 3) (tmCells op8 n8 s8 a8 l8 k8) → Below w0.heap.size w0 y →
      Q .normal (((((((((((((a0.put (some 8) (ptr p0)).put (some 9) (ptr p1)).put (some 10) (ptr p2)).put (some 11) (ptr p3)).put (some 25) va).put (some 26) vb).put (some 27) (.agg #[.int .i64 op5, .int .i64 n5, .string s5, .slice a5 l5 k5])).put (some 28) vn).put (some 29) (.agg #[.int .i64 op6, .int .i64 n6, .string s6, .slice a6 l6 k6])).put (some 30) vp).put (some 31) (.agg #[.int .i64 op7, .int .i64 n7, .string s7, .slice a7 l7 k7])).put (some 32) vh).put (some 33) (.agg #[.int .i64 op8, .int .i64 n8, .string s8, .slice a8 l8 k8])) y) :
    wpAny Tryd.prog .any ops6 Q (m + 4) (L6 fun _ => true) (ov a0 σ) w := by
  obtain ⟨p0, x8⟩ := hS.box 0 (by omega) (hall 9 (by omega))
  obtain ⟨p1, x9⟩ := hS.box 1 (by omega) (hall 10 (by omega))
  obtain ⟨p2, x10⟩ := hS.box 2 (by omega) (hall 11 (by omega))
  obtain ⟨p3, x11⟩ := hS.box 3 (by omega) (hall 12 (by omega))
  obtain ⟨r0, x27⟩ := hS.res 0 (by omega) (hall 2 (by omega))
  obtain ⟨r1, x29⟩ := hS.res 1 (by omega) (hall 4 (by omega))
  obtain ⟨r2, x31⟩ := hS.res 2 (by omega) (hall 6 (by omega))
  obtain ⟨r3, x33⟩ := hS.res 3 (by omega) (hall 8 (by omega))
  obtain ⟨op5, n5, s5, a5, l5, k5, f5, rfl, O5, -, w5⟩ := hS.own 0 _ (by omega) x27
  obtain ⟨op6, n6, s6, a6, l6, k6, f6, rfl, O6, -, w6⟩ := hS.own 1 _ (by omega) x29
  obtain ⟨op7, n7, s7, a7, l7, k7, f7, rfl, O7, -, w7⟩ := hS.own 2 _ (by omega) x31
  obtain ⟨op8, n8, s8, a8, l8, k8, f8, rfl, O8, -, w8⟩ := hS.own 3 _ (by omega) x33
  have x8 : σ 8 = some (ptr p0) := x8
  have x9 : σ 9 = some (ptr p1) := x9
  have x10 : σ 10 = some (ptr p2) := x10
  have x11 : σ 11 = some (ptr p3) := x11
  have x27 : σ 27 = some (.agg #[.int .i64 op5, .int .i64 n5, .string s5, .slice a5 l5 k5]) := x27
  have x29 : σ 29 = some (.agg #[.int .i64 op6, .int .i64 n6, .string s6, .slice a6 l6 k6]) := x29
  have x31 : σ 31 = some (.agg #[.int .i64 op7, .int .i64 n7, .string s7, .slice a7 l7 k7]) := x31
  have x33 : σ 33 = some (.agg #[.int .i64 op8, .int .i64 n8, .string s8, .slice a8 l8 k8]) := x33
  have zb := fun j p hj hs => (hS.zero j p hj hs)
  have Z0 := zb 0 p0 (by omega) x8
  have Z1 := zb 1 p1 (by omega) x9
  have Z2 := zb 2 p2 (by omega) x10
  have Z3 := zb 3 p3 (by omega) x11
  have ne : ∀ j k p q, j < 4 → k < 4 → j ≠ k → σ (8 + j) = some (ptr p) → σ (8 + k) = some (ptr q) → p ≠ q := fun j k p q hj hk hjk hp hq e => hS.apart j k p hj hk hjk hp (e ▸ hq)
  have n01 := ne 0 1 p0 p1 (by omega) (by omega) (by omega) x8 x9
  have n02 := ne 0 2 p0 p2 (by omega) (by omega) (by omega) x8 x10
  have n03 := ne 0 3 p0 p3 (by omega) (by omega) (by omega) x8 x11
  have n12 := ne 1 2 p1 p2 (by omega) (by omega) (by omega) x9 x10
  have n13 := ne 1 3 p1 p3 (by omega) (by omega) (by omega) x9 x11
  have n23 := ne 2 3 p2 p3 (by omega) (by omega) (by omega) x10 x11
  have ev : ∀ (d : Nat) v, d < 95 → σ d = some v → (ov a0 σ).eval (.tmp d) = v := fun d v hd h => ov_new h (by omega)
  have hov := ov_frame a0 σ _ _ _ _ _ _ _ _ _ _ _ _ _ hS.other x8 x9 x10 x11 (hS.d0 (hall 0 (by omega))) (hS.d1 (hall 1 (by omega))) x27 (hS.d3 (hall 3 (by omega))) x29 (hS.d5 (hall 5 (by omega))) x31 (hS.d7 (hall 7 (by omega))) x33
  have Z1' : ZBox (fill w p0 op5 n5 s5 a5 l5 k5) p1 := (fill_heap (Ne.symm n01)).trans Z1.1
  have Z2' : ZBox (fill (fill w p0 op5 n5 s5 a5 l5 k5) p1 op6 n6 s6 a6 l6 k6) p2 := (fill_heap (Ne.symm n12)).trans ((fill_heap (Ne.symm n02)).trans Z2.1)
  have Z3' : ZBox (fill (fill (fill w p0 op5 n5 s5 a5 l5 k5) p1 op6 n6 s6 a6 l6 k6) p2 op7 n7 s7 a7 l7 k7) p3 := (fill_heap (Ne.symm n23)).trans ((fill_heap (Ne.symm n13)).trans ((fill_heap (Ne.symm n03)).trans Z3.1))
  have R0 : RowT 24 (fill w p0 op5 n5 s5 a5 l5 k5) p0 op5 n5 s5 a5 l5 k5 := RowT.fill (show RowT 24 w p0 0 0 ByteArray.empty none 0 0 from Z0.1) op5 n5 s5 a5 l5 k5
  have R1 : RowT 24 (fill (fill w p0 op5 n5 s5 a5 l5 k5) p1 op6 n6 s6 a6 l6 k6) p1 op6 n6 s6 a6 l6 k6 := RowT.fill (show RowT 24 _ p1 0 0 ByteArray.empty none 0 0 from Z1') op6 n6 s6 a6 l6 k6
  have R2 : RowT 24 (fill (fill (fill w p0 op5 n5 s5 a5 l5 k5) p1 op6 n6 s6 a6 l6 k6) p2 op7 n7 s7 a7 l7 k7) p2 op7 n7 s7 a7 l7 k7 := RowT.fill (show RowT 24 _ p2 0 0 ByteArray.empty none 0 0 from Z2') op7 n7 s7 a7 l7 k7
  have R3 : RowT 24 (fill (fill (fill (fill w p0 op5 n5 s5 a5 l5 k5) p1 op6 n6 s6 a6 l6 k6) p2 op7 n7 s7 a7 l7 k7) p3 op8 n8 s8 a8 l8 k8) p3 op8 n8 s8 a8 l8 k8 := RowT.fill (show RowT 24 _ p3 0 0 ByteArray.empty none 0 0 from Z3') op8 n8 s8 a8 l8 k8
  have BB : Below w0.heap.size w0 (fill (fill (fill (fill w p0 op5 n5 s5 a5 l5 k5) p1 op6 n6 s6 a6 l6 k6) p2 op7 n7 s7 a7 l7 k7) p3 op8 n8 s8 a8 l8 k8) := set4_below (set4_below (set4_below (set4_below hS.below Z0.2) Z1.2) Z2.2) Z3.2
  have OO : ∀ {t : Tm} {cs : List Value} {fp : List Nat}, Own w t cs fp → (∀ j p, j < 4 → σ (8 + j) = some (ptr p) → p ∉ fp) → Lies (fill (fill (fill (fill w p0 op5 n5 s5 a5 l5 k5) p1 op6 n6 s6 a6 l6 k6) p2 op7 n7 s7 a7 l7 k7) p3 op8 n8 s8 a8 l8 k8) 0 t cs := fun h hh =>
    ((((h.filled (hh 0 p0 (by omega) x8)).filled (hh 1 p1 (by omega) x9)).filled (hh 2 p2 (by omega) x10)).filled (hh 3 p3 (by omega) x11)).lies0
  refine one_up (l' := S13) (i := 13) (by kernel_rfl) (by kernel_rfl) ?_
  refine step_store rfl (ev 8 _ (by omega) x8) (ev 27 _ (by omega) x27) Z0.1 ?_
  refine one_up (l' := S14) (i := 14) (by kernel_rfl) (by kernel_rfl) ?_
  refine step_store rfl (ev 9 _ (by omega) x9) (ev 29 _ (by omega) x29) Z1' ?_
  refine one_up (l' := S15) (i := 15) (by kernel_rfl) (by kernel_rfl) ?_
  refine step_store rfl (ev 10 _ (by omega) x10) (ev 31 _ (by omega) x31) Z2' ?_
  refine one_up (l' := S16) (i := 16) (by kernel_rfl) (by kernel_rfl) ?_
  refine step_store rfl (ev 11 _ (by omega) x11) (ev 33 _ (by omega) x33) Z3' ?_
  refine wpAny_done (by kernel_rfl) ?_ _
  rw [hov]
  exact hfin p0 p1 p2 p3 op5 n5 s5 a5 l5 k5 op6 n6 s6 a6 l6 k6 op7 n7 s7 a7 l7 k7 op8 n8 s8 a8 l8 k8 _ ((fill_heap n03).trans ((fill_heap n02).trans ((fill_heap n01).trans R0))) ((fill_heap n13).trans ((fill_heap n12).trans R1)) ((fill_heap n23).trans R2) R3 (OO O5 w5) (OO O6 w6) (OO O7 w7) (OO O8 w8) BB

end Go.Proofs.YtagondlfhdfcgaaDoor
