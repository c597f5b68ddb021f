/- A block of its own whose cells are a list: loaded and stored in part or whole; a result that lies in one. Plain: nothing of the program is named. -/
import Derived.Test.YtepmgjklonhkgaaGe
import Derived.Deep.MidRow
namespace Go.Proofs.Ytepmgjklonhkgaa
open Go.RowKit Go.Deep
variable {α : Type}

/-- The cells of block b are these. -/
def Box (w : World) (b : Nat) (ty : TypeId) (C : List Value) : Prop := w.heap[b]? = some (.cells C.toArray ty (0, 0))
theorem Box.new (w : World) (ty : TypeId) (C : List Value) : Box (w.alloc (.cells C.toArray ty)) w.heap.size ty C := heap_alloc_new w _
theorem Box.lt {w : World} {b : Nat} {ty : TypeId} {C : List Value} (h : Box w b ty C) : b < w.heap.size := (Array.getElem?_eq_some_iff.1 h).1
theorem Box.on {w w' : World} {b : Nat} {ty : TypeId} {C : List Value} (h : Box w b ty C) (hb : Below w.heap.size w w') : Box w' b ty C := (hb.block b h.lt).trans h
theorem Box.cell {w : World} {b : Nat} {ty : TypeId} {C : List Value} (h : Box w b ty C) {j : Nat} {v : Value} (hj : C[j]? = some v) : w.cell? ⟨b, j, none⟩ = some v := by
  obtain ⟨h1, h2⟩ := List.getElem?_eq_some_iff.1 hj
  rw [cell_of_row h (by simpa using h1)]
  simp [h2]
theorem Box.free {w : World} {b : Nat} {ty : TypeId} {C : List Value} (h : Box w b ty C) (j : Nat) : w.frozen? ⟨b, j, none⟩ = false := frozen_of_row h
theorem Box.range {w : World} {b : Nat} {ty : TypeId} {C : List Value} (h : Box w b ty C) (o : Nat) (cs : List Value) (hc : ∀ j v, cs[j]? = some v → C[o + j]? = some v) : w.rangeAt b o cs := fun j v hj => h.cell (hc j v hj)
theorem Box.there {w : World} {b : Nat} {ty : TypeId} {C : List Value} (h : Box w b ty C) (o n : Nat) (hn : o + n ≤ C.length) : w.there b o n := fun j hj => by
  obtain ⟨v, hv⟩ : ∃ v, C[o + j]? = some v := ⟨_, List.getElem?_eq_getElem (by omega)⟩
  exact ⟨by rw [h.cell hv]; rfl, h.free _⟩
theorem Box.set {w : World} {b : Nat} {ty : TypeId} {C : List Value} (h : Box w b ty C) (j : Nat) (v : Value) : Box (w.setCell ⟨b, j, none⟩ v) b ty (C.set j v) := by
  have h' : w.heap[b]? = some (.cells C.toArray ty (0, 0)) := h
  show (w.setCell ⟨b, j, none⟩ v).heap[b]? = _
  simp only [World.setCell, Array.getElem?_modify]
  simp [h']
theorem Box.far {w : World} {b : Nat} {ty : TypeId} {C : List Value} (h : Box w b ty C) {b' : Nat} (hn : b ≠ b') (j : Nat) (v : Value) : Box (w.setCell ⟨b', j, none⟩ v) b ty C := (Below.heap_setCell _ _ _ _ hn).trans h
theorem Box.fars {w : World} {b : Nat} {ty : TypeId} {C : List Value} (h : Box w b ty C) {b' : Nat} (hn : b ≠ b') (j : Nat) (vs : List Value) : Box (w.setCells b' j vs) b ty C := (setCells_far vs j w b hn).trans h
def puts (C : List Value) : Nat → List Value → List Value
  | _, [] => C
  | o, v :: r => puts (C.set o v) (o + 1) r
theorem Box.sets {b : Nat} {ty : TypeId} : ∀ (vs : List Value) (o : Nat) (w : World) (C : List Value), Box w b ty C → Box (w.setCells b o vs) b ty (puts C o vs)
  | [], _, _, _, h => h
  | v :: r, o, _, _, h => Box.sets r (o + 1) _ _ (h.set o v)
theorem puts_length : ∀ (vs : List Value) (o : Nat) (C : List Value), (puts C o vs).length = C.length
  | [], _, _ => rfl
  | v :: r, o, C => (puts_length r (o + 1) _).trans (by simp)
theorem puts_get : ∀ (vs : List Value) (o : Nat) (C : List Value) (j : Nat), o + vs.length ≤ C.length → (puts C o vs)[j]? = if j < o then C[j]? else if j < o + vs.length then vs[j - o]? else C[j]?
  | [], o, C, j, _ => by
    rw [puts]
    by_cases h1 : j < o
    · rw [if_pos h1]
    · rw [if_neg h1, if_neg (by simp; omega)]
  | v :: r, o, C, j, h => by
    simp only [List.length_cons] at h
    rw [puts, puts_get r (o + 1) _ j (by simp; omega)]
    by_cases h1 : j < o
    · rw [if_pos (by omega), if_pos h1, List.getElem?_set_ne (by omega)]
    · by_cases h2 : j = o
      · subst h2
        rw [if_pos (by omega), if_neg h1, if_pos (by simp), List.getElem?_set_self (by omega)]
        simp
      · rw [if_neg (by omega), if_neg h1]
        by_cases h3 : j < o + 1 + r.length
        · rw [if_pos h3, if_pos (by simp; omega), show j - o = (j - (o + 1)) + 1 by omega]
          simp
        · rw [if_neg h3, if_neg (by simp; omega), List.getElem?_set_ne (by omega)]
theorem puts_all {vs C : List Value} (h : vs.length = C.length) : puts C 0 vs = vs := by
  apply List.ext_getElem?
  intro j
  rw [puts_get vs 0 C j (by omega), if_neg (by omega)]
  by_cases hj : j < vs.length
  · rw [if_pos (by omega)]; rfl
  · rw [if_neg (by omega), List.getElem?_eq_none (by omega), List.getElem?_eq_none (by omega)]
theorem puts_mid {a vs z b : List Value} (h : vs.length = z.length) : puts (a ++ (z ++ b)) a.length vs = a ++ (vs ++ b) := by
  apply List.ext_getElem?
  intro j
  rw [puts_get vs a.length _ j (by simp; omega)]
  by_cases h1 : j < a.length
  · rw [if_pos h1, List.getElem?_append_left h1, List.getElem?_append_left h1]
  · by_cases h2 : j < a.length + vs.length
    · rw [if_neg h1, if_pos h2, List.getElem?_append (l₁ := a), if_neg h1, List.getElem?_append (l₁ := vs), if_pos (by omega)]
    · rw [if_neg h1, if_neg h2, List.getElem?_append (l₁ := a) (l₂ := z ++ b), if_neg h1, List.getElem?_append (l₁ := a) (l₂ := vs ++ b), if_neg h1, List.getElem?_append (l₁ := z), List.getElem?_append (l₁ := vs), if_neg (by omega), if_neg (by omega), h]

/-- A value of several cells is stored into a box: the new world is a letter. -/
theorem wpList_store_box {P : Program} {ops : Array Oper} {rest : List Oper} {op : Oper} {a : Act} {w : World} {Q : Exit → Act → World → Prop} (hgd : op.guard = none) {ty : TypeId} (x y : Operand) (ho : op.op = .store ty x y)
    (b o : Nat) (vs : List Value) {bt : TypeId} {C : List Value} (hB : Box w b bt C) (hn : o + vs.length ≤ C.length) (hx : a.eval x = .pointer (some ⟨b, o, none⟩)) (hy : a.eval y = .agg vs.toArray)
    (hi : (P.info? ty).map (·.size) = some vs.length) (h1 : ∀ v ∈ vs, v.oneCell' = true)
    (h : ∀ W, W = w.setCells b o vs → wpList P ops Q rest (a.put op.dst undef) W) : wpList P ops Q (op :: rest) a w :=
  wpList_store_mid hgd ty x y ho b o vs.toArray hx hy (by simpa using hB.there o vs.length hn) (by simpa using hi) (all_oneCell_toArray h1) (by simpa using h _ rfl)
/-- A box is read whole or in part. -/
theorem wpList_load_box {P : Program} {ops : Array Oper} {rest : List Oper} {op : Oper} {a : Act} {w : World} {Q : Exit → Act → World → Prop} (hgd : op.guard = none) {ty : TypeId} (x : Operand) (ho : op.op = .load ty x)
    (b o : Nat) (vs : List Value) {bt : TypeId} {C : List Value} (hB : Box w b bt C) (hc : ∀ j v, vs[j]? = some v → C[o + j]? = some v) (hx : a.eval x = .pointer (some ⟨b, o, none⟩))
    {d : TypeDesc} (hu : P.underlying ty = some d) (hd : d.isRow = true) (hi : (P.info? ty).map (·.size) = some vs.length)
    (h : wpList P ops Q rest (a.put op.dst (.agg vs.toArray)) w) : wpList P ops Q (op :: rest) a w :=
  wpList_load_mid hgd ty x ho b o hx vs d (hB.range o vs hc) hu hd hi h
/-- The result of a call lies in a box. -/
theorem results_box {P : Program} {fn : Func} {c : Tmp} {ty : TypeId} (h : fn.results = #[.cell c ty]) {tmps : Array Value} {w : World} {b : Nat} {C : List Value} (hB : Box w b ty C) (hp : tmps.getD c undef = .pointer (some ⟨b, 0, none⟩))
    {d : TypeDesc} (hu : P.underlying ty = some d) (hd : d.isRow = true) (hi : (P.info? ty).map (·.size) = some C.length) :
    (results fn tmps).run P w = .ok (.agg C.toArray) w := by
  have hp' : tmps[c]?.getD undef = .pointer (some ⟨b, 0, none⟩) := by simpa using hp
  have hl := run_loadVar_mid (P := P) w b 0 ty C d (hB.range 0 C (fun j v hj => by rw [Nat.zero_add]; exact hj)) hu hd hi
  simp [results, h, hp', hl, asAddr]
/-- What lies from L on lies there still, where a block below L is written. -/
theorem Kd.set (K : Kd α) {w : World} {L b j : Nat} {v : Value} {x : α} {cs : List Value} (h : K.at_ w L x cs) (hb : b < L) : K.at_ (w.setCell ⟨b, j, none⟩ v) L x cs := K.carry (Nat.le_refl _) (fun _ _ _ _ => cell_set_other (by omega)) h
theorem Kd.sets (K : Kd α) {w : World} {L b j : Nat} {vs : List Value} {x : α} {cs : List Value} (h : K.at_ w L x cs) (hb : b < L) : K.at_ (w.setCells b j vs) L x cs := K.carry (Nat.le_refl _) (fun _ _ _ _ => cell_setCells_far _ _ _ _ _ (by omega)) h
theorem Kd.Ls.set {K : Kd α} {w : World} {L b j : Nat} {v : Value} {a : Option Addr} {P : List α} (h : K.Ls w L a P) (hb : b < L) : K.Ls (w.setCell ⟨b, j, none⟩ v) L a P := h.carry (Nat.le_refl _) (fun _ _ _ _ => cell_set_other (by omega))
theorem Kd.Ls.sets {K : Kd α} {w : World} {L b j : Nat} {vs : List Value} {a : Option Addr} {P : List α} (h : K.Ls w L a P) (hb : b < L) : K.Ls (w.setCells b j vs) L a P := h.carry (Nat.le_refl _) (fun _ _ _ _ => cell_setCells_far _ _ _ _ _ (by omega))
theorem setG {q : Nat} {w v : World} {b j : Nat} {x : Value} (h : Below q w v) (hb : q ≤ b) : Below q w (v.setCell ⟨b, j, none⟩ x) := h.setCell hb _
theorem setsG {q : Nat} {w v : World} {b j : Nat} {vs : List Value} (h : Below q w v) (hb : q ≤ b) : Below q w (v.setCells b j vs) := below_setCells hb _ _ _ h
theorem size_setG (w : World) (p : Addr) (v : Value) : (w.setCell p v).heap.size = w.heap.size := by simp [World.setCell]

end Go.Proofs.Ytepmgjklonhkgaa
