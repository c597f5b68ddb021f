
/- Elements of any kind, so many cells each, one behind the other in memory: how one lies (Kd), a list of such (Ls), a copy that is half made (Mid), weights. Plain: nothing of the program is named. A block of its own whose cells are a list: loaded and stored in part or whole; a result that lies in one. Plain: nothing of the program is named. The kinds of a world: a host, a letter, a policy, a client, a server, a call, a talk, and a world of such, as plain data, and how each lies in memory. Nothing of the program is named. -/
import Derived.Test.YtbbidjckplpaiaaGreatDoorTo
import Derived.Deep.MidRow
import Derived.Test.YtbbidjckplpaiaaGreatDoorQl
import Derived.Test.YtbbidjckplpaiaaGreatDoorIn
namespace Go.Proofs.YtbbidjckplpaiaaGreatDoor
open Go.RowKit Go.Deep

/-- How an element lies: its cells, and what they lead to, in blocks from L on. -/
structure Kd (α : Type) where
  n : Nat
  at_ : World → Nat → α → List Value → Prop
  pos : 0 < n
  len : ∀ {w : World} {L : Nat} {x : α} {cs : List Value}, at_ w L x cs → cs.length = n
  one : ∀ {w : World} {L : Nat} {x : α} {cs : List Value}, at_ w L x cs → ∀ v ∈ cs, v.oneCell' = true
  carry : ∀ {w w' : World} {L L' : Nat} {x : α} {cs : List Value}, L' ≤ L → (∀ b o, L ≤ b → b < w.heap.size → w'.cell? ⟨b, o, none⟩ = w.cell? ⟨b, o, none⟩) → at_ w L x cs → at_ w' L' x cs

variable {α : Type}
theorem Kd.on (K : Kd α) {w w' : World} {L : Nat} {x : α} {cs : List Value} (h : K.at_ w L x cs) (hb : Below w.heap.size w w') : K.at_ w' L x cs :=
  K.carry (Nat.le_refl _) (fun _ _ _ hlt => hb.cell (p := ⟨_, _, none⟩) hlt) h
theorem Kd.low (K : Kd α) {w : World} {L L' : Nat} {x : α} {cs : List Value} (h : K.at_ w L x cs) (hL : L' ≤ L) : K.at_ w L' x cs := K.carry hL (fun _ _ _ _ => rfl) h
theorem Kd.all (K : Kd α) {w : World} {L : Nat} {x : α} {cs : List Value} (h : K.at_ w L x cs) : cs.toArray.all (·.oneCell') = true := all_oneCell_toArray (K.one h)
theorem Kd.arr (K : Kd α) {w : World} {L : Nat} {x : α} {cs : List Value} (h : K.at_ w L x cs) : cs.toArray.size = K.n := by simpa using K.len h

/-- The elements lie in the world, one behind the other, in blocks from L on. -/
def Kd.Ls (K : Kd α) (w : World) (L : Nat) (a : Option Addr) (P : List α) : Prop := ∀ k x, P[k]? = some x → ∃ b o cs, a = some ⟨b, o, none⟩ ∧ L ≤ b ∧ w.rangeAt b (o + k * K.n) cs ∧ K.at_ w L x cs
theorem Kd.Ls.carry {K : Kd α} {w w' : World} {L L' : Nat} {a : Option Addr} {P : List α} (h : K.Ls w L a P) (hL : L' ≤ L) (hc : ∀ b o, L ≤ b → b < w.heap.size → w'.cell? ⟨b, o, none⟩ = w.cell? ⟨b, o, none⟩) : K.Ls w' L' a P := fun k x hk => by
  obtain ⟨b, o, cs, h1, h2, h3, h4⟩ := h k x hk
  have hlt := rangeAt_lt h3 (by rw [K.len h4]; exact K.pos)
  exact ⟨b, o, cs, h1, by omega, fun j v hj => by rw [hc b _ h2 hlt]; exact h3 j v hj, K.carry hL hc h4⟩
theorem Kd.Ls.on {K : Kd α} {w w' : World} {L : Nat} {a : Option Addr} {P : List α} (h : K.Ls w L a P) (hb : Below w.heap.size w w') : K.Ls w' L a P :=
  h.carry (Nat.le_refl _) (fun _ _ _ hlt => hb.cell (p := ⟨_, _, none⟩) hlt)
theorem Kd.Ls.low {K : Kd α} {w : World} {L L' : Nat} {a : Option Addr} {P : List α} (h : K.Ls w L a P) (hL : L' ≤ L) : K.Ls w L' a P := h.carry hL (fun _ _ _ _ => rfl)
theorem Kd.Ls.nil (K : Kd α) (w : World) (L : Nat) (a : Option Addr) : K.Ls w L a [] := fun k x hk => by simp at hk
theorem Kd.Ls.get {K : Kd α} {w : World} {L : Nat} {a : Option Addr} {P : List α} (h : K.Ls w L a P) {k : Nat} {x : α} (hk : P[k]? = some x) :
    ∃ b o cs, a = some ⟨b, o, none⟩ ∧ L ≤ b ∧ b < w.heap.size ∧ w.rangeAt b (o + k * K.n) cs ∧ K.at_ w L x cs ∧ cs.length = K.n := by
  obtain ⟨b, o, cs, h1, h2, h3, h4⟩ := h k x hk
  exact ⟨b, o, cs, h1, h2, rangeAt_lt h3 (by rw [K.len h4]; exact K.pos), h3, h4, K.len h4⟩

theorem setCells_far {b : Nat} : ∀ (vs : List Value) (o : Nat) (v : World) (x : Nat), x ≠ b → (v.setCells b o vs).heap[x]? = v.heap[x]?
  | [], _, _, _, _ => rfl
  | u :: r, o, v, x, h => (setCells_far r (o + 1) _ x h).trans (Below.heap_setCell v _ u x h)
theorem setCells_hsize {b : Nat} : ∀ (vs : List Value) (o : Nat) (v : World), (v.setCells b o vs).heap.size = v.heap.size
  | [], _, _ => rfl
  | u :: r, o, v => (setCells_hsize r (o + 1) _).trans (by simp [World.setCell])
theorem below_setCells {n b : Nat} {w : World} (hb : n ≤ b) : ∀ (vs : List Value) (o : Nat) (v : World), Below n w v → Below n w (v.setCells b o vs)
  | [], _, _, h => h
  | _ :: r, o, _, h => below_setCells hb r (o + 1) _ (h.setCell hb _)
theorem cell_setCells_far {b : Nat} (vs : List Value) (o : Nat) (v : World) (b' o' : Nat) (h : b' ≠ b) : (v.setCells b o vs).cell? ⟨b', o', none⟩ = v.cell? ⟨b', o', none⟩ := World.cell?_of_block (setCells_far vs o v b' h)

/-- In the middle of a copy: k of the elements are there. -/
structure Kd.Mid (K : Kd α) (ty : TypeId) (w : World) (P : List α) (k : Nat) (wr : World) : Prop where
  below : Below w.heap.size w wr
  row : ∃ C, wr.heap[w.heap.size]? = some (.cells C ty (0, 0)) ∧ C.size = P.length * K.n
  done : ∀ j x, j < k → P[j]? = some x → ∃ cs, wr.rangeAt w.heap.size (j * K.n) cs ∧ K.at_ wr (w.heap.size + 1) x cs
theorem Kd.Mid.start (K : Kd α) (ty : TypeId) (w : World) (P : List α) (C : Array Value) (hC : C.size = P.length * K.n) : K.Mid ty w P 0 (w.alloc (.cells C ty)) :=
  ⟨(Below.refl _ _).alloc (Nat.le_refl _) _, ⟨C, heap_alloc_new w _, hC⟩, fun _ _ hj => absurd hj (Nat.not_lt_zero _)⟩
theorem Kd.Mid.lt {K : Kd α} {ty : TypeId} {w wr : World} {P : List α} {k : Nat} (h : K.Mid ty w P k wr) : w.heap.size < wr.heap.size := by
  obtain ⟨C, h1, _⟩ := h.row
  exact (Array.getElem?_eq_some_iff.1 h1).1
theorem Kd.Mid.there {K : Kd α} {ty : TypeId} {w wr w2 : World} {P : List α} {k : Nat} (h : K.Mid ty w P k wr) (hb : Below wr.heap.size wr w2) (hk : k < P.length) : w2.there w.heap.size (k * K.n) K.n := by
  obtain ⟨C, h1, h2⟩ := h.row
  have h3 : w2.heap[w.heap.size]? = some (.cells C ty (0, 0)) := (hb.block _ h.lt).trans h1
  have h4 : (k + 1) * K.n ≤ P.length * K.n := Nat.mul_le_mul_right _ hk
  rw [Nat.add_mul, Nat.one_mul] at h4
  intro j hj
  exact ⟨by rw [cell_of_row h3 (by omega)]; rfl, frozen_of_row h3⟩
theorem Kd.Mid.step {K : Kd α} {ty : TypeId} {w wr w2 : World} {P : List α} {k : Nat} {x : α} {cs : List Value} (h : K.Mid ty w P k wr) (hb : Below wr.heap.size wr w2) (hk : P[k]? = some x) (hx : K.at_ w2 wr.heap.size x cs) :
    K.Mid ty w P (k + 1) (w2.setCells w.heap.size (k * K.n) cs) := by
  have hlt := h.lt
  have hkl : k < P.length := (List.getElem?_eq_some_iff.1 hk).1
  have hth := h.there hb hkl
  have hlen := K.len hx
  obtain ⟨C, h1, h2⟩ := h.row
  have h3 : w2.heap[w.heap.size]? = some (.cells C ty (0, 0)) := (hb.block _ hlt).trans h1
  obtain ⟨C', g1, g2⟩ := setCells_row cs (k * K.n) w2 C h3
  have hfar : ∀ b o, w.heap.size + 1 ≤ b → (w2.setCells w.heap.size (k * K.n) cs).cell? ⟨b, o, none⟩ = w2.cell? ⟨b, o, none⟩ := fun b o hbb => cell_setCells_far _ _ _ _ _ (by omega)
  refine ⟨below_setCells (Nat.le_refl _) _ _ _ (h.below.trans (hb.mono (by omega))), ⟨C', g1, g2.trans h2⟩, fun j t hj ht => ?_⟩
  rcases Nat.lt_succ_iff_lt_or_eq.1 hj with hjk | rfl
  · obtain ⟨ct, r1, r2⟩ := h.done j t hjk ht
    refine ⟨ct, World.rangeAt_setCells_apart (rangeAt_below r1 hb) _ _ _ (Or.inr (Or.inl ?_)), K.carry (Nat.le_refl _) (fun b o hbb hbl => (hfar b o hbb).trans (hb.cell (p := ⟨b, o, none⟩) hbl)) r2⟩
    rw [K.len r2]
    have h4 : (j + 1) * K.n ≤ k * K.n := Nat.mul_le_mul_right _ hjk
    rw [Nat.add_mul, Nat.one_mul] at h4
    exact h4
  · rw [hk] at ht
    cases ht
    exact ⟨cs, World.rangeAt_setCells_same _ _ _ _ (by rw [hlen]; exact hth), K.carry hlt (fun b o hbb _ => hfar b o (by omega)) hx⟩
theorem Kd.Mid.ls {K : Kd α} {ty : TypeId} {w wr : World} {P : List α} (h : K.Mid ty w P P.length wr) : K.Ls wr w.heap.size (some ⟨w.heap.size, 0, none⟩) P := fun k x hk => by
  obtain ⟨cs, h1, h2⟩ := h.done k x (List.getElem?_eq_some_iff.1 hk).1 hk
  exact ⟨_, 0, cs, rfl, Nat.le_refl _, by rw [Nat.zero_add]; exact h1, K.low h2 (by omega)⟩

/-- What the elements of a list weigh together. -/
def ws (f : α → Nat) : List α → Nat
  | [] => 0
  | p :: r => f p + ws f r
theorem ws_append (f : α → Nat) (a b : List α) : ws f (a ++ b) = ws f a + ws f b := by
  induction a with
  | nil => simp [ws]
  | cons t r ih => simp only [List.cons_append, ws, ih]; omega
theorem ws_take (f : α → Nat) (l : List α) {k : Nat} {t : α} (h : l[k]? = some t) : ws f (l.take (k + 1)) = ws f (l.take k) + f t := by
  rw [List.take_add_one, h, ws_append]; simp [ws]
theorem ws_take_le (f : α → Nat) (l : List α) (k : Nat) : ws f (l.take k) ≤ ws f l := by
  have := ws_append f (l.take k) (l.drop k)
  rw [List.take_append_drop] at this
  omega
theorem ws_get (f : α → Nat) {l : List α} {k : Nat} {t : α} (h : l[k]? = some t) : f t ≤ ws f l := by
  have h1 := ws_take f l h
  have h2 := ws_take_le f l (k + 1)
  omega
theorem ws_mem (f : α → Nat) {l : List α} {t : α} (h : t ∈ l) : f t ≤ ws f l := by
  obtain ⟨k, hk⟩ := List.getElem?_of_mem h
  exact ws_get f hk
theorem below_drewG {w v : World} (h : Below w.drew.heap.size w.drew v) : Below w.heap.size w v := ((Below.refl _ _).drew).trans h
theorem abG {w : World} (x : Obj) : Below w.heap.size w (w.alloc x) := (Below.refl _ _).alloc (Nat.le_refl _) _
theorem btG {w v x : World} (h : Below w.heap.size w v) (h2 : Below v.heap.size v x) : Below w.heap.size w x := h.trans (h2.mono h.size)

variable {α : Type}

/-- The cells of block b are these. -/
def Box (w : World) (b : Nat) (ty : TypeId) (C : List Value) : Prop := w.heap[b]? = some (.cells C.toArray ty (0, 0))
theorem Box.new (w : World) (ty : TypeId) (C : List Value) : Box (w.alloc (.cells C.toArray ty)) w.heap.size ty C := heap_alloc_new w _
theorem Box.lt {w : World} {b : Nat} {ty : TypeId} {C : List Value} (h : Box w b ty C) : b < w.heap.size := (Array.getElem?_eq_some_iff.1 h).1
theorem Box.on {w w' : World} {b : Nat} {ty : TypeId} {C : List Value} (h : Box w b ty C) (hb : Below w.heap.size w w') : Box w' b ty C := (hb.block b h.lt).trans h
theorem Box.cell {w : World} {b : Nat} {ty : TypeId} {C : List Value} (h : Box w b ty C) {j : Nat} {v : Value} (hj : C[j]? = some v) : w.cell? ⟨b, j, none⟩ = some v := by
  obtain ⟨h1, h2⟩ := List.getElem?_eq_some_iff.1 hj
  rw [cell_of_row h (by simpa using h1)]
  simp [h2]
theorem Box.free {w : World} {b : Nat} {ty : TypeId} {C : List Value} (h : Box w b ty C) (j : Nat) : w.frozen? ⟨b, j, none⟩ = false := frozen_of_row h
theorem Box.range {w : World} {b : Nat} {ty : TypeId} {C : List Value} (h : Box w b ty C) (o : Nat) (cs : List Value) (hc : ∀ j v, cs[j]? = some v → C[o + j]? = some v) : w.rangeAt b o cs := fun j v hj => h.cell (hc j v hj)
theorem Box.there {w : World} {b : Nat} {ty : TypeId} {C : List Value} (h : Box w b ty C) (o n : Nat) (hn : o + n ≤ C.length) : w.there b o n := fun j hj => by
  obtain ⟨v, hv⟩ : ∃ v, C[o + j]? = some v := ⟨_, List.getElem?_eq_getElem (by omega)⟩
  exact ⟨by rw [h.cell hv]; rfl, h.free _⟩
theorem Box.set {w : World} {b : Nat} {ty : TypeId} {C : List Value} (h : Box w b ty C) (j : Nat) (v : Value) : Box (w.setCell ⟨b, j, none⟩ v) b ty (C.set j v) := by
  have h' : w.heap[b]? = some (.cells C.toArray ty (0, 0)) := h
  show (w.setCell ⟨b, j, none⟩ v).heap[b]? = _
  simp only [World.setCell, Array.getElem?_modify]
  simp [h']
theorem Box.far {w : World} {b : Nat} {ty : TypeId} {C : List Value} (h : Box w b ty C) {b' : Nat} (hn : b ≠ b') (j : Nat) (v : Value) : Box (w.setCell ⟨b', j, none⟩ v) b ty C := (Below.heap_setCell _ _ _ _ hn).trans h
theorem Box.fars {w : World} {b : Nat} {ty : TypeId} {C : List Value} (h : Box w b ty C) {b' : Nat} (hn : b ≠ b') (j : Nat) (vs : List Value) : Box (w.setCells b' j vs) b ty C := (setCells_far vs j w b hn).trans h
def puts (C : List Value) : Nat → List Value → List Value
  | _, [] => C
  | o, v :: r => puts (C.set o v) (o + 1) r
theorem Box.sets {b : Nat} {ty : TypeId} : ∀ (vs : List Value) (o : Nat) (w : World) (C : List Value), Box w b ty C → Box (w.setCells b o vs) b ty (puts C o vs)
  | [], _, _, _, h => h
  | v :: r, o, _, _, h => Box.sets r (o + 1) _ _ (h.set o v)
theorem puts_length : ∀ (vs : List Value) (o : Nat) (C : List Value), (puts C o vs).length = C.length
  | [], _, _ => rfl
  | v :: r, o, C => (puts_length r (o + 1) _).trans (by simp)
theorem puts_get : ∀ (vs : List Value) (o : Nat) (C : List Value) (j : Nat), o + vs.length ≤ C.length → (puts C o vs)[j]? = if j < o then C[j]? else if j < o + vs.length then vs[j - o]? else C[j]?
  | [], o, C, j, _ => by
    rw [puts]
    by_cases h1 : j < o
    · rw [if_pos h1]
    · rw [if_neg h1, if_neg (by simp; omega)]
  | v :: r, o, C, j, h => by
    simp only [List.length_cons] at h
    rw [puts, puts_get r (o + 1) _ j (by simp; omega)]
    by_cases h1 : j < o
    · rw [if_pos (by omega), if_pos h1, List.getElem?_set_ne (by omega)]
    · by_cases h2 : j = o
      · subst h2
        rw [if_pos (by omega), if_neg h1, if_pos (by simp), List.getElem?_set_self (by omega)]
        simp
      · rw [if_neg (by omega), if_neg h1]
        by_cases h3 : j < o + 1 + r.length
        · rw [if_pos h3, if_pos (by simp; omega), show j - o = (j - (o + 1)) + 1 by omega]
          simp
        · rw [if_neg h3, if_neg (by simp; omega), List.getElem?_set_ne (by omega)]
theorem puts_all {vs C : List Value} (h : vs.length = C.length) : puts C 0 vs = vs := by
  apply List.ext_getElem?
  intro j
  rw [puts_get vs 0 C j (by omega), if_neg (by omega)]
  by_cases hj : j < vs.length
  · rw [if_pos (by omega)]; rfl
  · rw [if_neg (by omega), List.getElem?_eq_none (by omega), List.getElem?_eq_none (by omega)]
theorem puts_mid {a vs z b : List Value} (h : vs.length = z.length) : puts (a ++ (z ++ b)) a.length vs = a ++ (vs ++ b) := by
  apply List.ext_getElem?
  intro j
  rw [puts_get vs a.length _ j (by simp; omega)]
  by_cases h1 : j < a.length
  · rw [if_pos h1, List.getElem?_append_left h1, List.getElem?_append_left h1]
  · by_cases h2 : j < a.length + vs.length
    · rw [if_neg h1, if_pos h2, List.getElem?_append (l₁ := a), if_neg h1, List.getElem?_append (l₁ := vs), if_pos (by omega)]
    · rw [if_neg h1, if_neg h2, List.getElem?_append (l₁ := a) (l₂ := z ++ b), if_neg h1, List.getElem?_append (l₁ := a) (l₂ := vs ++ b), if_neg h1, List.getElem?_append (l₁ := z), List.getElem?_append (l₁ := vs), if_neg (by omega), if_neg (by omega), h]

/-- A value of several cells is stored into a box: the new world is a letter. -/
theorem wpList_store_box {P : Program} {ops : Array Oper} {rest : List Oper} {op : Oper} {a : Act} {w : World} {Q : Exit → Act → World → Prop} (hgd : op.guard = none) {ty : TypeId} (x y : Operand) (ho : op.op = .store ty x y)
    (b o : Nat) (vs : List Value) {bt : TypeId} {C : List Value} (hB : Box w b bt C) (hn : o + vs.length ≤ C.length) (hx : a.eval x = .pointer (some ⟨b, o, none⟩)) (hy : a.eval y = .agg vs.toArray)
    (hi : (P.info? ty).map (·.size) = some vs.length) (h1 : ∀ v ∈ vs, v.oneCell' = true)
    (h : ∀ W, W = w.setCells b o vs → wpList P ops Q rest (a.put op.dst undef) W) : wpList P ops Q (op :: rest) a w :=
  wpList_store_mid hgd ty x y ho b o vs.toArray hx hy (by simpa using hB.there o vs.length hn) (by simpa using hi) (all_oneCell_toArray h1) (by simpa using h _ rfl)
/-- A box is read whole or in part. -/
theorem wpList_load_box {P : Program} {ops : Array Oper} {rest : List Oper} {op : Oper} {a : Act} {w : World} {Q : Exit → Act → World → Prop} (hgd : op.guard = none) {ty : TypeId} (x : Operand) (ho : op.op = .load ty x)
    (b o : Nat) (vs : List Value) {bt : TypeId} {C : List Value} (hB : Box w b bt C) (hc : ∀ j v, vs[j]? = some v → C[o + j]? = some v) (hx : a.eval x = .pointer (some ⟨b, o, none⟩))
    {d : TypeDesc} (hu : P.underlying ty = some d) (hd : d.isRow = true) (hi : (P.info? ty).map (·.size) = some vs.length)
    (h : wpList P ops Q rest (a.put op.dst (.agg vs.toArray)) w) : wpList P ops Q (op :: rest) a w :=
  wpList_load_mid hgd ty x ho b o hx vs d (hB.range o vs hc) hu hd hi h
/-- The result of a call lies in a box. -/
theorem results_box {P : Program} {fn : Func} {c : Tmp} {ty : TypeId} (h : fn.results = #[.cell c ty]) {tmps : Array Value} {w : World} {b : Nat} {C : List Value} (hB : Box w b ty C) (hp : tmps.getD c undef = .pointer (some ⟨b, 0, none⟩))
    {d : TypeDesc} (hu : P.underlying ty = some d) (hd : d.isRow = true) (hi : (P.info? ty).map (·.size) = some C.length) :
    (results fn tmps).run P w = .ok (.agg C.toArray) w := by
  have hp' : tmps[c]?.getD undef = .pointer (some ⟨b, 0, none⟩) := by simpa using hp
  have hl := run_loadVar_mid (P := P) w b 0 ty C d (hB.range 0 C (fun j v hj => by rw [Nat.zero_add]; exact hj)) hu hd hi
  simp [results, h, hp', hl, asAddr]
/-- What lies from L on lies there still, where a block below L is written. -/
theorem Kd.set (K : Kd α) {w : World} {L b j : Nat} {v : Value} {x : α} {cs : List Value} (h : K.at_ w L x cs) (hb : b < L) : K.at_ (w.setCell ⟨b, j, none⟩ v) L x cs := K.carry (Nat.le_refl _) (fun _ _ _ _ => cell_set_other (by omega)) h
theorem Kd.sets (K : Kd α) {w : World} {L b j : Nat} {vs : List Value} {x : α} {cs : List Value} (h : K.at_ w L x cs) (hb : b < L) : K.at_ (w.setCells b j vs) L x cs := K.carry (Nat.le_refl _) (fun _ _ _ _ => cell_setCells_far _ _ _ _ _ (by omega)) h
theorem Kd.Ls.set {K : Kd α} {w : World} {L b j : Nat} {v : Value} {a : Option Addr} {P : List α} (h : K.Ls w L a P) (hb : b < L) : K.Ls (w.setCell ⟨b, j, none⟩ v) L a P := h.carry (Nat.le_refl _) (fun _ _ _ _ => cell_set_other (by omega))
theorem Kd.Ls.sets {K : Kd α} {w : World} {L b j : Nat} {vs : List Value} {a : Option Addr} {P : List α} (h : K.Ls w L a P) (hb : b < L) : K.Ls (w.setCells b j vs) L a P := h.carry (Nat.le_refl _) (fun _ _ _ _ => cell_setCells_far _ _ _ _ _ (by omega))
theorem setG {q : Nat} {w v : World} {b j : Nat} {x : Value} (h : Below q w v) (hb : q ≤ b) : Below q w (v.setCell ⟨b, j, none⟩ x) := h.setCell hb _
theorem setsG {q : Nat} {w v : World} {b j : Nat} {vs : List Value} (h : Below q w v) (hb : q ≤ b) : Below q w (v.setCells b j vs) := below_setCells hb _ _ _ h
theorem size_setG (w : World) (p : Addr) (v : Value) : (w.setCell p v).heap.size = w.heap.size := by simp [World.setCell]

structure Ho where
  name : ByteArray
  key : Int
  lost : Bool
structure Le where
  d : ByteArray
  b : Int
  s : Int
  t : Int
  n : Int
structure Cl where
  st : Int
  h : ByteArray
  mu : Bool
  ep : Int
  bo : Int
  t : Tm
  i : Int
  o : Int
  tl : Bool
  pr : Bool
structure Sv where
  st : Int
  h : ByteArray
  ke : Int
  ep : Int
  t : Tm
  u : Tm
  i : Int
  o : Int
  tl : Bool
  l : List Int
structure Ca where
  k : Int
  c : Cl
  g : Bool
structure Ta where
  k : Int
  s : Sv
instance : Inhabited Ho := ⟨⟨⟨#[]⟩, 0, false⟩⟩
instance : Inhabited Le := ⟨⟨⟨#[]⟩, 0, 0, 0, 0⟩⟩
instance : Inhabited Pol := ⟨⟨⟨#[]⟩, 0, [], 0⟩⟩
instance : Inhabited Cl := ⟨⟨0, ⟨#[]⟩, false, 0, 0, default, 0, 0, false, false⟩⟩
instance : Inhabited Sv := ⟨⟨0, ⟨#[]⟩, 0, 0, default, default, 0, 0, false, []⟩⟩
instance : Inhabited Ca := ⟨⟨0, default, false⟩⟩
instance : Inhabited Ta := ⟨⟨0, default⟩⟩

theorem Ints.carry {w w' : World} {L L' : Nat} {a : Option Addr} {l : List Int} (hL : L' ≤ L) (hc : ∀ b o, L ≤ b → b < w.heap.size → w'.cell? ⟨b, o, none⟩ = w.cell? ⟨b, o, none⟩) (h : Ints w L a l) : Ints w' L' a l := fun k t hk => by
  obtain ⟨b, o, h1, h2, h3⟩ := h k t hk
  exact ⟨b, o, h1, by omega, by rw [hc b _ h2 (lt_of_cell h3)]; exact h3⟩
theorem Txt.carry {w w' : World} {L L' : Nat} {a : Option Addr} {l : List ByteArray} (hL : L' ≤ L) (hc : ∀ b o, L ≤ b → b < w.heap.size → w'.cell? ⟨b, o, none⟩ = w.cell? ⟨b, o, none⟩) (h : Txt w L a l) : Txt w' L' a l := fun k t hk => by
  obtain ⟨b, o, h1, h2, h3⟩ := h k t hk
  exact ⟨b, o, h1, by omega, by rw [hc b _ h2 (lt_of_cell h3)]; exact h3⟩

def hoAt (_ : World) (_ : Nat) (x : Ho) (cs : List Value) : Prop := cs = [.string x.name, .int .i64 x.key, .bool x.lost] ∧ x.name.size ≤ maxLen
def hoK : Kd Ho where
  n := 3
  at_ := hoAt
  pos := by omega
  len := by rintro w L x cs ⟨rfl, _⟩; rfl
  one := by rintro w L x cs ⟨rfl, _⟩; simp [Value.oneCell']
  carry := by rintro w w' L L' x cs _ _ h; exact h
def leAt (_ : World) (_ : Nat) (x : Le) (cs : List Value) : Prop := cs = [.string x.d, .int .i64 x.b, .int .i64 x.s, .int .i64 x.t, .int .i64 x.n] ∧ x.d.size ≤ maxLen
def leK : Kd Le where
  n := 5
  at_ := leAt
  pos := by omega
  len := by rintro w L x cs ⟨rfl, _⟩; rfl
  one := by rintro w L x cs ⟨rfl, _⟩; simp [Value.oneCell']
  carry := by rintro w w' L L' x cs _ _ h; exact h
def poAt (w : World) (L : Nat) (x : Pol) (cs : List Value) : Prop := polFit x ∧ ∃ a cap, cs = polCells x a cap ∧ Txt w L a x.l
def poK : Kd Pol where
  n := 4
  at_ := poAt
  pos := by omega
  len := by rintro w L x cs ⟨_, a, cap, rfl, _⟩; rfl
  one := by rintro w L x cs ⟨_, a, cap, rfl, _⟩; simp [polCells, Value.oneCell']
  carry := by rintro w w' L L' x cs hL hc ⟨h1, a, cap, rfl, h2⟩; exact ⟨h1, a, cap, rfl, h2.carry hL hc⟩
def tmK : Kd Tm where
  n := 4
  at_ := Lies
  pos := by omega
  len := fun h => h.length
  one := by
    intro w L x cs h
    obtain ⟨op, n, s, a, len, cap, rfl⟩ := h.cells
    simp [tmCells, Value.oneCell']
  carry := fun hL hc h => Lies.carry hL hc _ _ h
theorem tmK_all {w : World} {L : Nat} {a : Option Addr} {P : List Tm} (h : tmK.Ls w L a P) : LiesAll w L a 0 P := LiesAll.mk fun k t hk => by
  obtain ⟨b, o, cs, h1, h2, h3, h4⟩ := h k t hk
  exact ⟨b, o, cs, h1, h2, by rw [Nat.zero_add]; exact h3, h4⟩
theorem tmK_of {w : World} {L : Nat} {a : Option Addr} {P : List Tm} (h : LiesAll w L a 0 P) : tmK.Ls w L a P := fun k t hk => by
  obtain ⟨b, o, cs, h1, h2, h3, h4⟩ := h.get hk
  exact ⟨b, o, cs, h1, h2, by rw [Nat.zero_add] at h3; exact h3, h4⟩
theorem poK_pols {w : World} {L : Nat} {a : Option Addr} {P : List Pol} (h : poK.Ls w L a P) : Pols w L a P := fun k p hk => by
  obtain ⟨b, o, cs, h1, h2, h3, _, x, cap, rfl, h5⟩ := h k p hk
  exact ⟨b, o, x, cap, h1, h2, h3, h5⟩
theorem poK_fit {w : World} {L : Nat} {a : Option Addr} {P : List Pol} (h : poK.Ls w L a P) : ∀ p ∈ P, polFit p := fun p hp => by
  obtain ⟨k, hk⟩ := List.getElem?_of_mem hp
  obtain ⟨b, o, cs, _, _, _, h4, _⟩ := h k p hk
  exact h4
def clAt (w : World) (L : Nat) (x : Cl) (cs : List Value) : Prop := x.h.size ≤ maxLen ∧ ∃ op n s a len cap, cs = [.int .i64 x.st, .string x.h, .bool x.mu, .int .i64 x.ep, .int .i64 x.bo, .int .i64 op, .int .i64 n, .string s, .slice a len cap, .int .i64 x.i, .int .i64 x.o, .bool x.tl, .bool x.pr] ∧ Lies w L x.t (tmCells op n s a len cap)
def clK : Kd Cl where
  n := 13
  at_ := clAt
  pos := by omega
  len := by rintro w L x cs ⟨_, op, n, s, a, len, cap, rfl, _⟩; rfl
  one := by rintro w L x cs ⟨_, op, n, s, a, len, cap, rfl, _⟩; simp [Value.oneCell']
  carry := by rintro w w' L L' x cs hL hc ⟨h1, op, n, s, a, len, cap, rfl, h2⟩; exact ⟨h1, op, n, s, a, len, cap, rfl, Lies.carry hL hc _ _ h2⟩
def svAt (w : World) (L : Nat) (x : Sv) (cs : List Value) : Prop := x.h.size ≤ maxLen ∧ x.l.length ≤ maxLen ∧ ∃ op n s a len cap oq m r c lem cat g gc, cs = [.int .i64 x.st, .string x.h, .int .i64 x.ke, .int .i64 x.ep, .int .i64 op, .int .i64 n, .string s, .slice a len cap, .int .i64 oq, .int .i64 m, .string r, .slice c lem cat, .int .i64 x.i, .int .i64 x.o, .bool x.tl, .slice g x.l.length gc] ∧ Lies w L x.t (tmCells op n s a len cap) ∧ Lies w L x.u (tmCells oq m r c lem cat) ∧ Ints w L g x.l
def svK : Kd Sv where
  n := 16
  at_ := svAt
  pos := by omega
  len := by rintro w L x cs ⟨_, _, op, n, s, a, len, cap, oq, m, r, c, lem, cat, g, gc, rfl, _⟩; rfl
  one := by rintro w L x cs ⟨_, _, op, n, s, a, len, cap, oq, m, r, c, lem, cat, g, gc, rfl, _⟩; simp [Value.oneCell']
  carry := by
    rintro w w' L L' x cs hL hc ⟨h1, h2, op, n, s, a, len, cap, oq, m, r, c, lem, cat, g, gc, rfl, h3, h4, h5⟩
    exact ⟨h1, h2, op, n, s, a, len, cap, oq, m, r, c, lem, cat, g, gc, rfl, Lies.carry hL hc _ _ h3, Lies.carry hL hc _ _ h4, h5.carry hL hc⟩
def caAt (w : World) (L : Nat) (x : Ca) (cs : List Value) : Prop := ∃ cc, cs = .int .i64 x.k :: (cc ++ [.bool x.g]) ∧ clAt w L x.c cc
def caK : Kd Ca where
  n := 15
  at_ := caAt
  pos := by omega
  len := by rintro w L x cs ⟨cc, rfl, h⟩; have := clK.len h; simp only [List.length_cons, List.length_append, this, List.length_nil]; rfl
  one := by
    rintro w L x cs ⟨cc, rfl, h⟩ v hv
    have := clK.one h
    simp only [List.mem_cons, List.mem_append, List.not_mem_nil, or_false] at hv
    rcases hv with rfl | hv | rfl
    · rfl
    · exact this v hv
    · rfl
  carry := by rintro w w' L L' x cs hL hc ⟨cc, rfl, h⟩; exact ⟨cc, rfl, clK.carry hL hc h⟩
def taAt (w : World) (L : Nat) (x : Ta) (cs : List Value) : Prop := ∃ cc, cs = .int .i64 x.k :: cc ∧ svAt w L x.s cc
def taK : Kd Ta where
  n := 17
  at_ := taAt
  pos := by omega
  len := by rintro w L x cs ⟨cc, rfl, h⟩; have := svK.len h; simp only [List.length_cons, this]; rfl
  one := by
    rintro w L x cs ⟨cc, rfl, h⟩ v hv
    have := svK.one h
    simp only [List.mem_cons] at hv
    rcases hv with rfl | hv
    · rfl
    · exact this v hv
  carry := by rintro w w' L L' x cs hL hc ⟨cc, rfl, h⟩; exact ⟨cc, rfl, svK.carry hL hc h⟩
def clw (x : Cl) : Nat := x.h.size + x.t.wt
def svw (x : Sv) : Nat := x.h.size + (x.t.wt + (x.u.wt + x.l.length))

/-- A world as plain data. -/
structure Wd where
  time : Int
  fresh : Int
  known : List Tm
  cache : List Pol
  hosts : List Ho
  letters : List Le
  book : ByteArray
  sure : Int
  calls : List Ca
  talks : List Ta
  told : List Int

end Go.Proofs.YtbbidjckplpaiaaGreatDoor
