/- Elements of any kind, so many cells each, one behind the other in memory: how one lies (Kd), a list of such (Ls), a copy that is half made (Mid), weights. Plain: nothing of the program is named. -/
import Derived.Test.YtepmgjklonhkgaaTo
namespace Go.Proofs.Ytepmgjklonhkgaa
open Go.RowKit Go.Deep

/-- How an element lies: its cells, and what they lead to, in blocks from L on. -/
structure Kd (α : Type) where
  n : Nat
  at_ : World → Nat → α → List Value → Prop
  pos : 0 < n
  len : ∀ {w : World} {L : Nat} {x : α} {cs : List Value}, at_ w L x cs → cs.length = n
  one : ∀ {w : World} {L : Nat} {x : α} {cs : List Value}, at_ w L x cs → ∀ v ∈ cs, v.oneCell' = true
  carry : ∀ {w w' : World} {L L' : Nat} {x : α} {cs : List Value}, L' ≤ L → (∀ b o, L ≤ b → b < w.heap.size → w'.cell? ⟨b, o, none⟩ = w.cell? ⟨b, o, none⟩) → at_ w L x cs → at_ w' L' x cs

variable {α : Type}
theorem Kd.on (K : Kd α) {w w' : World} {L : Nat} {x : α} {cs : List Value} (h : K.at_ w L x cs) (hb : Below w.heap.size w w') : K.at_ w' L x cs :=
  K.carry (Nat.le_refl _) (fun _ _ _ hlt => hb.cell (p := ⟨_, _, none⟩) hlt) h
theorem Kd.low (K : Kd α) {w : World} {L L' : Nat} {x : α} {cs : List Value} (h : K.at_ w L x cs) (hL : L' ≤ L) : K.at_ w L' x cs := K.carry hL (fun _ _ _ _ => rfl) h
theorem Kd.all (K : Kd α) {w : World} {L : Nat} {x : α} {cs : List Value} (h : K.at_ w L x cs) : cs.toArray.all (·.oneCell') = true := all_oneCell_toArray (K.one h)
theorem Kd.arr (K : Kd α) {w : World} {L : Nat} {x : α} {cs : List Value} (h : K.at_ w L x cs) : cs.toArray.size = K.n := by simpa using K.len h

/-- The elements lie in the world, one behind the other, in blocks from L on. -/
def Kd.Ls (K : Kd α) (w : World) (L : Nat) (a : Option Addr) (P : List α) : Prop := ∀ k x, P[k]? = some x → ∃ b o cs, a = some ⟨b, o, none⟩ ∧ L ≤ b ∧ w.rangeAt b (o + k * K.n) cs ∧ K.at_ w L x cs
theorem Kd.Ls.carry {K : Kd α} {w w' : World} {L L' : Nat} {a : Option Addr} {P : List α} (h : K.Ls w L a P) (hL : L' ≤ L) (hc : ∀ b o, L ≤ b → b < w.heap.size → w'.cell? ⟨b, o, none⟩ = w.cell? ⟨b, o, none⟩) : K.Ls w' L' a P := fun k x hk => by
  obtain ⟨b, o, cs, h1, h2, h3, h4⟩ := h k x hk
  have hlt := rangeAt_lt h3 (by rw [K.len h4]; exact K.pos)
  exact ⟨b, o, cs, h1, by omega, fun j v hj => by rw [hc b _ h2 hlt]; exact h3 j v hj, K.carry hL hc h4⟩
theorem Kd.Ls.on {K : Kd α} {w w' : World} {L : Nat} {a : Option Addr} {P : List α} (h : K.Ls w L a P) (hb : Below w.heap.size w w') : K.Ls w' L a P :=
  h.carry (Nat.le_refl _) (fun _ _ _ hlt => hb.cell (p := ⟨_, _, none⟩) hlt)
theorem Kd.Ls.low {K : Kd α} {w : World} {L L' : Nat} {a : Option Addr} {P : List α} (h : K.Ls w L a P) (hL : L' ≤ L) : K.Ls w L' a P := h.carry hL (fun _ _ _ _ => rfl)
theorem Kd.Ls.nil (K : Kd α) (w : World) (L : Nat) (a : Option Addr) : K.Ls w L a [] := fun k x hk => by simp at hk
theorem Kd.Ls.get {K : Kd α} {w : World} {L : Nat} {a : Option Addr} {P : List α} (h : K.Ls w L a P) {k : Nat} {x : α} (hk : P[k]? = some x) :
    ∃ b o cs, a = some ⟨b, o, none⟩ ∧ L ≤ b ∧ b < w.heap.size ∧ w.rangeAt b (o + k * K.n) cs ∧ K.at_ w L x cs ∧ cs.length = K.n := by
  obtain ⟨b, o, cs, h1, h2, h3, h4⟩ := h k x hk
  exact ⟨b, o, cs, h1, h2, rangeAt_lt h3 (by rw [K.len h4]; exact K.pos), h3, h4, K.len h4⟩

theorem setCells_far {b : Nat} : ∀ (vs : List Value) (o : Nat) (v : World) (x : Nat), x ≠ b → (v.setCells b o vs).heap[x]? = v.heap[x]?
  | [], _, _, _, _ => rfl
  | u :: r, o, v, x, h => (setCells_far r (o + 1) _ x h).trans (Below.heap_setCell v _ u x h)
theorem setCells_hsize {b : Nat} : ∀ (vs : List Value) (o : Nat) (v : World), (v.setCells b o vs).heap.size = v.heap.size
  | [], _, _ => rfl
  | u :: r, o, v => (setCells_hsize r (o + 1) _).trans (by simp [World.setCell])
theorem below_setCells {n b : Nat} {w : World} (hb : n ≤ b) : ∀ (vs : List Value) (o : Nat) (v : World), Below n w v → Below n w (v.setCells b o vs)
  | [], _, _, h => h
  | _ :: r, o, _, h => below_setCells hb r (o + 1) _ (h.setCell hb _)
theorem cell_setCells_far {b : Nat} (vs : List Value) (o : Nat) (v : World) (b' o' : Nat) (h : b' ≠ b) : (v.setCells b o vs).cell? ⟨b', o', none⟩ = v.cell? ⟨b', o', none⟩ := World.cell?_of_block (setCells_far vs o v b' h)

/-- In the middle of a copy: k of the elements are there. -/
structure Kd.Mid (K : Kd α) (ty : TypeId) (w : World) (P : List α) (k : Nat) (wr : World) : Prop where
  below : Below w.heap.size w wr
  row : ∃ C, wr.heap[w.heap.size]? = some (.cells C ty (0, 0)) ∧ C.size = P.length * K.n
  done : ∀ j x, j < k → P[j]? = some x → ∃ cs, wr.rangeAt w.heap.size (j * K.n) cs ∧ K.at_ wr (w.heap.size + 1) x cs
theorem Kd.Mid.start (K : Kd α) (ty : TypeId) (w : World) (P : List α) (C : Array Value) (hC : C.size = P.length * K.n) : K.Mid ty w P 0 (w.alloc (.cells C ty)) :=
  ⟨(Below.refl _ _).alloc (Nat.le_refl _) _, ⟨C, heap_alloc_new w _, hC⟩, fun _ _ hj => absurd hj (Nat.not_lt_zero _)⟩
theorem Kd.Mid.lt {K : Kd α} {ty : TypeId} {w wr : World} {P : List α} {k : Nat} (h : K.Mid ty w P k wr) : w.heap.size < wr.heap.size := by
  obtain ⟨C, h1, _⟩ := h.row
  exact (Array.getElem?_eq_some_iff.1 h1).1
theorem Kd.Mid.there {K : Kd α} {ty : TypeId} {w wr w2 : World} {P : List α} {k : Nat} (h : K.Mid ty w P k wr) (hb : Below wr.heap.size wr w2) (hk : k < P.length) : w2.there w.heap.size (k * K.n) K.n := by
  obtain ⟨C, h1, h2⟩ := h.row
  have h3 : w2.heap[w.heap.size]? = some (.cells C ty (0, 0)) := (hb.block _ h.lt).trans h1
  have h4 : (k + 1) * K.n ≤ P.length * K.n := Nat.mul_le_mul_right _ hk
  rw [Nat.add_mul, Nat.one_mul] at h4
  intro j hj
  exact ⟨by rw [cell_of_row h3 (by omega)]; rfl, frozen_of_row h3⟩
theorem Kd.Mid.step {K : Kd α} {ty : TypeId} {w wr w2 : World} {P : List α} {k : Nat} {x : α} {cs : List Value} (h : K.Mid ty w P k wr) (hb : Below wr.heap.size wr w2) (hk : P[k]? = some x) (hx : K.at_ w2 wr.heap.size x cs) :
    K.Mid ty w P (k + 1) (w2.setCells w.heap.size (k * K.n) cs) := by
  have hlt := h.lt
  have hkl : k < P.length := (List.getElem?_eq_some_iff.1 hk).1
  have hth := h.there hb hkl
  have hlen := K.len hx
  obtain ⟨C, h1, h2⟩ := h.row
  have h3 : w2.heap[w.heap.size]? = some (.cells C ty (0, 0)) := (hb.block _ hlt).trans h1
  obtain ⟨C', g1, g2⟩ := setCells_row cs (k * K.n) w2 C h3
  have hfar : ∀ b o, w.heap.size + 1 ≤ b → (w2.setCells w.heap.size (k * K.n) cs).cell? ⟨b, o, none⟩ = w2.cell? ⟨b, o, none⟩ := fun b o hbb => cell_setCells_far _ _ _ _ _ (by omega)
  refine ⟨below_setCells (Nat.le_refl _) _ _ _ (h.below.trans (hb.mono (by omega))), ⟨C', g1, g2.trans h2⟩, fun j t hj ht => ?_⟩
  rcases Nat.lt_succ_iff_lt_or_eq.1 hj with hjk | rfl
  · obtain ⟨ct, r1, r2⟩ := h.done j t hjk ht
    refine ⟨ct, World.rangeAt_setCells_apart (rangeAt_below r1 hb) _ _ _ (Or.inr (Or.inl ?_)), K.carry (Nat.le_refl _) (fun b o hbb hbl => (hfar b o hbb).trans (hb.cell (p := ⟨b, o, none⟩) hbl)) r2⟩
    rw [K.len r2]
    have h4 : (j + 1) * K.n ≤ k * K.n := Nat.mul_le_mul_right _ hjk
    rw [Nat.add_mul, Nat.one_mul] at h4
    exact h4
  · rw [hk] at ht
    cases ht
    exact ⟨cs, World.rangeAt_setCells_same _ _ _ _ (by rw [hlen]; exact hth), K.carry hlt (fun b o hbb _ => hfar b o (by omega)) hx⟩
theorem Kd.Mid.ls {K : Kd α} {ty : TypeId} {w wr : World} {P : List α} (h : K.Mid ty w P P.length wr) : K.Ls wr w.heap.size (some ⟨w.heap.size, 0, none⟩) P := fun k x hk => by
  obtain ⟨cs, h1, h2⟩ := h.done k x (List.getElem?_eq_some_iff.1 hk).1 hk
  exact ⟨_, 0, cs, rfl, Nat.le_refl _, by rw [Nat.zero_add]; exact h1, K.low h2 (by omega)⟩

/-- What the elements of a list weigh together. -/
def ws (f : α → Nat) : List α → Nat
  | [] => 0
  | p :: r => f p + ws f r
theorem ws_append (f : α → Nat) (a b : List α) : ws f (a ++ b) = ws f a + ws f b := by
  induction a with
  | nil => simp [ws]
  | cons t r ih => simp only [List.cons_append, ws, ih]; omega
theorem ws_take (f : α → Nat) (l : List α) {k : Nat} {t : α} (h : l[k]? = some t) : ws f (l.take (k + 1)) = ws f (l.take k) + f t := by
  rw [List.take_add_one, h, ws_append]; simp [ws]
theorem ws_take_le (f : α → Nat) (l : List α) (k : Nat) : ws f (l.take k) ≤ ws f l := by
  have := ws_append f (l.take k) (l.drop k)
  rw [List.take_append_drop] at this
  omega
theorem ws_get (f : α → Nat) {l : List α} {k : Nat} {t : α} (h : l[k]? = some t) : f t ≤ ws f l := by
  have h1 := ws_take f l h
  have h2 := ws_take_le f l (k + 1)
  omega
theorem ws_mem (f : α → Nat) {l : List α} {t : α} (h : t ∈ l) : f t ≤ ws f l := by
  obtain ⟨k, hk⟩ := List.getElem?_of_mem h
  exact ws_get f hk
theorem below_drewG {w v : World} (h : Below w.drew.heap.size w.drew v) : Below w.heap.size w v := ((Below.refl _ _).drew).trans h
theorem abG {w : World} (x : Obj) : Below w.heap.size w (w.alloc x) := (Below.refl _ _).alloc (Nat.le_refl _) _
theorem btG {w v x : World} (h : Below w.heap.size w v) (h2 : Below v.heap.size v x) : Below w.heap.size w x := h.trans (h2.mono h.size)

end Go.Proofs.Ytepmgjklonhkgaa
