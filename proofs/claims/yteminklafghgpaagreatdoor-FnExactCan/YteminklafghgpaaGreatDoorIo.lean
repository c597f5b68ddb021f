
/- Facts in a row of the call's own, and the row sorted by place: slices.SortFunc with the function literal of inOrder. -/
import Derived.Test.YteminklafghgpaaGreatDoorFb
import Derived.Test.YteminklafghgpaaGreatDoorShelf
import Derived.Test.YteminklafghgpaaGreatDoorShelg
import Derived.Shelf.SlSortCmp.NoneTotal
import Derived.Deep.DeepAppendWide
namespace Go.Proofs.YteminklafghgpaaGreatDoor
open Go.RowKit Go.Deep Go.Maps Go.MapKept Go.Shelf Go.Sort

def fcells (p : Nat × Fc) : List Value := [.string ⟨(exT p.2.t).toArray⟩, .int .i64 p.2.op, .int .i64 p.2.n, .string p.2.s, .slice p.2.a p.2.len p.2.cap, .int .i64 p.1]
theorem fcells_len (p : Nat × Fc) : (fcells p).length = 6 := rfl
theorem fcells_one (p : Nat × Fc) : ∀ v ∈ fcells p, v.oneCell' = true := by
  intro v hv
  simp only [fcells, List.mem_cons, List.not_mem_nil, or_false] at hv
  rcases hv with rfl | rfl | rfl | rfl | rfl | rfl <;> rfl
theorem flat_len (E : List (Nat × Fc)) : (E.flatMap fcells).length = E.length * 6 := by
  induction E with
  | nil => rfl
  | cons p r ih => rw [List.flatMap_cons, List.length_append, ih, fcells_len, List.length_cons]; omega
theorem flat_get : ∀ (E : List (Nat × Fc)) (i c : Nat) (p : Nat × Fc), E[i]? = some p → c < 6 → (E.flatMap fcells)[i * 6 + c]? = (fcells p)[c]?
  | [], i, c, p, h, _ => by simp at h
  | x :: r, 0, c, p, h, hc => by
    simp only [List.getElem?_cons_zero, Option.some.injEq] at h
    subst h
    rw [List.flatMap_cons, List.getElem?_append_left (by rw [fcells_len]; omega)]
    congr 1
    omega
  | x :: r, i + 1, c, p, h, hc => by
    rw [List.flatMap_cons, List.getElem?_append_right (by rw [fcells_len]; omega)]
    have := flat_get r i c p (by simpa using h) hc
    rw [← this, fcells_len]
    congr 1
    omega

/-- The facts lie in a row of the call's own. -/
def FRw (B : Nat) (E : List (Nat × Fc)) (v : Value) (w : World) : Prop := w.ownsRow B 46 6 v E.length (E.flatMap fcells)
theorem FRw.nil (B : Nat) (w : World) : FRw B [] (.slice none 0 0) w := World.ownsRow_nil w B 46 6
theorem FRw.kept {B : Nat} {E : List (Nat × Fc)} {v : Value} {w w' : World} {row : Option Nat} (h : FRw B E v w) (hg : w.grownBy w' row) (hne : v.ownBlock = none ∨ v.ownBlock ≠ row) : FRw B E v w' := World.ownsRow.kept h hg hne
theorem FRw.low {B : Nat} {E : List (Nat × Fc)} {v : Value} {w w' : World} (h : FRw B E v w) (hb : Below w.heap.size w w') : FRw B E v w' :=
  World.ownsRow.kept h (row := none) ⟨hb.os, hb.tape, hb.output, hb.size, fun k hk _ => hb.block k hk⟩ (by cases v.ownBlock <;> simp)
theorem FRw.shape {B : Nat} {E : List (Nat × Fc)} {v : Value} {w : World} (h : FRw B E v w) : ∃ a c, v = .slice a E.length c ∧ E.length ≤ c := by
  rcases h.2 with ⟨h1, h2⟩ | ⟨g, cap, cur, h1, _, _, h2, _⟩
  · exact ⟨none, 0, by rw [h1, h2], by omega⟩
  · exact ⟨_, _, h1, h2⟩
theorem FRw.cells {B : Nat} {E : List (Nat × Fc)} {v : Value} {w : World} (h : FRw B E v w) {i : Nat} {p : Nat × Fc} (hi : E[i]? = some p) :
    ∃ g c, v = .slice (some ⟨g, 0, none⟩) E.length c ∧ B ≤ g ∧ g < w.heap.size ∧ w.rangeAt g (i * 6) (fcells p) := by
  have hlt := (List.getElem?_eq_some_iff.1 hi).1
  rcases h.2 with ⟨h1, h2⟩ | ⟨g, cap, cur, h1, h2, h3, h4, h5, h6, h7⟩
  · omega
  · refine ⟨g, cap, h1, h2, (Array.getElem?_eq_some_iff.1 h3).1, fun j u hj => ?_⟩
    have hj6 : j < 6 := by
      have := (List.getElem?_eq_some_iff.1 hj).1
      rwa [fcells_len] at this
    have e1 := flat_get E i j p hi hj6
    rw [hj, ← h7, List.getElem?_take_of_lt (by omega)] at e1
    simp only [World.cell?, h3]
    simpa using e1

theorem info57 : (Tryz.prog.info? 46).map (fun i => (i.zero, i.size, i.bytes)) = some (some (.agg #[.string ByteArray.empty, .int .i64 0, .int .i64 0, .string ByteArray.empty, .slice none 0 0, .int .i64 0]), 6, 80) := by kernel_rfl

theorem FRw.push {B : Nat} {E : List (Nat × Fc)} {v : Value} {w : World} (h : FRw B E v w) (p : Nat × Fc) {b o : Nat} (hr : w.rangeAt b o (fcells p)) (c : Nat) (hn : E.length ≤ 4194304) (hB : B ≤ w.heap.size) (ty : TypeId) :
    ∃ v' w', (Builtin.append_ #[50, 50] ty #[v, .slice (some ⟨b, o, none⟩) 1 c]).run Tryz.prog w = .ok v' w' ∧ FRw B (E ++ [p]) v' w' ∧ w.grownBy w' v.ownBlock := by
  obtain ⟨i, hi, hzz⟩ := Option.map_eq_some_iff.1 info57
  simp only [Prod.mk.injEq] at hzz
  obtain ⟨hz, hs, hb⟩ := hzz
  have hnews : ∀ j u, (fcells p)[j]? = some u → w.cell? ((⟨b, o, none⟩ : Addr).add j) = some u := fun j u hj => by rw [Addr.add_mid]; exact hr j u hj
  obtain ⟨v2, w2, k1, k2, k3, _⟩ := run_append_own_wide (P := Tryz.prog) w B 50 ty 46 i _ 6 80 Tryz.underlying50 hi hz hs hb rfl (by omega) v E.length _ h ⟨b, o, none⟩ 1 c (fcells p) (by rw [fcells_len]) hnews (fcells_one p)
    (by unfold maxLen; omega) (by omega) hB
  exact ⟨v2, w2, k1, by unfold FRw; rw [List.length_append, List.flatMap_append]; simpa using k2, k3⟩

/-! ### sorted by place -/
instance : Inhabited Fc := ⟨⟨default, 0, 0, ByteArray.empty, none, 0, 0⟩⟩
def cmpP (p q : Nat × Fc) : Int := Lib.compareInt (p.1 : Int) (q.1 : Int)
theorem ltP (p q : Nat × Fc) : ltOf cmpP p q = decide (p.1 < q.1) := by
  unfold ltOf cmpP Lib.compareInt
  by_cases h1 : (p.1 : Int) < (q.1 : Int)
  · simp [h1, show p.1 < q.1 by omega]
  · by_cases h2 : (q.1 : Int) < (p.1 : Int) <;> simp [h1, h2, show ¬ p.1 < q.1 by omega]
theorem swoP : SWO (ltOf cmpP) where
  irrefl x := by rw [ltP]; simp
  trans x y z h1 h2 := by rw [ltP] at *; simp at *; omega
  ntrans x y z h1 h2 := by rw [ltP] at *; simp at *; omega

set_option maxRecDepth 100000 in
set_option maxHeartbeats 1000000 in
theorem closure63 (x y : Nat × Fc) (W : World) : Calls Tryz.prog 37 #[.agg (fcells x).toArray, .agg (fcells y).toArray] W fun e w' => e = .returned (.int .i64 (cmpP x y)) ∧ ∃ q os', w' = grow (W.drewN q) os' := by
  have hcon := fun W' => Tryz.cmp_Compare_int (x.1 : Int) (y.1 : Int) W'
  unfold cmpP fcells
  generalize Lib.compareInt (x.1 : Int) (y.1 : Int) = r at hcon ⊢
  go_enter Tryz.func37, Tryz.ntmps37
  go_wp2_with (go_at_call 38; refine (hcon _).mono ?_; rintro e w' ⟨rfl, rfl⟩)
  go_ret
  exact ⟨rfl, 0, _, by rw [alloc_eq_grow, alloc_eq_grow, grow_grow]; rfl⟩

theorem cmpLays63 (blk off size : Nat) (w : World) : CmpLays Tryz.prog 37 #[] fcells 6 cmpP blk off size w :=
  fun _ _ _ _ x y => closure63 x y _

theorem flatK_eq (E : List (Nat × Fc)) : flatK fcells 6 E.toArray = (E.flatMap fcells).toArray := by
  apply Array.ext
  · show (flatK fcells 6 E.toArray).size = (E.flatMap fcells).length
    rw [flat_len]; simp [flatK]
  · intro t h1 h2
    have ht : t < E.length * 6 := by simpa [flatK] using h1
    have hi : t / 6 < E.length := by omega
    have e1 := flat_get E (t / 6) (t % 6) E[t / 6] (List.getElem?_eq_getElem hi) (Nat.mod_lt _ (by omega))
    rw [show t / 6 * 6 + t % 6 = t by omega] at e1
    have e2 : (flatK fcells 6 E.toArray)[t] = (fcells E[t / 6])[t % 6]! := by simp [flatK, hi]
    rw [e2]
    have e3 : t % 6 < (fcells E[t / 6]).length := by rw [fcells_len]; omega
    rw [List.getElem?_eq_getElem (by rw [flat_len]; exact ht), List.getElem?_eq_getElem e3] at e1
    simp only [Option.some.injEq] at e1
    simp [getElem!_pos, e3, e1]

/-- Two rows with rising places, and the same facts: one row. -/
theorem asc_ext : ∀ {A C : List (Nat × Fc)}, A.Pairwise (fun p q => p.1 < q.1) → C.Pairwise (fun p q => p.1 < q.1) → (∀ p, p ∈ A ↔ p ∈ C) → A = C
  | [], [], _, _, _ => rfl
  | [], y :: r, _, _, h => by have := (h y).2 (by simp); simp at this
  | x :: r, [], _, _, h => by have := (h x).1 (by simp); simp at this
  | x :: r, y :: r', hA, hC, h => by
    obtain ⟨hA1, hA2⟩ := List.pairwise_cons.1 hA
    obtain ⟨hC1, hC2⟩ := List.pairwise_cons.1 hC
    have hxy : x = y := by
      rcases List.mem_cons.1 ((h x).1 (by simp)) with e | e
      · exact e
      · rcases List.mem_cons.1 ((h y).2 (by simp)) with e' | e'
        · exact e'.symm
        · have h1 := hC1 x e
          have h2 := hA1 y e'
          omega
    subst hxy
    congr 1
    refine asc_ext hA2 hC2 fun p => ⟨fun hp => ?_, fun hp => ?_⟩
    · rcases List.mem_cons.1 ((h p).1 (by simp [hp])) with e | e
      · subst e; have := hA1 p hp; omega
      · exact e
    · rcases List.mem_cons.1 ((h p).2 (by simp [hp])) with e | e
      · subst e; have := hC1 p hp; omega
      · exact e

theorem heap_sorted {w : World} {g n : Nat} {os : Array Obj} {cur : Array Value} {e : TypeId} {fr : Nat × Nat} (F : Array Value) (hb : w.heap[g]? = some (.cells cur e fr)) :
    (grow (putRow id (Sort.ahead w n) g 0 F) os).heap[g]? = some (.cells (putCells id 0 F cur) e fr) := by
  have hg : g < w.heap.size := (Array.getElem?_eq_some_iff.1 hb).1
  rw [heap_grow_old _ _ (by simpa using hg)]
  simp [putRow, mapBlock, Sort.ahead, Array.getElem?_modify, hb]
  rfl
theorem grown_sorted {w : World} {g n : Nat} {os : Array Obj} (F : Array Value) : w.grownBy (grow (putRow id (Sort.ahead w n) g 0 F) os) (some g) := by
  refine ⟨rfl, rfl, rfl, by simp, fun k hk hne => ?_⟩
  rw [heap_grow_old _ _ (by simpa using hk)]
  have : g ≠ k := fun e => hne (by rw [e])
  simp [putRow, mapBlock, Sort.ahead, Array.getElem?_modify, this]
theorem take_put (cur : Array Value) (ts : List Value) (h : ts.length ≤ cur.size) : (putCells id 0 ts.toArray cur).toList.take ts.length = ts := by
  apply List.ext_getElem?
  intro j
  by_cases hj : j < ts.length
  · rw [List.getElem?_take_of_lt hj, Array.getElem?_toList]
    simp [putCells, hj, show j < cur.size by omega]
  · rw [List.getElem?_take_eq_none (by omega), List.getElem?_eq_none (by omega)]

/-- slices.SortFunc over the row: it holds the facts by their places; nothing else that was there is written. -/
theorem sort_row {B : Nat} {C E : List (Nat × Fc)} {v : Value} {w : World} (h : FRw B C v w) (hn : C.length ≤ 4194304) (hE : E.Pairwise fun p q => p.1 < q.1) (hC : C.Nodup) (hm : ∀ p, p ∈ C ↔ p ∈ E) :
    Calls Tryz.prog 36 #[v, .func (.func 37) #[] #[]] w fun e w' => e = .returned (.tuple #[]) ∧ FRw B E v w' ∧ w.grownBy w' v.ownBlock := by
  have hlen : E.length = C.length := by
    have hEn : E.Nodup := hE.imp (fun {p q} h e => by subst e; omega)
    exact (List.Perm.length_eq ((List.perm_ext_iff_of_nodup hC hEn).2 hm)).symm
  rcases h.2 with ⟨h1, h2⟩ | ⟨g, cap, cur, h1, h2, h3, h4, h5, h6, h7⟩
  · subst h1
    obtain rfl : C = [] := List.eq_nil_of_length_eq_zero h2
    obtain rfl : E = [] := List.eq_nil_of_length_eq_zero hlen
    have hcon := AnyF.slices_SortFunc_none Tryz.sortFact none 0 (.func (.func 37) #[] #[]) w
    change Calls Tryz.prog 36 _ _ _ at hcon
    refine hcon.mono ?_
    rintro e w' ⟨rfl, rfl⟩
    exact ⟨rfl, h, ⟨rfl, rfl, rfl, Nat.le_refl _, fun _ _ _ => rfl⟩⟩
  · subst h1
    have eg : ∀ args w, (callFunc 37 args).run Tryz.prog w = .ok (.enter 37 args) w := enters_of Tryz.func37 (by kernel_rfl) rfl
    have hfl := flat_len C
    have hH : HoldsK fcells 6 w g 0 C.toArray := by
      unfold HoldsK
      rw [flatK_eq]
      intro j hj
      have hj' : j < C.length * 6 := by simpa [hfl] using (show j < (C.flatMap fcells).length from hj)
      refine ⟨?_, by simp [World.frozen?, h3]⟩
      have e1 : (cur.toList.take (C.length * 6))[j]? = (C.flatMap fcells)[j]? := by rw [h7]
      rw [List.getElem?_take_of_lt hj'] at e1
      simp only [World.cell?, h3, Nat.zero_add]
      simp only [Option.isSome_none, Bool.false_eq_true, if_false]
      rw [← Array.getElem?_toList, e1]
      have hj2 : j < (C.flatMap fcells).length := by omega
      rw [List.getElem?_eq_getElem hj2]
      simp only [id, Option.some.injEq]
      rw [getElem!_pos _ j (show j < (C.flatMap fcells).toArray.size from hj2)]
      simp
    have hgl : g < w.heap.size := (Array.getElem?_eq_some_iff.1 h3).1
    have hcon := AnyQ.slices_SortFunc Tryz.sortFact 6 Tryz.isAgg46 Tryz.sizeOf46 fcells fcells_len fcells_one cmpP swoP 37 #[] g 0 cap C.toArray w eg (cmpLays63 g 0 _ w) hH hgl (by simp; omega)
    change Calls Tryz.prog 36 _ _ _ at hcon
    rw [List.size_toArray] at hcon
    refine hcon.mono ?_
    rintro e w' ⟨rfl, d', n, os, hp, hs, rfl⟩
    obtain ⟨hp1, _, hp3⟩ := hp
    have hperm : d'.toList.Perm C := by
      have e0 : C.length = d'.size := by simpa using hp1.symm
      have e1 : d'.extract 0 C.length = d' := by
        rw [e0]
        simp
      have e2 : C.toArray.extract 0 C.length = C.toArray := by simp
      rw [e1, e2] at hp3
      simpa using hp3
    have hd : d'.toList = E := by
      have hnd : d'.toList.Nodup := hperm.nodup_iff.2 hC
      refine asc_ext ?_ hE fun p => (hperm.mem_iff).trans (hm p)
      rw [List.pairwise_iff_getElem]
      intro i j hi hj hij
      have hj' : j < C.length := by have := hperm.length_eq; omega
      have := hs i j (Nat.zero_le _) hij hj'
      rw [ltP] at this
      simp only [decide_eq_false_iff_not, Nat.not_lt] at this
      have ei : d'[i]! = d'.toList[i] := by rw [getElem!_pos _ i (by simpa using hi)]; simp
      have ej : d'[j]! = d'.toList[j] := by rw [getElem!_pos _ j (by simpa using hj)]; simp
      rw [ei, ej] at this
      rcases Nat.lt_or_ge d'.toList[i].1 d'.toList[j].1 with q | q
      · exact q
      · exfalso
        have hpi : d'.toList[i] ∈ E := (hm _).1 (hperm.mem_iff.1 (List.getElem_mem hi))
        have hpj : d'.toList[j] ∈ E := (hm _).1 (hperm.mem_iff.1 (List.getElem_mem hj))
        have : d'.toList[i] = d'.toList[j] := by
          obtain ⟨x, hx, ex⟩ := List.mem_iff_getElem.1 hpi
          obtain ⟨y, hy, ey⟩ := List.mem_iff_getElem.1 hpj
          rw [← ex, ← ey] at this q ⊢
          rcases Nat.lt_trichotomy x y with r | r | r
          · have := List.pairwise_iff_getElem.1 hE x y hx hy r; omega
          · subst r; rfl
          · have := List.pairwise_iff_getElem.1 hE y x hy hx r; omega
        exact (List.pairwise_iff_getElem.1 hnd i j hi hj hij) this
    obtain rfl : d' = E.toArray := by rw [← hd]
    have hfe := flat_len E
    refine ⟨rfl, ?_, ?_⟩
    · unfold sortWorldK putRowK
      rw [flatK_eq]
      refine ⟨hfe, Or.inr ⟨g, cap, _, by rw [hlen], h2, heap_sorted _ h3, by omega, h5, by simpa [putCells] using h6, ?_⟩⟩
      rw [← hfe]
      exact take_put cur _ (by rw [hfe, h6, hlen]; exact Nat.mul_le_mul_right 6 h4)
    · unfold sortWorldK putRowK
      exact grown_sorted _

end Go.Proofs.YteminklafghgpaaGreatDoor
