
/- The boxes of an argument and of a result, a term in a block of its own, and the walk of impl.answer: the term in new blocks of its own, or zero where there is an error. -/
import Derived.Test.YteminklafghgpaaGreatDoorCy
import Derived.Test.YteminklafghgpaaGreatDoorCz
import Derived.Test.YteminklafghgpaaGreatDoorIs
namespace Go.Proofs.YteminklafghgpaaGreatDoor
open Go.RowKit Go.Deep

/-- The box of an argument, and behind it the box of a result. -/
theorem two_boxes {w w2 : World} {op n : Int} {s : ByteArray} {a : Option Addr} {len cap : Nat}
    (hb : Below ((w.alloc (.cells #[.int .i64 op, .int .i64 n, .string s, .slice a len cap] 35)).alloc (.cells #[.int .i64 0, .int .i64 0, .string ByteArray.empty, .slice none 0 0] 35)).heap.size ((w.alloc (.cells #[.int .i64 op, .int .i64 n, .string s, .slice a len cap] 35)).alloc (.cells #[.int .i64 0, .int .i64 0, .string ByteArray.empty, .slice none 0 0] 35)) w2) :
    w2.cell? ⟨w.heap.size, 0, none⟩ = some (.int .i64 op) ∧ w2.cell? ⟨w.heap.size, 1, none⟩ = some (.int .i64 n) ∧ w2.cell? ⟨w.heap.size, 2, none⟩ = some (.string s) ∧ w2.cell? ⟨w.heap.size, 3, none⟩ = some (.slice a len cap) ∧
    w2.cell? ⟨w.heap.size + 1, 0, none⟩ = some (.int .i64 0) ∧ w2.cell? ⟨w.heap.size + 1, 1, none⟩ = some (.int .i64 0) ∧ w2.cell? ⟨w.heap.size + 1, 2, none⟩ = some (.string ByteArray.empty) ∧ w2.cell? ⟨w.heap.size + 1, 3, none⟩ = some (.slice none 0 0) ∧
    w2.frozen? ⟨w.heap.size + 1, 0, none⟩ = false ∧ w2.frozen? ⟨w.heap.size + 1, 1, none⟩ = false ∧ w2.frozen? ⟨w.heap.size + 1, 2, none⟩ = false ∧ w2.frozen? ⟨w.heap.size + 1, 3, none⟩ = false := by
  have h1 : w2.heap[w.heap.size + 1]? = some (.cells #[.int .i64 0, .int .i64 0, .string ByteArray.empty, .slice none 0 0] 35) := by
    rw [hb.block _ (by simp)]
    have := heap_alloc_new (w.alloc (.cells #[.int .i64 op, .int .i64 n, .string s, .slice a len cap] 35)) (.cells #[.int .i64 0, .int .i64 0, .string ByteArray.empty, .slice none 0 0] 35)
    rwa [heap_size_alloc] at this
  have h0 : ∀ j v, (#[.int .i64 op, .int .i64 n, .string s, .slice a len cap] : Array Value)[j]? = some v → w2.cell? ⟨w.heap.size, j, none⟩ = some v := fun j v hv =>
    keepc hb (keepc ((Below.refl _ _).alloc (Nat.le_refl _) _) (box_cell w _ 35 j v hv))
  exact ⟨h0 0 _ rfl, h0 1 _ rfl, h0 2 _ rfl, h0 3 _ rfl, cell_of_row h1 (by simp), cell_of_row h1 (by simp), cell_of_row h1 (by simp), cell_of_row h1 (by simp), frozen_of_row h1, frozen_of_row h1, frozen_of_row h1, frozen_of_row h1⟩

theorem two_boxes_at (w : World) (op n : Int) (s : ByteArray) (a : Option Addr) (len cap : Nat) :
    ((w.alloc (.cells #[.int .i64 op, .int .i64 n, .string s, .slice a len cap] 35)).alloc (.cells #[.int .i64 0, .int .i64 0, .string ⟨#[]⟩, .slice none 0 0] 35)).cell? ⟨w.heap.size, 0, none⟩ = some (.int .i64 op) ∧ ((w.alloc (.cells #[.int .i64 op, .int .i64 n, .string s, .slice a len cap] 35)).alloc (.cells #[.int .i64 0, .int .i64 0, .string ⟨#[]⟩, .slice none 0 0] 35)).cell? ⟨w.heap.size, 1, none⟩ = some (.int .i64 n) ∧ ((w.alloc (.cells #[.int .i64 op, .int .i64 n, .string s, .slice a len cap] 35)).alloc (.cells #[.int .i64 0, .int .i64 0, .string ⟨#[]⟩, .slice none 0 0] 35)).cell? ⟨w.heap.size, 2, none⟩ = some (.string s) ∧ ((w.alloc (.cells #[.int .i64 op, .int .i64 n, .string s, .slice a len cap] 35)).alloc (.cells #[.int .i64 0, .int .i64 0, .string ⟨#[]⟩, .slice none 0 0] 35)).cell? ⟨w.heap.size, 3, none⟩ = some (.slice a len cap) ∧
    ((w.alloc (.cells #[.int .i64 op, .int .i64 n, .string s, .slice a len cap] 35)).alloc (.cells #[.int .i64 0, .int .i64 0, .string ⟨#[]⟩, .slice none 0 0] 35)).cell? ⟨w.heap.size + 1, 0, none⟩ = some (.int .i64 0) ∧ ((w.alloc (.cells #[.int .i64 op, .int .i64 n, .string s, .slice a len cap] 35)).alloc (.cells #[.int .i64 0, .int .i64 0, .string ⟨#[]⟩, .slice none 0 0] 35)).cell? ⟨w.heap.size + 1, 1, none⟩ = some (.int .i64 0) ∧ ((w.alloc (.cells #[.int .i64 op, .int .i64 n, .string s, .slice a len cap] 35)).alloc (.cells #[.int .i64 0, .int .i64 0, .string ⟨#[]⟩, .slice none 0 0] 35)).cell? ⟨w.heap.size + 1, 2, none⟩ = some (.string ByteArray.empty) ∧ ((w.alloc (.cells #[.int .i64 op, .int .i64 n, .string s, .slice a len cap] 35)).alloc (.cells #[.int .i64 0, .int .i64 0, .string ⟨#[]⟩, .slice none 0 0] 35)).cell? ⟨w.heap.size + 1, 3, none⟩ = some (.slice none 0 0) ∧
    ((w.alloc (.cells #[.int .i64 op, .int .i64 n, .string s, .slice a len cap] 35)).alloc (.cells #[.int .i64 0, .int .i64 0, .string ⟨#[]⟩, .slice none 0 0] 35)).frozen? ⟨w.heap.size + 1, 0, none⟩ = false ∧ ((w.alloc (.cells #[.int .i64 op, .int .i64 n, .string s, .slice a len cap] 35)).alloc (.cells #[.int .i64 0, .int .i64 0, .string ⟨#[]⟩, .slice none 0 0] 35)).frozen? ⟨w.heap.size + 1, 1, none⟩ = false ∧ ((w.alloc (.cells #[.int .i64 op, .int .i64 n, .string s, .slice a len cap] 35)).alloc (.cells #[.int .i64 0, .int .i64 0, .string ⟨#[]⟩, .slice none 0 0] 35)).frozen? ⟨w.heap.size + 1, 2, none⟩ = false ∧ ((w.alloc (.cells #[.int .i64 op, .int .i64 n, .string s, .slice a len cap] 35)).alloc (.cells #[.int .i64 0, .int .i64 0, .string ⟨#[]⟩, .slice none 0 0] 35)).frozen? ⟨w.heap.size + 1, 3, none⟩ = false :=
  two_boxes (Below.refl _ _)

theorem keepf {v v' : World} (h : Below v.heap.size v v') {b o : Nat} (hb : b < v.heap.size) (hc : v.frozen? ⟨b, o, none⟩ = false) : v'.frozen? ⟨b, o, none⟩ = false :=
  (h.frozen (p := ⟨b, o, none⟩) hb).trans hc

/-- The four cells of a term in a block of its own. -/
def RowT (ty : TypeId) (w : World) (b : Nat) (op n : Int) (s : ByteArray) (a : Option Addr) (len cap : Nat) : Prop := w.heap[b]? = some (.cells #[.int .i64 op, .int .i64 n, .string s, .slice a len cap] ty (0, 0))
theorem RowT.new (ty : TypeId) (w : World) (op n : Int) (s : ByteArray) (a : Option Addr) (len cap : Nat) : RowT ty (w.alloc (.cells #[.int .i64 op, .int .i64 n, .string s, .slice a len cap] ty)) w.heap.size op n s a len cap := heap_alloc_new w _
theorem RowT.lt {ty : TypeId} {w : World} {b : Nat} {op n : Int} {s : ByteArray} {a : Option Addr} {len cap : Nat} (h : RowT ty w b op n s a len cap) : b < w.heap.size := lt_of_heap h
theorem RowT.below {ty : TypeId} {w w' : World} {b : Nat} {op n : Int} {s : ByteArray} {a : Option Addr} {len cap : Nat} (h : RowT ty w b op n s a len cap) (hb : Below w.heap.size w w') : RowT ty w' b op n s a len cap := (hb.block b h.lt).trans h
theorem RowT.only {ty : TypeId} {w w' : World} {b : Nat} {op n : Int} {s : ByteArray} {a : Option Addr} {len cap : Nat} {f : List Nat} (h : RowT ty w b op n s a len cap) (hb : Only f w w') (hf : b ∉ f) : RowT ty w' b op n s a len cap := (hb.block b h.lt hf).trans h
theorem RowT.facts {ty : TypeId} {w : World} {b : Nat} {op n : Int} {s : ByteArray} {a : Option Addr} {len cap : Nat} (h : RowT ty w b op n s a len cap) : w.cell? ⟨b, 0, none⟩ = some (.int .i64 op) ∧ w.cell? ⟨b, 1, none⟩ = some (.int .i64 n) ∧ w.cell? ⟨b, 2, none⟩ = some (.string s) ∧ w.cell? ⟨b, 3, none⟩ = some (.slice a len cap) :=
  ⟨cell_of_row h (by simp), cell_of_row h (by simp), cell_of_row h (by simp), cell_of_row h (by simp)⟩

theorem Own.below {w w' : World} {t : Tm} {cs : List Value} {f : List Nat} (h : Own w t cs f) (hb : Below w.heap.size w w') : Own w' t cs f := Own.keep t cs f h fun b hbf => hb.block b (Own.lt t cs f h b hbf)
theorem Own.only {w w' : World} {t : Tm} {cs : List Value} {f g : List Nat} (h : Own w t cs f) (hb : Only g w w') (hd : ∀ x ∈ f, x ∉ g) : Own w' t cs f := Own.keep t cs f h fun b hbf => hb.block b (Own.lt t cs f h b hbf) (hd b hbf)
theorem Own.lies0 {w : World} {t : Tm} {cs : List Value} {f : List Nat} (h : Own w t cs f) : Lies w 0 t cs := Own.lies t cs f h fun _ _ => Nat.zero_le _

theorem set4_heap (w : World) (g : Nat) (x0 x1 x2 x3 : Value) (b : Nat) (h : b ≠ g) : ((((w.setCell ⟨g, 0, none⟩ x0).setCell ⟨g, 1, none⟩ x1).setCell ⟨g, 2, none⟩ x2).setCell ⟨g, 3, none⟩ x3).heap[b]? = w.heap[b]? := by
  rw [Below.heap_setCell _ _ _ _ h, Below.heap_setCell _ _ _ _ h, Below.heap_setCell _ _ _ _ h, Below.heap_setCell _ _ _ _ h]

theorem set4_below {B : Nat} {w v : World} {g : Nat} {x0 x1 x2 x3 : Value} (h : Below B w v) (hg : B ≤ g) : Below B w ((((v.setCell ⟨g, 0, none⟩ x0).setCell ⟨g, 1, none⟩ x1).setCell ⟨g, 2, none⟩ x2).setCell ⟨g, 3, none⟩ x3) :=
  (((h.setCell hg _).setCell hg _).setCell hg _).setCell hg _

/-- The term, or the zero term. -/
def pickT (b : Bool) (t : Tm) : Tm := if b = true then t else .node 0 0 ByteArray.empty []

theorem zero_lies (w : World) (L : Nat) : Lies w L (.node 0 0 ByteArray.empty []) (tmCells 0 0 ByteArray.empty none 0 0) := by
  simp only [Lies]
  exact ⟨none, 0, rfl, ⟨by simp [maxLen], by simp, by simp⟩, ⟨by decide, by decide⟩, by simp [LiesAll]⟩

theorem zero_own (w : World) : Own w (.node 0 0 ByteArray.empty []) (tmCells 0 0 ByteArray.empty none 0 0) [] :=
  Own.of_kids (ks := []) ⟨by simp [maxLen], by simp, by simp⟩ ⟨by decide, by decide⟩ (Or.inl ⟨rfl, rfl⟩)

set_option maxRecDepth 100000 in
set_option maxHeartbeats 1000000 in
/-- impl.answer where there is no error: the same term, in new blocks of its own, and true. -/
theorem answer_yes (t : Tm) (op n : Int) (s : ByteArray) (a : Option Addr) (len cap : Nat) (x : Addr) (w : World) (hl : Lies w 0 t (tmCells op n s a len cap)) (hsz : t.size + t.wt ≤ 4194304) (he : ErrAt x w) :
    Calls Tryz.prog 80 #[.agg #[.int .i64 op, .int .i64 n, .string s, .slice a len cap], .nilIface] w fun e w' => ∃ a' cap' fp, e = .returned (.tuple #[.agg #[.int .i64 op, .int .i64 n, .string s, .slice a' len cap'], .bool true]) ∧ Own w' t (tmCells op n s a' len cap') fp ∧ (fp.Nodup ∧ ∀ x ∈ fp, w.heap.size ≤ x) ∧ Below w.heap.size w w' := by
  have h45 := hide (is_nil x)
  have hcy := hide (cy_calls t op n s a len cap)
  have hB0 : Below w.heap.size w ((w.alloc (.cells #[.int .i64 op, .int .i64 n, .string s, .slice a len cap] 35)).alloc (.cells #[.int .i64 0, .int .i64 0, .string ⟨#[]⟩, .slice none 0 0] 35)) := ((Below.refl w.heap.size w).alloc (Nat.le_refl _) _).alloc (by simp) _
  have HL := hide (hl.below hB0)
  have HB := hide hB0
  have g0 := (he.on hB0).cell
  clear hl he hB0
  obtain ⟨c0, c1, c2, c3, d0, d1, d2, d3, e0, e1, e2, e3⟩ := two_boxes_at w op n s a len cap
  have HG : Hid (w.heap.size + 2 = ((w.alloc (.cells #[.int .i64 op, .int .i64 n, .string s, .slice a len cap] 35)).alloc (.cells #[.int .i64 0, .int .i64 0, .string ⟨#[]⟩, .slice none 0 0] 35)).heap.size) := by show _ = _; simp
  go_enter Tryz.func80, Tryz.ntmps80
  go_wp2_with fail
  refine (unhide h45 _).mono ?_
  rintro e w2 ⟨rfl, rfl⟩
  generalize (w.alloc (.cells #[.int .i64 op, .int .i64 n, .string s, .slice a len cap] 35)).alloc (.cells #[.int .i64 0, .int .i64 0, .string ⟨#[]⟩, .slice none 0 0] 35) = v at *
  go_wp2_with fail
  refine (unhide hcy _ (unhide HL) hsz).mono ?_
  rintro e w3 ⟨a3, cap3, fp, rfl, hO3, ⟨hnd3, hge3⟩, hb3⟩
  have d0' := d0
  have d0 := keepc hb3 d0
  have d1 := keepc hb3 d1
  have d2 := keepc hb3 d2
  have d3 := keepc hb3 d3
  have e0 := keepf hb3 (lt_of_cell d0') e0
  have e1 := keepf hb3 (lt_of_cell d0') e1
  have e2 := keepf hb3 (lt_of_cell d0') e2
  have e3 := keepf hb3 (lt_of_cell d0') e3
  have HB3 := hide ((unhide HB).trans (hb3.mono (unhide HB).size))
  have HO := hide hO3
  have HN := hide hnd3
  have HE := hide hge3
  clear hb3 d0' hO3 hnd3 hge3 c0 c1 c2 c3 g0
  go_wp2_with fail
  refine bodyPost_ret (v := .tuple #[.agg #[.int .i64 op, .int .i64 n, .string s, .slice a3 len cap3], .bool true]) (by simp [results, Tryz.results80, go_sem, d0, d1, d2, d3]) rfl ⟨a3, cap3, fp, rfl, ?_, ⟨unhide HN, fun x hx => ?_⟩, set4_below (unhide HB3) (by omega)⟩
  · exact Own.keep _ _ _ (unhide HO) fun b hb => set4_heap _ _ _ _ _ _ b (by have := unhide HE b hb; have := unhide HG; omega)
  · have := unhide HE x hx; have := unhide HG; omega

set_option maxRecDepth 100000 in
set_option maxHeartbeats 1000000 in
/-- impl.answer where there is the named error: the zero term, and false. -/
theorem answer_no (op n : Int) (s : ByteArray) (a : Option Addr) (len cap : Nat) (x : Addr) (w : World) (he : ErrAt x w) :
    Calls Tryz.prog 80 #[.agg #[.int .i64 op, .int .i64 n, .string s, .slice a len cap], .iface 149 (.pointer (some x))] w fun e w' => e = .returned (.tuple #[.agg #[.int .i64 0, .int .i64 0, .string ByteArray.empty, .slice none 0 0], .bool false]) ∧ Below w.heap.size w w' := by
  have h45 := hide (is_same x)
  have hB0 : Below w.heap.size w ((w.alloc (.cells #[.int .i64 op, .int .i64 n, .string s, .slice a len cap] 35)).alloc (.cells #[.int .i64 0, .int .i64 0, .string ⟨#[]⟩, .slice none 0 0] 35)) := ((Below.refl w.heap.size w).alloc (Nat.le_refl _) _).alloc (by simp) _
  have HB := hide hB0
  have g0 := (he.on hB0).cell
  clear he hB0
  obtain ⟨c0, c1, c2, c3, d0, d1, d2, d3, e0, e1, e2, e3⟩ := two_boxes_at w op n s a len cap
  go_enter Tryz.func80, Tryz.ntmps80
  go_wp2_with fail
  refine (unhide h45 _).mono ?_
  rintro e w2 ⟨rfl, rfl⟩
  generalize (w.alloc (.cells #[.int .i64 op, .int .i64 n, .string s, .slice a len cap] 35)).alloc (.cells #[.int .i64 0, .int .i64 0, .string ⟨#[]⟩, .slice none 0 0] 35) = v at *
  clear c0 c1 c2 c3 g0
  go_wp2_with fail
  exact bodyPost_ret (v := .tuple #[.agg #[.int .i64 0, .int .i64 0, .string ByteArray.empty, .slice none 0 0], .bool false]) (by simp [results, Tryz.results80, go_sem, d0, d1, d2, d3]; try rfl) rfl ⟨rfl, set4_below (unhide HB) (by omega)⟩

end Go.Proofs.YteminklafghgpaaGreatDoor
