/- errors.Is, asked of the program's one named error: of that error itself true, of none false; nothing in memory turns. And the tables of strconv, and the variable that holds the error, carried from world to world. The boxes of an argument and of a result, a term in a block of its own, and the walk of impl.answer: the term in new blocks of its own, or zero where there is an error. The walk of spec.Before: of whatever two terms lie in memory it answers whether the first is before the second; nothing that was there is written. When a term is right, as plain functions; and the walks of spec.l1Kids and spec.l1In. -/
import Derived.Test.YtmklgikbajhcpaaGreatDoorSa
import Derived.Test.YtmklgikbajhcpaaGreatDoorShelf
import Derived.LaidEql
import Derived.Lib.AppendIntMem
import Derived.Stop.Asserts
import Derived.RowKitTokens
import Derived.BigQuiet
namespace Go.Proofs.YtmklgikbajhcpaaGreatDoor
open Go.RowKit Go.Deep

def Tab (w : World) : Prop := Lib.TabIs Tryz.prog w "internal/strconv.uint64pow10" .u64 Lib.pow10Tab
theorem Tab.on {w w' : World} (h : Tab w) (hb : Below w.heap.size w w') : Tab w' := Lib.tabBelow_of_tabIs h w' hb

theorem itoa46 (n : Int) (w : World) (h0 : -9223372036854775808 ≤ n) (h1 : n ≤ 9223372036854775807) (ht : Tab w) :
    Calls Tryz.prog 137 #[.int .i64 n] w fun e w' => e = .returned (.string ⟨(Lib.itoa n).toArray⟩) ∧ Below w.heap.size w w' :=
  (Tryz.strconv_Itoa n h0 h1 w ht).mono fun _ _ ⟨he, k, os, hw⟩ => ⟨he, by rw [hw]; exact Lib.below_grow _ w (Nat.le_refl _) k os⟩

/-- The variable of the named error holds a pointer that is not nil, to a block that was made ahead of all else. -/
def ErrAt (a : Addr) (w : World) : Prop := w.cell? ⟨0, 0, none⟩ = some (.iface 202 (.pointer (some a)))
theorem ErrAt.on {a : Addr} {w w' : World} (h : ErrAt a w) (hb : Below w.heap.size w w') : ErrAt a w' := keepc hb h
theorem ErrAt.cell {a : Addr} {w : World} (h : ErrAt a w) : w.cell? ⟨0, 0, none⟩ = some (.iface 202 (.pointer (some a))) := h
/-- The same, the pointer not named. -/
def Err (w : World) : Prop := ∃ a, ErrAt a w
theorem Err.on {w w' : World} (h : Err w) (hb : Below w.heap.size w w') : Err w' := let ⟨a, ha⟩ := h; ⟨a, ha.on hb⟩

theorem isTypeOf (v : Value) (w : World) : (callFunc 148 #[.iface 202 v]).run Tryz.prog w = .ok (.value (.iface 167 (.agg #[.pointer (some ⟨6, 202, none⟩)]))) w := by kernel_rfl
theorem isComparable (w : World) : (callFunc 213 #[.agg #[.pointer (some ⟨6, 202, none⟩)]]).run Tryz.prog w = .ok (.value (.bool true)) w := by kernel_rfl
theorem isMethodComparable (v : Value) (w : World) : (Go.method 341 167 v "Comparable").run Tryz.prog w = .ok (213, v) w := by kernel_rfl
theorem isComp : (Tryz.prog.info? 202).map (·.comparable) = some true := by kernel_rfl
theorem isSize : (Tryz.prog.info? 204).map (·.size) = some 1 := by kernel_rfl

set_option maxRecDepth 100000 in
/-- Of the error itself. -/
theorem is_same (a : Addr) (w : World) :
    Calls Tryz.prog 122 #[.iface 202 (.pointer (some a)), .iface 202 (.pointer (some a))] w fun e w' => e = .returned (.bool true) ∧ w' = w := by
  obtain ⟨i, hi, hcmp⟩ := Option.map_eq_some_iff.1 isComp
  obtain ⟨j, hj, hjs⟩ := Option.map_eq_some_iff.1 isSize
  have tT := isTypeOf
  have cT := isComparable
  have mR := isMethodComparable
  have heq := run_eql_iface_ptr_same (P := Tryz.prog) w a Tryz.underlying81 Tryz.underlying202 hi hcmp hj
  go_enter Tryz.func122, Tryz.ntmps122
  go_wp2
  refine wp_loop_rounds 1 ?_
  rw [rounds_succ]
  go_wp2
  go_ret
  exact ⟨rfl, rfl⟩

set_option maxRecDepth 100000 in
/-- Of none. -/
theorem is_nil (b : Addr) (w : World) :
    Calls Tryz.prog 122 #[.nilIface, .iface 202 (.pointer (some b))] w fun e w' => e = .returned (.bool false) ∧ w' = w := by
  have hn := run_eql_iface_nil_left (P := Tryz.prog) w 202 (.pointer (some b)) Tryz.underlying81
  go_enter Tryz.func122, Tryz.ntmps122
  go_wp2
  go_ret
  exact ⟨rfl, rfl⟩

/-- The box of an argument, and behind it the box of a result. -/
theorem two_boxes {w w2 : World} {op n : Int} {s : ByteArray} {a : Option Addr} {len cap : Nat}
    (hb : Below ((w.alloc (.cells #[.int .i64 op, .int .i64 n, .string s, .slice a len cap] 29)).alloc (.cells #[.int .i64 0, .int .i64 0, .string ByteArray.empty, .slice none 0 0] 29)).heap.size ((w.alloc (.cells #[.int .i64 op, .int .i64 n, .string s, .slice a len cap] 29)).alloc (.cells #[.int .i64 0, .int .i64 0, .string ByteArray.empty, .slice none 0 0] 29)) w2) :
    w2.cell? ⟨w.heap.size, 0, none⟩ = some (.int .i64 op) ∧ w2.cell? ⟨w.heap.size, 1, none⟩ = some (.int .i64 n) ∧ w2.cell? ⟨w.heap.size, 2, none⟩ = some (.string s) ∧ w2.cell? ⟨w.heap.size, 3, none⟩ = some (.slice a len cap) ∧
    w2.cell? ⟨w.heap.size + 1, 0, none⟩ = some (.int .i64 0) ∧ w2.cell? ⟨w.heap.size + 1, 1, none⟩ = some (.int .i64 0) ∧ w2.cell? ⟨w.heap.size + 1, 2, none⟩ = some (.string ByteArray.empty) ∧ w2.cell? ⟨w.heap.size + 1, 3, none⟩ = some (.slice none 0 0) ∧
    w2.frozen? ⟨w.heap.size + 1, 0, none⟩ = false ∧ w2.frozen? ⟨w.heap.size + 1, 1, none⟩ = false ∧ w2.frozen? ⟨w.heap.size + 1, 2, none⟩ = false ∧ w2.frozen? ⟨w.heap.size + 1, 3, none⟩ = false := by
  have h1 : w2.heap[w.heap.size + 1]? = some (.cells #[.int .i64 0, .int .i64 0, .string ByteArray.empty, .slice none 0 0] 29) := by
    rw [hb.block _ (by simp)]
    have := heap_alloc_new (w.alloc (.cells #[.int .i64 op, .int .i64 n, .string s, .slice a len cap] 29)) (.cells #[.int .i64 0, .int .i64 0, .string ByteArray.empty, .slice none 0 0] 29)
    rwa [heap_size_alloc] at this
  have h0 : ∀ j v, (#[.int .i64 op, .int .i64 n, .string s, .slice a len cap] : Array Value)[j]? = some v → w2.cell? ⟨w.heap.size, j, none⟩ = some v := fun j v hv =>
    keepc hb (keepc ((Below.refl _ _).alloc (Nat.le_refl _) _) (box_cell w _ 29 j v hv))
  exact ⟨h0 0 _ rfl, h0 1 _ rfl, h0 2 _ rfl, h0 3 _ rfl, cell_of_row h1 (by simp), cell_of_row h1 (by simp), cell_of_row h1 (by simp), cell_of_row h1 (by simp), frozen_of_row h1, frozen_of_row h1, frozen_of_row h1, frozen_of_row h1⟩

theorem two_boxes_at (w : World) (op n : Int) (s : ByteArray) (a : Option Addr) (len cap : Nat) :
    ((w.alloc (.cells #[.int .i64 op, .int .i64 n, .string s, .slice a len cap] 29)).alloc (.cells #[.int .i64 0, .int .i64 0, .string ⟨#[]⟩, .slice none 0 0] 29)).cell? ⟨w.heap.size, 0, none⟩ = some (.int .i64 op) ∧ ((w.alloc (.cells #[.int .i64 op, .int .i64 n, .string s, .slice a len cap] 29)).alloc (.cells #[.int .i64 0, .int .i64 0, .string ⟨#[]⟩, .slice none 0 0] 29)).cell? ⟨w.heap.size, 1, none⟩ = some (.int .i64 n) ∧ ((w.alloc (.cells #[.int .i64 op, .int .i64 n, .string s, .slice a len cap] 29)).alloc (.cells #[.int .i64 0, .int .i64 0, .string ⟨#[]⟩, .slice none 0 0] 29)).cell? ⟨w.heap.size, 2, none⟩ = some (.string s) ∧ ((w.alloc (.cells #[.int .i64 op, .int .i64 n, .string s, .slice a len cap] 29)).alloc (.cells #[.int .i64 0, .int .i64 0, .string ⟨#[]⟩, .slice none 0 0] 29)).cell? ⟨w.heap.size, 3, none⟩ = some (.slice a len cap) ∧
    ((w.alloc (.cells #[.int .i64 op, .int .i64 n, .string s, .slice a len cap] 29)).alloc (.cells #[.int .i64 0, .int .i64 0, .string ⟨#[]⟩, .slice none 0 0] 29)).cell? ⟨w.heap.size + 1, 0, none⟩ = some (.int .i64 0) ∧ ((w.alloc (.cells #[.int .i64 op, .int .i64 n, .string s, .slice a len cap] 29)).alloc (.cells #[.int .i64 0, .int .i64 0, .string ⟨#[]⟩, .slice none 0 0] 29)).cell? ⟨w.heap.size + 1, 1, none⟩ = some (.int .i64 0) ∧ ((w.alloc (.cells #[.int .i64 op, .int .i64 n, .string s, .slice a len cap] 29)).alloc (.cells #[.int .i64 0, .int .i64 0, .string ⟨#[]⟩, .slice none 0 0] 29)).cell? ⟨w.heap.size + 1, 2, none⟩ = some (.string ByteArray.empty) ∧ ((w.alloc (.cells #[.int .i64 op, .int .i64 n, .string s, .slice a len cap] 29)).alloc (.cells #[.int .i64 0, .int .i64 0, .string ⟨#[]⟩, .slice none 0 0] 29)).cell? ⟨w.heap.size + 1, 3, none⟩ = some (.slice none 0 0) ∧
    ((w.alloc (.cells #[.int .i64 op, .int .i64 n, .string s, .slice a len cap] 29)).alloc (.cells #[.int .i64 0, .int .i64 0, .string ⟨#[]⟩, .slice none 0 0] 29)).frozen? ⟨w.heap.size + 1, 0, none⟩ = false ∧ ((w.alloc (.cells #[.int .i64 op, .int .i64 n, .string s, .slice a len cap] 29)).alloc (.cells #[.int .i64 0, .int .i64 0, .string ⟨#[]⟩, .slice none 0 0] 29)).frozen? ⟨w.heap.size + 1, 1, none⟩ = false ∧ ((w.alloc (.cells #[.int .i64 op, .int .i64 n, .string s, .slice a len cap] 29)).alloc (.cells #[.int .i64 0, .int .i64 0, .string ⟨#[]⟩, .slice none 0 0] 29)).frozen? ⟨w.heap.size + 1, 2, none⟩ = false ∧ ((w.alloc (.cells #[.int .i64 op, .int .i64 n, .string s, .slice a len cap] 29)).alloc (.cells #[.int .i64 0, .int .i64 0, .string ⟨#[]⟩, .slice none 0 0] 29)).frozen? ⟨w.heap.size + 1, 3, none⟩ = false :=
  two_boxes (Below.refl _ _)

theorem keepf {v v' : World} (h : Below v.heap.size v v') {b o : Nat} (hb : b < v.heap.size) (hc : v.frozen? ⟨b, o, none⟩ = false) : v'.frozen? ⟨b, o, none⟩ = false :=
  (h.frozen (p := ⟨b, o, none⟩) hb).trans hc

/-- The four cells of a term in a block of its own. -/
def RowT (ty : TypeId) (w : World) (b : Nat) (op n : Int) (s : ByteArray) (a : Option Addr) (len cap : Nat) : Prop := w.heap[b]? = some (.cells #[.int .i64 op, .int .i64 n, .string s, .slice a len cap] ty (0, 0))
theorem RowT.new (ty : TypeId) (w : World) (op n : Int) (s : ByteArray) (a : Option Addr) (len cap : Nat) : RowT ty (w.alloc (.cells #[.int .i64 op, .int .i64 n, .string s, .slice a len cap] ty)) w.heap.size op n s a len cap := heap_alloc_new w _
theorem RowT.lt {ty : TypeId} {w : World} {b : Nat} {op n : Int} {s : ByteArray} {a : Option Addr} {len cap : Nat} (h : RowT ty w b op n s a len cap) : b < w.heap.size := lt_of_heap h
theorem RowT.below {ty : TypeId} {w w' : World} {b : Nat} {op n : Int} {s : ByteArray} {a : Option Addr} {len cap : Nat} (h : RowT ty w b op n s a len cap) (hb : Below w.heap.size w w') : RowT ty w' b op n s a len cap := (hb.block b h.lt).trans h
theorem RowT.only {ty : TypeId} {w w' : World} {b : Nat} {op n : Int} {s : ByteArray} {a : Option Addr} {len cap : Nat} {f : List Nat} (h : RowT ty w b op n s a len cap) (hb : Only f w w') (hf : b ∉ f) : RowT ty w' b op n s a len cap := (hb.block b h.lt hf).trans h
theorem RowT.facts {ty : TypeId} {w : World} {b : Nat} {op n : Int} {s : ByteArray} {a : Option Addr} {len cap : Nat} (h : RowT ty w b op n s a len cap) : w.cell? ⟨b, 0, none⟩ = some (.int .i64 op) ∧ w.cell? ⟨b, 1, none⟩ = some (.int .i64 n) ∧ w.cell? ⟨b, 2, none⟩ = some (.string s) ∧ w.cell? ⟨b, 3, none⟩ = some (.slice a len cap) :=
  ⟨cell_of_row h (by simp), cell_of_row h (by simp), cell_of_row h (by simp), cell_of_row h (by simp)⟩

theorem Own.below {w w' : World} {t : Tm} {cs : List Value} {f : List Nat} (h : Own w t cs f) (hb : Below w.heap.size w w') : Own w' t cs f := Own.keep t cs f h fun b hbf => hb.block b (Own.lt t cs f h b hbf)
theorem Own.only {w w' : World} {t : Tm} {cs : List Value} {f g : List Nat} (h : Own w t cs f) (hb : Only g w w') (hd : ∀ x ∈ f, x ∉ g) : Own w' t cs f := Own.keep t cs f h fun b hbf => hb.block b (Own.lt t cs f h b hbf) (hd b hbf)
theorem Own.lies0 {w : World} {t : Tm} {cs : List Value} {f : List Nat} (h : Own w t cs f) : Lies w 0 t cs := Own.lies t cs f h fun _ _ => Nat.zero_le _

theorem set4_heap (w : World) (g : Nat) (x0 x1 x2 x3 : Value) (b : Nat) (h : b ≠ g) : ((((w.setCell ⟨g, 0, none⟩ x0).setCell ⟨g, 1, none⟩ x1).setCell ⟨g, 2, none⟩ x2).setCell ⟨g, 3, none⟩ x3).heap[b]? = w.heap[b]? := by
  rw [Below.heap_setCell _ _ _ _ h, Below.heap_setCell _ _ _ _ h, Below.heap_setCell _ _ _ _ h, Below.heap_setCell _ _ _ _ h]

theorem set4_below {B : Nat} {w v : World} {g : Nat} {x0 x1 x2 x3 : Value} (h : Below B w v) (hg : B ≤ g) : Below B w ((((v.setCell ⟨g, 0, none⟩ x0).setCell ⟨g, 1, none⟩ x1).setCell ⟨g, 2, none⟩ x2).setCell ⟨g, 3, none⟩ x3) :=
  (((h.setCell hg _).setCell hg _).setCell hg _).setCell hg _

/-- The term, or the zero term. -/
def pickT (b : Bool) (t : Tm) : Tm := if b = true then t else .node 0 0 ByteArray.empty []

theorem zero_lies (w : World) (L : Nat) : Lies w L (.node 0 0 ByteArray.empty []) (tmCells 0 0 ByteArray.empty none 0 0) := by
  simp only [Lies]
  exact ⟨none, 0, rfl, ⟨by simp [maxLen], by simp, by simp⟩, ⟨by decide, by decide⟩, by simp [LiesAll]⟩

theorem zero_own (w : World) : Own w (.node 0 0 ByteArray.empty []) (tmCells 0 0 ByteArray.empty none 0 0) [] :=
  Own.of_kids (ks := []) ⟨by simp [maxLen], by simp, by simp⟩ ⟨by decide, by decide⟩ (Or.inl ⟨rfl, rfl⟩)

set_option maxRecDepth 100000 in
set_option maxHeartbeats 1000000 in
/-- impl.answer where there is no error: the same term, in new blocks of its own, and true. -/
theorem answer_yes (t : Tm) (op n : Int) (s : ByteArray) (a : Option Addr) (len cap : Nat) (x : Addr) (w : World) (hl : Lies w 0 t (tmCells op n s a len cap)) (hsz : t.size + t.wt ≤ 4194304) (he : ErrAt x w) :
    Calls Tryz.prog 71 #[.agg #[.int .i64 op, .int .i64 n, .string s, .slice a len cap], .nilIface] w fun e w' => ∃ a' cap' fp, e = .returned (.tuple #[.agg #[.int .i64 op, .int .i64 n, .string s, .slice a' len cap'], .bool true]) ∧ Own w' t (tmCells op n s a' len cap') fp ∧ (fp.Nodup ∧ ∀ x ∈ fp, w.heap.size ≤ x) ∧ Below w.heap.size w w' := by
  have h45 := hide (is_nil x)
  have hcy := hide (cy_calls t op n s a len cap)
  have hB0 : Below w.heap.size w ((w.alloc (.cells #[.int .i64 op, .int .i64 n, .string s, .slice a len cap] 29)).alloc (.cells #[.int .i64 0, .int .i64 0, .string ⟨#[]⟩, .slice none 0 0] 29)) := ((Below.refl w.heap.size w).alloc (Nat.le_refl _) _).alloc (by simp) _
  have HL := hide (hl.below hB0)
  have HB := hide hB0
  have g0 := (he.on hB0).cell
  clear hl he hB0
  obtain ⟨c0, c1, c2, c3, d0, d1, d2, d3, e0, e1, e2, e3⟩ := two_boxes_at w op n s a len cap
  have HG : Hid (w.heap.size + 2 = ((w.alloc (.cells #[.int .i64 op, .int .i64 n, .string s, .slice a len cap] 29)).alloc (.cells #[.int .i64 0, .int .i64 0, .string ⟨#[]⟩, .slice none 0 0] 29)).heap.size) := by show _ = _; simp
  go_enter Tryz.func71, Tryz.ntmps71
  go_wp2_with fail
  refine (unhide h45 _).mono ?_
  rintro e w2 ⟨rfl, rfl⟩
  generalize (w.alloc (.cells #[.int .i64 op, .int .i64 n, .string s, .slice a len cap] 29)).alloc (.cells #[.int .i64 0, .int .i64 0, .string ⟨#[]⟩, .slice none 0 0] 29) = v at *
  go_wp2_with fail
  refine (unhide hcy _ (unhide HL) hsz).mono ?_
  rintro e w3 ⟨a3, cap3, fp, rfl, hO3, ⟨hnd3, hge3⟩, hb3⟩
  have d0' := d0
  have d0 := keepc hb3 d0
  have d1 := keepc hb3 d1
  have d2 := keepc hb3 d2
  have d3 := keepc hb3 d3
  have e0 := keepf hb3 (lt_of_cell d0') e0
  have e1 := keepf hb3 (lt_of_cell d0') e1
  have e2 := keepf hb3 (lt_of_cell d0') e2
  have e3 := keepf hb3 (lt_of_cell d0') e3
  have HB3 := hide ((unhide HB).trans (hb3.mono (unhide HB).size))
  have HO := hide hO3
  have HN := hide hnd3
  have HE := hide hge3
  clear hb3 d0' hO3 hnd3 hge3 c0 c1 c2 c3 g0
  go_wp2_with fail
  refine bodyPost_ret (v := .tuple #[.agg #[.int .i64 op, .int .i64 n, .string s, .slice a3 len cap3], .bool true]) (by simp [results, Tryz.results71, go_sem, d0, d1, d2, d3]) rfl ⟨a3, cap3, fp, rfl, ?_, ⟨unhide HN, fun x hx => ?_⟩, set4_below (unhide HB3) (by omega)⟩
  · exact Own.keep _ _ _ (unhide HO) fun b hb => set4_heap _ _ _ _ _ _ b (by have := unhide HE b hb; have := unhide HG; omega)
  · have := unhide HE x hx; have := unhide HG; omega

set_option maxRecDepth 100000 in
set_option maxHeartbeats 1000000 in
/-- impl.answer where there is the named error: the zero term, and false. -/
theorem answer_no (op n : Int) (s : ByteArray) (a : Option Addr) (len cap : Nat) (x : Addr) (w : World) (he : ErrAt x w) :
    Calls Tryz.prog 71 #[.agg #[.int .i64 op, .int .i64 n, .string s, .slice a len cap], .iface 202 (.pointer (some x))] w fun e w' => e = .returned (.tuple #[.agg #[.int .i64 0, .int .i64 0, .string ByteArray.empty, .slice none 0 0], .bool false]) ∧ Below w.heap.size w w' := by
  have h45 := hide (is_same x)
  have hB0 : Below w.heap.size w ((w.alloc (.cells #[.int .i64 op, .int .i64 n, .string s, .slice a len cap] 29)).alloc (.cells #[.int .i64 0, .int .i64 0, .string ⟨#[]⟩, .slice none 0 0] 29)) := ((Below.refl w.heap.size w).alloc (Nat.le_refl _) _).alloc (by simp) _
  have HB := hide hB0
  have g0 := (he.on hB0).cell
  clear he hB0
  obtain ⟨c0, c1, c2, c3, d0, d1, d2, d3, e0, e1, e2, e3⟩ := two_boxes_at w op n s a len cap
  go_enter Tryz.func71, Tryz.ntmps71
  go_wp2_with fail
  refine (unhide h45 _).mono ?_
  rintro e w2 ⟨rfl, rfl⟩
  generalize (w.alloc (.cells #[.int .i64 op, .int .i64 n, .string s, .slice a len cap] 29)).alloc (.cells #[.int .i64 0, .int .i64 0, .string ⟨#[]⟩, .slice none 0 0] 29) = v at *
  clear c0 c1 c2 c3 g0
  go_wp2_with fail
  exact bodyPost_ret (v := .tuple #[.agg #[.int .i64 0, .int .i64 0, .string ByteArray.empty, .slice none 0 0], .bool false]) (by simp [results, Tryz.results71, go_sem, d0, d1, d2, d3]; try rfl) rfl ⟨rfl, set4_below (unhide HB) (by omega)⟩

theorem cmpI_neg {a b : Int} : cmpI a b < 0 ↔ a < b := by unfold cmpI; split <;> (try split) <;> omega
theorem cmpS_neg {x y : ByteArray} (h : x ≠ y) : cmpS x y < 0 ↔ Op.bytesLess x.toList y.toList = true := by
  cases hb : Op.bytesLess x.toList y.toList with
  | true => rw [cmpS_lt hb]; simp
  | false => rw [cmpS_gt h hb]; simp

section
variable {op n : Int} {s : ByteArray} {ks : List Tm} {op' n' : Int} {s' : ByteArray} {ks' : List Tm}
theorem bf_iff : beforeB (.node op n s ks) (.node op' n' s' ks') = true ↔ orI (headC op n s ks.length op' n' s' ks'.length) (cmpL ks ks') < 0 := by
  unfold beforeB
  rw [decide_eq_true_iff]
  simp only [cmpT]
theorem bf_op (h : op ≠ op') : beforeB (.node op n s ks) (.node op' n' s' ks') = decide (op < op') := by
  rw [Bool.eq_iff_iff, bf_iff, decide_eq_true_iff, ← cmpI_neg (a := op) (b := op')]
  have h1 : cmpI op op' ≠ 0 := fun e => h (cmpI_zero.1 e)
  unfold headC
  rw [orI_not (a := cmpI op op') h1, orI_not h1]
theorem bf_n (h : n ≠ n') : beforeB (.node op n s ks) (.node op n' s' ks') = decide (n < n') := by
  rw [Bool.eq_iff_iff, bf_iff, decide_eq_true_iff, ← cmpI_neg (a := n) (b := n')]
  have h1 : cmpI n n' ≠ 0 := fun e => h (cmpI_zero.1 e)
  unfold headC
  rw [orI_zero (a := cmpI op op) (cmpI_eq rfl), orI_not (a := cmpI n n') h1, orI_not h1]
theorem bf_s (h : s ≠ s') : beforeB (.node op n s ks) (.node op n s' ks') = Op.bytesLess s.toList s'.toList := by
  rw [Bool.eq_iff_iff, bf_iff, ← cmpS_neg h]
  have h1 : cmpS s s' ≠ 0 := fun e => h (cmpS_zero.1 e)
  unfold headC
  rw [orI_zero (a := cmpI op op) (cmpI_eq rfl), orI_zero (a := cmpI n n) (cmpI_eq rfl), orI_not (a := cmpS s s') h1, orI_not h1]
theorem bf_len (h : ks.length ≠ ks'.length) : beforeB (.node op n s ks) (.node op n s ks') = decide ((ks.length : Int) < (ks'.length : Int)) := by
  rw [Bool.eq_iff_iff, bf_iff, decide_eq_true_iff, ← cmpI_neg (a := (ks.length : Int)) (b := (ks'.length : Int))]
  have h1 : cmpI (ks.length : Int) (ks'.length : Int) ≠ 0 := fun e => h (by have := cmpI_zero.1 e; omega)
  unfold headC
  rw [orI_zero (a := cmpI op op) (cmpI_eq rfl), orI_zero (a := cmpI n n) (cmpI_eq rfl), orI_zero (a := cmpS s s) (cmpS_eq rfl), orI_not h1]
theorem bf_kids (h : ks.length = ks'.length) : beforeB (.node op n s ks) (.node op n s ks') = decide (cmpL ks ks' < 0) := by
  rw [Bool.eq_iff_iff, bf_iff, decide_eq_true_iff, orI_zero (headC_zero.2 ⟨rfl, rfl, rfl, h⟩)]
end

theorem drew_both {v v' : World} (h : Below v.heap.size v v') : Below v.drew.heap.size v.drew v'.drew := ⟨h.os, h.tape, h.output, h.size, h.block⟩

def BfOk (t : Tm) : Prop := ∀ (t' : Tm) (op n : Int) (s : ByteArray) (a : Option Addr) (len cap : Nat) (op' n' : Int) (s' : ByteArray) (a' : Option Addr) (len' cap' : Nat) (w : World), Lies w 0 t (tmCells op n s a len cap) → Lies w 0 t' (tmCells op' n' s' a' len' cap') →
  Calls Tryz.prog 125 #[.agg #[.int .i64 op, .int .i64 n, .string s, .slice a len cap], .agg #[.int .i64 op', .int .i64 n', .string s', .slice a' len' cap']] w fun e w' => e = .returned (.bool (beforeB t t')) ∧ Below w.heap.size w w'

set_option maxHeartbeats 4000000 in
theorem bf_step (t : Tm) (h : ∀ x ∈ t.kids, BfOk x) : BfOk t := by
  intro t' op n s a len cap op' n' s' a' len' cap' w hl hl'
  cases t with
  | node op1 n1 s1 ks =>
  cases t' with
  | node op2 n2 s2 ks' =>
    simp only [Lies, tmCells] at hl hl'
    obtain ⟨a1, cap1, he, ⟨_, hlc, hcm⟩, _, hk⟩ := hl
    simp only [List.cons.injEq, Value.int.injEq, Value.string.injEq, Value.slice.injEq, true_and, and_true] at he
    obtain ⟨rfl, rfl, rfl, rfl, rfl, rfl⟩ := he
    obtain ⟨a2, cap2, he, ⟨_, hlc', hcm'⟩, _, hk'⟩ := hl'
    simp only [List.cons.injEq, Value.int.injEq, Value.string.injEq, Value.slice.injEq, true_and, and_true] at he
    obtain ⟨rfl, rfl, rfl, rfl, rfl, rfl⟩ := he
    have hkids : ∀ x ∈ ks, BfOk x := h
    have hb1 : ks.length ≤ 9223372036854775807 := by unfold maxLen at hcm; omega
    have hb2 : ks'.length ≤ 9223372036854775807 := by unfold maxLen at hcm'; omega
    have HK := hide hk
    have HK' := hide hk'
    clear h hk hk' hlc hcm hlc' hcm'
    by_cases e1 : op = op'
    case neg =>
      have q1 : (op != op') = true := by simpa using e1
      have HR := hide (bf_op (n := n) (s := s) (ks := ks) (n' := n') (s' := s') (ks' := ks') e1)
      clear e1
      generalize beforeB (.node op n s ks) (.node op' n' s' ks') = bb at *
      go_enter Tryz.func125, Tryz.ntmps125
      go_wp2_with fail
      go_ret
      exact ⟨ret_bool (unhide HR).symm, below_two _ _ _⟩
    subst e1
    have q1 : (op != op) = false := by simp
    by_cases e2 : n = n'
    case neg =>
      have q2 : (n != n') = true := by simpa using e2
      have HR := hide (bf_n (op := op) (s := s) (ks := ks) (s' := s') (ks' := ks') e2)
      clear e2
      generalize beforeB (.node op n s ks) (.node op n' s' ks') = bb at *
      go_enter Tryz.func125, Tryz.ntmps125
      go_wp2_with fail
      go_ret
      exact ⟨ret_bool (unhide HR).symm, below_two _ _ _⟩
    subst e2
    have q2 : (n != n) = false := by simp
    by_cases e3 : s = s'
    case neg =>
      have q3 : (s.toList == s'.toList) = false := by simpa using fun e => e3 (toList_inj e)
      have HR := hide (bf_s (op := op) (n := n) (ks := ks) (ks' := ks') e3)
      clear e3
      generalize beforeB (.node op n s ks) (.node op n s' ks') = bb at *
      go_enter Tryz.func125, Tryz.ntmps125
      go_wp2_with fail
      go_ret
      exact ⟨ret_bool (unhide HR).symm, below_two _ _ _⟩
    subst e3
    have q3 : (s.toList == s.toList) = true := by simp
    by_cases e4 : ks.length = ks'.length
    case neg =>
      have q4 : ((ks.length : Int) != (ks'.length : Int)) = true := by rw [bne_iff_ne]; omega
      have HR := hide (bf_len (op := op) (n := n) (s := s) e4)
      clear e4
      generalize beforeB (.node op n s ks) (.node op n s ks') = bb at *
      go_enter Tryz.func125, Tryz.ntmps125
      go_wp2_with fail
      go_ret
      exact ⟨ret_bool (by rw [unhide HR]; simp), below_two _ _ _⟩
    have HR := hide (bf_kids (op := op) (n := n) (s := s) e4)
    generalize beforeB (.node op n s ks) (.node op n s ks') = bb at *
    generalize hlen' : ks'.length = len' at *
    have HL' := hide hlen'
    subst e4
    generalize hlen : ks.length = len at *
    have HL := hide hlen
    clear hlen hlen'
    have q4 : ((len : Int) != (len : Int)) = false := by simp
    go_enter Tryz.func125, Tryz.ntmps125
    go_wp2_with fail
    go_loopw [5] (fun i wr => ∃ k : Nat, k ≤ len ∧ i = .int .i64 k ∧ cmpL ks ks' = cmpL (ks.drop k) (ks'.drop k) ∧ Below (w.heap.size + 1 + 1) ((w.alloc (.cells #[.int .i64 op, .int .i64 n, .string s, .slice a len cap] 29)).alloc (.cells #[.int .i64 op, .int .i64 n, .string s, .slice a' len cap'] 29)) wr) (fun i _ => len - (intOf i).toNat)
    case atStart => exact ⟨0, Nat.zero_le _, rfl, rfl, Below.refl _ _⟩
    case round =>
      obtain ⟨k, hkl, rfl, hC, hb⟩ := hrel
      have b3 : wr.cell? ⟨w.heap.size, 3, none⟩ = some (.slice a len cap) := (hb.cell (p := ⟨w.heap.size, 3, none⟩) (by show w.heap.size < _; omega)).trans (keepc ((Below.refl _ _).alloc (Nat.le_refl _) _) (box_cell _ _ _ 3 _ rfl))
      have b4 : wr.cell? ⟨w.heap.size + 1, 3, none⟩ = some (.slice a' len cap') := by
        have := box_cell (w.alloc (.cells #[.int .i64 op, .int .i64 n, .string s, .slice a len cap] 29)) #[.int .i64 op, .int .i64 n, .string s, .slice a' len cap'] 29 3 _ rfl
        rw [heap_size_alloc] at this
        exact (hb.cell (p := ⟨w.heap.size + 1, 3, none⟩) (by show w.heap.size + 1 < _; omega)).trans this
      have hbw : Below w.heap.size w wr := (below_two _ _ _).trans (hb.mono (by omega))
      have HC := hide hC
      clear hC
      by_cases hlt : k < len
      · have g1 : k < ks.length := by have := unhide HL; omega
        have g2 : k < ks'.length := by have := unhide HL'; omega
        have HD := hide (cmpL_drop g1 g2)
        obtain ⟨b, o, y0, y1, y2, y3, y4, y5, rfl, _, _, c0, c1, c2, c3, hT⟩ := (unhide HK).elem (k := k) g1
        obtain ⟨b', o', y0', y1', y2', y3', y4', y5', rfl, _, _, d0, d1, d2, d3, hT'⟩ := (unhide HK').elem (k := k) g2
        have c0 := keepc hbw c0
        have c1 := keepc hbw c1
        have c2 := keepc hbw c2
        have c3 := keepc hbw c3
        have d0 := keepc hbw d0
        have d1 := keepc hbw d1
        have d2 := keepc hbw d2
        have d3 := keepc hbw d3
        have HCT := hide (sa_calls ks[k] ks'[k] y0 y1 y2 y3 y4 y5 y0' y1' y2' y3' y4' y5')
        have HCB := hide (hkids ks[k] (List.getElem_mem g1) ks'[k] y0 y1 y2 y3 y4 y5 y0' y1' y2' y3' y4' y5')
        have HT := hide (hT.below hbw.drew)
        have HT' := hide (hT'.below hbw.drew)
        have hsb : sameB ks[k] ks'[k] = decide (cmpT ks[k] ks'[k] = 0) := rfl
        have HSB := hide hsb
        have hbv : beforeB ks[k] ks'[k] = decide (cmpT ks[k] ks'[k] < 0) := rfl
        have HBV := hide hbv
        have HB := hide hb
        clear hT hT' hsb hbv hb hbw HK HK' hkids
        generalize ks[k] = tk at *
        generalize ks'[k] = tk' at *
        clear g1 g2
        have hml : (k : Int) < (len : Int) := by omega
        cases hsv : sameB tk tk' with
        | true =>
          rw [hsv] at HCT HSB
          clear hsv
          go_wp2_with fail
          go_region_held3 (fun x => x.cell? ⟨w.heap.size, 3, none⟩ = some (.slice (some ⟨b, o, none⟩) len cap) ∧ x.cell? ⟨w.heap.size + 1, 3, none⟩ = some (.slice (some ⟨b', o', none⟩) len cap') ∧
              x.cell? ⟨b, o + k * 4, none⟩ = some (.int .i64 y0) ∧ x.cell? ⟨b, o + k * 4 + 1, none⟩ = some (.int .i64 y1) ∧ x.cell? ⟨b, o + k * 4 + 2, none⟩ = some (.string y2) ∧ x.cell? ⟨b, o + k * 4 + 3, none⟩ = some (.slice y3 y4 y5) ∧
              x.cell? ⟨b', o' + k * 4, none⟩ = some (.int .i64 y0') ∧ x.cell? ⟨b', o' + k * 4 + 1, none⟩ = some (.int .i64 y1') ∧ x.cell? ⟨b', o' + k * 4 + 2, none⟩ = some (.string y2') ∧ x.cell? ⟨b', o' + k * 4 + 3, none⟩ = some (.slice y3' y4' y5')) (go_keep)
            (first
              | (go_at_call 60
                 refine (unhide HCT _ (unhide HT) (unhide HT')).mono ?_
                 rintro e w2 ⟨rfl, hb2⟩
                 have hb2' := hide (below_drw hb2)
                 have f0 := keepc (unhide hb2') c0
                 have f1 := keepc (unhide hb2') c1
                 have f2 := keepc (unhide hb2') c2
                 have f3 := keepc (unhide hb2') c3
                 have f4 := keepc (unhide hb2') d0
                 have f5 := keepc (unhide hb2') d1
                 have f6 := keepc (unhide hb2') d2
                 have f7 := keepc (unhide hb2') d3
                 have f8 := keepc (unhide hb2') b3
                 have f9 := keepc (unhide hb2') b4))
          go_wp2_with fail
          go_roundw
          case rel => exact ⟨k + 1, by omega, by go_num, by rw [unhide HC, unhide HD, orI_zero (by simpa using (unhide HSB).symm)], (unhide HB).trans ((unhide hb2').mono (by have := (unhide HB).size; simp at this; omega))⟩
          case measure => simp [intOf]; omega
        | false =>
          rw [hsv] at HCT HSB
          clear hsv
          go_wp2_with fail
          go_region_held3 (fun x => x.cell? ⟨w.heap.size, 3, none⟩ = some (.slice (some ⟨b, o, none⟩) len cap) ∧ x.cell? ⟨w.heap.size + 1, 3, none⟩ = some (.slice (some ⟨b', o', none⟩) len cap') ∧
              x.cell? ⟨b, o + k * 4, none⟩ = some (.int .i64 y0) ∧ x.cell? ⟨b, o + k * 4 + 1, none⟩ = some (.int .i64 y1) ∧ x.cell? ⟨b, o + k * 4 + 2, none⟩ = some (.string y2) ∧ x.cell? ⟨b, o + k * 4 + 3, none⟩ = some (.slice y3 y4 y5) ∧
              x.cell? ⟨b', o' + k * 4, none⟩ = some (.int .i64 y0') ∧ x.cell? ⟨b', o' + k * 4 + 1, none⟩ = some (.int .i64 y1') ∧ x.cell? ⟨b', o' + k * 4 + 2, none⟩ = some (.string y2') ∧ x.cell? ⟨b', o' + k * 4 + 3, none⟩ = some (.slice y3' y4' y5')) (go_keep)
            (first
              | (go_at_call 60
                 refine (unhide HCT _ (unhide HT) (unhide HT')).mono ?_
                 rintro e w2 ⟨rfl, hb2⟩
                 have hb2' := hide (below_drw hb2)
                 have f0 := keepc (unhide hb2') c0
                 have f1 := keepc (unhide hb2') c1
                 have f2 := keepc (unhide hb2') c2
                 have f3 := keepc (unhide hb2') c3
                 have f4 := keepc (unhide hb2') d0
                 have f5 := keepc (unhide hb2') d1
                 have f6 := keepc (unhide hb2') d2
                 have f7 := keepc (unhide hb2') d3
                 have f8 := keepc (unhide hb2') b3
                 have f9 := keepc (unhide hb2') b4))
          have HT2 := hide ((unhide HT).below (drew_both (unhide hb2')))
          have HT2' := hide ((unhide HT').below (drew_both (unhide hb2')))
          clear c0 c1 c2 c3 d0 d1 d2 d3 b3 b4
          generalize beforeB tk tk' = bv at *
          go_wp2_with fail
          go_region_held3 (fun x => x.cell? ⟨w.heap.size, 3, none⟩ = some (.slice (some ⟨b, o, none⟩) len cap) ∧ x.cell? ⟨w.heap.size + 1, 3, none⟩ = some (.slice (some ⟨b', o', none⟩) len cap') ∧
              x.cell? ⟨b, o + k * 4, none⟩ = some (.int .i64 y0) ∧ x.cell? ⟨b, o + k * 4 + 1, none⟩ = some (.int .i64 y1) ∧ x.cell? ⟨b, o + k * 4 + 2, none⟩ = some (.string y2) ∧ x.cell? ⟨b, o + k * 4 + 3, none⟩ = some (.slice y3 y4 y5) ∧
              x.cell? ⟨b', o' + k * 4, none⟩ = some (.int .i64 y0') ∧ x.cell? ⟨b', o' + k * 4 + 1, none⟩ = some (.int .i64 y1') ∧ x.cell? ⟨b', o' + k * 4 + 2, none⟩ = some (.string y2') ∧ x.cell? ⟨b', o' + k * 4 + 3, none⟩ = some (.slice y3' y4' y5')) (go_keep)
            (first
              | (go_at_call 125
                 refine (unhide HCB _ (unhide HT2) (unhide HT2')).mono ?_
                 rintro e w3 ⟨rfl, hb3⟩
                 have hb3' := hide (below_drw hb3)
                 have g0 := keepc (unhide hb3') f0
                 have g1 := keepc (unhide hb3') f1
                 have g2 := keepc (unhide hb3') f2
                 have g3 := keepc (unhide hb3') f3
                 have g4 := keepc (unhide hb3') f4
                 have g5 := keepc (unhide hb3') f5
                 have g6 := keepc (unhide hb3') f6
                 have g7 := keepc (unhide hb3') f7
                 have g8 := keepc (unhide hb3') f8
                 have g9 := keepc (unhide hb3') f9))
          go_wp2_with fail
          go_ret
          have hne : cmpT tk tk' ≠ 0 := by simpa using (unhide HSB).symm
          have hbb : bb = bv := by rw [unhide HR, unhide HBV, unhide HC, unhide HD, orI_not hne]
          exact ⟨ret_bool hbb.symm, (((below_two _ _ _).trans ((unhide HB).mono (by omega))).trans ((unhide hb2').mono (by have := (unhide HB).size; simp at this; omega))).trans ((unhide hb3').mono (by have := (unhide HB).size; have := (unhide hb2').size; simp at *; omega))⟩
      · go_wp2_with fail
        go_ret
        have h0 : cmpL ks ks' = 0 := by rw [unhide HC, List.drop_of_length_le (by have := unhide HL; omega)]; simp [cmpL]
        exact ⟨ret_bool (by rw [unhide HR, h0]; rfl), hbw⟩

theorem bf_any : ∀ (k : Nat) (t : Tm), t.size ≤ k → BfOk t
  | 0, t, h => by have := t.size_pos; omega
  | k + 1, t, h => bf_step t fun x hx => bf_any k x (by
      cases t with
      | node op n s ks =>
        have := Tm.size_mem (ks := ks) hx
        simp only [Tm.size] at h
        omega)

theorem bf_calls (t : Tm) : BfOk t := bf_any t.size t (Nat.le_refl _)

def kidsOf (op : Int) : Int := if op = 1 ∨ op = 2 then 0 else if op = 4 ∨ op = 6 then 1 else if op = 3 ∨ op = 5 ∨ op = 7 ∨ op = 8 then 2 else -1

theorem kids25 (op : Int) (w : World) : Calls Tryz.prog 160 #[.int .i64 op] w fun e w' => e = .returned (.int .i64 (kidsOf op)) ∧ w' = w := by
  by_cases h1 : op = 1
  · subst h1
    go_enter Tryz.func160, Tryz.ntmps160
    go_wp2_with fail
    go_ret
    exact ⟨rfl, rfl⟩
  by_cases h2 : op = 2
  · subst h2
    go_enter Tryz.func160, Tryz.ntmps160
    go_wp2_with fail
    go_ret
    exact ⟨rfl, rfl⟩
  by_cases h3 : op = 3
  · subst h3
    go_enter Tryz.func160, Tryz.ntmps160
    go_wp2_with fail
    go_ret
    exact ⟨rfl, rfl⟩
  by_cases h4 : op = 4
  · subst h4
    go_enter Tryz.func160, Tryz.ntmps160
    go_wp2_with fail
    go_ret
    exact ⟨rfl, rfl⟩
  by_cases h5 : op = 5
  · subst h5
    go_enter Tryz.func160, Tryz.ntmps160
    go_wp2_with fail
    go_ret
    exact ⟨rfl, rfl⟩
  by_cases h6 : op = 6
  · subst h6
    go_enter Tryz.func160, Tryz.ntmps160
    go_wp2_with fail
    go_ret
    exact ⟨rfl, rfl⟩
  by_cases h7 : op = 7
  · subst h7
    go_enter Tryz.func160, Tryz.ntmps160
    go_wp2_with fail
    go_ret
    exact ⟨rfl, rfl⟩
  by_cases h8 : op = 8
  · subst h8
    go_enter Tryz.func160, Tryz.ntmps160
    go_wp2_with fail
    go_ret
    exact ⟨rfl, rfl⟩
  have HK : Hid (kidsOf op = -1) := by
    show _ = _
    unfold kidsOf
    rw [if_neg (by omega), if_neg (by omega), if_neg (by omega)]
  have q1 : (op == 1) = false := by simpa using h1
  have q2 : (op == 2) = false := by simpa using h2
  have q3 : (op == 3) = false := by simpa using h3
  have q4 : (op == 4) = false := by simpa using h4
  have q5 : (op == 5) = false := by simpa using h5
  have q6 : (op == 6) = false := by simpa using h6
  have q7 : (op == 7) = false := by simpa using h7
  have q8 : (op == 8) = false := by simpa using h8
  clear h1 h2 h3 h4 h5 h6 h7 h8
  go_enter Tryz.func160, Tryz.ntmps160
  go_wp2_with fail
  go_ret
  exact ⟨ret_int (unhide HK).symm, rfl⟩

def inB (x lo hi : Int) : Bool := decide (lo ≤ x ∧ x ≤ hi)

theorem in26 (x lo hi : Int) (w : World) : Calls Tryz.prog 115 #[.int .i64 x, .int .i64 lo, .int .i64 hi] w fun e w' => e = .returned (.bool (inB x lo hi)) ∧ w' = w := by
  by_cases h1 : lo ≤ x
  · have hb : Hid (inB x lo hi = decide (x ≤ hi)) := by show _ = _; unfold inB; simp [h1]
    generalize inB x lo hi = bb at *
    go_enter Tryz.func115, Tryz.ntmps115
    go_wp2_with fail
    go_ret
    exact ⟨ret_bool (unhide hb).symm, rfl⟩
  · have hb : Hid (inB x lo hi = false) := by show _ = _; unfold inB; simp [h1]
    generalize inB x lo hi = bb at *
    have h2 : decide (lo ≤ x) = false := by simpa using h1
    go_enter Tryz.func115, Tryz.ntmps115
    go_wp2_with fail
    go_ret
    exact ⟨ret_bool (unhide hb).symm, rfl⟩

def headB (op n : Int) (s : ByteArray) (len : Nat) : Bool := decide (kidsOf op = len ∧ (op = 1 ∨ n = 0) ∧ (op = 2 ∨ s.size = 0) ∧ (0 ≤ n ∧ n ≤ 1000000) ∧ s.size ≤ 300)
def shareB (op : Int) (ks : List Tm) : Bool := match ks with
  | [x, y] => decide (op ≠ 5) || !beforeB y x
  | _ => true

mutual
def rightT : Tm → Bool
  | .node op n s ks => (headB op n s ks.length && shareB op ks) && rightL ks
def rightL : List Tm → Bool
  | [] => true
  | t :: r => rightT t && rightL r
end

theorem rightL_drop {ks : List Tm} {k : Nat} (h : k < ks.length) : rightL (ks.drop k) = (rightT ks[k] && rightL (ks.drop (k + 1))) := by
  rw [← List.getElem_cons_drop h]
  simp only [rightL]

end Go.Proofs.YtmklgikbajhcpaaGreatDoor
