
/- The walks of spec.l3Ok and impl.newTerm: of whatever term lies in memory they answer it where it is right, else the zero term; the second in new blocks of its own; nothing that was there is written. -/
import Derived.Test.YtpniekfalckdcaaDoorCy
import Derived.Test.YtpniekfalckdcaaDoorCz
import Derived.Test.YtpniekfalckdcaaDoorAv
namespace Go.Proofs.YtpniekfalckdcaaDoor
open Go.RowKit Go.Deep

/-- The box of an argument, and behind it the box of a result. -/
theorem two_boxes {w w2 : World} {op n : Int} {s : ByteArray} {a : Option Addr} {len cap : Nat}
    (hb : Below ((w.alloc (.cells #[.int .i64 op, .int .i64 n, .string s, .slice a len cap] 26)).alloc (.cells #[.int .i64 0, .int .i64 0, .string ByteArray.empty, .slice none 0 0] 26)).heap.size ((w.alloc (.cells #[.int .i64 op, .int .i64 n, .string s, .slice a len cap] 26)).alloc (.cells #[.int .i64 0, .int .i64 0, .string ByteArray.empty, .slice none 0 0] 26)) w2) :
    w2.cell? ⟨w.heap.size, 0, none⟩ = some (.int .i64 op) ∧ w2.cell? ⟨w.heap.size, 1, none⟩ = some (.int .i64 n) ∧ w2.cell? ⟨w.heap.size, 2, none⟩ = some (.string s) ∧ w2.cell? ⟨w.heap.size, 3, none⟩ = some (.slice a len cap) ∧
    w2.cell? ⟨w.heap.size + 1, 0, none⟩ = some (.int .i64 0) ∧ w2.cell? ⟨w.heap.size + 1, 1, none⟩ = some (.int .i64 0) ∧ w2.cell? ⟨w.heap.size + 1, 2, none⟩ = some (.string ByteArray.empty) ∧ w2.cell? ⟨w.heap.size + 1, 3, none⟩ = some (.slice none 0 0) ∧
    w2.frozen? ⟨w.heap.size + 1, 0, none⟩ = false ∧ w2.frozen? ⟨w.heap.size + 1, 1, none⟩ = false ∧ w2.frozen? ⟨w.heap.size + 1, 2, none⟩ = false ∧ w2.frozen? ⟨w.heap.size + 1, 3, none⟩ = false := by
  have h1 : w2.heap[w.heap.size + 1]? = some (.cells #[.int .i64 0, .int .i64 0, .string ByteArray.empty, .slice none 0 0] 26) := by
    rw [hb.block _ (by simp)]
    have := heap_alloc_new (w.alloc (.cells #[.int .i64 op, .int .i64 n, .string s, .slice a len cap] 26)) (.cells #[.int .i64 0, .int .i64 0, .string ByteArray.empty, .slice none 0 0] 26)
    rwa [heap_size_alloc] at this
  have h0 : ∀ j v, (#[.int .i64 op, .int .i64 n, .string s, .slice a len cap] : Array Value)[j]? = some v → w2.cell? ⟨w.heap.size, j, none⟩ = some v := fun j v hv =>
    keepc hb (keepc ((Below.refl _ _).alloc (Nat.le_refl _) _) (box_cell w _ 26 j v hv))
  exact ⟨h0 0 _ rfl, h0 1 _ rfl, h0 2 _ rfl, h0 3 _ rfl, cell_of_row h1 (by simp), cell_of_row h1 (by simp), cell_of_row h1 (by simp), cell_of_row h1 (by simp), frozen_of_row h1, frozen_of_row h1, frozen_of_row h1, frozen_of_row h1⟩

theorem keepf {v v' : World} (h : Below v.heap.size v v') {b o : Nat} (hb : b < v.heap.size) (hc : v.frozen? ⟨b, o, none⟩ = false) : v'.frozen? ⟨b, o, none⟩ = false :=
  (h.frozen (p := ⟨b, o, none⟩) hb).trans hc

/-- The four cells of a term in a block of its own. -/
def RowT (ty : TypeId) (w : World) (b : Nat) (op n : Int) (s : ByteArray) (a : Option Addr) (len cap : Nat) : Prop := w.heap[b]? = some (.cells #[.int .i64 op, .int .i64 n, .string s, .slice a len cap] ty (0, 0))
theorem RowT.new (ty : TypeId) (w : World) (op n : Int) (s : ByteArray) (a : Option Addr) (len cap : Nat) : RowT ty (w.alloc (.cells #[.int .i64 op, .int .i64 n, .string s, .slice a len cap] ty)) w.heap.size op n s a len cap := heap_alloc_new w _
theorem RowT.lt {ty : TypeId} {w : World} {b : Nat} {op n : Int} {s : ByteArray} {a : Option Addr} {len cap : Nat} (h : RowT ty w b op n s a len cap) : b < w.heap.size := lt_of_heap h
theorem RowT.below {ty : TypeId} {w w' : World} {b : Nat} {op n : Int} {s : ByteArray} {a : Option Addr} {len cap : Nat} (h : RowT ty w b op n s a len cap) (hb : Below w.heap.size w w') : RowT ty w' b op n s a len cap := (hb.block b h.lt).trans h
theorem RowT.only {ty : TypeId} {w w' : World} {b : Nat} {op n : Int} {s : ByteArray} {a : Option Addr} {len cap : Nat} {f : List Nat} (h : RowT ty w b op n s a len cap) (hb : Only f w w') (hf : b ∉ f) : RowT ty w' b op n s a len cap := (hb.block b h.lt hf).trans h
theorem RowT.facts {ty : TypeId} {w : World} {b : Nat} {op n : Int} {s : ByteArray} {a : Option Addr} {len cap : Nat} (h : RowT ty w b op n s a len cap) : w.cell? ⟨b, 0, none⟩ = some (.int .i64 op) ∧ w.cell? ⟨b, 1, none⟩ = some (.int .i64 n) ∧ w.cell? ⟨b, 2, none⟩ = some (.string s) ∧ w.cell? ⟨b, 3, none⟩ = some (.slice a len cap) :=
  ⟨cell_of_row h (by simp), cell_of_row h (by simp), cell_of_row h (by simp), cell_of_row h (by simp)⟩

theorem Own.below {w w' : World} {t : Tm} {cs : List Value} {f : List Nat} (h : Own w t cs f) (hb : Below w.heap.size w w') : Own w' t cs f := Own.keep t cs f h fun b hbf => hb.block b (Own.lt t cs f h b hbf)
theorem Own.only {w w' : World} {t : Tm} {cs : List Value} {f g : List Nat} (h : Own w t cs f) (hb : Only g w w') (hd : ∀ x ∈ f, x ∉ g) : Own w' t cs f := Own.keep t cs f h fun b hbf => hb.block b (Own.lt t cs f h b hbf) (hd b hbf)
theorem Own.lies0 {w : World} {t : Tm} {cs : List Value} {f : List Nat} (h : Own w t cs f) : Lies w 0 t cs := Own.lies t cs f h fun _ _ => Nat.zero_le _

theorem set4_heap (w : World) (g : Nat) (x0 x1 x2 x3 : Value) (b : Nat) (h : b ≠ g) : ((((w.setCell ⟨g, 0, none⟩ x0).setCell ⟨g, 1, none⟩ x1).setCell ⟨g, 2, none⟩ x2).setCell ⟨g, 3, none⟩ x3).heap[b]? = w.heap[b]? := by
  rw [Below.heap_setCell _ _ _ _ h, Below.heap_setCell _ _ _ _ h, Below.heap_setCell _ _ _ _ h, Below.heap_setCell _ _ _ _ h]

theorem set4_below {B : Nat} {w v : World} {g : Nat} {x0 x1 x2 x3 : Value} (h : Below B w v) (hg : B ≤ g) : Below B w ((((v.setCell ⟨g, 0, none⟩ x0).setCell ⟨g, 1, none⟩ x1).setCell ⟨g, 2, none⟩ x2).setCell ⟨g, 3, none⟩ x3) :=
  (((h.setCell hg _).setCell hg _).setCell hg _).setCell hg _

/-- The term, or the zero term. -/
def pickT (b : Bool) (t : Tm) : Tm := if b = true then t else .node 0 0 ByteArray.empty []

theorem zero_lies (w : World) (L : Nat) : Lies w L (.node 0 0 ByteArray.empty []) (tmCells 0 0 ByteArray.empty none 0 0) := by
  simp only [Lies]
  exact ⟨none, 0, rfl, ⟨by simp [maxLen], by simp, by simp⟩, ⟨by decide, by decide⟩, by simp [LiesAll]⟩

theorem zero_own (w : World) : Own w (.node 0 0 ByteArray.empty []) (tmCells 0 0 ByteArray.empty none 0 0) [] :=
  Own.of_kids (ks := []) ⟨by simp [maxLen], by simp, by simp⟩ ⟨by decide, by decide⟩ (Or.inl ⟨rfl, rfl⟩)

set_option maxRecDepth 100000 in
set_option maxHeartbeats 1000000 in
theorem l3any (t : Tm) (op n : Int) (s : ByteArray) (a : Option Addr) (len cap : Nat) (w : World) (L : Nat) (hl : Lies w L t (tmCells op n s a len cap)) (hsz : t.size ≤ 2097152) :
    Calls Tryd.prog 58 #[.agg #[.int .i64 op, .int .i64 n, .string s, .slice a len cap]] w fun e w' => ∃ op' n' s' a' len' cap', e = .returned (.agg #[.int .i64 op', .int .i64 n', .string s', .slice a' len' cap']) ∧ Lies w' L (pickT (okT t) t) (tmCells op' n' s' a' len' cap') ∧ Below w.heap.size w w' ∧ (len = cap → len' = cap') := by
  have h8 := hide (ok8 t op n s a len cap)
  have HL0 := hide hl
  have HL := hide ((hl.any (Nat.zero_le L)).below (((Below.refl w.heap.size w).alloc (Nat.le_refl _) (.cells #[.int .i64 op, .int .i64 n, .string s, .slice a len cap] 26)).alloc (by simp) (.cells #[.int .i64 0, .int .i64 0, .string ByteArray.empty, .slice none 0 0] 26)))
  clear hl
  cases hok : okT t with
  | true =>
    rw [hok] at h8
    clear hok
    go_enter Tryd.func58, Tryd.ntmps58
    go_wp2_with fail
    refine (unhide h8 _ (unhide HL) hsz).mono ?_
    rintro e w2 ⟨rfl, hb2⟩
    have hk : Below w.heap.size w w2 := (((Below.refl w.heap.size w).alloc (Nat.le_refl _) _).alloc (by simp) _).trans (hb2.mono (by simp; omega))
    have HB := hide hk
    obtain ⟨c0, c1, c2, c3, d0, d1, d2, d3, e0, e1, e2, e3⟩ := two_boxes hb2
    clear hb2 hk
    go_wp2_with fail
    have hfin := set4_below (g := w.heap.size + 1) (x0 := .int .i64 op) (x1 := .int .i64 n) (x2 := .string s) (x3 := .slice a len cap) (unhide HB) (by omega)
    exact bodyPost_ret (v := .agg #[.int .i64 op, .int .i64 n, .string s, .slice a len cap]) (by simp [results, Tryd.results58, go_sem, d0, d1, d2, d3]) rfl ⟨_, _, _, _, _, _, rfl, (unhide HL0).below hfin, hfin, fun h => h⟩
  | false =>
    rw [hok] at h8
    clear hok
    go_enter Tryd.func58, Tryd.ntmps58
    go_wp2_with fail
    refine (unhide h8 _ (unhide HL) hsz).mono ?_
    rintro e w2 ⟨rfl, hb2⟩
    have hk : Below w.heap.size w w2 := (((Below.refl w.heap.size w).alloc (Nat.le_refl _) _).alloc (by simp) _).trans (hb2.mono (by simp; omega))
    have HB := hide hk
    obtain ⟨c0, c1, c2, c3, d0, d1, d2, d3, e0, e1, e2, e3⟩ := two_boxes hb2
    clear hb2 hk
    go_wp2_with fail
    exact bodyPost_ret (v := .agg #[.int .i64 0, .int .i64 0, .string ByteArray.empty, .slice none 0 0]) (by simp [results, Tryd.results58, go_sem, d0, d1, d2, d3]; rfl) rfl ⟨_, _, _, _, _, _, rfl, zero_lies _ _, set4_below (unhide HB) (by omega), fun _ => rfl⟩

set_option maxRecDepth 100000 in
set_option maxHeartbeats 1000000 in
theorem new_any (t : Tm) (op n : Int) (s : ByteArray) (a : Option Addr) (len cap : Nat) (w : World) (hl : Lies w 0 t (tmCells op n s a len cap)) (hsz : t.size ≤ 2097152) :
    Calls Tryd.prog 47 #[.agg #[.int .i64 op, .int .i64 n, .string s, .slice a len cap]] w fun e w' => ∃ op' n' s' a' len' cap' fp, e = .returned (.agg #[.int .i64 op', .int .i64 n', .string s', .slice a' len' cap']) ∧ Own w' (pickT (okT t) t) (tmCells op' n' s' a' len' cap') fp ∧ (fp.Nodup ∧ ∀ x ∈ fp, w.heap.size ≤ x) ∧ Below w.heap.size w w' := by
  have h8 := hide (ok10 t op n s a len cap)
  have hcy := hide (cy_calls t op n s a len cap)
  have HL := hide (hl.below (((Below.refl w.heap.size w).alloc (Nat.le_refl _) (.cells #[.int .i64 op, .int .i64 n, .string s, .slice a len cap] 26)).alloc (by simp) (.cells #[.int .i64 0, .int .i64 0, .string ByteArray.empty, .slice none 0 0] 26)))
  clear hl
  cases hok : okT t with
  | true =>
    rw [hok] at h8
    clear hok
    go_enter Tryd.func47, Tryd.ntmps47
    go_wp2_with fail
    refine (unhide h8 _ (unhide HL) hsz).mono ?_
    rintro e w2 ⟨rfl, hb2⟩
    have hk : Below w.heap.size w w2 := (((Below.refl w.heap.size w).alloc (Nat.le_refl _) _).alloc (by simp) _).trans (hb2.mono (by simp; omega))
    have HB := hide hk
    have HG : Hid (w.heap.size + 2 ≤ w2.heap.size) := by have := hb2.size; simp at this; exact this
    obtain ⟨c0, c1, c2, c3, d0, d1, d2, d3, e0, e1, e2, e3⟩ := two_boxes hb2
    have HL2 := hide ((unhide HL).below hb2)
    clear hb2 hk
    go_wp2_with fail
    refine (unhide hcy _ (unhide HL2) hsz).mono ?_
    rintro e w3 ⟨a3, cap3, fp, rfl, hO3, ⟨hnd3, hge3⟩, hb3⟩
    have d0' := d0
    have d0 := keepc hb3 d0
    have d1 := keepc hb3 d1
    have d2 := keepc hb3 d2
    have d3 := keepc hb3 d3
    have e0 := keepf hb3 (lt_of_cell d0') e0
    have e1 := keepf hb3 (lt_of_cell d0') e1
    have e2 := keepf hb3 (lt_of_cell d0') e2
    have e3 := keepf hb3 (lt_of_cell d0') e3
    have HB3 := hide ((unhide HB).trans (hb3.mono (unhide HB).size))
    have HO := hide hO3
    have HN := hide hnd3
    have HE := hide hge3
    clear hb3 d0' hO3 hnd3 hge3
    go_wp2_with fail
    refine bodyPost_ret (v := .agg #[.int .i64 op, .int .i64 n, .string s, .slice a3 len cap3]) (by simp [results, Tryd.results47, go_sem, d0, d1, d2, d3]) rfl ⟨op, n, s, a3, len, cap3, fp, rfl, ?_, ⟨unhide HN, fun x hx => ?_⟩, set4_below (unhide HB3) (by omega)⟩
    · exact Own.keep _ _ _ (unhide HO) fun b hb => set4_heap _ _ _ _ _ _ b (by have := unhide HE b hb; have := unhide HG; omega)
    · have := unhide HE x hx; have := unhide HG; omega
  | false =>
    rw [hok] at h8
    clear hok
    go_enter Tryd.func47, Tryd.ntmps47
    go_wp2_with fail
    refine (unhide h8 _ (unhide HL) hsz).mono ?_
    rintro e w2 ⟨rfl, hb2⟩
    have hk : Below w.heap.size w w2 := (((Below.refl w.heap.size w).alloc (Nat.le_refl _) _).alloc (by simp) _).trans (hb2.mono (by simp; omega))
    have HB := hide hk
    obtain ⟨c0, c1, c2, c3, d0, d1, d2, d3, e0, e1, e2, e3⟩ := two_boxes hb2
    clear hb2 hk
    go_wp2_with fail
    exact bodyPost_ret (v := .agg #[.int .i64 0, .int .i64 0, .string ByteArray.empty, .slice none 0 0]) (by simp [results, Tryd.results47, go_sem, d0, d1, d2, d3]; rfl) rfl ⟨_, _, _, _, _, _, [], rfl, zero_own _, ⟨by simp, by simp⟩, set4_below (unhide HB) (by omega)⟩

end Go.Proofs.YtpniekfalckdcaaDoor
