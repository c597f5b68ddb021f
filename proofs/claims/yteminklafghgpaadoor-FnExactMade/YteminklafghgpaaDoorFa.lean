
/- The walk of the method add of what is known: a term that is not there is put, with its exact text; nothing else is written. The walk of the method add where the term is not there: it is put. -/
import Derived.Test.YteminklafghgpaaDoorFm
import Derived.Test.YteminklafghgpaaDoorPr
import Derived.Deep.RegionHeld3
import Derived.Deep.RegionHeld
import Derived.Deep.RegionWith
import Derived.Deep.DeepCutAuto
namespace Go.Proofs.YteminklafghgpaaDoor
open Go.RowKit Go.Deep Go.Maps Go.MapKept

/-- The box of a fact, still as it was made. -/
def FBox (w : World) (g : Nat) : Prop := w.heap[g]? = some (.cells #[.string ByteArray.empty, .int .i64 0, .int .i64 0, .string ByteArray.empty, .slice none 0 0, .int .i64 0] 44 (0, 0))
set_option maxRecDepth 100000 in
theorem FBox.new (w : World) : FBox (w.alloc (.cells #[.string ByteArray.empty, .int .i64 0, .int .i64 0, .string ByteArray.empty, .slice none 0 0, .int .i64 0] 44)) w.heap.size := heap_alloc_new w _
set_option maxRecDepth 100000 in
theorem FBox.below {w w' : World} {g : Nat} (h : FBox w g) (hb : Below w.heap.size w w') : FBox w' g := (hb.block g (lt_of_heap h)).trans h
set_option maxRecDepth 100000 in
theorem FBox.drew {w : World} {g : Nat} (h : FBox w g) : FBox w.drew g := h
set_option maxRecDepth 100000 in
theorem FBox.facts {w : World} {g : Nat} (h : FBox w g) : w.cell? ⟨g, 0, none⟩ = some (.string ByteArray.empty) ∧ w.cell? ⟨g, 1, none⟩ = some (.int .i64 0) ∧ w.cell? ⟨g, 2, none⟩ = some (.int .i64 0) ∧ w.cell? ⟨g, 3, none⟩ = some (.string ByteArray.empty) ∧ w.cell? ⟨g, 4, none⟩ = some (.slice none 0 0) ∧ w.cell? ⟨g, 5, none⟩ = some (.int .i64 0) ∧
    w.frozen? ⟨g, 0, none⟩ = false ∧ w.frozen? ⟨g, 1, none⟩ = false ∧ w.frozen? ⟨g, 2, none⟩ = false ∧ w.frozen? ⟨g, 3, none⟩ = false ∧ w.frozen? ⟨g, 4, none⟩ = false ∧ w.frozen? ⟨g, 5, none⟩ = false :=
  ⟨cell_of_row h (by simp), cell_of_row h (by simp), cell_of_row h (by simp), cell_of_row h (by simp), cell_of_row h (by simp), cell_of_row h (by simp), frozen_of_row h, frozen_of_row h, frozen_of_row h, frozen_of_row h, frozen_of_row h, frozen_of_row h⟩
set_option maxRecDepth 100000 in
theorem FBox.fill {w : World} {g : Nat} (h : FBox w g) (x0 x1 x2 x3 x4 x5 : Value) : ((((((w.setCell ⟨g, 0, none⟩ x0).setCell ⟨g, 1, none⟩ x1).setCell ⟨g, 2, none⟩ x2).setCell ⟨g, 3, none⟩ x3).setCell ⟨g, 4, none⟩ x4).setCell ⟨g, 5, none⟩ x5).heap[g]? = some (.cells #[x0, x1, x2, x3, x4, x5] 44 (0, 0)) := by
  unfold FBox at h
  have r : ∀ {w : World} {b o : Nat} {C : Array Value} {t : TypeId} {fr : Nat × Nat} (v : Value), w.heap[b]? = some (.cells C t fr) → (w.setCell ⟨b, o, none⟩ v).heap[b]? = some (.cells (C.setIfInBounds o v) t fr) := fun v h => by
    simp only [World.setCell, Array.getElem?_modify]
    simp [h]
  exact r (o := 5) x5 (r (o := 4) x4 (r (o := 3) x3 (r (o := 2) x2 (r (o := 1) x1 (r (o := 0) x0 h)))))
set_option maxRecDepth 100000 in
theorem set6_below {B : Nat} {w v : World} {g : Nat} {x0 x1 x2 x3 x4 x5 : Value} (h : Below B w v) (hg : B ≤ g) : Below B w ((((((v.setCell ⟨g, 0, none⟩ x0).setCell ⟨g, 1, none⟩ x1).setCell ⟨g, 2, none⟩ x2).setCell ⟨g, 3, none⟩ x3).setCell ⟨g, 4, none⟩ x4).setCell ⟨g, 5, none⟩ x5) :=
  (((((h.setCell hg _).setCell hg _).setCell hg _).setCell hg _).setCell hg _).setCell hg _

/-- The fact that is to be put lies in a box. -/
def AddCut (x : ByteArray) (op n : Int) (s : ByteArray) (a : Option Addr) (len cap : Nat) (sz : Int) (w2 : World) (p : Value) (wx : World) : Prop := ∃ g, p = .pointer (some ⟨g, 0, none⟩) ∧ wx.heap[g]? = some (.cells #[.string x, .int .i64 op, .int .i64 n, .string s, .slice a len cap, .int .i64 sz] 44 (0, 0)) ∧ Below w2.heap.size w2 wx ∧ w2.heap.size ≤ g

/-- A fact in a block of its own. -/
def FRow (w : World) (g : Nat) (x0 x1 x2 x3 x4 x5 : Value) : Prop := w.heap[g]? = some (.cells #[x0, x1, x2, x3, x4, x5] 44 (0, 0))
set_option maxRecDepth 100000 in
theorem FRow.cells {w : World} {g : Nat} {x0 x1 x2 x3 x4 x5 : Value} (h : FRow w g x0 x1 x2 x3 x4 x5) : w.cell? ⟨g, 0, none⟩ = some x0 ∧ w.cell? ⟨g, 1, none⟩ = some x1 ∧ w.cell? ⟨g, 2, none⟩ = some x2 ∧ w.cell? ⟨g, 3, none⟩ = some x3 ∧ w.cell? ⟨g, 4, none⟩ = some x4 ∧ w.cell? ⟨g, 5, none⟩ = some x5 :=
  ⟨cell_of_row h (by simp), cell_of_row h (by simp), cell_of_row h (by simp), cell_of_row h (by simp), cell_of_row h (by simp), cell_of_row h (by simp)⟩
set_option maxRecDepth 100000 in
theorem FRow.below {w w' : World} {g : Nat} {x0 x1 x2 x3 x4 x5 : Value} (h : FRow w g x0 x1 x2 x3 x4 x5) (hb : Below w.heap.size w w') : FRow w' g x0 x1 x2 x3 x4 x5 := (hb.block g (lt_of_heap h)).trans h

set_option maxRecDepth 100000 in
theorem AddCut.late {x : ByteArray} {op n : Int} {s : ByteArray} {a : Option Addr} {len cap : Nat} {sz : Int} {W0 w2 : World} (hb : Below W0.heap.size W0 w2) : AddCut x op n s a len cap sz W0 (.pointer (some ⟨w2.heap.size, 0, none⟩)) (w2.alloc (.cells #[.string x, .int .i64 op, .int .i64 n, .string s, .slice a len cap, .int .i64 sz] 44)) :=
  ⟨_, rfl, heap_alloc_new w2 _, bt hb (abD _) (Nat.le_refl _), hb.size⟩
set_option maxRecDepth 100000 in
theorem AddCut.early {x : ByteArray} {op n : Int} {s : ByteArray} {a : Option Addr} {len cap : Nat} {sz : Int} {W0 w2 : World} (hb : Below W0.heap.size W0 w2) (hz : FBox w2 W0.heap.size) : AddCut x op n s a len cap sz W0 (.pointer (some ⟨W0.heap.size, 0, none⟩)) ((((((w2.setCell ⟨W0.heap.size, 0, none⟩ (.string x)).setCell ⟨W0.heap.size, 1, none⟩ (.int .i64 op)).setCell ⟨W0.heap.size, 2, none⟩ (.int .i64 n)).setCell ⟨W0.heap.size, 3, none⟩ (.string s)).setCell ⟨W0.heap.size, 4, none⟩ (.slice a len cap)).setCell ⟨W0.heap.size, 5, none⟩ (.int .i64 sz)) :=
  ⟨_, rfl, hz.fill _ _ _ _ _ _, set6_below hb (Nat.le_refl _), Nat.le_refl _⟩

set_option maxRecDepth 100000 in
theorem hD_low {w w' : World} {b n : Nat} {D : DataW Unit} (h : w.ownsMap Tryd.prog 9 factElem b n D) (hb : Below w.heap.size w w') : w'.ownsMap Tryd.prog 9 factElem b n D :=
  h.kept (row := none) ⟨hb.os, hb.tape, hb.output, hb.size, fun k hk _ => hb.block k hk⟩ (by simp)

set_option maxRecDepth 100000 in
set_option maxHeartbeats 2000000 in
theorem add_there (b n0 : Nat) (f : List UInt8 → Bool) (most : Int) (t : Tm) (op n : Int) (s : ByteArray) (a : Option Addr) (len cap : Nat) (w : World) (hf : Facts w b n0 f) (hl : Lies w 0 t (tmCells op n s a len cap)) (hr : rightT t = true) (hz : t.size ≤ 400) (ht : Tab w) (hth : f (exT t) = true) :
    Calls Tryd.prog 23 #[.map (some b), .agg #[.int .i64 op, .int .i64 n, .string s, .slice a len cap], .int .i64 most] w fun e w' => ∃ v, e = .returned v ∧ Below w.heap.size w w' := by
  have h23 := hide (ext_calls t op n s a len cap)
  have hx := exT_le t hr
  have hb0 : Below w.heap.size w ((w.alloc (.cells #[.int .i64 op, .int .i64 n, .string s, .slice a len cap] 31)).alloc (.cells #[.string ByteArray.empty, .int .i64 0, .int .i64 0, .string ByteArray.empty, .slice none 0 0, .int .i64 0] 44)) := (abD _).trans ((abD _).mono (abD _).size)
  have HL := hide (hl.below hb0)
  have HR := hide hr
  have HT := hide (ht.on hb0)
  obtain ⟨D, hD, hDf⟩ := hf
  have HD := hide (World.ownsMap.alloc (World.ownsMap.alloc hD (.cells #[.int .i64 op, .int .i64 n, .string s, .slice a len cap] 31)) (.cells #[.string ByteArray.empty, .int .i64 0, .int .i64 0, .string ByteArray.empty, .slice none 0 0, .int .i64 0] 44))
  have HB := hide hb0
  have HK := hide (key_mk (exT t) (by omega))
  have HH : Hid (Maps.has D (.string (exT t)) = true) := (hDf _).trans hth
  have HZ : Hid (FBox ((w.alloc (.cells #[.int .i64 op, .int .i64 n, .string s, .slice a len cap] 31)).alloc (.cells #[.string ByteArray.empty, .int .i64 0, .int .i64 0, .string ByteArray.empty, .slice none 0 0, .int .i64 0] 44)) (w.heap.size + 1)) := by
    have := FBox.new (w.alloc (.cells #[.int .i64 op, .int .i64 n, .string s, .slice a len cap] 31))
    rwa [heap_size_alloc] at this
  generalize exT t = x at *
  have c0 := kpc (abD (w := w.alloc (.cells #[.int .i64 op, .int .i64 n, .string s, .slice a len cap] 31)) (.cells #[.string ByteArray.empty, .int .i64 0, .int .i64 0, .string ByteArray.empty, .slice none 0 0, .int .i64 0] 44)) (box_cell w #[.int .i64 op, .int .i64 n, .string s, .slice a len cap] 31 0 _ rfl)
  have c1 := kpc (abD (w := w.alloc (.cells #[.int .i64 op, .int .i64 n, .string s, .slice a len cap] 31)) (.cells #[.string ByteArray.empty, .int .i64 0, .int .i64 0, .string ByteArray.empty, .slice none 0 0, .int .i64 0] 44)) (box_cell w #[.int .i64 op, .int .i64 n, .string s, .slice a len cap] 31 1 _ rfl)
  have c2 := kpc (abD (w := w.alloc (.cells #[.int .i64 op, .int .i64 n, .string s, .slice a len cap] 31)) (.cells #[.string ByteArray.empty, .int .i64 0, .int .i64 0, .string ByteArray.empty, .slice none 0 0, .int .i64 0] 44)) (box_cell w #[.int .i64 op, .int .i64 n, .string s, .slice a len cap] 31 2 _ rfl)
  have c3 := kpc (abD (w := w.alloc (.cells #[.int .i64 op, .int .i64 n, .string s, .slice a len cap] 31)) (.cells #[.string ByteArray.empty, .int .i64 0, .int .i64 0, .string ByteArray.empty, .slice none 0 0, .int .i64 0] 44)) (box_cell w #[.int .i64 op, .int .i64 n, .string s, .slice a len cap] 31 3 _ rfl)
  clear hl hr ht hx hb0 hD hDf hth
  go_enter Tryd.func23, Tryd.ntmps23
  go_wp2_with fail
  generalize hgw : (w.alloc (.cells #[.int .i64 op, .int .i64 n, .string s, .slice a len cap] 31)).alloc (.cells #[.string ByteArray.empty, .int .i64 0, .int .i64 0, .string ByteArray.empty, .slice none 0 0, .int .i64 0] 44) = W0 at *
  refine gw_world hgw ?_
  clear hgw
  have l0 := lt_of_cell c0
  have nn0 := Nat.ne_of_lt l0
  have m0 := Ne.symm nn0
  have hln := fun ty => World.ownsMap.len (unhide HD).drew Tryd.underlying38 ty
  have hln2 := fun o ty => World.ownsMap.len ((unhide HD).drew.alloc o) Tryd.underlying38 ty
  go_cut [8] (fun p wx => AddCut ⟨x.toArray⟩ op n s a len cap (Maps.size D) W0 p wx)
  case first =>
    go_region_held (fun y => y.cell? ⟨w.heap.size, 0, none⟩ = some (.int .i64 op) ∧ y.cell? ⟨w.heap.size, 1, none⟩ = some (.int .i64 n) ∧ y.cell? ⟨w.heap.size, 2, none⟩ = some (.string s) ∧ y.cell? ⟨w.heap.size, 3, none⟩ = some (.slice a len cap)) (go_keep)
      (first
        | (go_at_call 30
           refine (unhide h23 _ ?_ (unhide HR) hz ?_).mono ?_
           first
             | exact (unhide HL).below ((Below.refl _ _).drew)
             | exact (unhide HL).below ((abD _).drew)
           first
             | exact Lib.tabBelow_of_tabIs ((unhide HT).on ((Below.refl _ _).drew))
             | exact Lib.tabBelow_of_tabIs ((unhide HT).on ((abD _).drew))
           rintro e w2 ⟨rfl, hb2⟩
           have hb02 : Hid (Below W0.heap.size W0 w2) := by
             first
               | exact below_drew' hb2
               | exact bt (abD _) (below_drew' hb2) (Nat.le_refl _)
           try have zz2 := hide ((FBox.new W0).drew.below hb2)
           try obtain ⟨p0, p1, p2, p3, p4, p5, q0, q1, q2, q3, q4, q5⟩ := (unhide zz2).facts
           try have nz := Nat.ne_of_lt (lt_of_heap (unhide zz2))
           try have mz := Ne.symm nz
           have HD2 := hide (hD_low (unhide HD) (unhide hb02))
           have f0 := kpc (unhide hb02) c0
           have l2 := lt_of_cell f0
           have n2' := Nat.ne_of_lt l2
           have m2 := Ne.symm n2'
           have f1 := kpc (unhide hb02) c1
           have f2 := kpc (unhide hb02) c2
           have f3 := kpc (unhide hb02) c3
           have hln3 := fun ty => World.ownsMap.len (unhide HD2) Tryd.underlying38 ty
           have hln4 := fun o ty => World.ownsMap.len ((unhide HD2).alloc o) Tryd.underlying38 ty))
    all_goals
      go_wp2_with fail
      go_meet
      first
        | (with_reducible refine AddCut.late ?_
           exact unhide hb02)
        | (with_reducible refine AddCut.early ?_ ?_
           · exact unhide hb02
           · exact unhide zz2)
  case rest =>
    obtain ⟨g, rfl, hg, hbx, hge⟩ := hcut
    have HBX := hide ((unhide HB).trans (hbx.mono (unhide HB).size))
    have HDX := hide (hD_low (unhide HD) hbx)
    have HZX := hide ((unhide HZ).below hbx)
    have e0 := cell_of_row hg (j := 0) (by simp)
    simp only [List.getElem_toArray, List.getElem_cons_zero] at e0
    have lz : w.heap.size + 1 < wc.heap.size := lt_of_heap (unhide HZX)
    have nz := Nat.ne_of_lt lz
    have mz := Ne.symm nz
    obtain ⟨p0, p1, p2, p3, p4, p5, q0, q1, q2, q3, q4, q5⟩ := (unhide HZX).facts
    clear hg hbx hge c0 c1 c2 c3 l0 nn0 m0 hln hln2 HL HT HB HD
    go_wp2_with (at_lookup; refine wpList_lookup_own_ok _ rfl _ _ 38 rfl 9 44 law Tryd.underlying38 factElem (zero40 _) (.lit (.bool true)) [] rfl b n0 D rfl (unhide HDX) _ _ rfl (unhide HK) ?_; intro v ps hv; obtain ⟨y1, y2, y3, y4, y5, y6, y7, y8, rfl⟩ := factElem_inv hv; rw [unhide HH])
    have hF : FRow _ (w.heap.size + 1) (.string ⟨#[]⟩) (.int .i64 0) (.int .i64 0) (.string ⟨#[]⟩) (.slice none 0 0) (.int .i64 0) := (unhide HZX).fill (.string ⟨#[]⟩) (.int .i64 0) (.int .i64 0) (.string ⟨#[]⟩) (.slice none 0 0) (.int .i64 0)
    have hS := set6_below (g := w.heap.size + 1) (x0 := .string ⟨#[]⟩) (x1 := .int .i64 0) (x2 := .int .i64 0) (x3 := .string ⟨#[]⟩) (x4 := .slice none 0 0) (x5 := .int .i64 0) (unhide HBX) (by omega)
    obtain ⟨f0, f1, f2, f3, f4, f5⟩ := (hF.below (abD (.cells #[.string y1, .int .i64 y2, .int .i64 y3, .string y4, .slice y5 y6 y7, .int .i64 y8] 44))).cells
    exact bodyPost_ret (v := .tuple #[.agg #[.string ⟨#[]⟩, .int .i64 0, .int .i64 0, .string ⟨#[]⟩, .slice none 0 0, .int .i64 0], .bool false]) (by simp [results, Tryd.results23, go_sem, f0, f1, f2, f3, f4, f5]; try rfl) rfl ⟨_, rfl, hS.alloc hS.size _⟩

set_option maxRecDepth 100000 in
theorem gb_low {w v : World} (h : Below w.heap.size w v) (row : Option Nat) : w.grownBy v row := ⟨h.os, h.tape, h.output, h.size, fun k hk _ => h.block k hk⟩
set_option maxRecDepth 100000 in
theorem gb_set {w v : World} {row : Option Nat} (h : w.grownBy v row) {g o : Nat} (hp : w.heap.size ≤ g) (u : Value) : w.grownBy (v.setCell ⟨g, o, none⟩ u) row :=
  ⟨h.os, h.tape, h.output, by simpa using h.size, fun k hk hne => by rw [Below.heap_setCell _ _ _ _ (by show k ≠ g; omega)]; exact h.block k hk hne⟩
set_option maxRecDepth 100000 in
theorem gb_go {w v u : World} {row : Option Nat} (h : w.grownBy v row) (h2 : v.grownBy u row) : w.grownBy u row :=
  ⟨h2.os.trans h.os, h2.tape.trans h.tape, h2.output.trans h.output, Nat.le_trans h.size h2.size, fun k hk hne => (h2.block k (Nat.lt_of_lt_of_le hk h.size) hne).trans (h.block k hk hne)⟩

set_option maxRecDepth 100000 in
set_option maxHeartbeats 2000000 in
theorem add_new (b n0 : Nat) (f : List UInt8 → Bool) (most : Int) (t : Tm) (op n : Int) (s : ByteArray) (a : Option Addr) (len cap : Nat) (w : World) (hf : Facts w b n0 f) (hl : Lies w 0 t (tmCells op n s a len cap)) (hr : rightT t = true) (hz : t.size ≤ 400) (ht : Tab w) (hth : f (exT t) = false) (hmo : (n0 : Int) < most) (hn0 : n0 ≤ 4194304) :
    Calls Tryd.prog 23 #[.map (some b), .agg #[.int .i64 op, .int .i64 n, .string s, .slice a len cap], .int .i64 most] w fun e w' => ∃ v, e = .returned v ∧ Facts w' b (n0 + 1) (fun l => f l || decide (exT t = l)) ∧ w.grownBy w' (some b) := by
  have h23 := hide (ext_calls t op n s a len cap)
  have hx := exT_le t hr
  have hb0 : Below w.heap.size w ((w.alloc (.cells #[.int .i64 op, .int .i64 n, .string s, .slice a len cap] 31)).alloc (.cells #[.string ByteArray.empty, .int .i64 0, .int .i64 0, .string ByteArray.empty, .slice none 0 0, .int .i64 0] 44)) := (abD _).trans ((abD _).mono (abD _).size)
  have HL := hide (hl.below hb0)
  have HR := hide hr
  have HT := hide (ht.on hb0)
  obtain ⟨D, hD, hDf⟩ := hf
  have HD := hide (World.ownsMap.alloc (World.ownsMap.alloc hD (.cells #[.int .i64 op, .int .i64 n, .string s, .slice a len cap] 31)) (.cells #[.string ByteArray.empty, .int .i64 0, .int .i64 0, .string ByteArray.empty, .slice none 0 0, .int .i64 0] 44))
  have HB := hide hb0
  have HK := hide (key_mk (exT t) (by omega))
  have HH : Hid (Maps.has D (.string (exT t)) = false) := (hDf _).trans hth
  have hsz : ((Maps.size D : Nat) : Int) < most := by have := hD.size_le; omega
  have hsd : decide (most ≤ ((Maps.size D : Nat) : Int)) = false := by simp; omega
  have hbw := hD.lt
  have HPUT : Hid (∀ {W : World} {D' : DataW Unit}, W.ownsMap Tryd.prog 9 factElem b (n0 + 1) D' → D' = D.put (.string (exT t)) (.lit (.bool true)) → Facts W b (n0 + 1) (fun l => f l || decide (exT t = l))) := fun {W D'} h e => ⟨D', h, fun l => by
    subst e
    by_cases hl : l = exT t
    · subst hl
      rw [has_put_same hD.isMap (show WideAt.IsKeyLit (.string (exT t)) from trivial)]
      simp
    · rw [has_put_other (fun e => hl (by injection e)), hDf l]
      simp [Ne.symm hl]⟩
  have HZ : Hid (FBox ((w.alloc (.cells #[.int .i64 op, .int .i64 n, .string s, .slice a len cap] 31)).alloc (.cells #[.string ByteArray.empty, .int .i64 0, .int .i64 0, .string ByteArray.empty, .slice none 0 0, .int .i64 0] 44)) (w.heap.size + 1)) := by
    have := FBox.new (w.alloc (.cells #[.int .i64 op, .int .i64 n, .string s, .slice a len cap] 31))
    rwa [heap_size_alloc] at this
  generalize exT t = x at *
  have c0 := kpc (abD (w := w.alloc (.cells #[.int .i64 op, .int .i64 n, .string s, .slice a len cap] 31)) (.cells #[.string ByteArray.empty, .int .i64 0, .int .i64 0, .string ByteArray.empty, .slice none 0 0, .int .i64 0] 44)) (box_cell w #[.int .i64 op, .int .i64 n, .string s, .slice a len cap] 31 0 _ rfl)
  have c1 := kpc (abD (w := w.alloc (.cells #[.int .i64 op, .int .i64 n, .string s, .slice a len cap] 31)) (.cells #[.string ByteArray.empty, .int .i64 0, .int .i64 0, .string ByteArray.empty, .slice none 0 0, .int .i64 0] 44)) (box_cell w #[.int .i64 op, .int .i64 n, .string s, .slice a len cap] 31 1 _ rfl)
  have c2 := kpc (abD (w := w.alloc (.cells #[.int .i64 op, .int .i64 n, .string s, .slice a len cap] 31)) (.cells #[.string ByteArray.empty, .int .i64 0, .int .i64 0, .string ByteArray.empty, .slice none 0 0, .int .i64 0] 44)) (box_cell w #[.int .i64 op, .int .i64 n, .string s, .slice a len cap] 31 2 _ rfl)
  have c3 := kpc (abD (w := w.alloc (.cells #[.int .i64 op, .int .i64 n, .string s, .slice a len cap] 31)) (.cells #[.string ByteArray.empty, .int .i64 0, .int .i64 0, .string ByteArray.empty, .slice none 0 0, .int .i64 0] 44)) (box_cell w #[.int .i64 op, .int .i64 n, .string s, .slice a len cap] 31 3 _ rfl)
  clear hl hr ht hx hb0 hD hDf hth
  go_enter Tryd.func23, Tryd.ntmps23
  go_wp2_with fail
  generalize hgw : (w.alloc (.cells #[.int .i64 op, .int .i64 n, .string s, .slice a len cap] 31)).alloc (.cells #[.string ByteArray.empty, .int .i64 0, .int .i64 0, .string ByteArray.empty, .slice none 0 0, .int .i64 0] 44) = W0 at *
  refine gw_world hgw ?_
  clear hgw
  have l0 := lt_of_cell c0
  have nn0 := Nat.ne_of_lt l0
  have m0 := Ne.symm nn0
  have hln := fun ty => World.ownsMap.len (unhide HD).drew Tryd.underlying38 ty
  have hln2 := fun o ty => World.ownsMap.len ((unhide HD).drew.alloc o) Tryd.underlying38 ty
  go_cut [8] (fun p wx => AddCut ⟨x.toArray⟩ op n s a len cap (Maps.size D) W0 p wx)
  case first =>
    go_region_held (fun y => y.cell? ⟨w.heap.size, 0, none⟩ = some (.int .i64 op) ∧ y.cell? ⟨w.heap.size, 1, none⟩ = some (.int .i64 n) ∧ y.cell? ⟨w.heap.size, 2, none⟩ = some (.string s) ∧ y.cell? ⟨w.heap.size, 3, none⟩ = some (.slice a len cap)) (go_keep)
      (first
        | (go_at_call 30
           refine (unhide h23 _ ?_ (unhide HR) hz ?_).mono ?_
           first
             | exact (unhide HL).below ((Below.refl _ _).drew)
             | exact (unhide HL).below ((abD _).drew)
           first
             | exact Lib.tabBelow_of_tabIs ((unhide HT).on ((Below.refl _ _).drew))
             | exact Lib.tabBelow_of_tabIs ((unhide HT).on ((abD _).drew))
           rintro e w2 ⟨rfl, hb2⟩
           have hb02 : Hid (Below W0.heap.size W0 w2) := by
             first
               | exact below_drew' hb2
               | exact bt (abD _) (below_drew' hb2) (Nat.le_refl _)
           try have zz2 := hide ((FBox.new W0).drew.below hb2)
           try obtain ⟨p0, p1, p2, p3, p4, p5, q0, q1, q2, q3, q4, q5⟩ := (unhide zz2).facts
           try have nz := Nat.ne_of_lt (lt_of_heap (unhide zz2))
           try have mz := Ne.symm nz
           have HD2 := hide (hD_low (unhide HD) (unhide hb02))
           have f0 := kpc (unhide hb02) c0
           have l2 := lt_of_cell f0
           have n2' := Nat.ne_of_lt l2
           have m2 := Ne.symm n2'
           have f1 := kpc (unhide hb02) c1
           have f2 := kpc (unhide hb02) c2
           have f3 := kpc (unhide hb02) c3
           have hln3 := fun ty => World.ownsMap.len (unhide HD2) Tryd.underlying38 ty
           have hln4 := fun o ty => World.ownsMap.len ((unhide HD2).alloc o) Tryd.underlying38 ty))
    all_goals
      go_wp2_with fail
      go_meet
      first
        | (with_reducible refine AddCut.late ?_
           exact unhide hb02)
        | (with_reducible refine AddCut.early ?_ ?_
           · exact unhide hb02
           · exact unhide zz2)
  case rest =>
    obtain ⟨g, rfl, hg, hbx, hge⟩ := hcut
    have HBX := hide ((unhide HB).trans (hbx.mono (unhide HB).size))
    have HDX := hide (hD_low (unhide HD) hbx)
    have HZX := hide ((unhide HZ).below hbx)
    have HGX : Hid (FRow wc g (.string ⟨x.toArray⟩) (.int .i64 op) (.int .i64 n) (.string s) (.slice a len cap) (.int .i64 (Maps.size D))) := hg
    have lz : w.heap.size + 1 < wc.heap.size := lt_of_heap (unhide HZX)
    have lg : g < wc.heap.size := lt_of_heap hg
    have hgb : w.heap.size + 1 < g := by have := (unhide HZ : FBox W0 (w.heap.size + 1)); have := lt_of_heap this; omega
    have nz := Nat.ne_of_lt lz
    have mz := Ne.symm nz
    have ng := Nat.ne_of_lt lg
    have mg := Ne.symm ng
    have nzg : (w.heap.size + 1 = g) = False := eq_false (by omega)
    have mzg : (g = w.heap.size + 1) = False := eq_false (by omega)
    have HGB := hide hgb
    obtain ⟨e0, e1, e2, e3, e4, e5⟩ := (unhide HGX).cells
    obtain ⟨p0, p1, p2, p3, p4, p5, q0, q1, q2, q3, q4, q5⟩ := (unhide HZX).facts
    clear hg hbx hge c0 c1 c2 c3 l0 nn0 m0 hln hln2 HL HT HB HD hgb
    have hlnX := fun o ty => World.ownsMap.len ((unhide HDX).alloc o) Tryd.underlying38 ty
    go_wp2_with (first | (at_lookup; refine wpList_lookup_own_ok _ rfl _ _ 38 rfl 9 44 law Tryd.underlying38 factElem (zero40 _) (.lit (.bool true)) [] rfl b n0 D rfl (unhide HDX) _ _ rfl (unhide HK) ?_; intro v ps hv; obtain ⟨y1, y2, y3, y4, y5, y6, y7, y8, rfl⟩ := factElem_inv hv; rw [unhide HH]) | (at_mapUpdate; refine wpList_mapUpdate_own _ rfl _ _ _ 38 rfl 9 44 law Tryd.underlying38 factElem b n0 D rfl ((unhide HDX).alloc _) (by unfold maxLen; omega) _ _ _ rfl rfl (unhide HK) (.lit (.bool true)) [] rfl ?_; intro w1 hown1 hgrow1; have HG1 : Hid (FRow w1 g (.string ⟨x.toArray⟩) (.int .i64 op) (.int .i64 n) (.string s) (.slice a len cap) (.int .i64 (Maps.size D))) := (hgrow1.block g (by simp; omega) (by simp; have := unhide HGB; omega)).trans ((unhide HGX).below (abD _)); have HZ1 : Hid (FBox w1 (w.heap.size + 1)) := (hgrow1.block (w.heap.size + 1) (by simp; omega) (by simp; omega)).trans ((unhide HZX).below (abD _)); have HO1 := hide hown1; have HGR1 := hide (gb_go (gb_go (gb_low (unhide HBX) (some b)) (World.grownBy_alloc _ _ _)) hgrow1); clear hown1 hgrow1; obtain ⟨j0, j1, j2, j3, j4, j5⟩ := (unhide HG1).cells; obtain ⟨k0, k1, k2, k3, k4, k5, i0, i1, i2, i3, i4, i5⟩ := (unhide HZ1).facts))
    have hF : FRow _ (w.heap.size + 1) (.string ⟨x.toArray⟩) (.int .i64 op) (.int .i64 n) (.string s) (.slice a len cap) (.int .i64 (Maps.size D)) := (unhide HZ1).fill (.string ⟨x.toArray⟩) (.int .i64 op) (.int .i64 n) (.string s) (.slice a len cap) (.int .i64 (Maps.size D))
    obtain ⟨f0, f1, f2, f3, f4, f5⟩ := hF.cells
    have hob : b ≠ w.heap.size + 1 := by omega
    exact bodyPost_ret (v := .tuple #[.agg #[.string ⟨x.toArray⟩, .int .i64 op, .int .i64 n, .string s, .slice a len cap, .int .i64 (Maps.size D)], .bool true]) (by simp [results, Tryd.results23, go_sem, f0, f1, f2, f3, f4, f5]; try rfl) rfl ⟨_, rfl, unhide HPUT ((((((World.ownsMap.setCell (unhide HO1) hob _).setCell hob _).setCell hob _).setCell hob _).setCell hob _).setCell hob _) rfl, gb_set (gb_set (gb_set (gb_set (gb_set (gb_set (unhide HGR1) (by omega) _) (by omega) _) (by omega) _) (by omega) _) (by omega) _) (by omega) _⟩

end Go.Proofs.YteminklafghgpaaDoor
