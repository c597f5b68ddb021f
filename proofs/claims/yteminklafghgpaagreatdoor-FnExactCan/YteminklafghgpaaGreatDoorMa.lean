
/- The map of what is known: how its entries read; the walks of its methods has and add. The walk of the method add of what is known: a term that is not there is put, with its exact text; nothing else is written. The walk of the method add where the term is not there: it is put. The walks of slices.Index and slices.Contains at a list of at most two bools: whether one of them is false; nothing turns. The walk of the method putTogether: whether a term is put together, by which of its kids are; nothing that was there is written. The walk of the method putTogether at a share, one of whose kids is not made. The walks of the methods spell and makes: the exact text of a right term, and whether it is known or can be put together. The walks of the methods spell and makes: the exact text of a right term, and whether it is known or can be put together. The walk of impl.Made: of whatever list of terms, and whatever term, lie in memory it answers whether the term is right and known or can be put together; nothing that was there is written. -/
import Derived.Test.YteminklafghgpaaGreatDoorAx
import Derived.Test.YteminklafghgpaaGreatDoorPb
import Derived.Maps.Own
import Derived.Maps.OwnOps
import Derived.Maps.OwnSet
import Derived.Test.YteminklafghgpaaGreatDoorPr
import Derived.Deep.RegionHeld3
import Derived.Deep.RegionHeld
import Derived.Deep.RegionWith
import Derived.Deep.DeepCutAuto
namespace Go.Proofs.YteminklafghgpaaGreatDoor
open Go.RowKit Go.Deep Go.Maps Go.MapKept

set_option maxRecDepth 100000 in
theorem law : Keyed Tryz.prog 9 := string_keyed Tryz.underlying9
/-- An entry reads as a fact: a text, a term, a number. -/
def factCells : List Value → Bool
  | [.string _, .int .i64 _, .int .i64 _, .string _, .slice _ _ _, .int .i64 _] => true
  | _ => false
def factElem : Value → Option (DataW Unit × List MemPlace)
  | .agg cs => if factCells cs.toList = true then some (.lit (.bool true), []) else none
  | _ => none
set_option maxRecDepth 100000 in
theorem factElem_mk (s : ByteArray) (o n : Int) (s' : ByteArray) (a : Option Addr) (l c : Nat) (p : Int) : factElem (.agg #[.string s, .int .i64 o, .int .i64 n, .string s', .slice a l c, .int .i64 p]) = some (.lit (.bool true), []) := rfl
set_option maxRecDepth 100000 in
theorem factElem_inv {v : Value} {z : DataW Unit × List MemPlace} (h : factElem v = some z) : ∃ s o n s' a l c p, v = .agg #[.string s, .int .i64 o, .int .i64 n, .string s', .slice a l c, .int .i64 p] := by
  cases v with
  | agg cs =>
    simp only [factElem] at h
    split at h
    · rename_i hc
      unfold factCells at hc
      split at hc
      · rename_i hl
        exact ⟨_, _, _, _, _, _, _, _, congrArg Value.agg (Array.toList_inj.1 hl)⟩
      · cases hc
    · cases h
  | _ => simp [factElem] at h
set_option maxRecDepth 100000 in
theorem zero40 (w : World) : (zeroValue 46).run Tryz.prog w = .ok (.agg #[.string ByteArray.empty, .int .i64 0, .int .i64 0, .string ByteArray.empty, .slice none 0 0, .int .i64 0]) w := by kernel_rfl

/-- Block b is a map of at most n facts, whose texts are those that f tells. -/
def Facts (w : World) (b n : Nat) (f : List UInt8 → Bool) : Prop := ∃ D : DataW Unit, w.ownsMap Tryz.prog 9 factElem b n D ∧ ∀ l, Maps.has D (.string l) = f l
set_option maxRecDepth 100000 in
theorem Facts.low {w w' : World} {b n : Nat} {f : List UInt8 → Bool} (h : Facts w b n f) (hb : Below w.heap.size w w') : Facts w' b n f := by
  obtain ⟨D, hD, hf⟩ := h
  exact ⟨D, hD.kept (row := none) ⟨hb.os, hb.tape, hb.output, hb.size, fun k hk _ => hb.block k hk⟩ (by simp), hf⟩
set_option maxRecDepth 100000 in
theorem Facts.oth {w w' : World} {b n : Nat} {f : List UInt8 → Bool} (h : Facts w b n f) (ho : Oth w w') : Facts w' b n f := by
  obtain ⟨D, ⟨es, cl, hb, r⟩, hf⟩ := h
  exact ⟨D, ⟨es, cl, ho _ _ hb (by simp) (by simp), r⟩, hf⟩
set_option maxRecDepth 100000 in
theorem Facts.new (w : World) : Facts (w.alloc (.map #[] 0)) w.heap.size 0 (fun _ => false) := ⟨_, World.ownsMap_made w _ _ _, fun _ => rfl⟩

set_option maxRecDepth 100000 in
theorem key_mk (l : List UInt8) (hl : l.length ≤ 1000000) : keyOf Tryz.prog 9 (.string ⟨l.toArray⟩) = some (.string l) := by
  have := WideMaps.keyOf_string_mk (P := Tryz.prog) (k := 9) Tryz.underlying9 (s := ⟨l.toArray⟩) (by show l.toArray.size ≤ _; simp [maxLen]; omega)
  simpa using this

set_option maxRecDepth 100000 in
set_option maxHeartbeats 1000000 in
theorem hasI_calls (b n0 : Nat) (f : List UInt8 → Bool) (t : Tm) (op n : Int) (s : ByteArray) (a : Option Addr) (len cap : Nat) (w : World) (hf : Facts w b n0 f) (hl : Lies w 0 t (tmCells op n s a len cap)) (hr : rightT t = true) (hz : t.size ≤ 400) (ht : Tab w) :
    Calls Tryz.prog 73 #[.map (some b), .agg #[.int .i64 op, .int .i64 n, .string s, .slice a len cap]] w fun e w' => e = .returned (.bool (f (exT t))) ∧ Below w.heap.size w w' := by
  have h23 := hide (ext_calls t op n s a len cap)
  have hx := exT_le t hr
  have hb0 := abD (w := w) (.cells #[.int .i64 op, .int .i64 n, .string s, .slice a len cap] 35)
  have HL := hide (hl.below hb0)
  have HR := hide hr
  have HT := hide (Lib.tabBelow_of_tabIs (ht.on hb0))
  have HF := hide (hf.low hb0)
  have HB := hide hb0
  have HK := hide (key_mk (exT t) (by omega))
  have HG : Hid (∀ D : DataW Unit, (∀ l, Maps.has D (.string l) = f l) → Maps.has D (.string (exT t)) = f (exT t)) := fun D h => h _
  generalize exT t = x at *
  clear hf hl hr ht hx hb0
  go_enter Tryz.func73, Tryz.ntmps73
  go_wp2_with fail
  refine (unhide h23 _ (unhide HL) (unhide HR) hz (unhide HT)).mono ?_
  rintro e w2 ⟨rfl, hb2⟩
  obtain ⟨D, hD, hDf⟩ := (unhide HF).low hb2
  have HDF := hide (unhide HG D hDf)
  have HB2 := hide ((unhide HB).trans (hb2.mono (unhide HB).size))
  have HD := hide hD
  clear hb2 hDf hD HF HG
  go_wp2_with (at_lookup; refine wpList_lookup_own_ok _ rfl _ _ 42 rfl 9 46 law Tryz.underlying42 factElem (zero40 _) (.lit (.bool true)) [] rfl b n0 D rfl (unhide HD) _ _ rfl (unhide HK) ?_; intro v ps hv; obtain ⟨y1, y2, y3, y4, y5, y6, y7, y8, rfl⟩ := factElem_inv hv)
  go_ret
  rw [unhide HDF]
  exact ⟨rfl, (unhide HB2).alloc (unhide HB2).size _⟩

/-- The box of a fact, still as it was made. -/
def FBox (w : World) (g : Nat) : Prop := w.heap[g]? = some (.cells #[.string ByteArray.empty, .int .i64 0, .int .i64 0, .string ByteArray.empty, .slice none 0 0, .int .i64 0] 46 (0, 0))
set_option maxRecDepth 100000 in
theorem FBox.new (w : World) : FBox (w.alloc (.cells #[.string ByteArray.empty, .int .i64 0, .int .i64 0, .string ByteArray.empty, .slice none 0 0, .int .i64 0] 46)) w.heap.size := heap_alloc_new w _
set_option maxRecDepth 100000 in
theorem FBox.below {w w' : World} {g : Nat} (h : FBox w g) (hb : Below w.heap.size w w') : FBox w' g := (hb.block g (lt_of_heap h)).trans h
set_option maxRecDepth 100000 in
theorem FBox.drew {w : World} {g : Nat} (h : FBox w g) : FBox w.drew g := h
set_option maxRecDepth 100000 in
theorem FBox.facts {w : World} {g : Nat} (h : FBox w g) : w.cell? ⟨g, 0, none⟩ = some (.string ByteArray.empty) ∧ w.cell? ⟨g, 1, none⟩ = some (.int .i64 0) ∧ w.cell? ⟨g, 2, none⟩ = some (.int .i64 0) ∧ w.cell? ⟨g, 3, none⟩ = some (.string ByteArray.empty) ∧ w.cell? ⟨g, 4, none⟩ = some (.slice none 0 0) ∧ w.cell? ⟨g, 5, none⟩ = some (.int .i64 0) ∧
    w.frozen? ⟨g, 0, none⟩ = false ∧ w.frozen? ⟨g, 1, none⟩ = false ∧ w.frozen? ⟨g, 2, none⟩ = false ∧ w.frozen? ⟨g, 3, none⟩ = false ∧ w.frozen? ⟨g, 4, none⟩ = false ∧ w.frozen? ⟨g, 5, none⟩ = false :=
  ⟨cell_of_row h (by simp), cell_of_row h (by simp), cell_of_row h (by simp), cell_of_row h (by simp), cell_of_row h (by simp), cell_of_row h (by simp), frozen_of_row h, frozen_of_row h, frozen_of_row h, frozen_of_row h, frozen_of_row h, frozen_of_row h⟩
set_option maxRecDepth 100000 in
theorem FBox.fill {w : World} {g : Nat} (h : FBox w g) (x0 x1 x2 x3 x4 x5 : Value) : ((((((w.setCell ⟨g, 0, none⟩ x0).setCell ⟨g, 1, none⟩ x1).setCell ⟨g, 2, none⟩ x2).setCell ⟨g, 3, none⟩ x3).setCell ⟨g, 4, none⟩ x4).setCell ⟨g, 5, none⟩ x5).heap[g]? = some (.cells #[x0, x1, x2, x3, x4, x5] 46 (0, 0)) := by
  unfold FBox at h
  have r : ∀ {w : World} {b o : Nat} {C : Array Value} {t : TypeId} {fr : Nat × Nat} (v : Value), w.heap[b]? = some (.cells C t fr) → (w.setCell ⟨b, o, none⟩ v).heap[b]? = some (.cells (C.setIfInBounds o v) t fr) := fun v h => by
    simp only [World.setCell, Array.getElem?_modify]
    simp [h]
  exact r (o := 5) x5 (r (o := 4) x4 (r (o := 3) x3 (r (o := 2) x2 (r (o := 1) x1 (r (o := 0) x0 h)))))
set_option maxRecDepth 100000 in
theorem set6_below {B : Nat} {w v : World} {g : Nat} {x0 x1 x2 x3 x4 x5 : Value} (h : Below B w v) (hg : B ≤ g) : Below B w ((((((v.setCell ⟨g, 0, none⟩ x0).setCell ⟨g, 1, none⟩ x1).setCell ⟨g, 2, none⟩ x2).setCell ⟨g, 3, none⟩ x3).setCell ⟨g, 4, none⟩ x4).setCell ⟨g, 5, none⟩ x5) :=
  (((((h.setCell hg _).setCell hg _).setCell hg _).setCell hg _).setCell hg _).setCell hg _

/-- The fact that is to be put lies in a box. -/
def AddCut (x : ByteArray) (op n : Int) (s : ByteArray) (a : Option Addr) (len cap : Nat) (sz : Int) (w2 : World) (p : Value) (wx : World) : Prop := ∃ g, p = .pointer (some ⟨g, 0, none⟩) ∧ wx.heap[g]? = some (.cells #[.string x, .int .i64 op, .int .i64 n, .string s, .slice a len cap, .int .i64 sz] 46 (0, 0)) ∧ Below w2.heap.size w2 wx ∧ w2.heap.size ≤ g

/-- A fact in a block of its own. -/
def FRow (w : World) (g : Nat) (x0 x1 x2 x3 x4 x5 : Value) : Prop := w.heap[g]? = some (.cells #[x0, x1, x2, x3, x4, x5] 46 (0, 0))
set_option maxRecDepth 100000 in
theorem FRow.cells {w : World} {g : Nat} {x0 x1 x2 x3 x4 x5 : Value} (h : FRow w g x0 x1 x2 x3 x4 x5) : w.cell? ⟨g, 0, none⟩ = some x0 ∧ w.cell? ⟨g, 1, none⟩ = some x1 ∧ w.cell? ⟨g, 2, none⟩ = some x2 ∧ w.cell? ⟨g, 3, none⟩ = some x3 ∧ w.cell? ⟨g, 4, none⟩ = some x4 ∧ w.cell? ⟨g, 5, none⟩ = some x5 :=
  ⟨cell_of_row h (by simp), cell_of_row h (by simp), cell_of_row h (by simp), cell_of_row h (by simp), cell_of_row h (by simp), cell_of_row h (by simp)⟩
set_option maxRecDepth 100000 in
theorem FRow.below {w w' : World} {g : Nat} {x0 x1 x2 x3 x4 x5 : Value} (h : FRow w g x0 x1 x2 x3 x4 x5) (hb : Below w.heap.size w w') : FRow w' g x0 x1 x2 x3 x4 x5 := (hb.block g (lt_of_heap h)).trans h

set_option maxRecDepth 100000 in
theorem AddCut.late {x : ByteArray} {op n : Int} {s : ByteArray} {a : Option Addr} {len cap : Nat} {sz : Int} {W0 w2 : World} (hb : Below W0.heap.size W0 w2) : AddCut x op n s a len cap sz W0 (.pointer (some ⟨w2.heap.size, 0, none⟩)) (w2.alloc (.cells #[.string x, .int .i64 op, .int .i64 n, .string s, .slice a len cap, .int .i64 sz] 46)) :=
  ⟨_, rfl, heap_alloc_new w2 _, bt hb (abD _) (Nat.le_refl _), hb.size⟩
set_option maxRecDepth 100000 in
theorem AddCut.early {x : ByteArray} {op n : Int} {s : ByteArray} {a : Option Addr} {len cap : Nat} {sz : Int} {W0 w2 : World} (hb : Below W0.heap.size W0 w2) (hz : FBox w2 W0.heap.size) : AddCut x op n s a len cap sz W0 (.pointer (some ⟨W0.heap.size, 0, none⟩)) ((((((w2.setCell ⟨W0.heap.size, 0, none⟩ (.string x)).setCell ⟨W0.heap.size, 1, none⟩ (.int .i64 op)).setCell ⟨W0.heap.size, 2, none⟩ (.int .i64 n)).setCell ⟨W0.heap.size, 3, none⟩ (.string s)).setCell ⟨W0.heap.size, 4, none⟩ (.slice a len cap)).setCell ⟨W0.heap.size, 5, none⟩ (.int .i64 sz)) :=
  ⟨_, rfl, hz.fill _ _ _ _ _ _, set6_below hb (Nat.le_refl _), Nat.le_refl _⟩

set_option maxRecDepth 100000 in
theorem hD_low {w w' : World} {b n : Nat} {D : DataW Unit} (h : w.ownsMap Tryz.prog 9 factElem b n D) (hb : Below w.heap.size w w') : w'.ownsMap Tryz.prog 9 factElem b n D :=
  h.kept (row := none) ⟨hb.os, hb.tape, hb.output, hb.size, fun k hk _ => hb.block k hk⟩ (by simp)

set_option maxRecDepth 100000 in
set_option maxHeartbeats 2000000 in
theorem addI_there (b n0 : Nat) (f : List UInt8 → Bool) (most : Int) (t : Tm) (op n : Int) (s : ByteArray) (a : Option Addr) (len cap : Nat) (w : World) (hf : Facts w b n0 f) (hl : Lies w 0 t (tmCells op n s a len cap)) (hr : rightT t = true) (hz : t.size ≤ 400) (ht : Tab w) (hth : f (exT t) = true) :
    Calls Tryz.prog 34 #[.map (some b), .agg #[.int .i64 op, .int .i64 n, .string s, .slice a len cap], .int .i64 most] w fun e w' => ∃ v, e = .returned v ∧ Below w.heap.size w w' := by
  have h23 := hide (ext_calls t op n s a len cap)
  have hx := exT_le t hr
  have hb0 : Below w.heap.size w ((w.alloc (.cells #[.int .i64 op, .int .i64 n, .string s, .slice a len cap] 35)).alloc (.cells #[.string ByteArray.empty, .int .i64 0, .int .i64 0, .string ByteArray.empty, .slice none 0 0, .int .i64 0] 46)) := (abD _).trans ((abD _).mono (abD _).size)
  have HL := hide (hl.below hb0)
  have HR := hide hr
  have HT := hide (ht.on hb0)
  obtain ⟨D, hD, hDf⟩ := hf
  have HD := hide (World.ownsMap.alloc (World.ownsMap.alloc hD (.cells #[.int .i64 op, .int .i64 n, .string s, .slice a len cap] 35)) (.cells #[.string ByteArray.empty, .int .i64 0, .int .i64 0, .string ByteArray.empty, .slice none 0 0, .int .i64 0] 46))
  have HB := hide hb0
  have HK := hide (key_mk (exT t) (by omega))
  have HH : Hid (Maps.has D (.string (exT t)) = true) := (hDf _).trans hth
  have HZ : Hid (FBox ((w.alloc (.cells #[.int .i64 op, .int .i64 n, .string s, .slice a len cap] 35)).alloc (.cells #[.string ByteArray.empty, .int .i64 0, .int .i64 0, .string ByteArray.empty, .slice none 0 0, .int .i64 0] 46)) (w.heap.size + 1)) := by
    have := FBox.new (w.alloc (.cells #[.int .i64 op, .int .i64 n, .string s, .slice a len cap] 35))
    rwa [heap_size_alloc] at this
  generalize exT t = x at *
  have c0 := kpc (abD (w := w.alloc (.cells #[.int .i64 op, .int .i64 n, .string s, .slice a len cap] 35)) (.cells #[.string ByteArray.empty, .int .i64 0, .int .i64 0, .string ByteArray.empty, .slice none 0 0, .int .i64 0] 46)) (box_cell w #[.int .i64 op, .int .i64 n, .string s, .slice a len cap] 35 0 _ rfl)
  have c1 := kpc (abD (w := w.alloc (.cells #[.int .i64 op, .int .i64 n, .string s, .slice a len cap] 35)) (.cells #[.string ByteArray.empty, .int .i64 0, .int .i64 0, .string ByteArray.empty, .slice none 0 0, .int .i64 0] 46)) (box_cell w #[.int .i64 op, .int .i64 n, .string s, .slice a len cap] 35 1 _ rfl)
  have c2 := kpc (abD (w := w.alloc (.cells #[.int .i64 op, .int .i64 n, .string s, .slice a len cap] 35)) (.cells #[.string ByteArray.empty, .int .i64 0, .int .i64 0, .string ByteArray.empty, .slice none 0 0, .int .i64 0] 46)) (box_cell w #[.int .i64 op, .int .i64 n, .string s, .slice a len cap] 35 2 _ rfl)
  have c3 := kpc (abD (w := w.alloc (.cells #[.int .i64 op, .int .i64 n, .string s, .slice a len cap] 35)) (.cells #[.string ByteArray.empty, .int .i64 0, .int .i64 0, .string ByteArray.empty, .slice none 0 0, .int .i64 0] 46)) (box_cell w #[.int .i64 op, .int .i64 n, .string s, .slice a len cap] 35 3 _ rfl)
  clear hl hr ht hx hb0 hD hDf hth
  go_enter Tryz.func34, Tryz.ntmps34
  go_wp2_with fail
  generalize hgw : (w.alloc (.cells #[.int .i64 op, .int .i64 n, .string s, .slice a len cap] 35)).alloc (.cells #[.string ByteArray.empty, .int .i64 0, .int .i64 0, .string ByteArray.empty, .slice none 0 0, .int .i64 0] 46) = W0 at *
  refine gw_world hgw ?_
  clear hgw
  have l0 := lt_of_cell c0
  have nn0 := Nat.ne_of_lt l0
  have m0 := Ne.symm nn0
  have hln := fun ty => World.ownsMap.len (unhide HD).drew Tryz.underlying42 ty
  have hln2 := fun o ty => World.ownsMap.len ((unhide HD).drew.alloc o) Tryz.underlying42 ty
  go_cut [8] (fun p wx => AddCut ⟨x.toArray⟩ op n s a len cap (Maps.size D) W0 p wx)
  case first =>
    go_region_held (fun y => y.cell? ⟨w.heap.size, 0, none⟩ = some (.int .i64 op) ∧ y.cell? ⟨w.heap.size, 1, none⟩ = some (.int .i64 n) ∧ y.cell? ⟨w.heap.size, 2, none⟩ = some (.string s) ∧ y.cell? ⟨w.heap.size, 3, none⟩ = some (.slice a len cap)) (go_keep)
      (first
        | (go_at_call 47
           refine (unhide h23 _ ?_ (unhide HR) hz ?_).mono ?_
           first
             | exact (unhide HL).below ((Below.refl _ _).drew)
             | exact (unhide HL).below ((abD _).drew)
           first
             | exact Lib.tabBelow_of_tabIs ((unhide HT).on ((Below.refl _ _).drew))
             | exact Lib.tabBelow_of_tabIs ((unhide HT).on ((abD _).drew))
           rintro e w2 ⟨rfl, hb2⟩
           have hb02 : Hid (Below W0.heap.size W0 w2) := by
             first
               | exact below_drew' hb2
               | exact bt (abD _) (below_drew' hb2) (Nat.le_refl _)
           try have zz2 := hide ((FBox.new W0).drew.below hb2)
           try obtain ⟨p0, p1, p2, p3, p4, p5, q0, q1, q2, q3, q4, q5⟩ := (unhide zz2).facts
           try have nz := Nat.ne_of_lt (lt_of_heap (unhide zz2))
           try have mz := Ne.symm nz
           have HD2 := hide (hD_low (unhide HD) (unhide hb02))
           have f0 := kpc (unhide hb02) c0
           have l2 := lt_of_cell f0
           have n2' := Nat.ne_of_lt l2
           have m2 := Ne.symm n2'
           have f1 := kpc (unhide hb02) c1
           have f2 := kpc (unhide hb02) c2
           have f3 := kpc (unhide hb02) c3
           have hln3 := fun ty => World.ownsMap.len (unhide HD2) Tryz.underlying42 ty
           have hln4 := fun o ty => World.ownsMap.len ((unhide HD2).alloc o) Tryz.underlying42 ty))
    all_goals
      go_wp2_with fail
      go_meet
      first
        | (with_reducible refine AddCut.late ?_
           exact unhide hb02)
        | (with_reducible refine AddCut.early ?_ ?_
           · exact unhide hb02
           · exact unhide zz2)
  case rest =>
    obtain ⟨g, rfl, hg, hbx, hge⟩ := hcut
    have HBX := hide ((unhide HB).trans (hbx.mono (unhide HB).size))
    have HDX := hide (hD_low (unhide HD) hbx)
    have HZX := hide ((unhide HZ).below hbx)
    have e0 := cell_of_row hg (j := 0) (by simp)
    simp only [List.getElem_toArray, List.getElem_cons_zero] at e0
    have lz : w.heap.size + 1 < wc.heap.size := lt_of_heap (unhide HZX)
    have nz := Nat.ne_of_lt lz
    have mz := Ne.symm nz
    obtain ⟨p0, p1, p2, p3, p4, p5, q0, q1, q2, q3, q4, q5⟩ := (unhide HZX).facts
    clear hg hbx hge c0 c1 c2 c3 l0 nn0 m0 hln hln2 HL HT HB HD
    go_wp2_with (at_lookup; refine wpList_lookup_own_ok _ rfl _ _ 42 rfl 9 46 law Tryz.underlying42 factElem (zero40 _) (.lit (.bool true)) [] rfl b n0 D rfl (unhide HDX) _ _ rfl (unhide HK) ?_; intro v ps hv; obtain ⟨y1, y2, y3, y4, y5, y6, y7, y8, rfl⟩ := factElem_inv hv; rw [unhide HH])
    have hF : FRow _ (w.heap.size + 1) (.string ⟨#[]⟩) (.int .i64 0) (.int .i64 0) (.string ⟨#[]⟩) (.slice none 0 0) (.int .i64 0) := (unhide HZX).fill (.string ⟨#[]⟩) (.int .i64 0) (.int .i64 0) (.string ⟨#[]⟩) (.slice none 0 0) (.int .i64 0)
    have hS := set6_below (g := w.heap.size + 1) (x0 := .string ⟨#[]⟩) (x1 := .int .i64 0) (x2 := .int .i64 0) (x3 := .string ⟨#[]⟩) (x4 := .slice none 0 0) (x5 := .int .i64 0) (unhide HBX) (by omega)
    obtain ⟨f0, f1, f2, f3, f4, f5⟩ := (hF.below (abD (.cells #[.string y1, .int .i64 y2, .int .i64 y3, .string y4, .slice y5 y6 y7, .int .i64 y8] 46))).cells
    exact bodyPost_ret (v := .tuple #[.agg #[.string ⟨#[]⟩, .int .i64 0, .int .i64 0, .string ⟨#[]⟩, .slice none 0 0, .int .i64 0], .bool false]) (by simp [results, Tryz.results34, go_sem, f0, f1, f2, f3, f4, f5]; try rfl) rfl ⟨_, rfl, hS.alloc hS.size _⟩

set_option maxRecDepth 100000 in
theorem gb_low {w v : World} (h : Below w.heap.size w v) (row : Option Nat) : w.grownBy v row := ⟨h.os, h.tape, h.output, h.size, fun k hk _ => h.block k hk⟩
set_option maxRecDepth 100000 in
theorem gb_set {w v : World} {row : Option Nat} (h : w.grownBy v row) {g o : Nat} (hp : w.heap.size ≤ g) (u : Value) : w.grownBy (v.setCell ⟨g, o, none⟩ u) row :=
  ⟨h.os, h.tape, h.output, by simpa using h.size, fun k hk hne => by rw [Below.heap_setCell _ _ _ _ (by show k ≠ g; omega)]; exact h.block k hk hne⟩
set_option maxRecDepth 100000 in
theorem gb_go {w v u : World} {row : Option Nat} (h : w.grownBy v row) (h2 : v.grownBy u row) : w.grownBy u row :=
  ⟨h2.os.trans h.os, h2.tape.trans h.tape, h2.output.trans h.output, Nat.le_trans h.size h2.size, fun k hk hne => (h2.block k (Nat.lt_of_lt_of_le hk h.size) hne).trans (h.block k hk hne)⟩

set_option maxRecDepth 100000 in
set_option maxHeartbeats 2000000 in
theorem addI_new (b n0 : Nat) (f : List UInt8 → Bool) (most : Int) (t : Tm) (op n : Int) (s : ByteArray) (a : Option Addr) (len cap : Nat) (w : World) (hf : Facts w b n0 f) (hl : Lies w 0 t (tmCells op n s a len cap)) (hr : rightT t = true) (hz : t.size ≤ 400) (ht : Tab w) (hth : f (exT t) = false) (hmo : (n0 : Int) < most) (hn0 : n0 ≤ 4194304) :
    Calls Tryz.prog 34 #[.map (some b), .agg #[.int .i64 op, .int .i64 n, .string s, .slice a len cap], .int .i64 most] w fun e w' => ∃ v, e = .returned v ∧ Facts w' b (n0 + 1) (fun l => f l || decide (exT t = l)) ∧ w.grownBy w' (some b) := by
  have h23 := hide (ext_calls t op n s a len cap)
  have hx := exT_le t hr
  have hb0 : Below w.heap.size w ((w.alloc (.cells #[.int .i64 op, .int .i64 n, .string s, .slice a len cap] 35)).alloc (.cells #[.string ByteArray.empty, .int .i64 0, .int .i64 0, .string ByteArray.empty, .slice none 0 0, .int .i64 0] 46)) := (abD _).trans ((abD _).mono (abD _).size)
  have HL := hide (hl.below hb0)
  have HR := hide hr
  have HT := hide (ht.on hb0)
  obtain ⟨D, hD, hDf⟩ := hf
  have HD := hide (World.ownsMap.alloc (World.ownsMap.alloc hD (.cells #[.int .i64 op, .int .i64 n, .string s, .slice a len cap] 35)) (.cells #[.string ByteArray.empty, .int .i64 0, .int .i64 0, .string ByteArray.empty, .slice none 0 0, .int .i64 0] 46))
  have HB := hide hb0
  have HK := hide (key_mk (exT t) (by omega))
  have HH : Hid (Maps.has D (.string (exT t)) = false) := (hDf _).trans hth
  have hsz : ((Maps.size D : Nat) : Int) < most := by have := hD.size_le; omega
  have hsd : decide (most ≤ ((Maps.size D : Nat) : Int)) = false := by simp; omega
  have hbw := hD.lt
  have HPUT : Hid (∀ {W : World} {D' : DataW Unit}, W.ownsMap Tryz.prog 9 factElem b (n0 + 1) D' → D' = D.put (.string (exT t)) (.lit (.bool true)) → Facts W b (n0 + 1) (fun l => f l || decide (exT t = l))) := fun {W D'} h e => ⟨D', h, fun l => by
    subst e
    by_cases hl : l = exT t
    · subst hl
      rw [has_put_same hD.isMap (show WideAt.IsKeyLit (.string (exT t)) from trivial)]
      simp
    · rw [has_put_other (fun e => hl (by injection e)), hDf l]
      simp [Ne.symm hl]⟩
  have HZ : Hid (FBox ((w.alloc (.cells #[.int .i64 op, .int .i64 n, .string s, .slice a len cap] 35)).alloc (.cells #[.string ByteArray.empty, .int .i64 0, .int .i64 0, .string ByteArray.empty, .slice none 0 0, .int .i64 0] 46)) (w.heap.size + 1)) := by
    have := FBox.new (w.alloc (.cells #[.int .i64 op, .int .i64 n, .string s, .slice a len cap] 35))
    rwa [heap_size_alloc] at this
  generalize exT t = x at *
  have c0 := kpc (abD (w := w.alloc (.cells #[.int .i64 op, .int .i64 n, .string s, .slice a len cap] 35)) (.cells #[.string ByteArray.empty, .int .i64 0, .int .i64 0, .string ByteArray.empty, .slice none 0 0, .int .i64 0] 46)) (box_cell w #[.int .i64 op, .int .i64 n, .string s, .slice a len cap] 35 0 _ rfl)
  have c1 := kpc (abD (w := w.alloc (.cells #[.int .i64 op, .int .i64 n, .string s, .slice a len cap] 35)) (.cells #[.string ByteArray.empty, .int .i64 0, .int .i64 0, .string ByteArray.empty, .slice none 0 0, .int .i64 0] 46)) (box_cell w #[.int .i64 op, .int .i64 n, .string s, .slice a len cap] 35 1 _ rfl)
  have c2 := kpc (abD (w := w.alloc (.cells #[.int .i64 op, .int .i64 n, .string s, .slice a len cap] 35)) (.cells #[.string ByteArray.empty, .int .i64 0, .int .i64 0, .string ByteArray.empty, .slice none 0 0, .int .i64 0] 46)) (box_cell w #[.int .i64 op, .int .i64 n, .string s, .slice a len cap] 35 2 _ rfl)
  have c3 := kpc (abD (w := w.alloc (.cells #[.int .i64 op, .int .i64 n, .string s, .slice a len cap] 35)) (.cells #[.string ByteArray.empty, .int .i64 0, .int .i64 0, .string ByteArray.empty, .slice none 0 0, .int .i64 0] 46)) (box_cell w #[.int .i64 op, .int .i64 n, .string s, .slice a len cap] 35 3 _ rfl)
  clear hl hr ht hx hb0 hD hDf hth
  go_enter Tryz.func34, Tryz.ntmps34
  go_wp2_with fail
  generalize hgw : (w.alloc (.cells #[.int .i64 op, .int .i64 n, .string s, .slice a len cap] 35)).alloc (.cells #[.string ByteArray.empty, .int .i64 0, .int .i64 0, .string ByteArray.empty, .slice none 0 0, .int .i64 0] 46) = W0 at *
  refine gw_world hgw ?_
  clear hgw
  have l0 := lt_of_cell c0
  have nn0 := Nat.ne_of_lt l0
  have m0 := Ne.symm nn0
  have hln := fun ty => World.ownsMap.len (unhide HD).drew Tryz.underlying42 ty
  have hln2 := fun o ty => World.ownsMap.len ((unhide HD).drew.alloc o) Tryz.underlying42 ty
  go_cut [8] (fun p wx => AddCut ⟨x.toArray⟩ op n s a len cap (Maps.size D) W0 p wx)
  case first =>
    go_region_held (fun y => y.cell? ⟨w.heap.size, 0, none⟩ = some (.int .i64 op) ∧ y.cell? ⟨w.heap.size, 1, none⟩ = some (.int .i64 n) ∧ y.cell? ⟨w.heap.size, 2, none⟩ = some (.string s) ∧ y.cell? ⟨w.heap.size, 3, none⟩ = some (.slice a len cap)) (go_keep)
      (first
        | (go_at_call 47
           refine (unhide h23 _ ?_ (unhide HR) hz ?_).mono ?_
           first
             | exact (unhide HL).below ((Below.refl _ _).drew)
             | exact (unhide HL).below ((abD _).drew)
           first
             | exact Lib.tabBelow_of_tabIs ((unhide HT).on ((Below.refl _ _).drew))
             | exact Lib.tabBelow_of_tabIs ((unhide HT).on ((abD _).drew))
           rintro e w2 ⟨rfl, hb2⟩
           have hb02 : Hid (Below W0.heap.size W0 w2) := by
             first
               | exact below_drew' hb2
               | exact bt (abD _) (below_drew' hb2) (Nat.le_refl _)
           try have zz2 := hide ((FBox.new W0).drew.below hb2)
           try obtain ⟨p0, p1, p2, p3, p4, p5, q0, q1, q2, q3, q4, q5⟩ := (unhide zz2).facts
           try have nz := Nat.ne_of_lt (lt_of_heap (unhide zz2))
           try have mz := Ne.symm nz
           have HD2 := hide (hD_low (unhide HD) (unhide hb02))
           have f0 := kpc (unhide hb02) c0
           have l2 := lt_of_cell f0
           have n2' := Nat.ne_of_lt l2
           have m2 := Ne.symm n2'
           have f1 := kpc (unhide hb02) c1
           have f2 := kpc (unhide hb02) c2
           have f3 := kpc (unhide hb02) c3
           have hln3 := fun ty => World.ownsMap.len (unhide HD2) Tryz.underlying42 ty
           have hln4 := fun o ty => World.ownsMap.len ((unhide HD2).alloc o) Tryz.underlying42 ty))
    all_goals
      go_wp2_with fail
      go_meet
      first
        | (with_reducible refine AddCut.late ?_
           exact unhide hb02)
        | (with_reducible refine AddCut.early ?_ ?_
           · exact unhide hb02
           · exact unhide zz2)
  case rest =>
    obtain ⟨g, rfl, hg, hbx, hge⟩ := hcut
    have HBX := hide ((unhide HB).trans (hbx.mono (unhide HB).size))
    have HDX := hide (hD_low (unhide HD) hbx)
    have HZX := hide ((unhide HZ).below hbx)
    have HGX : Hid (FRow wc g (.string ⟨x.toArray⟩) (.int .i64 op) (.int .i64 n) (.string s) (.slice a len cap) (.int .i64 (Maps.size D))) := hg
    have lz : w.heap.size + 1 < wc.heap.size := lt_of_heap (unhide HZX)
    have lg : g < wc.heap.size := lt_of_heap hg
    have hgb : w.heap.size + 1 < g := by have := (unhide HZ : FBox W0 (w.heap.size + 1)); have := lt_of_heap this; omega
    have nz := Nat.ne_of_lt lz
    have mz := Ne.symm nz
    have ng := Nat.ne_of_lt lg
    have mg := Ne.symm ng
    have nzg : (w.heap.size + 1 = g) = False := eq_false (by omega)
    have mzg : (g = w.heap.size + 1) = False := eq_false (by omega)
    have HGB := hide hgb
    obtain ⟨e0, e1, e2, e3, e4, e5⟩ := (unhide HGX).cells
    obtain ⟨p0, p1, p2, p3, p4, p5, q0, q1, q2, q3, q4, q5⟩ := (unhide HZX).facts
    clear hg hbx hge c0 c1 c2 c3 l0 nn0 m0 hln hln2 HL HT HB HD hgb
    have hlnX := fun o ty => World.ownsMap.len ((unhide HDX).alloc o) Tryz.underlying42 ty
    go_wp2_with (first | (at_lookup; refine wpList_lookup_own_ok _ rfl _ _ 42 rfl 9 46 law Tryz.underlying42 factElem (zero40 _) (.lit (.bool true)) [] rfl b n0 D rfl (unhide HDX) _ _ rfl (unhide HK) ?_; intro v ps hv; obtain ⟨y1, y2, y3, y4, y5, y6, y7, y8, rfl⟩ := factElem_inv hv; rw [unhide HH]) | (at_mapUpdate; refine wpList_mapUpdate_own _ rfl _ _ _ 42 rfl 9 46 law Tryz.underlying42 factElem b n0 D rfl ((unhide HDX).alloc _) (by unfold maxLen; omega) _ _ _ rfl rfl (unhide HK) (.lit (.bool true)) [] rfl ?_; intro w1 hown1 hgrow1; have HG1 : Hid (FRow w1 g (.string ⟨x.toArray⟩) (.int .i64 op) (.int .i64 n) (.string s) (.slice a len cap) (.int .i64 (Maps.size D))) := (hgrow1.block g (by simp; omega) (by simp; have := unhide HGB; omega)).trans ((unhide HGX).below (abD _)); have HZ1 : Hid (FBox w1 (w.heap.size + 1)) := (hgrow1.block (w.heap.size + 1) (by simp; omega) (by simp; omega)).trans ((unhide HZX).below (abD _)); have HO1 := hide hown1; have HGR1 := hide (gb_go (gb_go (gb_low (unhide HBX) (some b)) (World.grownBy_alloc _ _ _)) hgrow1); clear hown1 hgrow1; obtain ⟨j0, j1, j2, j3, j4, j5⟩ := (unhide HG1).cells; obtain ⟨k0, k1, k2, k3, k4, k5, i0, i1, i2, i3, i4, i5⟩ := (unhide HZ1).facts))
    have hF : FRow _ (w.heap.size + 1) (.string ⟨x.toArray⟩) (.int .i64 op) (.int .i64 n) (.string s) (.slice a len cap) (.int .i64 (Maps.size D)) := (unhide HZ1).fill (.string ⟨x.toArray⟩) (.int .i64 op) (.int .i64 n) (.string s) (.slice a len cap) (.int .i64 (Maps.size D))
    obtain ⟨f0, f1, f2, f3, f4, f5⟩ := hF.cells
    have hob : b ≠ w.heap.size + 1 := by omega
    exact bodyPost_ret (v := .tuple #[.agg #[.string ⟨x.toArray⟩, .int .i64 op, .int .i64 n, .string s, .slice a len cap, .int .i64 (Maps.size D)], .bool true]) (by simp [results, Tryz.results34, go_sem, f0, f1, f2, f3, f4, f5]; try rfl) rfl ⟨_, rfl, unhide HPUT ((((((World.ownsMap.setCell (unhide HO1) hob _).setCell hob _).setCell hob _).setCell hob _).setCell hob _).setCell hob _) rfl, gb_set (gb_set (gb_set (gb_set (gb_set (gb_set (unhide HGR1) (by omega) _) (by omega) _) (by omega) _) (by omega) _) (by omega) _) (by omega) _⟩

set_option maxRecDepth 100000 in
set_option maxHeartbeats 1000000 in
theorem idx_0 (a : Option Addr) (cap : Nat) (w : World) : Calls Tryz.prog 77 #[.slice a 0 cap, .bool false] w fun e w' => e = .returned (.int .i64 (-1)) ∧ w' = w := by
  go_enter Tryz.func77, Tryz.ntmps77
  go_wp2_with fail
  refine wp_loop_rounds 1 ?_
  rw [rounds_succ]
  go_wp2_with fail
  go_ret
  exact ⟨rfl, rfl⟩

set_option maxRecDepth 100000 in
set_option maxHeartbeats 1000000 in
theorem idx_f (g len cap : Nat) (w : World) (h1 : 0 < len) (h0 : w.cell? ⟨g, 0, none⟩ = some (.bool false)) : Calls Tryz.prog 77 #[.slice (some ⟨g, 0, none⟩) len cap, .bool false] w fun e w' => e = .returned (.int .i64 0) ∧ w' = w := by
  have h2 : (0 : Int) < (len : Int) := by omega
  go_enter Tryz.func77, Tryz.ntmps77
  go_wp2_with fail
  refine wp_loop_rounds 1 ?_
  rw [rounds_succ]
  go_wp2_with fail
  go_ret
  exact ⟨rfl, rfl⟩

set_option maxRecDepth 100000 in
set_option maxHeartbeats 1000000 in
theorem idx_t (g cap : Nat) (w : World) (h0 : w.cell? ⟨g, 0, none⟩ = some (.bool true)) : Calls Tryz.prog 77 #[.slice (some ⟨g, 0, none⟩) 1 cap, .bool false] w fun e w' => e = .returned (.int .i64 (-1)) ∧ w' = w := by
  go_enter Tryz.func77, Tryz.ntmps77
  go_wp2_with fail
  refine wp_loop_rounds 2 ?_
  rw [rounds_succ]
  go_wp2_with fail
  rw [rounds_succ]
  go_wp2_with fail
  go_ret
  exact ⟨rfl, rfl⟩

set_option maxRecDepth 100000 in
set_option maxHeartbeats 1000000 in
theorem idx_tf (g cap : Nat) (w : World) (h0 : w.cell? ⟨g, 0, none⟩ = some (.bool true)) (h1 : w.cell? ⟨g, 1, none⟩ = some (.bool false)) : Calls Tryz.prog 77 #[.slice (some ⟨g, 0, none⟩) 2 cap, .bool false] w fun e w' => e = .returned (.int .i64 1) ∧ w' = w := by
  go_enter Tryz.func77, Tryz.ntmps77
  go_wp2_with fail
  refine wp_loop_rounds 2 ?_
  rw [rounds_succ]
  go_wp2_with fail
  rw [rounds_succ]
  go_wp2_with fail
  go_ret
  exact ⟨rfl, rfl⟩

set_option maxRecDepth 100000 in
set_option maxHeartbeats 1000000 in
theorem idx_tt (g cap : Nat) (w : World) (h0 : w.cell? ⟨g, 0, none⟩ = some (.bool true)) (h1 : w.cell? ⟨g, 1, none⟩ = some (.bool true)) : Calls Tryz.prog 77 #[.slice (some ⟨g, 0, none⟩) 2 cap, .bool false] w fun e w' => e = .returned (.int .i64 (-1)) ∧ w' = w := by
  go_enter Tryz.func77, Tryz.ntmps77
  go_wp2_with fail
  refine wp_loop_rounds 3 ?_
  rw [rounds_succ]
  go_wp2_with fail
  rw [rounds_succ]
  go_wp2_with fail
  rw [rounds_succ]
  go_wp2_with fail
  go_ret
  exact ⟨rfl, rfl⟩

/-- The list of at most two bools that lies in a row of its own. -/
def Bools (w : World) (g : Nat) (bs : List Bool) : Prop := w.heap[g]? = some (.cells (bs.map Value.bool).toArray 4 (0, 0))

set_option maxRecDepth 100000 in
theorem con_of {n : Int} (bs : List Bool) (a : Option Addr) (len cap : Nat) (w : World) (b : Bool) (h : Calls Tryz.prog 77 #[.slice a len cap, .bool false] w fun e w' => e = .returned (.int .i64 n) ∧ w' = w) (hb : decide (0 ≤ n) = b) (hs : b = !bs.all (fun x => x)) :
    Calls Tryz.prog 72 #[.slice a len cap, .bool false] w fun e w' => e = .returned (.bool (!bs.all (fun x => x))) ∧ w' = w := by
  rw [← hs]
  have HC := hide h
  clear h hs
  go_enter Tryz.func72, Tryz.ntmps72
  go_wp2_with fail
  refine (unhide HC).mono ?_
  rintro e w2 ⟨rfl, rfl⟩
  go_wp2_with fail
  go_ret
  exact ⟨by first | rw [hb] | (subst hb; rfl), rfl⟩

set_option maxRecDepth 100000 in
theorem con_calls (bs : List Bool) (g cap : Nat) (w : World) (hl : bs.length ≤ 2) (h : Bools w g bs) :
    Calls Tryz.prog 72 #[.slice (some ⟨g, 0, none⟩) bs.length cap, .bool false] w fun e w' => e = .returned (.bool (!bs.all (fun x => x))) ∧ w' = w := by
  match bs, hl, h with
  | [], _, _ => exact con_of [] _ _ _ w false (idx_0 _ _ w) (by decide) rfl
  | [false], _, h => exact con_of [false] _ _ _ w true (idx_f g 1 cap w (by omega) (cell_of_row h (j := 0) (by simp))) (by decide) rfl
  | [true], _, h => exact con_of [true] _ _ _ w false (idx_t g cap w (cell_of_row h (j := 0) (by simp))) (by decide) rfl
  | [false, y], _, h => exact con_of [false, y] _ _ _ w true (idx_f g 2 cap w (by omega) (cell_of_row h (j := 0) (by simp))) (by decide) (by simp)
  | [true, false], _, h => exact con_of [true, false] _ _ _ w true (idx_tf g cap w (cell_of_row h (j := 0) (by simp)) (cell_of_row h (j := 1) (by simp))) (by decide) rfl
  | [true, true], _, h => exact con_of [true, true] _ _ _ w false (idx_tt g cap w (cell_of_row h (j := 0) (by simp)) (cell_of_row h (j := 1) (by simp))) (by decide) rfl

set_option maxRecDepth 100000 in
/-- The two kids of a term that lies in memory. -/
theorem lies_kids {w : World} {op n : Int} {s : ByteArray} {k0 k1 : Tm} {op2 n2 : Int} {s2 : ByteArray} {a2 : Option Addr} {len2 cap2 : Nat} (hl : Lies w 0 (.node op n s [k0, k1]) (tmCells op2 n2 s2 a2 len2 cap2)) :
    op2 = op ∧ n2 = n ∧ s2 = s ∧ len2 = 2 ∧ ∃ b q op3 n3 s3 a3 len3 cap3 op4 n4 s4 a4 len4 cap4, a2 = some ⟨b, q, none⟩ ∧
      (w.cell? ⟨b, q, none⟩ = some (.int .i64 op3) ∧ w.cell? ⟨b, q + 1, none⟩ = some (.int .i64 n3) ∧ w.cell? ⟨b, q + 2, none⟩ = some (.string s3) ∧ w.cell? ⟨b, q + 3, none⟩ = some (.slice a3 len3 cap3) ∧ Lies w 0 k0 (tmCells op3 n3 s3 a3 len3 cap3)) ∧
      (w.cell? ⟨b, q + 4, none⟩ = some (.int .i64 op4) ∧ w.cell? ⟨b, q + 5, none⟩ = some (.int .i64 n4) ∧ w.cell? ⟨b, q + 6, none⟩ = some (.string s4) ∧ w.cell? ⟨b, q + 7, none⟩ = some (.slice a4 len4 cap4) ∧ Lies w 0 k1 (tmCells op4 n4 s4 a4 len4 cap4)) := by
  have hx := hl
  simp only [Lies, tmCells, List.cons.injEq, Value.int.injEq, Value.string.injEq, Value.slice.injEq, true_and, and_true] at hx
  obtain ⟨a9, c9, ⟨rfl, rfl, rfl, rfl, rfl, rfl⟩, _, _, hka⟩ := hx
  obtain ⟨b, q, op3, n3, s3, a3, len3, cap3, rfl, _, _, r0, r1, r2, r3, hk0⟩ := hka.elem (k := 0) (by simp)
  obtain ⟨b', q', op4, n4, s4, a4, len4, cap4, hab, _, _, r4, r5, r6, r7, hk1⟩ := hka.elem (k := 1) (by simp)
  simp only [Option.some.injEq, Addr.mk.injEq, and_true] at hab
  obtain ⟨rfl, rfl⟩ := hab
  simp only [Nat.zero_mul, Nat.add_zero, Nat.one_mul] at r0 r1 r2 r3 r4 r5 r6 r7
  refine ⟨rfl, rfl, rfl, by simp, b, q, op3, n3, s3, a3, len3, cap3, op4, n4, s4, a4, len4, cap4, rfl, ⟨r0, r1, r2, r3, hk0⟩, ⟨r4, ?_, ?_, ?_, hk1⟩⟩
  · exact r5
  · exact r6
  · exact r7


/-- Whether a text is the exact one of a right term among some. -/
def fK (ps : List Tm) (l : List UInt8) : Bool := ps.any fun p => okT p && decide (exT p = l)
set_option maxRecDepth 100000 in
theorem hasX_fK (ps : List Tm) (t : Tm) : hasX ps t = fK ps (exT t) := rfl

set_option maxRecDepth 100000 in
theorem Bools.low {w w' : World} {g : Nat} {bs : List Bool} (h : Bools w g bs) (hb : Below w.heap.size w w') : Bools w' g bs := (hb.block g (lt_of_heap h)).trans h

set_option maxRecDepth 100000 in
set_option maxHeartbeats 2000000 in
theorem put_1 (m : Option Nat) (n : Int) (s : ByteArray) (a : Option Addr) (len cap : Nat) (mv : Value) (w : World) :
    Calls Tryz.prog 65 #[.map m, .agg #[.int .i64 1, .int .i64 n, .string s, .slice a len cap], mv] w fun e w' => e = .returned (.bool false) ∧ Below w.heap.size w w' := by
  have HB := hide (abD (w := w) (.cells #[.int .i64 1, .int .i64 n, .string s, .slice a len cap] 35))
  go_enter Tryz.func65, Tryz.ntmps65
  go_wp2_with fail
  go_ret
  exact ⟨rfl, unhide HB⟩

set_option maxRecDepth 100000 in
set_option maxHeartbeats 2000000 in
theorem put_all (bs : List Bool) (m : Option Nat) (op n : Int) (s : ByteArray) (a : Option Addr) (len cap g gc : Nat) (w : World) (h1 : op ≠ 1) (hl : bs.length ≤ 2) (hb : Bools w g bs) (hall : bs.all (fun x => x) = true) :
    Calls Tryz.prog 65 #[.map m, .agg #[.int .i64 op, .int .i64 n, .string s, .slice a len cap], .slice (some ⟨g, 0, none⟩) bs.length gc] w fun e w' => e = .returned (.bool true) ∧ Below w.heap.size w w' := by
  have h34 := hide (con_calls bs g gc)
  rw [hall] at h34
  have HB := hide (abD (w := w) (.cells #[.int .i64 op, .int .i64 n, .string s, .slice a len cap] 35))
  have HL := hide (hb.low (abD (.cells #[.int .i64 op, .int .i64 n, .string s, .slice a len cap] 35)))
  have q1 : (op == 1) = false := by simpa using h1
  generalize hlen : bs.length = bl at *
  clear hb hall
  go_enter Tryz.func65, Tryz.ntmps65
  go_wp2_with fail
  refine (unhide h34 _ hl (unhide HL)).mono ?_
  rintro e w2 ⟨rfl, rfl⟩
  go_wp2_with fail
  go_ret
  exact ⟨rfl, unhide HB⟩

set_option maxRecDepth 100000 in
set_option maxHeartbeats 2000000 in
theorem put_no (bs : List Bool) (m : Option Nat) (op n : Int) (s : ByteArray) (a : Option Addr) (len cap g gc : Nat) (w : World) (h1 : op ≠ 1) (h5 : op ≠ 5) (hl : bs.length ≤ 2) (hb : Bools w g bs) (hall : bs.all (fun x => x) = false) :
    Calls Tryz.prog 65 #[.map m, .agg #[.int .i64 op, .int .i64 n, .string s, .slice a len cap], .slice (some ⟨g, 0, none⟩) bs.length gc] w fun e w' => e = .returned (.bool false) ∧ Below w.heap.size w w' := by
  have h34 := hide (con_calls bs g gc)
  rw [hall] at h34
  have HB := hide (abD (w := w) (.cells #[.int .i64 op, .int .i64 n, .string s, .slice a len cap] 35))
  have HL := hide (hb.low (abD (.cells #[.int .i64 op, .int .i64 n, .string s, .slice a len cap] 35)))
  have q1 : (op == 1) = false := by simpa using h1
  have q5 : (op == 5) = false := by simpa using h5
  have HX := hide (box_cell w #[.int .i64 op, .int .i64 n, .string s, .slice a len cap] 35 0 _ rfl)
  generalize hlen : bs.length = bl at *
  clear hb hall
  go_enter Tryz.func65, Tryz.ntmps65
  go_wp2_with fail
  refine (unhide h34 _ hl (unhide HL)).mono ?_
  rintro e w2 ⟨rfl, rfl⟩
  go_wp2_with fail
  go_ret
  exact ⟨rfl, unhide HB⟩

set_option maxRecDepth 100000 in
set_option maxHeartbeats 2000000 in
theorem put_ff (m : Option Nat) (n : Int) (s : ByteArray) (b' q' cap g gc : Nat) (w : World) (hb : Bools w g [false, false]) :
    Calls Tryz.prog 65 #[.map (m), .agg #[.int .i64 5, .int .i64 n, .string s, .slice (some ⟨b', q', none⟩) 2 cap], .slice (some ⟨g, 0, none⟩) 2 gc] w fun e w' => e = .returned (.bool false) ∧ Below w.heap.size w w' := by
  have h34 := hide (con_calls [false, false] g gc)
  have hb0 := abD (w := w) (.cells #[.int .i64 5, .int .i64 n, .string s, .slice (some ⟨b', q', none⟩) 2 cap] 35)
  have HB := hide hb0
  have HL := hide (hb.low hb0)
  have m0 := cell_of_row (hb.low hb0) (j := 0) (by simp)
  have m1 := cell_of_row (hb.low hb0) (j := 1) (by simp)
  simp only [List.map_cons, List.map_nil, List.getElem_toArray, List.getElem_cons_zero, List.getElem_cons_succ] at m0 m1
  clear hb hb0
  go_enter Tryz.func65, Tryz.ntmps65
  go_wp2_with fail
  refine (unhide h34 _ (by simp) (unhide HL)).mono ?_
  rintro e w2 ⟨rfl, rfl⟩
  go_wp2_with fail
  go_ret
  exact ⟨rfl, unhide HB⟩

set_option maxRecDepth 100000 in
set_option maxHeartbeats 2000000 in
theorem put_tf_t (ps : List Tm) (b n0 : Nat) (y : Tm) (n : Int) (s : ByteArray) (b' q' cap g gc : Nat) (op4 n4 : Int) (s4 : ByteArray) (a4 : Option Addr) (len4 cap4 : Nat) (w : World) (hb : Bools w g [true, false]) (r4 : w.cell? ⟨b', q' + 4, none⟩ = some (.int .i64 op4)) (r5 : w.cell? ⟨b', q' + 5, none⟩ = some (.int .i64 n4)) (r6 : w.cell? ⟨b', q' + 6, none⟩ = some (.string s4)) (r7 : w.cell? ⟨b', q' + 7, none⟩ = some (.slice a4 len4 cap4)) (hy : Lies w 0 y (tmCells op4 n4 s4 a4 len4 cap4)) (hf : Facts w b n0 (fK ps)) (ht : Tab w) (he : Err w) (hok : okT (pubT y) = true) (hz : y.size ≤ 300) (hh : hasX ps (pubT y) = true) :
    Calls Tryz.prog 65 #[.map (some b), .agg #[.int .i64 5, .int .i64 n, .string s, .slice (some ⟨b', q', none⟩) 2 cap], .slice (some ⟨g, 0, none⟩) 2 gc] w fun e w' => e = .returned (.bool true) ∧ Below w.heap.size w w' := by
  have h34 := hide (con_calls [true, false] g gc)
  have hb0 := abD (w := w) (.cells #[.int .i64 5, .int .i64 n, .string s, .slice (some ⟨b', q', none⟩) 2 cap] 35)
  have HB := hide hb0
  have HL := hide (hb.low hb0)
  have m0 := cell_of_row (hb.low hb0) (j := 0) (by simp)
  have m1 := cell_of_row (hb.low hb0) (j := 1) (by simp)
  simp only [List.map_cons, List.map_nil, List.getElem_toArray, List.getElem_cons_zero, List.getElem_cons_succ] at m0 m1
  have h36 := hide (pubI y op4 n4 s4 a4 len4 cap4)
  have hmade : madeT 4 [y] = pubT y := by show pickT (okT (pubT y)) (pubT y) = _; rw [hok]; rfl
  rw [hmade] at h36
  have h35 := hide (hasI_calls b n0 (fK ps) (pubT y))
  rw [← hasX_fK, hh] at h35
  have HR := hide (okT_right hok)
  have HZ : Hid ((pubT y).size ≤ 400) := by show _ ≤ _; simp only [pubT, Tm.size, Tm.sizes]; omega
  have HV := hide (hy.below hb0)
  have c0 := kpc hb0 r4
  have c1 := kpc hb0 r5
  have c2 := kpc hb0 r6
  have c3 := kpc hb0 r7
  have HF := hide (hf.low hb0)
  have HT := hide (ht.on hb0)
  have HE := hide (he.on hb0)
  clear hb hb0 r4 r5 r6 r7 hy hf ht he hok hh hmade
  go_enter Tryz.func65, Tryz.ntmps65
  go_wp2_with fail
  refine (unhide h34 _ (by simp) (unhide HL)).mono ?_
  rintro e w2 ⟨rfl, rfl⟩
  go_wp2_with fail
  refine (unhide h36 _ (unhide HV) (by omega) (unhide HE)).mono ?_
  rintro e w3 ⟨op', n', s', a', len', cap', fp, rfl, hO, _, hb3⟩
  have HB3 := hide (bt (unhide HB) hb3 (Nat.le_refl _))
  have HO := hide hO.lies0
  have HF3 := hide ((unhide HF).low hb3)
  have HT3 := hide ((unhide HT).on hb3)
  have m0 := kpc hb3 m0
  have m1 := kpc hb3 m1
  clear hO hb3 c0 c1 c2 c3
  go_wp2_with fail
  refine (unhide h35 op' n' s' a' len' cap' _ (unhide HF3) (unhide HO) (unhide HR) (unhide HZ) (unhide HT3)).mono ?_
  rintro e w4 ⟨rfl, hb4⟩
  have HB4 := hide (bt (unhide HB3) hb4 (Nat.le_refl _))
  have m0 := kpc hb4 m0
  have m1 := kpc hb4 m1
  clear hb4
  go_wp2_with fail
  go_ret
  exact ⟨rfl, unhide HB4⟩

set_option maxRecDepth 100000 in
set_option maxHeartbeats 2000000 in
theorem put_tf_f (ps : List Tm) (b n0 : Nat) (y : Tm) (n : Int) (s : ByteArray) (b' q' cap g gc : Nat) (op4 n4 : Int) (s4 : ByteArray) (a4 : Option Addr) (len4 cap4 : Nat) (w : World) (hb : Bools w g [true, false]) (r4 : w.cell? ⟨b', q' + 4, none⟩ = some (.int .i64 op4)) (r5 : w.cell? ⟨b', q' + 5, none⟩ = some (.int .i64 n4)) (r6 : w.cell? ⟨b', q' + 6, none⟩ = some (.string s4)) (r7 : w.cell? ⟨b', q' + 7, none⟩ = some (.slice a4 len4 cap4)) (hy : Lies w 0 y (tmCells op4 n4 s4 a4 len4 cap4)) (hf : Facts w b n0 (fK ps)) (ht : Tab w) (he : Err w) (hok : okT (pubT y) = true) (hz : y.size ≤ 300) (hh : hasX ps (pubT y) = false) :
    Calls Tryz.prog 65 #[.map (some b), .agg #[.int .i64 5, .int .i64 n, .string s, .slice (some ⟨b', q', none⟩) 2 cap], .slice (some ⟨g, 0, none⟩) 2 gc] w fun e w' => e = .returned (.bool false) ∧ Below w.heap.size w w' := by
  have h34 := hide (con_calls [true, false] g gc)
  have hb0 := abD (w := w) (.cells #[.int .i64 5, .int .i64 n, .string s, .slice (some ⟨b', q', none⟩) 2 cap] 35)
  have HB := hide hb0
  have HL := hide (hb.low hb0)
  have m0 := cell_of_row (hb.low hb0) (j := 0) (by simp)
  have m1 := cell_of_row (hb.low hb0) (j := 1) (by simp)
  simp only [List.map_cons, List.map_nil, List.getElem_toArray, List.getElem_cons_zero, List.getElem_cons_succ] at m0 m1
  have h36 := hide (pubI y op4 n4 s4 a4 len4 cap4)
  have hmade : madeT 4 [y] = pubT y := by show pickT (okT (pubT y)) (pubT y) = _; rw [hok]; rfl
  rw [hmade] at h36
  have h35 := hide (hasI_calls b n0 (fK ps) (pubT y))
  rw [← hasX_fK, hh] at h35
  have HR := hide (okT_right hok)
  have HZ : Hid ((pubT y).size ≤ 400) := by show _ ≤ _; simp only [pubT, Tm.size, Tm.sizes]; omega
  have HV := hide (hy.below hb0)
  have c0 := kpc hb0 r4
  have c1 := kpc hb0 r5
  have c2 := kpc hb0 r6
  have c3 := kpc hb0 r7
  have HF := hide (hf.low hb0)
  have HT := hide (ht.on hb0)
  have HE := hide (he.on hb0)
  clear hb hb0 r4 r5 r6 r7 hy hf ht he hok hh hmade
  go_enter Tryz.func65, Tryz.ntmps65
  go_wp2_with fail
  refine (unhide h34 _ (by simp) (unhide HL)).mono ?_
  rintro e w2 ⟨rfl, rfl⟩
  go_wp2_with fail
  refine (unhide h36 _ (unhide HV) (by omega) (unhide HE)).mono ?_
  rintro e w3 ⟨op', n', s', a', len', cap', fp, rfl, hO, _, hb3⟩
  have HB3 := hide (bt (unhide HB) hb3 (Nat.le_refl _))
  have HO := hide hO.lies0
  have HF3 := hide ((unhide HF).low hb3)
  have HT3 := hide ((unhide HT).on hb3)
  have m0 := kpc hb3 m0
  have m1 := kpc hb3 m1
  clear hO hb3 c0 c1 c2 c3
  go_wp2_with fail
  refine (unhide h35 op' n' s' a' len' cap' _ (unhide HF3) (unhide HO) (unhide HR) (unhide HZ) (unhide HT3)).mono ?_
  rintro e w4 ⟨rfl, hb4⟩
  have HB4 := hide (bt (unhide HB3) hb4 (Nat.le_refl _))
  have m0 := kpc hb4 m0
  have m1 := kpc hb4 m1
  clear hb4
  go_wp2_with fail
  go_ret
  exact ⟨rfl, unhide HB4⟩

set_option maxRecDepth 100000 in
set_option maxHeartbeats 2000000 in
theorem put_ft_t (ps : List Tm) (b n0 : Nat) (x : Tm) (n : Int) (s : ByteArray) (b' q' cap g gc : Nat) (op3 n3 : Int) (s3 : ByteArray) (a3 : Option Addr) (len3 cap3 : Nat) (w : World) (hb : Bools w g [false, true]) (r0 : w.cell? ⟨b', q', none⟩ = some (.int .i64 op3)) (r1 : w.cell? ⟨b', q' + 1, none⟩ = some (.int .i64 n3)) (r2 : w.cell? ⟨b', q' + 2, none⟩ = some (.string s3)) (r3 : w.cell? ⟨b', q' + 3, none⟩ = some (.slice a3 len3 cap3)) (hx : Lies w 0 x (tmCells op3 n3 s3 a3 len3 cap3)) (hf : Facts w b n0 (fK ps)) (ht : Tab w) (he : Err w) (hok : okT (pubT x) = true) (hz : x.size ≤ 300) (hh : hasX ps (pubT x) = true) :
    Calls Tryz.prog 65 #[.map (some b), .agg #[.int .i64 5, .int .i64 n, .string s, .slice (some ⟨b', q', none⟩) 2 cap], .slice (some ⟨g, 0, none⟩) 2 gc] w fun e w' => e = .returned (.bool true) ∧ Below w.heap.size w w' := by
  have h34 := hide (con_calls [false, true] g gc)
  have hb0 := abD (w := w) (.cells #[.int .i64 5, .int .i64 n, .string s, .slice (some ⟨b', q', none⟩) 2 cap] 35)
  have HB := hide hb0
  have HL := hide (hb.low hb0)
  have m0 := cell_of_row (hb.low hb0) (j := 0) (by simp)
  have m1 := cell_of_row (hb.low hb0) (j := 1) (by simp)
  simp only [List.map_cons, List.map_nil, List.getElem_toArray, List.getElem_cons_zero, List.getElem_cons_succ] at m0 m1
  have h36 := hide (pubI x op3 n3 s3 a3 len3 cap3)
  have hmade : madeT 4 [x] = pubT x := by show pickT (okT (pubT x)) (pubT x) = _; rw [hok]; rfl
  rw [hmade] at h36
  have h35 := hide (hasI_calls b n0 (fK ps) (pubT x))
  rw [← hasX_fK, hh] at h35
  have HR := hide (okT_right hok)
  have HZ : Hid ((pubT x).size ≤ 400) := by show _ ≤ _; simp only [pubT, Tm.size, Tm.sizes]; omega
  have HV := hide (hx.below hb0)
  have c0 := kpc hb0 r0
  have c1 := kpc hb0 r1
  have c2 := kpc hb0 r2
  have c3 := kpc hb0 r3
  have HF := hide (hf.low hb0)
  have HT := hide (ht.on hb0)
  have HE := hide (he.on hb0)
  clear hb hb0 r0 r1 r2 r3 hx hf ht he hok hh hmade
  go_enter Tryz.func65, Tryz.ntmps65
  go_wp2_with fail
  refine (unhide h34 _ (by simp) (unhide HL)).mono ?_
  rintro e w2 ⟨rfl, rfl⟩
  go_wp2_with fail
  refine (unhide h36 _ (unhide HV) (by omega) (unhide HE)).mono ?_
  rintro e w3 ⟨op', n', s', a', len', cap', fp, rfl, hO, _, hb3⟩
  have HB3 := hide (bt (unhide HB) hb3 (Nat.le_refl _))
  have HO := hide hO.lies0
  have HF3 := hide ((unhide HF).low hb3)
  have HT3 := hide ((unhide HT).on hb3)
  have m0 := kpc hb3 m0
  have m1 := kpc hb3 m1
  clear hO hb3 c0 c1 c2 c3
  go_wp2_with fail
  refine (unhide h35 op' n' s' a' len' cap' _ (unhide HF3) (unhide HO) (unhide HR) (unhide HZ) (unhide HT3)).mono ?_
  rintro e w4 ⟨rfl, hb4⟩
  have HB4 := hide (bt (unhide HB3) hb4 (Nat.le_refl _))
  have m0 := kpc hb4 m0
  have m1 := kpc hb4 m1
  clear hb4
  go_wp2_with fail
  go_ret
  exact ⟨rfl, unhide HB4⟩

set_option maxRecDepth 100000 in
set_option maxHeartbeats 2000000 in
theorem put_ft_f (ps : List Tm) (b n0 : Nat) (x : Tm) (n : Int) (s : ByteArray) (b' q' cap g gc : Nat) (op3 n3 : Int) (s3 : ByteArray) (a3 : Option Addr) (len3 cap3 : Nat) (w : World) (hb : Bools w g [false, true]) (r0 : w.cell? ⟨b', q', none⟩ = some (.int .i64 op3)) (r1 : w.cell? ⟨b', q' + 1, none⟩ = some (.int .i64 n3)) (r2 : w.cell? ⟨b', q' + 2, none⟩ = some (.string s3)) (r3 : w.cell? ⟨b', q' + 3, none⟩ = some (.slice a3 len3 cap3)) (hx : Lies w 0 x (tmCells op3 n3 s3 a3 len3 cap3)) (hf : Facts w b n0 (fK ps)) (ht : Tab w) (he : Err w) (hok : okT (pubT x) = true) (hz : x.size ≤ 300) (hh : hasX ps (pubT x) = false) :
    Calls Tryz.prog 65 #[.map (some b), .agg #[.int .i64 5, .int .i64 n, .string s, .slice (some ⟨b', q', none⟩) 2 cap], .slice (some ⟨g, 0, none⟩) 2 gc] w fun e w' => e = .returned (.bool false) ∧ Below w.heap.size w w' := by
  have h34 := hide (con_calls [false, true] g gc)
  have hb0 := abD (w := w) (.cells #[.int .i64 5, .int .i64 n, .string s, .slice (some ⟨b', q', none⟩) 2 cap] 35)
  have HB := hide hb0
  have HL := hide (hb.low hb0)
  have m0 := cell_of_row (hb.low hb0) (j := 0) (by simp)
  have m1 := cell_of_row (hb.low hb0) (j := 1) (by simp)
  simp only [List.map_cons, List.map_nil, List.getElem_toArray, List.getElem_cons_zero, List.getElem_cons_succ] at m0 m1
  have h36 := hide (pubI x op3 n3 s3 a3 len3 cap3)
  have hmade : madeT 4 [x] = pubT x := by show pickT (okT (pubT x)) (pubT x) = _; rw [hok]; rfl
  rw [hmade] at h36
  have h35 := hide (hasI_calls b n0 (fK ps) (pubT x))
  rw [← hasX_fK, hh] at h35
  have HR := hide (okT_right hok)
  have HZ : Hid ((pubT x).size ≤ 400) := by show _ ≤ _; simp only [pubT, Tm.size, Tm.sizes]; omega
  have HV := hide (hx.below hb0)
  have c0 := kpc hb0 r0
  have c1 := kpc hb0 r1
  have c2 := kpc hb0 r2
  have c3 := kpc hb0 r3
  have HF := hide (hf.low hb0)
  have HT := hide (ht.on hb0)
  have HE := hide (he.on hb0)
  clear hb hb0 r0 r1 r2 r3 hx hf ht he hok hh hmade
  go_enter Tryz.func65, Tryz.ntmps65
  go_wp2_with fail
  refine (unhide h34 _ (by simp) (unhide HL)).mono ?_
  rintro e w2 ⟨rfl, rfl⟩
  go_wp2_with fail
  refine (unhide h36 _ (unhide HV) (by omega) (unhide HE)).mono ?_
  rintro e w3 ⟨op', n', s', a', len', cap', fp, rfl, hO, _, hb3⟩
  have HB3 := hide (bt (unhide HB) hb3 (Nat.le_refl _))
  have HO := hide hO.lies0
  have HF3 := hide ((unhide HF).low hb3)
  have HT3 := hide ((unhide HT).on hb3)
  have m0 := kpc hb3 m0
  have m1 := kpc hb3 m1
  clear hO hb3 c0 c1 c2 c3
  go_wp2_with fail
  refine (unhide h35 op' n' s' a' len' cap' _ (unhide HF3) (unhide HO) (unhide HR) (unhide HZ) (unhide HT3)).mono ?_
  rintro e w4 ⟨rfl, hb4⟩
  have HB4 := hide (bt (unhide HB3) hb4 (Nat.le_refl _))
  have m0 := kpc hb4 m0
  have m1 := kpc hb4 m1
  clear hb4
  go_wp2_with fail
  go_ret
  exact ⟨rfl, unhide HB4⟩

set_option maxRecDepth 100000 in
/-- putTogether at whatever right term. -/
theorem put_calls (ps : List Tm) (b n0 : Nat) (bs : List Bool) (ks : List Tm) (op n : Int) (s : ByteArray) (a : Option Addr) (len cap g gc : Nat) (w : World) (hl : Lies w 0 (.node op n s ks) (tmCells op n s a len cap)) (hok : okT (.node op n s ks) = true) (hbl : bs.length = ks.length) (hb : Bools w g bs) (hf : Facts w b n0 (fK ps)) (ht : Tab w) (he : Err w) :
    Calls Tryz.prog 65 #[.map (some b), .agg #[.int .i64 op, .int .i64 n, .string s, .slice a len cap], .slice (some ⟨g, 0, none⟩) ks.length gc] w fun e w' => e = .returned (.bool (putX ps op ks bs)) ∧ Below w.heap.size w w' := by
  have hk2 : ks.length ≤ 2 := by
    have h := okT_right hok
    simp only [rightT, Bool.and_eq_true, headB, decide_eq_true_eq] at h
    have h1 := h.1.1.1
    unfold kidsOf at h1
    split at h1
    · omega
    · split at h1
      · omega
      · split at h1
        · omega
        · omega
  by_cases h1 : op = 1
  · subst h1
    have : putX ps 1 ks bs = false := by simp [putX]
    rw [this]
    exact put_1 _ n s a len cap _ w
  cases hall : bs.all (fun x => x) with
  | true =>
    have : putX ps op ks bs = true := by simp [putX, h1, hall]
    rw [this, ← hbl]
    exact put_all bs _ op n s a len cap g gc w h1 (by omega) hb hall
  | false =>
    by_cases h5 : op = 5
    · subst h5
      have hk : ∃ x y, ks = [x, y] := by
        have h := okT_right hok
        simp only [rightT, Bool.and_eq_true, headB, decide_eq_true_eq] at h
        have h1 : kidsOf 5 = ks.length := h.1.1.1
        have h2 : kidsOf 5 = 2 := by decide
        match ks, (by omega : ks.length = 2) with
        | [x, y], _ => exact ⟨x, y, rfl⟩
      obtain ⟨x, y, rfl⟩ := hk
      obtain ⟨-, -, -, rfl, b', q', op3, n3, s3, a3, len3, cap3, op4, n4, s4, a4, len4, cap4, rfl, ⟨r0, r1, r2, r3, hx⟩, r4, r5, r6, r7, hy⟩ := lies_kids hl
      have hsz : x.size + y.size ≤ 199 := by
        unfold okT at hok
        rw [Bool.and_eq_true] at hok
        have h3 := of_decide_eq_true hok.1
        simp only [Tm.size, Tm.sizes] at h3
        omega
      have hpx := okT_pub (okT_kids hok (x := x) (by simp)) (by omega)
      have hpy := okT_pub (okT_kids hok (x := y) (by simp)) (by omega)
      match bs, hbl, hall, hb with
      | [false, false], _, _, hb =>
        have : putX ps 5 [x, y] [false, false] = false := by simp [putX]
        rw [this]
        exact put_ff _ n s b' q' cap g gc w hb
      | [true, false], _, _, hb =>
        have : putX ps 5 [x, y] [true, false] = hasX ps (pubT y) := by simp [putX]
        rw [this]
        cases hh : hasX ps (pubT y) with
        | true => exact put_tf_t ps b n0 y n s b' q' cap g gc op4 n4 s4 a4 len4 cap4 w hb r4 r5 r6 r7 hy hf ht he hpy (by omega) hh
        | false => exact put_tf_f ps b n0 y n s b' q' cap g gc op4 n4 s4 a4 len4 cap4 w hb r4 r5 r6 r7 hy hf ht he hpy (by omega) hh
      | [false, true], _, _, hb =>
        have : putX ps 5 [x, y] [false, true] = hasX ps (pubT x) := by simp [putX]
        rw [this]
        cases hh : hasX ps (pubT x) with
        | true => exact put_ft_t ps b n0 x n s b' q' cap g gc op3 n3 s3 a3 len3 cap3 w hb r0 r1 r2 r3 hx hf ht he hpx (by omega) hh
        | false => exact put_ft_f ps b n0 x n s b' q' cap g gc op3 n3 s3 a3 len3 cap3 w hb r0 r1 r2 r3 hx hf ht he hpx (by omega) hh
      | [true, true], _, hall, _ => simp at hall
    · have : putX ps op ks bs = false := by simp [putX, h1, h5, hall]
      rw [this, ← hbl]
      exact put_no bs _ op n s a len cap g gc w h1 h5 (by omega) hb hall

set_option maxRecDepth 100000 in
theorem info4 : (Tryz.prog.info? 4).map (fun i => (i.zero, i.size, i.bytes)) = some (some (.bool false), 1, 1) := by kernel_rfl
set_option maxRecDepth 100000 in
theorem made_bools : ∀ n : Nat, n ≤ 2 → madeCells (Value.bool false).cells (n * 1) = ((List.replicate n false).map Value.bool).toArray
  | 0, _ => by kernel_rfl
  | 1, _ => by kernel_rfl
  | 2, _ => by kernel_rfl
  | n + 3, h => by omega
set_option maxRecDepth 100000 in
theorem make_bools (n : Nat) (hn : n ≤ 2) (w : World) : (Instr.makeSlice 102 (.int .i64 (n : Int)) (.int .i64 (n : Int))).run Tryz.prog w = .ok (.slice (some ⟨w.heap.size, 0, none⟩) n n) (w.alloc (.cells ((List.replicate n false).map Value.bool).toArray 4)) := by
  obtain ⟨i, hi, hzz⟩ := Option.map_eq_some_iff.1 info4
  simp only [Prod.mk.injEq] at hzz
  obtain ⟨hz, hs, hby⟩ := hzz
  have := run_makeSlice (P := Tryz.prog) w 102 4 i (.bool false) Tryz.underlying102 hi hz .i64 .i64 (n : Int) (n : Int) (by omega) (by omega) (by rw [hs]; simp; omega) (by rw [hby]; omega) (by omega)
  rw [hs] at this
  simp only [Int.toNat_natCast] at this
  rw [this, made_bools n hn]

set_option maxRecDepth 100000 in
theorem Bools.new (w : World) (bs : List Bool) : Bools (w.alloc (.cells (bs.map Value.bool).toArray 4)) w.heap.size bs := heap_alloc_new w _
set_option maxRecDepth 100000 in
theorem Bools.oth {w w' : World} {g : Nat} {bs : List Bool} (h : Bools w g bs) (ho : Oth w w') : Bools w' g bs := ho.row h (by decide)
set_option maxRecDepth 100000 in
theorem Bools.set {w : World} {g : Nat} {bs : List Bool} (h : Bools w g bs) (k : Nat) (x : Bool) : Bools (w.setCell ⟨g, k, none⟩ (.bool x)) g (bs.set k x) := by
  unfold Bools at h ⊢
  simp only [World.setCell, Array.getElem?_modify]
  simp [h, List.map_set]
set_option maxRecDepth 100000 in
theorem Bools.cell {w : World} {g : Nat} {bs : List Bool} (h : Bools w g bs) {k : Nat} (hk : k < bs.length) : ∃ x, w.cell? ⟨g, k, none⟩ = some (.bool x) :=
  ⟨bs[k], by have := cell_of_row h (j := k) (by simpa using hk); simpa using this⟩

set_option maxRecDepth 100000 in
theorem Bts.apart4 {w wr : World} {l : List UInt8} {v : Value} {b : Nat} {C : Array Value} {fr : Nat × Nat} (h : Bts w l v wr) (hr : wr.heap[b]? = some (.cells C 4 fr)) : some b ≠ v.ownBlock := by
  rcases h.2 with ⟨h1, _⟩ | ⟨g, cap, cur, h1, _, h2, _⟩
  · rw [h1]; simp [Value.ownBlock]
  · rw [h1]
    intro e
    simp only [Value.ownBlock, Option.some.injEq] at e
    subst e
    rw [h2] at hr
    simp at hr
set_option maxRecDepth 100000 in
theorem gb_set1 (w : World) (g k : Nat) (x : Value) : w.grownBy (w.setCell ⟨g, k, none⟩ x) (some g) :=
  ⟨rfl, rfl, rfl, by simp, fun i _ hne => Below.heap_setCell _ _ _ _ (fun e => hne (by rw [e]))⟩
set_option maxRecDepth 100000 in
theorem kids_le {op n : Int} {s : ByteArray} {ks : List Tm} (hok : okT (.node op n s ks) = true) : ks.length ≤ 2 := by
  have h := okT_right hok
  simp only [rightT, Bool.and_eq_true, headB, decide_eq_true_eq] at h
  have h1 := h.1.1.1
  unfold kidsOf at h1
  split at h1
  · omega
  · split at h1
    · omega
    · split at h1
      · omega
      · omega
set_option maxRecDepth 100000 in
theorem Bts.set {w wr : World} {l : List UInt8} {v : Value} {g k : Nat} {bs : List Bool} (h : Bts w l v wr) (hb : Bools wr g bs) (x : Value) : Bts w l v (wr.setCell ⟨g, k, none⟩ x) :=
  World.ownsRow.kept h (row := some g) (gb_set1 wr g k x) (Or.inr (Ne.symm (h.apart4 hb)))
set_option maxRecDepth 100000 in
theorem Bts.full {w wr : World} {l : List UInt8} {v : Value} (h : Bts w l v wr) (hne : l ≠ []) : ∃ g c, v = .slice (some ⟨g, 0, none⟩) l.length c ∧ l.length ≤ c := by
  have h1 := h.1
  rcases h.2 with ⟨_, h2⟩ | ⟨g, cap, cur, e, h3⟩
  · exact absurd (by simpa using h2) hne
  · refine ⟨g, cap, e, ?_⟩
    obtain ⟨_, _, h4⟩ := h3
    omega
set_option maxRecDepth 100000 in
theorem Bts.tail {w wr : World} {l m : List UInt8} {g c n : Nat} (h : Bts w (l ++ m) (.slice (some ⟨g, 0, none⟩) n c) wr) (c' : Nat) : (convert 65 9 (.slice (some ⟨g, l.length, none⟩) m.length c')).run Tryz.prog wr = .ok (.string ⟨m.toArray⟩) wr :=
  run_convert_bytes_back wr 65 9 5 ⟨g, l.length, none⟩ c' m Tryz.underlying65 Tryz.underlying5 Tryz.underlying9 fun j hj => by
    have := World.ownsRow.cells h (g := g) rfl (l.length + j) (.int .u8 m[j].toNat) (by simp [hj])
    rw [Addr.add_mid] at this ⊢
    simpa using this
set_option maxRecDepth 100000 in
theorem Oth.set {w w' : World} (h : Oth w w') {g k : Nat} (hg : w.heap.size ≤ g) (x : Value) : Oth w (w'.setCell ⟨g, k, none⟩ x) := fun i o hi hb ho => by
  have hlt := (Array.getElem?_eq_some_iff.1 hi).1
  rw [Below.heap_setCell _ _ _ _ (by show i ≠ g; omega)]
  exact h i o hi hb ho
set_option maxRecDepth 100000 in
theorem spL_take (ps : List Tm) {ks : List Tm} {k : Nat} (h : k < ks.length) : (spL ps (ks.take k) ++ List.replicate (ks.length - k) false).set k (spX ps ks[k]) = spL ps (ks.take (k + 1)) ++ List.replicate (ks.length - (k + 1)) false := by
  rw [spL_map, spL_map, ← List.take_append_getElem h]
  obtain ⟨m, hm⟩ : ∃ m, ks.length - k = m + 1 := ⟨ks.length - k - 1, by omega⟩
  have hm2 : ks.length - (k + 1) = m := by omega
  rw [hm, hm2, List.replicate_succ, List.map_append]
  have hlen : (List.map (spX ps) (List.take k ks)).length = k := by simp; omega
  rw [List.set_append_right _ _ (by omega), hlen]
  simp

def SpOk (ps : List Tm) (t : Tm) : Prop := ∀ (w0 : World) (b n0 : Nat) (l : List UInt8) (tv : Value) (op n : Int) (s : ByteArray) (a : Option Addr) (len cap : Nat) (w : World), Lies w0 0 t (tmCells op n s a len cap) → okT t = true → l.length + (exT t).length ≤ 500000 → Bts w0 l tv w → Below w0.heap.size w0 w → Tab w0 → Err w0 → Facts w0 b n0 (fK ps) →
  Calls Tryz.prog 52 #[.map (some b), tv, .agg #[.int .i64 op, .int .i64 n, .string s, .slice a len cap]] w fun e w' => ∃ v', e = .returned (.tuple #[v', .bool (spX ps t)]) ∧ Bts w0 (l ++ exT t) v' w' ∧ Below w0.heap.size w0 w' ∧ Oth w w'

set_option maxRecDepth 100000 in
set_option maxHeartbeats 2000000 in
theorem sp_step (ps : List Tm) (t : Tm) (h : ∀ x ∈ t.kids, SpOk ps x) : SpOk ps t := by
  intro w0 b n0 l tv op n s a len cap w hl hok hlen ho hb ht he hf
  have hl0 := hl
  cases t with
  | node op' n' s' ks =>
    simp only [Lies, tmCells] at hl
    obtain ⟨a', cap', hee, ⟨hs, hlc, hcm⟩, hwf, hk⟩ := hl
    simp only [List.cons.injEq, Value.int.injEq, Value.string.injEq, Value.slice.injEq, true_and, and_true] at hee
    obtain ⟨rfl, rfl, rfl, rfl, rfl, rfl⟩ := hee
    have hr := okT_right hok
    obtain ⟨r1, r2, r3, r4⟩ := right_head hr
    have hk2 : ks.length ≤ 2 := kids_le hok
    have HOKK : Hid (∀ x ∈ ks, okT x = true) := fun x hx => okT_kids hok hx
    have HLN : Hid (∀ (k : Nat) (x : Tm), ks[k]? = some x → (l ++ headX op n s ++ exL (ks.take k)).length + (exT x).length ≤ 500000) := fun k x hx => by
      obtain ⟨hk, rfl⟩ := List.getElem?_eq_some_iff.1 hx
      have e1 := exL_take_le (ks := ks) (k + 1)
      rw [exL_take hk] at e1
      simp only [exT, List.length_append] at hlen e1 ⊢
      omega
    have h31 := hide (head_calls w0 l tv op n s a ks.length cap)
    have h32 := hide (put_calls ps b n0 (spL ps ks) ks op n s a ks.length cap)
    have HOP := hide (And.intro r1 (And.intro r2 r3))
    have HLL : Hid (l.length ≤ 500000) := by show _ ≤ _; omega
    have HXL : Hid ((l ++ exT (.node op n s ks)).length ≤ 500000) := by show _ ≤ _; rw [List.length_append]; exact hlen
    have HT := hide ht
    have HE := hide he
    have HF := hide hf
    have HOK := hide hok
    have HL0 := hide hl0
    have HO := hide (ho.on (abD (.cells #[.int .i64 op, .int .i64 n, .string s, .slice a ks.length cap] 35)))
    have HB := hide (hb.trans ((abD (.cells #[.int .i64 op, .int .i64 n, .string s, .slice a ks.length cap] 35)).mono hb.size))
    have HK := hide hk
    have H' : Hid (∀ x ∈ ks, SpOk ps x) := h
    have HBX := hide (heap_alloc_new w (.cells #[.int .i64 op, .int .i64 n, .string s, .slice a ks.length cap] 35))
    have HWW := hide hb.size
    obtain ⟨ta, tc, rfl⟩ := ho.shape
    have HSPL : Hid ((spL ps ks).length = ks.length) := by show _ = _; rw [spL_map]; simp
    have HSET : Hid (∀ (k : Nat) (x : Tm), ks[k]? = some x → (spL ps (ks.take k) ++ List.replicate (ks.length - k) false).set k (spX ps x) = spL ps (ks.take (k + 1)) ++ List.replicate (ks.length - (k + 1)) false) := fun k x hx => by
      obtain ⟨hk, rfl⟩ := List.getElem?_eq_some_iff.1 hx
      exact spL_take ps hk
    have hmk := make_bools ks.length hk2
    generalize hlen' : ks.length = len at *
    have HL := hide hlen'
    clear h hk hwf hs hlc hcm hlen' hlen r1 r2 r3 r4 hr ho hb ht he hf hok hl0
    go_enter Tryz.func52, Tryz.ntmps52
    go_wp2_with fail
    refine (unhide h31 _ (unhide HOP).1 (unhide HOP).2.1 (unhide HOP).2.2 (unhide HLL) (unhide HO) (unhide HB) (Lib.tabBelow_of_tabIs (unhide HT))).mono ?_
    rintro e w2 ⟨v2, rfl, hb2, hbe2, hoth2⟩
    obtain ⟨va, vc, rfl⟩ := hb2.shape
    have hrow2 := hoth2.row (unhide HBX) (by decide)
    have c3 := cell_of_row hrow2 (j := 3) (by simp)
    simp only [List.getElem_toArray, List.getElem_cons_zero, List.getElem_cons_succ] at c3
    have hw2 : w.heap.size < w2.heap.size := lt_of_heap hrow2
    have hn2 := Nat.ne_of_lt hw2
    have hm2 := Ne.symm hn2
    have hmk2 := hmk w2
    have HB2 := hide (hb2.on (abD (.cells ((List.replicate len false).map Value.bool).toArray 4)))
    have HBE2 := hide (hbe2.trans ((abD (w := w2) (.cells ((List.replicate len false).map Value.bool).toArray 4)).mono hbe2.size))
    have HOT2 := hide (hoth2.out.add (.cells ((List.replicate len false).map Value.bool).toArray 4))
    have HBO2 := hide (Bools.new w2 (List.replicate len false))
    have HRO2 := hide (((abD (w := w2) (.cells ((List.replicate len false).map Value.bool).toArray 4)).block _ hw2).trans hrow2)
    clear hb2 hbe2 hoth2 hrow2 hmk
    generalize (l ++ headX op n s).length = vl at *
    have c4 := cell_of_row (unhide HRO2) (j := 3) (by simp)
    simp only [List.getElem_toArray, List.getElem_cons_zero, List.getElem_cons_succ] at c4
    generalize w2.alloc (.cells ((List.replicate len false).map Value.bool).toArray 4) = W3 at *
    have HGW := hide hw2
    generalize w2.heap.size = g at *
    go_wp2_with fail
    go_loopw [1, 26] (fun tv i wr => ∃ k : Nat, k ≤ len ∧ i = .int .i64 k ∧ Bts w0 (l ++ headX op n s ++ exL (ks.take k)) tv wr ∧ Below w0.heap.size w0 wr ∧ Oth w wr ∧ Bools wr g (spL ps (ks.take k) ++ List.replicate (len - k) false) ∧ wr.heap[w.heap.size]? = some (.cells #[.int .i64 op, .int .i64 n, .string s, .slice a len cap] 35 (0, 0))) (fun _ i _ => len - (intOf i).toNat)
    case atStart => exact ⟨0, Nat.zero_le _, rfl, by simpa [exL] using unhide HB2, unhide HBE2, unhide HOT2, by simpa [spL] using unhide HBO2, unhide HRO2⟩
    case round =>
      obtain ⟨k, hkl, rfl, hbt, hbw, hot, hbo, hrow⟩ := hrel
      obtain ⟨ua, uc, rfl⟩ := hbt.shape
      by_cases hlt : k < len
      · have hlt' : k < ks.length := by have := unhide HL; omega
        have hki : (k : Int) < (len : Int) := by omega
        obtain ⟨b1, o1, op1, n1, s1, a1, len1, cap1, rfl, _, hbs, c0, c1, c2, c3, hT⟩ := (unhide HK).elem (k := k) hlt'
        have c0' := (hbw.cell (p := ⟨b1, o1 + k * 4, none⟩) hbs).trans c0
        have c1' := (hbw.cell (p := ⟨b1, o1 + k * 4 + 1, none⟩) hbs).trans c1
        have c2' := (hbw.cell (p := ⟨b1, o1 + k * 4 + 2, none⟩) hbs).trans c2
        have c3' := (hbw.cell (p := ⟨b1, o1 + k * 4 + 3, none⟩) hbs).trans c3
        have HCT := hide (unhide H' ks[k] (List.getElem_mem hlt') w0 b n0 _ _ op1 n1 s1 a1 len1 cap1 (wr.alloc (.cells #[.int .i64 op1, .int .i64 n1, .string s1, .slice a1 len1 cap1] 35)) hT (unhide HOKK _ (List.getElem_mem hlt')) (unhide HLN k _ (List.getElem?_eq_getElem hlt')) (hbt.on (abD _)) (hbw.trans ((abD _).mono hbw.size)) (unhide HT) (unhide HE) (unhide HF))
        have HEX := hide (exL_take hlt')
        have HST := hide (unhide HSET k _ (List.getElem?_eq_getElem hlt'))
        have HOT := hide (hot.add (.cells #[.int .i64 op1, .int .i64 n1, .string s1, .slice a1 len1 cap1] 35))
        have HBO := hide (hbo.low (abD (.cells #[.int .i64 op1, .int .i64 n1, .string s1, .slice a1 len1 cap1] 35)))
        have HRW := hide (((abD (w := wr) (.cells #[.int .i64 op1, .int .i64 n1, .string s1, .slice a1 len1 cap1] 35)).block _ (lt_of_heap hrow)).trans hrow)
        have HBN : Hid (k < (spL ps (ks.take k) ++ List.replicate (len - k) false).length) := by
          show _ < _
          rw [spL_map]
          simp
          omega
        generalize (l ++ headX op n s ++ exL (ks.take k)).length = ul at *
        generalize spX ps ks[k] = xk at *
        clear c0 c1 c2 c3 hT hbt hbw hot hbo hrow
        go_wp2_with fail
        refine (unhide HCT).mono ?_
        rintro e w3 ⟨v3, rfl, hb3, hbe3, hoth3⟩
        have hbo3 := (unhide HBO).oth hoth3
        obtain ⟨x0, hc0⟩ := hbo3.cell (unhide HBN)
        have hfr : w3.frozen? ⟨g, k, none⟩ = false := frozen_of_row hbo3
        have HB3 := hide (hb3.set (k := k) hbo3 (.bool xk))
        have HBE3 := hide (hbe3.setCell (p := ⟨g, k, none⟩) (by show w0.heap.size ≤ g; have := unhide HGW; have := unhide HWW; omega) (.bool xk))
        have HOT3 := hide (((unhide HOT).go hoth3).set (g := g) (k := k) (by have := unhide HGW; omega) (.bool xk))
        have HBO3 := hide (hbo3.set k xk)
        have HRW3 := hide ((Below.heap_setCell w3 ⟨g, k, none⟩ (.bool xk) w.heap.size (by show w.heap.size ≠ g; have := unhide HGW; omega)).trans (hoth3.row (unhide HRW) (by decide)))
        clear hb3 hbe3 hoth3 hbo3
        go_wp2_with fail
        exact ⟨⟨k + 1, by omega, by go_num, by rw [unhide HEX, ← List.append_assoc]; exact unhide HB3, unhide HBE3, unhide HOT3, by rw [← unhide HST]; exact unhide HBO3, unhide HRW3⟩, by simp [intOf]; omega⟩
      · obtain rfl : k = len := by omega
        have htk : ks.take k = ks := List.take_of_length_le (by have := unhide HL; omega)
        rw [htk] at hbt hbo
        rw [Nat.sub_self, List.replicate_zero, List.append_nil] at hbo
        have hex : l ++ headX op n s ++ exL ks = l ++ exT (.node op n s ks) := by rw [List.append_assoc]; rfl
        rw [htk, hex]
        rw [hex] at hbt
        obtain ⟨gT, cT, hv, hcl⟩ := hbt.full (by simp [exT, headX])
        rw [hv]
        rw [hv] at hbt
        clear hv
        have c0 := cell_of_row hrow (j := 0) (by simp)
        have c1 := cell_of_row hrow (j := 1) (by simp)
        have c2 := cell_of_row hrow (j := 2) (by simp)
        have c3 := cell_of_row hrow (j := 3) (by simp)
        simp only [List.getElem_toArray, List.getElem_cons_zero, List.getElem_cons_succ] at c0 c1 c2 c3
        have HP := hide (unhide h32 g k wr ((unhide HL0).below hbw) (unhide HOK) (unhide HSPL) hbo ((unhide HF).low hbw) ((unhide HT).on hbw) ((unhide HE).on hbw))
        have HBT := hide hbt
        have HBW := hide hbw
        have HOT := hide hot
        have HXT := hide (key_mk (exT (.node op n s ks)) (by have := unhide HXL; rw [List.length_append] at this; omega))
        have HSX : Hid (spX ps (.node op n s ks) = (putX ps op ks (spL ps ks) || fK ps (exT (.node op n s ks)))) := rfl
        have hsl : (l.length : Int) ≤ ((l ++ exT (.node op n s ks)).length : Int) := by rw [List.length_append]; omega
        have hsc : ((l ++ exT (.node op n s ks)).length : Int) ≤ (cT : Int) := by omega
        have hdl : (l ++ exT (.node op n s ks)).length - l.length = (exT (.node op n s ks)).length := by rw [List.length_append]; omega
        have hxp : 0 < (exT (.node op n s ks)).length := by simp only [exT, headX, List.length_append, List.length_cons]; omega
        have hlc : l.length < cT := by rw [List.length_append] at hcl; omega
        have hlc1 := Nat.ne_of_lt hlc
        have hlc2 := Ne.symm hlc1
        have hlc3 : cT - l.length ≠ 0 := by omega
        generalize hexx : exT (.node op n s ks) = ex at *
        have HEX := hide hexx
        generalize hsxx : spX ps (.node op n s ks) = sx at *
        have HSXX := hide hsxx
        clear hexx hsxx
        generalize hll : (l ++ ex).length = ll at *
        clear hbt hbw hot hrow hbo htk hex
        cases hp : putX ps op ks (spL ps ks) with
        | true =>
          rw [hp] at HP HSX
          clear hp
          go_wp2_with fail
          refine (unhide HP).mono ?_
          rintro e w5 ⟨rfl, hb5⟩
          have HB5 := hide ((unhide HBT).on hb5)
          have HBE5 := hide ((unhide HBW).trans (hb5.mono (unhide HBW).size))
          have HOT5 := hide ((unhide HOT).low hb5)
          clear hb5
          go_wp2_with fail
          exact bodyPost_ret (v := .tuple #[.slice (some ⟨gT, 0, none⟩) ll cT, .bool true]) (by simp [results, Tryz.results52, go_sem]) rfl ⟨_, by rw [unhide HSXX, unhide HSX]; rfl, by rw [unhide HEX]; exact unhide HB5, unhide HBE5, unhide HOT5⟩
        | false =>
          rw [hp] at HP HSX
          clear hp
          go_wp2_with fail
          refine (unhide HP).mono ?_
          rintro e w5 ⟨rfl, hb5⟩
          have HB5 := hide ((unhide HBT).on hb5)
          have HBE5 := hide ((unhide HBW).trans (hb5.mono (unhide HBW).size))
          have HOT5 := hide ((unhide HOT).low hb5)
          have hcv := (unhide HB5).tail
          obtain ⟨D, hD, hDf⟩ := (unhide HF).low (unhide HBE5)
          have HD := hide hD
          have HDF := hide (hDf ex)
          clear hb5 hD hDf
          go_wp2_with (at_lookup; refine wpList_lookup_own_ok _ rfl _ _ 42 rfl 9 46 law Tryz.underlying42 factElem (zero40 _) (.lit (.bool true)) [] rfl b n0 D rfl (unhide HD) _ _ rfl (unhide HXT) ?_; intro v ps' hv; obtain ⟨y1, y2, y3, y4, y5, y6, y7, y8, rfl⟩ := factElem_inv hv)
          exact bodyPost_ret (v := .tuple #[.slice (some ⟨gT, 0, none⟩) ll cT, .bool (Maps.has D (.string ex))]) (by simp [results, Tryz.results52, go_sem]) rfl ⟨_, by rw [unhide HSXX, unhide HSX, unhide HDF]; rfl, by rw [unhide HEX]; exact (unhide HB5).on (abD _), (unhide HBE5).alloc (unhide HBE5).size _, (unhide HOT5).add _⟩

set_option maxRecDepth 100000 in
theorem sp_any (ps : List Tm) : ∀ (k : Nat) (t : Tm), t.size ≤ k → SpOk ps t
  | 0, t, h => by have := t.size_pos; omega
  | k + 1, t, h => sp_step ps t fun x hx => sp_any ps k x (by
      cases t with
      | node op n s ks =>
        have := Tm.size_mem (ks := ks) hx
        simp only [Tm.size] at h
        omega)

set_option maxRecDepth 100000 in
theorem sp_calls (ps : List Tm) (t : Tm) : SpOk ps t := sp_any ps t.size t (Nat.le_refl _)

set_option maxRecDepth 100000 in
set_option maxHeartbeats 1000000 in
/-- The method makes. -/
theorem makes_calls (ps : List Tm) (b n0 : Nat) (t : Tm) (op n : Int) (s : ByteArray) (a : Option Addr) (len cap : Nat) (w : World) (hl : Lies w 0 t (tmCells op n s a len cap)) (hok : okT t = true) (hf : Facts w b n0 (fK ps)) (ht : Tab w) (he : Err w) :
    Calls Tryz.prog 41 #[.map (some b), .agg #[.int .i64 op, .int .i64 n, .string s, .slice a len cap]] w fun e w' => e = .returned (.bool (mkB ps t)) ∧ Below w.heap.size w w' := by
  rw [← spX_mkB ps t hok]
  have h24 := hide (sp_calls ps t w b n0 [] (.slice none 0 0) op n s a len cap)
  have hx := exT_le t (okT_right hok)
  have hz : t.size ≤ 200 := by
    unfold okT at hok
    rw [Bool.and_eq_true] at hok
    exact of_decide_eq_true hok.1
  have HX : Hid (([] : List UInt8).length + (exT t).length ≤ 500000) := by show _ ≤ _; simp; omega
  have HL := hide hl
  have HOK := hide hok
  have HF := hide hf
  have HT := hide ht
  have HE := hide he
  have HO := hide ((Bts.nil w).on (abD (.cells #[.int .i64 op, .int .i64 n, .string s, .slice a len cap] 35)))
  have HB := hide (abD (w := w) (.cells #[.int .i64 op, .int .i64 n, .string s, .slice a len cap] 35))
  clear hl hok hf ht he hx hz
  go_enter Tryz.func41, Tryz.ntmps41
  go_wp2_with fail
  refine (unhide h24 _ (unhide HL) (unhide HOK) (unhide HX) (unhide HO) (unhide HB) (unhide HT) (unhide HE) (unhide HF)).mono ?_
  rintro e w2 ⟨v2, rfl, -, hbe2, -⟩
  have HBE := hide hbe2
  clear hbe2
  go_wp2_with fail
  go_ret
  exact ⟨rfl, unhide HBE⟩

theorem addI_calls (b n0 : Nat) (f : List UInt8 → Bool) (most : Int) (t : Tm) (op n : Int) (s : ByteArray) (a : Option Addr) (len cap : Nat) (w : World) (hf : Facts w b n0 f) (hl : Lies w 0 t (tmCells op n s a len cap)) (hr : rightT t = true) (hz : t.size ≤ 400) (ht : Tab w) (hmo : (n0 : Int) < most) (hn0 : n0 ≤ 4194304) :
    Calls Tryz.prog 34 #[.map (some b), .agg #[.int .i64 op, .int .i64 n, .string s, .slice a len cap], .int .i64 most] w fun e w' => ∃ v, e = .returned v ∧ Facts w' b (n0 + 1) (fun l => f l || decide (exT t = l)) ∧ w.grownBy w' (some b) := by
  cases hth : f (exT t) with
  | true =>
    refine (addI_there b n0 f most t op n s a len cap w hf hl hr hz ht hth).mono ?_
    rintro e w' ⟨v, he, hb⟩
    obtain ⟨D, hD, hDf⟩ := hf.low hb
    refine ⟨v, he, ⟨D, hD.mono (by omega), fun l => ?_⟩, gb_low hb _⟩
    rw [hDf]
    by_cases hl : exT t = l
    · subst hl; rw [hth]; simp
    · simp [hl]
  | false => exact addI_new b n0 f most t op n s a len cap w hf hl hr hz ht hth hmo hn0

theorem fK_take {ps : List Tm} {k : Nat} (h : k < ps.length) (l : List UInt8) : fK (ps.take (k + 1)) l = (fK (ps.take k) l || (okT ps[k] && decide (exT ps[k] = l))) := by
  unfold fK
  rw [← List.take_append_getElem h, List.any_append]
  simp only [List.any_cons, List.any_nil, Bool.or_false]
theorem Facts.ext {w : World} {b n : Nat} {f g : List UInt8 → Bool} (h : Facts w b n f) (e : ∀ l, f l = g l) : Facts w b n g := by
  obtain ⟨D, hD, hDf⟩ := h
  exact ⟨D, hD, fun l => (hDf l).trans (e l)⟩
theorem Facts.mono {w : World} {b n m : Nat} {f : List UInt8 → Bool} (h : Facts w b n f) (e : n ≤ m) : Facts w b m f := by
  obtain ⟨D, hD, hDf⟩ := h
  exact ⟨D, hD.mono e, hDf⟩
theorem okT_size {t : Tm} (h : okT t = true) : t.size ≤ 200 := by
  unfold okT at h
  rw [Bool.and_eq_true] at h
  exact of_decide_eq_true h.1

def FactsR (ps : List Tm) (w : World) (e : Ending) (w' : World) : Prop := ∃ b n, e = .returned (.map (some b)) ∧ Facts w' b n (fK ps) ∧ Below w.heap.size w w'
set_option maxRecDepth 100000 in
set_option maxHeartbeats 2000000 in
theorem factsI (ps : List Tm) (pa : Option Addr) (pcap : Nat) (w : World) (hps : LiesAll w 0 pa 0 ps) (hpl : ps.length ≤ 2097152) (hpz : ∀ x ∈ ps, x.size ≤ 2097152) (ht : Tab w) :
    Calls Tryz.prog 40 #[.slice pa ps.length pcap] w fun e w' => FactsR ps w e w' := by
  have hmm := @run_makeMap Tryz.prog
  have HT := hide ht
  have HPS := hide hps
  have HPZ := hide hpz
  have HFT : Hid (∀ (k : Nat) (x : Tm), ps[k]? = some x → ∀ l, fK (ps.take (k + 1)) l = (fK (ps.take k) l || (okT x && decide (exT x = l)))) := fun k x hx l => by
    obtain ⟨hk, rfl⟩ := List.getElem?_eq_some_iff.1 hx
    exact fK_take hk l
  generalize hlen : ps.length = plen at *
  have HLN := hide hlen
  have HBE2 := hide (abD (w := w) (.map #[] 0))
  have HFA2 := hide (Facts.new w)
  clear ht hps hpz hlen
  go_enter Tryz.func40, Tryz.ntmps40
  go_wp2_with fail
  generalize w.alloc (.map #[] 0) = W3 at *
  generalize hbq : w.heap.size = b at *
  go_loopw [9] (fun i wr => ∃ k : Nat, k ≤ plen ∧ i = .int .i64 k ∧ Facts wr b k (fK (ps.take k)) ∧ Below b w wr) (fun i _ => plen - (intOf i).toNat)
  case atStart => exact ⟨0, Nat.zero_le _, rfl, (unhide HFA2).ext (fun _ => rfl), unhide HBE2⟩
  case round =>
    obtain ⟨k, hkl, rfl, hfa, hbw⟩ := hrel
    by_cases hlt : k < plen
    · have hlt' : k < ps.length := by have := unhide HLN; omega
      have hki : (k : Int) < (plen : Int) := by omega
      obtain ⟨b1, o1, op1, n1, s1, a1, len1, cap1, rfl, _, hbs, c0, c1, c2, c3, hT⟩ := (unhide HPS).elem (k := k) hlt'
      have hbw' : Below w.heap.size w wr := by rw [hbq]; exact hbw
      have c0' := (hbw'.cell (p := ⟨b1, o1 + k * 4, none⟩) hbs).trans c0
      have c1' := (hbw'.cell (p := ⟨b1, o1 + k * 4 + 1, none⟩) hbs).trans c1
      have c2' := (hbw'.cell (p := ⟨b1, o1 + k * 4 + 2, none⟩) hbs).trans c2
      have c3' := (hbw'.cell (p := ⟨b1, o1 + k * 4 + 3, none⟩) hbs).trans c3
      have hbk := abD (w := wr) (.cells #[.int .i64 op1, .int .i64 n1, .string s1, .slice a1 len1 cap1] 35)
      have HT1 := hide (hT.below (bt hbw' hbk (Nat.le_refl _)))
      have HBW := hide (bt hbw' hbk (Nat.le_refl _))
      have HFA := hide (hfa.low hbk)
      have HKB := hide (heap_alloc_new wr (.cells #[.int .i64 op1, .int .i64 n1, .string s1, .slice a1 len1 cap1] 35))
      have h14k := hide (ok10 ps[k] op1 n1 s1 a1 len1 cap1)
      have h15k := hide (addI_calls b k (fK (ps.take k)) (plen : Int) ps[k] op1 n1 s1 a1 len1 cap1)
      have HEX := hide (unhide HFT k _ (List.getElem?_eq_getElem hlt'))
      have hz1 := unhide HPZ ps[k] (List.getElem_mem hlt')
      have HSL := hide (And.intro hkl hlt)
      have HBQ := hide hbq
      generalize hpk : ps[k] = pk at *
      clear c0 c1 c2 c3 hT hfa hbw hbk hpk hbw' hbq
      cases hok1 : okT pk with
      | false =>
        rw [hok1] at h14k HEX
        clear hok1
        go_wp2_with fail
        refine (unhide h14k _ (unhide HT1) hz1).mono ?_
        rintro e w4 ⟨rfl, hb4⟩
        have HFA4 := hide ((unhide HFA).low hb4)
        have HBW4 : Hid (Below b w w4) := by have := bt (unhide HBW) hb4 (Nat.le_refl _); rw [unhide HBQ] at this; exact this
        clear hb4
        go_wp2_with fail
        exact ⟨⟨k + 1, by omega, by go_num, ((unhide HFA4).mono (by omega)).ext (fun l => by rw [unhide HEX l]; simp), unhide HBW4⟩, by simp [intOf]; omega⟩
      | true =>
        have HOK1 := hide hok1
        rw [hok1] at h14k HEX
        clear hok1
        go_wp2_with fail
        refine (unhide h14k _ (unhide HT1) hz1).mono ?_
        rintro e w4 ⟨rfl, hb4⟩
        have HFA4 := hide ((unhide HFA).low hb4)
        have HBW4 := hide (bt (unhide HBW) hb4 (Nat.le_refl _))
        have hkb4 := (hb4.block _ (lt_of_heap (unhide HKB))).trans (unhide HKB)
        have HT4 := hide ((unhide HT1).below hb4)
        have d0 := cell_of_row hkb4 (j := 0) (by simp)
        have d1 := cell_of_row hkb4 (j := 1) (by simp)
        have d2 := cell_of_row hkb4 (j := 2) (by simp)
        have d3 := cell_of_row hkb4 (j := 3) (by simp)
        simp only [List.getElem_toArray, List.getElem_cons_zero, List.getElem_cons_succ] at d0 d1 d2 d3
        clear hb4 hkb4
        go_wp2_with fail
        refine (unhide h15k _ (unhide HFA4) (unhide HT4) (okT_right (unhide HOK1)) (by have := okT_size (unhide HOK1); omega) ((unhide HT).on (unhide HBW4)) (by omega) (by omega)).mono ?_
        rintro e w5 ⟨v5, rfl, hf5, hg5⟩
        have HF5 := hide hf5
        have HBW5 : Hid (Below b w w5) := by
          have := (unhide HBW4).grown hg5 (unhide HBW4).size (fun j hj => by simp at hj; subst hj; have := unhide HBQ; omega)
          rw [unhide HBQ] at this
          exact this
        clear hf5 hg5
        go_wp2_with fail
        exact ⟨⟨k + 1, by omega, by go_num, (unhide HF5).ext (fun l => by rw [unhide HEX l]; simp), unhide HBW5⟩, by simp [intOf]; omega⟩
    · obtain rfl : k = plen := by omega
      have hki : ¬ (k : Int) < (k : Int) := by omega
      have htk : ps.take k = ps := List.take_of_length_le (by have := unhide HLN; omega)
      rw [htk] at hfa
      have HFA := hide hfa
      have HBW := hide hbw
      have HBQ := hide hbq
      clear hfa hbw htk hbq
      go_wp2_with fail
      go_ret
      exact ⟨b, k, rfl, unhide HFA, by rw [unhide HBQ]; exact unhide HBW⟩

set_option maxRecDepth 100000 in
set_option maxHeartbeats 2000000 in
theorem madeI (ps : List Tm) (t : Tm) (pa : Option Addr) (pcap : Nat) (op n : Int) (s : ByteArray) (a : Option Addr) (len cap : Nat) (w : World) (hps : LiesAll w 0 pa 0 ps) (hpl : ps.length ≤ 2097152) (hpz : ∀ x ∈ ps, x.size ≤ 2097152) (hl : Lies w 0 t (tmCells op n s a len cap)) (hz : t.size ≤ 2097152) (ht : Tab w) (he : Err w) :
    Calls Tryz.prog 26 #[.slice pa ps.length pcap, .agg #[.int .i64 op, .int .i64 n, .string s, .slice a len cap]] w fun e w' => e = .returned (.bool (madeB ps t)) ∧ Below w.heap.size w w' := by
  have HM : Hid (madeB ps t = (okT t && mkB ps t)) := hide rfl
  have h14 := hide (ok10 t op n s a len cap)
  have hb0 := abD (w := w) (.cells #[.int .i64 op, .int .i64 n, .string s, .slice a len cap] 35)
  have HL := hide (hl.below hb0)
  have HL0 := hide hl
  have HB := hide hb0
  have HBX := hide (heap_alloc_new w (.cells #[.int .i64 op, .int .i64 n, .string s, .slice a len cap] 35))
  have HFC := hide (fun v (hv : Below w.heap.size w v) => factsI ps pa pcap v (hps.below hv) hpl hpz (ht.on hv))
  have HMK : Hid (okT t = true → ∀ v b k, Below w.heap.size w v → Facts v b k (fK ps) → Calls Tryz.prog 41 #[.map (some b), .agg #[.int .i64 op, .int .i64 n, .string s, .slice a len cap]] v fun e w' => e = .returned (.bool (mkB ps t)) ∧ Below v.heap.size v w') := hide (fun hok v b k hv hf => makes_calls ps b k t op n s a len cap v (hl.below hv) hok hf (ht.on hv) (he.on hv))
  generalize madeB ps t = R at *
  generalize mkB ps t = mb at *
  clear hl hps ht he hb0
  cases hok : okT t with
  | false =>
    rw [hok] at h14 HM
    clear HMK hok
    go_enter Tryz.func26, Tryz.ntmps26
    go_wp2_with fail
    refine (unhide h14 _ (unhide HL) hz).mono ?_
    rintro e w2 ⟨rfl, hb2⟩
    have HB2 := hide (bt (unhide HB) hb2 (Nat.le_refl _))
    clear hb2
    go_wp2_with fail
    go_ret
    exact ⟨by rw [unhide HM]; rfl, unhide HB2⟩
  | true =>
    rw [hok] at h14 HM
    have HMK2 := hide (unhide HMK hok)
    clear HMK hok
    go_enter Tryz.func26, Tryz.ntmps26
    go_wp2_with fail
    refine (unhide h14 _ (unhide HL) hz).mono ?_
    rintro e w2 ⟨rfl, hb2⟩
    have HB2 := hide (bt (unhide HB) hb2 (Nat.le_refl _))
    have hr2 := (hb2.block _ (lt_of_heap (unhide HBX))).trans (unhide HBX)
    have HR2 := hide hr2
    clear hb2 hr2
    have hr3 := unhide HR2
    have c0 := cell_of_row hr3 (j := 0) (by simp)
    have c1 := cell_of_row hr3 (j := 1) (by simp)
    have c2 := cell_of_row hr3 (j := 2) (by simp)
    have c3 := cell_of_row hr3 (j := 3) (by simp)
    simp only [List.getElem_toArray, List.getElem_cons_zero, List.getElem_cons_succ] at c0 c1 c2 c3
    clear hr3
    go_wp2_with fail
    go_region_with (first
      | (go_at_call 40
         refine (unhide HFC _ (unhide HB2).drew).mono ?_
         rintro e w3 ⟨b, k, rfl, hf, hb3⟩
         have HB3 := hide (bt (unhide HB2).drew hb3 (Nat.le_refl _))
         have HF := hide hf
         have hr4 := (hb3.block _ (lt_of_heap (unhide HR2))).trans (unhide HR2)
         have d0 := cell_of_row hr4 (j := 0) (by simp)
         have d1 := cell_of_row hr4 (j := 1) (by simp)
         have d2 := cell_of_row hr4 (j := 2) (by simp)
         have d3 := cell_of_row hr4 (j := 3) (by simp)
         simp only [List.getElem_toArray, List.getElem_cons_zero, List.getElem_cons_succ] at d0 d1 d2 d3
         clear hb3 hf hr4)
      | (go_at_call 41
         refine (unhide HMK2 _ _ _ (unhide HB3) (unhide HF)).mono ?_
         rintro e w4 ⟨rfl, hb4⟩
         have HB4 := hide (bt (unhide HB3) hb4 (Nat.le_refl _))
         clear hb4))
    all_goals
      go_wp2_with fail
      go_ret
      exact ⟨by rw [unhide HM]; rfl, unhide HB4⟩

end Go.Proofs.YteminklafghgpaaGreatDoor
