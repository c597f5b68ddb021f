
/- The walks of spec.l8Text, impl.word and impl.row: a text as a term; terms in a row, each pair of the first and the row of the others; nothing that was there is written. -/
import Derived.Test.YtacmpodanebglaaGreatDoorSl
import Derived.Test.YtacmpodanebglaaGreatDoorPr
import Derived.Deep.RegionHeld3
import Derived.Deep.RegionWith
namespace Go.Proofs.YtacmpodanebglaaGreatDoor
open Go.RowKit Go.Deep

/-- A text as a term. -/
def textT (s : ByteArray) : Tm := .node 2 0 s []
theorem textT_size (s : ByteArray) : (textT s).size = 1 := by simp [textT, Tm.size, Tm.sizes]
theorem text_lies (s : ByteArray) (hs : s.size ≤ 300) (w : World) : Lies w 0 (textT s) (tmCells 2 0 s none 0 0) := lies_leaf w 2 0 s (by unfold maxLen; omega) (by decide) (by decide)
/-- Two terms in a row. -/
def twoT (t u : Tm) : Tm := .node 3 0 ByteArray.empty [t, u]

set_option maxRecDepth 100000 in
set_option maxHeartbeats 2000000 in
theorem textS (s : ByteArray) (w : World) :
    Calls Tryz.prog 17 #[.string s] w fun e w' => e = .returned (.agg #[.int .i64 2, .int .i64 0, .string s, .slice none 0 0]) ∧ Below w.heap.size w w' := by
  go_enter Tryz.func17, Tryz.ntmps17
  go_wp2_with fail
  exact bodyPost_ret (v := .agg #[.int .i64 2, .int .i64 0, .string s, .slice none 0 0]) (by simp [results, Tryz.results17, go_sem]) rfl ⟨rfl, ab _⟩

set_option maxRecDepth 100000 in
set_option maxHeartbeats 2000000 in
theorem wordI (s : ByteArray) (w : World) :
    Calls Tryz.prog 47 #[.string s] w fun e w' => e = .returned (.agg #[.int .i64 2, .int .i64 0, .string s, .slice none 0 0]) ∧ Below w.heap.size w w' := by
  go_enter Tryz.func47, Tryz.ntmps47
  go_wp2_with fail
  exact bodyPost_ret (v := .agg #[.int .i64 2, .int .i64 0, .string s, .slice none 0 0]) (by simp [results, Tryz.results47, go_sem]) rfl ⟨rfl, ab _⟩

set_option maxRecDepth 100000 in
set_option maxHeartbeats 2000000 in
theorem row0 (op n : Int) (s : ByteArray) (a : Option Addr) (len cap : Nat) (b : Option Addr) (k : Nat) (w : World) :
    Calls Tryz.prog 43 #[.agg #[.int .i64 op, .int .i64 n, .string s, .slice a len cap], .slice b 0 k] w fun e w' => e = .returned (.agg #[.int .i64 op, .int .i64 n, .string s, .slice a len cap]) ∧ Below w.heap.size w w' := by
  go_enter Tryz.func43, Tryz.ntmps43
  go_wp2_with fail
  exact bodyPost_ret (v := .agg #[.int .i64 op, .int .i64 n, .string s, .slice a len cap]) (by simp [results, Tryz.results43, go_sem]) rfl ⟨rfl, bt (ab _) (ab _) (Nat.le_refl _)⟩

/-- What a row of terms leaves: the row lies in every world that keeps what was there at first, and what is new. -/
def RowOk (w0 w w' : World) (T : Tm) (a : Option Addr) : Prop := ∀ W : World, Below w0.heap.size w0 W → (∀ b, w.heap.size ≤ b → b < w'.heap.size → W.heap[b]? = w'.heap[b]?) → Lies W 0 T (tmCells 3 0 ByteArray.empty a 2 2)

theorem row_cells (w : World) (op n : Int) (s : ByteArray) (a : Option Addr) (len cap : Nat) (op2 n2 : Int) (s2 : ByteArray) (a2 : Option Addr) (len2 cap2 : Nat) (j : Nat) (v : Value) (h : (#[.int .i64 op, .int .i64 n, .string s, .slice a len cap, .int .i64 op2, .int .i64 n2, .string s2, .slice a2 len2 cap2] : Array Value)[j]? = some v) : (w.alloc (.cells #[.int .i64 op, .int .i64 n, .string s, .slice a len cap, .int .i64 op2, .int .i64 n2, .string s2, .slice a2 len2 cap2] 28)).cell? ⟨w.heap.size, j, none⟩ = some v := box_cell w _ 28 j v h

theorem row_fin {w0 w w2 : World} {g : Nat} {t u : Tm} {op n : Int} {s : ByteArray} {a : Option Addr} {len cap : Nat} {op2 n2 : Int} {s2 : ByteArray} {a2 : Option Addr} {len2 cap2 : Nat} {x0 x1 x2 x3 : Value} (hb : Below w.heap.size w w2) (hg : w.heap.size ≤ g) (hl : Lies w0 0 t (tmCells op n s a len cap))
    (hu : ∀ W : World, Below w0.heap.size w0 W → (∀ b, w2.heap.size ≤ b → b < w2.heap.size → W.heap[b]? = w2.heap[b]?) → (∀ b, g < b → b < w2.heap.size → W.heap[b]? = w2.heap[b]?) → Lies W 0 u (tmCells op2 n2 s2 a2 len2 cap2)) :
    RowOk w0 w (((((w2.setCell ⟨g, 0, none⟩ x0).setCell ⟨g, 1, none⟩ x1).setCell ⟨g, 2, none⟩ x2).setCell ⟨g, 3, none⟩ x3).alloc (.cells #[.int .i64 op, .int .i64 n, .string s, .slice a len cap, .int .i64 op2, .int .i64 n2, .string s2, .slice a2 len2 cap2] 28)) (twoT t u) (some ⟨w2.heap.size, 0, none⟩) ∧
      Below w.heap.size w (((((w2.setCell ⟨g, 0, none⟩ x0).setCell ⟨g, 1, none⟩ x1).setCell ⟨g, 2, none⟩ x2).setCell ⟨g, 3, none⟩ x3).alloc (.cells #[.int .i64 op, .int .i64 n, .string s, .slice a len cap, .int .i64 op2, .int .i64 n2, .string s2, .slice a2 len2 cap2] 28)) := by
  have hX := set4_heap w2 g x0 x1 x2 x3
  have hbX : Below w.heap.size w ((((w2.setCell ⟨g, 0, none⟩ x0).setCell ⟨g, 1, none⟩ x1).setCell ⟨g, 2, none⟩ x2).setCell ⟨g, 3, none⟩ x3) := set4_below hb hg
  have hs := hb.size
  have hXs : ((((w2.setCell ⟨g, 0, none⟩ x0).setCell ⟨g, 1, none⟩ x1).setCell ⟨g, 2, none⟩ x2).setCell ⟨g, 3, none⟩ x3).heap.size = w2.heap.size := by simp
  generalize ((((w2.setCell ⟨g, 0, none⟩ x0).setCell ⟨g, 1, none⟩ x1).setCell ⟨g, 2, none⟩ x2).setCell ⟨g, 3, none⟩ x3) = X at *
  refine ⟨fun W h0 h1 => ?_, bt hbX (ab _) (Nat.le_refl _)⟩
  refine lies_row2 (hl.below h0) (hu W h0 (fun b h2 h3 => absurd h3 (by omega)) (fun b h2 h3 => ?_)) (fun j v hj => ?_) 3 (by decide)
  · rw [h1 b (by omega) (by simp; omega), (ab _).block b (by omega)]
    exact hX b (by omega)
  · rw [World.cell?_of_block (h1 w2.heap.size hs (by simp; omega)), ← hXs]
    exact row_cells X _ _ _ _ _ _ _ _ _ _ _ _ j v hj

set_option maxRecDepth 100000 in
set_option maxHeartbeats 2000000 in
theorem row1 (t u : Tm) (op n : Int) (s : ByteArray) (a : Option Addr) (len cap : Nat) (op2 n2 : Int) (s2 : ByteArray) (a2 : Option Addr) (len2 cap2 : Nat) (b o : Nat) (w0 w : World) (h0 : Below w0.heap.size w0 w) (hl : Lies w0 0 t (tmCells op n s a len cap)) (hu : Lies w0 0 u (tmCells op2 n2 s2 a2 len2 cap2)) (r0 : w.cell? ⟨b, o, none⟩ = some (.int .i64 op2)) (r1 : w.cell? ⟨b, o + 1, none⟩ = some (.int .i64 n2)) (r2 : w.cell? ⟨b, o + 2, none⟩ = some (.string s2)) (r3 : w.cell? ⟨b, o + 3, none⟩ = some (.slice a2 len2 cap2)) :
    Calls Tryz.prog 43 #[.agg #[.int .i64 op, .int .i64 n, .string s, .slice a len cap], .slice (some ⟨b, o, none⟩) 1 1] w fun e w' => ∃ a', e = .returned (.agg #[.int .i64 3, .int .i64 0, .string ByteArray.empty, .slice a' 2 2]) ∧ RowOk w0 w w' (twoT t u) a' ∧ Below w.heap.size w w' := by
  have h25 := hide (fun W => row0 op2 n2 s2 a2 len2 cap2 (some ⟨b, o, none⟩) 0 W)
  have HRA : Hid (RowT 28 ((w.alloc (.cells #[.int .i64 op, .int .i64 n, .string s, .slice a len cap] 28)).alloc (.cells #[.int .i64 0, .int .i64 0, .string ByteArray.empty, .slice none 0 0] 28)) w.heap.size op n s a len cap) := (RowT.new 28 w op n s a len cap).below (ab _)
  have hB : Below w.heap.size w ((w.alloc (.cells #[.int .i64 op, .int .i64 n, .string s, .slice a len cap] 28)).alloc (.cells #[.int .i64 0, .int .i64 0, .string ByteArray.empty, .slice none 0 0] 28)) := bt (ab _) (ab _) (Nat.le_refl _)
  have HS0 : Hid (((w.alloc (.cells #[.int .i64 op, .int .i64 n, .string s, .slice a len cap] 28)).alloc (.cells #[.int .i64 0, .int .i64 0, .string ByteArray.empty, .slice none 0 0] 28)).heap.size = w.heap.size + 2) := by show _ = _; simp
  have HX : Hid (ZBox ((w.alloc (.cells #[.int .i64 op, .int .i64 n, .string s, .slice a len cap] 28)).alloc (.cells #[.int .i64 0, .int .i64 0, .string ByteArray.empty, .slice none 0 0] 28)) (w.heap.size + 1)) := by
    have := ZBox.new (w.alloc (.cells #[.int .i64 op, .int .i64 n, .string s, .slice a len cap] 28))
    rwa [heap_size_alloc] at this
  have r0' := kpc hB r0
  have r1' := kpc hB r1
  have r2' := kpc hB r2
  have r3' := kpc hB r3
  have HB0 := hide (bt h0 hB (Nat.le_refl _))
  have HBW := hide hB
  have hbb : b < w.heap.size := lt_of_cell r0
  have hbn : b ≠ w.heap.size + 1 := by omega
  have hbn' := Ne.symm hbn
  have HL := hide hl
  clear hB h0 hl r0 r1 r2 r3
  go_enter Tryz.func43, Tryz.ntmps43
  go_wp2_with fail
  generalize hgw : ((w.alloc (.cells #[.int .i64 op, .int .i64 n, .string s, .slice a len cap] 28)).alloc (.cells #[.int .i64 0, .int .i64 0, .string ByteArray.empty, .slice none 0 0] 28)) = V at *
  refine gw_world hgw ?_
  clear hgw
  obtain ⟨c0, c1, c2, c3⟩ := (unhide HRA).facts
  go_region_held3 (fun x => x.cell? ⟨w.heap.size, 0, none⟩ = some (.int .i64 op) ∧ x.cell? ⟨w.heap.size, 1, none⟩ = some (.int .i64 n) ∧ x.cell? ⟨w.heap.size, 2, none⟩ = some (.string s) ∧ x.cell? ⟨w.heap.size, 3, none⟩ = some (.slice a len cap) ∧ x.cell? ⟨b, o, none⟩ = some (.int .i64 op2) ∧ x.cell? ⟨b, o + 1, none⟩ = some (.int .i64 n2) ∧ x.cell? ⟨b, o + 2, none⟩ = some (.string s2) ∧ x.cell? ⟨b, o + 3, none⟩ = some (.slice a2 len2 cap2)) (go_keep)
    (first | (go_at_call 43
              refine (unhide h25 _).mono ?_
              rintro e w2 ⟨rfl, hb2⟩
              have hb2' := hide (below_drew' hb2)
              have f0 := kpc (unhide hb2') c0
              have f1 := kpc (unhide hb2') c1
              have f2 := kpc (unhide hb2') c2
              have f3 := kpc (unhide hb2') c3
              have g0 := kpc (unhide hb2') r0'
              have g1 := kpc (unhide hb2') r1'
              have g2 := kpc (unhide hb2') r2'
              have g3 := kpc (unhide hb2') r3'
              have hz2 := (unhide HX).below (unhide hb2')
              have HLT2 := hide (lt_of_heap hz2)
              have HSV := hide (unhide hb2').size
              obtain ⟨d0, d1, d2, d3, e0, e1, e2, e3⟩ := hz2.facts
              have hlt := lt_of_heap hz2
              have hne := Nat.ne_of_lt hlt
              have hne' := Ne.symm hne
              have hlt1 := lt_of_cell f0
              have hne1 := Nat.ne_of_lt hlt1
              have hne1' := Ne.symm hne1
              have hlt2 := lt_of_cell g0
              have hne2 := Nat.ne_of_lt hlt2
              have hne2' := Ne.symm hne2
              have HZ2 := hide hz2
              clear hz2))
  have HF := hide (row_fin (w0 := w0) (g := w.heap.size + 1) (u := u) (x0 := .int .i64 3) (x1 := .int .i64 0) (x2 := .string ⟨#[]⟩) (x3 := .slice (some ⟨w2.heap.size, 0, none⟩) 2 2) (bt (unhide HBW) (unhide hb2') (Nat.le_refl _)) (by omega) (unhide HL) (fun W hW _ _ => hu.below hW))
  clear c0 c1 c2 c3 f0 f1 f2 f3 g0 r0' g1 r1' g2 r2' g3 r3'
  go_wp2_with fail
  have hK := (RowT.fill (ty := 28) (show RowT 28 w2 (w.heap.size + 1) 0 0 ByteArray.empty none 0 0 from unhide HZ2) 3 0 ⟨#[]⟩ (some ⟨w2.heap.size, 0, none⟩) 2 2).below (ab (.cells #[.int .i64 op, .int .i64 n, .string s, .slice a len cap, .int .i64 op2, .int .i64 n2, .string s2, .slice a2 len2 cap2] 28))
  obtain ⟨k0, k1, k2, k3⟩ := hK.facts
  exact bodyPost_ret (v := .agg #[.int .i64 3, .int .i64 0, .string ByteArray.empty, .slice (some ⟨w2.heap.size, 0, none⟩) 2 2]) (by simp [results, Tryz.results43, go_sem, k0, k1, k2, k3]; try rfl) rfl ⟨_, rfl, unhide HF⟩

set_option maxRecDepth 100000 in
set_option maxHeartbeats 2000000 in
theorem row2 (t u v : Tm) (op n : Int) (s : ByteArray) (a : Option Addr) (len cap : Nat) (op2 n2 : Int) (s2 : ByteArray) (a2 : Option Addr) (len2 cap2 : Nat) (op3 n3 : Int) (s3 : ByteArray) (a3 : Option Addr) (len3 cap3 : Nat) (b o : Nat) (w0 w : World) (h0 : Below w0.heap.size w0 w) (hl : Lies w0 0 t (tmCells op n s a len cap)) (hu : Lies w0 0 u (tmCells op2 n2 s2 a2 len2 cap2)) (hv : Lies w0 0 v (tmCells op3 n3 s3 a3 len3 cap3)) (r0 : w.cell? ⟨b, o, none⟩ = some (.int .i64 op2)) (r1 : w.cell? ⟨b, o + 1, none⟩ = some (.int .i64 n2)) (r2 : w.cell? ⟨b, o + 2, none⟩ = some (.string s2)) (r3 : w.cell? ⟨b, o + 3, none⟩ = some (.slice a2 len2 cap2)) (r4 : w.cell? ⟨b, o + 4, none⟩ = some (.int .i64 op3)) (r5 : w.cell? ⟨b, o + 5, none⟩ = some (.int .i64 n3)) (r6 : w.cell? ⟨b, o + 6, none⟩ = some (.string s3)) (r7 : w.cell? ⟨b, o + 7, none⟩ = some (.slice a3 len3 cap3)) :
    Calls Tryz.prog 43 #[.agg #[.int .i64 op, .int .i64 n, .string s, .slice a len cap], .slice (some ⟨b, o, none⟩) 2 2] w fun e w' => ∃ a', e = .returned (.agg #[.int .i64 3, .int .i64 0, .string ByteArray.empty, .slice a' 2 2]) ∧ RowOk w0 w w' (twoT t (twoT u v)) a' ∧ Below w.heap.size w w' := by
  have h25 := hide (fun W h r0 r1 r2 r3 => row1 u v op2 n2 s2 a2 len2 cap2 op3 n3 s3 a3 len3 cap3 b (o + 4) w0 W h hu hv r0 r1 r2 r3)
  have HRA : Hid (RowT 28 ((w.alloc (.cells #[.int .i64 op, .int .i64 n, .string s, .slice a len cap] 28)).alloc (.cells #[.int .i64 0, .int .i64 0, .string ByteArray.empty, .slice none 0 0] 28)) w.heap.size op n s a len cap) := (RowT.new 28 w op n s a len cap).below (ab _)
  have hB : Below w.heap.size w ((w.alloc (.cells #[.int .i64 op, .int .i64 n, .string s, .slice a len cap] 28)).alloc (.cells #[.int .i64 0, .int .i64 0, .string ByteArray.empty, .slice none 0 0] 28)) := bt (ab _) (ab _) (Nat.le_refl _)
  have HS0 : Hid (((w.alloc (.cells #[.int .i64 op, .int .i64 n, .string s, .slice a len cap] 28)).alloc (.cells #[.int .i64 0, .int .i64 0, .string ByteArray.empty, .slice none 0 0] 28)).heap.size = w.heap.size + 2) := by show _ = _; simp
  have HX : Hid (ZBox ((w.alloc (.cells #[.int .i64 op, .int .i64 n, .string s, .slice a len cap] 28)).alloc (.cells #[.int .i64 0, .int .i64 0, .string ByteArray.empty, .slice none 0 0] 28)) (w.heap.size + 1)) := by
    have := ZBox.new (w.alloc (.cells #[.int .i64 op, .int .i64 n, .string s, .slice a len cap] 28))
    rwa [heap_size_alloc] at this
  have r0' := kpc hB r0
  have r1' := kpc hB r1
  have r2' := kpc hB r2
  have r3' := kpc hB r3
  have r4' := kpc hB r4
  have r5' := kpc hB r5
  have r6' := kpc hB r6
  have r7' := kpc hB r7
  have HB0 := hide (bt h0 hB (Nat.le_refl _))
  have HBW := hide hB
  have hbb : b < w.heap.size := lt_of_cell r0
  have hbn : b ≠ w.heap.size + 1 := by omega
  have hbn' := Ne.symm hbn
  have HL := hide hl
  clear hB h0 hl r0 r1 r2 r3 r4 r5 r6 r7
  go_enter Tryz.func43, Tryz.ntmps43
  go_wp2_with fail
  generalize hgw : ((w.alloc (.cells #[.int .i64 op, .int .i64 n, .string s, .slice a len cap] 28)).alloc (.cells #[.int .i64 0, .int .i64 0, .string ByteArray.empty, .slice none 0 0] 28)) = V at *
  refine gw_world hgw ?_
  clear hgw
  obtain ⟨c0, c1, c2, c3⟩ := (unhide HRA).facts
  go_region_held3 (fun x => x.cell? ⟨w.heap.size, 0, none⟩ = some (.int .i64 op) ∧ x.cell? ⟨w.heap.size, 1, none⟩ = some (.int .i64 n) ∧ x.cell? ⟨w.heap.size, 2, none⟩ = some (.string s) ∧ x.cell? ⟨w.heap.size, 3, none⟩ = some (.slice a len cap) ∧ x.cell? ⟨b, o, none⟩ = some (.int .i64 op2) ∧ x.cell? ⟨b, o + 1, none⟩ = some (.int .i64 n2) ∧ x.cell? ⟨b, o + 2, none⟩ = some (.string s2) ∧ x.cell? ⟨b, o + 3, none⟩ = some (.slice a2 len2 cap2) ∧ x.cell? ⟨b, o + 4, none⟩ = some (.int .i64 op3) ∧ x.cell? ⟨b, o + 5, none⟩ = some (.int .i64 n3) ∧ x.cell? ⟨b, o + 6, none⟩ = some (.string s3) ∧ x.cell? ⟨b, o + 7, none⟩ = some (.slice a3 len3 cap3)) (go_keep)
    (first | (go_at_call 43
              refine (unhide h25 _ ((unhide HB0).drew) (kpc (Below.refl _ _).drew r4') (kpc (Below.refl _ _).drew r5') (kpc (Below.refl _ _).drew r6') (kpc (Below.refl _ _).drew r7')).mono ?_
              rintro e w2 ⟨a9, rfl, hR9, hb2⟩
              have HR9 := hide hR9
              have hb2' := hide (below_drew' hb2)
              have f0 := kpc (unhide hb2') c0
              have f1 := kpc (unhide hb2') c1
              have f2 := kpc (unhide hb2') c2
              have f3 := kpc (unhide hb2') c3
              have g0 := kpc (unhide hb2') r0'
              have g1 := kpc (unhide hb2') r1'
              have g2 := kpc (unhide hb2') r2'
              have g3 := kpc (unhide hb2') r3'
              have g4 := kpc (unhide hb2') r4'
              have g5 := kpc (unhide hb2') r5'
              have g6 := kpc (unhide hb2') r6'
              have g7 := kpc (unhide hb2') r7'
              have hz2 := (unhide HX).below (unhide hb2')
              have HLT2 := hide (lt_of_heap hz2)
              have HSV := hide (unhide hb2').size
              obtain ⟨d0, d1, d2, d3, e0, e1, e2, e3⟩ := hz2.facts
              have hlt := lt_of_heap hz2
              have hne := Nat.ne_of_lt hlt
              have hne' := Ne.symm hne
              have hlt1 := lt_of_cell f0
              have hne1 := Nat.ne_of_lt hlt1
              have hne1' := Ne.symm hne1
              have hlt2 := lt_of_cell g0
              have hne2 := Nat.ne_of_lt hlt2
              have hne2' := Ne.symm hne2
              have HZ2 := hide hz2
              clear hz2))
  have HF := hide (row_fin (w0 := w0) (g := w.heap.size + 1) (u := twoT u v) (x0 := .int .i64 3) (x1 := .int .i64 0) (x2 := .string ⟨#[]⟩) (x3 := .slice (some ⟨w2.heap.size, 0, none⟩) 2 2) (bt (unhide HBW) (unhide hb2') (Nat.le_refl _)) (by omega) (unhide HL) (fun W hW _ h2 => unhide HR9 W hW fun b hb hb' => h2 b (by have := unhide HS0; have hb9 : V.heap.size ≤ b := hb; omega) hb'))
  clear c0 c1 c2 c3 f0 f1 f2 f3 g0 r0' g1 r1' g2 r2' g3 r3' g4 r4' g5 r5' g6 r6' g7 r7'
  go_wp2_with fail
  have hK := (RowT.fill (ty := 28) (show RowT 28 w2 (w.heap.size + 1) 0 0 ByteArray.empty none 0 0 from unhide HZ2) 3 0 ⟨#[]⟩ (some ⟨w2.heap.size, 0, none⟩) 2 2).below (ab (.cells #[.int .i64 op, .int .i64 n, .string s, .slice a len cap, .int .i64 3, .int .i64 0, .string ByteArray.empty, .slice a9 2 2] 28))
  obtain ⟨k0, k1, k2, k3⟩ := hK.facts
  exact bodyPost_ret (v := .agg #[.int .i64 3, .int .i64 0, .string ByteArray.empty, .slice (some ⟨w2.heap.size, 0, none⟩) 2 2]) (by simp [results, Tryz.results43, go_sem, k0, k1, k2, k3]; try rfl) rfl ⟨_, rfl, unhide HF⟩


end Go.Proofs.YtacmpodanebglaaGreatDoor
