/- For every term and term and term and term and text and int that can be read as data, FnExactProved returns true and leaves its arguments as they were: impl.Proved answers as the model does, at every argument, writes into none, and its answer owns its memory. Conditions: the row's own; the package-level variables that it lists begin as the program's text lays them, which the card ties to the pruned copy of the program. -/
import Derived.Test.YtlepdkbkiajkiaaGreatDoorSl
import Derived.Test.YtlepdkbkiajkiaaGreatDoorCv
import Derived.Test.YtlepdkbkiajkiaaGreatDoorPr
import Derived.Deep.RegionHeld3
import Derived.Deep.RegionWith
import Derived.Test.YtlepdkbkiajkiaaGreatDoorSx
import Derived.Test.YtlepdkbkiajkiaaGreatDoorLch
import Derived.Test.YtlepdkbkiajkiaaGreatDoorSw
import Derived.Deep.DeepCutAuto
import Derived.Test.YtlepdkbkiajkiaaGreatDoorRows
import Derived.Test.YtlepdkbkiajkiaaGreatDoorTm
import Derived.OpenShut
import Derived.ShutString
import Derived.ChangeOld
import Derived.ProofKit
import Derived.LaidMore
import Derived.MakeChecks
import Derived.LaidHandle
import Derived.Stop.LaidErr
import Derived.Stop.LaidTwo
import Derived.Stop.Joined
import Derived.SevenTiedAt
import Derived.ChangeMaps5
import Derived.Test.YtlepdkbkiajkiaaGreatDoorTie
import Derived.Test.YtlepdkbkiajkiaaGreatDoorCards
namespace Go.Proofs.YtlepdkbkiajkiaaGreatDoor
open Go.RowKit Go.Deep
open Go.ChangeShapes Go.WideShapes Go.ChangeAt Go.RowKit Go.Deep
open Go.ChangeMaps (open_string shut_string)

set_option maxRecDepth 100000 in
theorem textT_size (s : ByteArray) : (textT s).size = 1 := by simp [textT, Tm.size, Tm.sizes]
set_option maxRecDepth 100000 in
theorem text_lies (s : ByteArray) (hs : s.size ≤ 300) (w : World) : Lies w 0 (textT s) (tmCells 2 0 s none 0 0) := lies_leaf w 2 0 s (by unfold maxLen; omega) (by decide) (by decide)
/-- Two terms in a row. -/
def twoT (t u : Tm) : Tm := .node 3 0 ByteArray.empty [t, u]

set_option maxRecDepth 100000 in
set_option maxHeartbeats 2000000 in
theorem textS (s : ByteArray) (w : World) :
    Calls Tryz.prog 75 #[.string s] w fun e w' => e = .returned (.agg #[.int .i64 2, .int .i64 0, .string s, .slice none 0 0]) ∧ Below w.heap.size w w' := by
  go_enter Tryz.func75, Tryz.ntmps75
  go_wp2_with fail
  exact bodyPost_ret (v := .agg #[.int .i64 2, .int .i64 0, .string s, .slice none 0 0]) (by simp [results, Tryz.results75, go_sem]) rfl ⟨rfl, ab _⟩

set_option maxRecDepth 100000 in
set_option maxHeartbeats 2000000 in
theorem wordI (s : ByteArray) (w : World) :
    Calls Tryz.prog 92 #[.string s] w fun e w' => e = .returned (.agg #[.int .i64 2, .int .i64 0, .string s, .slice none 0 0]) ∧ Below w.heap.size w w' := by
  go_enter Tryz.func92, Tryz.ntmps92
  go_wp2_with fail
  exact bodyPost_ret (v := .agg #[.int .i64 2, .int .i64 0, .string s, .slice none 0 0]) (by simp [results, Tryz.results92, go_sem]) rfl ⟨rfl, ab _⟩

set_option maxRecDepth 100000 in
set_option maxHeartbeats 2000000 in
theorem row0 (op n : Int) (s : ByteArray) (a : Option Addr) (len cap : Nat) (b : Option Addr) (k : Nat) (w : World) :
    Calls Tryz.prog 91 #[.agg #[.int .i64 op, .int .i64 n, .string s, .slice a len cap], .slice b 0 k] w fun e w' => e = .returned (.agg #[.int .i64 op, .int .i64 n, .string s, .slice a len cap]) ∧ Below w.heap.size w w' := by
  go_enter Tryz.func91, Tryz.ntmps91
  go_wp2_with fail
  exact bodyPost_ret (v := .agg #[.int .i64 op, .int .i64 n, .string s, .slice a len cap]) (by simp [results, Tryz.results91, go_sem]) rfl ⟨rfl, bt (ab _) (ab _) (Nat.le_refl _)⟩

/-- What a row of terms leaves: the row lies in every world that keeps what was there at first, and what is new. -/
def RowOk (w0 w w' : World) (T : Tm) (a : Option Addr) : Prop := ∀ W : World, Below w0.heap.size w0 W → (∀ b, w.heap.size ≤ b → b < w'.heap.size → W.heap[b]? = w'.heap[b]?) → Lies W 0 T (tmCells 3 0 ByteArray.empty a 2 2)

set_option maxRecDepth 100000 in
theorem row_cells (w : World) (op n : Int) (s : ByteArray) (a : Option Addr) (len cap : Nat) (op2 n2 : Int) (s2 : ByteArray) (a2 : Option Addr) (len2 cap2 : Nat) (j : Nat) (v : Value) (h : (#[.int .i64 op, .int .i64 n, .string s, .slice a len cap, .int .i64 op2, .int .i64 n2, .string s2, .slice a2 len2 cap2] : Array Value)[j]? = some v) : (w.alloc (.cells #[.int .i64 op, .int .i64 n, .string s, .slice a len cap, .int .i64 op2, .int .i64 n2, .string s2, .slice a2 len2 cap2] 29)).cell? ⟨w.heap.size, j, none⟩ = some v := box_cell w _ 29 j v h

set_option maxRecDepth 100000 in
theorem row_fin {w0 w w2 : World} {g : Nat} {t u : Tm} {op n : Int} {s : ByteArray} {a : Option Addr} {len cap : Nat} {op2 n2 : Int} {s2 : ByteArray} {a2 : Option Addr} {len2 cap2 : Nat} {x0 x1 x2 x3 : Value} (hb : Below w.heap.size w w2) (hg : w.heap.size ≤ g) (hl : Lies w0 0 t (tmCells op n s a len cap))
    (hu : ∀ W : World, Below w0.heap.size w0 W → (∀ b, w2.heap.size ≤ b → b < w2.heap.size → W.heap[b]? = w2.heap[b]?) → (∀ b, g < b → b < w2.heap.size → W.heap[b]? = w2.heap[b]?) → Lies W 0 u (tmCells op2 n2 s2 a2 len2 cap2)) :
    RowOk w0 w (((((w2.setCell ⟨g, 0, none⟩ x0).setCell ⟨g, 1, none⟩ x1).setCell ⟨g, 2, none⟩ x2).setCell ⟨g, 3, none⟩ x3).alloc (.cells #[.int .i64 op, .int .i64 n, .string s, .slice a len cap, .int .i64 op2, .int .i64 n2, .string s2, .slice a2 len2 cap2] 29)) (twoT t u) (some ⟨w2.heap.size, 0, none⟩) ∧
      Below w.heap.size w (((((w2.setCell ⟨g, 0, none⟩ x0).setCell ⟨g, 1, none⟩ x1).setCell ⟨g, 2, none⟩ x2).setCell ⟨g, 3, none⟩ x3).alloc (.cells #[.int .i64 op, .int .i64 n, .string s, .slice a len cap, .int .i64 op2, .int .i64 n2, .string s2, .slice a2 len2 cap2] 29)) := by
  have hX := set4_heap w2 g x0 x1 x2 x3
  have hbX : Below w.heap.size w ((((w2.setCell ⟨g, 0, none⟩ x0).setCell ⟨g, 1, none⟩ x1).setCell ⟨g, 2, none⟩ x2).setCell ⟨g, 3, none⟩ x3) := set4_below hb hg
  have hs := hb.size
  have hXs : ((((w2.setCell ⟨g, 0, none⟩ x0).setCell ⟨g, 1, none⟩ x1).setCell ⟨g, 2, none⟩ x2).setCell ⟨g, 3, none⟩ x3).heap.size = w2.heap.size := by simp
  generalize ((((w2.setCell ⟨g, 0, none⟩ x0).setCell ⟨g, 1, none⟩ x1).setCell ⟨g, 2, none⟩ x2).setCell ⟨g, 3, none⟩ x3) = X at *
  refine ⟨fun W h0 h1 => ?_, bt hbX (ab _) (Nat.le_refl _)⟩
  refine lies_row2 (hl.below h0) (hu W h0 (fun b h2 h3 => absurd h3 (by omega)) (fun b h2 h3 => ?_)) (fun j v hj => ?_) 3 (by decide)
  · rw [h1 b (by omega) (by simp; omega), (ab _).block b (by omega)]
    exact hX b (by omega)
  · rw [World.cell?_of_block (h1 w2.heap.size hs (by simp; omega)), ← hXs]
    exact row_cells X _ _ _ _ _ _ _ _ _ _ _ _ j v hj

set_option maxRecDepth 100000 in
set_option maxHeartbeats 2000000 in
theorem row1 (t u : Tm) (op n : Int) (s : ByteArray) (a : Option Addr) (len cap : Nat) (op2 n2 : Int) (s2 : ByteArray) (a2 : Option Addr) (len2 cap2 : Nat) (b o : Nat) (w0 w : World) (h0 : Below w0.heap.size w0 w) (hl : Lies w0 0 t (tmCells op n s a len cap)) (hu : Lies w0 0 u (tmCells op2 n2 s2 a2 len2 cap2)) (r0 : w.cell? ⟨b, o, none⟩ = some (.int .i64 op2)) (r1 : w.cell? ⟨b, o + 1, none⟩ = some (.int .i64 n2)) (r2 : w.cell? ⟨b, o + 2, none⟩ = some (.string s2)) (r3 : w.cell? ⟨b, o + 3, none⟩ = some (.slice a2 len2 cap2)) :
    Calls Tryz.prog 91 #[.agg #[.int .i64 op, .int .i64 n, .string s, .slice a len cap], .slice (some ⟨b, o, none⟩) 1 1] w fun e w' => ∃ a', e = .returned (.agg #[.int .i64 3, .int .i64 0, .string ByteArray.empty, .slice a' 2 2]) ∧ RowOk w0 w w' (twoT t u) a' ∧ Below w.heap.size w w' := by
  have h25 := hide (fun W => row0 op2 n2 s2 a2 len2 cap2 (some ⟨b, o, none⟩) 0 W)
  have HRA : Hid (RowT 29 ((w.alloc (.cells #[.int .i64 op, .int .i64 n, .string s, .slice a len cap] 29)).alloc (.cells #[.int .i64 0, .int .i64 0, .string ByteArray.empty, .slice none 0 0] 29)) w.heap.size op n s a len cap) := (RowT.new 29 w op n s a len cap).below (ab _)
  have hB : Below w.heap.size w ((w.alloc (.cells #[.int .i64 op, .int .i64 n, .string s, .slice a len cap] 29)).alloc (.cells #[.int .i64 0, .int .i64 0, .string ByteArray.empty, .slice none 0 0] 29)) := bt (ab _) (ab _) (Nat.le_refl _)
  have HS0 : Hid (((w.alloc (.cells #[.int .i64 op, .int .i64 n, .string s, .slice a len cap] 29)).alloc (.cells #[.int .i64 0, .int .i64 0, .string ByteArray.empty, .slice none 0 0] 29)).heap.size = w.heap.size + 2) := by show _ = _; simp
  have HX : Hid (ZBox ((w.alloc (.cells #[.int .i64 op, .int .i64 n, .string s, .slice a len cap] 29)).alloc (.cells #[.int .i64 0, .int .i64 0, .string ByteArray.empty, .slice none 0 0] 29)) (w.heap.size + 1)) := by
    have := ZBox.new (w.alloc (.cells #[.int .i64 op, .int .i64 n, .string s, .slice a len cap] 29))
    rwa [heap_size_alloc] at this
  have r0' := kpc hB r0
  have r1' := kpc hB r1
  have r2' := kpc hB r2
  have r3' := kpc hB r3
  have HB0 := hide (bt h0 hB (Nat.le_refl _))
  have HBW := hide hB
  have hbb : b < w.heap.size := lt_of_cell r0
  have hbn : b ≠ w.heap.size + 1 := by omega
  have hbn' := Ne.symm hbn
  have HL := hide hl
  clear hB h0 hl r0 r1 r2 r3
  go_enter Tryz.func91, Tryz.ntmps91
  go_wp2_with fail
  generalize hgw : ((w.alloc (.cells #[.int .i64 op, .int .i64 n, .string s, .slice a len cap] 29)).alloc (.cells #[.int .i64 0, .int .i64 0, .string ByteArray.empty, .slice none 0 0] 29)) = V at *
  refine gw_world hgw ?_
  clear hgw
  obtain ⟨c0, c1, c2, c3⟩ := (unhide HRA).facts
  go_region_held3 (fun x => x.cell? ⟨w.heap.size, 0, none⟩ = some (.int .i64 op) ∧ x.cell? ⟨w.heap.size, 1, none⟩ = some (.int .i64 n) ∧ x.cell? ⟨w.heap.size, 2, none⟩ = some (.string s) ∧ x.cell? ⟨w.heap.size, 3, none⟩ = some (.slice a len cap) ∧ x.cell? ⟨b, o, none⟩ = some (.int .i64 op2) ∧ x.cell? ⟨b, o + 1, none⟩ = some (.int .i64 n2) ∧ x.cell? ⟨b, o + 2, none⟩ = some (.string s2) ∧ x.cell? ⟨b, o + 3, none⟩ = some (.slice a2 len2 cap2)) (go_keep)
    (first | (go_at_call 91
              refine (unhide h25 _).mono ?_
              rintro e w2 ⟨rfl, hb2⟩
              have hb2' := hide (below_drew' hb2)
              have f0 := kpc (unhide hb2') c0
              have f1 := kpc (unhide hb2') c1
              have f2 := kpc (unhide hb2') c2
              have f3 := kpc (unhide hb2') c3
              have g0 := kpc (unhide hb2') r0'
              have g1 := kpc (unhide hb2') r1'
              have g2 := kpc (unhide hb2') r2'
              have g3 := kpc (unhide hb2') r3'
              have hz2 := (unhide HX).below (unhide hb2')
              have HLT2 := hide (lt_of_heap hz2)
              have HSV := hide (unhide hb2').size
              obtain ⟨d0, d1, d2, d3, e0, e1, e2, e3⟩ := hz2.facts
              have hlt := lt_of_heap hz2
              have hne := Nat.ne_of_lt hlt
              have hne' := Ne.symm hne
              have hlt1 := lt_of_cell f0
              have hne1 := Nat.ne_of_lt hlt1
              have hne1' := Ne.symm hne1
              have hlt2 := lt_of_cell g0
              have hne2 := Nat.ne_of_lt hlt2
              have hne2' := Ne.symm hne2
              have HZ2 := hide hz2
              clear hz2))
  have HF := hide (row_fin (w0 := w0) (g := w.heap.size + 1) (u := u) (x0 := .int .i64 3) (x1 := .int .i64 0) (x2 := .string ⟨#[]⟩) (x3 := .slice (some ⟨w2.heap.size, 0, none⟩) 2 2) (bt (unhide HBW) (unhide hb2') (Nat.le_refl _)) (by omega) (unhide HL) (fun W hW _ _ => hu.below hW))
  clear c0 c1 c2 c3 f0 f1 f2 f3 g0 r0' g1 r1' g2 r2' g3 r3'
  go_wp2_with fail
  have hK := (RowT.fill (ty := 29) (show RowT 29 w2 (w.heap.size + 1) 0 0 ByteArray.empty none 0 0 from unhide HZ2) 3 0 ⟨#[]⟩ (some ⟨w2.heap.size, 0, none⟩) 2 2).below (ab (.cells #[.int .i64 op, .int .i64 n, .string s, .slice a len cap, .int .i64 op2, .int .i64 n2, .string s2, .slice a2 len2 cap2] 29))
  obtain ⟨k0, k1, k2, k3⟩ := hK.facts
  exact bodyPost_ret (v := .agg #[.int .i64 3, .int .i64 0, .string ByteArray.empty, .slice (some ⟨w2.heap.size, 0, none⟩) 2 2]) (by simp [results, Tryz.results91, go_sem, k0, k1, k2, k3]; try rfl) rfl ⟨_, rfl, unhide HF⟩

set_option maxRecDepth 100000 in
set_option maxHeartbeats 2000000 in
theorem row2 (t u v : Tm) (op n : Int) (s : ByteArray) (a : Option Addr) (len cap : Nat) (op2 n2 : Int) (s2 : ByteArray) (a2 : Option Addr) (len2 cap2 : Nat) (op3 n3 : Int) (s3 : ByteArray) (a3 : Option Addr) (len3 cap3 : Nat) (b o : Nat) (w0 w : World) (h0 : Below w0.heap.size w0 w) (hl : Lies w0 0 t (tmCells op n s a len cap)) (hu : Lies w0 0 u (tmCells op2 n2 s2 a2 len2 cap2)) (hv : Lies w0 0 v (tmCells op3 n3 s3 a3 len3 cap3)) (r0 : w.cell? ⟨b, o, none⟩ = some (.int .i64 op2)) (r1 : w.cell? ⟨b, o + 1, none⟩ = some (.int .i64 n2)) (r2 : w.cell? ⟨b, o + 2, none⟩ = some (.string s2)) (r3 : w.cell? ⟨b, o + 3, none⟩ = some (.slice a2 len2 cap2)) (r4 : w.cell? ⟨b, o + 4, none⟩ = some (.int .i64 op3)) (r5 : w.cell? ⟨b, o + 5, none⟩ = some (.int .i64 n3)) (r6 : w.cell? ⟨b, o + 6, none⟩ = some (.string s3)) (r7 : w.cell? ⟨b, o + 7, none⟩ = some (.slice a3 len3 cap3)) :
    Calls Tryz.prog 91 #[.agg #[.int .i64 op, .int .i64 n, .string s, .slice a len cap], .slice (some ⟨b, o, none⟩) 2 2] w fun e w' => ∃ a', e = .returned (.agg #[.int .i64 3, .int .i64 0, .string ByteArray.empty, .slice a' 2 2]) ∧ RowOk w0 w w' (twoT t (twoT u v)) a' ∧ Below w.heap.size w w' := by
  have h25 := hide (fun W h r0 r1 r2 r3 => row1 u v op2 n2 s2 a2 len2 cap2 op3 n3 s3 a3 len3 cap3 b (o + 4) w0 W h hu hv r0 r1 r2 r3)
  have HRA : Hid (RowT 29 ((w.alloc (.cells #[.int .i64 op, .int .i64 n, .string s, .slice a len cap] 29)).alloc (.cells #[.int .i64 0, .int .i64 0, .string ByteArray.empty, .slice none 0 0] 29)) w.heap.size op n s a len cap) := (RowT.new 29 w op n s a len cap).below (ab _)
  have hB : Below w.heap.size w ((w.alloc (.cells #[.int .i64 op, .int .i64 n, .string s, .slice a len cap] 29)).alloc (.cells #[.int .i64 0, .int .i64 0, .string ByteArray.empty, .slice none 0 0] 29)) := bt (ab _) (ab _) (Nat.le_refl _)
  have HS0 : Hid (((w.alloc (.cells #[.int .i64 op, .int .i64 n, .string s, .slice a len cap] 29)).alloc (.cells #[.int .i64 0, .int .i64 0, .string ByteArray.empty, .slice none 0 0] 29)).heap.size = w.heap.size + 2) := by show _ = _; simp
  have HX : Hid (ZBox ((w.alloc (.cells #[.int .i64 op, .int .i64 n, .string s, .slice a len cap] 29)).alloc (.cells #[.int .i64 0, .int .i64 0, .string ByteArray.empty, .slice none 0 0] 29)) (w.heap.size + 1)) := by
    have := ZBox.new (w.alloc (.cells #[.int .i64 op, .int .i64 n, .string s, .slice a len cap] 29))
    rwa [heap_size_alloc] at this
  have r0' := kpc hB r0
  have r1' := kpc hB r1
  have r2' := kpc hB r2
  have r3' := kpc hB r3
  have r4' := kpc hB r4
  have r5' := kpc hB r5
  have r6' := kpc hB r6
  have r7' := kpc hB r7
  have HB0 := hide (bt h0 hB (Nat.le_refl _))
  have HBW := hide hB
  have hbb : b < w.heap.size := lt_of_cell r0
  have hbn : b ≠ w.heap.size + 1 := by omega
  have hbn' := Ne.symm hbn
  have HL := hide hl
  clear hB h0 hl r0 r1 r2 r3 r4 r5 r6 r7
  go_enter Tryz.func91, Tryz.ntmps91
  go_wp2_with fail
  generalize hgw : ((w.alloc (.cells #[.int .i64 op, .int .i64 n, .string s, .slice a len cap] 29)).alloc (.cells #[.int .i64 0, .int .i64 0, .string ByteArray.empty, .slice none 0 0] 29)) = V at *
  refine gw_world hgw ?_
  clear hgw
  obtain ⟨c0, c1, c2, c3⟩ := (unhide HRA).facts
  go_region_held3 (fun x => x.cell? ⟨w.heap.size, 0, none⟩ = some (.int .i64 op) ∧ x.cell? ⟨w.heap.size, 1, none⟩ = some (.int .i64 n) ∧ x.cell? ⟨w.heap.size, 2, none⟩ = some (.string s) ∧ x.cell? ⟨w.heap.size, 3, none⟩ = some (.slice a len cap) ∧ x.cell? ⟨b, o, none⟩ = some (.int .i64 op2) ∧ x.cell? ⟨b, o + 1, none⟩ = some (.int .i64 n2) ∧ x.cell? ⟨b, o + 2, none⟩ = some (.string s2) ∧ x.cell? ⟨b, o + 3, none⟩ = some (.slice a2 len2 cap2) ∧ x.cell? ⟨b, o + 4, none⟩ = some (.int .i64 op3) ∧ x.cell? ⟨b, o + 5, none⟩ = some (.int .i64 n3) ∧ x.cell? ⟨b, o + 6, none⟩ = some (.string s3) ∧ x.cell? ⟨b, o + 7, none⟩ = some (.slice a3 len3 cap3)) (go_keep)
    (first | (go_at_call 91
              refine (unhide h25 _ ((unhide HB0).drew) (kpc (Below.refl _ _).drew r4') (kpc (Below.refl _ _).drew r5') (kpc (Below.refl _ _).drew r6') (kpc (Below.refl _ _).drew r7')).mono ?_
              rintro e w2 ⟨a9, rfl, hR9, hb2⟩
              have HR9 := hide hR9
              have hb2' := hide (below_drew' hb2)
              have f0 := kpc (unhide hb2') c0
              have f1 := kpc (unhide hb2') c1
              have f2 := kpc (unhide hb2') c2
              have f3 := kpc (unhide hb2') c3
              have g0 := kpc (unhide hb2') r0'
              have g1 := kpc (unhide hb2') r1'
              have g2 := kpc (unhide hb2') r2'
              have g3 := kpc (unhide hb2') r3'
              have g4 := kpc (unhide hb2') r4'
              have g5 := kpc (unhide hb2') r5'
              have g6 := kpc (unhide hb2') r6'
              have g7 := kpc (unhide hb2') r7'
              have hz2 := (unhide HX).below (unhide hb2')
              have HLT2 := hide (lt_of_heap hz2)
              have HSV := hide (unhide hb2').size
              obtain ⟨d0, d1, d2, d3, e0, e1, e2, e3⟩ := hz2.facts
              have hlt := lt_of_heap hz2
              have hne := Nat.ne_of_lt hlt
              have hne' := Ne.symm hne
              have hlt1 := lt_of_cell f0
              have hne1 := Nat.ne_of_lt hlt1
              have hne1' := Ne.symm hne1
              have hlt2 := lt_of_cell g0
              have hne2 := Nat.ne_of_lt hlt2
              have hne2' := Ne.symm hne2
              have HZ2 := hide hz2
              clear hz2))
  have HF := hide (row_fin (w0 := w0) (g := w.heap.size + 1) (u := twoT u v) (x0 := .int .i64 3) (x1 := .int .i64 0) (x2 := .string ⟨#[]⟩) (x3 := .slice (some ⟨w2.heap.size, 0, none⟩) 2 2) (bt (unhide HBW) (unhide hb2') (Nat.le_refl _)) (by omega) (unhide HL) (fun W hW _ h2 => unhide HR9 W hW fun b hb hb' => h2 b (by have := unhide HS0; have hb9 : V.heap.size ≤ b := hb; omega) hb'))
  clear c0 c1 c2 c3 f0 f1 f2 f3 g0 r0' g1 r1' g2 r2' g3 r3' g4 r4' g5 r5' g6 r6' g7 r7'
  go_wp2_with fail
  have hK := (RowT.fill (ty := 29) (show RowT 29 w2 (w.heap.size + 1) 0 0 ByteArray.empty none 0 0 from unhide HZ2) 3 0 ⟨#[]⟩ (some ⟨w2.heap.size, 0, none⟩) 2 2).below (ab (.cells #[.int .i64 op, .int .i64 n, .string s, .slice a len cap, .int .i64 3, .int .i64 0, .string ByteArray.empty, .slice a9 2 2] 29))
  obtain ⟨k0, k1, k2, k3⟩ := hK.facts
  exact bodyPost_ret (v := .agg #[.int .i64 3, .int .i64 0, .string ByteArray.empty, .slice (some ⟨w2.heap.size, 0, none⟩) 2 2]) (by simp [results, Tryz.results91, go_sem, k0, k1, k2, k3]; try rfl) rfl ⟨_, rfl, unhide HF⟩

/-- The key of a share, by a number. -/
def keyT (t : Tm) (m : Int) : Tm := madeT 6 [madeT 3 [t, numT m]]

set_option maxRecDepth 100000 in
theorem madeT_le (op : Int) (ks : List Tm) : (madeT op ks).size ≤ 1 + Tm.sizes ks := by
  unfold madeT pickT
  split
  · simp [Tm.size]
  · simp [Tm.size, Tm.sizes]

set_option maxRecDepth 100000 in
set_option maxHeartbeats 2000000 in
theorem keyS (t : Tm) (m : Int) (op n : Int) (s : ByteArray) (a : Option Addr) (len cap : Nat) (w : World) (hl : Lies w 0 t (tmCells op n s a len cap)) (hsz : t.size ≤ 2097140) (h0 : -9223372036854775808 ≤ m) (h1 : m ≤ 9223372036854775807) :
    Calls Tryz.prog 77 #[.agg #[.int .i64 op, .int .i64 n, .string s, .slice a len cap], .int .i64 m] w fun e w' => ∃ op' n' s' a' len' cap', e = .returned (.agg #[.int .i64 op', .int .i64 n', .string s', .slice a' len' cap']) ∧ Lies w' w.heap.size (keyT t m) (tmCells op' n' s' a' len' cap') ∧ Below w.heap.size w w' := by
  have h35 := hide (num_calls m)
  have h15 := hide (pair12 t (numT m) op n s a len cap 2 0 ⟨(Lib.itoa m).toArray⟩ none 0 0)
  have h20 := hide (hash15 (madeT 3 [t, numT m]))
  have HN0 := hide h0
  have HN1 := hide h1
  have HZ1 : Hid (t.size + (numT m).size ≤ 2097151) := by show _ ≤ _; rw [numT_size]; omega
  have HZ2 : Hid ((madeT 3 [t, numT m]).size ≤ 2097151) := by
    show _ ≤ _
    have := madeT_le 3 [t, numT m]
    simp only [Tm.sizes, numT_size] at this
    omega
  have HNL : Hid (∀ v : World, Lies v 0 (numT m) (tmCells 2 0 ⟨(Lib.itoa m).toArray⟩ none 0 0)) := fun v => lies_leaf v 2 0 _ (itoa_size m h0 h1) (by decide) (by decide)
  have HE : Hid (keyT t m = madeT 6 [madeT 3 [t, numT m]]) := rfl
  generalize keyT t m = ST at *
  generalize madeT 3 [t, numT m] = PT at *
  generalize numT m = NT at *
  generalize (⟨(Lib.itoa m).toArray⟩ : ByteArray) = ns at *
  have hB0 : Below w.heap.size w ((w.alloc (.cells #[.int .i64 op, .int .i64 n, .string s, .slice a len cap] 29)).alloc (.cells #[.int .i64 0, .int .i64 0, .string ByteArray.empty, .slice none 0 0] 29)) := bt (ab _) (ab _) (Nat.le_refl _)
  have HX : Hid (ZBox ((w.alloc (.cells #[.int .i64 op, .int .i64 n, .string s, .slice a len cap] 29)).alloc (.cells #[.int .i64 0, .int .i64 0, .string ByteArray.empty, .slice none 0 0] 29)) (w.heap.size + 1)) := by
    have := ZBox.new (w.alloc (.cells #[.int .i64 op, .int .i64 n, .string s, .slice a len cap] 29))
    rwa [heap_size_alloc] at this
  have HRA : Hid (RowT 29 ((w.alloc (.cells #[.int .i64 op, .int .i64 n, .string s, .slice a len cap] 29)).alloc (.cells #[.int .i64 0, .int .i64 0, .string ByteArray.empty, .slice none 0 0] 29)) w.heap.size op n s a len cap) := (RowT.new 29 w op n s a len cap).below (ab _)
  have HLA := hide (hl.below hB0)
  have HB0 := hide hB0
  have HS0 : Hid (((w.alloc (.cells #[.int .i64 op, .int .i64 n, .string s, .slice a len cap] 29)).alloc (.cells #[.int .i64 0, .int .i64 0, .string ByteArray.empty, .slice none 0 0] 29)).heap.size = w.heap.size + 2) := by show _ = _; simp
  clear hl hsz hB0 h0 h1
  go_enter Tryz.func77, Tryz.ntmps77
  go_wp2_with fail
  generalize hgw : ((w.alloc (.cells #[.int .i64 op, .int .i64 n, .string s, .slice a len cap] 29)).alloc (.cells #[.int .i64 0, .int .i64 0, .string ByteArray.empty, .slice none 0 0] 29)) = W0 at *
  refine gw_world hgw ?_
  clear hgw
  obtain ⟨c0, c1, c2, c3⟩ := (unhide HRA).facts
  have hne1 : (w.heap.size = w.heap.size + 1) = False := by simp
  have hsA : w.heap.size + 1 < W0.heap.size := by have := unhide HS0; omega
  go_region_held3 (fun x => x.cell? ⟨w.heap.size, 0, none⟩ = some (.int .i64 op) ∧ x.cell? ⟨w.heap.size, 1, none⟩ = some (.int .i64 n) ∧ x.cell? ⟨w.heap.size, 2, none⟩ = some (.string s) ∧ x.cell? ⟨w.heap.size, 3, none⟩ = some (.slice a len cap)) (go_keep)
    (first
      | (go_at_call 101
         refine (unhide h35 _ (unhide HN0) (unhide HN1)).mono ?_
         rintro e w2 ⟨rfl, hb2⟩
         have hb2' := hide (below_drew' hb2)
         have f0 := kpc (unhide hb2') c0
         have f1 := kpc (unhide hb2') c1
         have f2 := kpc (unhide hb2') c2
         have f3 := kpc (unhide hb2') c3)
      | (go_at_call 74
         refine (unhide h15 _ ((unhide HLA).below (unhide hb2')) (unhide HNL _) (unhide HZ1)).mono ?_
         rintro e w3 ⟨op3, n3, s3, a3, len3, cap3, rfl, hL3, hb3, -⟩
         have hb3' := hide hb3
         have HL3 := hide (hL3.any (Nat.zero_le _))
         have g0 := kpc hb3 f0
         have g1 := kpc hb3 f1
         have g2 := kpc hb3 f2
         have g3 := kpc hb3 f3)
      | (go_at_call 96
         refine (unhide h20 _ _ _ _ _ _ _ (unhide HL3) (unhide HZ2)).mono ?_
         rintro e w4 ⟨op', n', s', a', len', cap', rfl, hL4, hb4, -⟩
         have hb4' := hide hb4
         have HL4 := hide hL4
         obtain ⟨p0, p1, p2, p3, q0, q1, q2, q3⟩ := ((((unhide HX).below (unhide hb2')).below (unhide hb3')).below hb4).facts
         have j0 := kpc hb4 g0
         have j1 := kpc hb4 g1
         have j2 := kpc hb4 g2
         have j3 := kpc hb4 g3))
  have HB4 := hide (bt (bt (bt (unhide HB0) (unhide hb2') (Nat.le_refl _)) (unhide hb3') (Nat.le_refl _)) (unhide hb4') (Nat.le_refl _))
  have HSZ : Hid (w.heap.size + 1 < w3.heap.size) := by show _ < _; have := (unhide hb2').size; have := (unhide hb3').size; omega
  clear f0 f1 f2 f3 c0 c1 c2 c3 g0 g1 g2 g3 j0 j1 j2 j3 hb2' hb3' hb4'
  go_wp2_with fail
  exact bodyPost_ret (v := .agg #[.int .i64 op', .int .i64 n', .string s', .slice a' len' cap']) (by simp [results, Tryz.results77, go_sem, p0, p1, p2, p3]) rfl ⟨op', n', s', a', len', cap', rfl, by rw [unhide HE]; exact set4_lies (unhide HL4) (unhide HSZ) w.heap.size (by have := unhide HSZ; omega), set4_below (unhide HB4) (by omega)⟩

set_option maxRecDepth 100000 in
set_option maxHeartbeats 2000000 in
theorem keyI (t : Tm) (m : Int) (op n : Int) (s : ByteArray) (a : Option Addr) (len cap : Nat) (w : World) (hl : Lies w 0 t (tmCells op n s a len cap)) (hsz : t.size ≤ 2097140) (h0 : -9223372036854775808 ≤ m) (h1 : m ≤ 9223372036854775807) (htab : Tab w) (herr : Err w) :
    Calls Tryz.prog 94 #[.agg #[.int .i64 op, .int .i64 n, .string s, .slice a len cap], .int .i64 m] w fun e w' => ∃ op' n' s' a' len' cap' fp, e = .returned (.agg #[.int .i64 op', .int .i64 n', .string s', .slice a' len' cap']) ∧ Own w' (keyT t m) (tmCells op' n' s' a' len' cap') fp ∧ (fp.Nodup ∧ ∀ x ∈ fp, w.heap.size ≤ x) ∧ Below w.heap.size w w' := by
  have h35 := hide (digitsI m)
  have h15 := hide (pair14 t (numT m) op n s a len cap 2 0 ⟨(Lib.itoa m).toArray⟩ none 0 0)
  have h20 := hide (hash16 (madeT 3 [t, numT m]))
  have HN0 := hide h0
  have HN1 := hide h1
  have HZ1 : Hid (t.size + (numT m).size ≤ 2097151) := by show _ ≤ _; rw [numT_size]; omega
  have HZ2 : Hid ((madeT 3 [t, numT m]).size ≤ 2097151) := by
    show _ ≤ _
    have := madeT_le 3 [t, numT m]
    simp only [Tm.sizes, numT_size] at this
    omega
  have HNL : Hid (∀ v : World, Lies v 0 (numT m) (tmCells 2 0 ⟨(Lib.itoa m).toArray⟩ none 0 0)) := fun v => lies_leaf v 2 0 _ (itoa_size m h0 h1) (by decide) (by decide)
  have HE : Hid (keyT t m = madeT 6 [madeT 3 [t, numT m]]) := rfl
  generalize keyT t m = ST at *
  generalize madeT 3 [t, numT m] = PT at *
  generalize numT m = NT at *
  generalize (⟨(Lib.itoa m).toArray⟩ : ByteArray) = ns at *
  have hB0 : Below w.heap.size w ((w.alloc (.cells #[.int .i64 op, .int .i64 n, .string s, .slice a len cap] 29)).alloc (.cells #[.int .i64 0, .int .i64 0, .string ByteArray.empty, .slice none 0 0] 29)) := bt (ab _) (ab _) (Nat.le_refl _)
  have HX : Hid (ZBox ((w.alloc (.cells #[.int .i64 op, .int .i64 n, .string s, .slice a len cap] 29)).alloc (.cells #[.int .i64 0, .int .i64 0, .string ByteArray.empty, .slice none 0 0] 29)) (w.heap.size + 1)) := by
    have := ZBox.new (w.alloc (.cells #[.int .i64 op, .int .i64 n, .string s, .slice a len cap] 29))
    rwa [heap_size_alloc] at this
  have HRA : Hid (RowT 29 ((w.alloc (.cells #[.int .i64 op, .int .i64 n, .string s, .slice a len cap] 29)).alloc (.cells #[.int .i64 0, .int .i64 0, .string ByteArray.empty, .slice none 0 0] 29)) w.heap.size op n s a len cap) := (RowT.new 29 w op n s a len cap).below (ab _)
  have HLA := hide (hl.below hB0)
  have HTB := hide (htab.on hB0)
  have HER := hide (herr.on hB0)
  have HB0 := hide hB0
  have HS0 : Hid (((w.alloc (.cells #[.int .i64 op, .int .i64 n, .string s, .slice a len cap] 29)).alloc (.cells #[.int .i64 0, .int .i64 0, .string ByteArray.empty, .slice none 0 0] 29)).heap.size = w.heap.size + 2) := by show _ = _; simp
  clear hl hsz hB0 h0 h1 htab herr
  go_enter Tryz.func94, Tryz.ntmps94
  go_wp2_with fail
  generalize hgw : ((w.alloc (.cells #[.int .i64 op, .int .i64 n, .string s, .slice a len cap] 29)).alloc (.cells #[.int .i64 0, .int .i64 0, .string ByteArray.empty, .slice none 0 0] 29)) = W0 at *
  refine gw_world hgw ?_
  clear hgw
  obtain ⟨c0, c1, c2, c3⟩ := (unhide HRA).facts
  have hne1 : (w.heap.size = w.heap.size + 1) = False := by simp
  have hsA : w.heap.size + 1 < W0.heap.size := by have := unhide HS0; omega
  go_region_held3 (fun x => x.cell? ⟨w.heap.size, 0, none⟩ = some (.int .i64 op) ∧ x.cell? ⟨w.heap.size, 1, none⟩ = some (.int .i64 n) ∧ x.cell? ⟨w.heap.size, 2, none⟩ = some (.string s) ∧ x.cell? ⟨w.heap.size, 3, none⟩ = some (.slice a len cap)) (go_keep)
    (first
      | (go_at_call 102
         refine (unhide h35 _ (unhide HN0) (unhide HN1) ((unhide HTB).on ((Below.refl _ _).drew))).mono ?_
         rintro e w2 ⟨rfl, hb2⟩
         have hb2' := hide (below_drew' hb2)
         have f0 := kpc (unhide hb2') c0
         have f1 := kpc (unhide hb2') c1
         have f2 := kpc (unhide hb2') c2
         have f3 := kpc (unhide hb2') c3)
      | (go_at_call 132
         refine (unhide h15 _ ((unhide HLA).below (unhide hb2')) (unhide HNL _) (unhide HZ1) ((unhide HER).on (unhide hb2'))).mono ?_
         rintro e w3 ⟨op3, n3, s3, a3, len3, cap3, f3p, rfl, hL3, _, hb3⟩
         have hb3' := hide hb3
         have HL3 := hide hL3.lies0
         have HER3 := hide (((unhide HER).on (unhide hb2')).on hb3)
         have g0 := kpc hb3 f0
         have g1 := kpc hb3 f1
         have g2 := kpc hb3 f2
         have g3 := kpc hb3 f3)
      | (go_at_call 95
         refine (unhide h20 _ _ _ _ _ _ _ (unhide HL3) (unhide HZ2) (unhide HER3)).mono ?_
         rintro e w4 ⟨op', n', s', a', len', cap', fp, rfl, hO4, ⟨hnd, hge⟩, hb4⟩
         have hb4' := hide hb4
         have HO4 := hide hO4
         have HND := hide hnd
         have HGE := hide hge
         obtain ⟨p0, p1, p2, p3, q0, q1, q2, q3⟩ := ((((unhide HX).below (unhide hb2')).below (unhide hb3')).below hb4).facts
         have j0 := kpc hb4 g0
         have j1 := kpc hb4 g1
         have j2 := kpc hb4 g2
         have j3 := kpc hb4 g3))
  have HB4 := hide (bt (bt (bt (unhide HB0) (unhide hb2') (Nat.le_refl _)) (unhide hb3') (Nat.le_refl _)) (unhide hb4') (Nat.le_refl _))
  have HSZ : Hid (w.heap.size + 1 < w3.heap.size) := by show _ < _; have := (unhide hb2').size; have := (unhide hb3').size; omega
  clear f0 f1 f2 f3 c0 c1 c2 c3 g0 g1 g2 g3 j0 j1 j2 j3 hb2' hb3' hb4'
  go_wp2_with fail
  exact bodyPost_ret (v := .agg #[.int .i64 op', .int .i64 n', .string s', .slice a' len' cap']) (by simp [results, Tryz.results94, go_sem, p0, p1, p2, p3]) rfl ⟨op', n', s', a', len', cap', fp, rfl, by rw [unhide HE]; exact Own.keep _ _ _ (unhide HO4) (fun b hb => set4_heap _ _ _ _ _ _ b (by have := unhide HGE b hb; have := unhide HSZ; omega)), ⟨unhide HND, fun x hx => by have := unhide HGE x hx; have := unhide HSZ; omega⟩, set4_below (unhide HB4) (by omega)⟩

/-- What is signed: the hash of the pair of both. -/
def bothT (t u : Tm) : Tm := madeT 6 [madeT 3 [t, u]]

set_option maxRecDepth 100000 in
theorem zeroT_bad (op n : Int) (s : ByteArray) : okT (.node op n s [.node 0 0 ByteArray.empty []]) = false := by
  cases h : okT (.node op n s [.node 0 0 ByteArray.empty []]) with
  | false => rfl
  | true =>
    have := okT_kid h (List.mem_singleton.2 rfl)
    revert this
    decide
set_option maxRecDepth 100000 in
theorem made_one (op o : Int) (ks : List Tm) : madeT op [madeT o ks] = madeT op [.node o 0 ByteArray.empty ks] := by
  cases h : okT (.node o 0 ByteArray.empty ks) with
  | true => simp only [madeT, h, pickT, if_true]
  | false =>
    have h1 : madeT o ks = .node 0 0 ByteArray.empty [] := by simp [madeT, h, pickT]
    have h2 : okT (.node op 0 ByteArray.empty [.node o 0 ByteArray.empty ks]) = false := by
      cases h3 : okT (.node op 0 ByteArray.empty [.node o 0 ByteArray.empty ks]) with
      | false => rfl
      | true =>
        rw [okT_kid h3 (List.mem_singleton.2 rfl)] at h
        cases h
    rw [h1]
    simp only [madeT, zeroT_bad, h2, pickT, Bool.false_eq_true, if_false]
set_option maxRecDepth 100000 in
theorem both_two (t u : Tm) : madeT 6 [twoT t u] = bothT t u := (made_one 6 3 [t, u]).symm

set_option maxRecDepth 100000 in
set_option maxHeartbeats 2000000 in
theorem bothS (t u : Tm) (op n : Int) (s : ByteArray) (a : Option Addr) (len cap : Nat) (op2 n2 : Int) (s2 : ByteArray) (a2 : Option Addr) (len2 cap2 : Nat) (w : World) (hl : Lies w 0 t (tmCells op n s a len cap)) (hl2 : Lies w 0 u (tmCells op2 n2 s2 a2 len2 cap2)) (hsz : t.size + u.size ≤ 2097140) :
    Calls Tryz.prog 34 #[.agg #[.int .i64 op, .int .i64 n, .string s, .slice a len cap], .agg #[.int .i64 op2, .int .i64 n2, .string s2, .slice a2 len2 cap2]] w fun e w' => ∃ op' n' s' a' len' cap', e = .returned (.agg #[.int .i64 op', .int .i64 n', .string s', .slice a' len' cap']) ∧ Lies w' w.heap.size (bothT t u) (tmCells op' n' s' a' len' cap') ∧ Below w.heap.size w w' := by
  have h22 := hide (pair12 t u op n s a len cap op2 n2 s2 a2 len2 cap2)
  have h21 := hide (hash15 (madeT 3 [t, u]))
  have HZ2 : Hid ((madeT 3 [t, u]).size ≤ 2097151) := by
    show _ ≤ _
    have := madeT_le 3 [t, u]
    simp only [Tm.sizes] at this
    omega
  have HZ1 : Hid (t.size + u.size ≤ 2097151) := by show _ ≤ _; omega
  have HE : Hid (bothT t u = madeT 6 [madeT 3 [t, u]]) := rfl
  generalize bothT t u = ST at *
  generalize madeT 3 [t, u] = PT at *
  have hB0 : Below w.heap.size w (((w.alloc (.cells #[.int .i64 op, .int .i64 n, .string s, .slice a len cap] 29)).alloc (.cells #[.int .i64 op2, .int .i64 n2, .string s2, .slice a2 len2 cap2] 29)).alloc (.cells #[.int .i64 0, .int .i64 0, .string ByteArray.empty, .slice none 0 0] 29)) := bt (bt (ab _) (ab _) (Nat.le_refl _)) (ab _) (Nat.le_refl _)
  have HX : Hid (ZBox (((w.alloc (.cells #[.int .i64 op, .int .i64 n, .string s, .slice a len cap] 29)).alloc (.cells #[.int .i64 op2, .int .i64 n2, .string s2, .slice a2 len2 cap2] 29)).alloc (.cells #[.int .i64 0, .int .i64 0, .string ByteArray.empty, .slice none 0 0] 29)) (w.heap.size + 1 + 1)) := by
    have := ZBox.new ((w.alloc (.cells #[.int .i64 op, .int .i64 n, .string s, .slice a len cap] 29)).alloc (.cells #[.int .i64 op2, .int .i64 n2, .string s2, .slice a2 len2 cap2] 29))
    rwa [heap_size_alloc, heap_size_alloc] at this
  have HS0 : Hid ((((w.alloc (.cells #[.int .i64 op, .int .i64 n, .string s, .slice a len cap] 29)).alloc (.cells #[.int .i64 op2, .int .i64 n2, .string s2, .slice a2 len2 cap2] 29)).alloc (.cells #[.int .i64 0, .int .i64 0, .string ByteArray.empty, .slice none 0 0] 29)).heap.size = w.heap.size + 3) := by show _ = _; simp
  have HLA := hide (hl.below hB0)
  have HLB := hide (hl2.below hB0)
  have HB0 := hide hB0
  clear hl hl2 hsz hB0
  go_enter Tryz.func34, Tryz.ntmps34
  go_wp2_with fail
  refine (unhide h22 _ (unhide HLA) (unhide HLB) (unhide HZ1)).mono ?_
  rintro e w2 ⟨op3, n3, s3, a3, len3, cap3, rfl, hL2, hb2, -⟩
  have HB2 := hide (bt (unhide HB0) hb2 (Nat.le_refl _))
  have HX2 := hide ((unhide HX).below hb2)
  have HL2 := hide (hL2.any (Nat.zero_le _))
  have HSZ : Hid (w.heap.size + 1 + 1 < w2.heap.size) := lt_of_heap (unhide HX2)
  clear hL2 hb2 HB0 HX HLA HLB
  go_wp2_with fail
  refine (unhide h21 _ _ _ _ _ _ _ (unhide HL2) (unhide HZ2)).mono ?_
  rintro e w4 ⟨op', n', s', a', len', cap', rfl, hL4, hb4, -⟩
  have HB4 := hide (bt (unhide HB2) hb4 (Nat.le_refl _))
  have HL4 := hide hL4
  obtain ⟨d0, d1, d2, d3, e0, e1, e2, e3⟩ := ((unhide HX2).below hb4).facts
  clear hL4 hb4 HB2 HX2
  go_wp2_with fail
  exact bodyPost_ret (v := .agg #[.int .i64 op', .int .i64 n', .string s', .slice a' len' cap']) (by simp [results, Tryz.results34, go_sem, d0, d1, d2, d3]) rfl ⟨op', n', s', a', len', cap', rfl, by rw [unhide HE]; exact set4_lies (unhide HL4) (by have := unhide HSZ; omega) w.heap.size (by have := unhide HSZ; omega), set4_below (unhide HB4) (by omega)⟩

set_option maxRecDepth 100000 in
set_option maxHeartbeats 2000000 in
theorem bothI (t u : Tm) (op n : Int) (s : ByteArray) (a : Option Addr) (len cap : Nat) (op2 n2 : Int) (s2 : ByteArray) (a2 : Option Addr) (len2 cap2 : Nat) (w : World) (hl : Lies w 0 t (tmCells op n s a len cap)) (hl2 : Lies w 0 u (tmCells op2 n2 s2 a2 len2 cap2)) (hsz : t.size + u.size ≤ 2097140) (herr : Err w) :
    Calls Tryz.prog 33 #[.agg #[.int .i64 op, .int .i64 n, .string s, .slice a len cap], .agg #[.int .i64 op2, .int .i64 n2, .string s2, .slice a2 len2 cap2]] w fun e w' => ∃ op' n' s' a' len' cap' fp, e = .returned (.agg #[.int .i64 op', .int .i64 n', .string s', .slice a' len' cap']) ∧ Own w' (bothT t u) (tmCells op' n' s' a' len' cap') fp ∧ (fp.Nodup ∧ ∀ x ∈ fp, w.heap.size ≤ x) ∧ Below w.heap.size w w' := by
  have h24 := hide (hash16 (twoT t u))
  have HZ2 : Hid ((twoT t u).size ≤ 2097151) := by
    show _ ≤ _
    simp only [twoT, Tm.size, Tm.sizes]
    omega
  have HE : Hid (bothT t u = madeT 6 [twoT t u]) := (both_two t u).symm
  generalize bothT t u = ST at *
  have hB0 : Below w.heap.size w (((w.alloc (.cells #[.int .i64 op, .int .i64 n, .string s, .slice a len cap] 29)).alloc (.cells #[.int .i64 op2, .int .i64 n2, .string s2, .slice a2 len2 cap2] 29)).alloc (.cells #[.int .i64 0, .int .i64 0, .string ByteArray.empty, .slice none 0 0] 29)) := bt (bt (ab _) (ab _) (Nat.le_refl _)) (ab _) (Nat.le_refl _)
  have HX : Hid (ZBox (((w.alloc (.cells #[.int .i64 op, .int .i64 n, .string s, .slice a len cap] 29)).alloc (.cells #[.int .i64 op2, .int .i64 n2, .string s2, .slice a2 len2 cap2] 29)).alloc (.cells #[.int .i64 0, .int .i64 0, .string ByteArray.empty, .slice none 0 0] 29)) (w.heap.size + 1 + 1)) := by
    have := ZBox.new ((w.alloc (.cells #[.int .i64 op, .int .i64 n, .string s, .slice a len cap] 29)).alloc (.cells #[.int .i64 op2, .int .i64 n2, .string s2, .slice a2 len2 cap2] 29))
    rwa [heap_size_alloc, heap_size_alloc] at this
  have HS0 : Hid ((((w.alloc (.cells #[.int .i64 op, .int .i64 n, .string s, .slice a len cap] 29)).alloc (.cells #[.int .i64 op2, .int .i64 n2, .string s2, .slice a2 len2 cap2] 29)).alloc (.cells #[.int .i64 0, .int .i64 0, .string ByteArray.empty, .slice none 0 0] 29)).heap.size = w.heap.size + 3) := by show _ = _; simp
  have HB0 := hide hB0
  have HER := hide (herr.on hB0)
  have hB1 := bt hB0 (ab (.cells #[.int .i64 op2, .int .i64 n2, .string s2, .slice a2 len2 cap2] 29)) (Nat.le_refl _)
  have HB1 := hide hB1
  have HX1 := hide ((unhide HX).below (ab (.cells #[.int .i64 op2, .int .i64 n2, .string s2, .slice a2 len2 cap2] 29)))
  have HR2 := hide (RowT.new 29 (((w.alloc (.cells #[.int .i64 op, .int .i64 n, .string s, .slice a len cap] 29)).alloc (.cells #[.int .i64 op2, .int .i64 n2, .string s2, .slice a2 len2 cap2] 29)).alloc (.cells #[.int .i64 0, .int .i64 0, .string ByteArray.empty, .slice none 0 0] 29)) op2 n2 s2 a2 len2 cap2)
  have h25 := hide (fun b r0 r1 r2 r3 => row1 t u op n s a len cap op2 n2 s2 a2 len2 cap2 b 0 w ((((w.alloc (.cells #[.int .i64 op, .int .i64 n, .string s, .slice a len cap] 29)).alloc (.cells #[.int .i64 op2, .int .i64 n2, .string s2, .slice a2 len2 cap2] 29)).alloc (.cells #[.int .i64 0, .int .i64 0, .string ByteArray.empty, .slice none 0 0] 29)).alloc (.cells #[.int .i64 op2, .int .i64 n2, .string s2, .slice a2 len2 cap2] 29)) hB1 hl hl2 r0 r1 r2 r3)
  clear hl hl2 hsz hB0 hB1 herr
  go_enter Tryz.func33, Tryz.ntmps33
  go_wp2_with fail
  obtain ⟨c0, c1, c2, c3⟩ := (unhide HR2).facts
  simp only [heap_size_alloc] at c0 c1 c2 c3
  refine (unhide h25 _ c0 c1 c2 c3).mono ?_
  rintro e w2 ⟨a9, rfl, hR2, hb2⟩
  have HL2 := hide (hR2 w2 (bt (unhide HB1) hb2 (Nat.le_refl _)) (fun _ _ _ => rfl))
  have HB2 := hide (bt (unhide HB1) hb2 (Nat.le_refl _))
  have HX2 := hide ((unhide HX1).below hb2)
  have HER2 := hide (((unhide HER).on (ab _)).on hb2)
  have HSZ : Hid (w.heap.size + 1 + 1 < w2.heap.size) := lt_of_heap (unhide HX2)
  clear hR2 hb2 c0 c1 c2 c3 HB0 HB1 HX HX1 HR2 HER
  go_wp2_with fail
  refine (unhide h24 _ _ _ _ _ _ _ (unhide HL2) (unhide HZ2) (unhide HER2)).mono ?_
  rintro e w4 ⟨op', n', s', a', len', cap', fp, rfl, hO4, ⟨hnd, hge⟩, hb4⟩
  have HB4 := hide (bt (unhide HB2) hb4 (Nat.le_refl _))
  have HO4 := hide hO4
  have HND := hide hnd
  have HGE := hide hge
  obtain ⟨d0, d1, d2, d3, e0, e1, e2, e3⟩ := ((unhide HX2).below hb4).facts
  clear hO4 hb4 hnd hge HB2 HX2
  go_wp2_with fail
  exact bodyPost_ret (v := .agg #[.int .i64 op', .int .i64 n', .string s', .slice a' len' cap']) (by simp [results, Tryz.results33, go_sem, d0, d1, d2, d3]) rfl ⟨op', n', s', a', len', cap', fp, rfl, by rw [unhide HE]; exact Own.keep _ _ _ (unhide HO4) (fun b hb => set4_heap _ _ _ _ _ _ b (by have := unhide HGE b hb; have := unhide HSZ; omega)), ⟨unhide HND, fun x hx => by have := unhide HGE x hx; have := unhide HSZ; omega⟩, set4_below (unhide HB4) (by omega)⟩

set_option maxRecDepth 100000 in
set_option maxHeartbeats 2000000 in
theorem kid_no (op n : Int) (s : ByteArray) (a : Option Addr) (len cap : Nat) (x : Addr) (w : World) (he : ErrAt x w) (h : op ≠ 4 ∨ len ≠ 1) :
    Calls Tryz.prog 134 #[.agg #[.int .i64 op, .int .i64 n, .string s, .slice a len cap]] w fun e w' => e = .returned (.tuple #[.agg #[.int .i64 0, .int .i64 0, .string ByteArray.empty, .slice none 0 0], .iface 202 (.pointer (some x))]) ∧ Below w.heap.size w w' := by
  have hB0 : Below w.heap.size w ((w.alloc (.cells #[.int .i64 op, .int .i64 n, .string s, .slice a len cap] 29)).alloc (.cells #[.int .i64 0, .int .i64 0, .string ByteArray.empty, .slice none 0 0] 29)) := bt (ab _) (ab _) (Nat.le_refl _)
  have HX : Hid (ZBox ((w.alloc (.cells #[.int .i64 op, .int .i64 n, .string s, .slice a len cap] 29)).alloc (.cells #[.int .i64 0, .int .i64 0, .string ByteArray.empty, .slice none 0 0] 29)) (w.heap.size + 1)) := by
    have := ZBox.new (w.alloc (.cells #[.int .i64 op, .int .i64 n, .string s, .slice a len cap] 29))
    rwa [heap_size_alloc] at this
  have HRA : Hid (RowT 29 ((w.alloc (.cells #[.int .i64 op, .int .i64 n, .string s, .slice a len cap] 29)).alloc (.cells #[.int .i64 0, .int .i64 0, .string ByteArray.empty, .slice none 0 0] 29)) w.heap.size op n s a len cap) := (RowT.new 29 w op n s a len cap).below (ab _)
  have g0 := (he.on hB0).cell
  have HB0 := hide hB0
  have hz1 : (w.heap.size + 1 = 0) = False := by simp
  have hz2 : (0 = w.heap.size + 1) = False := by simp
  clear hB0 he
  by_cases h4 : op = 4
  · have h1 : len ≠ 1 := by
      rcases h with h | h
      · exact absurd h4 h
      · exact h
    have q1 : (op != 4) = false := by simpa using h4
    have q2 : (((len : Nat) : Int) != 1) = true := by simp; omega
    clear h h1 h4
    go_enter Tryz.func134, Tryz.ntmps134
    go_wp2_with fail
    generalize hgw : ((w.alloc (.cells #[.int .i64 op, .int .i64 n, .string s, .slice a len cap] 29)).alloc (.cells #[.int .i64 0, .int .i64 0, .string ByteArray.empty, .slice none 0 0] 29)) = W0 at *
    refine gw_world hgw ?_
    clear hgw
    obtain ⟨c0, c1, c2, c3⟩ := (unhide HRA).facts
    obtain ⟨d0, d1, d2, d3, e0, e1, e2, e3⟩ := (unhide HX).facts
    go_region
    all_goals go_wp2_with fail
    all_goals
      exact bodyPost_ret (v := .tuple #[.agg #[.int .i64 0, .int .i64 0, .string ByteArray.empty, .slice none 0 0], .iface 202 (.pointer (some x))]) (by simp [results, Tryz.results134, go_sem, d0, d1, d2, d3]; try rfl) rfl ⟨rfl, set4_below (unhide HB0).drew (by omega)⟩
  · have q1 : (op != 4) = true := by simpa using h4
    clear h h4
    go_enter Tryz.func134, Tryz.ntmps134
    go_wp2_with fail
    generalize hgw : ((w.alloc (.cells #[.int .i64 op, .int .i64 n, .string s, .slice a len cap] 29)).alloc (.cells #[.int .i64 0, .int .i64 0, .string ByteArray.empty, .slice none 0 0] 29)) = W0 at *
    refine gw_world hgw ?_
    clear hgw
    obtain ⟨c0, c1, c2, c3⟩ := (unhide HRA).facts
    obtain ⟨d0, d1, d2, d3, e0, e1, e2, e3⟩ := (unhide HX).facts
    go_region
    all_goals go_wp2_with fail
    all_goals
      exact bodyPost_ret (v := .tuple #[.agg #[.int .i64 0, .int .i64 0, .string ByteArray.empty, .slice none 0 0], .iface 202 (.pointer (some x))]) (by simp [results, Tryz.results134, go_sem, d0, d1, d2, d3]; try rfl) rfl ⟨rfl, set4_below (unhide HB0).drew (by omega)⟩

set_option maxRecDepth 100000 in
set_option maxHeartbeats 2000000 in
theorem kid_yes (n : Int) (s : ByteArray) (b q cap2 : Nat) (op3 n3 : Int) (s3 : ByteArray) (a3 : Option Addr) (len3 cap3 : Nat) (w : World) (r0 : w.cell? ⟨b, q, none⟩ = some (.int .i64 op3)) (r1 : w.cell? ⟨b, q + 1, none⟩ = some (.int .i64 n3)) (r2 : w.cell? ⟨b, q + 2, none⟩ = some (.string s3)) (r3 : w.cell? ⟨b, q + 3, none⟩ = some (.slice a3 len3 cap3)) :
    Calls Tryz.prog 134 #[.agg #[.int .i64 4, .int .i64 n, .string s, .slice (some ⟨b, q, none⟩) 1 cap2]] w fun e w' => e = .returned (.tuple #[.agg #[.int .i64 op3, .int .i64 n3, .string s3, .slice a3 len3 cap3], .nilIface]) ∧ Below w.heap.size w w' := by
  have hB0 : Below w.heap.size w ((w.alloc (.cells #[.int .i64 4, .int .i64 n, .string s, .slice (some ⟨b, q, none⟩) 1 cap2] 29)).alloc (.cells #[.int .i64 0, .int .i64 0, .string ⟨#[]⟩, .slice none 0 0] 29)) := bt (ab _) (ab _) (Nat.le_refl _)
  have HB0 := hide hB0
  have hbl := lt_of_cell r0
  have n1 : b ≠ w.heap.size := by omega
  have n1' := Ne.symm n1
  have n2 : b ≠ w.heap.size + 1 := by omega
  have n2' := Ne.symm n2
  have i0 := kpc hB0 r0
  have i1 := kpc hB0 r1
  have i2 := kpc hB0 r2
  have i3 := kpc hB0 r3
  clear hB0 hbl r0 r1 r2 r3
  go_enter Tryz.func134, Tryz.ntmps134
  go_wp2_with fail
  exact bodyPost_ret (v := .tuple #[.agg #[.int .i64 op3, .int .i64 n3, .string s3, .slice a3 len3 cap3], .nilIface]) (by simp [results, Tryz.results134, go_sem]) rfl ⟨rfl, bt (ab _) (ab _) (Nat.le_refl _)⟩

set_option maxRecDepth 100000 in
set_option maxHeartbeats 2000000 in
theorem sgnb_no1 (op n : Int) (s : ByteArray) (a : Option Addr) (len cap : Nat) (op2 n2 : Int) (s2 : ByteArray) (a2 : Option Addr) (len2 cap2 : Nat) (x : Addr) (w : World) (he : ErrAt x w) (h : op ≠ 4 ∨ len ≠ 1) :
    Calls Tryz.prog 118 #[.agg #[.int .i64 op, .int .i64 n, .string s, .slice a len cap], .agg #[.int .i64 op2, .int .i64 n2, .string s2, .slice a2 len2 cap2]] w fun e w' => e = .returned (.tuple #[.agg #[.int .i64 0, .int .i64 0, .string ByteArray.empty, .slice none 0 0], .iface 202 (.pointer (some x))]) ∧ Below w.heap.size w w' := by
  have hB0 : Below w.heap.size w (((w.alloc (.cells #[.int .i64 op, .int .i64 n, .string s, .slice a len cap] 29)).alloc (.cells #[.int .i64 op2, .int .i64 n2, .string s2, .slice a2 len2 cap2] 29)).alloc (.cells #[.int .i64 0, .int .i64 0, .string ByteArray.empty, .slice none 0 0] 29)) := bt (bt (ab _) (ab _) (Nat.le_refl _)) (ab _) (Nat.le_refl _)
  have HX : Hid (ZBox (((w.alloc (.cells #[.int .i64 op, .int .i64 n, .string s, .slice a len cap] 29)).alloc (.cells #[.int .i64 op2, .int .i64 n2, .string s2, .slice a2 len2 cap2] 29)).alloc (.cells #[.int .i64 0, .int .i64 0, .string ByteArray.empty, .slice none 0 0] 29)) (w.heap.size + 1 + 1)) := by
    have := ZBox.new ((w.alloc (.cells #[.int .i64 op, .int .i64 n, .string s, .slice a len cap] 29)).alloc (.cells #[.int .i64 op2, .int .i64 n2, .string s2, .slice a2 len2 cap2] 29))
    rwa [heap_size_alloc, heap_size_alloc] at this
  have HRA : Hid (RowT 29 (((w.alloc (.cells #[.int .i64 op, .int .i64 n, .string s, .slice a len cap] 29)).alloc (.cells #[.int .i64 op2, .int .i64 n2, .string s2, .slice a2 len2 cap2] 29)).alloc (.cells #[.int .i64 0, .int .i64 0, .string ByteArray.empty, .slice none 0 0] 29)) w.heap.size op n s a len cap) := ((RowT.new 29 w op n s a len cap).below (ab _)).below (ab _)
  have HRB : Hid (RowT 29 (((w.alloc (.cells #[.int .i64 op, .int .i64 n, .string s, .slice a len cap] 29)).alloc (.cells #[.int .i64 op2, .int .i64 n2, .string s2, .slice a2 len2 cap2] 29)).alloc (.cells #[.int .i64 0, .int .i64 0, .string ByteArray.empty, .slice none 0 0] 29)) (w.heap.size + 1) op2 n2 s2 a2 len2 cap2) := by
    have := (RowT.new 29 (w.alloc (.cells #[.int .i64 op, .int .i64 n, .string s, .slice a len cap] 29)) op2 n2 s2 a2 len2 cap2).below (ab (.cells #[.int .i64 0, .int .i64 0, .string ByteArray.empty, .slice none 0 0] 29))
    rwa [heap_size_alloc] at this
  have HB0 := hide hB0
  have h61 := hide (fun V (hV : Below w.heap.size w V) => kid_no op n s a len cap x V (he.on hV) h)
  obtain ⟨c0, c1, c2, c3⟩ := (unhide HRA).facts
  clear hB0 he h HRB
  go_enter Tryz.func118, Tryz.ntmps118
  go_wp2_with fail
  refine (unhide h61 _ (unhide HB0)).mono ?_
  rintro e w2 ⟨rfl, hb2⟩
  have HB9 := hide (bt (unhide HB0) hb2 (Nat.le_refl _))
  have HX9 := hide ((unhide HX).below hb2)
  clear hb2 c0 c1 c2 c3
  have hlt : w.heap.size + 1 + 1 < w2.heap.size := lt_of_heap (unhide HX9)
  have hne := Nat.ne_of_lt hlt
  have hne' := Ne.symm hne
  obtain ⟨d0, d1, d2, d3, e0, e1, e2, e3⟩ := (unhide HX9).facts
  go_wp2_with fail
  obtain ⟨f0, f1, f2, f3⟩ := ((RowT.fill (ty := 29) (show RowT 29 w2 (w.heap.size + 1 + 1) 0 0 ByteArray.empty none 0 0 from unhide HX9) 0 0 ⟨#[]⟩ none 0 0).below (ab (.cells #[.int .i64 0, .int .i64 0, .string ByteArray.empty, .slice none 0 0] 29))).facts
  have hS := set4_below (g := w.heap.size + 1 + 1) (x0 := .int .i64 0) (x1 := .int .i64 0) (x2 := .string ⟨#[]⟩) (x3 := .slice none 0 0) (unhide HB9) (by omega)
  exact bodyPost_ret (v := .tuple #[.agg #[.int .i64 0, .int .i64 0, .string ByteArray.empty, .slice none 0 0], .iface 202 (.pointer (some x))]) (by simp [results, Tryz.results118, go_sem, f0, f1, f2, f3]; try rfl) rfl ⟨rfl, hS.alloc hS.size _⟩

set_option maxRecDepth 100000 in
set_option maxHeartbeats 2000000 in
theorem sgnb_no2 (k t : Tm) (n : Int) (s : ByteArray) (b q cap : Nat) (op3 n3 : Int) (s3 : ByteArray) (a3 : Option Addr) (len3 cap3 : Nat) (op2 n2 : Int) (s2 : ByteArray) (a2 : Option Addr) (len2 cap2 : Nat) (x : Addr) (w : World) (he : ErrAt x w) (hk : Lies w 0 k (tmCells op3 n3 s3 a3 len3 cap3)) (hl2 : Lies w 0 t (tmCells op2 n2 s2 a2 len2 cap2)) (hsz : t.size ≤ 2097152) (r0 : w.cell? ⟨b, q, none⟩ = some (.int .i64 op3)) (r1 : w.cell? ⟨b, q + 1, none⟩ = some (.int .i64 n3)) (r2 : w.cell? ⟨b, q + 2, none⟩ = some (.string s3)) (r3 : w.cell? ⟨b, q + 3, none⟩ = some (.slice a3 len3 cap3)) (hb : behO 8 k t = none) :
    Calls Tryz.prog 118 #[.agg #[.int .i64 4, .int .i64 n, .string s, .slice (some ⟨b, q, none⟩) 1 cap], .agg #[.int .i64 op2, .int .i64 n2, .string s2, .slice a2 len2 cap2]] w fun e w' => e = .returned (.tuple #[.agg #[.int .i64 0, .int .i64 0, .string ByteArray.empty, .slice none 0 0], .iface 202 (.pointer (some x))]) ∧ Below w.heap.size w w' := by
  have hB0 : Below w.heap.size w (((w.alloc (.cells #[.int .i64 4, .int .i64 n, .string s, .slice (some ⟨b, q, none⟩) 1 cap] 29)).alloc (.cells #[.int .i64 op2, .int .i64 n2, .string s2, .slice a2 len2 cap2] 29)).alloc (.cells #[.int .i64 0, .int .i64 0, .string ByteArray.empty, .slice none 0 0] 29)) := bt (bt (ab _) (ab _) (Nat.le_refl _)) (ab _) (Nat.le_refl _)
  have HX : Hid (ZBox (((w.alloc (.cells #[.int .i64 4, .int .i64 n, .string s, .slice (some ⟨b, q, none⟩) 1 cap] 29)).alloc (.cells #[.int .i64 op2, .int .i64 n2, .string s2, .slice a2 len2 cap2] 29)).alloc (.cells #[.int .i64 0, .int .i64 0, .string ByteArray.empty, .slice none 0 0] 29)) (w.heap.size + 1 + 1)) := by
    have := ZBox.new ((w.alloc (.cells #[.int .i64 4, .int .i64 n, .string s, .slice (some ⟨b, q, none⟩) 1 cap] 29)).alloc (.cells #[.int .i64 op2, .int .i64 n2, .string s2, .slice a2 len2 cap2] 29))
    rwa [heap_size_alloc, heap_size_alloc] at this
  have HRA : Hid (RowT 29 (((w.alloc (.cells #[.int .i64 4, .int .i64 n, .string s, .slice (some ⟨b, q, none⟩) 1 cap] 29)).alloc (.cells #[.int .i64 op2, .int .i64 n2, .string s2, .slice a2 len2 cap2] 29)).alloc (.cells #[.int .i64 0, .int .i64 0, .string ByteArray.empty, .slice none 0 0] 29)) w.heap.size 4 n s (some ⟨b, q, none⟩) 1 cap) := ((RowT.new 29 w 4 n s (some ⟨b, q, none⟩) 1 cap).below (ab _)).below (ab _)
  have HRB : Hid (RowT 29 (((w.alloc (.cells #[.int .i64 4, .int .i64 n, .string s, .slice (some ⟨b, q, none⟩) 1 cap] 29)).alloc (.cells #[.int .i64 op2, .int .i64 n2, .string s2, .slice a2 len2 cap2] 29)).alloc (.cells #[.int .i64 0, .int .i64 0, .string ByteArray.empty, .slice none 0 0] 29)) (w.heap.size + 1) op2 n2 s2 a2 len2 cap2) := by
    have := (RowT.new 29 (w.alloc (.cells #[.int .i64 4, .int .i64 n, .string s, .slice (some ⟨b, q, none⟩) 1 cap] 29)) op2 n2 s2 a2 len2 cap2).below (ab (.cells #[.int .i64 0, .int .i64 0, .string ByteArray.empty, .slice none 0 0] 29))
    rwa [heap_size_alloc] at this
  have HB0 := hide hB0
  have h61 := hide (fun V (hV : Below w.heap.size w V) => kid_yes n s b q cap op3 n3 s3 a3 len3 cap3 V (kpc hV r0) (kpc hV r1) (kpc hV r2) (kpc hV r3))
  have h131 := hide (fun V (hV : Below w.heap.size w V) => behind_none 8 (by decide) k t op3 n3 s3 a3 len3 cap3 op2 n2 s2 a2 len2 cap2 x V (he.on hV) (hk.below hV) (hl2.below hV) hsz hb)
  obtain ⟨c0, c1, c2, c3⟩ := (unhide HRA).facts
  clear hB0 HRA r0 r1 r2 r3
  go_enter Tryz.func118, Tryz.ntmps118
  go_wp2_with fail
  refine (unhide h61 _ (unhide HB0)).mono ?_
  rintro e w2 ⟨rfl, hb2⟩
  have hb3 := bt hb2 (ab (.cells #[.int .i64 op3, .int .i64 n3, .string s3, .slice a3 len3 cap3] 29)) (Nat.le_refl _)
  have HB2 := hide (bt (unhide HB0) hb3 (Nat.le_refl _))
  have HX2 := hide ((unhide HX).below hb3)
  have HRB2 := hide ((unhide HRB).below hb3)
  have HK2 := hide (RowT.new 29 w2 op3 n3 s3 a3 len3 cap3)
  clear hb2 hb3 c0 c1 c2 c3 HB0 HX HRB
  obtain ⟨c0, c1, c2, c3⟩ := (unhide HRB2).facts
  obtain ⟨d0, d1, d2, d3⟩ := (unhide HK2).facts
  go_wp2_with fail
  refine (unhide h131 _ (unhide HB2)).mono ?_
  rintro e w3 ⟨rfl, hb3⟩
  have HB3 := hide (bt (unhide HB2) hb3 (Nat.le_refl _))
  clear c0 c1 c2 c3 d0 d1 d2 d3
  obtain ⟨d0, d1, d2, d3, e0, e1, e2, e3⟩ := ((unhide HX2).below hb3).facts
  clear hb3
  go_wp2_with fail
  exact bodyPost_ret (v := .tuple #[.agg #[.int .i64 0, .int .i64 0, .string ByteArray.empty, .slice none 0 0], .iface 202 (.pointer (some x))]) (by simp [results, Tryz.results118, go_sem, d0, d1, d2, d3]; try rfl) rfl ⟨rfl, set4_below (unhide HB3) (by omega)⟩

set_option maxRecDepth 100000 in
set_option maxHeartbeats 2000000 in
theorem sgnb_yes (k t : Tm) (n : Int) (s : ByteArray) (b q cap : Nat) (op3 n3 : Int) (s3 : ByteArray) (a3 : Option Addr) (len3 cap3 : Nat) (op2 n2 : Int) (s2 : ByteArray) (a2 : Option Addr) (len2 cap2 : Nat) (x : Addr) (w : World) (he : ErrAt x w) (hk : Lies w 0 k (tmCells op3 n3 s3 a3 len3 cap3)) (hl2 : Lies w 0 t (tmCells op2 n2 s2 a2 len2 cap2)) (hsz : t.size ≤ 2097152) (r0 : w.cell? ⟨b, q, none⟩ = some (.int .i64 op3)) (r1 : w.cell? ⟨b, q + 1, none⟩ = some (.int .i64 n3)) (r2 : w.cell? ⟨b, q + 2, none⟩ = some (.string s3)) (r3 : w.cell? ⟨b, q + 3, none⟩ = some (.slice a3 len3 cap3)) (u : Tm) (hb : behO 8 k t = some u) :
    Calls Tryz.prog 118 #[.agg #[.int .i64 4, .int .i64 n, .string s, .slice (some ⟨b, q, none⟩) 1 cap], .agg #[.int .i64 op2, .int .i64 n2, .string s2, .slice a2 len2 cap2]] w fun e w' => ∃ op4 n4 s4 a4 len4 cap4, e = .returned (.tuple #[.agg #[.int .i64 op4, .int .i64 n4, .string s4, .slice a4 len4 cap4], .nilIface]) ∧ Lies w 0 u (tmCells op4 n4 s4 a4 len4 cap4) ∧ Below w.heap.size w w' := by
  obtain ⟨nt, st, k0, rfl, hok, hsm⟩ := behO_some hb
  obtain ⟨rfl, rfl, rfl, rfl, b2, q2, op5, n5, s5, a5, len5, cap5, op4, n4, s4, a4, len4, cap4, rfl, ⟨y0, y1, y2, y3, hk0⟩, y4, y5, y6, y7, hk1⟩ := lies_kids hl2
  refine Calls.mono (R := fun e w' => e = .returned (.tuple #[.agg #[.int .i64 op4, .int .i64 n4, .string s4, .slice a4 len4 cap4], .nilIface]) ∧ Below w.heap.size w w') ?_ (fun e w' h => ⟨_, _, _, _, _, _, h.1, hk1, h.2⟩)
  have hB0 : Below w.heap.size w (((w.alloc (.cells #[.int .i64 4, .int .i64 n, .string s, .slice (some ⟨b, q, none⟩) 1 cap] 29)).alloc (.cells #[.int .i64 8, .int .i64 n2, .string s2, .slice (some ⟨b2, q2, none⟩) 2 cap2] 29)).alloc (.cells #[.int .i64 0, .int .i64 0, .string ByteArray.empty, .slice none 0 0] 29)) := bt (bt (ab _) (ab _) (Nat.le_refl _)) (ab _) (Nat.le_refl _)
  have HX : Hid (ZBox (((w.alloc (.cells #[.int .i64 4, .int .i64 n, .string s, .slice (some ⟨b, q, none⟩) 1 cap] 29)).alloc (.cells #[.int .i64 8, .int .i64 n2, .string s2, .slice (some ⟨b2, q2, none⟩) 2 cap2] 29)).alloc (.cells #[.int .i64 0, .int .i64 0, .string ByteArray.empty, .slice none 0 0] 29)) (w.heap.size + 1 + 1)) := by
    have := ZBox.new ((w.alloc (.cells #[.int .i64 4, .int .i64 n, .string s, .slice (some ⟨b, q, none⟩) 1 cap] 29)).alloc (.cells #[.int .i64 8, .int .i64 n2, .string s2, .slice (some ⟨b2, q2, none⟩) 2 cap2] 29))
    rwa [heap_size_alloc, heap_size_alloc] at this
  have HRA : Hid (RowT 29 (((w.alloc (.cells #[.int .i64 4, .int .i64 n, .string s, .slice (some ⟨b, q, none⟩) 1 cap] 29)).alloc (.cells #[.int .i64 8, .int .i64 n2, .string s2, .slice (some ⟨b2, q2, none⟩) 2 cap2] 29)).alloc (.cells #[.int .i64 0, .int .i64 0, .string ByteArray.empty, .slice none 0 0] 29)) w.heap.size 4 n s (some ⟨b, q, none⟩) 1 cap) := ((RowT.new 29 w 4 n s (some ⟨b, q, none⟩) 1 cap).below (ab _)).below (ab _)
  have HRB : Hid (RowT 29 (((w.alloc (.cells #[.int .i64 4, .int .i64 n, .string s, .slice (some ⟨b, q, none⟩) 1 cap] 29)).alloc (.cells #[.int .i64 8, .int .i64 n2, .string s2, .slice (some ⟨b2, q2, none⟩) 2 cap2] 29)).alloc (.cells #[.int .i64 0, .int .i64 0, .string ByteArray.empty, .slice none 0 0] 29)) (w.heap.size + 1) 8 n2 s2 (some ⟨b2, q2, none⟩) 2 cap2) := by
    have := (RowT.new 29 (w.alloc (.cells #[.int .i64 4, .int .i64 n, .string s, .slice (some ⟨b, q, none⟩) 1 cap] 29)) 8 n2 s2 (some ⟨b2, q2, none⟩) 2 cap2).below (ab (.cells #[.int .i64 0, .int .i64 0, .string ByteArray.empty, .slice none 0 0] 29))
    rwa [heap_size_alloc] at this
  have HB0 := hide hB0
  have h61 := hide (fun V (hV : Below w.heap.size w V) => kid_yes n s b q cap op3 n3 s3 a3 len3 cap3 V (kpc hV r0) (kpc hV r1) (kpc hV r2) (kpc hV r3))
  have h131 := hide (fun V (hV : Below w.heap.size w V) => behind_yes k k0 u op3 n3 s3 a3 len3 cap3 8 n2 s2 b2 q2 cap2 op5 n5 s5 a5 len5 cap5 op4 n4 s4 a4 len4 cap4 x V (he.on hV) (hk.below hV) (hl2.below hV) hsz hok (kpc hV y0) (kpc hV y1) (kpc hV y2) (kpc hV y3) (hk0.below hV) (kpc hV y4) (kpc hV y5) (kpc hV y6) (kpc hV y7) hsm)
  obtain ⟨c0, c1, c2, c3⟩ := (unhide HRA).facts
  clear hB0 HRA r0 r1 r2 r3
  go_enter Tryz.func118, Tryz.ntmps118
  go_wp2_with fail
  refine (unhide h61 _ (unhide HB0)).mono ?_
  rintro e w2 ⟨rfl, hb2⟩
  have hb3 := bt hb2 (ab (.cells #[.int .i64 op3, .int .i64 n3, .string s3, .slice a3 len3 cap3] 29)) (Nat.le_refl _)
  have HB2 := hide (bt (unhide HB0) hb3 (Nat.le_refl _))
  have HX2 := hide ((unhide HX).below hb3)
  have HRB2 := hide ((unhide HRB).below hb3)
  have HK2 := hide (RowT.new 29 w2 op3 n3 s3 a3 len3 cap3)
  clear hb2 hb3 c0 c1 c2 c3 HB0 HX HRB
  obtain ⟨c0, c1, c2, c3⟩ := (unhide HRB2).facts
  obtain ⟨d0, d1, d2, d3⟩ := (unhide HK2).facts
  go_wp2_with fail
  refine (unhide h131 _ (unhide HB2)).mono ?_
  rintro e w3 ⟨rfl, hb3⟩
  have HB3 := hide (bt (unhide HB2) hb3 (Nat.le_refl _))
  clear c0 c1 c2 c3 d0 d1 d2 d3
  obtain ⟨d0, d1, d2, d3, e0, e1, e2, e3⟩ := ((unhide HX2).below hb3).facts
  clear hb3
  go_wp2_with fail
  exact bodyPost_ret (v := .tuple #[.agg #[.int .i64 op4, .int .i64 n4, .string s4, .slice a4 len4 cap4], .nilIface]) (by simp [results, Tryz.results118, go_sem, d0, d1, d2, d3]; try rfl) rfl ⟨rfl, set4_below (unhide HB3) (by omega)⟩

set_option maxRecDepth 100000 in
set_option maxHeartbeats 2000000 in
theorem signedI_no (op n : Int) (s : ByteArray) (a : Option Addr) (len cap : Nat) (op2 n2 : Int) (s2 : ByteArray) (a2 : Option Addr) (len2 cap2 : Nat) (x : Addr) (w : World) (he : ErrAt x w) (h25 : ∀ V, Below w.heap.size w V → Calls Tryz.prog 118 #[.agg #[.int .i64 op, .int .i64 n, .string s, .slice a len cap], .agg #[.int .i64 op2, .int .i64 n2, .string s2, .slice a2 len2 cap2]] V fun e w' => e = .returned (.tuple #[.agg #[.int .i64 0, .int .i64 0, .string ByteArray.empty, .slice none 0 0], .iface 202 (.pointer (some x))]) ∧ Below V.heap.size V w') :
    Calls Tryz.prog 63 #[.agg #[.int .i64 op, .int .i64 n, .string s, .slice a len cap], .agg #[.int .i64 op2, .int .i64 n2, .string s2, .slice a2 len2 cap2]] w fun e w' => e = .returned (.tuple #[.agg #[.int .i64 0, .int .i64 0, .string ByteArray.empty, .slice none 0 0], .bool false]) ∧ Below w.heap.size w w' := by
  have hB0 : Below w.heap.size w (((w.alloc (.cells #[.int .i64 op, .int .i64 n, .string s, .slice a len cap] 29)).alloc (.cells #[.int .i64 op2, .int .i64 n2, .string s2, .slice a2 len2 cap2] 29)).alloc (.cells #[.int .i64 0, .int .i64 0, .string ByteArray.empty, .slice none 0 0] 29)) := bt (bt (ab _) (ab _) (Nat.le_refl _)) (ab _) (Nat.le_refl _)
  have HX : Hid (ZBox (((w.alloc (.cells #[.int .i64 op, .int .i64 n, .string s, .slice a len cap] 29)).alloc (.cells #[.int .i64 op2, .int .i64 n2, .string s2, .slice a2 len2 cap2] 29)).alloc (.cells #[.int .i64 0, .int .i64 0, .string ByteArray.empty, .slice none 0 0] 29)) (w.heap.size + 1 + 1)) := by
    have := ZBox.new ((w.alloc (.cells #[.int .i64 op, .int .i64 n, .string s, .slice a len cap] 29)).alloc (.cells #[.int .i64 op2, .int .i64 n2, .string s2, .slice a2 len2 cap2] 29))
    rwa [heap_size_alloc, heap_size_alloc] at this
  have HRA : Hid (RowT 29 (((w.alloc (.cells #[.int .i64 op, .int .i64 n, .string s, .slice a len cap] 29)).alloc (.cells #[.int .i64 op2, .int .i64 n2, .string s2, .slice a2 len2 cap2] 29)).alloc (.cells #[.int .i64 0, .int .i64 0, .string ByteArray.empty, .slice none 0 0] 29)) w.heap.size op n s a len cap) := ((RowT.new 29 w op n s a len cap).below (ab _)).below (ab _)
  have HRB : Hid (RowT 29 (((w.alloc (.cells #[.int .i64 op, .int .i64 n, .string s, .slice a len cap] 29)).alloc (.cells #[.int .i64 op2, .int .i64 n2, .string s2, .slice a2 len2 cap2] 29)).alloc (.cells #[.int .i64 0, .int .i64 0, .string ByteArray.empty, .slice none 0 0] 29)) (w.heap.size + 1) op2 n2 s2 a2 len2 cap2) := by
    have := (RowT.new 29 (w.alloc (.cells #[.int .i64 op, .int .i64 n, .string s, .slice a len cap] 29)) op2 n2 s2 a2 len2 cap2).below (ab (.cells #[.int .i64 0, .int .i64 0, .string ByteArray.empty, .slice none 0 0] 29))
    rwa [heap_size_alloc] at this
  have HB0 := hide hB0
  obtain ⟨c0, c1, c2, c3⟩ := (unhide HRA).facts
  obtain ⟨d0, d1, d2, d3⟩ := (unhide HRB).facts
  have H25 := hide h25
  have HER := hide he
  clear h25 he hB0
  go_enter Tryz.func63, Tryz.ntmps63
  go_wp2_with fail
  refine (unhide H25 _ (unhide HB0)).mono ?_
  rintro e w2 ⟨rfl, hb2⟩
  have HB2 := hide (bt (unhide HB0) hb2 (Nat.le_refl _))
  have HX2 := hide ((unhide HX).below hb2)
  have h24 := hide (fun z he => answer_no 0 0 ByteArray.empty none 0 0 x z he)
  clear hb2 HB0 HX c0 c1 c2 c3 d0 d1 d2 d3
  go_wp2_with fail
  refine (unhide h24 _ ((unhide HER).on (unhide HB2))).mono ?_
  rintro e w3 ⟨rfl, hb3⟩
  have HB3 := hide (bt (unhide HB2) hb3 (Nat.le_refl _))
  obtain ⟨d0, d1, d2, d3, e0, e1, e2, e3⟩ := ((unhide HX2).below hb3).facts
  clear hb3
  go_wp2_with fail
  exact bodyPost_ret (v := .tuple #[.agg #[.int .i64 0, .int .i64 0, .string ByteArray.empty, .slice none 0 0], .bool false]) (by simp [results, Tryz.results63, go_sem, d0, d1, d2, d3]; try rfl) rfl ⟨rfl, set4_below (unhide HB3) (by omega)⟩

set_option maxRecDepth 100000 in
set_option maxHeartbeats 2000000 in
theorem signedI_yes (R : Tm) (op n : Int) (s : ByteArray) (a : Option Addr) (len cap : Nat) (op2 n2 : Int) (s2 : ByteArray) (a2 : Option Addr) (len2 cap2 : Nat) (x : Addr) (w : World) (he : ErrAt x w) (hok : okT R = true) (h25 : ∀ V, Below w.heap.size w V → Calls Tryz.prog 118 #[.agg #[.int .i64 op, .int .i64 n, .string s, .slice a len cap], .agg #[.int .i64 op2, .int .i64 n2, .string s2, .slice a2 len2 cap2]] V fun e w' => ∃ op4 n4 s4 a4 len4 cap4, e = .returned (.tuple #[.agg #[.int .i64 op4, .int .i64 n4, .string s4, .slice a4 len4 cap4], .nilIface]) ∧ Lies V 0 R (tmCells op4 n4 s4 a4 len4 cap4) ∧ Below V.heap.size V w') :
    Calls Tryz.prog 63 #[.agg #[.int .i64 op, .int .i64 n, .string s, .slice a len cap], .agg #[.int .i64 op2, .int .i64 n2, .string s2, .slice a2 len2 cap2]] w fun e w' => ∃ op' n' s' a' len' cap', e = .returned (.tuple #[.agg #[.int .i64 op', .int .i64 n', .string s', .slice a' len' cap'], .bool true]) ∧ Lies w' 0 R (tmCells op' n' s' a' len' cap') ∧ Below w.heap.size w w' := by
  have hB0 : Below w.heap.size w (((w.alloc (.cells #[.int .i64 op, .int .i64 n, .string s, .slice a len cap] 29)).alloc (.cells #[.int .i64 op2, .int .i64 n2, .string s2, .slice a2 len2 cap2] 29)).alloc (.cells #[.int .i64 0, .int .i64 0, .string ByteArray.empty, .slice none 0 0] 29)) := bt (bt (ab _) (ab _) (Nat.le_refl _)) (ab _) (Nat.le_refl _)
  have HX : Hid (ZBox (((w.alloc (.cells #[.int .i64 op, .int .i64 n, .string s, .slice a len cap] 29)).alloc (.cells #[.int .i64 op2, .int .i64 n2, .string s2, .slice a2 len2 cap2] 29)).alloc (.cells #[.int .i64 0, .int .i64 0, .string ByteArray.empty, .slice none 0 0] 29)) (w.heap.size + 1 + 1)) := by
    have := ZBox.new ((w.alloc (.cells #[.int .i64 op, .int .i64 n, .string s, .slice a len cap] 29)).alloc (.cells #[.int .i64 op2, .int .i64 n2, .string s2, .slice a2 len2 cap2] 29))
    rwa [heap_size_alloc, heap_size_alloc] at this
  have HRA : Hid (RowT 29 (((w.alloc (.cells #[.int .i64 op, .int .i64 n, .string s, .slice a len cap] 29)).alloc (.cells #[.int .i64 op2, .int .i64 n2, .string s2, .slice a2 len2 cap2] 29)).alloc (.cells #[.int .i64 0, .int .i64 0, .string ByteArray.empty, .slice none 0 0] 29)) w.heap.size op n s a len cap) := ((RowT.new 29 w op n s a len cap).below (ab _)).below (ab _)
  have HRB : Hid (RowT 29 (((w.alloc (.cells #[.int .i64 op, .int .i64 n, .string s, .slice a len cap] 29)).alloc (.cells #[.int .i64 op2, .int .i64 n2, .string s2, .slice a2 len2 cap2] 29)).alloc (.cells #[.int .i64 0, .int .i64 0, .string ByteArray.empty, .slice none 0 0] 29)) (w.heap.size + 1) op2 n2 s2 a2 len2 cap2) := by
    have := (RowT.new 29 (w.alloc (.cells #[.int .i64 op, .int .i64 n, .string s, .slice a len cap] 29)) op2 n2 s2 a2 len2 cap2).below (ab (.cells #[.int .i64 0, .int .i64 0, .string ByteArray.empty, .slice none 0 0] 29))
    rwa [heap_size_alloc] at this
  have HB0 := hide hB0
  obtain ⟨c0, c1, c2, c3⟩ := (unhide HRA).facts
  obtain ⟨d0, d1, d2, d3⟩ := (unhide HRB).facts
  have H25 := hide h25
  have HER := hide he
  have h24 := hide (fun op4 n4 s4 a4 len4 cap4 z hl he => answer_yes R op4 n4 s4 a4 len4 cap4 x z hl (by have := okT_small hok; omega) he)
  clear h25 he hB0 hok
  go_enter Tryz.func63, Tryz.ntmps63
  go_wp2_with fail
  refine (unhide H25 _ (unhide HB0)).mono ?_
  rintro e w2 ⟨op4, n4, s4, a4, len4, cap4, rfl, hR, hb2⟩
  have HLR := hide (hR.below hb2)
  have HB2 := hide (bt (unhide HB0) hb2 (Nat.le_refl _))
  have HX2 := hide ((unhide HX).below hb2)
  have HLT := hide (lt_of_heap (unhide HX2))
  clear hR hb2 HB0 HX c0 c1 c2 c3 d0 d1 d2 d3
  go_wp2_with fail
  refine (unhide h24 _ _ _ _ _ _ _ (unhide HLR) ((unhide HER).on (unhide HB2))).mono ?_
  rintro e w3 ⟨a7, cap7, fp, rfl, hO, ⟨_, hge⟩, hb3⟩
  have HB3 := hide (bt (unhide HB2) hb3 (Nat.le_refl _))
  have HO := hide hO
  have HGE := hide hge
  obtain ⟨d0, d1, d2, d3, e0, e1, e2, e3⟩ := ((unhide HX2).below hb3).facts
  clear hb3 hO hge
  go_wp2_with fail
  exact bodyPost_ret (v := .tuple #[.agg #[.int .i64 op4, .int .i64 n4, .string s4, .slice a7 len4 cap7], .bool true]) (by simp [results, Tryz.results63, go_sem, d0, d1, d2, d3]; try rfl) rfl ⟨_, _, _, _, _, _, rfl, (Own.keep _ _ _ (unhide HO) (fun b hb => set4_heap _ _ _ _ _ _ b (by have := unhide HGE b hb; have := unhide HLT; omega))).lies0, set4_below (unhide HB3) (by omega)⟩

set_option maxRecDepth 100000 in
theorem half_sameK {k : Tm} (k0 : Tm) : sameB (.node 4 0 ByteArray.empty [k]) (.node 4 0 ByteArray.empty [k0]) = sameB k0 k := by
  rw [Bool.eq_iff_iff, same_alike, same_alike]
  simp only [Tm.node.injEq, List.cons.injEq, and_true, true_and]
  exact eq_comm

set_option maxRecDepth 100000 in
set_option maxHeartbeats 4000000 in
theorem signedK_no3 (k k0 k1 : Tm) (op n : Int) (s : ByteArray) (a : Option Addr) (len cap : Nat) (n2 : Int) (s2 : ByteArray) (b q cap2 : Nat) (op3 n3 : Int) (s3 : ByteArray) (a3 : Option Addr) (len3 cap3 : Nat) (op4 n4 : Int) (s4 : ByteArray) (a4 : Option Addr) (len4 cap4 : Nat) (w : World)
    (hlf : Lies w 0 (.node 4 0 ByteArray.empty [k]) (tmCells op n s a len cap)) (hl : Lies w 0 (.node 8 n2 s2 [k0, k1]) (tmCells 8 n2 s2 (some ⟨b, q, none⟩) 2 cap2)) (hsz : (Tm.node 8 n2 s2 [k0, k1]).size ≤ 2097152) (hok : okT (.node 8 n2 s2 [k0, k1]) = true)
    (r0 : w.cell? ⟨b, q, none⟩ = some (.int .i64 op3)) (r1 : w.cell? ⟨b, q + 1, none⟩ = some (.int .i64 n3)) (r2 : w.cell? ⟨b, q + 2, none⟩ = some (.string s3)) (r3 : w.cell? ⟨b, q + 3, none⟩ = some (.slice a3 len3 cap3)) (hk0 : Lies w 0 k0 (tmCells op3 n3 s3 a3 len3 cap3))
    (r4 : w.cell? ⟨b, q + 4, none⟩ = some (.int .i64 op4)) (r5 : w.cell? ⟨b, q + 5, none⟩ = some (.int .i64 n4)) (r6 : w.cell? ⟨b, q + 6, none⟩ = some (.string s4)) (r7 : w.cell? ⟨b, q + 7, none⟩ = some (.slice a4 len4 cap4)) (hk1 : Lies w 0 k1 (tmCells op4 n4 s4 a4 len4 cap4)) (hsm : sameB k0 k = false) :
    Calls Tryz.prog 59 #[.agg #[.int .i64 op, .int .i64 n, .string s, .slice a len cap], .agg #[.int .i64 8, .int .i64 n2, .string s2, .slice (some ⟨b, q, none⟩) 2 cap2]] w fun e w' => e = .returned (.tuple #[.agg #[.int .i64 0, .int .i64 0, .string ByteArray.empty, .slice none 0 0], .bool false]) ∧ Below w.heap.size w w' := by
  have h32 := hide (ok8 (.node 8 n2 s2 [k0, k1]) 8 n2 s2 (some ⟨b, q, none⟩) 2 cap2)
  rw [hok] at h32
  have h33 := hide (l2pub33 k0 op3 n3 s3 a3 len3 cap3)
  have h23 := hide (fun aH v hl1 hl2 => sa_calls (.node 4 0 ByteArray.empty [k]) (.node 4 0 ByteArray.empty [k0]) op n s a len cap 4 0 ByteArray.empty aH 1 1 v hl1 hl2)
  rw [half_sameK, hsm] at h23
  have h3 := threeB w op n s a len cap 8 n2 s2 (some ⟨b, q, none⟩) 2 cap2
  go_enter Tryz.func59, Tryz.ntmps59
  go_wp2_with fail
  generalize hgw : (((w.alloc (.cells #[.int .i64 op, .int .i64 n, .string s, .slice a len cap] 29)).alloc (.cells #[.int .i64 8, .int .i64 n2, .string s2, .slice (some ⟨b, q, none⟩) 2 cap2] 29)).alloc (.cells #[.int .i64 0, .int .i64 0, .string ByteArray.empty, .slice none 0 0] 29)) = W0 at *
  refine gw_world hgw ?_
  clear hgw
  have HB0 := hide h3.bel
  have HL := hide (hl.below h3.bel)
  have HR := hide h3.rz
  have HRA := hide h3.ra
  have HRB := hide h3.rb
  obtain ⟨c0, c1, c2, c3⟩ := h3.rb.facts
  have HLF := hide (hlf.below h3.bel)
  have HLK := hide (hk0.below h3.bel)
  have HLK1 := hide (hk1.below h3.bel)
  have HK := hide (And.intro (kpc h3.bel r0) (And.intro (kpc h3.bel r1) (And.intro (kpc h3.bel r2) (kpc h3.bel r3))))
  have HK1 := hide (And.intro (kpc h3.bel r4) (And.intro (kpc h3.bel r5) (And.intro (kpc h3.bel r6) (kpc h3.bel r7))))
  obtain ⟨a0', a1', a2', a3'⟩ := h3.ra.facts
  obtain ⟨i0, i1, i2, i3⟩ := unhide HK
  clear h3 hl hlf hk0 hk1 hok r0 r1 r2 r3 r4 r5 r6 r7
  go_region_held3 (fun y => y.cell? ⟨w.heap.size, 0, none⟩ = some (.int .i64 op) ∧ y.cell? ⟨w.heap.size, 1, none⟩ = some (.int .i64 n) ∧ y.cell? ⟨w.heap.size, 2, none⟩ = some (.string s) ∧ y.cell? ⟨w.heap.size, 3, none⟩ = some (.slice a len cap) ∧
      y.cell? ⟨w.heap.size + 1, 0, none⟩ = some (.int .i64 8) ∧ y.cell? ⟨w.heap.size + 1, 1, none⟩ = some (.int .i64 n2) ∧ y.cell? ⟨w.heap.size + 1, 2, none⟩ = some (.string s2) ∧ y.cell? ⟨w.heap.size + 1, 3, none⟩ = some (.slice (some ⟨b, q, none⟩) 2 cap2) ∧
      y.cell? ⟨b, q, none⟩ = some (.int .i64 op3) ∧ y.cell? ⟨b, q + 1, none⟩ = some (.int .i64 n3) ∧ y.cell? ⟨b, q + 2, none⟩ = some (.string s3) ∧ y.cell? ⟨b, q + 3, none⟩ = some (.slice a3 len3 cap3)) (go_keep)
    (first
      | (go_at_call 114
         refine (unhide h32 _ ((unhide HL).below (Below.refl _ _).drew) hsz).mono ?_
         rintro e w2 ⟨rfl, hb2⟩
         have hb2' := hide (below_drew' hb2)
         obtain ⟨b0', b1', b2', b3'⟩ := ((unhide HRA).below (unhide hb2')).facts
         obtain ⟨k0', k1', k2', k3'⟩ := ((unhide HRB).below (unhide hb2')).facts
         have x0 := kpc (unhide hb2') (unhide HK).1
         have x1 := kpc (unhide hb2') (unhide HK).2.1
         have x2 := kpc (unhide hb2') (unhide HK).2.2.1
         have x3 := kpc (unhide hb2') (unhide HK).2.2.2)
      | (go_at_call 116
         refine (unhide h33 _ ((unhide HLK).below (unhide hb2'))).mono ?_
         rintro e w3 ⟨aH, rfl, hL3, hb3⟩
         have hb3' := hide hb3
         have HL3 := hide hL3
         obtain ⟨e0', e1', e2', e3'⟩ := (((unhide HRA).below (unhide hb2')).below hb3).facts
         obtain ⟨f0', f1', f2', f3'⟩ := (((unhide HRB).below (unhide hb2')).below hb3).facts
         have y0 := kpc hb3 x0
         have y1 := kpc hb3 x1
         have y2 := kpc hb3 x2
         have y3 := kpc hb3 x3)
      | (go_at_call 60
         refine (unhide h23 _ _ (((unhide HLF).below (unhide hb2')).below (unhide hb3')) (unhide HL3)).mono ?_
         rintro e w4 ⟨rfl, hb4⟩
         have hb4' := hide hb4
         have HB := hide (bt (bt (bt (unhide HB0) (unhide hb2') (Nat.le_refl _)) (unhide hb3') (Nat.le_refl _)) hb4 (Nat.le_refl _))
         have HRZ := hide ((((unhide HR).below (unhide hb2')).below (unhide hb3')).below hb4)
         obtain ⟨d0, d1, d2, d3⟩ := (unhide HRZ).facts
         obtain ⟨e0, e1, e2, e3⟩ := (unhide HRZ).frozen
         obtain ⟨g0', g1', g2', g3'⟩ := ((((unhide HRA).below (unhide hb2')).below (unhide hb3')).below hb4).facts
         obtain ⟨m0', m1', m2', m3'⟩ := ((((unhide HRB).below (unhide hb2')).below (unhide hb3')).below hb4).facts
         have z0 := kpc hb4 y0
         have z1 := kpc hb4 y1
         have z2 := kpc hb4 y2
         have z3 := kpc hb4 y3))
  all_goals go_wp2_with fail
  all_goals
    exact bodyPost_ret (v := .tuple #[.agg #[.int .i64 0, .int .i64 0, .string ByteArray.empty, .slice none 0 0], .bool false]) (by simp [results, Tryz.results59, go_sem, d0, d1, d2, d3]; try rfl) rfl ⟨rfl, set4_below (unhide HB) (by omega)⟩

set_option maxRecDepth 100000 in
set_option maxHeartbeats 4000000 in
theorem signedK_yes (k k0 k1 : Tm) (op n : Int) (s : ByteArray) (a : Option Addr) (len cap : Nat) (n2 : Int) (s2 : ByteArray) (b q cap2 : Nat) (op3 n3 : Int) (s3 : ByteArray) (a3 : Option Addr) (len3 cap3 : Nat) (op4 n4 : Int) (s4 : ByteArray) (a4 : Option Addr) (len4 cap4 : Nat) (w : World)
    (hlf : Lies w 0 (.node 4 0 ByteArray.empty [k]) (tmCells op n s a len cap)) (hl : Lies w 0 (.node 8 n2 s2 [k0, k1]) (tmCells 8 n2 s2 (some ⟨b, q, none⟩) 2 cap2)) (hsz : (Tm.node 8 n2 s2 [k0, k1]).size ≤ 2097152) (hok : okT (.node 8 n2 s2 [k0, k1]) = true)
    (r0 : w.cell? ⟨b, q, none⟩ = some (.int .i64 op3)) (r1 : w.cell? ⟨b, q + 1, none⟩ = some (.int .i64 n3)) (r2 : w.cell? ⟨b, q + 2, none⟩ = some (.string s3)) (r3 : w.cell? ⟨b, q + 3, none⟩ = some (.slice a3 len3 cap3)) (hk0 : Lies w 0 k0 (tmCells op3 n3 s3 a3 len3 cap3))
    (r4 : w.cell? ⟨b, q + 4, none⟩ = some (.int .i64 op4)) (r5 : w.cell? ⟨b, q + 5, none⟩ = some (.int .i64 n4)) (r6 : w.cell? ⟨b, q + 6, none⟩ = some (.string s4)) (r7 : w.cell? ⟨b, q + 7, none⟩ = some (.slice a4 len4 cap4)) (hk1 : Lies w 0 k1 (tmCells op4 n4 s4 a4 len4 cap4)) (hsm : sameB k0 k = true) :
    Calls Tryz.prog 59 #[.agg #[.int .i64 op, .int .i64 n, .string s, .slice a len cap], .agg #[.int .i64 8, .int .i64 n2, .string s2, .slice (some ⟨b, q, none⟩) 2 cap2]] w fun e w' => ∃ a' cap', e = .returned (.tuple #[.agg #[.int .i64 op4, .int .i64 n4, .string s4, .slice a' len4 cap'], .bool true]) ∧ Lies w' w.heap.size k1 (tmCells op4 n4 s4 a' len4 cap') ∧ Below w.heap.size w w' := by
  have h32 := hide (ok8 (.node 8 n2 s2 [k0, k1]) 8 n2 s2 (some ⟨b, q, none⟩) 2 cap2)
  rw [hok] at h32
  have h33 := hide (l2pub33 k0 op3 n3 s3 a3 len3 cap3)
  have h23 := hide (fun aH v hl1 hl2 => sa_calls (.node 4 0 ByteArray.empty [k]) (.node 4 0 ByteArray.empty [k0]) op n s a len cap 4 0 ByteArray.empty aH 1 1 v hl1 hl2)
  rw [half_sameK, hsm] at h23
  have hk1z : k1.size ≤ 2097152 := by simp only [Tm.size, Tm.sizes] at hsz; omega
  have h34 := hide (fun v hl => cz_calls k1 op4 n4 s4 a4 len4 cap4 v hl hk1z)
  have h3 := threeB w op n s a len cap 8 n2 s2 (some ⟨b, q, none⟩) 2 cap2
  go_enter Tryz.func59, Tryz.ntmps59
  go_wp2_with fail
  generalize hgw : (((w.alloc (.cells #[.int .i64 op, .int .i64 n, .string s, .slice a len cap] 29)).alloc (.cells #[.int .i64 8, .int .i64 n2, .string s2, .slice (some ⟨b, q, none⟩) 2 cap2] 29)).alloc (.cells #[.int .i64 0, .int .i64 0, .string ByteArray.empty, .slice none 0 0] 29)) = W0 at *
  refine gw_world hgw ?_
  clear hgw
  have HB0 := hide h3.bel
  have HL := hide (hl.below h3.bel)
  have HR := hide h3.rz
  have HRA := hide h3.ra
  have HRB := hide h3.rb
  obtain ⟨c0, c1, c2, c3⟩ := h3.rb.facts
  have HLF := hide (hlf.below h3.bel)
  have HLK := hide (hk0.below h3.bel)
  have HLK1 := hide (hk1.below h3.bel)
  have HK := hide (And.intro (kpc h3.bel r0) (And.intro (kpc h3.bel r1) (And.intro (kpc h3.bel r2) (kpc h3.bel r3))))
  have HK1 := hide (And.intro (kpc h3.bel r4) (And.intro (kpc h3.bel r5) (And.intro (kpc h3.bel r6) (kpc h3.bel r7))))
  obtain ⟨a0', a1', a2', a3'⟩ := h3.ra.facts
  obtain ⟨i0, i1, i2, i3⟩ := unhide HK
  clear h3 hl hlf hk0 hk1 hok r0 r1 r2 r3 r4 r5 r6 r7
  go_region_held3 (fun y => y.cell? ⟨w.heap.size, 0, none⟩ = some (.int .i64 op) ∧ y.cell? ⟨w.heap.size, 1, none⟩ = some (.int .i64 n) ∧ y.cell? ⟨w.heap.size, 2, none⟩ = some (.string s) ∧ y.cell? ⟨w.heap.size, 3, none⟩ = some (.slice a len cap) ∧
      y.cell? ⟨w.heap.size + 1, 0, none⟩ = some (.int .i64 8) ∧ y.cell? ⟨w.heap.size + 1, 1, none⟩ = some (.int .i64 n2) ∧ y.cell? ⟨w.heap.size + 1, 2, none⟩ = some (.string s2) ∧ y.cell? ⟨w.heap.size + 1, 3, none⟩ = some (.slice (some ⟨b, q, none⟩) 2 cap2) ∧
      y.cell? ⟨b, q, none⟩ = some (.int .i64 op3) ∧ y.cell? ⟨b, q + 1, none⟩ = some (.int .i64 n3) ∧ y.cell? ⟨b, q + 2, none⟩ = some (.string s3) ∧ y.cell? ⟨b, q + 3, none⟩ = some (.slice a3 len3 cap3)) (go_keep)
    (first
      | (go_at_call 114
         refine (unhide h32 _ ((unhide HL).below (Below.refl _ _).drew) hsz).mono ?_
         rintro e w2 ⟨rfl, hb2⟩
         have hb2' := hide (below_drew' hb2)
         obtain ⟨b0', b1', b2', b3'⟩ := ((unhide HRA).below (unhide hb2')).facts
         obtain ⟨k0', k1', k2', k3'⟩ := ((unhide HRB).below (unhide hb2')).facts
         have x0 := kpc (unhide hb2') (unhide HK).1
         have x1 := kpc (unhide hb2') (unhide HK).2.1
         have x2 := kpc (unhide hb2') (unhide HK).2.2.1
         have x3 := kpc (unhide hb2') (unhide HK).2.2.2)
      | (go_at_call 116
         refine (unhide h33 _ ((unhide HLK).below (unhide hb2'))).mono ?_
         rintro e w3 ⟨aH, rfl, hL3, hb3⟩
         have hb3' := hide hb3
         have HL3 := hide hL3
         obtain ⟨e0', e1', e2', e3'⟩ := (((unhide HRA).below (unhide hb2')).below hb3).facts
         obtain ⟨f0', f1', f2', f3'⟩ := (((unhide HRB).below (unhide hb2')).below hb3).facts
         have y0 := kpc hb3 x0
         have y1 := kpc hb3 x1
         have y2 := kpc hb3 x2
         have y3 := kpc hb3 x3)
      | (go_at_call 60
         refine (unhide h23 _ _ (((unhide HLF).below (unhide hb2')).below (unhide hb3')) (unhide HL3)).mono ?_
         rintro e w4 ⟨rfl, hb4⟩
         have hb4' := hide hb4
         have HB := hide (bt (bt (bt (unhide HB0) (unhide hb2') (Nat.le_refl _)) (unhide hb3') (Nat.le_refl _)) hb4 (Nat.le_refl _))
         have HRZ := hide ((((unhide HR).below (unhide hb2')).below (unhide hb3')).below hb4)
         obtain ⟨d0, d1, d2, d3⟩ := (unhide HRZ).facts
         obtain ⟨e0, e1, e2, e3⟩ := (unhide HRZ).frozen
         obtain ⟨g0', g1', g2', g3'⟩ := ((((unhide HRA).below (unhide hb2')).below (unhide hb3')).below hb4).facts
         obtain ⟨m0', m1', m2', m3'⟩ := ((((unhide HRB).below (unhide hb2')).below (unhide hb3')).below hb4).facts
         have z0 := kpc hb4 y0
         have z1 := kpc hb4 y1
         have z2 := kpc hb4 y2
         have z3 := kpc hb4 y3))
  have HLK4 := hide ((((unhide HLK1).below (unhide hb2')).below (unhide hb3')).below (unhide hb4'))
  obtain ⟨v4, v5, v6, v7⟩ := unhide HK1
  have v4 := kpc (unhide hb4') (kpc (unhide hb3') (kpc (unhide hb2') v4))
  have v5 := kpc (unhide hb4') (kpc (unhide hb3') (kpc (unhide hb2') v5))
  have v6 := kpc (unhide hb4') (kpc (unhide hb3') (kpc (unhide hb2') v6))
  have v7 := kpc (unhide hb4') (kpc (unhide hb3') (kpc (unhide hb2') v7))
  go_wp2_with fail
  refine (unhide h34 _ (unhide HLK4)).mono ?_
  rintro e w5 ⟨a', cap', fp, rfl, hO5, hfp, hb5⟩
  have HB5 := hide (bt (unhide HB) hb5 (Nat.le_refl _))
  have HFP := hide hfp.2
  have HO5 := hide hO5
  have HZ4 : Hid (w.heap.size + 1 + 1 < w4.heap.size) := (unhide HRZ).lt
  clear d0 d1 d2 d3 e0 e1 e2 e3
  obtain ⟨d0, d1, d2, d3⟩ := ((unhide HRZ).below hb5).facts
  obtain ⟨e0, e1, e2, e3⟩ := ((unhide HRZ).below hb5).frozen
  clear hO5 hb5 hfp
  go_wp2_with fail
  exact bodyPost_ret (v := .tuple #[.agg #[.int .i64 op4, .int .i64 n4, .string s4, .slice a' len4 cap'], .bool true]) (by simp [results, Tryz.results59, go_sem, d0, d1, d2, d3]; try rfl) rfl ⟨a', cap', rfl, Own.lies _ _ _ (Own.keep _ _ _ (unhide HO5) fun y hy => set4_heap _ _ _ _ _ _ y (by have := unhide HFP y hy; have := unhide HZ4; omega)) (fun y hy => by have := unhide HFP y hy; have := unhide HZ4; omega), set4_below (unhide HB5) (by omega)⟩

set_option maxRecDepth 100000 in
theorem signedS_none (k t : Tm) (op n : Int) (s : ByteArray) (a : Option Addr) (len cap : Nat) (op2 n2 : Int) (s2 : ByteArray) (a2 : Option Addr) (len2 cap2 : Nat) (w : World) (hlf : Lies w 0 (.node 4 0 ByteArray.empty [k]) (tmCells op n s a len cap)) (hl : Lies w 0 t (tmCells op2 n2 s2 a2 len2 cap2)) (hsz : t.size ≤ 2097152) (hb : behO 8 k t = none) :
    Calls Tryz.prog 59 #[.agg #[.int .i64 op, .int .i64 n, .string s, .slice a len cap], .agg #[.int .i64 op2, .int .i64 n2, .string s2, .slice a2 len2 cap2]] w fun e w' => e = .returned (.tuple #[.agg #[.int .i64 0, .int .i64 0, .string ByteArray.empty, .slice none 0 0], .bool false]) ∧ Below w.heap.size w w' := by
  cases hok : okT t with
  | false => exact signed_no1 t op n s a len cap op2 n2 s2 a2 len2 cap2 w hl hsz hok
  | true =>
    by_cases h1 : op2 = 8
    · obtain ⟨opt, nt, st, ks⟩ := t
      have h2 : op2 = opt := by
        have hx := hl
        simp only [Lies, tmCells, List.cons.injEq, Value.int.injEq, true_and] at hx
        obtain ⟨_, _, ⟨h, _⟩, _⟩ := hx
        exact h
      subst h2
      subst h1
      obtain ⟨k0, k1, rfl⟩ := ok_two (by decide) hok
      obtain ⟨-, rfl, rfl, rfl, b, q, op3, n3, s3, a3, len3, cap3, op4, n4, s4, a4, len4, cap4, rfl, ⟨r0, r1, r2, r3, hk0⟩, r4, r5, r6, r7, hk1⟩ := lies_kids hl
      refine signedK_no3 k k0 k1 op n s a len cap n2 s2 b q cap2 op3 n3 s3 a3 len3 cap3 op4 n4 s4 a4 len4 cap4 w hlf hl hsz hok r0 r1 r2 r3 hk0 r4 r5 r6 r7 hk1 ?_
      simp only [behO, hok, decide_true, Bool.true_and] at hb
      cases hs : sameB k0 k with
      | false => rfl
      | true => rw [hs] at hb; simp at hb
    · exact signed_no2 t op n s a len cap op2 n2 s2 a2 len2 cap2 w hl hsz hok h1

set_option maxRecDepth 100000 in
theorem signedS_some (k t u : Tm) (op n : Int) (s : ByteArray) (a : Option Addr) (len cap : Nat) (op2 n2 : Int) (s2 : ByteArray) (a2 : Option Addr) (len2 cap2 : Nat) (w : World) (hlf : Lies w 0 (.node 4 0 ByteArray.empty [k]) (tmCells op n s a len cap)) (hl : Lies w 0 t (tmCells op2 n2 s2 a2 len2 cap2)) (hsz : t.size ≤ 2097152) (hb : behO 8 k t = some u) :
    Calls Tryz.prog 59 #[.agg #[.int .i64 op, .int .i64 n, .string s, .slice a len cap], .agg #[.int .i64 op2, .int .i64 n2, .string s2, .slice a2 len2 cap2]] w fun e w' => ∃ op' n' s' a' len' cap', e = .returned (.tuple #[.agg #[.int .i64 op', .int .i64 n', .string s', .slice a' len' cap'], .bool true]) ∧ Lies w' 0 u (tmCells op' n' s' a' len' cap') ∧ Below w.heap.size w w' := by
  obtain ⟨nt, st, k0, rfl, hok, hs⟩ := behO_some hb
  obtain ⟨rfl, rfl, rfl, rfl, b, q, op3, n3, s3, a3, len3, cap3, op4, n4, s4, a4, len4, cap4, rfl, ⟨r0, r1, r2, r3, hk0⟩, r4, r5, r6, r7, hk1⟩ := lies_kids hl
  refine (signedK_yes k k0 u op n s a len cap n2 s2 b q cap2 op3 n3 s3 a3 len3 cap3 op4 n4 s4 a4 len4 cap4 w hlf hl hsz hok r0 r1 r2 r3 hk0 r4 r5 r6 r7 hk1 hs).mono ?_
  rintro e w' ⟨a', cap', he, hL, hb'⟩
  exact ⟨_, _, _, _, _, _, he, hL.any (Nat.zero_le _), hb'⟩

set_option maxRecDepth 100000 in
set_option maxHeartbeats 2000000 in
theorem provedS0 (KT : Tm) (op n : Int) (s : ByteArray) (a : Option Addr) (len cap : Nat) (op2 n2 : Int) (s2 : ByteArray) (a2 : Option Addr) (len2 cap2 : Nat) (op5 n5 : Int) (s5 : ByteArray) (a5 : Option Addr) (len5 cap5 : Nat) (op6 n6 : Int) (s6 : ByteArray) (a6 : Option Addr) (len6 cap6 : Nat) (hs : ByteArray) (m : Int) (w : World)
    (hG : ∀ V, Below w.heap.size w V → Calls Tryz.prog 51 #[.agg #[.int .i64 op5, .int .i64 n5, .string s5, .slice a5 len5 cap5], .string hs, .int .i64 m] V fun e w' => ∃ op7 n7 s7 a7 len7 cap7, e = .returned (.tuple #[.agg #[.int .i64 op7, .int .i64 n7, .string s7, .slice a7 len7 cap7], .bool false]) ∧ Lies w' 0 KT (tmCells op7 n7 s7 a7 len7 cap7) ∧ Below V.heap.size V w')
    
      :
    Calls Tryz.prog 10 #[.agg #[.int .i64 op, .int .i64 n, .string s, .slice a len cap], .agg #[.int .i64 op2, .int .i64 n2, .string s2, .slice a2 len2 cap2], .agg #[.int .i64 op5, .int .i64 n5, .string s5, .slice a5 len5 cap5], .agg #[.int .i64 op6, .int .i64 n6, .string s6, .slice a6 len6 cap6], .string hs, .int .i64 m] w fun e w' => e = .returned (.bool false) ∧ Below w.heap.size w w' := by
  have hB0 : Below w.heap.size w ((((w.alloc (.cells #[.int .i64 op, .int .i64 n, .string s, .slice a len cap] 29)).alloc (.cells #[.int .i64 op2, .int .i64 n2, .string s2, .slice a2 len2 cap2] 29)).alloc (.cells #[.int .i64 op5, .int .i64 n5, .string s5, .slice a5 len5 cap5] 29)).alloc (.cells #[.int .i64 op6, .int .i64 n6, .string s6, .slice a6 len6 cap6] 29)) := bt (bt (bt (ab _) (ab _) (Nat.le_refl _)) (ab _) (Nat.le_refl _)) (ab _) (Nat.le_refl _)
  have HA0 : Hid (RowT 29 ((((w.alloc (.cells #[.int .i64 op, .int .i64 n, .string s, .slice a len cap] 29)).alloc (.cells #[.int .i64 op2, .int .i64 n2, .string s2, .slice a2 len2 cap2] 29)).alloc (.cells #[.int .i64 op5, .int .i64 n5, .string s5, .slice a5 len5 cap5] 29)).alloc (.cells #[.int .i64 op6, .int .i64 n6, .string s6, .slice a6 len6 cap6] 29)) (w.heap.size) op n s a len cap) := by
    have := ((((RowT.new 29 w op n s a len cap).below (ab (.cells #[.int .i64 op2, .int .i64 n2, .string s2, .slice a2 len2 cap2] 29))).below (ab (.cells #[.int .i64 op5, .int .i64 n5, .string s5, .slice a5 len5 cap5] 29))).below (ab (.cells #[.int .i64 op6, .int .i64 n6, .string s6, .slice a6 len6 cap6] 29)))
    exact this
  have HA1 : Hid (RowT 29 ((((w.alloc (.cells #[.int .i64 op, .int .i64 n, .string s, .slice a len cap] 29)).alloc (.cells #[.int .i64 op2, .int .i64 n2, .string s2, .slice a2 len2 cap2] 29)).alloc (.cells #[.int .i64 op5, .int .i64 n5, .string s5, .slice a5 len5 cap5] 29)).alloc (.cells #[.int .i64 op6, .int .i64 n6, .string s6, .slice a6 len6 cap6] 29)) (w.heap.size + 1) op2 n2 s2 a2 len2 cap2) := by
    have := (((RowT.new 29 (w.alloc (.cells #[.int .i64 op, .int .i64 n, .string s, .slice a len cap] 29)) op2 n2 s2 a2 len2 cap2).below (ab (.cells #[.int .i64 op5, .int .i64 n5, .string s5, .slice a5 len5 cap5] 29))).below (ab (.cells #[.int .i64 op6, .int .i64 n6, .string s6, .slice a6 len6 cap6] 29)))
    rwa [heap_size_alloc] at this
  have HA2 : Hid (RowT 29 ((((w.alloc (.cells #[.int .i64 op, .int .i64 n, .string s, .slice a len cap] 29)).alloc (.cells #[.int .i64 op2, .int .i64 n2, .string s2, .slice a2 len2 cap2] 29)).alloc (.cells #[.int .i64 op5, .int .i64 n5, .string s5, .slice a5 len5 cap5] 29)).alloc (.cells #[.int .i64 op6, .int .i64 n6, .string s6, .slice a6 len6 cap6] 29)) (w.heap.size + 1 + 1) op5 n5 s5 a5 len5 cap5) := by
    have := ((RowT.new 29 ((w.alloc (.cells #[.int .i64 op, .int .i64 n, .string s, .slice a len cap] 29)).alloc (.cells #[.int .i64 op2, .int .i64 n2, .string s2, .slice a2 len2 cap2] 29)) op5 n5 s5 a5 len5 cap5).below (ab (.cells #[.int .i64 op6, .int .i64 n6, .string s6, .slice a6 len6 cap6] 29)))
    rwa [heap_size_alloc, heap_size_alloc] at this
  have HA3 : Hid (RowT 29 ((((w.alloc (.cells #[.int .i64 op, .int .i64 n, .string s, .slice a len cap] 29)).alloc (.cells #[.int .i64 op2, .int .i64 n2, .string s2, .slice a2 len2 cap2] 29)).alloc (.cells #[.int .i64 op5, .int .i64 n5, .string s5, .slice a5 len5 cap5] 29)).alloc (.cells #[.int .i64 op6, .int .i64 n6, .string s6, .slice a6 len6 cap6] 29)) (w.heap.size + 1 + 1 + 1) op6 n6 s6 a6 len6 cap6) := by
    have := (RowT.new 29 (((w.alloc (.cells #[.int .i64 op, .int .i64 n, .string s, .slice a len cap] 29)).alloc (.cells #[.int .i64 op2, .int .i64 n2, .string s2, .slice a2 len2 cap2] 29)).alloc (.cells #[.int .i64 op5, .int .i64 n5, .string s5, .slice a5 len5 cap5] 29)) op6 n6 s6 a6 len6 cap6)
    rwa [heap_size_alloc, heap_size_alloc, heap_size_alloc] at this
  have HB0 := hide hB0
  have HG := hide hG
  clear hB0 hG
  obtain ⟨c0, c1, c2, c3⟩ := (unhide HA2).facts
  go_enter Tryz.func10, Tryz.ntmps10
  go_wp2_with fail
  generalize hgw : ((((w.alloc (.cells #[.int .i64 op, .int .i64 n, .string s, .slice a len cap] 29)).alloc (.cells #[.int .i64 op2, .int .i64 n2, .string s2, .slice a2 len2 cap2] 29)).alloc (.cells #[.int .i64 op5, .int .i64 n5, .string s5, .slice a5 len5 cap5] 29)).alloc (.cells #[.int .i64 op6, .int .i64 n6, .string s6, .slice a6 len6 cap6] 29)) = W1 at *
  clear hgw
  refine (unhide HG _ (unhide HB0)).mono ?_
  rintro e w2 ⟨op7, n7, s7, a7, len7, cap7, rfl, hL, hb⟩
  have hb2 := bt hb (ab (.cells #[.int .i64 op7, .int .i64 n7, .string s7, .slice a7 len7 cap7] 29)) (Nat.le_refl _)
  have HB2 := hide (bt (unhide HB0) hb2 (Nat.le_refl _))
  have HA0 := hide ((unhide HA0).below hb2)
  have HA1 := hide ((unhide HA1).below hb2)
  have HA3 := hide ((unhide HA3).below hb2)
  have HLK := hide (hL.below (ab (.cells #[.int .i64 op7, .int .i64 n7, .string s7, .slice a7 len7 cap7] 29)))
  have HK := hide (RowT.new 29 w2 op7 n7 s7 a7 len7 cap7)
  clear hb hb2 hL c0 c1 c2 c3 HB0
  go_wp2_with fail
  go_ret
  exact ⟨rfl, unhide HB2⟩

set_option maxRecDepth 100000 in
set_option maxHeartbeats 2000000 in
theorem provedS1 (KT BT : Tm) (op n : Int) (s : ByteArray) (a : Option Addr) (len cap : Nat) (op2 n2 : Int) (s2 : ByteArray) (a2 : Option Addr) (len2 cap2 : Nat) (op5 n5 : Int) (s5 : ByteArray) (a5 : Option Addr) (len5 cap5 : Nat) (op6 n6 : Int) (s6 : ByteArray) (a6 : Option Addr) (len6 cap6 : Nat) (hs : ByteArray) (m : Int) (w : World)
    (hG : ∀ V, Below w.heap.size w V → Calls Tryz.prog 51 #[.agg #[.int .i64 op5, .int .i64 n5, .string s5, .slice a5 len5 cap5], .string hs, .int .i64 m] V fun e w' => ∃ op7 n7 s7 a7 len7 cap7, e = .returned (.tuple #[.agg #[.int .i64 op7, .int .i64 n7, .string s7, .slice a7 len7 cap7], .bool true]) ∧ Lies w' 0 KT (tmCells op7 n7 s7 a7 len7 cap7) ∧ Below V.heap.size V w')
    (hS : ∀ (op7 n7 : Int) (s7 : ByteArray) (a7 : Option Addr) (len7 cap7 : Nat) V, Below w.heap.size w V → Lies V 0 KT (tmCells op7 n7 s7 a7 len7 cap7) → Calls Tryz.prog 59 #[.agg #[.int .i64 op7, .int .i64 n7, .string s7, .slice a7 len7 cap7], .agg #[.int .i64 op6, .int .i64 n6, .string s6, .slice a6 len6 cap6]] V fun e w' => ∃ op8 n8 s8 a8 len8 cap8, e = .returned (.tuple #[.agg #[.int .i64 op8, .int .i64 n8, .string s8, .slice a8 len8 cap8], .bool false]) ∧ Lies w' 0 BT (tmCells op8 n8 s8 a8 len8 cap8) ∧ Below V.heap.size V w')
      :
    Calls Tryz.prog 10 #[.agg #[.int .i64 op, .int .i64 n, .string s, .slice a len cap], .agg #[.int .i64 op2, .int .i64 n2, .string s2, .slice a2 len2 cap2], .agg #[.int .i64 op5, .int .i64 n5, .string s5, .slice a5 len5 cap5], .agg #[.int .i64 op6, .int .i64 n6, .string s6, .slice a6 len6 cap6], .string hs, .int .i64 m] w fun e w' => e = .returned (.bool false) ∧ Below w.heap.size w w' := by
  have hB0 : Below w.heap.size w ((((w.alloc (.cells #[.int .i64 op, .int .i64 n, .string s, .slice a len cap] 29)).alloc (.cells #[.int .i64 op2, .int .i64 n2, .string s2, .slice a2 len2 cap2] 29)).alloc (.cells #[.int .i64 op5, .int .i64 n5, .string s5, .slice a5 len5 cap5] 29)).alloc (.cells #[.int .i64 op6, .int .i64 n6, .string s6, .slice a6 len6 cap6] 29)) := bt (bt (bt (ab _) (ab _) (Nat.le_refl _)) (ab _) (Nat.le_refl _)) (ab _) (Nat.le_refl _)
  have HA0 : Hid (RowT 29 ((((w.alloc (.cells #[.int .i64 op, .int .i64 n, .string s, .slice a len cap] 29)).alloc (.cells #[.int .i64 op2, .int .i64 n2, .string s2, .slice a2 len2 cap2] 29)).alloc (.cells #[.int .i64 op5, .int .i64 n5, .string s5, .slice a5 len5 cap5] 29)).alloc (.cells #[.int .i64 op6, .int .i64 n6, .string s6, .slice a6 len6 cap6] 29)) (w.heap.size) op n s a len cap) := by
    have := ((((RowT.new 29 w op n s a len cap).below (ab (.cells #[.int .i64 op2, .int .i64 n2, .string s2, .slice a2 len2 cap2] 29))).below (ab (.cells #[.int .i64 op5, .int .i64 n5, .string s5, .slice a5 len5 cap5] 29))).below (ab (.cells #[.int .i64 op6, .int .i64 n6, .string s6, .slice a6 len6 cap6] 29)))
    exact this
  have HA1 : Hid (RowT 29 ((((w.alloc (.cells #[.int .i64 op, .int .i64 n, .string s, .slice a len cap] 29)).alloc (.cells #[.int .i64 op2, .int .i64 n2, .string s2, .slice a2 len2 cap2] 29)).alloc (.cells #[.int .i64 op5, .int .i64 n5, .string s5, .slice a5 len5 cap5] 29)).alloc (.cells #[.int .i64 op6, .int .i64 n6, .string s6, .slice a6 len6 cap6] 29)) (w.heap.size + 1) op2 n2 s2 a2 len2 cap2) := by
    have := (((RowT.new 29 (w.alloc (.cells #[.int .i64 op, .int .i64 n, .string s, .slice a len cap] 29)) op2 n2 s2 a2 len2 cap2).below (ab (.cells #[.int .i64 op5, .int .i64 n5, .string s5, .slice a5 len5 cap5] 29))).below (ab (.cells #[.int .i64 op6, .int .i64 n6, .string s6, .slice a6 len6 cap6] 29)))
    rwa [heap_size_alloc] at this
  have HA2 : Hid (RowT 29 ((((w.alloc (.cells #[.int .i64 op, .int .i64 n, .string s, .slice a len cap] 29)).alloc (.cells #[.int .i64 op2, .int .i64 n2, .string s2, .slice a2 len2 cap2] 29)).alloc (.cells #[.int .i64 op5, .int .i64 n5, .string s5, .slice a5 len5 cap5] 29)).alloc (.cells #[.int .i64 op6, .int .i64 n6, .string s6, .slice a6 len6 cap6] 29)) (w.heap.size + 1 + 1) op5 n5 s5 a5 len5 cap5) := by
    have := ((RowT.new 29 ((w.alloc (.cells #[.int .i64 op, .int .i64 n, .string s, .slice a len cap] 29)).alloc (.cells #[.int .i64 op2, .int .i64 n2, .string s2, .slice a2 len2 cap2] 29)) op5 n5 s5 a5 len5 cap5).below (ab (.cells #[.int .i64 op6, .int .i64 n6, .string s6, .slice a6 len6 cap6] 29)))
    rwa [heap_size_alloc, heap_size_alloc] at this
  have HA3 : Hid (RowT 29 ((((w.alloc (.cells #[.int .i64 op, .int .i64 n, .string s, .slice a len cap] 29)).alloc (.cells #[.int .i64 op2, .int .i64 n2, .string s2, .slice a2 len2 cap2] 29)).alloc (.cells #[.int .i64 op5, .int .i64 n5, .string s5, .slice a5 len5 cap5] 29)).alloc (.cells #[.int .i64 op6, .int .i64 n6, .string s6, .slice a6 len6 cap6] 29)) (w.heap.size + 1 + 1 + 1) op6 n6 s6 a6 len6 cap6) := by
    have := (RowT.new 29 (((w.alloc (.cells #[.int .i64 op, .int .i64 n, .string s, .slice a len cap] 29)).alloc (.cells #[.int .i64 op2, .int .i64 n2, .string s2, .slice a2 len2 cap2] 29)).alloc (.cells #[.int .i64 op5, .int .i64 n5, .string s5, .slice a5 len5 cap5] 29)) op6 n6 s6 a6 len6 cap6)
    rwa [heap_size_alloc, heap_size_alloc, heap_size_alloc] at this
  have HB0 := hide hB0
  have HG := hide hG
  have HS := hide hS
  clear hB0 hG hS
  obtain ⟨c0, c1, c2, c3⟩ := (unhide HA2).facts
  go_enter Tryz.func10, Tryz.ntmps10
  go_wp2_with fail
  generalize hgw : ((((w.alloc (.cells #[.int .i64 op, .int .i64 n, .string s, .slice a len cap] 29)).alloc (.cells #[.int .i64 op2, .int .i64 n2, .string s2, .slice a2 len2 cap2] 29)).alloc (.cells #[.int .i64 op5, .int .i64 n5, .string s5, .slice a5 len5 cap5] 29)).alloc (.cells #[.int .i64 op6, .int .i64 n6, .string s6, .slice a6 len6 cap6] 29)) = W1 at *
  clear hgw
  refine (unhide HG _ (unhide HB0)).mono ?_
  rintro e w2 ⟨op7, n7, s7, a7, len7, cap7, rfl, hL, hb⟩
  have hb2 := bt hb (ab (.cells #[.int .i64 op7, .int .i64 n7, .string s7, .slice a7 len7 cap7] 29)) (Nat.le_refl _)
  have HB2 := hide (bt (unhide HB0) hb2 (Nat.le_refl _))
  have HA0 := hide ((unhide HA0).below hb2)
  have HA1 := hide ((unhide HA1).below hb2)
  have HA3 := hide ((unhide HA3).below hb2)
  have HLK := hide (hL.below (ab (.cells #[.int .i64 op7, .int .i64 n7, .string s7, .slice a7 len7 cap7] 29)))
  have HK := hide (RowT.new 29 w2 op7 n7 s7 a7 len7 cap7)
  clear hb hb2 hL c0 c1 c2 c3 HB0
  obtain ⟨c0, c1, c2, c3⟩ := (unhide HK).facts
  obtain ⟨d0, d1, d2, d3⟩ := (unhide HA3).facts
  go_wp2_with fail
  generalize hgw : w2.alloc (.cells #[.int .i64 op7, .int .i64 n7, .string s7, .slice a7 len7 cap7] 29) = W2 at *
  clear hgw
  generalize w2.heap.size = bK at *
  refine (unhide HS op7 n7 s7 a7 len7 cap7 _ (unhide HB2) (unhide HLK)).mono ?_
  rintro e w3 ⟨op8, n8, s8, a8, len8, cap8, rfl, hL, hb⟩
  have hb2 := bt hb (ab (.cells #[.int .i64 op8, .int .i64 n8, .string s8, .slice a8 len8 cap8] 29)) (Nat.le_refl _)
  have HB3 := hide (bt (unhide HB2) hb2 (Nat.le_refl _))
  have HA0 := hide ((unhide HA0).below hb2)
  have HA1 := hide ((unhide HA1).below hb2)
  have HLB := hide (hL.below (ab (.cells #[.int .i64 op8, .int .i64 n8, .string s8, .slice a8 len8 cap8] 29)))
  have HBd := hide (RowT.new 29 w3 op8 n8 s8 a8 len8 cap8)
  clear hb hb2 hL c0 c1 c2 c3 d0 d1 d2 d3 HB2 HA3
  go_wp2_with fail
  generalize hgw : w3.alloc (.cells #[.int .i64 op8, .int .i64 n8, .string s8, .slice a8 len8 cap8] 29) = W3 at *
  clear hgw
  generalize w3.heap.size = bB at *
  obtain ⟨c0, c1, c2, c3⟩ := (unhide HBd).facts
  obtain ⟨d0, d1, d2, d3⟩ := (unhide HA0).facts
  obtain ⟨i0, i1, i2, i3⟩ := (unhide HA1).facts
  first
    | go_region_with fail
    | fail
  all_goals go_wp2_with fail
  all_goals go_ret
  all_goals exact ⟨rfl, (unhide HB3).drew⟩

set_option maxRecDepth 100000 in
set_option maxHeartbeats 2000000 in
theorem provedS2 (KT BT : Tm) (op n : Int) (s : ByteArray) (a : Option Addr) (len cap : Nat) (op2 n2 : Int) (s2 : ByteArray) (a2 : Option Addr) (len2 cap2 : Nat) (op5 n5 : Int) (s5 : ByteArray) (a5 : Option Addr) (len5 cap5 : Nat) (op6 n6 : Int) (s6 : ByteArray) (a6 : Option Addr) (len6 cap6 : Nat) (hs : ByteArray) (m : Int) (w : World)
    (hG : ∀ V, Below w.heap.size w V → Calls Tryz.prog 51 #[.agg #[.int .i64 op5, .int .i64 n5, .string s5, .slice a5 len5 cap5], .string hs, .int .i64 m] V fun e w' => ∃ op7 n7 s7 a7 len7 cap7, e = .returned (.tuple #[.agg #[.int .i64 op7, .int .i64 n7, .string s7, .slice a7 len7 cap7], .bool true]) ∧ Lies w' 0 KT (tmCells op7 n7 s7 a7 len7 cap7) ∧ Below V.heap.size V w')
    (hS : ∀ (op7 n7 : Int) (s7 : ByteArray) (a7 : Option Addr) (len7 cap7 : Nat) V, Below w.heap.size w V → Lies V 0 KT (tmCells op7 n7 s7 a7 len7 cap7) → Calls Tryz.prog 59 #[.agg #[.int .i64 op7, .int .i64 n7, .string s7, .slice a7 len7 cap7], .agg #[.int .i64 op6, .int .i64 n6, .string s6, .slice a6 len6 cap6]] V fun e w' => ∃ op8 n8 s8 a8 len8 cap8, e = .returned (.tuple #[.agg #[.int .i64 op8, .int .i64 n8, .string s8, .slice a8 len8 cap8], .bool true]) ∧ Lies w' 0 BT (tmCells op8 n8 s8 a8 len8 cap8) ∧ Below V.heap.size V w')
     (hop : ∀ (op8 n8 : Int) (s8 : ByteArray) (a8 : Option Addr) (len8 cap8 : Nat) (V : World), Lies V 0 BT (tmCells op8 n8 s8 a8 len8 cap8) → (op8 == 6) = false) :
    Calls Tryz.prog 10 #[.agg #[.int .i64 op, .int .i64 n, .string s, .slice a len cap], .agg #[.int .i64 op2, .int .i64 n2, .string s2, .slice a2 len2 cap2], .agg #[.int .i64 op5, .int .i64 n5, .string s5, .slice a5 len5 cap5], .agg #[.int .i64 op6, .int .i64 n6, .string s6, .slice a6 len6 cap6], .string hs, .int .i64 m] w fun e w' => e = .returned (.bool false) ∧ Below w.heap.size w w' := by
  have hB0 : Below w.heap.size w ((((w.alloc (.cells #[.int .i64 op, .int .i64 n, .string s, .slice a len cap] 29)).alloc (.cells #[.int .i64 op2, .int .i64 n2, .string s2, .slice a2 len2 cap2] 29)).alloc (.cells #[.int .i64 op5, .int .i64 n5, .string s5, .slice a5 len5 cap5] 29)).alloc (.cells #[.int .i64 op6, .int .i64 n6, .string s6, .slice a6 len6 cap6] 29)) := bt (bt (bt (ab _) (ab _) (Nat.le_refl _)) (ab _) (Nat.le_refl _)) (ab _) (Nat.le_refl _)
  have HA0 : Hid (RowT 29 ((((w.alloc (.cells #[.int .i64 op, .int .i64 n, .string s, .slice a len cap] 29)).alloc (.cells #[.int .i64 op2, .int .i64 n2, .string s2, .slice a2 len2 cap2] 29)).alloc (.cells #[.int .i64 op5, .int .i64 n5, .string s5, .slice a5 len5 cap5] 29)).alloc (.cells #[.int .i64 op6, .int .i64 n6, .string s6, .slice a6 len6 cap6] 29)) (w.heap.size) op n s a len cap) := by
    have := ((((RowT.new 29 w op n s a len cap).below (ab (.cells #[.int .i64 op2, .int .i64 n2, .string s2, .slice a2 len2 cap2] 29))).below (ab (.cells #[.int .i64 op5, .int .i64 n5, .string s5, .slice a5 len5 cap5] 29))).below (ab (.cells #[.int .i64 op6, .int .i64 n6, .string s6, .slice a6 len6 cap6] 29)))
    exact this
  have HA1 : Hid (RowT 29 ((((w.alloc (.cells #[.int .i64 op, .int .i64 n, .string s, .slice a len cap] 29)).alloc (.cells #[.int .i64 op2, .int .i64 n2, .string s2, .slice a2 len2 cap2] 29)).alloc (.cells #[.int .i64 op5, .int .i64 n5, .string s5, .slice a5 len5 cap5] 29)).alloc (.cells #[.int .i64 op6, .int .i64 n6, .string s6, .slice a6 len6 cap6] 29)) (w.heap.size + 1) op2 n2 s2 a2 len2 cap2) := by
    have := (((RowT.new 29 (w.alloc (.cells #[.int .i64 op, .int .i64 n, .string s, .slice a len cap] 29)) op2 n2 s2 a2 len2 cap2).below (ab (.cells #[.int .i64 op5, .int .i64 n5, .string s5, .slice a5 len5 cap5] 29))).below (ab (.cells #[.int .i64 op6, .int .i64 n6, .string s6, .slice a6 len6 cap6] 29)))
    rwa [heap_size_alloc] at this
  have HA2 : Hid (RowT 29 ((((w.alloc (.cells #[.int .i64 op, .int .i64 n, .string s, .slice a len cap] 29)).alloc (.cells #[.int .i64 op2, .int .i64 n2, .string s2, .slice a2 len2 cap2] 29)).alloc (.cells #[.int .i64 op5, .int .i64 n5, .string s5, .slice a5 len5 cap5] 29)).alloc (.cells #[.int .i64 op6, .int .i64 n6, .string s6, .slice a6 len6 cap6] 29)) (w.heap.size + 1 + 1) op5 n5 s5 a5 len5 cap5) := by
    have := ((RowT.new 29 ((w.alloc (.cells #[.int .i64 op, .int .i64 n, .string s, .slice a len cap] 29)).alloc (.cells #[.int .i64 op2, .int .i64 n2, .string s2, .slice a2 len2 cap2] 29)) op5 n5 s5 a5 len5 cap5).below (ab (.cells #[.int .i64 op6, .int .i64 n6, .string s6, .slice a6 len6 cap6] 29)))
    rwa [heap_size_alloc, heap_size_alloc] at this
  have HA3 : Hid (RowT 29 ((((w.alloc (.cells #[.int .i64 op, .int .i64 n, .string s, .slice a len cap] 29)).alloc (.cells #[.int .i64 op2, .int .i64 n2, .string s2, .slice a2 len2 cap2] 29)).alloc (.cells #[.int .i64 op5, .int .i64 n5, .string s5, .slice a5 len5 cap5] 29)).alloc (.cells #[.int .i64 op6, .int .i64 n6, .string s6, .slice a6 len6 cap6] 29)) (w.heap.size + 1 + 1 + 1) op6 n6 s6 a6 len6 cap6) := by
    have := (RowT.new 29 (((w.alloc (.cells #[.int .i64 op, .int .i64 n, .string s, .slice a len cap] 29)).alloc (.cells #[.int .i64 op2, .int .i64 n2, .string s2, .slice a2 len2 cap2] 29)).alloc (.cells #[.int .i64 op5, .int .i64 n5, .string s5, .slice a5 len5 cap5] 29)) op6 n6 s6 a6 len6 cap6)
    rwa [heap_size_alloc, heap_size_alloc, heap_size_alloc] at this
  have HB0 := hide hB0
  have HG := hide hG
  have HS := hide hS
  have HOP := hide hop
  clear hB0 hG hS hop
  obtain ⟨c0, c1, c2, c3⟩ := (unhide HA2).facts
  go_enter Tryz.func10, Tryz.ntmps10
  go_wp2_with fail
  generalize hgw : ((((w.alloc (.cells #[.int .i64 op, .int .i64 n, .string s, .slice a len cap] 29)).alloc (.cells #[.int .i64 op2, .int .i64 n2, .string s2, .slice a2 len2 cap2] 29)).alloc (.cells #[.int .i64 op5, .int .i64 n5, .string s5, .slice a5 len5 cap5] 29)).alloc (.cells #[.int .i64 op6, .int .i64 n6, .string s6, .slice a6 len6 cap6] 29)) = W1 at *
  clear hgw
  refine (unhide HG _ (unhide HB0)).mono ?_
  rintro e w2 ⟨op7, n7, s7, a7, len7, cap7, rfl, hL, hb⟩
  have hb2 := bt hb (ab (.cells #[.int .i64 op7, .int .i64 n7, .string s7, .slice a7 len7 cap7] 29)) (Nat.le_refl _)
  have HB2 := hide (bt (unhide HB0) hb2 (Nat.le_refl _))
  have HA0 := hide ((unhide HA0).below hb2)
  have HA1 := hide ((unhide HA1).below hb2)
  have HA3 := hide ((unhide HA3).below hb2)
  have HLK := hide (hL.below (ab (.cells #[.int .i64 op7, .int .i64 n7, .string s7, .slice a7 len7 cap7] 29)))
  have HK := hide (RowT.new 29 w2 op7 n7 s7 a7 len7 cap7)
  clear hb hb2 hL c0 c1 c2 c3 HB0
  obtain ⟨c0, c1, c2, c3⟩ := (unhide HK).facts
  obtain ⟨d0, d1, d2, d3⟩ := (unhide HA3).facts
  go_wp2_with fail
  generalize hgw : w2.alloc (.cells #[.int .i64 op7, .int .i64 n7, .string s7, .slice a7 len7 cap7] 29) = W2 at *
  clear hgw
  generalize w2.heap.size = bK at *
  refine (unhide HS op7 n7 s7 a7 len7 cap7 _ (unhide HB2) (unhide HLK)).mono ?_
  rintro e w3 ⟨op8, n8, s8, a8, len8, cap8, rfl, hL, hb⟩
  have hb2 := bt hb (ab (.cells #[.int .i64 op8, .int .i64 n8, .string s8, .slice a8 len8 cap8] 29)) (Nat.le_refl _)
  have HB3 := hide (bt (unhide HB2) hb2 (Nat.le_refl _))
  have HA0 := hide ((unhide HA0).below hb2)
  have HA1 := hide ((unhide HA1).below hb2)
  have HLB := hide (hL.below (ab (.cells #[.int .i64 op8, .int .i64 n8, .string s8, .slice a8 len8 cap8] 29)))
  have HBd := hide (RowT.new 29 w3 op8 n8 s8 a8 len8 cap8)
  have q6 := unhide HOP op8 n8 s8 a8 len8 cap8 _ hL
  clear hb hb2 hL c0 c1 c2 c3 d0 d1 d2 d3 HB2 HA3
  go_wp2_with fail
  generalize hgw : w3.alloc (.cells #[.int .i64 op8, .int .i64 n8, .string s8, .slice a8 len8 cap8] 29) = W3 at *
  clear hgw
  generalize w3.heap.size = bB at *
  obtain ⟨c0, c1, c2, c3⟩ := (unhide HBd).facts
  obtain ⟨d0, d1, d2, d3⟩ := (unhide HA0).facts
  obtain ⟨i0, i1, i2, i3⟩ := (unhide HA1).facts
  first
    | go_region_with fail
    | fail
  all_goals go_wp2_with fail
  all_goals go_ret
  all_goals exact ⟨rfl, (unhide HB3).drew⟩

set_option maxRecDepth 100000 in
set_option maxHeartbeats 2000000 in
theorem provedS3 (KT BT PT QT : Tm) (R : Bool) (op n : Int) (s : ByteArray) (a : Option Addr) (len cap : Nat) (op2 n2 : Int) (s2 : ByteArray) (a2 : Option Addr) (len2 cap2 : Nat) (op5 n5 : Int) (s5 : ByteArray) (a5 : Option Addr) (len5 cap5 : Nat) (op6 n6 : Int) (s6 : ByteArray) (a6 : Option Addr) (len6 cap6 : Nat) (hs : ByteArray) (m : Int) (w : World)
    (hG : ∀ V, Below w.heap.size w V → Calls Tryz.prog 51 #[.agg #[.int .i64 op5, .int .i64 n5, .string s5, .slice a5 len5 cap5], .string hs, .int .i64 m] V fun e w' => ∃ op7 n7 s7 a7 len7 cap7, e = .returned (.tuple #[.agg #[.int .i64 op7, .int .i64 n7, .string s7, .slice a7 len7 cap7], .bool true]) ∧ Lies w' 0 KT (tmCells op7 n7 s7 a7 len7 cap7) ∧ Below V.heap.size V w')
    (hS : ∀ (op7 n7 : Int) (s7 : ByteArray) (a7 : Option Addr) (len7 cap7 : Nat) V, Below w.heap.size w V → Lies V 0 KT (tmCells op7 n7 s7 a7 len7 cap7) → Calls Tryz.prog 59 #[.agg #[.int .i64 op7, .int .i64 n7, .string s7, .slice a7 len7 cap7], .agg #[.int .i64 op6, .int .i64 n6, .string s6, .slice a6 len6 cap6]] V fun e w' => ∃ op8 n8 s8 a8 len8 cap8, e = .returned (.tuple #[.agg #[.int .i64 op8, .int .i64 n8, .string s8, .slice a8 len8 cap8], .bool true]) ∧ Lies w' 0 BT (tmCells op8 n8 s8 a8 len8 cap8) ∧ Below V.heap.size V w')
    (hP : ∀ V, Below w.heap.size w V → Calls Tryz.prog 61 #[.agg #[.int .i64 op, .int .i64 n, .string s, .slice a len cap]] V fun e w' => ∃ op9 n9 s9 a9 len9 cap9, e = .returned (.agg #[.int .i64 op9, .int .i64 n9, .string s9, .slice a9 len9 cap9]) ∧ Lies w' 0 PT (tmCells op9 n9 s9 a9 len9 cap9) ∧ Below V.heap.size V w') (hQ : ∀ (op9 n9 : Int) (s9 : ByteArray) (a9 : Option Addr) (len9 cap9 : Nat) V, Below w.heap.size w V → Lies V 0 PT (tmCells op9 n9 s9 a9 len9 cap9) → Calls Tryz.prog 34 #[.agg #[.int .i64 op9, .int .i64 n9, .string s9, .slice a9 len9 cap9], .agg #[.int .i64 op2, .int .i64 n2, .string s2, .slice a2 len2 cap2]] V fun e w' => ∃ op10 n10 s10 a10 len10 cap10, e = .returned (.agg #[.int .i64 op10, .int .i64 n10, .string s10, .slice a10 len10 cap10]) ∧ Lies w' 0 QT (tmCells op10 n10 s10 a10 len10 cap10) ∧ Below V.heap.size V w') (hM : ∀ (op8 n8 : Int) (s8 : ByteArray) (a8 : Option Addr) (len8 cap8 : Nat) (op10 n10 : Int) (s10 : ByteArray) (a10 : Option Addr) (len10 cap10 : Nat) V, Lies V 0 BT (tmCells op8 n8 s8 a8 len8 cap8) → Lies V 0 QT (tmCells op10 n10 s10 a10 len10 cap10) → Calls Tryz.prog 60 #[.agg #[.int .i64 op8, .int .i64 n8, .string s8, .slice a8 len8 cap8], .agg #[.int .i64 op10, .int .i64 n10, .string s10, .slice a10 len10 cap10]] V fun e w' => e = .returned (.bool R) ∧ Below V.heap.size V w') (hop : ∀ (op8 n8 : Int) (s8 : ByteArray) (a8 : Option Addr) (len8 cap8 : Nat) (V : World), Lies V 0 BT (tmCells op8 n8 s8 a8 len8 cap8) → (op8 == 6) = true) :
    Calls Tryz.prog 10 #[.agg #[.int .i64 op, .int .i64 n, .string s, .slice a len cap], .agg #[.int .i64 op2, .int .i64 n2, .string s2, .slice a2 len2 cap2], .agg #[.int .i64 op5, .int .i64 n5, .string s5, .slice a5 len5 cap5], .agg #[.int .i64 op6, .int .i64 n6, .string s6, .slice a6 len6 cap6], .string hs, .int .i64 m] w fun e w' => e = .returned (.bool R) ∧ Below w.heap.size w w' := by
  have hB0 : Below w.heap.size w ((((w.alloc (.cells #[.int .i64 op, .int .i64 n, .string s, .slice a len cap] 29)).alloc (.cells #[.int .i64 op2, .int .i64 n2, .string s2, .slice a2 len2 cap2] 29)).alloc (.cells #[.int .i64 op5, .int .i64 n5, .string s5, .slice a5 len5 cap5] 29)).alloc (.cells #[.int .i64 op6, .int .i64 n6, .string s6, .slice a6 len6 cap6] 29)) := bt (bt (bt (ab _) (ab _) (Nat.le_refl _)) (ab _) (Nat.le_refl _)) (ab _) (Nat.le_refl _)
  have HA0 : Hid (RowT 29 ((((w.alloc (.cells #[.int .i64 op, .int .i64 n, .string s, .slice a len cap] 29)).alloc (.cells #[.int .i64 op2, .int .i64 n2, .string s2, .slice a2 len2 cap2] 29)).alloc (.cells #[.int .i64 op5, .int .i64 n5, .string s5, .slice a5 len5 cap5] 29)).alloc (.cells #[.int .i64 op6, .int .i64 n6, .string s6, .slice a6 len6 cap6] 29)) (w.heap.size) op n s a len cap) := by
    have := ((((RowT.new 29 w op n s a len cap).below (ab (.cells #[.int .i64 op2, .int .i64 n2, .string s2, .slice a2 len2 cap2] 29))).below (ab (.cells #[.int .i64 op5, .int .i64 n5, .string s5, .slice a5 len5 cap5] 29))).below (ab (.cells #[.int .i64 op6, .int .i64 n6, .string s6, .slice a6 len6 cap6] 29)))
    exact this
  have HA1 : Hid (RowT 29 ((((w.alloc (.cells #[.int .i64 op, .int .i64 n, .string s, .slice a len cap] 29)).alloc (.cells #[.int .i64 op2, .int .i64 n2, .string s2, .slice a2 len2 cap2] 29)).alloc (.cells #[.int .i64 op5, .int .i64 n5, .string s5, .slice a5 len5 cap5] 29)).alloc (.cells #[.int .i64 op6, .int .i64 n6, .string s6, .slice a6 len6 cap6] 29)) (w.heap.size + 1) op2 n2 s2 a2 len2 cap2) := by
    have := (((RowT.new 29 (w.alloc (.cells #[.int .i64 op, .int .i64 n, .string s, .slice a len cap] 29)) op2 n2 s2 a2 len2 cap2).below (ab (.cells #[.int .i64 op5, .int .i64 n5, .string s5, .slice a5 len5 cap5] 29))).below (ab (.cells #[.int .i64 op6, .int .i64 n6, .string s6, .slice a6 len6 cap6] 29)))
    rwa [heap_size_alloc] at this
  have HA2 : Hid (RowT 29 ((((w.alloc (.cells #[.int .i64 op, .int .i64 n, .string s, .slice a len cap] 29)).alloc (.cells #[.int .i64 op2, .int .i64 n2, .string s2, .slice a2 len2 cap2] 29)).alloc (.cells #[.int .i64 op5, .int .i64 n5, .string s5, .slice a5 len5 cap5] 29)).alloc (.cells #[.int .i64 op6, .int .i64 n6, .string s6, .slice a6 len6 cap6] 29)) (w.heap.size + 1 + 1) op5 n5 s5 a5 len5 cap5) := by
    have := ((RowT.new 29 ((w.alloc (.cells #[.int .i64 op, .int .i64 n, .string s, .slice a len cap] 29)).alloc (.cells #[.int .i64 op2, .int .i64 n2, .string s2, .slice a2 len2 cap2] 29)) op5 n5 s5 a5 len5 cap5).below (ab (.cells #[.int .i64 op6, .int .i64 n6, .string s6, .slice a6 len6 cap6] 29)))
    rwa [heap_size_alloc, heap_size_alloc] at this
  have HA3 : Hid (RowT 29 ((((w.alloc (.cells #[.int .i64 op, .int .i64 n, .string s, .slice a len cap] 29)).alloc (.cells #[.int .i64 op2, .int .i64 n2, .string s2, .slice a2 len2 cap2] 29)).alloc (.cells #[.int .i64 op5, .int .i64 n5, .string s5, .slice a5 len5 cap5] 29)).alloc (.cells #[.int .i64 op6, .int .i64 n6, .string s6, .slice a6 len6 cap6] 29)) (w.heap.size + 1 + 1 + 1) op6 n6 s6 a6 len6 cap6) := by
    have := (RowT.new 29 (((w.alloc (.cells #[.int .i64 op, .int .i64 n, .string s, .slice a len cap] 29)).alloc (.cells #[.int .i64 op2, .int .i64 n2, .string s2, .slice a2 len2 cap2] 29)).alloc (.cells #[.int .i64 op5, .int .i64 n5, .string s5, .slice a5 len5 cap5] 29)) op6 n6 s6 a6 len6 cap6)
    rwa [heap_size_alloc, heap_size_alloc, heap_size_alloc] at this
  have HB0 := hide hB0
  have HG := hide hG
  have HS := hide hS
  have HP := hide hP
  have HQ := hide hQ
  have HM := hide hM
  have HOP := hide hop
  clear hB0 hG hS hP hQ hM hop
  obtain ⟨c0, c1, c2, c3⟩ := (unhide HA2).facts
  go_enter Tryz.func10, Tryz.ntmps10
  go_wp2_with fail
  generalize hgw : ((((w.alloc (.cells #[.int .i64 op, .int .i64 n, .string s, .slice a len cap] 29)).alloc (.cells #[.int .i64 op2, .int .i64 n2, .string s2, .slice a2 len2 cap2] 29)).alloc (.cells #[.int .i64 op5, .int .i64 n5, .string s5, .slice a5 len5 cap5] 29)).alloc (.cells #[.int .i64 op6, .int .i64 n6, .string s6, .slice a6 len6 cap6] 29)) = W1 at *
  clear hgw
  refine (unhide HG _ (unhide HB0)).mono ?_
  rintro e w2 ⟨op7, n7, s7, a7, len7, cap7, rfl, hL, hb⟩
  have hb2 := bt hb (ab (.cells #[.int .i64 op7, .int .i64 n7, .string s7, .slice a7 len7 cap7] 29)) (Nat.le_refl _)
  have HB2 := hide (bt (unhide HB0) hb2 (Nat.le_refl _))
  have HA0 := hide ((unhide HA0).below hb2)
  have HA1 := hide ((unhide HA1).below hb2)
  have HA3 := hide ((unhide HA3).below hb2)
  have HLK := hide (hL.below (ab (.cells #[.int .i64 op7, .int .i64 n7, .string s7, .slice a7 len7 cap7] 29)))
  have HK := hide (RowT.new 29 w2 op7 n7 s7 a7 len7 cap7)
  clear hb hb2 hL c0 c1 c2 c3 HB0
  obtain ⟨c0, c1, c2, c3⟩ := (unhide HK).facts
  obtain ⟨d0, d1, d2, d3⟩ := (unhide HA3).facts
  go_wp2_with fail
  generalize hgw : w2.alloc (.cells #[.int .i64 op7, .int .i64 n7, .string s7, .slice a7 len7 cap7] 29) = W2 at *
  clear hgw
  generalize w2.heap.size = bK at *
  refine (unhide HS op7 n7 s7 a7 len7 cap7 _ (unhide HB2) (unhide HLK)).mono ?_
  rintro e w3 ⟨op8, n8, s8, a8, len8, cap8, rfl, hL, hb⟩
  have hb2 := bt hb (ab (.cells #[.int .i64 op8, .int .i64 n8, .string s8, .slice a8 len8 cap8] 29)) (Nat.le_refl _)
  have HB3 := hide (bt (unhide HB2) hb2 (Nat.le_refl _))
  have HA0 := hide ((unhide HA0).below hb2)
  have HA1 := hide ((unhide HA1).below hb2)
  have HLB := hide (hL.below (ab (.cells #[.int .i64 op8, .int .i64 n8, .string s8, .slice a8 len8 cap8] 29)))
  have HBd := hide (RowT.new 29 w3 op8 n8 s8 a8 len8 cap8)
  have q6 := unhide HOP op8 n8 s8 a8 len8 cap8 _ hL
  clear hb hb2 hL c0 c1 c2 c3 d0 d1 d2 d3 HB2 HA3
  go_wp2_with fail
  generalize hgw : w3.alloc (.cells #[.int .i64 op8, .int .i64 n8, .string s8, .slice a8 len8 cap8] 29) = W3 at *
  clear hgw
  generalize w3.heap.size = bB at *
  obtain ⟨c0, c1, c2, c3⟩ := (unhide HBd).facts
  obtain ⟨d0, d1, d2, d3⟩ := (unhide HA0).facts
  obtain ⟨i0, i1, i2, i3⟩ := (unhide HA1).facts
  go_region_held3 (fun x => x.cell? ⟨bB, 0, none⟩ = some (.int .i64 op8) ∧ x.cell? ⟨bB, 1, none⟩ = some (.int .i64 n8) ∧ x.cell? ⟨bB, 2, none⟩ = some (.string s8) ∧ x.cell? ⟨bB, 3, none⟩ = some (.slice a8 len8 cap8) ∧ x.cell? ⟨w.heap.size, 0, none⟩ = some (.int .i64 op) ∧ x.cell? ⟨w.heap.size, 1, none⟩ = some (.int .i64 n) ∧ x.cell? ⟨w.heap.size, 2, none⟩ = some (.string s) ∧ x.cell? ⟨w.heap.size, 3, none⟩ = some (.slice a len cap) ∧ x.cell? ⟨w.heap.size + 1, 0, none⟩ = some (.int .i64 op2) ∧ x.cell? ⟨w.heap.size + 1, 1, none⟩ = some (.int .i64 n2) ∧ x.cell? ⟨w.heap.size + 1, 2, none⟩ = some (.string s2) ∧ x.cell? ⟨w.heap.size + 1, 3, none⟩ = some (.slice a2 len2 cap2)) (go_keep)
    (first
      | (go_at_call 61
         refine (unhide HP _ (unhide HB3).drew).mono ?_
         rintro e y1 ⟨op9, n9, s9, a9, len9, cap9, rfl, hL, hb⟩
         have h01 := hide (below_drew' hb)
         have HR9 := hide hL
         clear c0 c1 c2 c3 d0 d1 d2 d3 i0 i1 i2 i3 hb hL
         obtain ⟨c0, c1, c2, c3⟩ := ((unhide HBd).below (unhide h01)).facts
         obtain ⟨d0, d1, d2, d3⟩ := ((unhide HA0).below (unhide h01)).facts
         obtain ⟨i0, i1, i2, i3⟩ := ((unhide HA1).below (unhide h01)).facts)
      | (go_at_call 34
         refine (unhide HQ op9 n9 s9 a9 len9 cap9 _ (bt (unhide HB3) (unhide h01) (Nat.le_refl _)) (unhide HR9)).mono ?_
         rintro e y2 ⟨op10, n10, s10, a10, len10, cap10, rfl, hL, hb⟩
         have h02 := hide (bt (unhide h01) hb (Nat.le_refl _))
         have HR10 := hide hL
         clear c0 c1 c2 c3 d0 d1 d2 d3 i0 i1 i2 i3 hb hL
         obtain ⟨c0, c1, c2, c3⟩ := ((unhide HBd).below (unhide h02)).facts
         obtain ⟨d0, d1, d2, d3⟩ := ((unhide HA0).below (unhide h02)).facts
         obtain ⟨i0, i1, i2, i3⟩ := ((unhide HA1).below (unhide h02)).facts)
      | (go_at_call 60
         refine (unhide HM op8 n8 s8 a8 len8 cap8 op10 n10 s10 a10 len10 cap10 _ ((unhide HLB).below (unhide h02)) (unhide HR10)).mono ?_
         rintro e y3 ⟨rfl, hb⟩
         have h03 := hide (bt (unhide h02) hb (Nat.le_refl _))
         clear c0 c1 c2 c3 d0 d1 d2 d3 i0 i1 i2 i3 hb
         obtain ⟨c0, c1, c2, c3⟩ := ((unhide HBd).below (unhide h03)).facts
         obtain ⟨d0, d1, d2, d3⟩ := ((unhide HA0).below (unhide h03)).facts
         obtain ⟨i0, i1, i2, i3⟩ := ((unhide HA1).below (unhide h03)).facts))
  have HB4 := hide (bt (unhide HB3) (unhide h03) (Nat.le_refl _))
  clear c0 c1 c2 c3 d0 d1 d2 d3 i0 i1 i2 i3
  go_wp2_with fail
  go_ret
  exact ⟨rfl, unhide HB4⟩

set_option maxRecDepth 100000 in
set_option maxHeartbeats 2000000 in
theorem provedI0 (KT BT : Tm) (op n : Int) (s : ByteArray) (a : Option Addr) (len cap : Nat) (op2 n2 : Int) (s2 : ByteArray) (a2 : Option Addr) (len2 cap2 : Nat) (op5 n5 : Int) (s5 : ByteArray) (a5 : Option Addr) (len5 cap5 : Nat) (op6 n6 : Int) (s6 : ByteArray) (a6 : Option Addr) (len6 cap6 : Nat) (hs : ByteArray) (m : Int) (w : World)
    (hG : ∀ V, Below w.heap.size w V → Calls Tryz.prog 35 #[.agg #[.int .i64 op5, .int .i64 n5, .string s5, .slice a5 len5 cap5], .string hs, .int .i64 m] V fun e w' => ∃ op7 n7 s7 a7 len7 cap7, e = .returned (.tuple #[.agg #[.int .i64 op7, .int .i64 n7, .string s7, .slice a7 len7 cap7], .bool false]) ∧ Lies w' 0 KT (tmCells op7 n7 s7 a7 len7 cap7) ∧ Below V.heap.size V w')
    (hS : ∀ (op7 n7 : Int) (s7 : ByteArray) (a7 : Option Addr) (len7 cap7 : Nat) V, Below w.heap.size w V → Lies V 0 KT (tmCells op7 n7 s7 a7 len7 cap7) → Calls Tryz.prog 63 #[.agg #[.int .i64 op7, .int .i64 n7, .string s7, .slice a7 len7 cap7], .agg #[.int .i64 op6, .int .i64 n6, .string s6, .slice a6 len6 cap6]] V fun e w' => ∃ op8 n8 s8 a8 len8 cap8, e = .returned (.tuple #[.agg #[.int .i64 op8, .int .i64 n8, .string s8, .slice a8 len8 cap8], .bool false]) ∧ Lies w' 0 BT (tmCells op8 n8 s8 a8 len8 cap8) ∧ Below V.heap.size V w')
      :
    Calls Tryz.prog 12 #[.agg #[.int .i64 op, .int .i64 n, .string s, .slice a len cap], .agg #[.int .i64 op2, .int .i64 n2, .string s2, .slice a2 len2 cap2], .agg #[.int .i64 op5, .int .i64 n5, .string s5, .slice a5 len5 cap5], .agg #[.int .i64 op6, .int .i64 n6, .string s6, .slice a6 len6 cap6], .string hs, .int .i64 m] w fun e w' => e = .returned (.bool false) ∧ Below w.heap.size w w' := by
  have hB0 : Below w.heap.size w ((((w.alloc (.cells #[.int .i64 op, .int .i64 n, .string s, .slice a len cap] 29)).alloc (.cells #[.int .i64 op2, .int .i64 n2, .string s2, .slice a2 len2 cap2] 29)).alloc (.cells #[.int .i64 op5, .int .i64 n5, .string s5, .slice a5 len5 cap5] 29)).alloc (.cells #[.int .i64 op6, .int .i64 n6, .string s6, .slice a6 len6 cap6] 29)) := bt (bt (bt (ab _) (ab _) (Nat.le_refl _)) (ab _) (Nat.le_refl _)) (ab _) (Nat.le_refl _)
  have HA0 : Hid (RowT 29 ((((w.alloc (.cells #[.int .i64 op, .int .i64 n, .string s, .slice a len cap] 29)).alloc (.cells #[.int .i64 op2, .int .i64 n2, .string s2, .slice a2 len2 cap2] 29)).alloc (.cells #[.int .i64 op5, .int .i64 n5, .string s5, .slice a5 len5 cap5] 29)).alloc (.cells #[.int .i64 op6, .int .i64 n6, .string s6, .slice a6 len6 cap6] 29)) (w.heap.size) op n s a len cap) := by
    have := ((((RowT.new 29 w op n s a len cap).below (ab (.cells #[.int .i64 op2, .int .i64 n2, .string s2, .slice a2 len2 cap2] 29))).below (ab (.cells #[.int .i64 op5, .int .i64 n5, .string s5, .slice a5 len5 cap5] 29))).below (ab (.cells #[.int .i64 op6, .int .i64 n6, .string s6, .slice a6 len6 cap6] 29)))
    exact this
  have HA1 : Hid (RowT 29 ((((w.alloc (.cells #[.int .i64 op, .int .i64 n, .string s, .slice a len cap] 29)).alloc (.cells #[.int .i64 op2, .int .i64 n2, .string s2, .slice a2 len2 cap2] 29)).alloc (.cells #[.int .i64 op5, .int .i64 n5, .string s5, .slice a5 len5 cap5] 29)).alloc (.cells #[.int .i64 op6, .int .i64 n6, .string s6, .slice a6 len6 cap6] 29)) (w.heap.size + 1) op2 n2 s2 a2 len2 cap2) := by
    have := (((RowT.new 29 (w.alloc (.cells #[.int .i64 op, .int .i64 n, .string s, .slice a len cap] 29)) op2 n2 s2 a2 len2 cap2).below (ab (.cells #[.int .i64 op5, .int .i64 n5, .string s5, .slice a5 len5 cap5] 29))).below (ab (.cells #[.int .i64 op6, .int .i64 n6, .string s6, .slice a6 len6 cap6] 29)))
    rwa [heap_size_alloc] at this
  have HA2 : Hid (RowT 29 ((((w.alloc (.cells #[.int .i64 op, .int .i64 n, .string s, .slice a len cap] 29)).alloc (.cells #[.int .i64 op2, .int .i64 n2, .string s2, .slice a2 len2 cap2] 29)).alloc (.cells #[.int .i64 op5, .int .i64 n5, .string s5, .slice a5 len5 cap5] 29)).alloc (.cells #[.int .i64 op6, .int .i64 n6, .string s6, .slice a6 len6 cap6] 29)) (w.heap.size + 1 + 1) op5 n5 s5 a5 len5 cap5) := by
    have := ((RowT.new 29 ((w.alloc (.cells #[.int .i64 op, .int .i64 n, .string s, .slice a len cap] 29)).alloc (.cells #[.int .i64 op2, .int .i64 n2, .string s2, .slice a2 len2 cap2] 29)) op5 n5 s5 a5 len5 cap5).below (ab (.cells #[.int .i64 op6, .int .i64 n6, .string s6, .slice a6 len6 cap6] 29)))
    rwa [heap_size_alloc, heap_size_alloc] at this
  have HA3 : Hid (RowT 29 ((((w.alloc (.cells #[.int .i64 op, .int .i64 n, .string s, .slice a len cap] 29)).alloc (.cells #[.int .i64 op2, .int .i64 n2, .string s2, .slice a2 len2 cap2] 29)).alloc (.cells #[.int .i64 op5, .int .i64 n5, .string s5, .slice a5 len5 cap5] 29)).alloc (.cells #[.int .i64 op6, .int .i64 n6, .string s6, .slice a6 len6 cap6] 29)) (w.heap.size + 1 + 1 + 1) op6 n6 s6 a6 len6 cap6) := by
    have := (RowT.new 29 (((w.alloc (.cells #[.int .i64 op, .int .i64 n, .string s, .slice a len cap] 29)).alloc (.cells #[.int .i64 op2, .int .i64 n2, .string s2, .slice a2 len2 cap2] 29)).alloc (.cells #[.int .i64 op5, .int .i64 n5, .string s5, .slice a5 len5 cap5] 29)) op6 n6 s6 a6 len6 cap6)
    rwa [heap_size_alloc, heap_size_alloc, heap_size_alloc] at this
  have HB0 := hide hB0
  have HG := hide hG
  have HS := hide hS
  clear hB0 hG hS
  obtain ⟨c0, c1, c2, c3⟩ := (unhide HA2).facts
  go_enter Tryz.func12, Tryz.ntmps12
  go_wp2_with fail
  generalize hgw : ((((w.alloc (.cells #[.int .i64 op, .int .i64 n, .string s, .slice a len cap] 29)).alloc (.cells #[.int .i64 op2, .int .i64 n2, .string s2, .slice a2 len2 cap2] 29)).alloc (.cells #[.int .i64 op5, .int .i64 n5, .string s5, .slice a5 len5 cap5] 29)).alloc (.cells #[.int .i64 op6, .int .i64 n6, .string s6, .slice a6 len6 cap6] 29)) = W1 at *
  clear hgw
  refine (unhide HG _ (unhide HB0)).mono ?_
  rintro e w2 ⟨op7, n7, s7, a7, len7, cap7, rfl, hL, hb⟩
  have hb2 := bt hb (ab (.cells #[.int .i64 op7, .int .i64 n7, .string s7, .slice a7 len7 cap7] 29)) (Nat.le_refl _)
  have HB2 := hide (bt (unhide HB0) hb2 (Nat.le_refl _))
  have HA0 := hide ((unhide HA0).below hb2)
  have HA1 := hide ((unhide HA1).below hb2)
  have HA3 := hide ((unhide HA3).below hb2)
  have HLK := hide (hL.below (ab (.cells #[.int .i64 op7, .int .i64 n7, .string s7, .slice a7 len7 cap7] 29)))
  have HK := hide (RowT.new 29 w2 op7 n7 s7 a7 len7 cap7)
  clear hb hb2 hL c0 c1 c2 c3 HB0
  obtain ⟨c0, c1, c2, c3⟩ := (unhide HK).facts
  obtain ⟨d0, d1, d2, d3⟩ := (unhide HA3).facts
  go_wp2_with fail
  generalize hgw : w2.alloc (.cells #[.int .i64 op7, .int .i64 n7, .string s7, .slice a7 len7 cap7] 29) = W2 at *
  clear hgw
  generalize w2.heap.size = bK at *
  refine (unhide HS op7 n7 s7 a7 len7 cap7 _ (unhide HB2) (unhide HLK)).mono ?_
  rintro e w3 ⟨op8, n8, s8, a8, len8, cap8, rfl, hL, hb⟩
  have hb2 := bt hb (ab (.cells #[.int .i64 op8, .int .i64 n8, .string s8, .slice a8 len8 cap8] 29)) (Nat.le_refl _)
  have HB3 := hide (bt (unhide HB2) hb2 (Nat.le_refl _))
  have HA0 := hide ((unhide HA0).below hb2)
  have HA1 := hide ((unhide HA1).below hb2)
  have HLB := hide (hL.below (ab (.cells #[.int .i64 op8, .int .i64 n8, .string s8, .slice a8 len8 cap8] 29)))
  have HBd := hide (RowT.new 29 w3 op8 n8 s8 a8 len8 cap8)
  clear hb hb2 hL c0 c1 c2 c3 d0 d1 d2 d3 HB2 HA3
  go_wp2_with fail
  generalize hgw : w3.alloc (.cells #[.int .i64 op8, .int .i64 n8, .string s8, .slice a8 len8 cap8] 29) = W3 at *
  clear hgw
  generalize w3.heap.size = bB at *
  obtain ⟨c0, c1, c2, c3⟩ := (unhide HBd).facts
  obtain ⟨d0, d1, d2, d3⟩ := (unhide HA0).facts
  obtain ⟨i0, i1, i2, i3⟩ := (unhide HA1).facts
  first
    | go_region_with fail
    | fail
  all_goals go_wp2_with fail
  all_goals go_ret
  all_goals exact ⟨rfl, (unhide HB3).drew⟩

set_option maxRecDepth 100000 in
set_option maxHeartbeats 2000000 in
theorem provedI1 (KT BT : Tm) (op n : Int) (s : ByteArray) (a : Option Addr) (len cap : Nat) (op2 n2 : Int) (s2 : ByteArray) (a2 : Option Addr) (len2 cap2 : Nat) (op5 n5 : Int) (s5 : ByteArray) (a5 : Option Addr) (len5 cap5 : Nat) (op6 n6 : Int) (s6 : ByteArray) (a6 : Option Addr) (len6 cap6 : Nat) (hs : ByteArray) (m : Int) (w : World)
    (hG : ∀ V, Below w.heap.size w V → Calls Tryz.prog 35 #[.agg #[.int .i64 op5, .int .i64 n5, .string s5, .slice a5 len5 cap5], .string hs, .int .i64 m] V fun e w' => ∃ op7 n7 s7 a7 len7 cap7, e = .returned (.tuple #[.agg #[.int .i64 op7, .int .i64 n7, .string s7, .slice a7 len7 cap7], .bool true]) ∧ Lies w' 0 KT (tmCells op7 n7 s7 a7 len7 cap7) ∧ Below V.heap.size V w')
    (hS : ∀ (op7 n7 : Int) (s7 : ByteArray) (a7 : Option Addr) (len7 cap7 : Nat) V, Below w.heap.size w V → Lies V 0 KT (tmCells op7 n7 s7 a7 len7 cap7) → Calls Tryz.prog 63 #[.agg #[.int .i64 op7, .int .i64 n7, .string s7, .slice a7 len7 cap7], .agg #[.int .i64 op6, .int .i64 n6, .string s6, .slice a6 len6 cap6]] V fun e w' => ∃ op8 n8 s8 a8 len8 cap8, e = .returned (.tuple #[.agg #[.int .i64 op8, .int .i64 n8, .string s8, .slice a8 len8 cap8], .bool false]) ∧ Lies w' 0 BT (tmCells op8 n8 s8 a8 len8 cap8) ∧ Below V.heap.size V w')
      :
    Calls Tryz.prog 12 #[.agg #[.int .i64 op, .int .i64 n, .string s, .slice a len cap], .agg #[.int .i64 op2, .int .i64 n2, .string s2, .slice a2 len2 cap2], .agg #[.int .i64 op5, .int .i64 n5, .string s5, .slice a5 len5 cap5], .agg #[.int .i64 op6, .int .i64 n6, .string s6, .slice a6 len6 cap6], .string hs, .int .i64 m] w fun e w' => e = .returned (.bool false) ∧ Below w.heap.size w w' := by
  have hB0 : Below w.heap.size w ((((w.alloc (.cells #[.int .i64 op, .int .i64 n, .string s, .slice a len cap] 29)).alloc (.cells #[.int .i64 op2, .int .i64 n2, .string s2, .slice a2 len2 cap2] 29)).alloc (.cells #[.int .i64 op5, .int .i64 n5, .string s5, .slice a5 len5 cap5] 29)).alloc (.cells #[.int .i64 op6, .int .i64 n6, .string s6, .slice a6 len6 cap6] 29)) := bt (bt (bt (ab _) (ab _) (Nat.le_refl _)) (ab _) (Nat.le_refl _)) (ab _) (Nat.le_refl _)
  have HA0 : Hid (RowT 29 ((((w.alloc (.cells #[.int .i64 op, .int .i64 n, .string s, .slice a len cap] 29)).alloc (.cells #[.int .i64 op2, .int .i64 n2, .string s2, .slice a2 len2 cap2] 29)).alloc (.cells #[.int .i64 op5, .int .i64 n5, .string s5, .slice a5 len5 cap5] 29)).alloc (.cells #[.int .i64 op6, .int .i64 n6, .string s6, .slice a6 len6 cap6] 29)) (w.heap.size) op n s a len cap) := by
    have := ((((RowT.new 29 w op n s a len cap).below (ab (.cells #[.int .i64 op2, .int .i64 n2, .string s2, .slice a2 len2 cap2] 29))).below (ab (.cells #[.int .i64 op5, .int .i64 n5, .string s5, .slice a5 len5 cap5] 29))).below (ab (.cells #[.int .i64 op6, .int .i64 n6, .string s6, .slice a6 len6 cap6] 29)))
    exact this
  have HA1 : Hid (RowT 29 ((((w.alloc (.cells #[.int .i64 op, .int .i64 n, .string s, .slice a len cap] 29)).alloc (.cells #[.int .i64 op2, .int .i64 n2, .string s2, .slice a2 len2 cap2] 29)).alloc (.cells #[.int .i64 op5, .int .i64 n5, .string s5, .slice a5 len5 cap5] 29)).alloc (.cells #[.int .i64 op6, .int .i64 n6, .string s6, .slice a6 len6 cap6] 29)) (w.heap.size + 1) op2 n2 s2 a2 len2 cap2) := by
    have := (((RowT.new 29 (w.alloc (.cells #[.int .i64 op, .int .i64 n, .string s, .slice a len cap] 29)) op2 n2 s2 a2 len2 cap2).below (ab (.cells #[.int .i64 op5, .int .i64 n5, .string s5, .slice a5 len5 cap5] 29))).below (ab (.cells #[.int .i64 op6, .int .i64 n6, .string s6, .slice a6 len6 cap6] 29)))
    rwa [heap_size_alloc] at this
  have HA2 : Hid (RowT 29 ((((w.alloc (.cells #[.int .i64 op, .int .i64 n, .string s, .slice a len cap] 29)).alloc (.cells #[.int .i64 op2, .int .i64 n2, .string s2, .slice a2 len2 cap2] 29)).alloc (.cells #[.int .i64 op5, .int .i64 n5, .string s5, .slice a5 len5 cap5] 29)).alloc (.cells #[.int .i64 op6, .int .i64 n6, .string s6, .slice a6 len6 cap6] 29)) (w.heap.size + 1 + 1) op5 n5 s5 a5 len5 cap5) := by
    have := ((RowT.new 29 ((w.alloc (.cells #[.int .i64 op, .int .i64 n, .string s, .slice a len cap] 29)).alloc (.cells #[.int .i64 op2, .int .i64 n2, .string s2, .slice a2 len2 cap2] 29)) op5 n5 s5 a5 len5 cap5).below (ab (.cells #[.int .i64 op6, .int .i64 n6, .string s6, .slice a6 len6 cap6] 29)))
    rwa [heap_size_alloc, heap_size_alloc] at this
  have HA3 : Hid (RowT 29 ((((w.alloc (.cells #[.int .i64 op, .int .i64 n, .string s, .slice a len cap] 29)).alloc (.cells #[.int .i64 op2, .int .i64 n2, .string s2, .slice a2 len2 cap2] 29)).alloc (.cells #[.int .i64 op5, .int .i64 n5, .string s5, .slice a5 len5 cap5] 29)).alloc (.cells #[.int .i64 op6, .int .i64 n6, .string s6, .slice a6 len6 cap6] 29)) (w.heap.size + 1 + 1 + 1) op6 n6 s6 a6 len6 cap6) := by
    have := (RowT.new 29 (((w.alloc (.cells #[.int .i64 op, .int .i64 n, .string s, .slice a len cap] 29)).alloc (.cells #[.int .i64 op2, .int .i64 n2, .string s2, .slice a2 len2 cap2] 29)).alloc (.cells #[.int .i64 op5, .int .i64 n5, .string s5, .slice a5 len5 cap5] 29)) op6 n6 s6 a6 len6 cap6)
    rwa [heap_size_alloc, heap_size_alloc, heap_size_alloc] at this
  have HB0 := hide hB0
  have HG := hide hG
  have HS := hide hS
  clear hB0 hG hS
  obtain ⟨c0, c1, c2, c3⟩ := (unhide HA2).facts
  go_enter Tryz.func12, Tryz.ntmps12
  go_wp2_with fail
  generalize hgw : ((((w.alloc (.cells #[.int .i64 op, .int .i64 n, .string s, .slice a len cap] 29)).alloc (.cells #[.int .i64 op2, .int .i64 n2, .string s2, .slice a2 len2 cap2] 29)).alloc (.cells #[.int .i64 op5, .int .i64 n5, .string s5, .slice a5 len5 cap5] 29)).alloc (.cells #[.int .i64 op6, .int .i64 n6, .string s6, .slice a6 len6 cap6] 29)) = W1 at *
  clear hgw
  refine (unhide HG _ (unhide HB0)).mono ?_
  rintro e w2 ⟨op7, n7, s7, a7, len7, cap7, rfl, hL, hb⟩
  have hb2 := bt hb (ab (.cells #[.int .i64 op7, .int .i64 n7, .string s7, .slice a7 len7 cap7] 29)) (Nat.le_refl _)
  have HB2 := hide (bt (unhide HB0) hb2 (Nat.le_refl _))
  have HA0 := hide ((unhide HA0).below hb2)
  have HA1 := hide ((unhide HA1).below hb2)
  have HA3 := hide ((unhide HA3).below hb2)
  have HLK := hide (hL.below (ab (.cells #[.int .i64 op7, .int .i64 n7, .string s7, .slice a7 len7 cap7] 29)))
  have HK := hide (RowT.new 29 w2 op7 n7 s7 a7 len7 cap7)
  clear hb hb2 hL c0 c1 c2 c3 HB0
  obtain ⟨c0, c1, c2, c3⟩ := (unhide HK).facts
  obtain ⟨d0, d1, d2, d3⟩ := (unhide HA3).facts
  go_wp2_with fail
  generalize hgw : w2.alloc (.cells #[.int .i64 op7, .int .i64 n7, .string s7, .slice a7 len7 cap7] 29) = W2 at *
  clear hgw
  generalize w2.heap.size = bK at *
  refine (unhide HS op7 n7 s7 a7 len7 cap7 _ (unhide HB2) (unhide HLK)).mono ?_
  rintro e w3 ⟨op8, n8, s8, a8, len8, cap8, rfl, hL, hb⟩
  have hb2 := bt hb (ab (.cells #[.int .i64 op8, .int .i64 n8, .string s8, .slice a8 len8 cap8] 29)) (Nat.le_refl _)
  have HB3 := hide (bt (unhide HB2) hb2 (Nat.le_refl _))
  have HA0 := hide ((unhide HA0).below hb2)
  have HA1 := hide ((unhide HA1).below hb2)
  have HLB := hide (hL.below (ab (.cells #[.int .i64 op8, .int .i64 n8, .string s8, .slice a8 len8 cap8] 29)))
  have HBd := hide (RowT.new 29 w3 op8 n8 s8 a8 len8 cap8)
  clear hb hb2 hL c0 c1 c2 c3 d0 d1 d2 d3 HB2 HA3
  go_wp2_with fail
  generalize hgw : w3.alloc (.cells #[.int .i64 op8, .int .i64 n8, .string s8, .slice a8 len8 cap8] 29) = W3 at *
  clear hgw
  generalize w3.heap.size = bB at *
  obtain ⟨c0, c1, c2, c3⟩ := (unhide HBd).facts
  obtain ⟨d0, d1, d2, d3⟩ := (unhide HA0).facts
  obtain ⟨i0, i1, i2, i3⟩ := (unhide HA1).facts
  first
    | go_region_with fail
    | fail
  all_goals go_wp2_with fail
  all_goals go_ret
  all_goals exact ⟨rfl, (unhide HB3).drew⟩

set_option maxRecDepth 100000 in
set_option maxHeartbeats 2000000 in
theorem provedI3 (KT BT PT QT : Tm) (R : Bool) (op n : Int) (s : ByteArray) (a : Option Addr) (len cap : Nat) (op2 n2 : Int) (s2 : ByteArray) (a2 : Option Addr) (len2 cap2 : Nat) (op5 n5 : Int) (s5 : ByteArray) (a5 : Option Addr) (len5 cap5 : Nat) (op6 n6 : Int) (s6 : ByteArray) (a6 : Option Addr) (len6 cap6 : Nat) (hs : ByteArray) (m : Int) (w : World)
    (hG : ∀ V, Below w.heap.size w V → Calls Tryz.prog 35 #[.agg #[.int .i64 op5, .int .i64 n5, .string s5, .slice a5 len5 cap5], .string hs, .int .i64 m] V fun e w' => ∃ op7 n7 s7 a7 len7 cap7, e = .returned (.tuple #[.agg #[.int .i64 op7, .int .i64 n7, .string s7, .slice a7 len7 cap7], .bool true]) ∧ Lies w' 0 KT (tmCells op7 n7 s7 a7 len7 cap7) ∧ Below V.heap.size V w')
    (hS : ∀ (op7 n7 : Int) (s7 : ByteArray) (a7 : Option Addr) (len7 cap7 : Nat) V, Below w.heap.size w V → Lies V 0 KT (tmCells op7 n7 s7 a7 len7 cap7) → Calls Tryz.prog 63 #[.agg #[.int .i64 op7, .int .i64 n7, .string s7, .slice a7 len7 cap7], .agg #[.int .i64 op6, .int .i64 n6, .string s6, .slice a6 len6 cap6]] V fun e w' => ∃ op8 n8 s8 a8 len8 cap8, e = .returned (.tuple #[.agg #[.int .i64 op8, .int .i64 n8, .string s8, .slice a8 len8 cap8], .bool true]) ∧ Lies w' 0 BT (tmCells op8 n8 s8 a8 len8 cap8) ∧ Below V.heap.size V w')
    (hP : ∀ V, Below w.heap.size w V → Calls Tryz.prog 38 #[.agg #[.int .i64 op, .int .i64 n, .string s, .slice a len cap]] V fun e w' => ∃ op9 n9 s9 a9 len9 cap9, e = .returned (.agg #[.int .i64 op9, .int .i64 n9, .string s9, .slice a9 len9 cap9]) ∧ Lies w' 0 PT (tmCells op9 n9 s9 a9 len9 cap9) ∧ Below V.heap.size V w') (hQ : ∀ (op9 n9 : Int) (s9 : ByteArray) (a9 : Option Addr) (len9 cap9 : Nat) V, Below w.heap.size w V → Lies V 0 PT (tmCells op9 n9 s9 a9 len9 cap9) → Calls Tryz.prog 33 #[.agg #[.int .i64 op9, .int .i64 n9, .string s9, .slice a9 len9 cap9], .agg #[.int .i64 op2, .int .i64 n2, .string s2, .slice a2 len2 cap2]] V fun e w' => ∃ op10 n10 s10 a10 len10 cap10, e = .returned (.agg #[.int .i64 op10, .int .i64 n10, .string s10, .slice a10 len10 cap10]) ∧ Lies w' 0 QT (tmCells op10 n10 s10 a10 len10 cap10) ∧ Below V.heap.size V w') (hM : ∀ (op8 n8 : Int) (s8 : ByteArray) (a8 : Option Addr) (len8 cap8 : Nat) (op10 n10 : Int) (s10 : ByteArray) (a10 : Option Addr) (len10 cap10 : Nat) V, Lies V 0 BT (tmCells op8 n8 s8 a8 len8 cap8) → Lies V 0 QT (tmCells op10 n10 s10 a10 len10 cap10) → Calls Tryz.prog 21 #[.agg #[.int .i64 op8, .int .i64 n8, .string s8, .slice a8 len8 cap8], .agg #[.int .i64 op10, .int .i64 n10, .string s10, .slice a10 len10 cap10]] V fun e w' => e = .returned (.bool R) ∧ Below V.heap.size V w')  :
    Calls Tryz.prog 12 #[.agg #[.int .i64 op, .int .i64 n, .string s, .slice a len cap], .agg #[.int .i64 op2, .int .i64 n2, .string s2, .slice a2 len2 cap2], .agg #[.int .i64 op5, .int .i64 n5, .string s5, .slice a5 len5 cap5], .agg #[.int .i64 op6, .int .i64 n6, .string s6, .slice a6 len6 cap6], .string hs, .int .i64 m] w fun e w' => e = .returned (.bool R) ∧ Below w.heap.size w w' := by
  have hB0 : Below w.heap.size w ((((w.alloc (.cells #[.int .i64 op, .int .i64 n, .string s, .slice a len cap] 29)).alloc (.cells #[.int .i64 op2, .int .i64 n2, .string s2, .slice a2 len2 cap2] 29)).alloc (.cells #[.int .i64 op5, .int .i64 n5, .string s5, .slice a5 len5 cap5] 29)).alloc (.cells #[.int .i64 op6, .int .i64 n6, .string s6, .slice a6 len6 cap6] 29)) := bt (bt (bt (ab _) (ab _) (Nat.le_refl _)) (ab _) (Nat.le_refl _)) (ab _) (Nat.le_refl _)
  have HA0 : Hid (RowT 29 ((((w.alloc (.cells #[.int .i64 op, .int .i64 n, .string s, .slice a len cap] 29)).alloc (.cells #[.int .i64 op2, .int .i64 n2, .string s2, .slice a2 len2 cap2] 29)).alloc (.cells #[.int .i64 op5, .int .i64 n5, .string s5, .slice a5 len5 cap5] 29)).alloc (.cells #[.int .i64 op6, .int .i64 n6, .string s6, .slice a6 len6 cap6] 29)) (w.heap.size) op n s a len cap) := by
    have := ((((RowT.new 29 w op n s a len cap).below (ab (.cells #[.int .i64 op2, .int .i64 n2, .string s2, .slice a2 len2 cap2] 29))).below (ab (.cells #[.int .i64 op5, .int .i64 n5, .string s5, .slice a5 len5 cap5] 29))).below (ab (.cells #[.int .i64 op6, .int .i64 n6, .string s6, .slice a6 len6 cap6] 29)))
    exact this
  have HA1 : Hid (RowT 29 ((((w.alloc (.cells #[.int .i64 op, .int .i64 n, .string s, .slice a len cap] 29)).alloc (.cells #[.int .i64 op2, .int .i64 n2, .string s2, .slice a2 len2 cap2] 29)).alloc (.cells #[.int .i64 op5, .int .i64 n5, .string s5, .slice a5 len5 cap5] 29)).alloc (.cells #[.int .i64 op6, .int .i64 n6, .string s6, .slice a6 len6 cap6] 29)) (w.heap.size + 1) op2 n2 s2 a2 len2 cap2) := by
    have := (((RowT.new 29 (w.alloc (.cells #[.int .i64 op, .int .i64 n, .string s, .slice a len cap] 29)) op2 n2 s2 a2 len2 cap2).below (ab (.cells #[.int .i64 op5, .int .i64 n5, .string s5, .slice a5 len5 cap5] 29))).below (ab (.cells #[.int .i64 op6, .int .i64 n6, .string s6, .slice a6 len6 cap6] 29)))
    rwa [heap_size_alloc] at this
  have HA2 : Hid (RowT 29 ((((w.alloc (.cells #[.int .i64 op, .int .i64 n, .string s, .slice a len cap] 29)).alloc (.cells #[.int .i64 op2, .int .i64 n2, .string s2, .slice a2 len2 cap2] 29)).alloc (.cells #[.int .i64 op5, .int .i64 n5, .string s5, .slice a5 len5 cap5] 29)).alloc (.cells #[.int .i64 op6, .int .i64 n6, .string s6, .slice a6 len6 cap6] 29)) (w.heap.size + 1 + 1) op5 n5 s5 a5 len5 cap5) := by
    have := ((RowT.new 29 ((w.alloc (.cells #[.int .i64 op, .int .i64 n, .string s, .slice a len cap] 29)).alloc (.cells #[.int .i64 op2, .int .i64 n2, .string s2, .slice a2 len2 cap2] 29)) op5 n5 s5 a5 len5 cap5).below (ab (.cells #[.int .i64 op6, .int .i64 n6, .string s6, .slice a6 len6 cap6] 29)))
    rwa [heap_size_alloc, heap_size_alloc] at this
  have HA3 : Hid (RowT 29 ((((w.alloc (.cells #[.int .i64 op, .int .i64 n, .string s, .slice a len cap] 29)).alloc (.cells #[.int .i64 op2, .int .i64 n2, .string s2, .slice a2 len2 cap2] 29)).alloc (.cells #[.int .i64 op5, .int .i64 n5, .string s5, .slice a5 len5 cap5] 29)).alloc (.cells #[.int .i64 op6, .int .i64 n6, .string s6, .slice a6 len6 cap6] 29)) (w.heap.size + 1 + 1 + 1) op6 n6 s6 a6 len6 cap6) := by
    have := (RowT.new 29 (((w.alloc (.cells #[.int .i64 op, .int .i64 n, .string s, .slice a len cap] 29)).alloc (.cells #[.int .i64 op2, .int .i64 n2, .string s2, .slice a2 len2 cap2] 29)).alloc (.cells #[.int .i64 op5, .int .i64 n5, .string s5, .slice a5 len5 cap5] 29)) op6 n6 s6 a6 len6 cap6)
    rwa [heap_size_alloc, heap_size_alloc, heap_size_alloc] at this
  have HB0 := hide hB0
  have HG := hide hG
  have HS := hide hS
  have HP := hide hP
  have HQ := hide hQ
  have HM := hide hM
  clear hB0 hG hS hP hQ hM
  obtain ⟨c0, c1, c2, c3⟩ := (unhide HA2).facts
  go_enter Tryz.func12, Tryz.ntmps12
  go_wp2_with fail
  generalize hgw : ((((w.alloc (.cells #[.int .i64 op, .int .i64 n, .string s, .slice a len cap] 29)).alloc (.cells #[.int .i64 op2, .int .i64 n2, .string s2, .slice a2 len2 cap2] 29)).alloc (.cells #[.int .i64 op5, .int .i64 n5, .string s5, .slice a5 len5 cap5] 29)).alloc (.cells #[.int .i64 op6, .int .i64 n6, .string s6, .slice a6 len6 cap6] 29)) = W1 at *
  clear hgw
  refine (unhide HG _ (unhide HB0)).mono ?_
  rintro e w2 ⟨op7, n7, s7, a7, len7, cap7, rfl, hL, hb⟩
  have hb2 := bt hb (ab (.cells #[.int .i64 op7, .int .i64 n7, .string s7, .slice a7 len7 cap7] 29)) (Nat.le_refl _)
  have HB2 := hide (bt (unhide HB0) hb2 (Nat.le_refl _))
  have HA0 := hide ((unhide HA0).below hb2)
  have HA1 := hide ((unhide HA1).below hb2)
  have HA3 := hide ((unhide HA3).below hb2)
  have HLK := hide (hL.below (ab (.cells #[.int .i64 op7, .int .i64 n7, .string s7, .slice a7 len7 cap7] 29)))
  have HK := hide (RowT.new 29 w2 op7 n7 s7 a7 len7 cap7)
  clear hb hb2 hL c0 c1 c2 c3 HB0
  obtain ⟨c0, c1, c2, c3⟩ := (unhide HK).facts
  obtain ⟨d0, d1, d2, d3⟩ := (unhide HA3).facts
  go_wp2_with fail
  generalize hgw : w2.alloc (.cells #[.int .i64 op7, .int .i64 n7, .string s7, .slice a7 len7 cap7] 29) = W2 at *
  clear hgw
  generalize w2.heap.size = bK at *
  refine (unhide HS op7 n7 s7 a7 len7 cap7 _ (unhide HB2) (unhide HLK)).mono ?_
  rintro e w3 ⟨op8, n8, s8, a8, len8, cap8, rfl, hL, hb⟩
  have hb2 := bt hb (ab (.cells #[.int .i64 op8, .int .i64 n8, .string s8, .slice a8 len8 cap8] 29)) (Nat.le_refl _)
  have HB3 := hide (bt (unhide HB2) hb2 (Nat.le_refl _))
  have HA0 := hide ((unhide HA0).below hb2)
  have HA1 := hide ((unhide HA1).below hb2)
  have HLB := hide (hL.below (ab (.cells #[.int .i64 op8, .int .i64 n8, .string s8, .slice a8 len8 cap8] 29)))
  have HBd := hide (RowT.new 29 w3 op8 n8 s8 a8 len8 cap8)
  clear hb hb2 hL c0 c1 c2 c3 d0 d1 d2 d3 HB2 HA3
  go_wp2_with fail
  generalize hgw : w3.alloc (.cells #[.int .i64 op8, .int .i64 n8, .string s8, .slice a8 len8 cap8] 29) = W3 at *
  clear hgw
  generalize w3.heap.size = bB at *
  obtain ⟨c0, c1, c2, c3⟩ := (unhide HBd).facts
  obtain ⟨d0, d1, d2, d3⟩ := (unhide HA0).facts
  obtain ⟨i0, i1, i2, i3⟩ := (unhide HA1).facts
  go_region_held3 (fun x => x.cell? ⟨bB, 0, none⟩ = some (.int .i64 op8) ∧ x.cell? ⟨bB, 1, none⟩ = some (.int .i64 n8) ∧ x.cell? ⟨bB, 2, none⟩ = some (.string s8) ∧ x.cell? ⟨bB, 3, none⟩ = some (.slice a8 len8 cap8) ∧ x.cell? ⟨w.heap.size, 0, none⟩ = some (.int .i64 op) ∧ x.cell? ⟨w.heap.size, 1, none⟩ = some (.int .i64 n) ∧ x.cell? ⟨w.heap.size, 2, none⟩ = some (.string s) ∧ x.cell? ⟨w.heap.size, 3, none⟩ = some (.slice a len cap) ∧ x.cell? ⟨w.heap.size + 1, 0, none⟩ = some (.int .i64 op2) ∧ x.cell? ⟨w.heap.size + 1, 1, none⟩ = some (.int .i64 n2) ∧ x.cell? ⟨w.heap.size + 1, 2, none⟩ = some (.string s2) ∧ x.cell? ⟨w.heap.size + 1, 3, none⟩ = some (.slice a2 len2 cap2)) (go_keep)
    (first
      | (go_at_call 38
         refine (unhide HP _ (unhide HB3).drew).mono ?_
         rintro e y1 ⟨op9, n9, s9, a9, len9, cap9, rfl, hL, hb⟩
         have h01 := hide (below_drew' hb)
         have HR9 := hide hL
         clear c0 c1 c2 c3 d0 d1 d2 d3 i0 i1 i2 i3 hb hL
         obtain ⟨c0, c1, c2, c3⟩ := ((unhide HBd).below (unhide h01)).facts
         obtain ⟨d0, d1, d2, d3⟩ := ((unhide HA0).below (unhide h01)).facts
         obtain ⟨i0, i1, i2, i3⟩ := ((unhide HA1).below (unhide h01)).facts)
      | (go_at_call 33
         refine (unhide HQ op9 n9 s9 a9 len9 cap9 _ (bt (unhide HB3) (unhide h01) (Nat.le_refl _)) (unhide HR9)).mono ?_
         rintro e y2 ⟨op10, n10, s10, a10, len10, cap10, rfl, hL, hb⟩
         have h02 := hide (bt (unhide h01) hb (Nat.le_refl _))
         have HR10 := hide hL
         clear c0 c1 c2 c3 d0 d1 d2 d3 i0 i1 i2 i3 hb hL
         obtain ⟨c0, c1, c2, c3⟩ := ((unhide HBd).below (unhide h02)).facts
         obtain ⟨d0, d1, d2, d3⟩ := ((unhide HA0).below (unhide h02)).facts
         obtain ⟨i0, i1, i2, i3⟩ := ((unhide HA1).below (unhide h02)).facts)
      | (go_at_call 21
         refine (unhide HM op8 n8 s8 a8 len8 cap8 op10 n10 s10 a10 len10 cap10 _ ((unhide HLB).below (unhide h02)) (unhide HR10)).mono ?_
         rintro e y3 ⟨rfl, hb⟩
         have h03 := hide (bt (unhide h02) hb (Nat.le_refl _))
         clear c0 c1 c2 c3 d0 d1 d2 d3 i0 i1 i2 i3 hb
         obtain ⟨c0, c1, c2, c3⟩ := ((unhide HBd).below (unhide h03)).facts
         obtain ⟨d0, d1, d2, d3⟩ := ((unhide HA0).below (unhide h03)).facts
         obtain ⟨i0, i1, i2, i3⟩ := ((unhide HA1).below (unhide h03)).facts))
  have HB4 := hide (bt (unhide HB3) (unhide h03) (Nat.le_refl _))
  clear c0 c1 c2 c3 d0 d1 d2 d3 i0 i1 i2 i3
  go_wp2_with fail
  go_ret
  exact ⟨rfl, unhide HB4⟩

/-- The term is that of a certificate for this host, which has not ended. -/
def GoodP (t : Tm) (hs : ByteArray) (m : Int) (p : Tm) : Prop := ∃ v, CP t hs p v ∧ ¬ v < m

theorem six_yes {t : Tm} {h : ByteArray} {p : Tm} {v : Int} (c : CP t h p v) (op n : Int) (s : ByteArray) (a : Option Addr) (len cap : Nat) (w : World) (hl : Lies w 0 t (tmCells op n s a len cap)) (hz : t.size ≤ 2097152) (W : World) (hW : Below w.heap.size w W) :
    Calls Tryz.prog 48 #[.agg #[.int .i64 op, .int .i64 n, .string s, .slice a len cap]] W fun e w' => Below W.heap.size W w' ∧ ∃ op n s a len cap, e = .returned (.tuple #[.agg #[.string h, .int .i64 op, .int .i64 n, .string s, .slice a len cap, .int .i64 v], .bool true]) ∧ Lies w' W.heap.size p (tmCells op n s a len cap) := by
  refine (ofS6 t op n s a len cap W (hl.below hW) hz).mono ?_
  rintro e w' ⟨hb, ⟨h1, p1, v1, o1, n1, s1, a1, l1, c1, cc, he, hL⟩ | ⟨hno, _⟩⟩
  · obtain ⟨rfl, rfl, rfl⟩ := c.one cc
    exact ⟨hb, o1, n1, s1, a1, l1, c1, he, hL⟩
  · exact absurd ⟨h, p, v, c⟩ hno
theorem six_no {t : Tm} (hc : ¬ ∃ h p v, CP t h p v) (op n : Int) (s : ByteArray) (a : Option Addr) (len cap : Nat) (w : World) (hl : Lies w 0 t (tmCells op n s a len cap)) (hz : t.size ≤ 2097152) (W : World) (hW : Below w.heap.size w W) :
    Calls Tryz.prog 48 #[.agg #[.int .i64 op, .int .i64 n, .string s, .slice a len cap]] W fun e w' => Below W.heap.size W w' ∧ e = .returned (.tuple #[zeroC, .bool false]) := by
  refine (ofS6 t op n s a len cap W (hl.below hW) hz).mono ?_
  rintro e w' ⟨hb, ⟨h1, p1, v1, o1, n1, s1, a1, l1, c1, cc, he, hL⟩ | ⟨_, he⟩⟩
  · exact absurd ⟨h1, p1, v1, cc⟩ hc
  · exact ⟨hb, he⟩
theorem read_got {t : Tm} {h : ByteArray} {p : Tm} {v : Int} (c : CP t h p v) (op n : Int) (s : ByteArray) (a : Option Addr) (len cap : Nat) (w : World) (hl : Lies w 0 t (tmCells op n s a len cap)) (hz : t.size ≤ 2097152) (x : Addr) (he : ErrAt x w) (hr : Var12 w) (ht : Tab w) (W : World) (hW : Below w.heap.size w W) :
    Calls Tryz.prog 108 #[.agg #[.int .i64 op, .int .i64 n, .string s, .slice a len cap]] W fun e w' => Below W.heap.size W w' ∧ ∃ op n s a len cap, e = .returned (.tuple #[.agg #[.string h, .int .i64 op, .int .i64 n, .string s, .slice a len cap, .int .i64 v], .nilIface]) ∧ Lies w 0 p (tmCells op n s a len cap) := by
  refine (read26 t op n s a len cap x w W hl hW hz (he.on hW) (hr.on hW) (ht.on hW)).mono ?_
  rintro e w' ⟨hb, ⟨h1, p1, v1, o1, n1, s1, a1, l1, c1, cc, he', hL⟩ | ⟨hno, _⟩⟩
  · obtain ⟨rfl, rfl, rfl⟩ := c.one cc
    exact ⟨hb, o1, n1, s1, a1, l1, c1, he', hL⟩
  · exact absurd ⟨h, p, v, c⟩ hno
theorem read_not {t : Tm} (hc : ¬ ∃ h p v, CP t h p v) (op n : Int) (s : ByteArray) (a : Option Addr) (len cap : Nat) (w : World) (hl : Lies w 0 t (tmCells op n s a len cap)) (hz : t.size ≤ 2097152) (x : Addr) (he : ErrAt x w) (hr : Var12 w) (ht : Tab w) (W : World) (hW : Below w.heap.size w W) :
    Calls Tryz.prog 108 #[.agg #[.int .i64 op, .int .i64 n, .string s, .slice a len cap]] W fun e w' => Below W.heap.size W w' ∧ e = .returned (.tuple #[zeroC, .iface 202 (.pointer (some x))]) := by
  refine (read26 t op n s a len cap x w W hl hW hz (he.on hW) (hr.on hW) (ht.on hW)).mono ?_
  rintro e w' ⟨hb, ⟨h1, p1, v1, o1, n1, s1, a1, l1, c1, cc, he', hL⟩ | ⟨_, he'⟩⟩
  · exact absurd ⟨h1, p1, v1, cc⟩ hc
  · exact ⟨hb, he'⟩

/-- spec.CertGood where it is good. -/
theorem good12_yes (t : Tm) (hs : ByteArray) (m : Int) (op n : Int) (s : ByteArray) (a : Option Addr) (len cap : Nat) (w : World) (hl : Lies w 0 t (tmCells op n s a len cap)) (hz : t.size ≤ 2097152) (p : Tm) (hg : GoodP t hs m p) :
    Calls Tryz.prog 51 #[.agg #[.int .i64 op, .int .i64 n, .string s, .slice a len cap], .string hs, .int .i64 m] w fun e w' => ∃ op n s a len cap, e = .returned (.tuple #[.agg #[.int .i64 op, .int .i64 n, .string s, .slice a len cap], .bool true]) ∧ Lies w' w.heap.size p (tmCells op n s a len cap) ∧ Below w.heap.size w w' := by
  obtain ⟨v, c, hv⟩ := hg
  exact goodS_yes op n s a len cap hs m w hs p v rfl hv (six_yes c op n s a len cap w hl hz)
/-- spec.CertGood where it is not. -/
theorem good12_no (t : Tm) (hs : ByteArray) (m : Int) (op n : Int) (s : ByteArray) (a : Option Addr) (len cap : Nat) (w : World) (hl : Lies w 0 t (tmCells op n s a len cap)) (hz : t.size ≤ 2097152) (hg : ¬ ∃ p, GoodP t hs m p) :
    Calls Tryz.prog 51 #[.agg #[.int .i64 op, .int .i64 n, .string s, .slice a len cap], .string hs, .int .i64 m] w fun e w' => e = .returned (.tuple #[.agg #[.int .i64 0, .int .i64 0, .string ByteArray.empty, .slice none 0 0], .bool false]) ∧ Below w.heap.size w w' := by
  by_cases hc : ∃ h p v, CP t h p v
  · obtain ⟨h, p, v, c⟩ := hc
    by_cases hh : h = hs
    · by_cases hm : v < m
      · exact goodS_no3 op n s a len cap hs m w h p v hh hm (six_yes c op n s a len cap w hl hz)
      · exact absurd ⟨p, v, hh ▸ c, hm⟩ hg
    · exact goodS_no2 op n s a len cap hs m w h p v hh (six_yes c op n s a len cap w hl hz)
  · exact goodS_no1 op n s a len cap hs m w (six_no hc op n s a len cap w hl hz)
/-- impl.CertGood where it is good. -/
theorem good11_yes (t : Tm) (hs : ByteArray) (m : Int) (op n : Int) (s : ByteArray) (a : Option Addr) (len cap : Nat) (w : World) (hl : Lies w 0 t (tmCells op n s a len cap)) (hz : t.size ≤ 2097152) (x : Addr) (he : ErrAt x w) (hr : Var12 w) (ht : Tab w) (p : Tm) (hg : GoodP t hs m p) :
    Calls Tryz.prog 35 #[.agg #[.int .i64 op, .int .i64 n, .string s, .slice a len cap], .string hs, .int .i64 m] w fun e w' => ∃ op n s a len cap fp, e = .returned (.tuple #[.agg #[.int .i64 op, .int .i64 n, .string s, .slice a len cap], .bool true]) ∧ Own w' p (tmCells op n s a len cap) fp ∧ (fp.Nodup ∧ ∀ y ∈ fp, w.heap.size ≤ y) ∧ Below w.heap.size w w' := by
  obtain ⟨v, c, hv⟩ := hg
  have hp := okT_200 (certB_ok c.2.1).2.2.1
  exact goodI_yes op n s a len cap hs m x w he p (by have := okT_small (certB_ok c.2.1).2.2.1; omega) fun W hW => goodP_yes op n s a len cap hs m x W (he.on hW) hs p v rfl hv (read_got c op n s a len cap W (hl.below hW) hz x (he.on hW) (hr.on hW) (ht.on hW))
/-- impl.CertGood where it is not. -/
theorem good11_no (t : Tm) (hs : ByteArray) (m : Int) (op n : Int) (s : ByteArray) (a : Option Addr) (len cap : Nat) (w : World) (hl : Lies w 0 t (tmCells op n s a len cap)) (hz : t.size ≤ 2097152) (x : Addr) (he : ErrAt x w) (hr : Var12 w) (ht : Tab w) (hg : ¬ ∃ p, GoodP t hs m p) :
    Calls Tryz.prog 35 #[.agg #[.int .i64 op, .int .i64 n, .string s, .slice a len cap], .string hs, .int .i64 m] w fun e w' => e = .returned (.tuple #[.agg #[.int .i64 0, .int .i64 0, .string ByteArray.empty, .slice none 0 0], .bool false]) ∧ Below w.heap.size w w' := by
  refine goodI_no op n s a len cap hs m x w he fun W hW => ?_
  by_cases hc : ∃ h p v, CP t h p v
  · obtain ⟨h, p, v, c⟩ := hc
    have h25 := read_got c op n s a len cap W (hl.below hW) hz x (he.on hW) (hr.on hW) (ht.on hW)
    by_cases hh : h = hs
    · by_cases hm : v < m
      · exact goodP_no3 op n s a len cap hs m x W (he.on hW) h p v hh hm h25
      · exact absurd ⟨p, v, hh ▸ c, hm⟩ hg
    · exact goodP_no2 op n s a len cap hs m x W (he.on hW) h p v hh h25
  · exact goodP_no1 op n s a len cap hs m x W (read_not hc op n s a len cap W (hl.below hW) hz x (he.on hW) (hr.on hW) (ht.on hW))

set_option maxRecDepth 100000 in
set_option maxHeartbeats 1000000 in
theorem pubI (t : Tm) (op n : Int) (s : ByteArray) (a : Option Addr) (len cap : Nat) (w : World) (hl : Lies w 0 t (tmCells op n s a len cap)) (hsz : t.size ≤ 2097151) (herr : Err w) :
    Calls Tryz.prog 38 #[.agg #[.int .i64 op, .int .i64 n, .string s, .slice a len cap]] w fun e w' => ∃ op' n' s' a' len' cap' fp, e = .returned (.agg #[.int .i64 op', .int .i64 n', .string s', .slice a' len' cap']) ∧ Own w' (madeT 4 [t]) (tmCells op' n' s' a' len' cap') fp ∧ (fp.Nodup ∧ ∀ x ∈ fp, w.heap.size ≤ x) ∧ Below w.heap.size w w' := by
  have HER := hide herr
  clear herr
  have h18 := hide (new_any (.node 4 0 ByteArray.empty [t]))
  have HZ : Hid ((Tm.node 4 0 ByteArray.empty [t]).size ≤ 2097152) := by show _ ≤ _; simp only [Tm.size, Tm.sizes]; omega
  have hB0 : Below w.heap.size w ((w.alloc (.cells #[.int .i64 op, .int .i64 n, .string s, .slice a len cap] 29)).alloc (.cells #[.int .i64 0, .int .i64 0, .string ByteArray.empty, .slice none 0 0] 29)) := bt (ab _) (ab _) (Nat.le_refl _)
  have hX : ZBox ((w.alloc (.cells #[.int .i64 op, .int .i64 n, .string s, .slice a len cap] 29)).alloc (.cells #[.int .i64 0, .int .i64 0, .string ByteArray.empty, .slice none 0 0] 29)) (w.heap.size + 1) := by
    have := ZBox.new (w.alloc (.cells #[.int .i64 op, .int .i64 n, .string s, .slice a len cap] 29))
    rwa [heap_size_alloc] at this
  have HB3 := hide (bt hB0 (ab (.cells #[.int .i64 op, .int .i64 n, .string s, .slice a len cap] 29)) (Nat.le_refl _))
  have HX3 := hide (hX.below (ab (.cells #[.int .i64 op, .int .i64 n, .string s, .slice a len cap] 29)))
  have HT3 := hide (lies_one (hl.below hB0) (Nat.zero_le _) 4 (by decide))
  simp only [heap_size_alloc] at HT3
  clear hl hB0 hX
  go_enter Tryz.func38, Tryz.ntmps38
  go_wp2_with fail
  refine (unhide h18 _ _ _ _ _ _ _ (unhide HT3) (unhide HZ) ((unhide HER).on (unhide HB3))).mono ?_
  rintro e w4 ⟨op', n', s', a', len', cap', fp, rfl, hO4, ⟨hnd, hge⟩, hb4⟩
  have HB4 := hide (bt (unhide HB3) hb4 (Nat.le_refl _))
  have hX4 := (unhide HX3).below hb4
  have HO4 := hide hO4
  have HND := hide hnd
  simp only [heap_size_alloc] at hge
  have HGE := hide hge
  obtain ⟨d0, d1, d2, d3, e0, e1, e2, e3⟩ := hX4.facts
  clear hb4 hO4 hX4 HB3 HX3 HT3 hnd hge
  go_wp2_with fail
  exact bodyPost_ret (v := .agg #[.int .i64 op', .int .i64 n', .string s', .slice a' len' cap']) (by simp [results, Tryz.results38, go_sem, d0, d1, d2, d3]) rfl ⟨op', n', s', a', len', cap', fp, rfl, Own.keep _ _ _ (unhide HO4) (fun b hb => set4_heap _ _ _ _ _ _ b (by have := unhide HGE b hb; omega)), ⟨unhide HND, fun x hx => by have := unhide HGE x hx; omega⟩, set4_below (unhide HB4) (by omega)⟩


/-- A right open half is that of one term. -/
theorem half_shape {p : Tm} (h4 : opT p = 4) (hok : okT p = true) : ∃ k, p = .node 4 0 ByteArray.empty [k] := by
  obtain ⟨op, n, s, ks⟩ := p
  simp only [opT] at h4
  subst h4
  simp only [okT, rightT, Bool.and_eq_true] at hok
  have hh := hok.2.1.1
  rw [headB_only (by decide) (by decide)] at hh
  simp only [onlyB, decide_eq_true_eq] at hh
  obtain ⟨rfl, h2, h3⟩ := hh
  have hs : s = ByteArray.empty := by simpa using h2
  subst hs
  have h3 : ks.length = 1 := by
    have e : kidsOf 4 = 1 := by decide
    rw [e] at h3; omega
  match ks, h3 with
  | [k], _ => exact ⟨k, rfl⟩

/-- The one kid of a term that lies in memory. -/
theorem lies_kid {w : World} {op n : Int} {s : ByteArray} {k : Tm} {op2 n2 : Int} {s2 : ByteArray} {a2 : Option Addr} {len2 cap2 : Nat} (hl : Lies w 0 (.node op n s [k]) (tmCells op2 n2 s2 a2 len2 cap2)) :
    op2 = op ∧ n2 = n ∧ s2 = s ∧ len2 = 1 ∧ ∃ b q op3 n3 s3 a3 len3 cap3, a2 = some ⟨b, q, none⟩ ∧
      (w.cell? ⟨b, q, none⟩ = some (.int .i64 op3) ∧ w.cell? ⟨b, q + 1, none⟩ = some (.int .i64 n3) ∧ w.cell? ⟨b, q + 2, none⟩ = some (.string s3) ∧ w.cell? ⟨b, q + 3, none⟩ = some (.slice a3 len3 cap3) ∧ Lies w 0 k (tmCells op3 n3 s3 a3 len3 cap3)) := by
  have hx := hl
  simp only [Lies, tmCells, List.cons.injEq, Value.int.injEq, Value.string.injEq, Value.slice.injEq, true_and, and_true] at hx
  obtain ⟨a9, c9, ⟨rfl, rfl, rfl, rfl, rfl, rfl⟩, _, _, hka⟩ := hx
  obtain ⟨b, q, op3, n3, s3, a3, len3, cap3, rfl, _, _, r0, r1, r2, r3, hk0⟩ := hka.elem (k := 0) (by simp)
  simp only [Nat.zero_mul, Nat.add_zero] at r0 r1 r2 r3
  exact ⟨rfl, rfl, rfl, by simp, b, q, op3, n3, s3, a3, len3, cap3, rfl, ⟨r0, r1, r2, r3, hk0⟩⟩

/-- What one answers who is shown this. -/
def sgnT (k t : Tm) : Tm := match behO 8 k t with | none => .node 0 0 ByteArray.empty [] | some u => u
def sgnB (k t : Tm) : Bool := (behO 8 k t).isSome

theorem sgnS (k t : Tm) (op7 n7 : Int) (s7 : ByteArray) (a7 : Option Addr) (len7 cap7 : Nat) (op6 n6 : Int) (s6 : ByteArray) (a6 : Option Addr) (len6 cap6 : Nat) (w : World) (hlf : Lies w 0 (.node 4 0 ByteArray.empty [k]) (tmCells op7 n7 s7 a7 len7 cap7)) (hl : Lies w 0 t (tmCells op6 n6 s6 a6 len6 cap6)) (hsz : t.size ≤ 2097152) :
    Calls Tryz.prog 59 #[.agg #[.int .i64 op7, .int .i64 n7, .string s7, .slice a7 len7 cap7], .agg #[.int .i64 op6, .int .i64 n6, .string s6, .slice a6 len6 cap6]] w fun e w' => ∃ op8 n8 s8 a8 len8 cap8, e = .returned (.tuple #[.agg #[.int .i64 op8, .int .i64 n8, .string s8, .slice a8 len8 cap8], .bool (sgnB k t)]) ∧ Lies w' 0 (sgnT k t) (tmCells op8 n8 s8 a8 len8 cap8) ∧ Below w.heap.size w w' := by
  cases hb : behO 8 k t with
  | none =>
    refine (signedS_none k t op7 n7 s7 a7 len7 cap7 op6 n6 s6 a6 len6 cap6 w hlf hl hsz hb).mono ?_
    rintro e w' ⟨rfl, h⟩
    exact ⟨0, 0, ByteArray.empty, none, 0, 0, by simp only [sgnB, hb, Option.isSome_none], by simp only [sgnT, hb]; exact zero_lies _ 0, h⟩
  | some u =>
    refine (signedS_some k t u op7 n7 s7 a7 len7 cap7 op6 n6 s6 a6 len6 cap6 w hlf hl hsz hb).mono ?_
    rintro e w' ⟨o, n, s, a, l, c, rfl, hL, h⟩
    exact ⟨o, n, s, a, l, c, by simp only [sgnB, hb, Option.isSome_some], by simp only [sgnT, hb]; exact hL, h⟩

theorem sgnI (k t : Tm) (op7 n7 : Int) (s7 : ByteArray) (a7 : Option Addr) (len7 cap7 : Nat) (op6 n6 : Int) (s6 : ByteArray) (a6 : Option Addr) (len6 cap6 : Nat) (x : Addr) (w : World) (he : ErrAt x w) (hlf : Lies w 0 (.node 4 0 ByteArray.empty [k]) (tmCells op7 n7 s7 a7 len7 cap7)) (hl : Lies w 0 t (tmCells op6 n6 s6 a6 len6 cap6)) (hsz : t.size ≤ 2097152) :
    Calls Tryz.prog 63 #[.agg #[.int .i64 op7, .int .i64 n7, .string s7, .slice a7 len7 cap7], .agg #[.int .i64 op6, .int .i64 n6, .string s6, .slice a6 len6 cap6]] w fun e w' => ∃ op8 n8 s8 a8 len8 cap8, e = .returned (.tuple #[.agg #[.int .i64 op8, .int .i64 n8, .string s8, .slice a8 len8 cap8], .bool (sgnB k t)]) ∧ Lies w' 0 (sgnT k t) (tmCells op8 n8 s8 a8 len8 cap8) ∧ Below w.heap.size w w' := by
  obtain ⟨rfl, rfl, rfl, rfl, b, q, op3, n3, s3, a3, len3, cap3, rfl, r0, r1, r2, r3, hk⟩ := lies_kid hlf
  cases hb : behO 8 k t with
  | none =>
    refine (signedI_no _ _ _ _ _ _ op6 n6 s6 a6 len6 cap6 x w he fun V hV => sgnb_no2 k t _ _ b q _ op3 n3 s3 a3 len3 cap3 op6 n6 s6 a6 len6 cap6 x V (he.on hV) (hk.below hV) (hl.below hV) hsz (kpc hV r0) (kpc hV r1) (kpc hV r2) (kpc hV r3) hb).mono ?_
    rintro e w' ⟨rfl, h⟩
    exact ⟨0, 0, ByteArray.empty, none, 0, 0, by simp only [sgnB, hb, Option.isSome_none], by simp only [sgnT, hb]; exact zero_lies _ 0, h⟩
  | some u =>
    have hou : okT u = true := by
      obtain ⟨nt, st, k0, rfl, hok, _⟩ := behO_some hb
      exact okT_kid hok (by simp)
    refine (signedI_yes u _ _ _ _ _ _ op6 n6 s6 a6 len6 cap6 x w he hou fun V hV => sgnb_yes k t _ _ b q _ op3 n3 s3 a3 len3 cap3 op6 n6 s6 a6 len6 cap6 x V (he.on hV) (hk.below hV) (hl.below hV) hsz (kpc hV r0) (kpc hV r1) (kpc hV r2) (kpc hV r3) u hb).mono ?_
    rintro e w' ⟨o, n, s, a, l, c, rfl, hL, h⟩
    exact ⟨o, n, s, a, l, c, by simp only [sgnB, hb, Option.isSome_some], by simp only [sgnT, hb]; exact hL, h⟩

theorem sgnT_ok (k t : Tm) (h : sgnB k t = true) : okT (sgnT k t) = true := by
  unfold sgnB at h
  unfold sgnT
  cases hb : behO 8 k t with
  | none => rw [hb] at h; cases h
  | some u =>
    obtain ⟨nt, st, k0, rfl, hok, _⟩ := behO_some hb
    exact okT_kid hok (by simp)

/-- A right term that is no hash is not what both make. -/
theorem both_not {u e pb : Tm} (hou : okT u = true) (h6 : opT u ≠ 6) : sameB u (bothT e pb) = false := by
  cases h : sameB u (bothT e pb) with
  | false => rfl
  | true =>
    have hu := same_alike.1 h
    subst hu
    unfold bothT madeT at h6 hou
    cases hk : okT (.node 6 0 ByteArray.empty [pickT (okT (.node 3 0 ByteArray.empty [e, pb])) (.node 3 0 ByteArray.empty [e, pb])]) with
    | true => rw [hk] at h6; exact absurd rfl h6
    | false => rw [hk] at hou; simp only [pickT, Bool.false_eq_true, if_false] at hou; exact absurd hou (by decide)

/-- Both Proved at the same arguments. -/
theorem proved_both (e pb ce sg : Tm) (hs : ByteArray) (m : Int) (hz1 : e.size + pb.size ≤ 2096000) (hz2 : ce.size ≤ 2097152) (hz3 : sg.size ≤ 2097152) : ∃ R : Bool,
    Hid (∀ (op n : Int) (s : ByteArray) (a : Option Addr) (len cap : Nat) (op2 n2 : Int) (s2 : ByteArray) (a2 : Option Addr) (len2 cap2 : Nat) (op5 n5 : Int) (s5 : ByteArray) (a5 : Option Addr) (len5 cap5 : Nat) (op6 n6 : Int) (s6 : ByteArray) (a6 : Option Addr) (len6 cap6 : Nat) (w : World), Lies w 0 e (tmCells op n s a len cap) → Lies w 0 pb (tmCells op2 n2 s2 a2 len2 cap2) → Lies w 0 ce (tmCells op5 n5 s5 a5 len5 cap5) → Lies w 0 sg (tmCells op6 n6 s6 a6 len6 cap6) →
      Calls Tryz.prog 10 #[.agg #[.int .i64 op, .int .i64 n, .string s, .slice a len cap], .agg #[.int .i64 op2, .int .i64 n2, .string s2, .slice a2 len2 cap2], .agg #[.int .i64 op5, .int .i64 n5, .string s5, .slice a5 len5 cap5], .agg #[.int .i64 op6, .int .i64 n6, .string s6, .slice a6 len6 cap6], .string hs, .int .i64 m] w fun e w' => e = .returned (.bool R) ∧ Below w.heap.size w w') ∧
    Hid (∀ (op n : Int) (s : ByteArray) (a : Option Addr) (len cap : Nat) (op2 n2 : Int) (s2 : ByteArray) (a2 : Option Addr) (len2 cap2 : Nat) (op5 n5 : Int) (s5 : ByteArray) (a5 : Option Addr) (len5 cap5 : Nat) (op6 n6 : Int) (s6 : ByteArray) (a6 : Option Addr) (len6 cap6 : Nat) (x : Addr) (w : World), ErrAt x w → Var12 w → Tab w → Lies w 0 e (tmCells op n s a len cap) → Lies w 0 pb (tmCells op2 n2 s2 a2 len2 cap2) → Lies w 0 ce (tmCells op5 n5 s5 a5 len5 cap5) → Lies w 0 sg (tmCells op6 n6 s6 a6 len6 cap6) →
      Calls Tryz.prog 12 #[.agg #[.int .i64 op, .int .i64 n, .string s, .slice a len cap], .agg #[.int .i64 op2, .int .i64 n2, .string s2, .slice a2 len2 cap2], .agg #[.int .i64 op5, .int .i64 n5, .string s5, .slice a5 len5 cap5], .agg #[.int .i64 op6, .int .i64 n6, .string s6, .slice a6 len6 cap6], .string hs, .int .i64 m] w fun e w' => e = .returned (.bool R) ∧ Below w.heap.size w w') := by
  have hzp : (madeT 4 [e]).size ≤ 200 := madeT_200 _ _
  by_cases hg : ∃ p, GoodP ce hs m p
  · obtain ⟨p, hg⟩ := hg
    obtain ⟨v, c, hv⟩ := hg
    have hg : GoodP ce hs m p := ⟨v, c, hv⟩
    have hc := certB_ok c.2.1
    obtain ⟨k, rfl⟩ := half_shape hc.2.1 hc.2.2.1
    cases hsb : sgnB k sg with
    | false =>
      refine ⟨false, ?_, ?_⟩
      · intro op n s a len cap op2 n2 s2 a2 len2 cap2 op5 n5 s5 a5 len5 cap5 op6 n6 s6 a6 len6 cap6 w l1 l2 l5 l6
        refine provedS1 (.node 4 0 ByteArray.empty [k]) (sgnT k sg) op n s a len cap op2 n2 s2 a2 len2 cap2 op5 n5 s5 a5 len5 cap5 op6 n6 s6 a6 len6 cap6 hs m w ?_ ?_
        · intro V hV
          refine (good12_yes ce hs m op5 n5 s5 a5 len5 cap5 V (l5.below hV) hz2 _ hg).mono ?_
          rintro e' w' ⟨o, n, s, a, l, c, rfl, hL, h⟩
          exact ⟨o, n, s, a, l, c, rfl, hL.any (Nat.zero_le _), h⟩
        · intro op7 n7 s7 a7 len7 cap7 V hV hL
          have := sgnS k sg op7 n7 s7 a7 len7 cap7 op6 n6 s6 a6 len6 cap6 V hL (l6.below hV) hz3
          rwa [hsb] at this
      · intro op n s a len cap op2 n2 s2 a2 len2 cap2 op5 n5 s5 a5 len5 cap5 op6 n6 s6 a6 len6 cap6 x w he hr ht l1 l2 l5 l6
        refine provedI1 (.node 4 0 ByteArray.empty [k]) (sgnT k sg) op n s a len cap op2 n2 s2 a2 len2 cap2 op5 n5 s5 a5 len5 cap5 op6 n6 s6 a6 len6 cap6 hs m w ?_ ?_
        · intro V hV
          refine (good11_yes ce hs m op5 n5 s5 a5 len5 cap5 V (l5.below hV) hz2 x (he.on hV) (hr.on hV) (ht.on hV) _ hg).mono ?_
          rintro e' w' ⟨o, n, s, a, l, c, fp, rfl, hO, _, h⟩
          exact ⟨o, n, s, a, l, c, rfl, hO.lies0, h⟩
        · intro op7 n7 s7 a7 len7 cap7 V hV hL
          have := sgnI k sg op7 n7 s7 a7 len7 cap7 op6 n6 s6 a6 len6 cap6 x V (he.on hV) hL (l6.below hV) hz3
          rwa [hsb] at this
    | true =>
      have hou := sgnT_ok k sg hsb
      have hzu := okT_200 hou
      refine ⟨sameB (sgnT k sg) (bothT (madeT 4 [e]) pb), ?_, ?_⟩
      · intro op n s a len cap op2 n2 s2 a2 len2 cap2 op5 n5 s5 a5 len5 cap5 op6 n6 s6 a6 len6 cap6 w l1 l2 l5 l6
        have hG : ∀ V, Below w.heap.size w V → Calls Tryz.prog 51 #[.agg #[.int .i64 op5, .int .i64 n5, .string s5, .slice a5 len5 cap5], .string hs, .int .i64 m] V fun e w' => ∃ op7 n7 s7 a7 len7 cap7, e = .returned (.tuple #[.agg #[.int .i64 op7, .int .i64 n7, .string s7, .slice a7 len7 cap7], .bool true]) ∧ Lies w' 0 (.node 4 0 ByteArray.empty [k]) (tmCells op7 n7 s7 a7 len7 cap7) ∧ Below V.heap.size V w' := by
          intro V hV
          refine (good12_yes ce hs m op5 n5 s5 a5 len5 cap5 V (l5.below hV) hz2 _ hg).mono ?_
          rintro e' w' ⟨o, n, s, a, l, c, rfl, hL, h⟩
          exact ⟨o, n, s, a, l, c, rfl, hL.any (Nat.zero_le _), h⟩
        have hS : ∀ (op7 n7 : Int) (s7 : ByteArray) (a7 : Option Addr) (len7 cap7 : Nat) V, Below w.heap.size w V → Lies V 0 (.node 4 0 ByteArray.empty [k]) (tmCells op7 n7 s7 a7 len7 cap7) → Calls Tryz.prog 59 #[.agg #[.int .i64 op7, .int .i64 n7, .string s7, .slice a7 len7 cap7], .agg #[.int .i64 op6, .int .i64 n6, .string s6, .slice a6 len6 cap6]] V fun e w' => ∃ op8 n8 s8 a8 len8 cap8, e = .returned (.tuple #[.agg #[.int .i64 op8, .int .i64 n8, .string s8, .slice a8 len8 cap8], .bool true]) ∧ Lies w' 0 (sgnT k sg) (tmCells op8 n8 s8 a8 len8 cap8) ∧ Below V.heap.size V w' := by
          intro op7 n7 s7 a7 len7 cap7 V hV hL
          have := sgnS k sg op7 n7 s7 a7 len7 cap7 op6 n6 s6 a6 len6 cap6 V hL (l6.below hV) hz3
          rwa [hsb] at this
        by_cases h6 : opT (sgnT k sg) = 6
        · refine provedS3 (.node 4 0 ByteArray.empty [k]) (sgnT k sg) (madeT 4 [e]) (bothT (madeT 4 [e]) pb) _ op n s a len cap op2 n2 s2 a2 len2 cap2 op5 n5 s5 a5 len5 cap5 op6 n6 s6 a6 len6 cap6 hs m w hG hS ?_ ?_ ?_ ?_
          · intro V hV
            refine (pubS e op n s a len cap V (l1.below hV) (by omega)).mono ?_
            rintro e' w' ⟨o, n, s, a, l, c, rfl, hL, h, _⟩
            exact ⟨o, n, s, a, l, c, rfl, hL.any (Nat.zero_le _), h⟩
          · intro op9 n9 s9 a9 len9 cap9 V hV hL
            refine (bothS (madeT 4 [e]) pb op9 n9 s9 a9 len9 cap9 op2 n2 s2 a2 len2 cap2 V hL (l2.below hV) (by omega)).mono ?_
            rintro e' w' ⟨o, n, s, a, l, c, rfl, hL, h⟩
            exact ⟨o, n, s, a, l, c, rfl, hL.any (Nat.zero_le _), h⟩
          · intro op8 n8 s8 a8 len8 cap8 op10 n10 s10 a10 len10 cap10 V hA hB
            exact sa_calls _ _ op8 n8 s8 a8 len8 cap8 op10 n10 s10 a10 len10 cap10 V hA hB
          · intro op8 n8 s8 a8 len8 cap8 V hL
            have := lies_op hL
            rw [h6] at this; subst this; rfl
        · rw [both_not hou h6]
          refine provedS2 (.node 4 0 ByteArray.empty [k]) (sgnT k sg) op n s a len cap op2 n2 s2 a2 len2 cap2 op5 n5 s5 a5 len5 cap5 op6 n6 s6 a6 len6 cap6 hs m w hG hS ?_
          intro op8 n8 s8 a8 len8 cap8 V hL
          have := lies_op hL
          rw [this] at h6
          simpa using h6
      · intro op n s a len cap op2 n2 s2 a2 len2 cap2 op5 n5 s5 a5 len5 cap5 op6 n6 s6 a6 len6 cap6 x w he hr ht l1 l2 l5 l6
        refine provedI3 (.node 4 0 ByteArray.empty [k]) (sgnT k sg) (madeT 4 [e]) (bothT (madeT 4 [e]) pb) _ op n s a len cap op2 n2 s2 a2 len2 cap2 op5 n5 s5 a5 len5 cap5 op6 n6 s6 a6 len6 cap6 hs m w ?_ ?_ ?_ ?_ ?_
        · intro V hV
          refine (good11_yes ce hs m op5 n5 s5 a5 len5 cap5 V (l5.below hV) hz2 x (he.on hV) (hr.on hV) (ht.on hV) _ hg).mono ?_
          rintro e' w' ⟨o, n, s, a, l, c, fp, rfl, hO, _, h⟩
          exact ⟨o, n, s, a, l, c, rfl, hO.lies0, h⟩
        · intro op7 n7 s7 a7 len7 cap7 V hV hL
          have := sgnI k sg op7 n7 s7 a7 len7 cap7 op6 n6 s6 a6 len6 cap6 x V (he.on hV) hL (l6.below hV) hz3
          rwa [hsb] at this
        · intro V hV
          refine (pubI e op n s a len cap V (l1.below hV) (by omega) ⟨x, he.on hV⟩).mono ?_
          rintro e' w' ⟨o, n, s, a, l, c, fp, rfl, hO, _, h⟩
          exact ⟨o, n, s, a, l, c, rfl, hO.lies0, h⟩
        · intro op9 n9 s9 a9 len9 cap9 V hV hL
          refine (bothI (madeT 4 [e]) pb op9 n9 s9 a9 len9 cap9 op2 n2 s2 a2 len2 cap2 V hL (l2.below hV) (by omega) ⟨x, he.on hV⟩).mono ?_
          rintro e' w' ⟨o, n, s, a, l, c, fp, rfl, hO, _, h⟩
          exact ⟨o, n, s, a, l, c, rfl, hO.lies0, h⟩
        · intro op8 n8 s8 a8 len8 cap8 op10 n10 s10 a10 len10 cap10 V hA hB
          exact same15 _ _ op8 n8 s8 a8 len8 cap8 op10 n10 s10 a10 len10 cap10 V hA hB (by omega)
  · refine ⟨false, ?_, ?_⟩
    · intro op n s a len cap op2 n2 s2 a2 len2 cap2 op5 n5 s5 a5 len5 cap5 op6 n6 s6 a6 len6 cap6 w l1 l2 l5 l6
      refine provedS0 (.node 0 0 ByteArray.empty []) op n s a len cap op2 n2 s2 a2 len2 cap2 op5 n5 s5 a5 len5 cap5 op6 n6 s6 a6 len6 cap6 hs m w ?_
      intro V hV
      refine (good12_no ce hs m op5 n5 s5 a5 len5 cap5 V (l5.below hV) hz2 hg).mono ?_
      rintro e' w' ⟨rfl, h⟩
      exact ⟨_, _, _, _, _, _, rfl, zero_lies _ 0, h⟩
    · intro op n s a len cap op2 n2 s2 a2 len2 cap2 op5 n5 s5 a5 len5 cap5 op6 n6 s6 a6 len6 cap6 x w he hr ht l1 l2 l5 l6
      refine provedI0 (.node 0 0 ByteArray.empty []) (.node 0 0 ByteArray.empty []) op n s a len cap op2 n2 s2 a2 len2 cap2 op5 n5 s5 a5 len5 cap5 op6 n6 s6 a6 len6 cap6 hs m w ?_ ?_
      · intro V hV
        refine (good11_no ce hs m op5 n5 s5 a5 len5 cap5 V (l5.below hV) hz2 x (he.on hV) (hr.on hV) (ht.on hV) hg).mono ?_
        rintro e' w' ⟨rfl, h⟩
        exact ⟨_, _, _, _, _, _, rfl, zero_lies _ 0, h⟩
      · intro op7 n7 s7 a7 len7 cap7 V hV hL
        have h0 := lies_op hL
        simp only [opT] at h0
        refine (signedI_no op7 n7 s7 a7 len7 cap7 op6 n6 s6 a6 len6 cap6 x V (he.on hV) fun W hW => sgnb_no1 op7 n7 s7 a7 len7 cap7 op6 n6 s6 a6 len6 cap6 x W ((he.on hV).on hW) (Or.inl (by omega))).mono ?_
        rintro e' w' ⟨rfl, h⟩
        exact ⟨_, _, _, _, _, _, rfl, zero_lies _ 0, h⟩

set_option maxRecDepth 100000 in
set_option maxHeartbeats 16000000 in
theorem lawProved (t0 t1 t2 t3 : Tm) (hs : ByteArray) (m : Int) (x : Addr)
    (op0 n0 : Int) (s0 : ByteArray) (a0 : Option Addr) (len0 cap0 : Nat) (op1 n1 : Int) (s1 : ByteArray) (a1 : Option Addr) (len1 cap1 : Nat) (op2 n2 : Int) (s2 : ByteArray) (a2 : Option Addr) (len2 cap2 : Nat) (op3 n3 : Int) (s3 : ByteArray) (a3 : Option Addr) (len3 cap3 : Nat) (w : World) (hl0 : Lies w 0 t0 (tmCells op0 n0 s0 a0 len0 cap0)) (hl1 : Lies w 0 t1 (tmCells op1 n1 s1 a1 len1 cap1)) (hl2 : Lies w 0 t2 (tmCells op2 n2 s2 a2 len2 cap2)) (hl3 : Lies w 0 t3 (tmCells op3 n3 s3 a3 len3 cap3)) (htab : Tab w) (hvar : Var12 w) (herr : ErrAt x w) :
    Calls Tryz.prog 3 #[.agg #[.int .i64 op0, .int .i64 n0, .string s0, .slice a0 len0 cap0], .agg #[.int .i64 op1, .int .i64 n1, .string s1, .slice a1 len1 cap1], .agg #[.int .i64 op2, .int .i64 n2, .string s2, .slice a2 len2 cap2], .agg #[.int .i64 op3, .int .i64 n3, .string s3, .slice a3 len3 cap3], .string hs, .int .i64 m] w fun e w' => e = .returned (.bool true) ∧ Below w.heap.size w w' := by
  have hsz0 := hide (sz_calls t0)
  have hZ0 := t0.size_le
  have hsz1 := hide (sz_calls t1)
  have hZ1 := t1.size_le
  have hsz2 := hide (sz_calls t2)
  have hZ2 := t2.size_le
  have hsz3 := hide (sz_calls t3)
  have hZ3 := t3.size_le
  have heq := hide eq_calls
  have hB0 : Below w.heap.size w ((((w.alloc (.cells #[.int .i64 op0, .int .i64 n0, .string s0, .slice a0 len0 cap0] 24)).alloc (.cells #[.int .i64 op1, .int .i64 n1, .string s1, .slice a1 len1 cap1] 24)).alloc (.cells #[.int .i64 op2, .int .i64 n2, .string s2, .slice a2 len2 cap2] 24)).alloc (.cells #[.int .i64 op3, .int .i64 n3, .string s3, .slice a3 len3 cap3] 24)) := bt (bt (bt (ab _) (ab _) (Nat.le_refl _)) (ab _) (Nat.le_refl _)) (ab _) (Nat.le_refl _)
  have HA0 : Hid (RowT 24 ((((w.alloc (.cells #[.int .i64 op0, .int .i64 n0, .string s0, .slice a0 len0 cap0] 24)).alloc (.cells #[.int .i64 op1, .int .i64 n1, .string s1, .slice a1 len1 cap1] 24)).alloc (.cells #[.int .i64 op2, .int .i64 n2, .string s2, .slice a2 len2 cap2] 24)).alloc (.cells #[.int .i64 op3, .int .i64 n3, .string s3, .slice a3 len3 cap3] 24)) (w.heap.size) op0 n0 s0 a0 len0 cap0) := by
    have := ((((RowT.new 24 w op0 n0 s0 a0 len0 cap0).below (ab (.cells #[.int .i64 op1, .int .i64 n1, .string s1, .slice a1 len1 cap1] 24))).below (ab (.cells #[.int .i64 op2, .int .i64 n2, .string s2, .slice a2 len2 cap2] 24))).below (ab (.cells #[.int .i64 op3, .int .i64 n3, .string s3, .slice a3 len3 cap3] 24)))
    exact this
  have HA1 : Hid (RowT 24 ((((w.alloc (.cells #[.int .i64 op0, .int .i64 n0, .string s0, .slice a0 len0 cap0] 24)).alloc (.cells #[.int .i64 op1, .int .i64 n1, .string s1, .slice a1 len1 cap1] 24)).alloc (.cells #[.int .i64 op2, .int .i64 n2, .string s2, .slice a2 len2 cap2] 24)).alloc (.cells #[.int .i64 op3, .int .i64 n3, .string s3, .slice a3 len3 cap3] 24)) (w.heap.size + 1) op1 n1 s1 a1 len1 cap1) := by
    have := (((RowT.new 24 (w.alloc (.cells #[.int .i64 op0, .int .i64 n0, .string s0, .slice a0 len0 cap0] 24)) op1 n1 s1 a1 len1 cap1).below (ab (.cells #[.int .i64 op2, .int .i64 n2, .string s2, .slice a2 len2 cap2] 24))).below (ab (.cells #[.int .i64 op3, .int .i64 n3, .string s3, .slice a3 len3 cap3] 24)))
    rwa [heap_size_alloc] at this
  have HA2 : Hid (RowT 24 ((((w.alloc (.cells #[.int .i64 op0, .int .i64 n0, .string s0, .slice a0 len0 cap0] 24)).alloc (.cells #[.int .i64 op1, .int .i64 n1, .string s1, .slice a1 len1 cap1] 24)).alloc (.cells #[.int .i64 op2, .int .i64 n2, .string s2, .slice a2 len2 cap2] 24)).alloc (.cells #[.int .i64 op3, .int .i64 n3, .string s3, .slice a3 len3 cap3] 24)) (w.heap.size + 1 + 1) op2 n2 s2 a2 len2 cap2) := by
    have := ((RowT.new 24 ((w.alloc (.cells #[.int .i64 op0, .int .i64 n0, .string s0, .slice a0 len0 cap0] 24)).alloc (.cells #[.int .i64 op1, .int .i64 n1, .string s1, .slice a1 len1 cap1] 24)) op2 n2 s2 a2 len2 cap2).below (ab (.cells #[.int .i64 op3, .int .i64 n3, .string s3, .slice a3 len3 cap3] 24)))
    rwa [heap_size_alloc, heap_size_alloc] at this
  have HA3 : Hid (RowT 24 ((((w.alloc (.cells #[.int .i64 op0, .int .i64 n0, .string s0, .slice a0 len0 cap0] 24)).alloc (.cells #[.int .i64 op1, .int .i64 n1, .string s1, .slice a1 len1 cap1] 24)).alloc (.cells #[.int .i64 op2, .int .i64 n2, .string s2, .slice a2 len2 cap2] 24)).alloc (.cells #[.int .i64 op3, .int .i64 n3, .string s3, .slice a3 len3 cap3] 24)) (w.heap.size + 1 + 1 + 1) op3 n3 s3 a3 len3 cap3) := by
    have := (RowT.new 24 (((w.alloc (.cells #[.int .i64 op0, .int .i64 n0, .string s0, .slice a0 len0 cap0] 24)).alloc (.cells #[.int .i64 op1, .int .i64 n1, .string s1, .slice a1 len1 cap1] 24)).alloc (.cells #[.int .i64 op2, .int .i64 n2, .string s2, .slice a2 len2 cap2] 24)) op3 n3 s3 a3 len3 cap3)
    rwa [heap_size_alloc, heap_size_alloc, heap_size_alloc] at this
  have HL0 := hide (hl0.below hB0)
  have HL1 := hide (hl1.below hB0)
  have HL2 := hide (hl2.below hB0)
  have HL3 := hide (hl3.below hB0)
  have HER := hide (herr.on hB0)
  have HTB := hide (htab.on hB0)
  have HVR := hide (hvar.on hB0)
  have HB0 := hide hB0
  clear hl0 hl1 hl2 hl3 hB0 herr htab hvar
  by_cases hh : (hs.size : Int) ≤ 1048576
  · have hhn : ¬ (1048576 : Int) < (hs.size : Int) := by omega
    by_cases hw0 : (t0.wt : Int) ≤ 1048576
    · obtain ⟨left1, hgl0⟩ : ∃ left1 : Int, (1048576 : Int) - t0.wt = left1 := ⟨_, rfl⟩
      have hln0 : 0 ≤ left1 := by omega
      by_cases hw1 : (t1.wt : Int) ≤ left1
      · obtain ⟨left2, hgl1⟩ : ∃ left2 : Int, (left1 : Int) - t1.wt = left2 := ⟨_, rfl⟩
        have hln1 : 0 ≤ left2 := by omega
        by_cases hw2 : (t2.wt : Int) ≤ left2
        · obtain ⟨left3, hgl2⟩ : ∃ left3 : Int, (left2 : Int) - t2.wt = left3 := ⟨_, rfl⟩
          have hln2 : 0 ≤ left3 := by omega
          by_cases hw3 : (t3.wt : Int) ≤ left3
          · obtain ⟨left4, hgl3⟩ : ∃ left4 : Int, (left3 : Int) - t3.wt = left4 := ⟨_, rfl⟩
            have hln3 : 0 ≤ left4 := by omega
            have hto0 := hide (fun a cap v hv => tp_calls t0 op0 n0 s0 a len0 cap v hv (by omega))
            have hto1 := hide (fun a cap v hv => tp_calls t1 op1 n1 s1 a len1 cap v hv (by omega))
            have hto2 := hide (fun a cap v hv => tp_calls t2 op2 n2 s2 a len2 cap v hv (by omega))
            have hto3 := hide (fun a cap v hv => tp_calls t3 op3 n3 s3 a len3 cap v hv (by omega))
            obtain ⟨R, hS, hI⟩ := proved_both t0 t1 t2 t3 hs m (by omega) (by omega) (by omega)
            have hBB : (R != R) = false := by simp
            clear hZ0 hZ1 hZ2 hZ3
            go_enter Tryz.func3, Tryz.ntmps3
            go_wp2_with fail
            generalize hgw : ((((w.alloc (.cells #[.int .i64 op0, .int .i64 n0, .string s0, .slice a0 len0 cap0] 24)).alloc (.cells #[.int .i64 op1, .int .i64 n1, .string s1, .slice a1 len1 cap1] 24)).alloc (.cells #[.int .i64 op2, .int .i64 n2, .string s2, .slice a2 len2 cap2] 24)).alloc (.cells #[.int .i64 op3, .int .i64 n3, .string s3, .slice a3 len3 cap3] 24)) = W1 at *
            clear hgw
            refine (unhide hsz0 op0 n0 s0 a0 len0 cap0 _ _ (unhide HL0) (by omega) (by omega)).mono ?_
            rintro e v0 ⟨rfl, hb⟩
            rw [szv_yes hw0, hgl0]
            have hv0 : Hid (Below W1.heap.size W1 v0) := hb
            clear hb
            obtain ⟨c0, c1, c2, c3⟩ := ((unhide HA1).below (unhide hv0)).facts
            go_wp2_with fail
            clear c0 c1 c2 c3
            refine (unhide hsz1 op1 n1 s1 a1 len1 cap1 _ _ ((unhide HL1).below (unhide hv0)) (by omega) (by omega)).mono ?_
            rintro e v1 ⟨rfl, hb⟩
            rw [szv_yes hw1, hgl1]
            have hv1 : Hid (Below W1.heap.size W1 v1) := bt (unhide hv0) hb (Nat.le_refl _)
            clear hb
            obtain ⟨c0, c1, c2, c3⟩ := ((unhide HA2).below (unhide hv1)).facts
            go_wp2_with fail
            clear c0 c1 c2 c3
            refine (unhide hsz2 op2 n2 s2 a2 len2 cap2 _ _ ((unhide HL2).below (unhide hv1)) (by omega) (by omega)).mono ?_
            rintro e v2 ⟨rfl, hb⟩
            rw [szv_yes hw2, hgl2]
            have hv2 : Hid (Below W1.heap.size W1 v2) := bt (unhide hv1) hb (Nat.le_refl _)
            clear hb
            obtain ⟨c0, c1, c2, c3⟩ := ((unhide HA3).below (unhide hv2)).facts
            go_wp2_with fail
            clear c0 c1 c2 c3
            refine (unhide hsz3 op3 n3 s3 a3 len3 cap3 _ _ ((unhide HL3).below (unhide hv2)) (by omega) (by omega)).mono ?_
            rintro e v3 ⟨rfl, hb⟩
            rw [szv_yes hw3, hgl3]
            have hv3 : Hid (Below W1.heap.size W1 v3) := bt (unhide hv2) hb (Nat.le_refl _)
            clear hb
            have HB1 := hide (bt (unhide HB0) (unhide hv3) (Nat.le_refl _))
            have HA0 := hide ((unhide HA0).below (unhide hv3))
            have HL0 := hide ((unhide HL0).below (unhide hv3))
            have HA1 := hide ((unhide HA1).below (unhide hv3))
            have HL1 := hide ((unhide HL1).below (unhide hv3))
            have HA2 := hide ((unhide HA2).below (unhide hv3))
            have HL2 := hide ((unhide HL2).below (unhide hv3))
            have HA3 := hide ((unhide HA3).below (unhide hv3))
            have HL3 := hide ((unhide HL3).below (unhide hv3))
            have HER := hide ((unhide HER).on (unhide hv3))
            have HTB := hide ((unhide HTB).on (unhide hv3))
            have HVR := hide ((unhide HVR).on (unhide hv3))
            clear hv0 hv1 hv2 hv3 hw0 hgl0 hsz0 hw1 hgl1 hsz1 hw2 hgl2 hsz2 hw3 hgl3 hsz3 HB0
            go_wp2_with fail
            obtain ⟨c00, c01, c02, c03⟩ := (unhide HA0).facts
            obtain ⟨c10, c11, c12, c13⟩ := (unhide HA1).facts
            obtain ⟨c20, c21, c22, c23⟩ := (unhide HA2).facts
            obtain ⟨c30, c31, c32, c33⟩ := (unhide HA3).facts
            go_cut [14] (fun p wx => p = .bool R ∧ Below v3.heap.size v3 wx)
            case first =>
              go_region_held3 (fun x => x.cell? ⟨w.heap.size, 0, none⟩ = some (.int .i64 op0) ∧ x.cell? ⟨w.heap.size, 1, none⟩ = some (.int .i64 n0) ∧ x.cell? ⟨w.heap.size, 2, none⟩ = some (.string s0) ∧ x.cell? ⟨w.heap.size, 3, none⟩ = some (.slice a0 len0 cap0) ∧ x.cell? ⟨w.heap.size + 1, 0, none⟩ = some (.int .i64 op1) ∧ x.cell? ⟨w.heap.size + 1, 1, none⟩ = some (.int .i64 n1) ∧ x.cell? ⟨w.heap.size + 1, 2, none⟩ = some (.string s1) ∧ x.cell? ⟨w.heap.size + 1, 3, none⟩ = some (.slice a1 len1 cap1) ∧ x.cell? ⟨w.heap.size + 1 + 1, 0, none⟩ = some (.int .i64 op2) ∧ x.cell? ⟨w.heap.size + 1 + 1, 1, none⟩ = some (.int .i64 n2) ∧ x.cell? ⟨w.heap.size + 1 + 1, 2, none⟩ = some (.string s2) ∧ x.cell? ⟨w.heap.size + 1 + 1, 3, none⟩ = some (.slice a2 len2 cap2) ∧ x.cell? ⟨w.heap.size + 1 + 1 + 1, 0, none⟩ = some (.int .i64 op3) ∧ x.cell? ⟨w.heap.size + 1 + 1 + 1, 1, none⟩ = some (.int .i64 n3) ∧ x.cell? ⟨w.heap.size + 1 + 1 + 1, 2, none⟩ = some (.string s3) ∧ x.cell? ⟨w.heap.size + 1 + 1 + 1, 3, none⟩ = some (.slice a3 len3 cap3)) (go_keep)
                (first
                  | (go_at_call_of 11 op0
                     have hc := fun V (hV : Below v3.heap.size v3 V) => unhide hto0 a0 cap0 V ((unhide HL0).below hV)
                     refine (hc _ ?_).mono ?_
                     first
                       | exact (Below.refl _ _).drew
                       | exact Below.refl _ _
                     rintro e y0 ⟨b0, f0, rfl, hO, _, hb⟩
                     have hp0 : Hid (Below v3.heap.size v3 y0) := by
                       first
                         | exact below_drew' hb
                         | exact hb
                     have h00 := hp0
                     have HT0 := hide hO.lies0
                     clear c00 c01 c02 c03 c10 c11 c12 c13 c20 c21 c22 c23 c30 c31 c32 c33 hb hO hc
                     obtain ⟨c00, c01, c02, c03⟩ := ((unhide HA0).below (unhide h00)).facts
                     obtain ⟨c10, c11, c12, c13⟩ := ((unhide HA1).below (unhide h00)).facts
                     obtain ⟨c20, c21, c22, c23⟩ := ((unhide HA2).below (unhide h00)).facts
                     obtain ⟨c30, c31, c32, c33⟩ := ((unhide HA3).below (unhide h00)).facts)
                  | (go_at_call_of 11 op1
                     have hc := fun V (hV : Below y0.heap.size y0 V) => unhide hto1 a1 cap1 V ((unhide HL1).below (bt (unhide h00) hV (Nat.le_refl _)))
                     refine (hc _ ?_).mono ?_
                     first
                       | exact Below.refl _ _
                     rintro e y1 ⟨b1, f1, rfl, hO, _, hb⟩
                     have hp1 : Hid (Below y0.heap.size y0 y1) := by
                       first
                         | exact below_drew' hb
                         | exact hb
                     have h01 := hide (bt (unhide h00) (unhide hp1) (Nat.le_refl _))
                     have HT1 := hide hO.lies0
                     have HT0 := hide ((unhide HT0).below (unhide hp1))
                     clear c00 c01 c02 c03 c10 c11 c12 c13 c20 c21 c22 c23 c30 c31 c32 c33 hb hO hc
                     obtain ⟨c00, c01, c02, c03⟩ := ((unhide HA0).below (unhide h01)).facts
                     obtain ⟨c10, c11, c12, c13⟩ := ((unhide HA1).below (unhide h01)).facts
                     obtain ⟨c20, c21, c22, c23⟩ := ((unhide HA2).below (unhide h01)).facts
                     obtain ⟨c30, c31, c32, c33⟩ := ((unhide HA3).below (unhide h01)).facts)
                  | (go_at_call_of 11 op2
                     have hc := fun V (hV : Below y1.heap.size y1 V) => unhide hto2 a2 cap2 V ((unhide HL2).below (bt (unhide h01) hV (Nat.le_refl _)))
                     refine (hc _ ?_).mono ?_
                     first
                       | exact Below.refl _ _
                     rintro e y2 ⟨b2, f2, rfl, hO, _, hb⟩
                     have hp2 : Hid (Below y1.heap.size y1 y2) := by
                       first
                         | exact below_drew' hb
                         | exact hb
                     have h02 := hide (bt (unhide h01) (unhide hp2) (Nat.le_refl _))
                     have HT2 := hide hO.lies0
                     have HT0 := hide ((unhide HT0).below (unhide hp2))
                     have HT1 := hide ((unhide HT1).below (unhide hp2))
                     clear c00 c01 c02 c03 c10 c11 c12 c13 c20 c21 c22 c23 c30 c31 c32 c33 hb hO hc
                     obtain ⟨c00, c01, c02, c03⟩ := ((unhide HA0).below (unhide h02)).facts
                     obtain ⟨c10, c11, c12, c13⟩ := ((unhide HA1).below (unhide h02)).facts
                     obtain ⟨c20, c21, c22, c23⟩ := ((unhide HA2).below (unhide h02)).facts
                     obtain ⟨c30, c31, c32, c33⟩ := ((unhide HA3).below (unhide h02)).facts)
                  | (go_at_call_of 11 op3
                     have hc := fun V (hV : Below y2.heap.size y2 V) => unhide hto3 a3 cap3 V ((unhide HL3).below (bt (unhide h02) hV (Nat.le_refl _)))
                     refine (hc _ ?_).mono ?_
                     first
                       | exact Below.refl _ _
                     rintro e y3 ⟨b3, f3, rfl, hO, _, hb⟩
                     have hp3 : Hid (Below y2.heap.size y2 y3) := by
                       first
                         | exact below_drew' hb
                         | exact hb
                     have h03 := hide (bt (unhide h02) (unhide hp3) (Nat.le_refl _))
                     have HT3 := hide hO.lies0
                     have HT0 := hide ((unhide HT0).below (unhide hp3))
                     have HT1 := hide ((unhide HT1).below (unhide hp3))
                     have HT2 := hide ((unhide HT2).below (unhide hp3))
                     clear c00 c01 c02 c03 c10 c11 c12 c13 c20 c21 c22 c23 c30 c31 c32 c33 hb hO hc
                     obtain ⟨c00, c01, c02, c03⟩ := ((unhide HA0).below (unhide h03)).facts
                     obtain ⟨c10, c11, c12, c13⟩ := ((unhide HA1).below (unhide h03)).facts
                     obtain ⟨c20, c21, c22, c23⟩ := ((unhide HA2).below (unhide h03)).facts
                     obtain ⟨c30, c31, c32, c33⟩ := ((unhide HA3).below (unhide h03)).facts)
                  | (go_at_call 10
                     refine (unhide hS op0 n0 s0 b0 len0 len0 op1 n1 s1 b1 len1 len1 op2 n2 s2 b2 len2 len2 op3 n3 s3 b3 len3 len3 _ (unhide HT0) (unhide HT1) (unhide HT2) (unhide HT3)).mono ?_
                     rintro e y9 ⟨rfl, hb⟩
                     have h09 := hide (bt (unhide h03) hb (Nat.le_refl _))
                     clear c00 c01 c02 c03 c10 c11 c12 c13 c20 c21 c22 c23 c30 c31 c32 c33 hb
                     obtain ⟨c00, c01, c02, c03⟩ := ((unhide HA0).below (unhide h09)).facts
                     obtain ⟨c10, c11, c12, c13⟩ := ((unhide HA1).below (unhide h09)).facts
                     obtain ⟨c20, c21, c22, c23⟩ := ((unhide HA2).below (unhide h09)).facts
                     obtain ⟨c30, c31, c32, c33⟩ := ((unhide HA3).below (unhide h09)).facts))
              all_goals
                go_wp2_with fail
                go_meet
                exact ⟨rfl, unhide h09⟩
            case rest =>
              obtain ⟨rfl, hbc⟩ := hcut
              have HVB := hide (bt (unhide HB1) hbc (Nat.le_refl _))
              have HA0 := hide ((unhide HA0).below hbc)
              have HL0 := hide ((unhide HL0).below hbc)
              have HA1 := hide ((unhide HA1).below hbc)
              have HL1 := hide ((unhide HL1).below hbc)
              have HA2 := hide ((unhide HA2).below hbc)
              have HL2 := hide ((unhide HL2).below hbc)
              have HA3 := hide ((unhide HA3).below hbc)
              have HL3 := hide ((unhide HL3).below hbc)
              have HER := hide ((unhide HER).on hbc)
              have HTB := hide ((unhide HTB).on hbc)
              have HVR := hide ((unhide HVR).on hbc)
              clear hbc HB1 c00 c01 c02 c03 c10 c11 c12 c13 c20 c21 c22 c23 c30 c31 c32 c33
              have hV0 := hide (Below.refl wc.heap.size wc)
              obtain ⟨c0, c1, c2, c3⟩ := ((unhide HA0).below (unhide hV0)).facts
              go_wp2_with fail
              clear c0 c1 c2 c3
              refine (unhide hto0 a0 cap0 _ ((unhide HL0).below (unhide hV0))).mono ?_
              rintro e z0 ⟨b0, f0, rfl, hO, _, hb⟩
              have hp := bt hb (ab (.cells #[.int .i64 op0, .int .i64 n0, .string s0, .slice b0 len0 len0] 29)) (Nat.le_refl _)
              have hX0 := hide (bt (unhide hV0) hp (Nat.le_refl _))
              have HX0 := hide (RowT.new 29 z0 op0 n0 s0 b0 len0 len0)
              have HO0 := hide (hO.lies0.below (ab (.cells #[.int .i64 op0, .int .i64 n0, .string s0, .slice b0 len0 len0] 29)))
              clear hb hp hO hV0
              obtain ⟨c0, c1, c2, c3⟩ := ((unhide HA1).below (unhide hX0)).facts
              go_wp2_with fail
              clear c0 c1 c2 c3
              generalize hgw : z0.alloc (.cells #[.int .i64 op0, .int .i64 n0, .string s0, .slice b0 len0 len0] 29) = Z0 at *
              clear hgw
              generalize z0.heap.size = bX0 at *
              refine (unhide hto1 a1 cap1 _ ((unhide HL1).below (unhide hX0))).mono ?_
              rintro e z1 ⟨b1, f1, rfl, hO, _, hb⟩
              have hp := bt hb (ab (.cells #[.int .i64 op1, .int .i64 n1, .string s1, .slice b1 len1 len1] 29)) (Nat.le_refl _)
              have hX1 := hide (bt (unhide hX0) hp (Nat.le_refl _))
              have HX0 := hide ((unhide HX0).below hp)
              have HO0 := hide ((unhide HO0).below hp)
              have HX1 := hide (RowT.new 29 z1 op1 n1 s1 b1 len1 len1)
              have HO1 := hide (hO.lies0.below (ab (.cells #[.int .i64 op1, .int .i64 n1, .string s1, .slice b1 len1 len1] 29)))
              clear hb hp hO hX0
              obtain ⟨c0, c1, c2, c3⟩ := ((unhide HA2).below (unhide hX1)).facts
              go_wp2_with fail
              clear c0 c1 c2 c3
              generalize hgw : z1.alloc (.cells #[.int .i64 op1, .int .i64 n1, .string s1, .slice b1 len1 len1] 29) = Z1 at *
              clear hgw
              generalize z1.heap.size = bX1 at *
              refine (unhide hto2 a2 cap2 _ ((unhide HL2).below (unhide hX1))).mono ?_
              rintro e z2 ⟨b2, f2, rfl, hO, _, hb⟩
              have hp := bt hb (ab (.cells #[.int .i64 op2, .int .i64 n2, .string s2, .slice b2 len2 len2] 29)) (Nat.le_refl _)
              have hX2 := hide (bt (unhide hX1) hp (Nat.le_refl _))
              have HX0 := hide ((unhide HX0).below hp)
              have HO0 := hide ((unhide HO0).below hp)
              have HX1 := hide ((unhide HX1).below hp)
              have HO1 := hide ((unhide HO1).below hp)
              have HX2 := hide (RowT.new 29 z2 op2 n2 s2 b2 len2 len2)
              have HO2 := hide (hO.lies0.below (ab (.cells #[.int .i64 op2, .int .i64 n2, .string s2, .slice b2 len2 len2] 29)))
              clear hb hp hO hX1
              obtain ⟨c0, c1, c2, c3⟩ := ((unhide HA3).below (unhide hX2)).facts
              go_wp2_with fail
              clear c0 c1 c2 c3
              generalize hgw : z2.alloc (.cells #[.int .i64 op2, .int .i64 n2, .string s2, .slice b2 len2 len2] 29) = Z2 at *
              clear hgw
              generalize z2.heap.size = bX2 at *
              refine (unhide hto3 a3 cap3 _ ((unhide HL3).below (unhide hX2))).mono ?_
              rintro e z3 ⟨b3, f3, rfl, hO, _, hb⟩
              have hp := bt hb (ab (.cells #[.int .i64 op3, .int .i64 n3, .string s3, .slice b3 len3 len3] 29)) (Nat.le_refl _)
              have hX3 := hide (bt (unhide hX2) hp (Nat.le_refl _))
              have HX0 := hide ((unhide HX0).below hp)
              have HO0 := hide ((unhide HO0).below hp)
              have HX1 := hide ((unhide HX1).below hp)
              have HO1 := hide ((unhide HO1).below hp)
              have HX2 := hide ((unhide HX2).below hp)
              have HO2 := hide ((unhide HO2).below hp)
              have HX3 := hide (RowT.new 29 z3 op3 n3 s3 b3 len3 len3)
              have HO3 := hide (hO.lies0.below (ab (.cells #[.int .i64 op3, .int .i64 n3, .string s3, .slice b3 len3 len3] 29)))
              clear hb hp hO hX2
              obtain ⟨d00, d01, d02, d03⟩ := (unhide HX0).facts
              obtain ⟨d10, d11, d12, d13⟩ := (unhide HX1).facts
              obtain ⟨d20, d21, d22, d23⟩ := (unhide HX2).facts
              obtain ⟨d30, d31, d32, d33⟩ := (unhide HX3).facts
              go_wp2_with fail
              generalize hgw : z3.alloc (.cells #[.int .i64 op3, .int .i64 n3, .string s3, .slice b3 len3 len3] 29) = Z3 at *
              clear hgw
              generalize z3.heap.size = bX3 at *
              clear d00 d01 d02 d03 d10 d11 d12 d13 d20 d21 d22 d23 d30 d31 d32 d33
              refine (unhide hI op0 n0 s0 b0 len0 len0 op1 n1 s1 b1 len1 len1 op2 n2 s2 b2 len2 len2 op3 n3 s3 b3 len3 len3 x _ ((unhide HER).on (unhide hX3)) ((unhide HVR).on (unhide hX3)) ((unhide HTB).on (unhide hX3)) (unhide HO0) (unhide HO1) (unhide HO2) (unhide HO3)).mono ?_
              rintro e YG ⟨rfl, hb⟩
              have hVG := hide (bt (unhide hX3) hb (Nat.le_refl _))
              have HX0 := hide ((unhide HX0).below hb)
              have HO0 := hide ((unhide HO0).below hb)
              have HX1 := hide ((unhide HX1).below hb)
              have HO1 := hide ((unhide HO1).below hb)
              have HX2 := hide ((unhide HX2).below hb)
              have HO2 := hide ((unhide HO2).below hb)
              have HX3 := hide ((unhide HX3).below hb)
              have HO3 := hide ((unhide HO3).below hb)
              clear hb hX3
              have hY := hide (Below.refl YG.heap.size YG)
              have hYV := hide (bt (unhide hVG) (unhide hY) (Nat.le_refl _))
              obtain ⟨c0, c1, c2, c3⟩ := ((unhide HX0).below (unhide hY)).facts
              obtain ⟨d0, d1, d2, d3⟩ := ((unhide HA0).below (unhide hYV)).facts
              go_wp2_with fail
              go_region_held3 (fun x => x.cell? ⟨bX0, 0, none⟩ = some (.int .i64 op0) ∧ x.cell? ⟨bX0, 1, none⟩ = some (.int .i64 n0) ∧ x.cell? ⟨bX0, 2, none⟩ = some (.string s0) ∧ x.cell? ⟨bX0, 3, none⟩ = some (.slice b0 len0 len0) ∧ x.cell? ⟨w.heap.size, 0, none⟩ = some (.int .i64 op0) ∧ x.cell? ⟨w.heap.size, 1, none⟩ = some (.int .i64 n0) ∧ x.cell? ⟨w.heap.size, 2, none⟩ = some (.string s0) ∧ x.cell? ⟨w.heap.size, 3, none⟩ = some (.slice a0 len0 cap0)) (go_keep)
                (first
                  | (go_at_call 11
                     refine (unhide hto0 a0 cap0 _ ((unhide HL0).below (unhide hYV).drew)).mono ?_
                     rintro e w7 ⟨a7, f7, rfl, hO7, _, hb7⟩
                     have hb7' := hide (below_drew' hb7)
                     have HO7 := hide hO7.lies0
                     have HX7 := hide (((unhide HO0).below (unhide hY).drew).below hb7)
                     have e0 := kpc (unhide hb7') c0
                     have e1 := kpc (unhide hb7') c1
                     have e2 := kpc (unhide hb7') c2
                     have e3 := kpc (unhide hb7') c3
                     have g0 := kpc (unhide hb7') d0
                     have g1 := kpc (unhide hb7') d1
                     have g2 := kpc (unhide hb7') d2
                     have g3 := kpc (unhide hb7') d3)
                  | (go_at_call 13
                     refine (unhide heq t0 op0 n0 s0 b0 len0 len0 op0 n0 s0 a7 len0 len0 _ (unhide HX7) (unhide HO7)).mono ?_
                     rintro e w8 ⟨rfl, hb8⟩
                     have i0 := kpc hb8 e0
                     have i1 := kpc hb8 e1
                     have i2 := kpc hb8 e2
                     have i3 := kpc hb8 e3
                     have j0 := kpc hb8 g0
                     have j1 := kpc hb8 g1
                     have j2 := kpc hb8 g2
                     have j3 := kpc hb8 g3
                     have hb8' := hide hb8))
              have hY := hide (bt (bt (unhide hY) (unhide hb7') (Nat.le_refl _)) (unhide hb8') (Nat.le_refl _))
              clear c0 c1 c2 c3 d0 d1 d2 d3 e0 e1 e2 e3 g0 g1 g2 g3 i0 i1 i2 i3 j0 j1 j2 j3 hb7' hb8' HO7 HX7 hYV
              have hYV := hide (bt (unhide hVG) (unhide hY) (Nat.le_refl _))
              obtain ⟨c0, c1, c2, c3⟩ := ((unhide HX1).below (unhide hY)).facts
              obtain ⟨d0, d1, d2, d3⟩ := ((unhide HA1).below (unhide hYV)).facts
              go_wp2_with fail
              go_region_held3 (fun x => x.cell? ⟨bX1, 0, none⟩ = some (.int .i64 op1) ∧ x.cell? ⟨bX1, 1, none⟩ = some (.int .i64 n1) ∧ x.cell? ⟨bX1, 2, none⟩ = some (.string s1) ∧ x.cell? ⟨bX1, 3, none⟩ = some (.slice b1 len1 len1) ∧ x.cell? ⟨w.heap.size + 1, 0, none⟩ = some (.int .i64 op1) ∧ x.cell? ⟨w.heap.size + 1, 1, none⟩ = some (.int .i64 n1) ∧ x.cell? ⟨w.heap.size + 1, 2, none⟩ = some (.string s1) ∧ x.cell? ⟨w.heap.size + 1, 3, none⟩ = some (.slice a1 len1 cap1)) (go_keep)
                (first
                  | (go_at_call 11
                     refine (unhide hto1 a1 cap1 _ ((unhide HL1).below (unhide hYV).drew)).mono ?_
                     rintro e w7 ⟨a7, f7, rfl, hO7, _, hb7⟩
                     have hb7' := hide (below_drew' hb7)
                     have HO7 := hide hO7.lies0
                     have HX7 := hide (((unhide HO1).below (unhide hY).drew).below hb7)
                     have e0 := kpc (unhide hb7') c0
                     have e1 := kpc (unhide hb7') c1
                     have e2 := kpc (unhide hb7') c2
                     have e3 := kpc (unhide hb7') c3
                     have g0 := kpc (unhide hb7') d0
                     have g1 := kpc (unhide hb7') d1
                     have g2 := kpc (unhide hb7') d2
                     have g3 := kpc (unhide hb7') d3)
                  | (go_at_call 13
                     refine (unhide heq t1 op1 n1 s1 b1 len1 len1 op1 n1 s1 a7 len1 len1 _ (unhide HX7) (unhide HO7)).mono ?_
                     rintro e w8 ⟨rfl, hb8⟩
                     have i0 := kpc hb8 e0
                     have i1 := kpc hb8 e1
                     have i2 := kpc hb8 e2
                     have i3 := kpc hb8 e3
                     have j0 := kpc hb8 g0
                     have j1 := kpc hb8 g1
                     have j2 := kpc hb8 g2
                     have j3 := kpc hb8 g3
                     have hb8' := hide hb8))
              have hY := hide (bt (bt (unhide hY) (unhide hb7') (Nat.le_refl _)) (unhide hb8') (Nat.le_refl _))
              clear c0 c1 c2 c3 d0 d1 d2 d3 e0 e1 e2 e3 g0 g1 g2 g3 i0 i1 i2 i3 j0 j1 j2 j3 hb7' hb8' HO7 HX7 hYV
              have hYV := hide (bt (unhide hVG) (unhide hY) (Nat.le_refl _))
              obtain ⟨c0, c1, c2, c3⟩ := ((unhide HX2).below (unhide hY)).facts
              obtain ⟨d0, d1, d2, d3⟩ := ((unhide HA2).below (unhide hYV)).facts
              go_wp2_with fail
              go_region_held3 (fun x => x.cell? ⟨bX2, 0, none⟩ = some (.int .i64 op2) ∧ x.cell? ⟨bX2, 1, none⟩ = some (.int .i64 n2) ∧ x.cell? ⟨bX2, 2, none⟩ = some (.string s2) ∧ x.cell? ⟨bX2, 3, none⟩ = some (.slice b2 len2 len2) ∧ x.cell? ⟨w.heap.size + 1 + 1, 0, none⟩ = some (.int .i64 op2) ∧ x.cell? ⟨w.heap.size + 1 + 1, 1, none⟩ = some (.int .i64 n2) ∧ x.cell? ⟨w.heap.size + 1 + 1, 2, none⟩ = some (.string s2) ∧ x.cell? ⟨w.heap.size + 1 + 1, 3, none⟩ = some (.slice a2 len2 cap2)) (go_keep)
                (first
                  | (go_at_call 11
                     refine (unhide hto2 a2 cap2 _ ((unhide HL2).below (unhide hYV).drew)).mono ?_
                     rintro e w7 ⟨a7, f7, rfl, hO7, _, hb7⟩
                     have hb7' := hide (below_drew' hb7)
                     have HO7 := hide hO7.lies0
                     have HX7 := hide (((unhide HO2).below (unhide hY).drew).below hb7)
                     have e0 := kpc (unhide hb7') c0
                     have e1 := kpc (unhide hb7') c1
                     have e2 := kpc (unhide hb7') c2
                     have e3 := kpc (unhide hb7') c3
                     have g0 := kpc (unhide hb7') d0
                     have g1 := kpc (unhide hb7') d1
                     have g2 := kpc (unhide hb7') d2
                     have g3 := kpc (unhide hb7') d3)
                  | (go_at_call 13
                     refine (unhide heq t2 op2 n2 s2 b2 len2 len2 op2 n2 s2 a7 len2 len2 _ (unhide HX7) (unhide HO7)).mono ?_
                     rintro e w8 ⟨rfl, hb8⟩
                     have i0 := kpc hb8 e0
                     have i1 := kpc hb8 e1
                     have i2 := kpc hb8 e2
                     have i3 := kpc hb8 e3
                     have j0 := kpc hb8 g0
                     have j1 := kpc hb8 g1
                     have j2 := kpc hb8 g2
                     have j3 := kpc hb8 g3
                     have hb8' := hide hb8))
              have hY := hide (bt (bt (unhide hY) (unhide hb7') (Nat.le_refl _)) (unhide hb8') (Nat.le_refl _))
              clear c0 c1 c2 c3 d0 d1 d2 d3 e0 e1 e2 e3 g0 g1 g2 g3 i0 i1 i2 i3 j0 j1 j2 j3 hb7' hb8' HO7 HX7 hYV
              have hYV := hide (bt (unhide hVG) (unhide hY) (Nat.le_refl _))
              obtain ⟨c0, c1, c2, c3⟩ := ((unhide HX3).below (unhide hY)).facts
              obtain ⟨d0, d1, d2, d3⟩ := ((unhide HA3).below (unhide hYV)).facts
              go_wp2_with fail
              go_region_held3 (fun x => x.cell? ⟨bX3, 0, none⟩ = some (.int .i64 op3) ∧ x.cell? ⟨bX3, 1, none⟩ = some (.int .i64 n3) ∧ x.cell? ⟨bX3, 2, none⟩ = some (.string s3) ∧ x.cell? ⟨bX3, 3, none⟩ = some (.slice b3 len3 len3) ∧ x.cell? ⟨w.heap.size + 1 + 1 + 1, 0, none⟩ = some (.int .i64 op3) ∧ x.cell? ⟨w.heap.size + 1 + 1 + 1, 1, none⟩ = some (.int .i64 n3) ∧ x.cell? ⟨w.heap.size + 1 + 1 + 1, 2, none⟩ = some (.string s3) ∧ x.cell? ⟨w.heap.size + 1 + 1 + 1, 3, none⟩ = some (.slice a3 len3 cap3)) (go_keep)
                (first
                  | (go_at_call 11
                     refine (unhide hto3 a3 cap3 _ ((unhide HL3).below (unhide hYV).drew)).mono ?_
                     rintro e w7 ⟨a7, f7, rfl, hO7, _, hb7⟩
                     have hb7' := hide (below_drew' hb7)
                     have HO7 := hide hO7.lies0
                     have HX7 := hide (((unhide HO3).below (unhide hY).drew).below hb7)
                     have e0 := kpc (unhide hb7') c0
                     have e1 := kpc (unhide hb7') c1
                     have e2 := kpc (unhide hb7') c2
                     have e3 := kpc (unhide hb7') c3
                     have g0 := kpc (unhide hb7') d0
                     have g1 := kpc (unhide hb7') d1
                     have g2 := kpc (unhide hb7') d2
                     have g3 := kpc (unhide hb7') d3)
                  | (go_at_call 13
                     refine (unhide heq t3 op3 n3 s3 b3 len3 len3 op3 n3 s3 a7 len3 len3 _ (unhide HX7) (unhide HO7)).mono ?_
                     rintro e w8 ⟨rfl, hb8⟩
                     have i0 := kpc hb8 e0
                     have i1 := kpc hb8 e1
                     have i2 := kpc hb8 e2
                     have i3 := kpc hb8 e3
                     have j0 := kpc hb8 g0
                     have j1 := kpc hb8 g1
                     have j2 := kpc hb8 g2
                     have j3 := kpc hb8 g3
                     have hb8' := hide hb8))
              have hY := hide (bt (bt (unhide hY) (unhide hb7') (Nat.le_refl _)) (unhide hb8') (Nat.le_refl _))
              clear c0 c1 c2 c3 d0 d1 d2 d3 e0 e1 e2 e3 g0 g1 g2 g3 i0 i1 i2 i3 j0 j1 j2 j3 hb7' hb8' HO7 HX7 hYV
              have hV := hide (bt (unhide HVB) (bt (unhide hVG) (unhide hY) (Nat.le_refl _)) (Nat.le_refl _))
              clear hY hVG
              go_wp2_with fail
              go_ret
              exact ⟨rfl, unhide hV⟩
          · go_enter Tryz.func3, Tryz.ntmps3
            go_wp2_with fail
            generalize hgw : ((((w.alloc (.cells #[.int .i64 op0, .int .i64 n0, .string s0, .slice a0 len0 cap0] 24)).alloc (.cells #[.int .i64 op1, .int .i64 n1, .string s1, .slice a1 len1 cap1] 24)).alloc (.cells #[.int .i64 op2, .int .i64 n2, .string s2, .slice a2 len2 cap2] 24)).alloc (.cells #[.int .i64 op3, .int .i64 n3, .string s3, .slice a3 len3 cap3] 24)) = W1 at *
            clear hgw
            refine (unhide hsz0 op0 n0 s0 a0 len0 cap0 _ _ (unhide HL0) (by omega) (by omega)).mono ?_
            rintro e v0 ⟨rfl, hb⟩
            rw [szv_yes hw0, hgl0]
            have hv0 : Hid (Below W1.heap.size W1 v0) := hb
            clear hb
            obtain ⟨c0, c1, c2, c3⟩ := ((unhide HA1).below (unhide hv0)).facts
            go_wp2_with fail
            clear c0 c1 c2 c3
            refine (unhide hsz1 op1 n1 s1 a1 len1 cap1 _ _ ((unhide HL1).below (unhide hv0)) (by omega) (by omega)).mono ?_
            rintro e v1 ⟨rfl, hb⟩
            rw [szv_yes hw1, hgl1]
            have hv1 : Hid (Below W1.heap.size W1 v1) := bt (unhide hv0) hb (Nat.le_refl _)
            clear hb
            obtain ⟨c0, c1, c2, c3⟩ := ((unhide HA2).below (unhide hv1)).facts
            go_wp2_with fail
            clear c0 c1 c2 c3
            refine (unhide hsz2 op2 n2 s2 a2 len2 cap2 _ _ ((unhide HL2).below (unhide hv1)) (by omega) (by omega)).mono ?_
            rintro e v2 ⟨rfl, hb⟩
            rw [szv_yes hw2, hgl2]
            have hv2 : Hid (Below W1.heap.size W1 v2) := bt (unhide hv1) hb (Nat.le_refl _)
            clear hb
            obtain ⟨c0, c1, c2, c3⟩ := ((unhide HA3).below (unhide hv2)).facts
            go_wp2_with fail
            clear c0 c1 c2 c3
            refine (unhide hsz3 op3 n3 s3 a3 len3 cap3 _ _ ((unhide HL3).below (unhide hv2)) (by omega) (by omega)).mono ?_
            rintro e v3 ⟨rfl, hb⟩
            rw [szv_no (by omega)]
            go_wp2_with fail
            go_ret
            exact ⟨rfl, bt (unhide HB0) (bt (unhide hv2) hb (Nat.le_refl _)) (Nat.le_refl _)⟩
        · go_enter Tryz.func3, Tryz.ntmps3
          go_wp2_with fail
          generalize hgw : ((((w.alloc (.cells #[.int .i64 op0, .int .i64 n0, .string s0, .slice a0 len0 cap0] 24)).alloc (.cells #[.int .i64 op1, .int .i64 n1, .string s1, .slice a1 len1 cap1] 24)).alloc (.cells #[.int .i64 op2, .int .i64 n2, .string s2, .slice a2 len2 cap2] 24)).alloc (.cells #[.int .i64 op3, .int .i64 n3, .string s3, .slice a3 len3 cap3] 24)) = W1 at *
          clear hgw
          refine (unhide hsz0 op0 n0 s0 a0 len0 cap0 _ _ (unhide HL0) (by omega) (by omega)).mono ?_
          rintro e v0 ⟨rfl, hb⟩
          rw [szv_yes hw0, hgl0]
          have hv0 : Hid (Below W1.heap.size W1 v0) := hb
          clear hb
          obtain ⟨c0, c1, c2, c3⟩ := ((unhide HA1).below (unhide hv0)).facts
          go_wp2_with fail
          clear c0 c1 c2 c3
          refine (unhide hsz1 op1 n1 s1 a1 len1 cap1 _ _ ((unhide HL1).below (unhide hv0)) (by omega) (by omega)).mono ?_
          rintro e v1 ⟨rfl, hb⟩
          rw [szv_yes hw1, hgl1]
          have hv1 : Hid (Below W1.heap.size W1 v1) := bt (unhide hv0) hb (Nat.le_refl _)
          clear hb
          obtain ⟨c0, c1, c2, c3⟩ := ((unhide HA2).below (unhide hv1)).facts
          go_wp2_with fail
          clear c0 c1 c2 c3
          refine (unhide hsz2 op2 n2 s2 a2 len2 cap2 _ _ ((unhide HL2).below (unhide hv1)) (by omega) (by omega)).mono ?_
          rintro e v2 ⟨rfl, hb⟩
          rw [szv_no (by omega)]
          go_wp2_with fail
          go_ret
          exact ⟨rfl, bt (unhide HB0) (bt (unhide hv1) hb (Nat.le_refl _)) (Nat.le_refl _)⟩
      · go_enter Tryz.func3, Tryz.ntmps3
        go_wp2_with fail
        generalize hgw : ((((w.alloc (.cells #[.int .i64 op0, .int .i64 n0, .string s0, .slice a0 len0 cap0] 24)).alloc (.cells #[.int .i64 op1, .int .i64 n1, .string s1, .slice a1 len1 cap1] 24)).alloc (.cells #[.int .i64 op2, .int .i64 n2, .string s2, .slice a2 len2 cap2] 24)).alloc (.cells #[.int .i64 op3, .int .i64 n3, .string s3, .slice a3 len3 cap3] 24)) = W1 at *
        clear hgw
        refine (unhide hsz0 op0 n0 s0 a0 len0 cap0 _ _ (unhide HL0) (by omega) (by omega)).mono ?_
        rintro e v0 ⟨rfl, hb⟩
        rw [szv_yes hw0, hgl0]
        have hv0 : Hid (Below W1.heap.size W1 v0) := hb
        clear hb
        obtain ⟨c0, c1, c2, c3⟩ := ((unhide HA1).below (unhide hv0)).facts
        go_wp2_with fail
        clear c0 c1 c2 c3
        refine (unhide hsz1 op1 n1 s1 a1 len1 cap1 _ _ ((unhide HL1).below (unhide hv0)) (by omega) (by omega)).mono ?_
        rintro e v1 ⟨rfl, hb⟩
        rw [szv_no (by omega)]
        go_wp2_with fail
        go_ret
        exact ⟨rfl, bt (unhide HB0) (bt (unhide hv0) hb (Nat.le_refl _)) (Nat.le_refl _)⟩
    · go_enter Tryz.func3, Tryz.ntmps3
      go_wp2_with fail
      generalize hgw : ((((w.alloc (.cells #[.int .i64 op0, .int .i64 n0, .string s0, .slice a0 len0 cap0] 24)).alloc (.cells #[.int .i64 op1, .int .i64 n1, .string s1, .slice a1 len1 cap1] 24)).alloc (.cells #[.int .i64 op2, .int .i64 n2, .string s2, .slice a2 len2 cap2] 24)).alloc (.cells #[.int .i64 op3, .int .i64 n3, .string s3, .slice a3 len3 cap3] 24)) = W1 at *
      clear hgw
      refine (unhide hsz0 op0 n0 s0 a0 len0 cap0 _ _ (unhide HL0) (by omega) (by omega)).mono ?_
      rintro e v0 ⟨rfl, hb⟩
      rw [szv_no (by omega)]
      go_wp2_with fail
      go_ret
      exact ⟨rfl, bt (unhide HB0) (hb) (Nat.le_refl _)⟩
  · have hhn : (1048576 : Int) < (hs.size : Int) := by omega
    clear hh
    go_enter Tryz.func3, Tryz.ntmps3
    go_wp2_with fail
    go_ret
    exact ⟨rfl, unhide HB0⟩

theorem lawProved_all (t0 t1 t2 t3 : Tm) (hs : ByteArray) (m : Int)
    (op0 n0 : Int) (s0 : ByteArray) (a0 : Option Addr) (len0 cap0 : Nat) (op1 n1 : Int) (s1 : ByteArray) (a1 : Option Addr) (len1 cap1 : Nat) (op2 n2 : Int) (s2 : ByteArray) (a2 : Option Addr) (len2 cap2 : Nat) (op3 n3 : Int) (s3 : ByteArray) (a3 : Option Addr) (len3 cap3 : Nat) (w : World) (hl0 : Lies w 0 t0 (tmCells op0 n0 s0 a0 len0 cap0)) (hl1 : Lies w 0 t1 (tmCells op1 n1 s1 a1 len1 cap1)) (hl2 : Lies w 0 t2 (tmCells op2 n2 s2 a2 len2 cap2)) (hl3 : Lies w 0 t3 (tmCells op3 n3 s3 a3 len3 cap3)) (hvar : Var12 w) (htab : Tab w) (herr : Err w) :
    Calls Tryz.prog 3 #[.agg #[.int .i64 op0, .int .i64 n0, .string s0, .slice a0 len0 cap0], .agg #[.int .i64 op1, .int .i64 n1, .string s1, .slice a1 len1 cap1], .agg #[.int .i64 op2, .int .i64 n2, .string s2, .slice a2 len2 cap2], .agg #[.int .i64 op3, .int .i64 n3, .string s3, .slice a3 len3 cap3], .string hs, .int .i64 m] w fun e w' => e = .returned (.bool true) ∧ Below w.heap.size w w' := by
  obtain ⟨x, he⟩ := herr
  exact lawProved t0 t1 t2 t3 hs m x op0 n0 s0 a0 len0 cap0 op1 n1 s1 a1 len1 cap1 op2 n2 s2 a2 len2 cap2 op3 n3 s3 a3 len3 cap3 w hl0 hl1 hl2 hl3 htab hvar he

set_option maxRecDepth 100000 in
theorem own : ownKnob Tryz.prog.godebug = none := by kernel_rfl
set_option maxRecDepth 100000 in
theorem laidOut : laidOutB Tryz.prog = true := by kernel_rfl
theorem cells24 : Tryz.prog.cellsOf 24 = 4 := by kernel_rfl

set_option maxRecDepth 100000 in
/-- An argument of the laws' own term type, opened. -/
theorem open_arg {H : Type} {enc : TypeId × Value → H} {W : World} {base : Nat} {v : Value} {d : DataW H} {p : List MemPlace} (hv : Value.okWide Tryz.prog W .any base 24 v) (h : DataW.Trod enc Tryz.prog W 0 (fun _ => true) true 24 v d p) :
    ∃ (t : Tm) (op n : Int) (s : ByteArray) (a : Option Addr) (len cap : Nat), v = .agg #[.int .i64 op, .int .i64 n, .string s, .slice a len cap] ∧ Lies W 0 t (tmCells op n s a len cap) := by
  obtain ⟨cs, rfl, hsz⟩ := okWide_struct Tryz.underlying24 hv
  obtain ⟨fuel, hf⟩ := h
  obtain ⟨T, hT⟩ := open_tm (t := 22) (e := 24) (tint := 3) (tstr := 9) Tryz.underlying24 (by kernel_rfl) cells24 rfl rfl rfl rfl Tryz.underlying3 Tryz.underlying9 Tryz.underlying22 fuel _ _ hf
  obtain ⟨op, n, s, a, len, cap, he⟩ := hT.cells
  rw [he] at hT
  refine ⟨T, op, n, s, a, len, cap, ?_, hT⟩
  have : cs = #[.int .i64 op, .int .i64 n, .string s, .slice a len cap] := by
    apply Array.ext'
    simpa [Value.cells, tmCells] using he
  rw [this]

def laid6 : List (String × DataW Unit) := [("math/bits.deBruijn32tab", Rows.laid_math_bits_deBruijn32tab), ("math/bits.deBruijn64tab", Rows.laid_math_bits_deBruijn64tab), ("internal/strconv.uint64pow10", Rows.laid_internal_strconv_uint64pow10), ("strconv.ErrRange", Rows.laid_strconv_ErrRange), ("strconv.ErrSyntax", Rows.laid_strconv_ErrSyntax), ("loop.example/g00328/impl.errNoTerm", Rows.laid_loop_example_g00328_impl_errNoTerm)]

set_option maxRecDepth 100000 in
theorem door6_met (os : Os) (args : Array Value) : laidMetH Tryz.prog laid6 ((World.doorLaid Tryz.prog 400 os).forCall (fun _ _ => 0) ⟨#[], args, []⟩).memory :=
  laidMetH_of_parts3 (fuel := 8) (laidMet_of_run' 8 (by kernel_rfl) (by kernel_rfl)) (by kernel_rfl) (by kernel_rfl)

set_option maxRecDepth 100000 in
theorem gE : Tryz.prog.globalNamed "loop.example/g00328/impl.errNoTerm" = some 0 := by kernel_rfl
set_option maxRecDepth 100000 in
theorem gEType : (Tryz.prog.globals[0]?).map (·.type) = some 81 := by kernel_rfl
set_option maxRecDepth 100000 in
theorem cells137 : Tryz.prog.cellsOf 204 = 1 := by kernel_rfl
set_option maxRecDepth 100000 in
theorem cells9 : Tryz.prog.cellsOf 9 = 1 := by kernel_rfl
set_option maxRecDepth 100000 in
theorem star : "*" ++ "errors.errorString" = "*errors.errorString" := by decide
set_option maxRecDepth 100000 in
theorem rowE (u : TypeId) (h : Tryz.prog.typeName? 3 u = some "*errors.errorString") : u = 202 :=
  typeName_ptr_named (nm := "errors.errorString") (by rw [star]; kernel_rfl) (by kernel_rfl) (by decide) u (by rw [star]; exact h)

set_option maxRecDepth 100000 in
theorem err_of_met {W : World} {r : List (String × DataW Unit)} (h : laidMet Tryz.prog (("loop.example/g00328/impl.errNoTerm", Rows.laid_loop_example_g00328_impl_errNoTerm) :: r) W) : ∃ a, W.var? Tryz.prog "loop.example/g00328/impl.errNoTerm" = some #[.iface 202 (.pointer (some a))] := by
  obtain ⟨a, s, hv, _⟩ := laid_sentinel h gE gEType Tryz.underlying81 rowE Tryz.underlying202 Tryz.underlying204 rfl rfl Tryz.underlying9 cells137 cells9
  exact ⟨a, hv⟩
set_option maxRecDepth 100000 in
theorem err_of_var {W : World} {a : Addr} (hv : W.var? Tryz.prog "loop.example/g00328/impl.errNoTerm" = some #[.iface 202 (.pointer (some a))]) : Err W :=
  ⟨a, by have := World.var?_cell gE hv 0; simpa [ErrAt] using this⟩
set_option maxRecDepth 100000 in
theorem err_of_laid6 {W : World} (h : laidMetH Tryz.prog laid6 W) : ∃ a, W.var? Tryz.prog "loop.example/g00328/impl.errNoTerm" = some #[.iface 202 (.pointer (some a))] := by
  rw [MakeChecks.laidMetH_plain _ _ _ (by kernel_rfl)] at h
  exact err_of_met h.tail.tail.tail.tail.tail
set_option maxRecDepth 100000 in
theorem gS : Tryz.prog.globalNamed "strconv.ErrSyntax" = some 1 := by kernel_rfl
set_option maxRecDepth 100000 in
theorem gSType : (Tryz.prog.globals[1]?).map (·.type) = some 81 := by kernel_rfl
set_option maxRecDepth 100000 in
theorem gR : Tryz.prog.globalNamed "strconv.ErrRange" = some 2 := by kernel_rfl
set_option maxRecDepth 100000 in
theorem gRType : (Tryz.prog.globals[2]?).map (·.type) = some 81 := by kernel_rfl
set_option maxRecDepth 100000 in
theorem var12_of_laid6 {W : World} (h : laidMetH Tryz.prog laid6 W) : Var12 W := by
  rw [MakeChecks.laidMetH_plain _ _ _ (by kernel_rfl)] at h
  have h3 := h.tail.tail.tail
  obtain ⟨a, s, hr, _⟩ := laid_sentinel h3 gR gRType Tryz.underlying81 rowE Tryz.underlying202 Tryz.underlying204 rfl rfl Tryz.underlying9 cells137 cells9
  obtain ⟨b, s', hs, _⟩ := laid_sentinel h3.tail gS gSType Tryz.underlying81 rowE Tryz.underlying202 Tryz.underlying204 rfl rfl Tryz.underlying9 cells137 cells9
  refine ⟨⟨.iface 202 (.pointer (some b)), ?_, Or.inr ⟨_, _, rfl⟩⟩, .iface 202 (.pointer (some a)), ?_, Or.inr ⟨_, _, rfl⟩⟩
  · have := World.var?_cell gS hs 0
    simpa using this
  · have := World.var?_cell gR hr 0
    simpa using this

set_option maxRecDepth 100000 in
theorem pow_data : (Rows.laid_internal_strconv_uint64pow10 : DataW Unit) = Lib.tabData .u64 Lib.pow10Tab := by kernel_rfl
set_option maxRecDepth 100000 in
theorem tab_of_laid6 {W : World} (h : laidMetH Tryz.prog laid6 W) : Tab W := by
  rw [MakeChecks.laidMetH_plain _ _ _ (by kernel_rfl)] at h
  have h2 : laidMet Tryz.prog (("internal/strconv.uint64pow10", Lib.tabData .u64 Lib.pow10Tab) :: [("strconv.ErrRange", Rows.laid_strconv_ErrRange), ("strconv.ErrSyntax", Rows.laid_strconv_ErrSyntax), ("loop.example/g00328/impl.errNoTerm", Rows.laid_loop_example_g00328_impl_errNoTerm)]) W := by
    have := h.tail.tail
    rw [pow_data] at this
    exact this
  exact Lib.tabIs_of_head (g := 3) (t := 197) (e := 186) (n := 20) (by kernel_rfl) (by kernel_rfl) (by kernel_rfl) (by kernel_rfl) (by kernel_rfl) (by kernel_rfl) h2

set_option maxRecDepth 100000 in
theorem var?_below {P : Program} {W W' : World} {n : String} {cs : Array Value} (h : W.var? P n = some cs) (hb : Below W.heap.size W W') : W'.var? P n = some cs := by
  unfold World.var? at h ⊢
  cases hg : P.globalNamed n with
  | none => simp [hg] at h
  | some g =>
    simp only [hg, Option.bind_some] at h ⊢
    have hlt : g < W.heap.size := by
      rcases Nat.lt_or_ge g W.heap.size with h' | h'
      · exact h'
      · simp [Array.getElem?_eq_none h'] at h
    rw [hb.block g hlt]
    exact h

set_option maxRecDepth 100000 in
/-- The variable of the named error, read as a token. -/
theorem err_read {H : Type} (enc : TypeId × Value → H) {W : World} {a : Addr} (h : W.var? Tryz.prog "loop.example/g00328/impl.errNoTerm" = some #[.iface 202 (.pointer (some a))]) (sp : Nat → Bool) :
    DataW.TrodVars enc Tryz.prog W sp ["loop.example/g00328/impl.errNoTerm"] [tok enc (.iface 202 (.pointer (some a)))] [.cell 0 0] :=
  vars_read1 enc gE gEType Tryz.underlying81 h trivial sp

set_option maxRecDepth 100000 in
theorem liftedProved (os : Os) (started : os.Started) (H : Type) (enc : TypeId × Value → H) :
    ReturnsInHanded {} Tryz.checked os 3 .any (fun w args => (Rows.fnExactProvedSpec.pre enc Tryz.prog Tryz.f3 Rows.fnExactProvedRow.domain false w args ∧ laidMetH Tryz.prog laid6 w) ∧ sizedMet enc Tryz.prog Tryz.f3 (OpenSpec.ofChange Rows.fnExactProvedSpec) false w args)
      (Rows.fnExactProvedSpec.post enc Tryz.prog Tryz.f3 false true false false) := by
  refine returnsInHanded_of_change_and (C := Tryz.checked) (X := fun w _ => laidMetH Tryz.prog laid6 w) (fun _ _ _ hh h => h.of_heap hh) own started (by kernel_rfl) Tryz.func3
    (ChangeSpec.witness_shaped (enc := enc) (C := Tryz.checked) (os := os) (X := fun w _ => laidMetH Tryz.prog laid6 w) false (World.doorLaid Tryz.prog 400 os) #[.agg #[.int .i64 0, .int .i64 0, .string ByteArray.empty, .slice none 0 0], .agg #[.int .i64 0, .int .i64 0, .string ByteArray.empty, .slice none 0 0], .agg #[.int .i64 0, .int .i64 0, .string ByteArray.empty, .slice none 0 0], .agg #[.int .i64 0, .int .i64 0, .string ByteArray.empty, .slice none 0 0], .string ByteArray.empty, .int .i64 0] 8 rfl (World.shaped_of_RefB (by kernel_rfl) (by kernel_rfl)) (by kernel_rfl) (by kernel_rfl) (by kernel_rfl) (door6_met os _)) ?_
  intro W base args ds gs before hval0 hW _ _ hL _
  have hval : ∀ (j : Nat) t v, Tryz.f3.params[j]? = some t → args[j]? = some v → Value.okWide Tryz.prog W .any base t v := hval0
  have hW' := hW
  obtain ⟨p, q, hA0, hV0, rfl, hfz, hnd⟩ := hW
  have hA : DataW.TrodAll enc Tryz.prog W 0 (fun _ => true) true Tryz.f3.params.toList args.toList ds p := hA0
  have hV : DataW.TrodVars enc Tryz.prog W (fun _ => true) ["loop.example/g00328/impl.errNoTerm"] gs q := hV0
  rw [Tryz.params3] at hA hval
  obtain ⟨v0, vs0, d0, ds0, p0, q0, hargs, rfl, rfl, h0, r0⟩ := trodAll_cons hA
  obtain ⟨v1, vs1, d1, ds1, p1, q1, rfl, rfl, rfl, h1, r1⟩ := trodAll_cons r0
  obtain ⟨v2, vs2, d2, ds2, p2, q2, rfl, rfl, rfl, h2, r2⟩ := trodAll_cons r1
  obtain ⟨v3, vs3, d3, ds3, p3, q3, rfl, rfl, rfl, h3, r3⟩ := trodAll_cons r2
  obtain ⟨v4, vs4, d4, ds4, p4, q4, rfl, rfl, rfl, h4, r4⟩ := trodAll_cons r3
  obtain ⟨v5, vs5, d5, ds5, p5, q5, rfl, rfl, rfl, h5, r5⟩ := trodAll_cons r4
  obtain ⟨rfl, rfl, rfl⟩ := trodAll_nil r5
  obtain rfl : args = #[v0, v1, v2, v3, v4, v5] := by cases args; simp_all
  obtain ⟨x, hx⟩ := err_of_laid6 hL
  obtain ⟨rfl, rfl⟩ := hV.unique (err_read enc hx _)
  have k0 := h0
  have lt0 : ∀ x ∈ p0, x.block < W.heap.size := by obtain ⟨m, hm⟩ := k0; exact DataW.trod_lt m _ _ _ hm
  obtain ⟨t0, op0, n0, s0, a0, len0, cap0, rfl, hl0⟩ := open_arg (hval 0 24 v0 rfl rfl) h0
  have k1 := h1
  have lt1 : ∀ x ∈ p1, x.block < W.heap.size := by obtain ⟨m, hm⟩ := k1; exact DataW.trod_lt m _ _ _ hm
  obtain ⟨t1, op1, n1, s1, a1, len1, cap1, rfl, hl1⟩ := open_arg (hval 1 24 v1 rfl rfl) h1
  have k2 := h2
  have lt2 : ∀ x ∈ p2, x.block < W.heap.size := by obtain ⟨m, hm⟩ := k2; exact DataW.trod_lt m _ _ _ hm
  obtain ⟨t2, op2, n2, s2, a2, len2, cap2, rfl, hl2⟩ := open_arg (hval 2 24 v2 rfl rfl) h2
  have k3 := h3
  have lt3 : ∀ x ∈ p3, x.block < W.heap.size := by obtain ⟨m, hm⟩ := k3; exact DataW.trod_lt m _ _ _ hm
  obtain ⟨t3, op3, n3, s3, a3, len3, cap3, rfl, hl3⟩ := open_arg (hval 3 24 v3 rfl rfl) h3
  obtain ⟨hs4, rfl, rfl, rfl, ws4⟩ := open_string Tryz.underlying9 (hval 4 9 v4 rfl rfl) h4
  obtain ⟨m5, rfl, rfl, rfl, w5⟩ := open_int Tryz.underlying3 (hval 5 3 v5 rfl rfl) h5
  clear hA0 hV0 hval0
  refine (lawProved_all t0 t1 t2 t3 hs4 m5 op0 n0 s0 a0 len0 cap0 op1 n1 s1 a1 len1 cap1 op2 n2 s2 a2 len2 cap2 op3 n3 s3 a3 len3 cap3 W hl0 hl1 hl2 hl3 (var12_of_laid6 hL) (tab_of_laid6 hL) (err_of_var hx)).mono fun e W' ⟨he, bel⟩ => ?_
  subst he
  exact ⟨_, rfl, _, _, _, [], _, [.cell 0 0], hW', trodAll_mk1 (shut_bool Tryz.underlying4 _), (trodAll_cons_mk (Below.trod laidOut (by kernel_rfl) (of_decide_eq_true (by kernel_rfl)) k0 bel lt0) (trodAll_cons_mk (Below.trod laidOut (by kernel_rfl) (of_decide_eq_true (by kernel_rfl)) k1 bel lt1) (trodAll_cons_mk (Below.trod laidOut (by kernel_rfl) (of_decide_eq_true (by kernel_rfl)) k2 bel lt2) (trodAll_cons_mk (Below.trod laidOut (by kernel_rfl) (of_decide_eq_true (by kernel_rfl)) k3 bel lt3) (trodAll_cons_mk (shut_string Tryz.underlying9 ws4) (trodAll_cons_mk (shut_int Tryz.underlying3 w5) trodAll_mk0)))))), err_read enc (var?_below hx bel) _, bel.frame _, fun h => by cases h⟩

theorem proved_row : Rows.FnExactProvedSaid :=
  OpenClaim.holds_of_wide 3 Tryz.f3 rfl rfl rfl rfl rfl rfl rfl ⟨rfl, rfl, rfl, rfl, rfl⟩ rfl rfl rfl rfl rfl (by kernel_rfl) Tryz.func3 (by kernel_rfl)
    (of_decide_eq_true (by kernel_rfl)) (by unfold Func.isWrapper; first | (rw [if_pos (by decide +kernel)]; kernel_rfl) | (rw [if_neg (by decide +kernel)]; exact ⟨rfl, rfl⟩))
    (fun os started H enc _ => liftedProved os started H enc)

theorem proved_card : Rows.FnExactProvedCardSaid :=
  Claim7.holds_tied_plain_at .later [] [.data, .data, .data, .sentinel, .sentinel, .sentinel] true (true, "e8177ddee3f55aa707513c47d48fb0d87aa2972828b52ff62a33273e57772c3c") true
    proved_row (fun _ h => by cases h) (by kernel_rfl) (fun _ h => by cases h) fnExactProved_row_tie rfl ⟨rfl, rfl⟩ (by kernel_rfl) rfl
    (fun f fn hf hfn => by
      obtain rfl : f = 3 := Option.some.inj ((show Tryz.prog.funcNamed "loop.example/g00328/laws.FnExactProved" = some 3 by kernel_rfl).symm.trans hf) |>.symm
      obtain rfl : fn = Tryz.f3 := (Option.some.inj (Tryz.func3.symm.trans hfn)).symm
      exact ⟨by kernel_rfl, fun j t ht => by
        rw [Tryz.params3] at ht
        have hm : t ∈ [24, 3, 9] := by have := Array.mem_of_getElem? ht; simp at this ⊢; rcases this with rfl | rfl | rfl | rfl | rfl | rfl <;> simp
        have hall : ([24, 3, 9].all fun u => !Tryz.prog.wantsStandIn u) = true := by kernel_rfl
        exact (show Tryz.prog.wantsStandIn t = false by simpa using List.all_eq_true.1 hall t hm)⟩)
    (by kernel_rfl)
#print axioms proved_card

end Go.Proofs.YtlepdkbkiajkiaaGreatDoor
