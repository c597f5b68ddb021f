
/- The walks of slices.Index and slices.Contains at a list of at most two bools: whether one of them is false; nothing turns. The walk of the method putTogether: whether a term is put together, by which of its kids are; nothing that was there is written. The walk of the method putTogether at a share, one of whose kids is not made. -/
import Derived.Test.YteminklafghgpaaDoorFa
namespace Go.Proofs.YteminklafghgpaaDoor
open Go.RowKit Go.Deep Go.Maps Go.MapKept

set_option maxRecDepth 100000 in
set_option maxHeartbeats 1000000 in
theorem idx_0 (a : Option Addr) (cap : Nat) (w : World) : Calls Tryd.prog 39 #[.slice a 0 cap, .bool false] w fun e w' => e = .returned (.int .i64 (-1)) ∧ w' = w := by
  go_enter Tryd.func39, Tryd.ntmps39
  go_wp2_with fail
  refine wp_loop_rounds 1 ?_
  rw [rounds_succ]
  go_wp2_with fail
  go_ret
  exact ⟨rfl, rfl⟩

set_option maxRecDepth 100000 in
set_option maxHeartbeats 1000000 in
theorem idx_f (g len cap : Nat) (w : World) (h1 : 0 < len) (h0 : w.cell? ⟨g, 0, none⟩ = some (.bool false)) : Calls Tryd.prog 39 #[.slice (some ⟨g, 0, none⟩) len cap, .bool false] w fun e w' => e = .returned (.int .i64 0) ∧ w' = w := by
  have h2 : (0 : Int) < (len : Int) := by omega
  go_enter Tryd.func39, Tryd.ntmps39
  go_wp2_with fail
  refine wp_loop_rounds 1 ?_
  rw [rounds_succ]
  go_wp2_with fail
  go_ret
  exact ⟨rfl, rfl⟩

set_option maxRecDepth 100000 in
set_option maxHeartbeats 1000000 in
theorem idx_t (g cap : Nat) (w : World) (h0 : w.cell? ⟨g, 0, none⟩ = some (.bool true)) : Calls Tryd.prog 39 #[.slice (some ⟨g, 0, none⟩) 1 cap, .bool false] w fun e w' => e = .returned (.int .i64 (-1)) ∧ w' = w := by
  go_enter Tryd.func39, Tryd.ntmps39
  go_wp2_with fail
  refine wp_loop_rounds 2 ?_
  rw [rounds_succ]
  go_wp2_with fail
  rw [rounds_succ]
  go_wp2_with fail
  go_ret
  exact ⟨rfl, rfl⟩

set_option maxRecDepth 100000 in
set_option maxHeartbeats 1000000 in
theorem idx_tf (g cap : Nat) (w : World) (h0 : w.cell? ⟨g, 0, none⟩ = some (.bool true)) (h1 : w.cell? ⟨g, 1, none⟩ = some (.bool false)) : Calls Tryd.prog 39 #[.slice (some ⟨g, 0, none⟩) 2 cap, .bool false] w fun e w' => e = .returned (.int .i64 1) ∧ w' = w := by
  go_enter Tryd.func39, Tryd.ntmps39
  go_wp2_with fail
  refine wp_loop_rounds 2 ?_
  rw [rounds_succ]
  go_wp2_with fail
  rw [rounds_succ]
  go_wp2_with fail
  go_ret
  exact ⟨rfl, rfl⟩

set_option maxRecDepth 100000 in
set_option maxHeartbeats 1000000 in
theorem idx_tt (g cap : Nat) (w : World) (h0 : w.cell? ⟨g, 0, none⟩ = some (.bool true)) (h1 : w.cell? ⟨g, 1, none⟩ = some (.bool true)) : Calls Tryd.prog 39 #[.slice (some ⟨g, 0, none⟩) 2 cap, .bool false] w fun e w' => e = .returned (.int .i64 (-1)) ∧ w' = w := by
  go_enter Tryd.func39, Tryd.ntmps39
  go_wp2_with fail
  refine wp_loop_rounds 3 ?_
  rw [rounds_succ]
  go_wp2_with fail
  rw [rounds_succ]
  go_wp2_with fail
  rw [rounds_succ]
  go_wp2_with fail
  go_ret
  exact ⟨rfl, rfl⟩

/-- The list of at most two bools that lies in a row of its own. -/
def Bools (w : World) (g : Nat) (bs : List Bool) : Prop := w.heap[g]? = some (.cells (bs.map Value.bool).toArray 4 (0, 0))

set_option maxRecDepth 100000 in
theorem con_of {n : Int} (bs : List Bool) (a : Option Addr) (len cap : Nat) (w : World) (b : Bool) (h : Calls Tryd.prog 39 #[.slice a len cap, .bool false] w fun e w' => e = .returned (.int .i64 n) ∧ w' = w) (hb : decide (0 ≤ n) = b) (hs : b = !bs.all (fun x => x)) :
    Calls Tryd.prog 35 #[.slice a len cap, .bool false] w fun e w' => e = .returned (.bool (!bs.all (fun x => x))) ∧ w' = w := by
  rw [← hs]
  have HC := hide h
  clear h hs
  go_enter Tryd.func35, Tryd.ntmps35
  go_wp2_with fail
  refine (unhide HC).mono ?_
  rintro e w2 ⟨rfl, rfl⟩
  go_wp2_with fail
  go_ret
  exact ⟨by first | rw [hb] | (subst hb; rfl), rfl⟩

set_option maxRecDepth 100000 in
theorem con_calls (bs : List Bool) (g cap : Nat) (w : World) (hl : bs.length ≤ 2) (h : Bools w g bs) :
    Calls Tryd.prog 35 #[.slice (some ⟨g, 0, none⟩) bs.length cap, .bool false] w fun e w' => e = .returned (.bool (!bs.all (fun x => x))) ∧ w' = w := by
  match bs, hl, h with
  | [], _, _ => exact con_of [] _ _ _ w false (idx_0 _ _ w) (by decide) rfl
  | [false], _, h => exact con_of [false] _ _ _ w true (idx_f g 1 cap w (by omega) (cell_of_row h (j := 0) (by simp))) (by decide) rfl
  | [true], _, h => exact con_of [true] _ _ _ w false (idx_t g cap w (cell_of_row h (j := 0) (by simp))) (by decide) rfl
  | [false, y], _, h => exact con_of [false, y] _ _ _ w true (idx_f g 2 cap w (by omega) (cell_of_row h (j := 0) (by simp))) (by decide) (by simp)
  | [true, false], _, h => exact con_of [true, false] _ _ _ w true (idx_tf g cap w (cell_of_row h (j := 0) (by simp)) (cell_of_row h (j := 1) (by simp))) (by decide) rfl
  | [true, true], _, h => exact con_of [true, true] _ _ _ w false (idx_tt g cap w (cell_of_row h (j := 0) (by simp)) (cell_of_row h (j := 1) (by simp))) (by decide) rfl

set_option maxRecDepth 100000 in
/-- The two kids of a term that lies in memory. -/
theorem lies_kids {w : World} {op n : Int} {s : ByteArray} {k0 k1 : Tm} {op2 n2 : Int} {s2 : ByteArray} {a2 : Option Addr} {len2 cap2 : Nat} (hl : Lies w 0 (.node op n s [k0, k1]) (tmCells op2 n2 s2 a2 len2 cap2)) :
    op2 = op ∧ n2 = n ∧ s2 = s ∧ len2 = 2 ∧ ∃ b q op3 n3 s3 a3 len3 cap3 op4 n4 s4 a4 len4 cap4, a2 = some ⟨b, q, none⟩ ∧
      (w.cell? ⟨b, q, none⟩ = some (.int .i64 op3) ∧ w.cell? ⟨b, q + 1, none⟩ = some (.int .i64 n3) ∧ w.cell? ⟨b, q + 2, none⟩ = some (.string s3) ∧ w.cell? ⟨b, q + 3, none⟩ = some (.slice a3 len3 cap3) ∧ Lies w 0 k0 (tmCells op3 n3 s3 a3 len3 cap3)) ∧
      (w.cell? ⟨b, q + 4, none⟩ = some (.int .i64 op4) ∧ w.cell? ⟨b, q + 5, none⟩ = some (.int .i64 n4) ∧ w.cell? ⟨b, q + 6, none⟩ = some (.string s4) ∧ w.cell? ⟨b, q + 7, none⟩ = some (.slice a4 len4 cap4) ∧ Lies w 0 k1 (tmCells op4 n4 s4 a4 len4 cap4)) := by
  have hx := hl
  simp only [Lies, tmCells, List.cons.injEq, Value.int.injEq, Value.string.injEq, Value.slice.injEq, true_and, and_true] at hx
  obtain ⟨a9, c9, ⟨rfl, rfl, rfl, rfl, rfl, rfl⟩, _, _, hka⟩ := hx
  obtain ⟨b, q, op3, n3, s3, a3, len3, cap3, rfl, _, _, r0, r1, r2, r3, hk0⟩ := hka.elem (k := 0) (by simp)
  obtain ⟨b', q', op4, n4, s4, a4, len4, cap4, hab, _, _, r4, r5, r6, r7, hk1⟩ := hka.elem (k := 1) (by simp)
  simp only [Option.some.injEq, Addr.mk.injEq, and_true] at hab
  obtain ⟨rfl, rfl⟩ := hab
  simp only [Nat.zero_mul, Nat.add_zero, Nat.one_mul] at r0 r1 r2 r3 r4 r5 r6 r7
  refine ⟨rfl, rfl, rfl, by simp, b, q, op3, n3, s3, a3, len3, cap3, op4, n4, s4, a4, len4, cap4, rfl, ⟨r0, r1, r2, r3, hk0⟩, ⟨r4, ?_, ?_, ?_, hk1⟩⟩
  · exact r5
  · exact r6
  · exact r7


/-- Whether a text is the exact one of a right term among some. -/
def fK (ps : List Tm) (l : List UInt8) : Bool := ps.any fun p => okT p && decide (exT p = l)
set_option maxRecDepth 100000 in
theorem hasX_fK (ps : List Tm) (t : Tm) : hasX ps t = fK ps (exT t) := rfl

set_option maxRecDepth 100000 in
theorem Bools.low {w w' : World} {g : Nat} {bs : List Bool} (h : Bools w g bs) (hb : Below w.heap.size w w') : Bools w' g bs := (hb.block g (lt_of_heap h)).trans h

set_option maxRecDepth 100000 in
set_option maxHeartbeats 2000000 in
theorem put_1 (m : Option Nat) (n : Int) (s : ByteArray) (a : Option Addr) (len cap : Nat) (mv : Value) (w : World) :
    Calls Tryd.prog 32 #[.map m, .agg #[.int .i64 1, .int .i64 n, .string s, .slice a len cap], mv] w fun e w' => e = .returned (.bool false) ∧ Below w.heap.size w w' := by
  have HB := hide (abD (w := w) (.cells #[.int .i64 1, .int .i64 n, .string s, .slice a len cap] 31))
  go_enter Tryd.func32, Tryd.ntmps32
  go_wp2_with fail
  go_ret
  exact ⟨rfl, unhide HB⟩

set_option maxRecDepth 100000 in
set_option maxHeartbeats 2000000 in
theorem put_all (bs : List Bool) (m : Option Nat) (op n : Int) (s : ByteArray) (a : Option Addr) (len cap g gc : Nat) (w : World) (h1 : op ≠ 1) (hl : bs.length ≤ 2) (hb : Bools w g bs) (hall : bs.all (fun x => x) = true) :
    Calls Tryd.prog 32 #[.map m, .agg #[.int .i64 op, .int .i64 n, .string s, .slice a len cap], .slice (some ⟨g, 0, none⟩) bs.length gc] w fun e w' => e = .returned (.bool true) ∧ Below w.heap.size w w' := by
  have h34 := hide (con_calls bs g gc)
  rw [hall] at h34
  have HB := hide (abD (w := w) (.cells #[.int .i64 op, .int .i64 n, .string s, .slice a len cap] 31))
  have HL := hide (hb.low (abD (.cells #[.int .i64 op, .int .i64 n, .string s, .slice a len cap] 31)))
  have q1 : (op == 1) = false := by simpa using h1
  generalize hlen : bs.length = bl at *
  clear hb hall
  go_enter Tryd.func32, Tryd.ntmps32
  go_wp2_with fail
  refine (unhide h34 _ hl (unhide HL)).mono ?_
  rintro e w2 ⟨rfl, rfl⟩
  go_wp2_with fail
  go_ret
  exact ⟨rfl, unhide HB⟩

set_option maxRecDepth 100000 in
set_option maxHeartbeats 2000000 in
theorem put_no (bs : List Bool) (m : Option Nat) (op n : Int) (s : ByteArray) (a : Option Addr) (len cap g gc : Nat) (w : World) (h1 : op ≠ 1) (h5 : op ≠ 5) (hl : bs.length ≤ 2) (hb : Bools w g bs) (hall : bs.all (fun x => x) = false) :
    Calls Tryd.prog 32 #[.map m, .agg #[.int .i64 op, .int .i64 n, .string s, .slice a len cap], .slice (some ⟨g, 0, none⟩) bs.length gc] w fun e w' => e = .returned (.bool false) ∧ Below w.heap.size w w' := by
  have h34 := hide (con_calls bs g gc)
  rw [hall] at h34
  have HB := hide (abD (w := w) (.cells #[.int .i64 op, .int .i64 n, .string s, .slice a len cap] 31))
  have HL := hide (hb.low (abD (.cells #[.int .i64 op, .int .i64 n, .string s, .slice a len cap] 31)))
  have q1 : (op == 1) = false := by simpa using h1
  have q5 : (op == 5) = false := by simpa using h5
  have HX := hide (box_cell w #[.int .i64 op, .int .i64 n, .string s, .slice a len cap] 31 0 _ rfl)
  generalize hlen : bs.length = bl at *
  clear hb hall
  go_enter Tryd.func32, Tryd.ntmps32
  go_wp2_with fail
  refine (unhide h34 _ hl (unhide HL)).mono ?_
  rintro e w2 ⟨rfl, rfl⟩
  go_wp2_with fail
  go_ret
  exact ⟨rfl, unhide HB⟩

set_option maxRecDepth 100000 in
set_option maxHeartbeats 2000000 in
theorem put_ff (m : Option Nat) (n : Int) (s : ByteArray) (b' q' cap g gc : Nat) (w : World) (hb : Bools w g [false, false]) :
    Calls Tryd.prog 32 #[.map (m), .agg #[.int .i64 5, .int .i64 n, .string s, .slice (some ⟨b', q', none⟩) 2 cap], .slice (some ⟨g, 0, none⟩) 2 gc] w fun e w' => e = .returned (.bool false) ∧ Below w.heap.size w w' := by
  have h34 := hide (con_calls [false, false] g gc)
  have hb0 := abD (w := w) (.cells #[.int .i64 5, .int .i64 n, .string s, .slice (some ⟨b', q', none⟩) 2 cap] 31)
  have HB := hide hb0
  have HL := hide (hb.low hb0)
  have m0 := cell_of_row (hb.low hb0) (j := 0) (by simp)
  have m1 := cell_of_row (hb.low hb0) (j := 1) (by simp)
  simp only [List.map_cons, List.map_nil, List.getElem_toArray, List.getElem_cons_zero, List.getElem_cons_succ] at m0 m1
  clear hb hb0
  go_enter Tryd.func32, Tryd.ntmps32
  go_wp2_with fail
  refine (unhide h34 _ (by simp) (unhide HL)).mono ?_
  rintro e w2 ⟨rfl, rfl⟩
  go_wp2_with fail
  go_ret
  exact ⟨rfl, unhide HB⟩

set_option maxRecDepth 100000 in
set_option maxHeartbeats 2000000 in
theorem put_tf_t (ps : List Tm) (b n0 : Nat) (y : Tm) (n : Int) (s : ByteArray) (b' q' cap g gc : Nat) (op4 n4 : Int) (s4 : ByteArray) (a4 : Option Addr) (len4 cap4 : Nat) (w : World) (hb : Bools w g [true, false]) (r4 : w.cell? ⟨b', q' + 4, none⟩ = some (.int .i64 op4)) (r5 : w.cell? ⟨b', q' + 5, none⟩ = some (.int .i64 n4)) (r6 : w.cell? ⟨b', q' + 6, none⟩ = some (.string s4)) (r7 : w.cell? ⟨b', q' + 7, none⟩ = some (.slice a4 len4 cap4)) (hy : Lies w 0 y (tmCells op4 n4 s4 a4 len4 cap4)) (hf : Facts w b n0 (fK ps)) (ht : Tab w) (he : Err w) (hok : okT (pubT y) = true) (hz : y.size ≤ 300) (hh : hasX ps (pubT y) = true) :
    Calls Tryd.prog 32 #[.map (some b), .agg #[.int .i64 5, .int .i64 n, .string s, .slice (some ⟨b', q', none⟩) 2 cap], .slice (some ⟨g, 0, none⟩) 2 gc] w fun e w' => e = .returned (.bool true) ∧ Below w.heap.size w w' := by
  have h34 := hide (con_calls [true, false] g gc)
  have hb0 := abD (w := w) (.cells #[.int .i64 5, .int .i64 n, .string s, .slice (some ⟨b', q', none⟩) 2 cap] 31)
  have HB := hide hb0
  have HL := hide (hb.low hb0)
  have m0 := cell_of_row (hb.low hb0) (j := 0) (by simp)
  have m1 := cell_of_row (hb.low hb0) (j := 1) (by simp)
  simp only [List.map_cons, List.map_nil, List.getElem_toArray, List.getElem_cons_zero, List.getElem_cons_succ] at m0 m1
  have h36 := hide (pubI y op4 n4 s4 a4 len4 cap4)
  have hmade : madeT 4 [y] = pubT y := by show pickT (okT (pubT y)) (pubT y) = _; rw [hok]; rfl
  rw [hmade] at h36
  have h35 := hide (hasI_calls b n0 (fK ps) (pubT y))
  rw [← hasX_fK, hh] at h35
  have HR := hide (okT_right hok)
  have HZ : Hid ((pubT y).size ≤ 400) := by show _ ≤ _; simp only [pubT, Tm.size, Tm.sizes]; omega
  have HV := hide (hy.below hb0)
  have c0 := kpc hb0 r4
  have c1 := kpc hb0 r5
  have c2 := kpc hb0 r6
  have c3 := kpc hb0 r7
  have HF := hide (hf.low hb0)
  have HT := hide (ht.on hb0)
  have HE := hide (he.on hb0)
  clear hb hb0 r4 r5 r6 r7 hy hf ht he hok hh hmade
  go_enter Tryd.func32, Tryd.ntmps32
  go_wp2_with fail
  refine (unhide h34 _ (by simp) (unhide HL)).mono ?_
  rintro e w2 ⟨rfl, rfl⟩
  go_wp2_with fail
  refine (unhide h36 _ (unhide HV) (by omega) (unhide HE)).mono ?_
  rintro e w3 ⟨op', n', s', a', len', cap', fp, rfl, hO, _, hb3⟩
  have HB3 := hide (bt (unhide HB) hb3 (Nat.le_refl _))
  have HO := hide hO.lies0
  have HF3 := hide ((unhide HF).low hb3)
  have HT3 := hide ((unhide HT).on hb3)
  have m0 := kpc hb3 m0
  have m1 := kpc hb3 m1
  clear hO hb3 c0 c1 c2 c3
  go_wp2_with fail
  refine (unhide h35 op' n' s' a' len' cap' _ (unhide HF3) (unhide HO) (unhide HR) (unhide HZ) (unhide HT3)).mono ?_
  rintro e w4 ⟨rfl, hb4⟩
  have HB4 := hide (bt (unhide HB3) hb4 (Nat.le_refl _))
  have m0 := kpc hb4 m0
  have m1 := kpc hb4 m1
  clear hb4
  go_wp2_with fail
  go_ret
  exact ⟨rfl, unhide HB4⟩

set_option maxRecDepth 100000 in
set_option maxHeartbeats 2000000 in
theorem put_tf_f (ps : List Tm) (b n0 : Nat) (y : Tm) (n : Int) (s : ByteArray) (b' q' cap g gc : Nat) (op4 n4 : Int) (s4 : ByteArray) (a4 : Option Addr) (len4 cap4 : Nat) (w : World) (hb : Bools w g [true, false]) (r4 : w.cell? ⟨b', q' + 4, none⟩ = some (.int .i64 op4)) (r5 : w.cell? ⟨b', q' + 5, none⟩ = some (.int .i64 n4)) (r6 : w.cell? ⟨b', q' + 6, none⟩ = some (.string s4)) (r7 : w.cell? ⟨b', q' + 7, none⟩ = some (.slice a4 len4 cap4)) (hy : Lies w 0 y (tmCells op4 n4 s4 a4 len4 cap4)) (hf : Facts w b n0 (fK ps)) (ht : Tab w) (he : Err w) (hok : okT (pubT y) = true) (hz : y.size ≤ 300) (hh : hasX ps (pubT y) = false) :
    Calls Tryd.prog 32 #[.map (some b), .agg #[.int .i64 5, .int .i64 n, .string s, .slice (some ⟨b', q', none⟩) 2 cap], .slice (some ⟨g, 0, none⟩) 2 gc] w fun e w' => e = .returned (.bool false) ∧ Below w.heap.size w w' := by
  have h34 := hide (con_calls [true, false] g gc)
  have hb0 := abD (w := w) (.cells #[.int .i64 5, .int .i64 n, .string s, .slice (some ⟨b', q', none⟩) 2 cap] 31)
  have HB := hide hb0
  have HL := hide (hb.low hb0)
  have m0 := cell_of_row (hb.low hb0) (j := 0) (by simp)
  have m1 := cell_of_row (hb.low hb0) (j := 1) (by simp)
  simp only [List.map_cons, List.map_nil, List.getElem_toArray, List.getElem_cons_zero, List.getElem_cons_succ] at m0 m1
  have h36 := hide (pubI y op4 n4 s4 a4 len4 cap4)
  have hmade : madeT 4 [y] = pubT y := by show pickT (okT (pubT y)) (pubT y) = _; rw [hok]; rfl
  rw [hmade] at h36
  have h35 := hide (hasI_calls b n0 (fK ps) (pubT y))
  rw [← hasX_fK, hh] at h35
  have HR := hide (okT_right hok)
  have HZ : Hid ((pubT y).size ≤ 400) := by show _ ≤ _; simp only [pubT, Tm.size, Tm.sizes]; omega
  have HV := hide (hy.below hb0)
  have c0 := kpc hb0 r4
  have c1 := kpc hb0 r5
  have c2 := kpc hb0 r6
  have c3 := kpc hb0 r7
  have HF := hide (hf.low hb0)
  have HT := hide (ht.on hb0)
  have HE := hide (he.on hb0)
  clear hb hb0 r4 r5 r6 r7 hy hf ht he hok hh hmade
  go_enter Tryd.func32, Tryd.ntmps32
  go_wp2_with fail
  refine (unhide h34 _ (by simp) (unhide HL)).mono ?_
  rintro e w2 ⟨rfl, rfl⟩
  go_wp2_with fail
  refine (unhide h36 _ (unhide HV) (by omega) (unhide HE)).mono ?_
  rintro e w3 ⟨op', n', s', a', len', cap', fp, rfl, hO, _, hb3⟩
  have HB3 := hide (bt (unhide HB) hb3 (Nat.le_refl _))
  have HO := hide hO.lies0
  have HF3 := hide ((unhide HF).low hb3)
  have HT3 := hide ((unhide HT).on hb3)
  have m0 := kpc hb3 m0
  have m1 := kpc hb3 m1
  clear hO hb3 c0 c1 c2 c3
  go_wp2_with fail
  refine (unhide h35 op' n' s' a' len' cap' _ (unhide HF3) (unhide HO) (unhide HR) (unhide HZ) (unhide HT3)).mono ?_
  rintro e w4 ⟨rfl, hb4⟩
  have HB4 := hide (bt (unhide HB3) hb4 (Nat.le_refl _))
  have m0 := kpc hb4 m0
  have m1 := kpc hb4 m1
  clear hb4
  go_wp2_with fail
  go_ret
  exact ⟨rfl, unhide HB4⟩

set_option maxRecDepth 100000 in
set_option maxHeartbeats 2000000 in
theorem put_ft_t (ps : List Tm) (b n0 : Nat) (x : Tm) (n : Int) (s : ByteArray) (b' q' cap g gc : Nat) (op3 n3 : Int) (s3 : ByteArray) (a3 : Option Addr) (len3 cap3 : Nat) (w : World) (hb : Bools w g [false, true]) (r0 : w.cell? ⟨b', q', none⟩ = some (.int .i64 op3)) (r1 : w.cell? ⟨b', q' + 1, none⟩ = some (.int .i64 n3)) (r2 : w.cell? ⟨b', q' + 2, none⟩ = some (.string s3)) (r3 : w.cell? ⟨b', q' + 3, none⟩ = some (.slice a3 len3 cap3)) (hx : Lies w 0 x (tmCells op3 n3 s3 a3 len3 cap3)) (hf : Facts w b n0 (fK ps)) (ht : Tab w) (he : Err w) (hok : okT (pubT x) = true) (hz : x.size ≤ 300) (hh : hasX ps (pubT x) = true) :
    Calls Tryd.prog 32 #[.map (some b), .agg #[.int .i64 5, .int .i64 n, .string s, .slice (some ⟨b', q', none⟩) 2 cap], .slice (some ⟨g, 0, none⟩) 2 gc] w fun e w' => e = .returned (.bool true) ∧ Below w.heap.size w w' := by
  have h34 := hide (con_calls [false, true] g gc)
  have hb0 := abD (w := w) (.cells #[.int .i64 5, .int .i64 n, .string s, .slice (some ⟨b', q', none⟩) 2 cap] 31)
  have HB := hide hb0
  have HL := hide (hb.low hb0)
  have m0 := cell_of_row (hb.low hb0) (j := 0) (by simp)
  have m1 := cell_of_row (hb.low hb0) (j := 1) (by simp)
  simp only [List.map_cons, List.map_nil, List.getElem_toArray, List.getElem_cons_zero, List.getElem_cons_succ] at m0 m1
  have h36 := hide (pubI x op3 n3 s3 a3 len3 cap3)
  have hmade : madeT 4 [x] = pubT x := by show pickT (okT (pubT x)) (pubT x) = _; rw [hok]; rfl
  rw [hmade] at h36
  have h35 := hide (hasI_calls b n0 (fK ps) (pubT x))
  rw [← hasX_fK, hh] at h35
  have HR := hide (okT_right hok)
  have HZ : Hid ((pubT x).size ≤ 400) := by show _ ≤ _; simp only [pubT, Tm.size, Tm.sizes]; omega
  have HV := hide (hx.below hb0)
  have c0 := kpc hb0 r0
  have c1 := kpc hb0 r1
  have c2 := kpc hb0 r2
  have c3 := kpc hb0 r3
  have HF := hide (hf.low hb0)
  have HT := hide (ht.on hb0)
  have HE := hide (he.on hb0)
  clear hb hb0 r0 r1 r2 r3 hx hf ht he hok hh hmade
  go_enter Tryd.func32, Tryd.ntmps32
  go_wp2_with fail
  refine (unhide h34 _ (by simp) (unhide HL)).mono ?_
  rintro e w2 ⟨rfl, rfl⟩
  go_wp2_with fail
  refine (unhide h36 _ (unhide HV) (by omega) (unhide HE)).mono ?_
  rintro e w3 ⟨op', n', s', a', len', cap', fp, rfl, hO, _, hb3⟩
  have HB3 := hide (bt (unhide HB) hb3 (Nat.le_refl _))
  have HO := hide hO.lies0
  have HF3 := hide ((unhide HF).low hb3)
  have HT3 := hide ((unhide HT).on hb3)
  have m0 := kpc hb3 m0
  have m1 := kpc hb3 m1
  clear hO hb3 c0 c1 c2 c3
  go_wp2_with fail
  refine (unhide h35 op' n' s' a' len' cap' _ (unhide HF3) (unhide HO) (unhide HR) (unhide HZ) (unhide HT3)).mono ?_
  rintro e w4 ⟨rfl, hb4⟩
  have HB4 := hide (bt (unhide HB3) hb4 (Nat.le_refl _))
  have m0 := kpc hb4 m0
  have m1 := kpc hb4 m1
  clear hb4
  go_wp2_with fail
  go_ret
  exact ⟨rfl, unhide HB4⟩

set_option maxRecDepth 100000 in
set_option maxHeartbeats 2000000 in
theorem put_ft_f (ps : List Tm) (b n0 : Nat) (x : Tm) (n : Int) (s : ByteArray) (b' q' cap g gc : Nat) (op3 n3 : Int) (s3 : ByteArray) (a3 : Option Addr) (len3 cap3 : Nat) (w : World) (hb : Bools w g [false, true]) (r0 : w.cell? ⟨b', q', none⟩ = some (.int .i64 op3)) (r1 : w.cell? ⟨b', q' + 1, none⟩ = some (.int .i64 n3)) (r2 : w.cell? ⟨b', q' + 2, none⟩ = some (.string s3)) (r3 : w.cell? ⟨b', q' + 3, none⟩ = some (.slice a3 len3 cap3)) (hx : Lies w 0 x (tmCells op3 n3 s3 a3 len3 cap3)) (hf : Facts w b n0 (fK ps)) (ht : Tab w) (he : Err w) (hok : okT (pubT x) = true) (hz : x.size ≤ 300) (hh : hasX ps (pubT x) = false) :
    Calls Tryd.prog 32 #[.map (some b), .agg #[.int .i64 5, .int .i64 n, .string s, .slice (some ⟨b', q', none⟩) 2 cap], .slice (some ⟨g, 0, none⟩) 2 gc] w fun e w' => e = .returned (.bool false) ∧ Below w.heap.size w w' := by
  have h34 := hide (con_calls [false, true] g gc)
  have hb0 := abD (w := w) (.cells #[.int .i64 5, .int .i64 n, .string s, .slice (some ⟨b', q', none⟩) 2 cap] 31)
  have HB := hide hb0
  have HL := hide (hb.low hb0)
  have m0 := cell_of_row (hb.low hb0) (j := 0) (by simp)
  have m1 := cell_of_row (hb.low hb0) (j := 1) (by simp)
  simp only [List.map_cons, List.map_nil, List.getElem_toArray, List.getElem_cons_zero, List.getElem_cons_succ] at m0 m1
  have h36 := hide (pubI x op3 n3 s3 a3 len3 cap3)
  have hmade : madeT 4 [x] = pubT x := by show pickT (okT (pubT x)) (pubT x) = _; rw [hok]; rfl
  rw [hmade] at h36
  have h35 := hide (hasI_calls b n0 (fK ps) (pubT x))
  rw [← hasX_fK, hh] at h35
  have HR := hide (okT_right hok)
  have HZ : Hid ((pubT x).size ≤ 400) := by show _ ≤ _; simp only [pubT, Tm.size, Tm.sizes]; omega
  have HV := hide (hx.below hb0)
  have c0 := kpc hb0 r0
  have c1 := kpc hb0 r1
  have c2 := kpc hb0 r2
  have c3 := kpc hb0 r3
  have HF := hide (hf.low hb0)
  have HT := hide (ht.on hb0)
  have HE := hide (he.on hb0)
  clear hb hb0 r0 r1 r2 r3 hx hf ht he hok hh hmade
  go_enter Tryd.func32, Tryd.ntmps32
  go_wp2_with fail
  refine (unhide h34 _ (by simp) (unhide HL)).mono ?_
  rintro e w2 ⟨rfl, rfl⟩
  go_wp2_with fail
  refine (unhide h36 _ (unhide HV) (by omega) (unhide HE)).mono ?_
  rintro e w3 ⟨op', n', s', a', len', cap', fp, rfl, hO, _, hb3⟩
  have HB3 := hide (bt (unhide HB) hb3 (Nat.le_refl _))
  have HO := hide hO.lies0
  have HF3 := hide ((unhide HF).low hb3)
  have HT3 := hide ((unhide HT).on hb3)
  have m0 := kpc hb3 m0
  have m1 := kpc hb3 m1
  clear hO hb3 c0 c1 c2 c3
  go_wp2_with fail
  refine (unhide h35 op' n' s' a' len' cap' _ (unhide HF3) (unhide HO) (unhide HR) (unhide HZ) (unhide HT3)).mono ?_
  rintro e w4 ⟨rfl, hb4⟩
  have HB4 := hide (bt (unhide HB3) hb4 (Nat.le_refl _))
  have m0 := kpc hb4 m0
  have m1 := kpc hb4 m1
  clear hb4
  go_wp2_with fail
  go_ret
  exact ⟨rfl, unhide HB4⟩

end Go.Proofs.YteminklafghgpaaDoor
