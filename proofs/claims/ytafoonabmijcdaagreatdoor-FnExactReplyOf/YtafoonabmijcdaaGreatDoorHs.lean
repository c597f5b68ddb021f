
/- The walks of spec.Hash and impl.Hash: of whatever term lies in memory they answer its hash where that is right, else the zero term; the second in new blocks of its own; nothing that was there is written. -/
import Derived.Test.YtafoonabmijcdaaGreatDoorNw
namespace Go.Proofs.YtafoonabmijcdaaGreatDoor
open Go.RowKit Go.Deep

/-- What is made of a term under an operator. -/
def madeT (op : Int) (ks : List Tm) : Tm := pickT (okT (.node op 0 ByteArray.empty ks)) (.node op 0 ByteArray.empty ks)

set_option maxRecDepth 100000 in
/-- A term of one kid that was laid in a block of its own. -/
theorem lies_one {w : World} {t : Tm} {cs : List Value} {L : Nat} (h : Lies w L t cs) (hL : L ≤ w.heap.size) (op : Int) (hop : (Lit.int .i64 op).wf = true) : Lies (w.alloc (.cells cs.toArray 28)) L (.node op 0 ByteArray.empty [t]) (tmCells op 0 ByteArray.empty (some ⟨w.heap.size, 0, none⟩) 1 1) := by
  simp only [Lies, LiesAll]
  refine ⟨_, _, rfl, ⟨by simp [maxLen], by simp, by simp [maxLen]⟩, ⟨hop, by decide⟩, ⟨w.heap.size, 0, cs, rfl, hL, fun j v hj => ?_, h.below ((Below.refl _ _).alloc (Nat.le_refl _) _)⟩, trivial⟩
  have := box_at w cs j v hj
  simpa using this

/-- The box of a result, still as it was made. -/
def ZBox (w : World) (g : Nat) : Prop := w.heap[g]? = some (.cells #[.int .i64 0, .int .i64 0, .string ByteArray.empty, .slice none 0 0] 28 (0, 0))
set_option maxRecDepth 100000 in
theorem ZBox.new (w : World) : ZBox (w.alloc (.cells #[.int .i64 0, .int .i64 0, .string ByteArray.empty, .slice none 0 0] 28)) w.heap.size := heap_alloc_new w _
set_option maxRecDepth 100000 in
theorem ZBox.below {w w' : World} {g : Nat} (h : ZBox w g) (hb : Below w.heap.size w w') : ZBox w' g := (hb.block g (lt_of_heap h)).trans h
set_option maxRecDepth 100000 in
theorem ZBox.facts {w : World} {g : Nat} (h : ZBox w g) : w.cell? ⟨g, 0, none⟩ = some (.int .i64 0) ∧ w.cell? ⟨g, 1, none⟩ = some (.int .i64 0) ∧ w.cell? ⟨g, 2, none⟩ = some (.string ByteArray.empty) ∧ w.cell? ⟨g, 3, none⟩ = some (.slice none 0 0) ∧
    w.frozen? ⟨g, 0, none⟩ = false ∧ w.frozen? ⟨g, 1, none⟩ = false ∧ w.frozen? ⟨g, 2, none⟩ = false ∧ w.frozen? ⟨g, 3, none⟩ = false :=
  ⟨cell_of_row h (by simp), cell_of_row h (by simp), cell_of_row h (by simp), cell_of_row h (by simp), frozen_of_row h, frozen_of_row h, frozen_of_row h, frozen_of_row h⟩
set_option maxRecDepth 100000 in
theorem set4_lies {w : World} {L g : Nat} {x0 x1 x2 x3 : Value} {t : Tm} {cs : List Value} (h : Lies w L t cs) (hg : g < L) (L' : Nat) (hL : L' ≤ L) : Lies ((((w.setCell ⟨g, 0, none⟩ x0).setCell ⟨g, 1, none⟩ x1).setCell ⟨g, 2, none⟩ x2).setCell ⟨g, 3, none⟩ x3) L' t cs :=
  Lies.carry hL (fun b _ hb _ => World.cell?_of_block (set4_heap w g x0 x1 x2 x3 b (by omega))) t cs h
set_option maxRecDepth 100000 in
theorem ab {w : World} (x : Obj) : Below w.heap.size w (w.alloc x) := (Below.refl _ _).alloc (Nat.le_refl _) _
set_option maxRecDepth 100000 in
theorem bt {B : Nat} {w v v' : World} (h : Below B w v) (hb : Below v.heap.size v v') (hB : B ≤ w.heap.size) : Below B w v' := h.trans (hb.mono (Nat.le_trans hB h.size))

set_option maxRecDepth 100000 in
set_option maxHeartbeats 1000000 in
theorem hash15 (t : Tm) (op n : Int) (s : ByteArray) (a : Option Addr) (len cap : Nat) (w : World) (hl : Lies w 0 t (tmCells op n s a len cap)) (hsz : t.size ≤ 2097151) :
    Calls Tryz.prog 29 #[.agg #[.int .i64 op, .int .i64 n, .string s, .slice a len cap]] w fun e w' => ∃ op' n' s' a' len' cap', e = .returned (.agg #[.int .i64 op', .int .i64 n', .string s', .slice a' len' cap']) ∧ Lies w' w.heap.size (madeT 6 [t]) (tmCells op' n' s' a' len' cap') ∧ Below w.heap.size w w' ∧ len' = cap' := by
  have h25 := hide (cz_calls t op n s a len cap)
  have h17 := hide (l3any (.node 6 0 ByteArray.empty [t]))
  have HZ : Hid ((Tm.node 6 0 ByteArray.empty [t]).size ≤ 2097152) := by show _ ≤ _; simp only [Tm.size, Tm.sizes]; omega
  have hB0 : Below w.heap.size w ((w.alloc (.cells #[.int .i64 op, .int .i64 n, .string s, .slice a len cap] 28)).alloc (.cells #[.int .i64 0, .int .i64 0, .string ByteArray.empty, .slice none 0 0] 28)) := bt (ab _) (ab _) (Nat.le_refl _)
  have HL := hide (hl.below hB0)
  have HB0 := hide hB0
  have HX : Hid (ZBox ((w.alloc (.cells #[.int .i64 op, .int .i64 n, .string s, .slice a len cap] 28)).alloc (.cells #[.int .i64 0, .int .i64 0, .string ByteArray.empty, .slice none 0 0] 28)) (w.heap.size + 1)) := by
    have := ZBox.new (w.alloc (.cells #[.int .i64 op, .int .i64 n, .string s, .slice a len cap] 28))
    rwa [heap_size_alloc] at this
  clear hl hB0
  go_enter Tryz.func29, Tryz.ntmps29
  go_wp2_with fail
  refine (unhide h25 _ (unhide HL) (by omega)).mono ?_
  rintro e w2 ⟨a2, cap2, f2, rfl, hO2, ⟨_, hge2⟩, hb2⟩
  have hB3 := bt (bt (unhide HB0) hb2 (Nat.le_refl _)) (ab (.cells #[.int .i64 op, .int .i64 n, .string s, .slice a2 len cap2] 28)) (Nat.le_refl _)
  have HB3 := hide hB3
  have HX3 := hide (((unhide HX).below hb2).below (ab (.cells #[.int .i64 op, .int .i64 n, .string s, .slice a2 len cap2] 28)))
  have HT3 := hide (lies_one (Own.lies _ _ _ hO2 hge2) hb2.size 6 (by decide))
  simp only [heap_size_alloc] at HT3
  clear hO2 hb2 hB3 HB0 HX HL hge2
  go_wp2_with fail
  refine (unhide h17 _ _ _ _ _ _ _ _ (unhide HT3) (unhide HZ)).mono ?_
  rintro e w4 ⟨op', n', s', a', len', cap', rfl, hL4, hb4, htt⟩
  have HTT := hide (htt rfl)
  have HB4 := hide (bt (unhide HB3) hb4 (Nat.le_refl _))
  have hX4 := (unhide HX3).below hb4
  have HL4 := hide hL4
  obtain ⟨d0, d1, d2, d3, e0, e1, e2, e3⟩ := hX4.facts
  clear hb4 hL4 hX4 HB3 HX3 HT3 htt
  go_wp2_with fail
  exact bodyPost_ret (v := .agg #[.int .i64 op', .int .i64 n', .string s', .slice a' len' cap']) (by simp [results, Tryz.results29, go_sem, d0, d1, d2, d3]) rfl ⟨op', n', s', a', len', cap', rfl, set4_lies (unhide HL4) (by omega) _ (by omega), set4_below (unhide HB4) (by omega), unhide HTT⟩

set_option maxRecDepth 100000 in
set_option maxHeartbeats 1000000 in
theorem hash16 (t : Tm) (op n : Int) (s : ByteArray) (a : Option Addr) (len cap : Nat) (w : World) (hl : Lies w 0 t (tmCells op n s a len cap)) (hsz : t.size ≤ 2097151) (herr : Err w) :
    Calls Tryz.prog 50 #[.agg #[.int .i64 op, .int .i64 n, .string s, .slice a len cap]] w fun e w' => ∃ op' n' s' a' len' cap' fp, e = .returned (.agg #[.int .i64 op', .int .i64 n', .string s', .slice a' len' cap']) ∧ Own w' (madeT 6 [t]) (tmCells op' n' s' a' len' cap') fp ∧ (fp.Nodup ∧ ∀ x ∈ fp, w.heap.size ≤ x) ∧ Below w.heap.size w w' := by
  have HER := hide herr
  clear herr
  have h18 := hide (new_any (.node 6 0 ByteArray.empty [t]))
  have HZ : Hid ((Tm.node 6 0 ByteArray.empty [t]).size ≤ 2097152) := by show _ ≤ _; simp only [Tm.size, Tm.sizes]; omega
  have hB0 : Below w.heap.size w ((w.alloc (.cells #[.int .i64 op, .int .i64 n, .string s, .slice a len cap] 28)).alloc (.cells #[.int .i64 0, .int .i64 0, .string ByteArray.empty, .slice none 0 0] 28)) := bt (ab _) (ab _) (Nat.le_refl _)
  have hX : ZBox ((w.alloc (.cells #[.int .i64 op, .int .i64 n, .string s, .slice a len cap] 28)).alloc (.cells #[.int .i64 0, .int .i64 0, .string ByteArray.empty, .slice none 0 0] 28)) (w.heap.size + 1) := by
    have := ZBox.new (w.alloc (.cells #[.int .i64 op, .int .i64 n, .string s, .slice a len cap] 28))
    rwa [heap_size_alloc] at this
  have HB3 := hide (bt hB0 (ab (.cells #[.int .i64 op, .int .i64 n, .string s, .slice a len cap] 28)) (Nat.le_refl _))
  have HX3 := hide (hX.below (ab (.cells #[.int .i64 op, .int .i64 n, .string s, .slice a len cap] 28)))
  have HT3 := hide (lies_one (hl.below hB0) (Nat.zero_le _) 6 (by decide))
  simp only [heap_size_alloc] at HT3
  clear hl hB0 hX
  go_enter Tryz.func50, Tryz.ntmps50
  go_wp2_with fail
  refine (unhide h18 _ _ _ _ _ _ _ (unhide HT3) (unhide HZ) ((unhide HER).on (unhide HB3))).mono ?_
  rintro e w4 ⟨op', n', s', a', len', cap', fp, rfl, hO4, ⟨hnd, hge⟩, hb4⟩
  have HB4 := hide (bt (unhide HB3) hb4 (Nat.le_refl _))
  have hX4 := (unhide HX3).below hb4
  have HO4 := hide hO4
  have HND := hide hnd
  simp only [heap_size_alloc] at hge
  have HGE := hide hge
  obtain ⟨d0, d1, d2, d3, e0, e1, e2, e3⟩ := hX4.facts
  clear hb4 hO4 hX4 HB3 HX3 HT3 hnd hge
  go_wp2_with fail
  exact bodyPost_ret (v := .agg #[.int .i64 op', .int .i64 n', .string s', .slice a' len' cap']) (by simp [results, Tryz.results50, go_sem, d0, d1, d2, d3]) rfl ⟨op', n', s', a', len', cap', fp, rfl, Own.keep _ _ _ (unhide HO4) (fun b hb => set4_heap _ _ _ _ _ _ b (by have := unhide HGE b hb; omega)), ⟨unhide HND, fun x hx => by have := unhide HGE x hx; omega⟩, set4_below (unhide HB4) (by omega)⟩

end Go.Proofs.YtafoonabmijcdaaGreatDoor
