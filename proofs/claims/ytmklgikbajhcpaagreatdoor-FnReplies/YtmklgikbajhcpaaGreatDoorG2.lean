
/- The walks of spec.Hello and impl.Hello: the pair of the text hello and the open half of a term, where that is right, else the zero term; the second in new blocks of its own; nothing that was there is written. -/
import Derived.Test.YtmklgikbajhcpaaGreatDoorG1
import Derived.Test.YtmklgikbajhcpaaGreatDoorPw
import Derived.Deep.RegionHeld3
import Derived.Deep.RegionWith
namespace Go.Proofs.YtmklgikbajhcpaaGreatDoor
open Go.RowKit Go.Deep

def helloW : ByteArray := ⟨#[104, 101, 108, 108, 111]⟩
/-- A greeting. -/
def helloT (t : Tm) : Tm := madeT 3 [textT helloW, madeT 4 [t]]

set_option maxRecDepth 100000 in
set_option maxHeartbeats 2000000 in
theorem helloS (t : Tm) (op n : Int) (s : ByteArray) (a : Option Addr) (len cap : Nat) (w : World) (hl : Lies w 0 t (tmCells op n s a len cap)) (hsz : t.size ≤ 2097130) :
    Calls Tryz.prog 30 #[.agg #[.int .i64 op, .int .i64 n, .string s, .slice a len cap]] w fun e w' => ∃ op' n' s' a' len' cap', e = .returned (.agg #[.int .i64 op', .int .i64 n', .string s', .slice a' len' cap']) ∧ Lies w' w.heap.size (helloT t) (tmCells op' n' s' a' len' cap') ∧ Below w.heap.size w w' := by
  have h29 := hide (textS (⟨#[104, 101, 108, 108, 111]⟩ : ByteArray))
  have h30 := hide (fun v h => pubS t op n s a len cap v h (by omega))
  have h22 := hide (pair12 (textT helloW) (madeT 4 [t]))
  have HZ : Hid ((textT helloW).size + (madeT 4 [t]).size ≤ 2097151) := by
    show _ ≤ _
    have := madeT_le 4 [t]
    simp only [Tm.sizes, textT_size] at this ⊢
    omega
  have HTL : Hid (∀ v : World, Lies v 0 (textT helloW) (tmCells 2 0 (⟨#[104, 101, 108, 108, 111]⟩ : ByteArray) none 0 0)) := fun v => text_lies helloW (by decide) v
  have HE : Hid (helloT t = madeT 3 [textT helloW, madeT 4 [t]]) := rfl
  generalize helloT t = ST at *
  generalize textT helloW = TT at *
  generalize madeT 4 [t] = PT at *
  have hB0 : Below w.heap.size w ((w.alloc (.cells #[.int .i64 op, .int .i64 n, .string s, .slice a len cap] 29)).alloc (.cells #[.int .i64 0, .int .i64 0, .string ByteArray.empty, .slice none 0 0] 29)) := bt (ab _) (ab _) (Nat.le_refl _)
  have HX : Hid (ZBox ((w.alloc (.cells #[.int .i64 op, .int .i64 n, .string s, .slice a len cap] 29)).alloc (.cells #[.int .i64 0, .int .i64 0, .string ByteArray.empty, .slice none 0 0] 29)) (w.heap.size + 1)) := by
    have := ZBox.new (w.alloc (.cells #[.int .i64 op, .int .i64 n, .string s, .slice a len cap] 29))
    rwa [heap_size_alloc] at this
  have HS0 : Hid (((w.alloc (.cells #[.int .i64 op, .int .i64 n, .string s, .slice a len cap] 29)).alloc (.cells #[.int .i64 0, .int .i64 0, .string ByteArray.empty, .slice none 0 0] 29)).heap.size = w.heap.size + 2) := by show _ = _; simp
  have HRA : Hid (RowT 29 ((w.alloc (.cells #[.int .i64 op, .int .i64 n, .string s, .slice a len cap] 29)).alloc (.cells #[.int .i64 0, .int .i64 0, .string ByteArray.empty, .slice none 0 0] 29)) w.heap.size op n s a len cap) := (RowT.new 29 w op n s a len cap).below (ab _)
  have HLA := hide (hl.below hB0)
  have HB0 := hide hB0
  clear hl hsz hB0
  go_enter Tryz.func30, Tryz.ntmps30
  go_wp2_with fail
  generalize hgw : ((w.alloc (.cells #[.int .i64 op, .int .i64 n, .string s, .slice a len cap] 29)).alloc (.cells #[.int .i64 0, .int .i64 0, .string ByteArray.empty, .slice none 0 0] 29)) = W0 at *
  refine gw_world hgw ?_
  clear hgw
  obtain ⟨c0, c1, c2, c3⟩ := (unhide HRA).facts
  have hne1 : (w.heap.size = w.heap.size + 1) = False := by simp
  go_region_held3 (fun x => x.cell? ⟨w.heap.size, 0, none⟩ = some (.int .i64 op) ∧ x.cell? ⟨w.heap.size, 1, none⟩ = some (.int .i64 n) ∧ x.cell? ⟨w.heap.size, 2, none⟩ = some (.string s) ∧ x.cell? ⟨w.heap.size, 3, none⟩ = some (.slice a len cap)) (go_keep)
    (first
      | (go_at_call 75
         refine (unhide h29 _).mono ?_
         rintro e w2 ⟨rfl, hb2⟩
         have hb2' := hide (below_drew' hb2)
         have f0 := kpc (unhide hb2') c0
         have f1 := kpc (unhide hb2') c1
         have f2 := kpc (unhide hb2') c2
         have f3 := kpc (unhide hb2') c3)
      | (go_at_call 61
         refine (unhide h30 _ ((unhide HLA).below (unhide hb2'))).mono ?_
         rintro e w3 ⟨op3, n3, s3, a3, len3, cap3, rfl, hL3, hb3, -⟩
         have hb3' := hide hb3
         have HL3 := hide (hL3.any (Nat.zero_le _))
         have g0 := kpc hb3 f0
         have g1 := kpc hb3 f1
         have g2 := kpc hb3 f2
         have g3 := kpc hb3 f3)
      | (go_at_call 74
         refine (unhide h22 _ _ _ _ _ _ _ _ _ _ _ _ _ (unhide HTL _) (unhide HL3) (unhide HZ)).mono ?_
         rintro e w4 ⟨op', n', s', a', len', cap', rfl, hL4, hb4, -⟩
         have hb4' := hide hb4
         have HL4 := hide hL4
         obtain ⟨d0, d1, d2, d3, e0, e1, e2, e3⟩ := ((((unhide HX).below (unhide hb2')).below (unhide hb3')).below hb4).facts
         have j0 := kpc hb4 g0
         have j1 := kpc hb4 g1
         have j2 := kpc hb4 g2
         have j3 := kpc hb4 g3))
  have HB4 := hide (bt (bt (bt (unhide HB0) (unhide hb2') (Nat.le_refl _)) (unhide hb3') (Nat.le_refl _)) (unhide hb4') (Nat.le_refl _))
  have HSZ : Hid (w.heap.size + 1 < w3.heap.size) := by show _ < _; have := (unhide hb2').size; have := (unhide hb3').size; have := unhide HS0; omega
  clear f0 f1 f2 f3 c0 c1 c2 c3 g0 g1 g2 g3 j0 j1 j2 j3 hb2' hb3' hb4'
  go_wp2_with fail
  exact bodyPost_ret (v := .agg #[.int .i64 op', .int .i64 n', .string s', .slice a' len' cap']) (by simp [results, Tryz.results30, go_sem, d0, d1, d2, d3]) rfl ⟨op', n', s', a', len', cap', rfl, by rw [unhide HE]; exact set4_lies (unhide HL4) (by have := unhide HSZ; omega) w.heap.size (by have := unhide HSZ; omega), set4_below (unhide HB4) (by omega)⟩

set_option maxRecDepth 100000 in
set_option maxHeartbeats 2000000 in
theorem helloI (t : Tm) (op n : Int) (s : ByteArray) (a : Option Addr) (len cap : Nat) (w : World) (hl : Lies w 0 t (tmCells op n s a len cap)) (hsz : t.size ≤ 2097130) (herr : Err w) :
    Calls Tryz.prog 29 #[.agg #[.int .i64 op, .int .i64 n, .string s, .slice a len cap]] w fun e w' => ∃ op' n' s' a' len' cap' fp, e = .returned (.agg #[.int .i64 op', .int .i64 n', .string s', .slice a' len' cap']) ∧ Own w' (helloT t) (tmCells op' n' s' a' len' cap') fp ∧ (fp.Nodup ∧ ∀ x ∈ fp, w.heap.size ≤ x) ∧ Below w.heap.size w w' := by
  have h32 := hide (wordI (⟨#[104, 101, 108, 108, 111]⟩ : ByteArray))
  have h33 := hide (fun v h he => pubI t op n s a len cap v h (by omega) he)
  have h25 := hide (row1 (textT helloW) (madeT 4 [t]))
  have h31 := hide (new_any (twoT (textT helloW) (madeT 4 [t])))
  have HZ : Hid ((twoT (textT helloW) (madeT 4 [t])).size ≤ 2097152) := by
    show _ ≤ _
    have := madeT_le 4 [t]
    simp only [twoT, Tm.size, Tm.sizes, textT_size] at this ⊢
    omega
  have HTL : Hid (∀ v : World, Lies v 0 (textT helloW) (tmCells 2 0 (⟨#[104, 101, 108, 108, 111]⟩ : ByteArray) none 0 0)) := fun v => text_lies helloW (by decide) v
  have HE : Hid (helloT t = pickT (okT (twoT (textT helloW) (madeT 4 [t]))) (twoT (textT helloW) (madeT 4 [t]))) := rfl
  generalize helloT t = ST at *
  generalize twoT (textT helloW) (madeT 4 [t]) = RT at *
  generalize textT helloW = TT at *
  generalize madeT 4 [t] = PT at *
  have hB0 : Below w.heap.size w ((w.alloc (.cells #[.int .i64 op, .int .i64 n, .string s, .slice a len cap] 29)).alloc (.cells #[.int .i64 0, .int .i64 0, .string ByteArray.empty, .slice none 0 0] 29)) := bt (ab _) (ab _) (Nat.le_refl _)
  have HX : Hid (ZBox ((w.alloc (.cells #[.int .i64 op, .int .i64 n, .string s, .slice a len cap] 29)).alloc (.cells #[.int .i64 0, .int .i64 0, .string ByteArray.empty, .slice none 0 0] 29)) (w.heap.size + 1)) := by
    have := ZBox.new (w.alloc (.cells #[.int .i64 op, .int .i64 n, .string s, .slice a len cap] 29))
    rwa [heap_size_alloc] at this
  have HS0 : Hid (((w.alloc (.cells #[.int .i64 op, .int .i64 n, .string s, .slice a len cap] 29)).alloc (.cells #[.int .i64 0, .int .i64 0, .string ByteArray.empty, .slice none 0 0] 29)).heap.size = w.heap.size + 2) := by show _ = _; simp
  have HRA : Hid (RowT 29 ((w.alloc (.cells #[.int .i64 op, .int .i64 n, .string s, .slice a len cap] 29)).alloc (.cells #[.int .i64 0, .int .i64 0, .string ByteArray.empty, .slice none 0 0] 29)) w.heap.size op n s a len cap) := (RowT.new 29 w op n s a len cap).below (ab _)
  have HLA := hide (hl.below hB0)
  have HER := hide (herr.on hB0)
  have HB0 := hide hB0
  clear hl hsz hB0 herr
  go_enter Tryz.func29, Tryz.ntmps29
  go_wp2_with fail
  generalize hgw : ((w.alloc (.cells #[.int .i64 op, .int .i64 n, .string s, .slice a len cap] 29)).alloc (.cells #[.int .i64 0, .int .i64 0, .string ByteArray.empty, .slice none 0 0] 29)) = W0 at *
  refine gw_world hgw ?_
  clear hgw
  obtain ⟨c0, c1, c2, c3⟩ := (unhide HRA).facts
  have hne1 : (w.heap.size = w.heap.size + 1) = False := by simp
  go_region_held3 (fun x => x.cell? ⟨w.heap.size, 0, none⟩ = some (.int .i64 op) ∧ x.cell? ⟨w.heap.size, 1, none⟩ = some (.int .i64 n) ∧ x.cell? ⟨w.heap.size, 2, none⟩ = some (.string s) ∧ x.cell? ⟨w.heap.size, 3, none⟩ = some (.slice a len cap)) (go_keep)
    (first
      | (go_at_call 92
         refine (unhide h32 _).mono ?_
         rintro e w2 ⟨rfl, hb2⟩
         have hb2' := hide (below_drew' hb2)
         have f0 := kpc (unhide hb2') c0
         have f1 := kpc (unhide hb2') c1
         have f2 := kpc (unhide hb2') c2
         have f3 := kpc (unhide hb2') c3)
      | (go_at_call 38
         refine (unhide h33 _ ((unhide HLA).below (unhide hb2')) ((unhide HER).on (unhide hb2'))).mono ?_
         rintro e w3 ⟨op3, n3, s3, a3, len3, cap3, f3p, rfl, hO3, _, hb3⟩
         have hb3' := hide hb3
         have HL3 := hide hO3.lies0
         have g0 := kpc hb3 f0
         have g1 := kpc hb3 f1
         have g2 := kpc hb3 f2
         have g3 := kpc hb3 f3
         have hlt1 := lt_of_cell g0
         have hnl1 := Nat.ne_of_lt hlt1
         have hnl1' := Ne.symm hnl1)
      | (go_at_call 91
         refine (unhide h25 _ _ _ _ _ _ op3 n3 s3 a3 len3 cap3 w3.heap.size 0 w3 _ (ab _) (unhide HTL _) (unhide HL3) (box_cell w3 _ 29 0 _ rfl) (box_cell w3 _ 29 1 _ rfl) (box_cell w3 _ 29 2 _ rfl) (box_cell w3 _ 29 3 _ rfl)).mono ?_
         rintro e w5 ⟨a5, rfl, hR5, hb5⟩
         have hb35 := bt (ab _) hb5 (Nat.le_refl _)
         have hb5' := hide hb35
         have HL5 := hide (hR5 w5 hb35 (fun _ _ _ => rfl))
         have HER5 := hide ((((unhide HER).on (unhide hb2')).on (unhide hb3')).on hb35)
         have i0 := kpc hb35 g0
         have i1 := kpc hb35 g1
         have i2 := kpc hb35 g2
         have i3 := kpc hb35 g3)
      | (go_at_call 90
         refine (unhide h31 _ _ _ _ _ _ _ (unhide HL5) (unhide HZ) (unhide HER5)).mono ?_
         rintro e w4 ⟨op', n', s', a', len', cap', fp, rfl, hO4, ⟨hnd, hge⟩, hb4⟩
         have hb4' := hide hb4
         have HO4 := hide hO4
         have HND := hide hnd
         have HGE := hide hge
         obtain ⟨d0, d1, d2, d3, e0, e1, e2, e3⟩ := (((((unhide HX).below (unhide hb2')).below (unhide hb3')).below (unhide hb5')).below hb4).facts
         have j0 := kpc hb4 i0
         have j1 := kpc hb4 i1
         have j2 := kpc hb4 i2
         have j3 := kpc hb4 i3))
  have HB4 := hide (bt (bt (bt (bt (unhide HB0) (unhide hb2') (Nat.le_refl _)) (unhide hb3') (Nat.le_refl _)) (unhide hb5') (Nat.le_refl _)) (unhide hb4') (Nat.le_refl _))
  have HSZ : Hid (w.heap.size + 1 < w5.heap.size) := by show _ < _; have := (unhide hb2').size; have := (unhide hb3').size; have := (unhide hb5').size; have := unhide HS0; omega
  clear f0 f1 f2 f3 c0 c1 c2 c3 g0 g1 g2 g3 i0 i1 i2 i3 j0 j1 j2 j3 hb2' hb3' hb4' hb5'
  go_wp2_with fail
  exact bodyPost_ret (v := .agg #[.int .i64 op', .int .i64 n', .string s', .slice a' len' cap']) (by simp [results, Tryz.results29, go_sem, d0, d1, d2, d3]) rfl ⟨op', n', s', a', len', cap', fp, rfl, by rw [unhide HE]; exact Own.keep _ _ _ (unhide HO4) (fun b hb => set4_heap _ _ _ _ _ _ b (by have := unhide HGE b hb; have := unhide HSZ; omega)), ⟨unhide HND, fun x hx => by have := unhide HGE x hx; have := unhide HSZ; omega⟩, set4_below (unhide HB4) (by omega)⟩


end Go.Proofs.YtmklgikbajhcpaaGreatDoor
