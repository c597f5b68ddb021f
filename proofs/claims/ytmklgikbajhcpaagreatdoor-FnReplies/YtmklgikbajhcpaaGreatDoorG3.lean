
/- The walks of spec.Done and impl.Done: the text done, sealed by the key of a share, where that is right, else the zero term; the second in new blocks of its own; nothing that was there is written. -/
import Derived.Test.YtmklgikbajhcpaaGreatDoorG1
import Derived.Deep.RegionHeld3
import Derived.Deep.RegionWith
namespace Go.Proofs.YtmklgikbajhcpaaGreatDoor
open Go.RowKit Go.Deep

def doneW : ByteArray := ⟨#[100, 111, 110, 101]⟩
/-- That a share was come to. -/
def doneT (t : Tm) : Tm := sealT (keyT t 1) 0 (textT doneW)
theorem keyT_200 (t : Tm) (m : Int) : (keyT t m).size ≤ 200 := by
  have h : ∀ x : Tm, (pickT (okT x) x).size ≤ 200 := fun x => by
    unfold pickT
    split
    · rename_i h
      simp only [okT, Bool.and_eq_true, decide_eq_true_eq] at h
      exact h.1
    · simp [Tm.size, Tm.sizes]
  exact h _

set_option maxRecDepth 100000 in
set_option maxHeartbeats 2000000 in
theorem doneS (t : Tm) (op n : Int) (s : ByteArray) (a : Option Addr) (len cap : Nat) (w : World) (hl : Lies w 0 t (tmCells op n s a len cap)) (hsz : t.size ≤ 2097130) :
    Calls Tryz.prog 32 #[.agg #[.int .i64 op, .int .i64 n, .string s, .slice a len cap]] w fun e w' => ∃ op' n' s' a' len' cap', e = .returned (.agg #[.int .i64 op', .int .i64 n', .string s', .slice a' len' cap']) ∧ Lies w' w.heap.size (doneT t) (tmCells op' n' s' a' len' cap') ∧ Below w.heap.size w w' := by
  have htx := hide (textS (⟨#[100, 111, 110, 101]⟩ : ByteArray))
  have hke := hide (fun v h => keyS t 1 op n s a len cap v h (by omega) (by decide) (by decide))
  have hse := hide (sealS (keyT t 1) (textT doneW) 0)
  have HZ : Hid ((keyT t 1).size + (textT doneW).size ≤ 2097140) := by
    show _ ≤ _
    have := keyT_200 t 1
    rw [textT_size]
    omega
  have HTL : Hid (∀ v : World, Lies v 0 (textT doneW) (tmCells 2 0 (⟨#[100, 111, 110, 101]⟩ : ByteArray) none 0 0)) := fun v => text_lies doneW (by decide) v
  have HE : Hid (doneT t = sealT (keyT t 1) 0 (textT doneW)) := rfl
  have hb0 : Hid ((-9223372036854775808 : Int) ≤ 0 ∧ (0 : Int) ≤ 9223372036854775807) := by show _ ∧ _; decide
  generalize sealT (keyT t 1) 0 (textT doneW) = QT at *
  generalize doneT t = ST at *
  generalize textT doneW = TT at *
  generalize keyT t 1 = KT at *
  have hB0 : Below w.heap.size w ((w.alloc (.cells #[.int .i64 op, .int .i64 n, .string s, .slice a len cap] 29)).alloc (.cells #[.int .i64 0, .int .i64 0, .string ByteArray.empty, .slice none 0 0] 29)) := bt (ab _) (ab _) (Nat.le_refl _)
  have HX : Hid (ZBox ((w.alloc (.cells #[.int .i64 op, .int .i64 n, .string s, .slice a len cap] 29)).alloc (.cells #[.int .i64 0, .int .i64 0, .string ByteArray.empty, .slice none 0 0] 29)) (w.heap.size + 1)) := by
    have := ZBox.new (w.alloc (.cells #[.int .i64 op, .int .i64 n, .string s, .slice a len cap] 29))
    rwa [heap_size_alloc] at this
  have HS0 : Hid (((w.alloc (.cells #[.int .i64 op, .int .i64 n, .string s, .slice a len cap] 29)).alloc (.cells #[.int .i64 0, .int .i64 0, .string ByteArray.empty, .slice none 0 0] 29)).heap.size = w.heap.size + 2) := by show _ = _; simp
  have HRA : Hid (RowT 29 ((w.alloc (.cells #[.int .i64 op, .int .i64 n, .string s, .slice a len cap] 29)).alloc (.cells #[.int .i64 0, .int .i64 0, .string ByteArray.empty, .slice none 0 0] 29)) w.heap.size op n s a len cap) := (RowT.new 29 w op n s a len cap).below (ab _)
  have HLA := hide (hl.below hB0)
  have HB0 := hide hB0
  clear hl hsz hB0 HRA
  go_enter Tryz.func32, Tryz.ntmps32
  go_wp2_with fail
  refine (unhide hke _ (unhide HLA)).mono ?_
  rintro e w2 ⟨op3, n3, s3, a3, len3, cap3, rfl, hL2, hb2⟩
  have HL2 := hide (hL2.any (Nat.zero_le _))
  have HB2 := hide (bt (unhide HB0) hb2 (Nat.le_refl _))
  have HX2 := hide ((unhide HX).below hb2)
  clear hL2 hb2 HB0 HX HLA
  go_wp2_with fail
  refine (unhide htx _).mono ?_
  rintro e w3 ⟨rfl, hb3⟩
  have HL3 := hide ((unhide HL2).below hb3)
  have HB3 := hide (bt (unhide HB2) hb3 (Nat.le_refl _))
  have HX3 := hide ((unhide HX2).below hb3)
  have HSZ : Hid (w.heap.size + 1 < w3.heap.size) := lt_of_heap (unhide HX3)
  clear hb3 HB2 HX2 HL2
  go_wp2_with fail
  refine (unhide hse _ _ _ _ _ _ _ _ _ _ _ _ _ (unhide HL3) (unhide HTL _) (unhide HZ) (unhide hb0).1 (unhide hb0).2).mono ?_
  rintro e w4 ⟨op', n', s', a', len', cap', rfl, hL4, hb4, -⟩
  have HL4 := hide hL4
  have HB4 := hide (bt (unhide HB3) hb4 (Nat.le_refl _))
  obtain ⟨d0, d1, d2, d3, e0, e1, e2, e3⟩ := ((unhide HX3).below hb4).facts
  clear hL4 hb4 HB3 HX3
  go_wp2_with fail
  exact bodyPost_ret (v := .agg #[.int .i64 op', .int .i64 n', .string s', .slice a' len' cap']) (by simp [results, Tryz.results32, go_sem, d0, d1, d2, d3]) rfl ⟨op', n', s', a', len', cap', rfl, by rw [unhide HE]; exact set4_lies (unhide HL4) (by have := unhide HSZ; omega) w.heap.size (by have := unhide HSZ; omega), set4_below (unhide HB4) (by omega)⟩

set_option maxRecDepth 100000 in
set_option maxHeartbeats 2000000 in
theorem doneI (t : Tm) (op n : Int) (s : ByteArray) (a : Option Addr) (len cap : Nat) (w : World) (hl : Lies w 0 t (tmCells op n s a len cap)) (hsz : t.size ≤ 2097130) (htab : Tab w) (herr : Err w) :
    Calls Tryz.prog 31 #[.agg #[.int .i64 op, .int .i64 n, .string s, .slice a len cap]] w fun e w' => ∃ op' n' s' a' len' cap' fp, e = .returned (.agg #[.int .i64 op', .int .i64 n', .string s', .slice a' len' cap']) ∧ Own w' (doneT t) (tmCells op' n' s' a' len' cap') fp ∧ (fp.Nodup ∧ ∀ x ∈ fp, w.heap.size ≤ x) ∧ Below w.heap.size w w' := by
  have htx := hide (wordI (⟨#[100, 111, 110, 101]⟩ : ByteArray))
  have hke := hide (fun v h => keyI t 1 op n s a len cap v h (by omega) (by decide) (by decide))
  have hse := hide (sealI (keyT t 1) (textT doneW) 0)
  have HZ : Hid ((keyT t 1).size + (textT doneW).size ≤ 2097140) := by
    show _ ≤ _
    have := keyT_200 t 1
    rw [textT_size]
    omega
  have HTL : Hid (∀ v : World, Lies v 0 (textT doneW) (tmCells 2 0 (⟨#[100, 111, 110, 101]⟩ : ByteArray) none 0 0)) := fun v => text_lies doneW (by decide) v
  have HE : Hid (doneT t = sealT (keyT t 1) 0 (textT doneW)) := rfl
  have hb0 : Hid ((-9223372036854775808 : Int) ≤ 0 ∧ (0 : Int) ≤ 9223372036854775807) := by show _ ∧ _; decide
  generalize sealT (keyT t 1) 0 (textT doneW) = QT at *
  generalize doneT t = ST at *
  generalize textT doneW = TT at *
  generalize keyT t 1 = KT at *
  have hB0 : Below w.heap.size w ((w.alloc (.cells #[.int .i64 op, .int .i64 n, .string s, .slice a len cap] 29)).alloc (.cells #[.int .i64 0, .int .i64 0, .string ByteArray.empty, .slice none 0 0] 29)) := bt (ab _) (ab _) (Nat.le_refl _)
  have HX : Hid (ZBox ((w.alloc (.cells #[.int .i64 op, .int .i64 n, .string s, .slice a len cap] 29)).alloc (.cells #[.int .i64 0, .int .i64 0, .string ByteArray.empty, .slice none 0 0] 29)) (w.heap.size + 1)) := by
    have := ZBox.new (w.alloc (.cells #[.int .i64 op, .int .i64 n, .string s, .slice a len cap] 29))
    rwa [heap_size_alloc] at this
  have HS0 : Hid (((w.alloc (.cells #[.int .i64 op, .int .i64 n, .string s, .slice a len cap] 29)).alloc (.cells #[.int .i64 0, .int .i64 0, .string ByteArray.empty, .slice none 0 0] 29)).heap.size = w.heap.size + 2) := by show _ = _; simp
  have HRA : Hid (RowT 29 ((w.alloc (.cells #[.int .i64 op, .int .i64 n, .string s, .slice a len cap] 29)).alloc (.cells #[.int .i64 0, .int .i64 0, .string ByteArray.empty, .slice none 0 0] 29)) w.heap.size op n s a len cap) := (RowT.new 29 w op n s a len cap).below (ab _)
  have HLA := hide (hl.below hB0)
  have HB0 := hide hB0
  have HTB := hide (htab.on hB0)
  have HER := hide (herr.on hB0)
  clear hl hsz hB0 HRA htab herr
  go_enter Tryz.func31, Tryz.ntmps31
  go_wp2_with fail
  refine (unhide hke _ (unhide HLA) (unhide HTB) (unhide HER)).mono ?_
  rintro e w2 ⟨op3, n3, s3, a3, len3, cap3, f3, rfl, hL2, _, hb2⟩
  have HL2 := hide hL2.lies0
  have HTB2 := hide ((unhide HTB).on hb2)
  have HER2 := hide ((unhide HER).on hb2)
  have HB2 := hide (bt (unhide HB0) hb2 (Nat.le_refl _))
  have HX2 := hide ((unhide HX).below hb2)
  clear hL2 hb2 HB0 HX HLA HTB HER
  go_wp2_with fail
  refine (unhide htx _).mono ?_
  rintro e w3 ⟨rfl, hb3⟩
  have HL3 := hide ((unhide HL2).below hb3)
  have HB3 := hide (bt (unhide HB2) hb3 (Nat.le_refl _))
  have HX3 := hide ((unhide HX2).below hb3)
  have HTB3 := hide ((unhide HTB2).on hb3)
  have HER3 := hide ((unhide HER2).on hb3)
  have HSZ : Hid (w.heap.size + 1 < w3.heap.size) := lt_of_heap (unhide HX3)
  clear hb3 HB2 HX2 HL2 HTB2 HER2
  go_wp2_with fail
  refine (unhide hse _ _ _ _ _ _ _ _ _ _ _ _ _ (unhide HL3) (unhide HTL _) (unhide HZ) (unhide hb0).1 (unhide hb0).2 (unhide HTB3) (unhide HER3)).mono ?_
  rintro e w4 ⟨op', n', s', a', len', cap', fp, rfl, hO4, ⟨hnd, hge⟩, hb4⟩
  have HO4 := hide hO4
  have HND := hide hnd
  have HGE := hide hge
  have HB4 := hide (bt (unhide HB3) hb4 (Nat.le_refl _))
  obtain ⟨d0, d1, d2, d3, e0, e1, e2, e3⟩ := ((unhide HX3).below hb4).facts
  clear hO4 hnd hge hb4 HB3 HX3
  go_wp2_with fail
  exact bodyPost_ret (v := .agg #[.int .i64 op', .int .i64 n', .string s', .slice a' len' cap']) (by simp [results, Tryz.results31, go_sem, d0, d1, d2, d3]) rfl ⟨op', n', s', a', len', cap', fp, rfl, by rw [unhide HE]; exact Own.keep _ _ _ (unhide HO4) (fun b hb => set4_heap _ _ _ _ _ _ b (by have := unhide HGE b hb; have := unhide HSZ; omega)), ⟨unhide HND, fun x hx => by have := unhide HGE x hx; have := unhide HSZ; omega⟩, set4_below (unhide HB4) (by omega)⟩


end Go.Proofs.YtmklgikbajhcpaaGreatDoor
