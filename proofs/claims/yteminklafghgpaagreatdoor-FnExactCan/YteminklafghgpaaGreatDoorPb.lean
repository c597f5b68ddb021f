
/- The walks of spec.Pub and impl.Pub: of whatever term lies in memory they answer its open half where that is right, else the zero term; the second in new blocks of its own; nothing that was there is written. -/
import Derived.Test.YteminklafghgpaaGreatDoorHs
namespace Go.Proofs.YteminklafghgpaaGreatDoor
open Go.RowKit Go.Deep

set_option maxRecDepth 100000 in
set_option maxHeartbeats 1000000 in
theorem pubI (t : Tm) (op n : Int) (s : ByteArray) (a : Option Addr) (len cap : Nat) (w : World) (hl : Lies w 0 t (tmCells op n s a len cap)) (hsz : t.size ≤ 2097151) (herr : Err w) :
    Calls Tryz.prog 74 #[.agg #[.int .i64 op, .int .i64 n, .string s, .slice a len cap]] w fun e w' => ∃ op' n' s' a' len' cap' fp, e = .returned (.agg #[.int .i64 op', .int .i64 n', .string s', .slice a' len' cap']) ∧ Own w' (madeT 4 [t]) (tmCells op' n' s' a' len' cap') fp ∧ (fp.Nodup ∧ ∀ x ∈ fp, w.heap.size ≤ x) ∧ Below w.heap.size w w' := by
  have HER := hide herr
  clear herr
  have h18 := hide (new_any (.node 4 0 ByteArray.empty [t]))
  have HZ : Hid ((Tm.node 4 0 ByteArray.empty [t]).size ≤ 2097152) := by show _ ≤ _; simp only [Tm.size, Tm.sizes]; omega
  have hB0 : Below w.heap.size w ((w.alloc (.cells #[.int .i64 op, .int .i64 n, .string s, .slice a len cap] 35)).alloc (.cells #[.int .i64 0, .int .i64 0, .string ByteArray.empty, .slice none 0 0] 35)) := bt (ab _) (ab _) (Nat.le_refl _)
  have hX : ZBox ((w.alloc (.cells #[.int .i64 op, .int .i64 n, .string s, .slice a len cap] 35)).alloc (.cells #[.int .i64 0, .int .i64 0, .string ByteArray.empty, .slice none 0 0] 35)) (w.heap.size + 1) := by
    have := ZBox.new (w.alloc (.cells #[.int .i64 op, .int .i64 n, .string s, .slice a len cap] 35))
    rwa [heap_size_alloc] at this
  have HB3 := hide (bt hB0 (ab (.cells #[.int .i64 op, .int .i64 n, .string s, .slice a len cap] 35)) (Nat.le_refl _))
  have HX3 := hide (hX.below (ab (.cells #[.int .i64 op, .int .i64 n, .string s, .slice a len cap] 35)))
  have HT3 := hide (lies_one (hl.below hB0) (Nat.zero_le _) 4 (by decide))
  simp only [heap_size_alloc] at HT3
  clear hl hB0 hX
  go_enter Tryz.func74, Tryz.ntmps74
  go_wp2_with fail
  refine (unhide h18 _ _ _ _ _ _ _ (unhide HT3) (unhide HZ) ((unhide HER).on (unhide HB3))).mono ?_
  rintro e w4 ⟨op', n', s', a', len', cap', fp, rfl, hO4, ⟨hnd, hge⟩, hb4⟩
  have HB4 := hide (bt (unhide HB3) hb4 (Nat.le_refl _))
  have hX4 := (unhide HX3).below hb4
  have HO4 := hide hO4
  have HND := hide hnd
  simp only [heap_size_alloc] at hge
  have HGE := hide hge
  obtain ⟨d0, d1, d2, d3, e0, e1, e2, e3⟩ := hX4.facts
  clear hb4 hO4 hX4 HB3 HX3 HT3 hnd hge
  go_wp2_with fail
  exact bodyPost_ret (v := .agg #[.int .i64 op', .int .i64 n', .string s', .slice a' len' cap']) (by simp [results, Tryz.results74, go_sem, d0, d1, d2, d3]) rfl ⟨op', n', s', a', len', cap', fp, rfl, Own.keep _ _ _ (unhide HO4) (fun b hb => set4_heap _ _ _ _ _ _ b (by have := unhide HGE b hb; omega)), ⟨unhide HND, fun x hx => by have := unhide HGE x hx; omega⟩, set4_below (unhide HB4) (by omega)⟩

end Go.Proofs.YteminklafghgpaaGreatDoor
