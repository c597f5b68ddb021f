
/- The walks of laws.szServer, laws.toServer and laws.eqServer. -/
import Derived.Test.YtbbidjckplpaiaaGreatDoorSo0
namespace Go.Proofs.YtbbidjckplpaiaaGreatDoor
open Go.RowKit Go.Deep

set_option maxRecDepth 100000 in
set_option maxHeartbeats 4000000 in
theorem szS (t u : Tm) (l : List Int) (st : Int) (h : ByteArray) (ke : Int) (ep : Int) (op : Int) (n : Int) (s : ByteArray) (a : Option Addr) (len : Nat) (cap : Nat) (oq : Int) (m : Int) (r : ByteArray) (c : Option Addr) (lem : Nat) (cat : Nat) (i : Int) (o : Int) (tl : Bool) (g : Option Addr) (gc : Nat) (l0 : Int) (w : World) (hl0 : 0 ≤ l0) (hl1 : l0 ≤ 1048576) (hl : Lies w 0 t (tmCells op n s a len cap)) (hu : Lies w 0 u (tmCells oq m r c lem cat)) (hg : l.length ≤ maxLen) (hh : h.size ≤ maxLen) :
    Calls Tryz.prog 72 #[.agg #[.int .i64 st, .string h, .int .i64 ke, .int .i64 ep, .int .i64 op, .int .i64 n, .string s, .slice a len cap, .int .i64 oq, .int .i64 m, .string r, .slice c lem cat, .int .i64 i, .int .i64 o, .bool tl, .slice g l.length gc], .int .i64 l0] w fun e w' => e = .returned (.int .i64 (szv l0 (h.size + (t.wt + (u.wt + l.length))))) ∧ Below w.heap.size w w' := by
  have hm : h.size ≤ 9223372036854775807 := by unfold maxLen at hh; omega
  have g1 := sz_calls t
  have g2 := sz_calls u
  obtain ⟨left, hleft⟩ : ∃ left : Int, left = l0 - (h.size : Int) := ⟨_, rfl⟩
  have w1 : wrap64 (l0 - (h.size : Int)) = left := by unfold wrap64; omega
  have hb0 := abC (w := w) (.cells #[.int .i64 st, .string h, .int .i64 ke, .int .i64 ep, .int .i64 op, .int .i64 n, .string s, .slice a len cap, .int .i64 oq, .int .i64 m, .string r, .slice c lem cat, .int .i64 i, .int .i64 o, .bool tl, .slice g l.length gc] 94)
  have HB0 := hide hb0
  have HL := hide (hl.below hb0)
  have HU := hide (hu.below hb0)
  have HX := hide (RowS.new 94 w st h ke ep op n s a len cap oq m r c lem cat i o tl g l.length gc)
  clear hl hu hh hb0
  by_cases h1 : left < 0
  · have HE : Hid (szv l0 (h.size + (t.wt + (u.wt + l.length))) = -1) := szv_no (by push_cast; omega)
    clear hleft hm
    go_enter Tryz.func72, Tryz.ntmps72
    go_wp2_with fail
    go_ret
    exact ⟨ret_int (unhide HE).symm, unhide HB0⟩
  · have HC1 := hide (fun v hv => g1 op n s a len cap left v hv (by omega) (by omega))
    by_cases h2 : (t.wt : Int) ≤ left
    · obtain ⟨lefu, hlefu⟩ : ∃ lefu : Int, lefu = left - (t.wt : Int) := ⟨_, rfl⟩
      rw [szv_yes h2, ← hlefu] at HC1
      have h2n : ¬ lefu < 0 := by omega
      have HC2 := hide (fun v hv => g2 oq m r c lem cat lefu v hv (by omega) (by omega))
      by_cases h3 : (u.wt : Int) ≤ lefu
      · obtain ⟨lefv, hlefv⟩ : ∃ lefv : Int, lefv = lefu - (u.wt : Int) := ⟨_, rfl⟩
        rw [szv_yes h3, ← hlefv] at HC2
        have h3n : ¬ lefv < 0 := by omega
        have HC3 := hide (fun v => szI l g gc lefv v hg (by omega) (by omega))
        by_cases h4 : (l.length : Int) ≤ lefv
        · obtain ⟨lefx, hlefx⟩ : ∃ lefx : Int, lefx = lefv - (l.length : Int) := ⟨_, rfl⟩
          have HE : Hid (szv l0 (h.size + (t.wt + (u.wt + l.length))) = lefx) := by show _ = _; rw [szv_yes (by push_cast; omega)]; push_cast; omega
          rw [szv_yes h4, ← hlefx] at HC3
          have h4n : ¬ lefx < 0 := by omega
          clear hleft hlefu hlefv hlefx hm hg h2 h3 h4 g1 g2
          go_enter Tryz.func72, Tryz.ntmps72
          go_wp2_with fail
          refine (unhide HC1 _ (unhide HL)).mono ?_
          rintro e w2 ⟨rfl, hb2⟩
          have HB2 := hide hb2
          obtain ⟨c0, c1, c2, c3, c4, c5, c6, c7, c8, c9, c10, c11, c12, c13, c14, c15⟩ := ((unhide HX).below hb2).facts
          clear hb2
          go_wp2_with fail
          refine (unhide HC2 _ ((unhide HU).below (unhide HB2))).mono ?_
          rintro e w3 ⟨rfl, hb3⟩
          have HB3 := hide (btC (unhide HB2) hb3)
          clear hb3 c0 c1 c2 c3 c4 c5 c6 c7 c8 c9 c10 c11 c12 c13 c14 c15
          obtain ⟨c0, c1, c2, c3, c4, c5, c6, c7, c8, c9, c10, c11, c12, c13, c14, c15⟩ := ((unhide HX).below (unhide HB3)).facts
          go_wp2_with fail
          refine (unhide HC3 _).mono ?_
          rintro e w4 ⟨rfl, rfl⟩
          go_wp2_with fail
          go_ret
          exact ⟨ret_int (unhide HE).symm, btC (unhide HB0) (unhide HB3)⟩
        · have HE : Hid (szv l0 (h.size + (t.wt + (u.wt + l.length))) = -1) := szv_no (by push_cast; omega)
          rw [szv_no (by omega)] at HC3
          clear hleft hlefu hlefv hm hg h2 h3 h4 g1 g2
          go_enter Tryz.func72, Tryz.ntmps72
          go_wp2_with fail
          refine (unhide HC1 _ (unhide HL)).mono ?_
          rintro e w2 ⟨rfl, hb2⟩
          have HB2 := hide hb2
          obtain ⟨c0, c1, c2, c3, c4, c5, c6, c7, c8, c9, c10, c11, c12, c13, c14, c15⟩ := ((unhide HX).below hb2).facts
          clear hb2
          go_wp2_with fail
          refine (unhide HC2 _ ((unhide HU).below (unhide HB2))).mono ?_
          rintro e w3 ⟨rfl, hb3⟩
          have HB3 := hide (btC (unhide HB2) hb3)
          clear hb3 c0 c1 c2 c3 c4 c5 c6 c7 c8 c9 c10 c11 c12 c13 c14 c15
          obtain ⟨c0, c1, c2, c3, c4, c5, c6, c7, c8, c9, c10, c11, c12, c13, c14, c15⟩ := ((unhide HX).below (unhide HB3)).facts
          go_wp2_with fail
          refine (unhide HC3 _).mono ?_
          rintro e w4 ⟨rfl, rfl⟩
          go_wp2_with fail
          go_ret
          exact ⟨ret_int (unhide HE).symm, btC (unhide HB0) (unhide HB3)⟩
      · have HE : Hid (szv l0 (h.size + (t.wt + (u.wt + l.length))) = -1) := szv_no (by push_cast; omega)
        rw [szv_no (by omega)] at HC2
        clear hleft hlefu hm hg h2 h3 g1 g2
        go_enter Tryz.func72, Tryz.ntmps72
        go_wp2_with fail
        refine (unhide HC1 _ (unhide HL)).mono ?_
        rintro e w2 ⟨rfl, hb2⟩
        have HB2 := hide hb2
        obtain ⟨c0, c1, c2, c3, c4, c5, c6, c7, c8, c9, c10, c11, c12, c13, c14, c15⟩ := ((unhide HX).below hb2).facts
        clear hb2
        go_wp2_with fail
        refine (unhide HC2 _ ((unhide HU).below (unhide HB2))).mono ?_
        rintro e w3 ⟨rfl, hb3⟩
        have HB3 := hide (btC (unhide HB2) hb3)
        clear hb3 c0 c1 c2 c3 c4 c5 c6 c7 c8 c9 c10 c11 c12 c13 c14 c15
        obtain ⟨c0, c1, c2, c3, c4, c5, c6, c7, c8, c9, c10, c11, c12, c13, c14, c15⟩ := ((unhide HX).below (unhide HB3)).facts
        go_wp2_with fail
        go_ret
        exact ⟨ret_int (unhide HE).symm, btC (unhide HB0) (unhide HB3)⟩
    · have HE : Hid (szv l0 (h.size + (t.wt + (u.wt + l.length))) = -1) := szv_no (by push_cast; omega)
      rw [szv_no (by omega)] at HC1
      clear hleft hm hg h2 g1 g2
      go_enter Tryz.func72, Tryz.ntmps72
      go_wp2_with fail
      refine (unhide HC1 _ (unhide HL)).mono ?_
      rintro e w2 ⟨rfl, hb2⟩
      have HB2 := hide hb2
      obtain ⟨c0, c1, c2, c3, c4, c5, c6, c7, c8, c9, c10, c11, c12, c13, c14, c15⟩ := ((unhide HX).below hb2).facts
      clear hb2
      go_wp2_with fail
      go_ret
      exact ⟨ret_int (unhide HE).symm, btC (unhide HB0) (unhide HB2)⟩

set_option maxRecDepth 100000 in
set_option maxHeartbeats 4000000 in
theorem toS (t u : Tm) (l : List Int) (st : Int) (h : ByteArray) (ke : Int) (ep : Int) (op : Int) (n : Int) (s : ByteArray) (a : Option Addr) (len : Nat) (cap : Nat) (oq : Int) (m : Int) (r : ByteArray) (c : Option Addr) (lem : Nat) (cat : Nat) (i : Int) (o : Int) (tl : Bool) (g : Option Addr) (gc : Nat) (w : World) (hl : Lies w 0 t (tmCells op n s a len cap)) (hu : Lies w 0 u (tmCells oq m r c lem cat)) (hi : Ints w 0 g l) (hst : t.size ≤ 2097152) (hsu : u.size ≤ 2097152) (hsl : l.length ≤ 2097152) :
    Calls Tryz.prog 84 #[.agg #[.int .i64 st, .string h, .int .i64 ke, .int .i64 ep, .int .i64 op, .int .i64 n, .string s, .slice a len cap, .int .i64 oq, .int .i64 m, .string r, .slice c lem cat, .int .i64 i, .int .i64 o, .bool tl, .slice g l.length gc]] w fun e w' => ∃ a' c' g', e = .returned (.agg #[.int .i64 st, .string h, .int .i64 ke, .int .i64 ep, .int .i64 op, .int .i64 n, .string s, .slice a' len len, .int .i64 oq, .int .i64 m, .string r, .slice c' lem lem, .int .i64 i, .int .i64 o, .bool tl, .slice g' l.length l.length]) ∧ Lies w' w.heap.size t (tmCells op n s a' len len) ∧ Lies w' w.heap.size u (tmCells oq m r c' lem lem) ∧ Ints w' w.heap.size g' l ∧ Below w.heap.size w w' := by
  have g1 := hide (fun v hv => to_calls t op n s a len cap v hv hst)
  have g2 := hide (fun v hv => to_calls u oq m r c lem cat v hv hsu)
  have g3 := hide (fun v hv => toI l g gc v hv hsl)
  have hb0 : Below w.heap.size w (((w.alloc (.cells #[.int .i64 st, .string h, .int .i64 ke, .int .i64 ep, .int .i64 op, .int .i64 n, .string s, .slice a len cap, .int .i64 oq, .int .i64 m, .string r, .slice c lem cat, .int .i64 i, .int .i64 o, .bool tl, .slice g l.length gc] 94)).alloc (.cells #[.int .i64 0, .string ⟨#[]⟩, .int .i64 0, .int .i64 0, .int .i64 0, .int .i64 0, .string ⟨#[]⟩, .slice none 0 0, .int .i64 0, .int .i64 0, .string ⟨#[]⟩, .slice none 0 0, .int .i64 0, .int .i64 0, .bool false, .slice none 0 0] 115)).alloc (.cells #[.int .i64 st, .string h, .int .i64 ke, .int .i64 ep, .int .i64 0, .int .i64 0, .string ⟨#[]⟩, .slice none 0 0, .int .i64 0, .int .i64 0, .string ⟨#[]⟩, .slice none 0 0, .int .i64 0, .int .i64 0, .bool false, .slice none 0 0] 115)) := btC (btC (abC _) (abC _)) (abC _)
  have HL := hide (hl.below hb0)
  have HB0 := hide hb0
  have HU := hide hu
  have HI := hide hi
  have HX : Hid (RowS 94 (((w.alloc (.cells #[.int .i64 st, .string h, .int .i64 ke, .int .i64 ep, .int .i64 op, .int .i64 n, .string s, .slice a len cap, .int .i64 oq, .int .i64 m, .string r, .slice c lem cat, .int .i64 i, .int .i64 o, .bool tl, .slice g l.length gc] 94)).alloc (.cells #[.int .i64 0, .string ⟨#[]⟩, .int .i64 0, .int .i64 0, .int .i64 0, .int .i64 0, .string ⟨#[]⟩, .slice none 0 0, .int .i64 0, .int .i64 0, .string ⟨#[]⟩, .slice none 0 0, .int .i64 0, .int .i64 0, .bool false, .slice none 0 0] 115)).alloc (.cells #[.int .i64 st, .string h, .int .i64 ke, .int .i64 ep, .int .i64 0, .int .i64 0, .string ⟨#[]⟩, .slice none 0 0, .int .i64 0, .int .i64 0, .string ⟨#[]⟩, .slice none 0 0, .int .i64 0, .int .i64 0, .bool false, .slice none 0 0] 115)) w.heap.size st h ke ep op n s a len cap oq m r c lem cat i o tl g l.length gc) := (RowS.new 94 w st h ke ep op n s a len cap oq m r c lem cat i o tl g l.length gc).below (btC (abC _) (abC _))
  have HZ : Hid (RowS 115 (((w.alloc (.cells #[.int .i64 st, .string h, .int .i64 ke, .int .i64 ep, .int .i64 op, .int .i64 n, .string s, .slice a len cap, .int .i64 oq, .int .i64 m, .string r, .slice c lem cat, .int .i64 i, .int .i64 o, .bool tl, .slice g l.length gc] 94)).alloc (.cells #[.int .i64 0, .string ⟨#[]⟩, .int .i64 0, .int .i64 0, .int .i64 0, .int .i64 0, .string ⟨#[]⟩, .slice none 0 0, .int .i64 0, .int .i64 0, .string ⟨#[]⟩, .slice none 0 0, .int .i64 0, .int .i64 0, .bool false, .slice none 0 0] 115)).alloc (.cells #[.int .i64 st, .string h, .int .i64 ke, .int .i64 ep, .int .i64 0, .int .i64 0, .string ⟨#[]⟩, .slice none 0 0, .int .i64 0, .int .i64 0, .string ⟨#[]⟩, .slice none 0 0, .int .i64 0, .int .i64 0, .bool false, .slice none 0 0] 115)) (w.heap.size + 1) 0 ⟨#[]⟩ 0 0 0 0 ⟨#[]⟩ none 0 0 0 0 ⟨#[]⟩ none 0 0 0 0 false none 0 0) := by
    have := (RowS.new 115 (w.alloc (.cells #[.int .i64 st, .string h, .int .i64 ke, .int .i64 ep, .int .i64 op, .int .i64 n, .string s, .slice a len cap, .int .i64 oq, .int .i64 m, .string r, .slice c lem cat, .int .i64 i, .int .i64 o, .bool tl, .slice g l.length gc] 94)) 0 ⟨#[]⟩ 0 0 0 0 ⟨#[]⟩ none 0 0 0 0 ⟨#[]⟩ none 0 0 0 0 false none 0 0).below (abC (.cells #[.int .i64 st, .string h, .int .i64 ke, .int .i64 ep, .int .i64 0, .int .i64 0, .string ⟨#[]⟩, .slice none 0 0, .int .i64 0, .int .i64 0, .string ⟨#[]⟩, .slice none 0 0, .int .i64 0, .int .i64 0, .bool false, .slice none 0 0] 115))
    rwa [heap_size_alloc] at this
  have HO : Hid (RowS 115 (((w.alloc (.cells #[.int .i64 st, .string h, .int .i64 ke, .int .i64 ep, .int .i64 op, .int .i64 n, .string s, .slice a len cap, .int .i64 oq, .int .i64 m, .string r, .slice c lem cat, .int .i64 i, .int .i64 o, .bool tl, .slice g l.length gc] 94)).alloc (.cells #[.int .i64 0, .string ⟨#[]⟩, .int .i64 0, .int .i64 0, .int .i64 0, .int .i64 0, .string ⟨#[]⟩, .slice none 0 0, .int .i64 0, .int .i64 0, .string ⟨#[]⟩, .slice none 0 0, .int .i64 0, .int .i64 0, .bool false, .slice none 0 0] 115)).alloc (.cells #[.int .i64 st, .string h, .int .i64 ke, .int .i64 ep, .int .i64 0, .int .i64 0, .string ⟨#[]⟩, .slice none 0 0, .int .i64 0, .int .i64 0, .string ⟨#[]⟩, .slice none 0 0, .int .i64 0, .int .i64 0, .bool false, .slice none 0 0] 115)) (w.heap.size + 1 + 1) st h ke ep 0 0 ⟨#[]⟩ none 0 0 0 0 ⟨#[]⟩ none 0 0 0 0 false none 0 0) := by
    have := RowS.new 115 ((w.alloc (.cells #[.int .i64 st, .string h, .int .i64 ke, .int .i64 ep, .int .i64 op, .int .i64 n, .string s, .slice a len cap, .int .i64 oq, .int .i64 m, .string r, .slice c lem cat, .int .i64 i, .int .i64 o, .bool tl, .slice g l.length gc] 94)).alloc (.cells #[.int .i64 0, .string ⟨#[]⟩, .int .i64 0, .int .i64 0, .int .i64 0, .int .i64 0, .string ⟨#[]⟩, .slice none 0 0, .int .i64 0, .int .i64 0, .string ⟨#[]⟩, .slice none 0 0, .int .i64 0, .int .i64 0, .bool false, .slice none 0 0] 115)) st h ke ep 0 0 ⟨#[]⟩ none 0 0 0 0 ⟨#[]⟩ none 0 0 0 0 false none 0 0
    rwa [heap_size_alloc, heap_size_alloc] at this
  clear hl hu hi hb0 hst hsu hsl
  go_enter Tryz.func84, Tryz.ntmps84
  go_wp2_with fail
  refine (unhide g1 _ (unhide HL)).mono ?_
  rintro e w2 ⟨a2, rfl, hL2, hb2⟩
  have HB2 := hide (btC (unhide HB0) hb2)
  have HX2 := hide ((unhide HX).below hb2)
  have HZ2 := hide ((unhide HZ).below hb2)
  have HO2 := hide ((unhide HO).below hb2)
  have HL2 := hide hL2
  have hz2 : w.heap.size + 3 ≤ w2.heap.size := by have := hb2.size; simpa using this
  clear hb2 hL2 HB0 HX HZ HO HL
  obtain ⟨c0, c1, c2, c3, c4, c5, c6, c7, c8, c9, c10, c11, c12, c13, c14, c15⟩ := (unhide HX2).facts
  obtain ⟨d0, d1, d2, d3, d4, d5, d6, d7, d8, d9, d10, d11, d12, d13, d14, d15⟩ := (unhide HO2).facts
  have df := (unhide HO2).free
  go_wp2_with fail
  refine (unhide g2 _ ((unhide HU).below ?_)).mono ?_
  · iterate 4 refine setB ?_ (by omega)
    exact unhide HB2
  rintro e w3 ⟨c3_, rfl, hL3, hb3⟩
  have hbs : Below w.heap.size w ((((w2.setCell ⟨w.heap.size + 1 + 1, 4, none⟩ (.int .i64 op)).setCell ⟨w.heap.size + 1 + 1, 5, none⟩ (.int .i64 n)).setCell ⟨w.heap.size + 1 + 1, 6, none⟩ (.string s)).setCell ⟨w.heap.size + 1 + 1, 7, none⟩ (.slice a2 len len)) := by
    iterate 4 refine setB ?_ (by omega)
    exact unhide HB2
  have HB3 := hide (btC hbs hb3)
  have HX3 : Hid (RowS 94 w3 w.heap.size st h ke ep op n s a len cap oq m r c lem cat i o tl g l.length gc) := by
    refine RowS.below (w := (((w2.setCell ⟨w.heap.size + 1 + 1, 4, none⟩ (.int .i64 op)).setCell ⟨w.heap.size + 1 + 1, 5, none⟩ (.int .i64 n)).setCell ⟨w.heap.size + 1 + 1, 6, none⟩ (.string s)).setCell ⟨w.heap.size + 1 + 1, 7, none⟩ (.slice a2 len len)) ?_ hb3
    iterate 4 refine row_other ?_ (by omega) _
    exact unhide HX2
  have HZ3 : Hid (RowS 115 w3 (w.heap.size + 1) 0 ⟨#[]⟩ 0 0 0 0 ⟨#[]⟩ none 0 0 0 0 ⟨#[]⟩ none 0 0 0 0 false none 0 0) := by
    refine RowS.below (w := (((w2.setCell ⟨w.heap.size + 1 + 1, 4, none⟩ (.int .i64 op)).setCell ⟨w.heap.size + 1 + 1, 5, none⟩ (.int .i64 n)).setCell ⟨w.heap.size + 1 + 1, 6, none⟩ (.string s)).setCell ⟨w.heap.size + 1 + 1, 7, none⟩ (.slice a2 len len)) ?_ hb3
    iterate 4 refine row_other ?_ (by omega) _
    exact unhide HZ2
  have HO3 : Hid (RowS 115 w3 (w.heap.size + 1 + 1) st h ke ep op n s a2 len len 0 0 ⟨#[]⟩ none 0 0 0 0 false none 0 0) := by
    refine RowS.below (w := (((w2.setCell ⟨w.heap.size + 1 + 1, 4, none⟩ (.int .i64 op)).setCell ⟨w.heap.size + 1 + 1, 5, none⟩ (.int .i64 n)).setCell ⟨w.heap.size + 1 + 1, 6, none⟩ (.string s)).setCell ⟨w.heap.size + 1 + 1, 7, none⟩ (.slice a2 len len)) ?_ hb3
    exact row_set (row_set (row_set (row_set (unhide HO2) _) _) _) _
  have HL3 : Hid (Lies w3 (w.heap.size + 3) t (tmCells op n s a2 len len)) := by
    refine Lies.below (w := (((w2.setCell ⟨w.heap.size + 1 + 1, 4, none⟩ (.int .i64 op)).setCell ⟨w.heap.size + 1 + 1, 5, none⟩ (.int .i64 n)).setCell ⟨w.heap.size + 1 + 1, 6, none⟩ (.string s)).setCell ⟨w.heap.size + 1 + 1, 7, none⟩ (.slice a2 len len)) ?_ hb3
    refine Lies.carry (L := w.heap.size + 3) (by omega) (fun b o hb _ => ?_) _ _ ((unhide HL2).any (by simp))
    repeat rw [cell_set_other (by omega)]
  have HU3 : Hid (Lies w3 (w.heap.size + 3) u (tmCells oq m r c3_ lem lem)) := hL3.any (by simp only [size_set]; omega)
  have hz3 : w.heap.size + 3 ≤ w3.heap.size := by have := hb3.size; simp only [size_set] at this; omega
  clear hb3 hL3 HB2 HX2 HZ2 HO2 HL2 hbs hz2 df c0 c1 c2 c3 c4 c5 c6 c7 c8 c9 c10 c11 c12 c13 c14 c15 d0 d1 d2 d3 d4 d5 d6 d7 d8 d9 d10 d11 d12 d13 d14 d15
  obtain ⟨c0, c1, c2, c3, c4, c5, c6, c7, c8, c9, c10, c11, c12, c13, c14, c15⟩ := (unhide HX3).facts
  obtain ⟨d0, d1, d2, d3, d4, d5, d6, d7, d8, d9, d10, d11, d12, d13, d14, d15⟩ := (unhide HO3).facts
  have df := (unhide HO3).free
  go_wp2_with fail
  refine (unhide g3 _ ((unhide HI).on ?_)).mono ?_
  · iterate 7 refine setB ?_ (by omega)
    exact unhide HB3
  rintro e w4 ⟨rfl, hI4, hb4⟩
  obtain ⟨gb, hgb⟩ : ∃ gb : Nat, gb = w3.heap.size := ⟨_, rfl⟩
  have hbs : Below w.heap.size w (((((((w3.setCell ⟨w.heap.size + 1 + 1, 8, none⟩ (.int .i64 oq)).setCell ⟨w.heap.size + 1 + 1, 9, none⟩ (.int .i64 m)).setCell ⟨w.heap.size + 1 + 1, 10, none⟩ (.string r)).setCell ⟨w.heap.size + 1 + 1, 11, none⟩ (.slice c3_ lem lem)).setCell ⟨w.heap.size + 1 + 1, 12, none⟩ (.int .i64 i)).setCell ⟨w.heap.size + 1 + 1, 13, none⟩ (.int .i64 o)).setCell ⟨w.heap.size + 1 + 1, 14, none⟩ (.bool tl)) := by
    iterate 7 refine setB ?_ (by omega)
    exact unhide HB3
  simp only [size_set, ← hgb] at hI4 hb4 ⊢
  have hb4' : Below (((((((w3.setCell ⟨w.heap.size + 1 + 1, 8, none⟩ (.int .i64 oq)).setCell ⟨w.heap.size + 1 + 1, 9, none⟩ (.int .i64 m)).setCell ⟨w.heap.size + 1 + 1, 10, none⟩ (.string r)).setCell ⟨w.heap.size + 1 + 1, 11, none⟩ (.slice c3_ lem lem)).setCell ⟨w.heap.size + 1 + 1, 12, none⟩ (.int .i64 i)).setCell ⟨w.heap.size + 1 + 1, 13, none⟩ (.int .i64 o)).setCell ⟨w.heap.size + 1 + 1, 14, none⟩ (.bool tl)).heap.size (((((((w3.setCell ⟨w.heap.size + 1 + 1, 8, none⟩ (.int .i64 oq)).setCell ⟨w.heap.size + 1 + 1, 9, none⟩ (.int .i64 m)).setCell ⟨w.heap.size + 1 + 1, 10, none⟩ (.string r)).setCell ⟨w.heap.size + 1 + 1, 11, none⟩ (.slice c3_ lem lem)).setCell ⟨w.heap.size + 1 + 1, 12, none⟩ (.int .i64 i)).setCell ⟨w.heap.size + 1 + 1, 13, none⟩ (.int .i64 o)).setCell ⟨w.heap.size + 1 + 1, 14, none⟩ (.bool tl)) w4 := by simpa only [size_set, ← hgb] using hb4
  have HB4 := hide (btC hbs hb4')
  have HX4 : Hid (RowS 94 w4 w.heap.size st h ke ep op n s a len cap oq m r c lem cat i o tl g l.length gc) := by
    refine RowS.below (w := ((((((w3.setCell ⟨w.heap.size + 1 + 1, 8, none⟩ (.int .i64 oq)).setCell ⟨w.heap.size + 1 + 1, 9, none⟩ (.int .i64 m)).setCell ⟨w.heap.size + 1 + 1, 10, none⟩ (.string r)).setCell ⟨w.heap.size + 1 + 1, 11, none⟩ (.slice c3_ lem lem)).setCell ⟨w.heap.size + 1 + 1, 12, none⟩ (.int .i64 i)).setCell ⟨w.heap.size + 1 + 1, 13, none⟩ (.int .i64 o)).setCell ⟨w.heap.size + 1 + 1, 14, none⟩ (.bool tl)) ?_ hb4'
    iterate 7 refine row_other ?_ (by omega) _
    exact unhide HX3
  have HZ4 : Hid (RowS 115 w4 (w.heap.size + 1) 0 ⟨#[]⟩ 0 0 0 0 ⟨#[]⟩ none 0 0 0 0 ⟨#[]⟩ none 0 0 0 0 false none 0 0) := by
    refine RowS.below (w := ((((((w3.setCell ⟨w.heap.size + 1 + 1, 8, none⟩ (.int .i64 oq)).setCell ⟨w.heap.size + 1 + 1, 9, none⟩ (.int .i64 m)).setCell ⟨w.heap.size + 1 + 1, 10, none⟩ (.string r)).setCell ⟨w.heap.size + 1 + 1, 11, none⟩ (.slice c3_ lem lem)).setCell ⟨w.heap.size + 1 + 1, 12, none⟩ (.int .i64 i)).setCell ⟨w.heap.size + 1 + 1, 13, none⟩ (.int .i64 o)).setCell ⟨w.heap.size + 1 + 1, 14, none⟩ (.bool tl)) ?_ hb4'
    iterate 7 refine row_other ?_ (by omega) _
    exact unhide HZ3
  have HO4 : Hid (RowS 115 w4 (w.heap.size + 1 + 1) st h ke ep op n s a2 len len oq m r c3_ lem lem i o tl none 0 0) := by
    refine RowS.below (w := ((((((w3.setCell ⟨w.heap.size + 1 + 1, 8, none⟩ (.int .i64 oq)).setCell ⟨w.heap.size + 1 + 1, 9, none⟩ (.int .i64 m)).setCell ⟨w.heap.size + 1 + 1, 10, none⟩ (.string r)).setCell ⟨w.heap.size + 1 + 1, 11, none⟩ (.slice c3_ lem lem)).setCell ⟨w.heap.size + 1 + 1, 12, none⟩ (.int .i64 i)).setCell ⟨w.heap.size + 1 + 1, 13, none⟩ (.int .i64 o)).setCell ⟨w.heap.size + 1 + 1, 14, none⟩ (.bool tl)) ?_ hb4'
    exact row_set (row_set (row_set (row_set (row_set (row_set (row_set (unhide HO3) _) _) _) _) _) _) _
  have HL4 : Hid (Lies w4 (w.heap.size + 3) t (tmCells op n s a2 len len)) := by
    refine Lies.below (w := ((((((w3.setCell ⟨w.heap.size + 1 + 1, 8, none⟩ (.int .i64 oq)).setCell ⟨w.heap.size + 1 + 1, 9, none⟩ (.int .i64 m)).setCell ⟨w.heap.size + 1 + 1, 10, none⟩ (.string r)).setCell ⟨w.heap.size + 1 + 1, 11, none⟩ (.slice c3_ lem lem)).setCell ⟨w.heap.size + 1 + 1, 12, none⟩ (.int .i64 i)).setCell ⟨w.heap.size + 1 + 1, 13, none⟩ (.int .i64 o)).setCell ⟨w.heap.size + 1 + 1, 14, none⟩ (.bool tl)) ?_ hb4'
    refine Lies.carry (L := w.heap.size + 3) (by omega) (fun b o hb _ => ?_) _ _ (unhide HL3)
    repeat rw [cell_set_other (by omega)]
  have HU4 : Hid (Lies w4 (w.heap.size + 3) u (tmCells oq m r c3_ lem lem)) := by
    refine Lies.below (w := ((((((w3.setCell ⟨w.heap.size + 1 + 1, 8, none⟩ (.int .i64 oq)).setCell ⟨w.heap.size + 1 + 1, 9, none⟩ (.int .i64 m)).setCell ⟨w.heap.size + 1 + 1, 10, none⟩ (.string r)).setCell ⟨w.heap.size + 1 + 1, 11, none⟩ (.slice c3_ lem lem)).setCell ⟨w.heap.size + 1 + 1, 12, none⟩ (.int .i64 i)).setCell ⟨w.heap.size + 1 + 1, 13, none⟩ (.int .i64 o)).setCell ⟨w.heap.size + 1 + 1, 14, none⟩ (.bool tl)) ?_ hb4'
    refine Lies.carry (L := w.heap.size + 3) (by omega) (fun b o hb _ => ?_) _ _ (unhide HU3)
    repeat rw [cell_set_other (by omega)]
  have HI4 := hide hI4
  have hgz : w.heap.size + 3 ≤ gb := by omega
  clear hb4 hb4' hI4 HB3 HX3 HZ3 HO3 HL3 HU3 hbs hz3 hgb df c0 c1 c2 c3 c4 c5 c6 c7 c8 c9 c10 c11 c12 c13 c14 c15 d0 d1 d2 d3 d4 d5 d6 d7 d8 d9 d10 d11 d12 d13 d14 d15
  obtain ⟨c0, c1, c2, c3, c4, c5, c6, c7, c8, c9, c10, c11, c12, c13, c14, c15⟩ := (unhide HX4).facts
  obtain ⟨d0, d1, d2, d3, d4, d5, d6, d7, d8, d9, d10, d11, d12, d13, d14, d15⟩ := (unhide HO4).facts
  have df := (unhide HO4).free
  obtain ⟨z0, z1, z2, z3, z4, z5, z6, z7, z8, z9, z10, z11, z12, z13, z14, z15⟩ := (unhide HZ4).facts
  have zf := (unhide HZ4).free
  go_wp2_with fail
  refine bodyPost_ret (v := .agg #[.int .i64 st, .string h, .int .i64 ke, .int .i64 ep, .int .i64 op, .int .i64 n, .string s, .slice a2 len len, .int .i64 oq, .int .i64 m, .string r, .slice c3_ lem lem, .int .i64 i, .int .i64 o, .bool tl, .slice (some ⟨gb, 0, none⟩) l.length l.length]) (by simp [results, Tryz.results84, go_sem, z0, z1, z2, z3, z4, z5, z6, z7, z8, z9, z10, z11, z12, z13, z14, z15]) rfl ⟨_, _, _, rfl, ?_, ?_, ?_, ?_⟩
  · refine Lies.carry (L := w.heap.size + 3) (by omega) (fun b o hb _ => ?_) _ _ (unhide HL4)
    iterate 17 rw [cell_set_other (by omega)]
  · refine Lies.carry (L := w.heap.size + 3) (by omega) (fun b o hb _ => ?_) _ _ (unhide HU4)
    iterate 17 rw [cell_set_other (by omega)]
  · intro k x hk
    obtain ⟨b, o, h1, h2, h3⟩ := unhide HI4 k x hk
    refine ⟨b, o, h1, by omega, ?_⟩
    iterate 17 rw [cell_set_other (by omega)]
    exact h3
  · iterate 17 refine setB ?_ (by omega)
    exact unhide HB4

set_option maxRecDepth 100000 in
set_option maxHeartbeats 4000000 in
theorem eqS (t u : Tm) (l : List Int) (st : Int) (h : ByteArray) (ke : Int) (ep : Int) (op : Int) (n : Int) (s : ByteArray) (a : Option Addr) (len : Nat) (cap : Nat) (oq : Int) (m : Int) (r : ByteArray) (c : Option Addr) (lem : Nat) (cat : Nat) (i : Int) (o : Int) (tl : Bool) (g : Option Addr) (gc : Nat) (op' n' : Int) (s' : ByteArray) (a' : Option Addr) (len' cap' : Nat) (oq' m' : Int) (r' : ByteArray) (c' : Option Addr) (lem' cat' : Nat) (g' : Option Addr) (gc' : Nat) (w : World) (hl : Lies w 0 t (tmCells op n s a len cap)) (hu : Lies w 0 u (tmCells oq m r c lem cat)) (hi : Ints w 0 g l) (hl' : Lies w 0 t (tmCells op' n' s' a' len' cap')) (hu' : Lies w 0 u (tmCells oq' m' r' c' lem' cat')) (hi' : Ints w 0 g' l) (hsl : l.length ≤ 2097153) :
    Calls Tryz.prog 105 #[.agg #[.int .i64 st, .string h, .int .i64 ke, .int .i64 ep, .int .i64 op, .int .i64 n, .string s, .slice a len cap, .int .i64 oq, .int .i64 m, .string r, .slice c lem cat, .int .i64 i, .int .i64 o, .bool tl, .slice g l.length gc], .agg #[.int .i64 st, .string h, .int .i64 ke, .int .i64 ep, .int .i64 op', .int .i64 n', .string s', .slice a' len' cap', .int .i64 oq', .int .i64 m', .string r', .slice c' lem' cat', .int .i64 i, .int .i64 o, .bool tl, .slice g' l.length gc']] w fun e w' => e = .returned (.bool true) ∧ Below w.heap.size w w' := by
  have g1 := hide (fun v hv hv' => eq_calls t op n s a len cap op' n' s' a' len' cap' v hv hv')
  have g2 := hide (fun v hv hv' => eq_calls u oq m r c lem cat oq' m' r' c' lem' cat' v hv hv')
  have g3 := hide (fun v hv hv' => eqI l g g' gc gc' v hsl hv hv')
  have hb0 : Below w.heap.size w ((w.alloc (.cells #[.int .i64 st, .string h, .int .i64 ke, .int .i64 ep, .int .i64 op, .int .i64 n, .string s, .slice a len cap, .int .i64 oq, .int .i64 m, .string r, .slice c lem cat, .int .i64 i, .int .i64 o, .bool tl, .slice g l.length gc] 115)).alloc (.cells #[.int .i64 st, .string h, .int .i64 ke, .int .i64 ep, .int .i64 op', .int .i64 n', .string s', .slice a' len' cap', .int .i64 oq', .int .i64 m', .string r', .slice c' lem' cat', .int .i64 i, .int .i64 o, .bool tl, .slice g' l.length gc'] 115)) := btC (abC _) (abC _)
  have HL := hide (hl.below hb0)
  have HL' := hide (hl'.below hb0)
  have HU := hide (hu.below hb0)
  have HU' := hide (hu'.below hb0)
  have HI := hide (hi.on hb0)
  have HI' := hide (hi'.on hb0)
  have HB0 := hide hb0
  have HX := hide ((RowS.new 115 w st h ke ep op n s a len cap oq m r c lem cat i o tl g l.length gc).below (abC (.cells #[.int .i64 st, .string h, .int .i64 ke, .int .i64 ep, .int .i64 op', .int .i64 n', .string s', .slice a' len' cap', .int .i64 oq', .int .i64 m', .string r', .slice c' lem' cat', .int .i64 i, .int .i64 o, .bool tl, .slice g' l.length gc'] 115)))
  have HY : Hid (RowS 115 ((w.alloc (.cells #[.int .i64 st, .string h, .int .i64 ke, .int .i64 ep, .int .i64 op, .int .i64 n, .string s, .slice a len cap, .int .i64 oq, .int .i64 m, .string r, .slice c lem cat, .int .i64 i, .int .i64 o, .bool tl, .slice g l.length gc] 115)).alloc (.cells #[.int .i64 st, .string h, .int .i64 ke, .int .i64 ep, .int .i64 op', .int .i64 n', .string s', .slice a' len' cap', .int .i64 oq', .int .i64 m', .string r', .slice c' lem' cat', .int .i64 i, .int .i64 o, .bool tl, .slice g' l.length gc'] 115)) (w.heap.size + 1) st h ke ep op' n' s' a' len' cap' oq' m' r' c' lem' cat' i o tl g' l.length gc') := by
    have := RowS.new 115 (w.alloc (.cells #[.int .i64 st, .string h, .int .i64 ke, .int .i64 ep, .int .i64 op, .int .i64 n, .string s, .slice a len cap, .int .i64 oq, .int .i64 m, .string r, .slice c lem cat, .int .i64 i, .int .i64 o, .bool tl, .slice g l.length gc] 115)) st h ke ep op' n' s' a' len' cap' oq' m' r' c' lem' cat' i o tl g' l.length gc'
    rwa [heap_size_alloc] at this
  clear hl hl' hu hu' hi hi' hb0 hsl
  go_enter Tryz.func105, Tryz.ntmps105
  cases tl
  all_goals
    go_wp2_with fail
    refine (unhide g1 _ (unhide HL) (unhide HL')).mono ?_
    rintro e w2 ⟨rfl, hb2⟩
    obtain ⟨c0, c1, c2, c3, c4, c5, c6, c7, c8, c9, c10, c11, c12, c13, c14, c15⟩ := ((unhide HX).below hb2).facts
    obtain ⟨d0, d1, d2, d3, d4, d5, d6, d7, d8, d9, d10, d11, d12, d13, d14, d15⟩ := ((unhide HY).below hb2).facts
    have HB2 := hide hb2
    clear hb2
    go_wp2_with fail
    refine (unhide g2 _ ((unhide HU).below (unhide HB2)) ((unhide HU').below (unhide HB2))).mono ?_
    rintro e w3 ⟨rfl, hb3⟩
    have HB3 := hide (btC (unhide HB2) hb3)
    clear hb3 c0 c1 c2 c3 c4 c5 c6 c7 c8 c9 c10 c11 c12 c13 c14 c15 d0 d1 d2 d3 d4 d5 d6 d7 d8 d9 d10 d11 d12 d13 d14 d15
    obtain ⟨c0, c1, c2, c3, c4, c5, c6, c7, c8, c9, c10, c11, c12, c13, c14, c15⟩ := ((unhide HX).below (unhide HB3)).facts
    obtain ⟨d0, d1, d2, d3, d4, d5, d6, d7, d8, d9, d10, d11, d12, d13, d14, d15⟩ := ((unhide HY).below (unhide HB3)).facts
    go_wp2_with fail
    refine (unhide g3 _ ((unhide HI).on (unhide HB3)) ((unhide HI').on (unhide HB3))).mono ?_
    rintro e w4 ⟨rfl, hb4⟩
    have HB4 := hide (btC (unhide HB3) hb4)
    clear hb4 c0 c1 c2 c3 c4 c5 c6 c7 c8 c9 c10 c11 c12 c13 c14 c15 d0 d1 d2 d3 d4 d5 d6 d7 d8 d9 d10 d11 d12 d13 d14 d15
    go_wp2_with fail
    go_ret
    exact ⟨rfl, btC (unhide HB0) (unhide HB4)⟩

end Go.Proofs.YtbbidjckplpaiaaGreatDoor
