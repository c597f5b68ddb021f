
/- A client as plain data: its thirteen cells; the walks of laws.szClient, laws.toClient and laws.eqClient. -/
import Derived.Test.YtbbidjckplpaiaaGreatDoorSo0
namespace Go.Proofs.YtbbidjckplpaiaaGreatDoor
open Go.RowKit Go.Deep

/-- The cells of a client in a block of its own. -/
def RowK (ty : TypeId) (w : World) (b : Nat) (st : Int) (h : ByteArray) (mu : Bool) (ep bo op n : Int) (s : ByteArray) (a : Option Addr) (len cap : Nat) (i o : Int) (tl pr : Bool) : Prop := w.heap[b]? = some (.cells #[.int .i64 st, .string h, .bool mu, .int .i64 ep, .int .i64 bo, .int .i64 op, .int .i64 n, .string s, .slice a len cap, .int .i64 i, .int .i64 o, .bool tl, .bool pr] ty (0, 0))
theorem RowK.new (ty : TypeId) (w : World) (st : Int) (h : ByteArray) (mu : Bool) (ep bo op n : Int) (s : ByteArray) (a : Option Addr) (len cap : Nat) (i o : Int) (tl pr : Bool) : RowK ty (w.alloc (.cells #[.int .i64 st, .string h, .bool mu, .int .i64 ep, .int .i64 bo, .int .i64 op, .int .i64 n, .string s, .slice a len cap, .int .i64 i, .int .i64 o, .bool tl, .bool pr] ty)) w.heap.size st h mu ep bo op n s a len cap i o tl pr := heap_alloc_new w _
theorem RowK.lt {ty : TypeId} {w : World} {b : Nat} {st : Int} {h : ByteArray} {mu : Bool} {ep bo op n : Int} {s : ByteArray} {a : Option Addr} {len cap : Nat} {i o : Int} {tl pr : Bool} (hr : RowK ty w b st h mu ep bo op n s a len cap i o tl pr) : b < w.heap.size := (Array.getElem?_eq_some_iff.1 hr).1
theorem RowK.below {ty : TypeId} {w w' : World} {b : Nat} {st : Int} {h : ByteArray} {mu : Bool} {ep bo op n : Int} {s : ByteArray} {a : Option Addr} {len cap : Nat} {i o : Int} {tl pr : Bool} (hr : RowK ty w b st h mu ep bo op n s a len cap i o tl pr) (hb : Below w.heap.size w w') : RowK ty w' b st h mu ep bo op n s a len cap i o tl pr := (hb.block b hr.lt).trans hr
theorem RowK.facts {ty : TypeId} {w : World} {b : Nat} {st : Int} {h : ByteArray} {mu : Bool} {ep bo op n : Int} {s : ByteArray} {a : Option Addr} {len cap : Nat} {i o : Int} {tl pr : Bool} (hr : RowK ty w b st h mu ep bo op n s a len cap i o tl pr) :
    w.cell? ⟨b, 0, none⟩ = some (.int .i64 st) ∧ w.cell? ⟨b, 1, none⟩ = some (.string h) ∧ w.cell? ⟨b, 2, none⟩ = some (.bool mu) ∧ w.cell? ⟨b, 3, none⟩ = some (.int .i64 ep) ∧ w.cell? ⟨b, 4, none⟩ = some (.int .i64 bo) ∧ w.cell? ⟨b, 5, none⟩ = some (.int .i64 op) ∧ w.cell? ⟨b, 6, none⟩ = some (.int .i64 n) ∧ w.cell? ⟨b, 7, none⟩ = some (.string s) ∧ w.cell? ⟨b, 8, none⟩ = some (.slice a len cap) ∧ w.cell? ⟨b, 9, none⟩ = some (.int .i64 i) ∧ w.cell? ⟨b, 10, none⟩ = some (.int .i64 o) ∧ w.cell? ⟨b, 11, none⟩ = some (.bool tl) ∧ w.cell? ⟨b, 12, none⟩ = some (.bool pr) :=
  ⟨cell_of_row hr (by simp), cell_of_row hr (by simp), cell_of_row hr (by simp), cell_of_row hr (by simp), cell_of_row hr (by simp), cell_of_row hr (by simp), cell_of_row hr (by simp), cell_of_row hr (by simp), cell_of_row hr (by simp), cell_of_row hr (by simp), cell_of_row hr (by simp), cell_of_row hr (by simp), cell_of_row hr (by simp)⟩


set_option maxRecDepth 100000 in
set_option maxHeartbeats 2000000 in
theorem szK (t : Tm) (st : Int) (h : ByteArray) (mu : Bool) (ep bo op n : Int) (s : ByteArray) (a : Option Addr) (len cap : Nat) (i o : Int) (tl pr : Bool) (l0 : Int) (w : World) (hl0 : 0 ≤ l0) (hl1 : l0 ≤ 1048576) (hl : Lies w 0 t (tmCells op n s a len cap)) (hh : h.size ≤ maxLen) :
    Calls Tryz.prog 71 #[.agg #[.int .i64 st, .string h, .bool mu, .int .i64 ep, .int .i64 bo, .int .i64 op, .int .i64 n, .string s, .slice a len cap, .int .i64 i, .int .i64 o, .bool tl, .bool pr], .int .i64 l0] w fun e w' => e = .returned (.int .i64 (szv l0 (h.size + t.wt))) ∧ Below w.heap.size w w' := by
  have hm : h.size ≤ 9223372036854775807 := by unfold maxLen at hh; omega
  have h12 := sz_calls t
  obtain ⟨left, hleft⟩ : ∃ left : Int, left = l0 - (h.size : Int) := ⟨_, rfl⟩
  have w1 : wrap64 (l0 - (h.size : Int)) = left := by unfold wrap64; omega
  have HL := hide (hl.below (abC (.cells #[.int .i64 st, .string h, .bool mu, .int .i64 ep, .int .i64 bo, .int .i64 op, .int .i64 n, .string s, .slice a len cap, .int .i64 i, .int .i64 o, .bool tl, .bool pr] 89)))
  clear hl hh hm
  by_cases h1 : left < 0
  · have HE : Hid (szv l0 (h.size + t.wt) = -1) := szv_no (by omega)
    clear hleft
    go_enter Tryz.func71, Tryz.ntmps71
    go_wp2_with fail
    go_ret
    exact ⟨ret_int (unhide HE).symm, abC _⟩
  · have HC := hide (fun v hv => h12 op n s a len cap left v hv (by omega) (by omega))
    clear h12
    by_cases h2 : (t.wt : Int) ≤ left
    · have HE : Hid (szv l0 (h.size + t.wt) = left - t.wt) := by
        show _ = _
        rw [szv_yes (by omega)]; omega
      rw [szv_yes h2] at HC
      have h3 : ¬ left - (t.wt : Int) < 0 := by omega
      clear hleft
      go_enter Tryz.func71, Tryz.ntmps71
      go_wp2_with fail
      refine (unhide HC _ (unhide HL)).mono ?_
      rintro e w2 ⟨rfl, hb2⟩
      go_wp2_with fail
      go_ret
      exact ⟨ret_int (unhide HE).symm, btC (abC _) hb2⟩
    · have HE : Hid (szv l0 (h.size + t.wt) = -1) := szv_no (by omega)
      rw [szv_no (by omega)] at HC
      clear hleft
      go_enter Tryz.func71, Tryz.ntmps71
      go_wp2_with fail
      refine (unhide HC _ (unhide HL)).mono ?_
      rintro e w2 ⟨rfl, hb2⟩
      go_wp2_with fail
      go_ret
      exact ⟨ret_int (unhide HE).symm, btC (abC _) hb2⟩

set_option maxRecDepth 100000 in
set_option maxHeartbeats 2000000 in
theorem toK (t : Tm) (st : Int) (h : ByteArray) (mu : Bool) (ep bo op n : Int) (s : ByteArray) (a : Option Addr) (len cap : Nat) (i o : Int) (tl pr : Bool) (w : World) (hl : Lies w 0 t (tmCells op n s a len cap)) (hsz : t.size ≤ 2097152) :
    Calls Tryz.prog 83 #[.agg #[.int .i64 st, .string h, .bool mu, .int .i64 ep, .int .i64 bo, .int .i64 op, .int .i64 n, .string s, .slice a len cap, .int .i64 i, .int .i64 o, .bool tl, .bool pr]] w fun e w' => ∃ a', e = .returned (.agg #[.int .i64 st, .string h, .bool mu, .int .i64 ep, .int .i64 bo, .int .i64 op, .int .i64 n, .string s, .slice a' len len, .int .i64 i, .int .i64 o, .bool tl, .bool pr]) ∧ Lies w' w.heap.size t (tmCells op n s a' len len) ∧ Below w.heap.size w w' := by
  have h15 := to_calls t
  have hb0 : Below w.heap.size w (((w.alloc (.cells #[.int .i64 st, .string h, .bool mu, .int .i64 ep, .int .i64 bo, .int .i64 op, .int .i64 n, .string s, .slice a len cap, .int .i64 i, .int .i64 o, .bool tl, .bool pr] 89)).alloc (.cells #[.int .i64 0, .string ⟨#[]⟩, .bool false, .int .i64 0, .int .i64 0, .int .i64 0, .int .i64 0, .string ⟨#[]⟩, .slice none 0 0, .int .i64 0, .int .i64 0, .bool false, .bool false] 110)).alloc (.cells #[.int .i64 st, .string h, .bool mu, .int .i64 ep, .int .i64 bo, .int .i64 0, .int .i64 0, .string ⟨#[]⟩, .slice none 0 0, .int .i64 0, .int .i64 0, .bool false, .bool false] 110)) := btC (btC (abC _) (abC _)) (abC _)
  have HL := hide (hl.below hb0)
  have HB0 := hide hb0
  clear hl hb0
  go_enter Tryz.func83, Tryz.ntmps83
  go_wp2_with fail
  refine (h15 op n s a len cap _ (unhide HL) hsz).mono ?_
  rintro e w2 ⟨a2, rfl, hL2, hb2⟩
  have HB2 := hide (btC (unhide HB0) hb2)
  obtain ⟨hc, hf⟩ := bcell hb2
  clear hb2 HB0 HL
  go_wp2_with fail
  simp only [heap_size_alloc] at hL2 hc
  refine bodyPost_ret (v := .agg #[.int .i64 st, .string h, .bool mu, .int .i64 ep, .int .i64 bo, .int .i64 op, .int .i64 n, .string s, .slice a2 len len, .int .i64 i, .int .i64 o, .bool tl, .bool pr]) (by simp [results, Tryz.results83, go_sem, hc]) rfl ⟨_, rfl, ?_, ?_⟩
  · refine Lies.carry (L := w.heap.size + 1 + 1 + 1) (by omega) (fun b o hb _ => ?_) _ _ hL2
    repeat rw [cell_set_other (by omega)]
  · repeat refine Below.setCell ?_ (by simp <;> omega) _
    exact unhide HB2

set_option maxRecDepth 100000 in
set_option maxHeartbeats 2000000 in
theorem eqK (t : Tm) (st : Int) (h : ByteArray) (mu : Bool) (ep bo op n : Int) (s : ByteArray) (a : Option Addr) (len cap : Nat) (i o : Int) (tl pr : Bool) (op' n' : Int) (s' : ByteArray) (a' : Option Addr) (len' cap' : Nat) (w : World) (hl : Lies w 0 t (tmCells op n s a len cap)) (hl' : Lies w 0 t (tmCells op' n' s' a' len' cap')) :
    Calls Tryz.prog 104 #[.agg #[.int .i64 st, .string h, .bool mu, .int .i64 ep, .int .i64 bo, .int .i64 op, .int .i64 n, .string s, .slice a len cap, .int .i64 i, .int .i64 o, .bool tl, .bool pr], .agg #[.int .i64 st, .string h, .bool mu, .int .i64 ep, .int .i64 bo, .int .i64 op', .int .i64 n', .string s', .slice a' len' cap', .int .i64 i, .int .i64 o, .bool tl, .bool pr]] w fun e w' => e = .returned (.bool true) ∧ Below w.heap.size w w' := by
  have h17 := eq_calls t
  have hb0 : Below w.heap.size w ((w.alloc (.cells #[.int .i64 st, .string h, .bool mu, .int .i64 ep, .int .i64 bo, .int .i64 op, .int .i64 n, .string s, .slice a len cap, .int .i64 i, .int .i64 o, .bool tl, .bool pr] 110)).alloc (.cells #[.int .i64 st, .string h, .bool mu, .int .i64 ep, .int .i64 bo, .int .i64 op', .int .i64 n', .string s', .slice a' len' cap', .int .i64 i, .int .i64 o, .bool tl, .bool pr] 110)) := btC (abC _) (abC _)
  have HL := hide (hl.below hb0)
  have HL' := hide (hl'.below hb0)
  have HB0 := hide hb0
  have HX := hide ((RowK.new 110 w st h mu ep bo op n s a len cap i o tl pr).below (abC (.cells #[.int .i64 st, .string h, .bool mu, .int .i64 ep, .int .i64 bo, .int .i64 op', .int .i64 n', .string s', .slice a' len' cap', .int .i64 i, .int .i64 o, .bool tl, .bool pr] 110)))
  have HY : Hid (RowK 110 ((w.alloc (.cells #[.int .i64 st, .string h, .bool mu, .int .i64 ep, .int .i64 bo, .int .i64 op, .int .i64 n, .string s, .slice a len cap, .int .i64 i, .int .i64 o, .bool tl, .bool pr] 110)).alloc (.cells #[.int .i64 st, .string h, .bool mu, .int .i64 ep, .int .i64 bo, .int .i64 op', .int .i64 n', .string s', .slice a' len' cap', .int .i64 i, .int .i64 o, .bool tl, .bool pr] 110)) (w.heap.size + 1) st h mu ep bo op' n' s' a' len' cap' i o tl pr) := by
    have := RowK.new 110 (w.alloc (.cells #[.int .i64 st, .string h, .bool mu, .int .i64 ep, .int .i64 bo, .int .i64 op, .int .i64 n, .string s, .slice a len cap, .int .i64 i, .int .i64 o, .bool tl, .bool pr] 110)) st h mu ep bo op' n' s' a' len' cap' i o tl pr
    rwa [heap_size_alloc] at this
  clear hl hl' hb0
  go_enter Tryz.func104, Tryz.ntmps104
  cases mu <;> cases tl <;> cases pr
  all_goals
    go_wp2_with fail
    refine (h17 op n s a len cap op' n' s' a' len' cap' _ (unhide HL) (unhide HL')).mono ?_
    rintro e w2 ⟨rfl, hb2⟩
    obtain ⟨c0, c1, c2, c3, c4, c5, c6, c7, c8, c9, c10, c11, c12⟩ := ((unhide HX).below hb2).facts
    obtain ⟨d0, d1, d2, d3, d4, d5, d6, d7, d8, d9, d10, d11, d12⟩ := ((unhide HY).below hb2).facts
    have HB2 := hide (btC (unhide HB0) hb2)
    clear hb2
    go_wp2_with fail
    go_ret
    exact ⟨rfl, unhide HB2⟩

end Go.Proofs.YtbbidjckplpaiaaGreatDoor
