
/- Certificates as plain data, and the walks of laws.szCert, laws.toCert, laws.eqCert, spec.CertOk and impl.CertOk. -/
import Derived.Test.YtenagnoemdjgeaaGreatDoorHj
import Derived.Test.YtenagnoemdjgeaaGreatDoorAv
import Derived.Test.YtenagnoemdjgeaaGreatDoorEq
namespace Go.Proofs.YtenagnoemdjgeaaGreatDoor
open Go.RowKit Go.Deep

/-- The six cells of a certificate in a block of its own. -/
def RowC (ty : TypeId) (w : World) (b : Nat) (h : ByteArray) (op n : Int) (s : ByteArray) (a : Option Addr) (len cap : Nat) (u : Int) : Prop := w.heap[b]? = some (.cells #[.string h, .int .i64 op, .int .i64 n, .string s, .slice a len cap, .int .i64 u] ty (0, 0))
set_option maxRecDepth 100000 in
theorem RowC.new (ty : TypeId) (w : World) (h : ByteArray) (op n : Int) (s : ByteArray) (a : Option Addr) (len cap : Nat) (u : Int) : RowC ty (w.alloc (.cells #[.string h, .int .i64 op, .int .i64 n, .string s, .slice a len cap, .int .i64 u] ty)) w.heap.size h op n s a len cap u := heap_alloc_new w _
set_option maxRecDepth 100000 in
theorem RowC.lt {ty : TypeId} {w : World} {b : Nat} {h : ByteArray} {op n : Int} {s : ByteArray} {a : Option Addr} {len cap : Nat} {u : Int} (hr : RowC ty w b h op n s a len cap u) : b < w.heap.size := (Array.getElem?_eq_some_iff.1 hr).1
set_option maxRecDepth 100000 in
theorem RowC.below {ty : TypeId} {w w' : World} {b : Nat} {h : ByteArray} {op n : Int} {s : ByteArray} {a : Option Addr} {len cap : Nat} {u : Int} (hr : RowC ty w b h op n s a len cap u) (hb : Below w.heap.size w w') : RowC ty w' b h op n s a len cap u := (hb.block b hr.lt).trans hr
set_option maxRecDepth 100000 in
theorem RowC.facts {ty : TypeId} {w : World} {b : Nat} {h : ByteArray} {op n : Int} {s : ByteArray} {a : Option Addr} {len cap : Nat} {u : Int} (hr : RowC ty w b h op n s a len cap u) :
    w.cell? ⟨b, 0, none⟩ = some (.string h) ∧ w.cell? ⟨b, 1, none⟩ = some (.int .i64 op) ∧ w.cell? ⟨b, 2, none⟩ = some (.int .i64 n) ∧ w.cell? ⟨b, 3, none⟩ = some (.string s) ∧ w.cell? ⟨b, 4, none⟩ = some (.slice a len cap) ∧ w.cell? ⟨b, 5, none⟩ = some (.int .i64 u) :=
  ⟨cell_of_row hr (by simp), cell_of_row hr (by simp), cell_of_row hr (by simp), cell_of_row hr (by simp), cell_of_row hr (by simp), cell_of_row hr (by simp)⟩

def opT : Tm → Int | .node op _ _ _ => op
set_option maxRecDepth 100000 in
theorem lies_op {w : World} {L : Nat} {t : Tm} {op n : Int} {s : ByteArray} {a : Option Addr} {len cap : Nat} (h : Lies w L t (tmCells op n s a len cap)) : opT t = op := by
  cases t with
  | node op' n' s' ks =>
    simp only [Lies, tmCells] at h
    obtain ⟨a', cap', he, _⟩ := h
    simp only [List.cons.injEq, Value.int.injEq, true_and] at he
    exact he.1.symm
/-- A certificate that is right. -/
noncomputable def certB (h : ByteArray) (t : Tm) (u : Int) : Bool := hostB h && (opT t == 4 && (okT t && decide (0 ≤ u ∧ u ≤ 100000)))

set_option maxRecDepth 100000 in
theorem abC {w : World} (x : Obj) : Below w.heap.size w (w.alloc x) := (Below.refl _ _).alloc (Nat.le_refl _) _
set_option maxRecDepth 100000 in
theorem btC {w v x : World} (h : Below w.heap.size w v) (h2 : Below v.heap.size v x) : Below w.heap.size w x := h.trans (h2.mono h.size)

set_option maxRecDepth 100000 in
set_option maxHeartbeats 1000000 in
theorem szC (t : Tm) (h : ByteArray) (op n : Int) (s : ByteArray) (a : Option Addr) (len cap : Nat) (u : Int) (w : World) (hl : Lies w 0 t (tmCells op n s a len cap)) (hh : h.size ≤ maxLen) :
    Calls Tryz.prog 14 #[.agg #[.string h, .int .i64 op, .int .i64 n, .string s, .slice a len cap, .int .i64 u], .int .i64 1048576] w fun e w' => e = .returned (.int .i64 (szv 1048576 (h.size + t.wt))) ∧ Below w.heap.size w w' := by
  have hm : h.size ≤ 9223372036854775807 := by unfold maxLen at hh; omega
  have h12 := sz_calls t
  obtain ⟨left, hleft⟩ : ∃ left : Int, left = 1048576 - (h.size : Int) := ⟨_, rfl⟩
  have w1 : wrap64 (1048576 - (h.size : Int)) = left := by unfold wrap64; omega
  have HL := hide (hl.below (abC (.cells #[.string h, .int .i64 op, .int .i64 n, .string s, .slice a len cap, .int .i64 u] 37)))
  clear hl hh hm
  by_cases h1 : left < 0
  · have HE : Hid (szv 1048576 (h.size + t.wt) = -1) := szv_no (by omega)
    clear hleft
    go_enter Tryz.func14, Tryz.ntmps14
    go_wp2_with fail
    go_ret
    exact ⟨ret_int (unhide HE).symm, abC _⟩
  · have HC := hide (fun v hv => h12 op n s a len cap left v hv (by omega) (by omega))
    clear h12
    by_cases h2 : (t.wt : Int) ≤ left
    · have HE : Hid (szv 1048576 (h.size + t.wt) = left - t.wt) := by
        show _ = _
        rw [szv_yes (by omega)]; omega
      rw [szv_yes h2] at HC
      have h3 : ¬ left - (t.wt : Int) < 0 := by omega
      clear hleft
      go_enter Tryz.func14, Tryz.ntmps14
      go_wp2_with fail
      refine (unhide HC _ (unhide HL)).mono ?_
      rintro e w2 ⟨rfl, hb2⟩
      go_wp2_with fail
      go_ret
      exact ⟨ret_int (unhide HE).symm, btC (abC _) hb2⟩
    · have HE : Hid (szv 1048576 (h.size + t.wt) = -1) := szv_no (by omega)
      rw [szv_no (by omega)] at HC
      clear hleft
      go_enter Tryz.func14, Tryz.ntmps14
      go_wp2_with fail
      refine (unhide HC _ (unhide HL)).mono ?_
      rintro e w2 ⟨rfl, hb2⟩
      go_wp2_with fail
      go_ret
      exact ⟨ret_int (unhide HE).symm, btC (abC _) hb2⟩

set_option maxRecDepth 100000 in
set_option maxHeartbeats 1000000 in
theorem certS (t : Tm) (h : ByteArray) (op n : Int) (s : ByteArray) (a : Option Addr) (len cap : Nat) (u : Int) (w : World) (hl : Lies w 0 t (tmCells op n s a len cap)) (hsz : t.size ≤ 2097152) (hh : h.size ≤ 2097152) :
    Calls Tryz.prog 62 #[.agg #[.string h, .int .i64 op, .int .i64 n, .string s, .slice a len cap, .int .i64 u]] w fun e w' => e = .returned (.bool (certB h t u)) ∧ Below w.heap.size w w' := by
  have h10 := hide (fun v => hostS h v hh)
  have h13 := hide (fun v hv => ok8 t op n s a len cap v hv hsz)
  have h14 := hide (fun v => in14 u 0 100000 v)
  have hop := lies_op hl
  have hb0 := abC (w := w) (.cells #[.string h, .int .i64 op, .int .i64 n, .string s, .slice a len cap, .int .i64 u] 41)
  have HB0 := hide hb0
  have HL := hide (hl.below hb0)
  have HX := hide (RowC.new 41 w h op n s a len cap u)
  clear hl hb0
  cases hB : hostB h with
  | false =>
    have HE : Hid (certB h t u = false) := by show _ = _; simp [certB, hB]
    rw [hB] at h10
    clear hB
    go_enter Tryz.func62, Tryz.ntmps62
    go_wp2_with fail
    refine (unhide h10 _).mono ?_
    rintro e w2 ⟨rfl, hb2⟩
    obtain ⟨c0, c1, c2, c3, c4, c5⟩ := ((unhide HX).below hb2).facts
    go_wp2_with fail
    go_ret
    exact ⟨retB (unhide HE), btC (unhide HB0) hb2⟩
  | true =>
    rw [hB] at h10
    by_cases h4 : op = 4
    · have q4 : (op == 4) = true := by simpa using h4
      cases hK : okT t with
      | false =>
        have HE : Hid (certB h t u = false) := by show _ = _; simp [certB, hK]
        rw [hK] at h13
        clear hB hK hop h4
        go_enter Tryz.func62, Tryz.ntmps62
        go_wp2_with fail
        refine (unhide h10 _).mono ?_
        rintro e w2 ⟨rfl, hb2⟩
        obtain ⟨c0, c1, c2, c3, c4, c5⟩ := ((unhide HX).below hb2).facts
        have HB2 := hide hb2
        clear hb2
        go_wp2_with fail
        refine (unhide h13 _ ((unhide HL).below (unhide HB2))).mono ?_
        rintro e w3 ⟨rfl, hb3⟩
        have HB3 := hide hb3
        clear hb3 c0 c1 c2 c3 c4 c5
        obtain ⟨c0, c1, c2, c3, c4, c5⟩ := (((unhide HX).below (unhide HB2)).below (unhide HB3)).facts
        go_wp2_with fail
        go_ret
        exact ⟨retB (unhide HE), btC (btC (unhide HB0) (unhide HB2)) (unhide HB3)⟩
      | true =>
        have HE : Hid (certB h t u = decide (0 ≤ u ∧ u ≤ 100000)) := by show _ = _; simp [certB, hB, hK, hop, h4]
        rw [hK] at h13
        clear hB hK hop h4
        generalize decide (0 ≤ u ∧ u ≤ 100000) = D at *
        go_enter Tryz.func62, Tryz.ntmps62
        go_wp2_with fail
        refine (unhide h10 _).mono ?_
        rintro e w2 ⟨rfl, hb2⟩
        obtain ⟨c0, c1, c2, c3, c4, c5⟩ := ((unhide HX).below hb2).facts
        have HB2 := hide hb2
        clear hb2
        go_wp2_with fail
        refine (unhide h13 _ ((unhide HL).below (unhide HB2))).mono ?_
        rintro e w3 ⟨rfl, hb3⟩
        have HB3 := hide hb3
        clear hb3 c0 c1 c2 c3 c4 c5
        obtain ⟨c0, c1, c2, c3, c4, c5⟩ := (((unhide HX).below (unhide HB2)).below (unhide HB3)).facts
        go_wp2_with fail
        refine (unhide h14 _).mono ?_
        rintro e w4 ⟨rfl, rfl⟩
        go_wp2_with fail
        go_ret
        exact ⟨retB (unhide HE), btC (btC (unhide HB0) (unhide HB2)) (unhide HB3)⟩
    · have q4 : (op == 4) = false := by simpa using h4
      have HE : Hid (certB h t u = false) := by show _ = _; simp [certB, hop, h4]
      clear hB hop h4
      go_enter Tryz.func62, Tryz.ntmps62
      go_wp2_with fail
      refine (unhide h10 _).mono ?_
      rintro e w2 ⟨rfl, hb2⟩
      obtain ⟨c0, c1, c2, c3, c4, c5⟩ := ((unhide HX).below hb2).facts
      go_wp2_with fail
      go_ret
      exact ⟨retB (unhide HE), btC (unhide HB0) hb2⟩

set_option maxRecDepth 100000 in
theorem inTime (n : Int) (w : World) : Calls Tryz.prog 124 #[.int .i64 n] w fun e w' => e = .returned (.bool (decide (0 ≤ n ∧ n ≤ 100000))) ∧ w' = w := by
  by_cases h1 : 0 ≤ n
  · by_cases h2 : n ≤ 100000
    · rw [show decide (0 ≤ n ∧ n ≤ 100000) = true from decide_eq_true ⟨h1, h2⟩]
      go_enter Tryz.func124, Tryz.ntmps124
      go_wp2_with fail
      go_ret
      exact ⟨retB (by simp), rfl⟩
    · rw [show decide (0 ≤ n ∧ n ≤ 100000) = false from decide_eq_false (by omega)]
      go_enter Tryz.func124, Tryz.ntmps124
      go_wp2_with fail
      go_ret
      exact ⟨retB (by simp), rfl⟩
  · rw [show decide (0 ≤ n ∧ n ≤ 100000) = false from decide_eq_false (by omega)]
    go_enter Tryz.func124, Tryz.ntmps124
    go_wp2_with fail
    go_ret
    exact ⟨rfl, rfl⟩

set_option maxRecDepth 100000 in
set_option maxHeartbeats 1000000 in
theorem certI (t : Tm) (h : ByteArray) (op n : Int) (s : ByteArray) (a : Option Addr) (len cap : Nat) (u : Int) (w : World) (hl : Lies w 0 t (tmCells op n s a len cap)) (hsz : t.size ≤ 2097152) (hh : h.size ≤ 2097152) :
    Calls Tryz.prog 66 #[.agg #[.string h, .int .i64 op, .int .i64 n, .string s, .slice a len cap, .int .i64 u]] w fun e w' => e = .returned (.bool (certB h t u)) ∧ Below w.heap.size w w' := by
  have h10 := hide (fun v => hostI h v hh)
  have h13 := hide (fun v hv => ok10 t op n s a len cap v hv hsz)
  have hop := lies_op hl
  have hb0 := abC (w := w) (.cells #[.string h, .int .i64 op, .int .i64 n, .string s, .slice a len cap, .int .i64 u] 41)
  have HB0 := hide hb0
  have HL := hide (hl.below hb0)
  have HX := hide (RowC.new 41 w h op n s a len cap u)
  clear hl hb0
  cases hB : hostB h with
  | false =>
    have HE : Hid (certB h t u = false) := by show _ = _; simp [certB, hB]
    rw [hB] at h10
    clear hB
    go_enter Tryz.func66, Tryz.ntmps66
    go_wp2_with fail
    refine (unhide h10 _).mono ?_
    rintro e w2 ⟨rfl, hb2⟩
    obtain ⟨c0, c1, c2, c3, c4, c5⟩ := ((unhide HX).below hb2).facts
    go_wp2_with fail
    go_ret
    exact ⟨retB (unhide HE), btC (unhide HB0) hb2⟩
  | true =>
    rw [hB] at h10
    by_cases h4 : op = 4
    · have q4 : (op == 4) = true := by simpa using h4
      cases hK : okT t with
      | false =>
        have HE : Hid (certB h t u = false) := by show _ = _; simp [certB, hK]
        rw [hK] at h13
        clear hB hK hop h4
        go_enter Tryz.func66, Tryz.ntmps66
        go_wp2_with fail
        refine (unhide h10 _).mono ?_
        rintro e w2 ⟨rfl, hb2⟩
        obtain ⟨c0, c1, c2, c3, c4, c5⟩ := ((unhide HX).below hb2).facts
        have HB2 := hide hb2
        clear hb2
        go_wp2_with fail
        refine (unhide h13 _ ((unhide HL).below (unhide HB2))).mono ?_
        rintro e w3 ⟨rfl, hb3⟩
        have HB3 := hide hb3
        clear hb3 c0 c1 c2 c3 c4 c5
        obtain ⟨c0, c1, c2, c3, c4, c5⟩ := (((unhide HX).below (unhide HB2)).below (unhide HB3)).facts
        go_wp2_with fail
        go_ret
        exact ⟨retB (unhide HE), btC (btC (unhide HB0) (unhide HB2)) (unhide HB3)⟩
      | true =>
        have HE : Hid (certB h t u = decide (0 ≤ u ∧ u ≤ 100000)) := by show _ = _; simp [certB, hB, hK, hop, h4]
        rw [hK] at h13
        clear hB hK hop h4
        have h14 := hide (fun v => inTime u v)
        generalize decide (0 ≤ u ∧ u ≤ 100000) = D at *
        go_enter Tryz.func66, Tryz.ntmps66
        go_wp2_with fail
        refine (unhide h10 _).mono ?_
        rintro e w2 ⟨rfl, hb2⟩
        obtain ⟨c0, c1, c2, c3, c4, c5⟩ := ((unhide HX).below hb2).facts
        have HB2 := hide hb2
        clear hb2
        go_wp2_with fail
        refine (unhide h13 _ ((unhide HL).below (unhide HB2))).mono ?_
        rintro e w3 ⟨rfl, hb3⟩
        have HB3 := hide hb3
        clear hb3 c0 c1 c2 c3 c4 c5
        obtain ⟨c0, c1, c2, c3, c4, c5⟩ := (((unhide HX).below (unhide HB2)).below (unhide HB3)).facts
        go_wp2_with fail
        refine (unhide h14 _).mono ?_
        rintro e w4 ⟨rfl, rfl⟩
        go_wp2_with fail
        go_ret
        exact ⟨retB (unhide HE), btC (btC (unhide HB0) (unhide HB2)) (unhide HB3)⟩
    · have q4 : (op == 4) = false := by simpa using h4
      have HE : Hid (certB h t u = false) := by show _ = _; simp [certB, hop, h4]
      clear hB hop h4
      go_enter Tryz.func66, Tryz.ntmps66
      go_wp2_with fail
      refine (unhide h10 _).mono ?_
      rintro e w2 ⟨rfl, hb2⟩
      obtain ⟨c0, c1, c2, c3, c4, c5⟩ := ((unhide HX).below hb2).facts
      go_wp2_with fail
      go_ret
      exact ⟨retB (unhide HE), btC (unhide HB0) hb2⟩

set_option maxRecDepth 100000 in
set_option maxHeartbeats 1000000 in
theorem toC (t : Tm) (h : ByteArray) (op n : Int) (s : ByteArray) (a : Option Addr) (len cap : Nat) (u : Int) (w : World) (hl : Lies w 0 t (tmCells op n s a len cap)) (hsz : t.size ≤ 2097152) :
    Calls Tryz.prog 16 #[.agg #[.string h, .int .i64 op, .int .i64 n, .string s, .slice a len cap, .int .i64 u]] w fun e w' => ∃ a', e = .returned (.agg #[.string h, .int .i64 op, .int .i64 n, .string s, .slice a' len len, .int .i64 u]) ∧ Lies w' w.heap.size t (tmCells op n s a' len len) ∧ Below w.heap.size w w' := by
  have h15 := to_calls t
  have hb0 : Below w.heap.size w (((w.alloc (.cells #[.string h, .int .i64 op, .int .i64 n, .string s, .slice a len cap, .int .i64 u] 37)).alloc (.cells #[.string ⟨#[]⟩, .int .i64 0, .int .i64 0, .string ⟨#[]⟩, .slice none 0 0, .int .i64 0] 41)).alloc (.cells #[.string h, .int .i64 0, .int .i64 0, .string ⟨#[]⟩, .slice none 0 0, .int .i64 0] 41)) := btC (btC (abC _) (abC _)) (abC _)
  have HL := hide (hl.below hb0)
  have HB0 := hide hb0
  clear hl hb0
  go_enter Tryz.func16, Tryz.ntmps16
  go_wp2_with fail
  refine (h15 op n s a len cap _ (unhide HL) hsz).mono ?_
  rintro e w2 ⟨a2, rfl, hL2, hb2⟩
  have HB2 := hide (btC (unhide HB0) hb2)
  obtain ⟨hc, hf⟩ := bcell hb2
  clear hb2 HB0 HL
  go_wp2_with fail
  simp only [heap_size_alloc] at hL2 hc
  refine bodyPost_ret (v := .agg #[.string h, .int .i64 op, .int .i64 n, .string s, .slice a2 len len, .int .i64 u]) (by simp [results, Tryz.results16, go_sem, hc]) rfl ⟨_, rfl, ?_, ?_⟩
  · refine Lies.carry (L := w.heap.size + 1 + 1 + 1) (by omega) (fun b o hb _ => ?_) _ _ hL2
    repeat rw [cell_set_other (by omega)]
  · repeat refine Below.setCell ?_ (by simp <;> omega) _
    exact unhide HB2

set_option maxRecDepth 100000 in
set_option maxHeartbeats 1000000 in
theorem eqC (t : Tm) (h : ByteArray) (op n : Int) (s : ByteArray) (a : Option Addr) (len cap : Nat) (u : Int) (op' n' : Int) (s' : ByteArray) (a' : Option Addr) (len' cap' : Nat) (w : World) (hl : Lies w 0 t (tmCells op n s a len cap)) (hl' : Lies w 0 t (tmCells op' n' s' a' len' cap')) :
    Calls Tryz.prog 19 #[.agg #[.string h, .int .i64 op, .int .i64 n, .string s, .slice a len cap, .int .i64 u], .agg #[.string h, .int .i64 op', .int .i64 n', .string s', .slice a' len' cap', .int .i64 u]] w fun e w' => e = .returned (.bool true) ∧ Below w.heap.size w w' := by
  have h17 := eq_calls t
  have hb0 : Below w.heap.size w ((w.alloc (.cells #[.string h, .int .i64 op, .int .i64 n, .string s, .slice a len cap, .int .i64 u] 41)).alloc (.cells #[.string h, .int .i64 op', .int .i64 n', .string s', .slice a' len' cap', .int .i64 u] 41)) := btC (abC _) (abC _)
  have HL := hide (hl.below hb0)
  have HL' := hide (hl'.below hb0)
  have HB0 := hide hb0
  have HX := hide ((RowC.new 41 w h op n s a len cap u).below (abC (.cells #[.string h, .int .i64 op', .int .i64 n', .string s', .slice a' len' cap', .int .i64 u] 41)))
  have HY : Hid (RowC 41 ((w.alloc (.cells #[.string h, .int .i64 op, .int .i64 n, .string s, .slice a len cap, .int .i64 u] 41)).alloc (.cells #[.string h, .int .i64 op', .int .i64 n', .string s', .slice a' len' cap', .int .i64 u] 41)) (w.heap.size + 1) h op' n' s' a' len' cap' u) := by
    have := RowC.new 41 (w.alloc (.cells #[.string h, .int .i64 op, .int .i64 n, .string s, .slice a len cap, .int .i64 u] 41)) h op' n' s' a' len' cap' u
    rwa [heap_size_alloc] at this
  clear hl hl' hb0
  go_enter Tryz.func19, Tryz.ntmps19
  go_wp2_with fail
  refine (h17 op n s a len cap op' n' s' a' len' cap' _ (unhide HL) (unhide HL')).mono ?_
  rintro e w2 ⟨rfl, hb2⟩
  obtain ⟨c0, c1, c2, c3, c4, c5⟩ := ((unhide HX).below hb2).facts
  obtain ⟨d0, d1, d2, d3, d4, d5⟩ := ((unhide HY).below hb2).facts
  have HB2 := hide (btC (unhide HB0) hb2)
  clear hb2
  go_wp2_with fail
  go_ret
  exact ⟨rfl, unhide HB2⟩

end Go.Proofs.YtenagnoemdjgeaaGreatDoor
