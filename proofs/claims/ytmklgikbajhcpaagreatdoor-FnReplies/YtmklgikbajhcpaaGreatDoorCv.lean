/- Certificates as plain data, and the walks of laws.szCert, laws.toCert, laws.eqCert, spec.CertOk and impl.CertOk. The walks at a term with no kids: impl.copyTerm, laws.markTerm, laws.heldTerm; nothing that was there is written. The walks at a term with no kids: spec.l3Ok, impl.newTerm, spec.Atom, impl.Atom; nothing that was there is written. The walk of laws.markText: the text of a mark; nothing that was there is written. The marks that the laws write into a term: three for each term, from k on. The walks of laws.heldTermS and laws.heldTerm: where the marks from k on stand in a term's kids, they answer the mark behind the last; nothing that was there is written. The walks of laws.markTermS and laws.markTerm: in a term whose kids lie in blocks of their own they write the marks from k on, and answer the mark behind the last; no other block that was there is written. What a certificate comes to as a term, and the walks of spec.CertTerm: the term in memory; nothing that was there is written. The walks of spec.CertTerm where the certificate is not right, and of impl.hostText and impl.CertTerm: what a certificate comes to, in new blocks of its own; zero where it is not right; nothing that was there is written. The walks of impl.CertTerm where the certificate is not right, and at any; of laws.toCert, in new blocks of its own; of laws.markCert. -/
import Derived.Test.YtmklgikbajhcpaaGreatDoorHj
import Derived.Test.YtmklgikbajhcpaaGreatDoorAv
import Derived.Test.YtmklgikbajhcpaaGreatDoorSu
import Derived.Test.YtmklgikbajhcpaaGreatDoorTp
import Derived.Test.YtmklgikbajhcpaaGreatDoorSa
import Derived.Deep.RegionHeld3
import Derived.Test.YtmklgikbajhcpaaGreatDoorTx
import Derived.Lib.ItoaLen
import Derived.Lib.AppendIntMem
namespace Go.Proofs.YtmklgikbajhcpaaGreatDoor
open Go.RowKit Go.Deep

/-- The six cells of a certificate in a block of its own. -/
def RowC (ty : TypeId) (w : World) (b : Nat) (h : ByteArray) (op n : Int) (s : ByteArray) (a : Option Addr) (len cap : Nat) (u : Int) : Prop := w.heap[b]? = some (.cells #[.string h, .int .i64 op, .int .i64 n, .string s, .slice a len cap, .int .i64 u] ty (0, 0))
set_option maxRecDepth 100000 in
theorem RowC.new (ty : TypeId) (w : World) (h : ByteArray) (op n : Int) (s : ByteArray) (a : Option Addr) (len cap : Nat) (u : Int) : RowC ty (w.alloc (.cells #[.string h, .int .i64 op, .int .i64 n, .string s, .slice a len cap, .int .i64 u] ty)) w.heap.size h op n s a len cap u := heap_alloc_new w _
set_option maxRecDepth 100000 in
theorem RowC.lt {ty : TypeId} {w : World} {b : Nat} {h : ByteArray} {op n : Int} {s : ByteArray} {a : Option Addr} {len cap : Nat} {u : Int} (hr : RowC ty w b h op n s a len cap u) : b < w.heap.size := (Array.getElem?_eq_some_iff.1 hr).1
set_option maxRecDepth 100000 in
theorem RowC.below {ty : TypeId} {w w' : World} {b : Nat} {h : ByteArray} {op n : Int} {s : ByteArray} {a : Option Addr} {len cap : Nat} {u : Int} (hr : RowC ty w b h op n s a len cap u) (hb : Below w.heap.size w w') : RowC ty w' b h op n s a len cap u := (hb.block b hr.lt).trans hr
set_option maxRecDepth 100000 in
theorem RowC.facts {ty : TypeId} {w : World} {b : Nat} {h : ByteArray} {op n : Int} {s : ByteArray} {a : Option Addr} {len cap : Nat} {u : Int} (hr : RowC ty w b h op n s a len cap u) :
    w.cell? ⟨b, 0, none⟩ = some (.string h) ∧ w.cell? ⟨b, 1, none⟩ = some (.int .i64 op) ∧ w.cell? ⟨b, 2, none⟩ = some (.int .i64 n) ∧ w.cell? ⟨b, 3, none⟩ = some (.string s) ∧ w.cell? ⟨b, 4, none⟩ = some (.slice a len cap) ∧ w.cell? ⟨b, 5, none⟩ = some (.int .i64 u) :=
  ⟨cell_of_row hr (by simp), cell_of_row hr (by simp), cell_of_row hr (by simp), cell_of_row hr (by simp), cell_of_row hr (by simp), cell_of_row hr (by simp)⟩

def opT : Tm → Int | .node op _ _ _ => op
set_option maxRecDepth 100000 in
theorem lies_op {w : World} {L : Nat} {t : Tm} {op n : Int} {s : ByteArray} {a : Option Addr} {len cap : Nat} (h : Lies w L t (tmCells op n s a len cap)) : opT t = op := by
  cases t with
  | node op' n' s' ks =>
    simp only [Lies, tmCells] at h
    obtain ⟨a', cap', he, _⟩ := h
    simp only [List.cons.injEq, Value.int.injEq, true_and] at he
    exact he.1.symm
/-- A certificate that is right. -/
noncomputable def certB (h : ByteArray) (t : Tm) (u : Int) : Bool := hostB h && (opT t == 4 && (okT t && decide (0 ≤ u ∧ u ≤ 100000)))

set_option maxRecDepth 100000 in
theorem abC {w : World} (x : Obj) : Below w.heap.size w (w.alloc x) := (Below.refl _ _).alloc (Nat.le_refl _) _
set_option maxRecDepth 100000 in
theorem btC {w v x : World} (h : Below w.heap.size w v) (h2 : Below v.heap.size v x) : Below w.heap.size w x := h.trans (h2.mono h.size)

set_option maxRecDepth 100000 in
set_option maxHeartbeats 1000000 in
theorem szC (t : Tm) (h : ByteArray) (op n : Int) (s : ByteArray) (a : Option Addr) (len cap : Nat) (u : Int) (w : World) (hl : Lies w 0 t (tmCells op n s a len cap)) (hh : h.size ≤ maxLen) :
    Calls Tryz.prog 40 #[.agg #[.string h, .int .i64 op, .int .i64 n, .string s, .slice a len cap, .int .i64 u], .int .i64 1048576] w fun e w' => e = .returned (.int .i64 (szv 1048576 (h.size + t.wt))) ∧ Below w.heap.size w w' := by
  have hm : h.size ≤ 9223372036854775807 := by unfold maxLen at hh; omega
  have h12 := sz_calls t
  obtain ⟨left, hleft⟩ : ∃ left : Int, left = 1048576 - (h.size : Int) := ⟨_, rfl⟩
  have w1 : wrap64 (1048576 - (h.size : Int)) = left := by unfold wrap64; omega
  have HL := hide (hl.below (abC (.cells #[.string h, .int .i64 op, .int .i64 n, .string s, .slice a len cap, .int .i64 u] 53)))
  clear hl hh hm
  by_cases h1 : left < 0
  · have HE : Hid (szv 1048576 (h.size + t.wt) = -1) := szv_no (by omega)
    clear hleft
    go_enter Tryz.func40, Tryz.ntmps40
    go_wp2_with fail
    go_ret
    exact ⟨ret_int (unhide HE).symm, abC _⟩
  · have HC := hide (fun v hv => h12 op n s a len cap left v hv (by omega) (by omega))
    clear h12
    by_cases h2 : (t.wt : Int) ≤ left
    · have HE : Hid (szv 1048576 (h.size + t.wt) = left - t.wt) := by
        show _ = _
        rw [szv_yes (by omega)]; omega
      rw [szv_yes h2] at HC
      have h3 : ¬ left - (t.wt : Int) < 0 := by omega
      clear hleft
      go_enter Tryz.func40, Tryz.ntmps40
      go_wp2_with fail
      refine (unhide HC _ (unhide HL)).mono ?_
      rintro e w2 ⟨rfl, hb2⟩
      go_wp2_with fail
      go_ret
      exact ⟨ret_int (unhide HE).symm, btC (abC _) hb2⟩
    · have HE : Hid (szv 1048576 (h.size + t.wt) = -1) := szv_no (by omega)
      rw [szv_no (by omega)] at HC
      clear hleft
      go_enter Tryz.func40, Tryz.ntmps40
      go_wp2_with fail
      refine (unhide HC _ (unhide HL)).mono ?_
      rintro e w2 ⟨rfl, hb2⟩
      go_wp2_with fail
      go_ret
      exact ⟨ret_int (unhide HE).symm, btC (abC _) hb2⟩

set_option maxRecDepth 100000 in
set_option maxHeartbeats 1000000 in
theorem certS (t : Tm) (h : ByteArray) (op n : Int) (s : ByteArray) (a : Option Addr) (len cap : Nat) (u : Int) (w : World) (hl : Lies w 0 t (tmCells op n s a len cap)) (hsz : t.size ≤ 2097152) (hh : h.size ≤ 2097152) :
    Calls Tryz.prog 57 #[.agg #[.string h, .int .i64 op, .int .i64 n, .string s, .slice a len cap, .int .i64 u]] w fun e w' => e = .returned (.bool (certB h t u)) ∧ Below w.heap.size w w' := by
  have h10 := hide (fun v => hostS h v hh)
  have h13 := hide (fun v hv => ok8 t op n s a len cap v hv hsz)
  have h14 := hide (fun v => in14 u 0 100000 v)
  have hop := lies_op hl
  have hb0 := abC (w := w) (.cells #[.string h, .int .i64 op, .int .i64 n, .string s, .slice a len cap, .int .i64 u] 57)
  have HB0 := hide hb0
  have HL := hide (hl.below hb0)
  have HX := hide (RowC.new 57 w h op n s a len cap u)
  clear hl hb0
  cases hB : hostB h with
  | false =>
    have HE : Hid (certB h t u = false) := by show _ = _; simp [certB, hB]
    rw [hB] at h10
    clear hB
    go_enter Tryz.func57, Tryz.ntmps57
    go_wp2_with fail
    refine (unhide h10 _).mono ?_
    rintro e w2 ⟨rfl, hb2⟩
    obtain ⟨c0, c1, c2, c3, c4, c5⟩ := ((unhide HX).below hb2).facts
    go_wp2_with fail
    go_ret
    exact ⟨retB (unhide HE), btC (unhide HB0) hb2⟩
  | true =>
    rw [hB] at h10
    by_cases h4 : op = 4
    · have q4 : (op == 4) = true := by simpa using h4
      cases hK : okT t with
      | false =>
        have HE : Hid (certB h t u = false) := by show _ = _; simp [certB, hK]
        rw [hK] at h13
        clear hB hK hop h4
        go_enter Tryz.func57, Tryz.ntmps57
        go_wp2_with fail
        refine (unhide h10 _).mono ?_
        rintro e w2 ⟨rfl, hb2⟩
        obtain ⟨c0, c1, c2, c3, c4, c5⟩ := ((unhide HX).below hb2).facts
        have HB2 := hide hb2
        clear hb2
        go_wp2_with fail
        refine (unhide h13 _ ((unhide HL).below (unhide HB2))).mono ?_
        rintro e w3 ⟨rfl, hb3⟩
        have HB3 := hide hb3
        clear hb3 c0 c1 c2 c3 c4 c5
        obtain ⟨c0, c1, c2, c3, c4, c5⟩ := (((unhide HX).below (unhide HB2)).below (unhide HB3)).facts
        go_wp2_with fail
        go_ret
        exact ⟨retB (unhide HE), btC (btC (unhide HB0) (unhide HB2)) (unhide HB3)⟩
      | true =>
        have HE : Hid (certB h t u = decide (0 ≤ u ∧ u ≤ 100000)) := by show _ = _; simp [certB, hB, hK, hop, h4]
        rw [hK] at h13
        clear hB hK hop h4
        generalize decide (0 ≤ u ∧ u ≤ 100000) = D at *
        go_enter Tryz.func57, Tryz.ntmps57
        go_wp2_with fail
        refine (unhide h10 _).mono ?_
        rintro e w2 ⟨rfl, hb2⟩
        obtain ⟨c0, c1, c2, c3, c4, c5⟩ := ((unhide HX).below hb2).facts
        have HB2 := hide hb2
        clear hb2
        go_wp2_with fail
        refine (unhide h13 _ ((unhide HL).below (unhide HB2))).mono ?_
        rintro e w3 ⟨rfl, hb3⟩
        have HB3 := hide hb3
        clear hb3 c0 c1 c2 c3 c4 c5
        obtain ⟨c0, c1, c2, c3, c4, c5⟩ := (((unhide HX).below (unhide HB2)).below (unhide HB3)).facts
        go_wp2_with fail
        refine (unhide h14 _).mono ?_
        rintro e w4 ⟨rfl, rfl⟩
        go_wp2_with fail
        go_ret
        exact ⟨retB (unhide HE), btC (btC (unhide HB0) (unhide HB2)) (unhide HB3)⟩
    · have q4 : (op == 4) = false := by simpa using h4
      have HE : Hid (certB h t u = false) := by show _ = _; simp [certB, hop, h4]
      clear hB hop h4
      go_enter Tryz.func57, Tryz.ntmps57
      go_wp2_with fail
      refine (unhide h10 _).mono ?_
      rintro e w2 ⟨rfl, hb2⟩
      obtain ⟨c0, c1, c2, c3, c4, c5⟩ := ((unhide HX).below hb2).facts
      go_wp2_with fail
      go_ret
      exact ⟨retB (unhide HE), btC (unhide HB0) hb2⟩

set_option maxRecDepth 100000 in
theorem inTime (n : Int) (w : World) : Calls Tryz.prog 112 #[.int .i64 n] w fun e w' => e = .returned (.bool (decide (0 ≤ n ∧ n ≤ 100000))) ∧ w' = w := by
  by_cases h1 : 0 ≤ n
  · by_cases h2 : n ≤ 100000
    · rw [show decide (0 ≤ n ∧ n ≤ 100000) = true from decide_eq_true ⟨h1, h2⟩]
      go_enter Tryz.func112, Tryz.ntmps112
      go_wp2_with fail
      go_ret
      exact ⟨retB (by simp), rfl⟩
    · rw [show decide (0 ≤ n ∧ n ≤ 100000) = false from decide_eq_false (by omega)]
      go_enter Tryz.func112, Tryz.ntmps112
      go_wp2_with fail
      go_ret
      exact ⟨retB (by simp), rfl⟩
  · rw [show decide (0 ≤ n ∧ n ≤ 100000) = false from decide_eq_false (by omega)]
    go_enter Tryz.func112, Tryz.ntmps112
    go_wp2_with fail
    go_ret
    exact ⟨rfl, rfl⟩

set_option maxRecDepth 100000 in
set_option maxHeartbeats 1000000 in
theorem certI (t : Tm) (h : ByteArray) (op n : Int) (s : ByteArray) (a : Option Addr) (len cap : Nat) (u : Int) (w : World) (hl : Lies w 0 t (tmCells op n s a len cap)) (hsz : t.size ≤ 2097152) (hh : h.size ≤ 2097152) :
    Calls Tryz.prog 56 #[.agg #[.string h, .int .i64 op, .int .i64 n, .string s, .slice a len cap, .int .i64 u]] w fun e w' => e = .returned (.bool (certB h t u)) ∧ Below w.heap.size w w' := by
  have h10 := hide (fun v => hostI h v hh)
  have h13 := hide (fun v hv => ok10 t op n s a len cap v hv hsz)
  have hop := lies_op hl
  have hb0 := abC (w := w) (.cells #[.string h, .int .i64 op, .int .i64 n, .string s, .slice a len cap, .int .i64 u] 57)
  have HB0 := hide hb0
  have HL := hide (hl.below hb0)
  have HX := hide (RowC.new 57 w h op n s a len cap u)
  clear hl hb0
  cases hB : hostB h with
  | false =>
    have HE : Hid (certB h t u = false) := by show _ = _; simp [certB, hB]
    rw [hB] at h10
    clear hB
    go_enter Tryz.func56, Tryz.ntmps56
    go_wp2_with fail
    refine (unhide h10 _).mono ?_
    rintro e w2 ⟨rfl, hb2⟩
    obtain ⟨c0, c1, c2, c3, c4, c5⟩ := ((unhide HX).below hb2).facts
    go_wp2_with fail
    go_ret
    exact ⟨retB (unhide HE), btC (unhide HB0) hb2⟩
  | true =>
    rw [hB] at h10
    by_cases h4 : op = 4
    · have q4 : (op == 4) = true := by simpa using h4
      cases hK : okT t with
      | false =>
        have HE : Hid (certB h t u = false) := by show _ = _; simp [certB, hK]
        rw [hK] at h13
        clear hB hK hop h4
        go_enter Tryz.func56, Tryz.ntmps56
        go_wp2_with fail
        refine (unhide h10 _).mono ?_
        rintro e w2 ⟨rfl, hb2⟩
        obtain ⟨c0, c1, c2, c3, c4, c5⟩ := ((unhide HX).below hb2).facts
        have HB2 := hide hb2
        clear hb2
        go_wp2_with fail
        refine (unhide h13 _ ((unhide HL).below (unhide HB2))).mono ?_
        rintro e w3 ⟨rfl, hb3⟩
        have HB3 := hide hb3
        clear hb3 c0 c1 c2 c3 c4 c5
        obtain ⟨c0, c1, c2, c3, c4, c5⟩ := (((unhide HX).below (unhide HB2)).below (unhide HB3)).facts
        go_wp2_with fail
        go_ret
        exact ⟨retB (unhide HE), btC (btC (unhide HB0) (unhide HB2)) (unhide HB3)⟩
      | true =>
        have HE : Hid (certB h t u = decide (0 ≤ u ∧ u ≤ 100000)) := by show _ = _; simp [certB, hB, hK, hop, h4]
        rw [hK] at h13
        clear hB hK hop h4
        have h14 := hide (fun v => inTime u v)
        generalize decide (0 ≤ u ∧ u ≤ 100000) = D at *
        go_enter Tryz.func56, Tryz.ntmps56
        go_wp2_with fail
        refine (unhide h10 _).mono ?_
        rintro e w2 ⟨rfl, hb2⟩
        obtain ⟨c0, c1, c2, c3, c4, c5⟩ := ((unhide HX).below hb2).facts
        have HB2 := hide hb2
        clear hb2
        go_wp2_with fail
        refine (unhide h13 _ ((unhide HL).below (unhide HB2))).mono ?_
        rintro e w3 ⟨rfl, hb3⟩
        have HB3 := hide hb3
        clear hb3 c0 c1 c2 c3 c4 c5
        obtain ⟨c0, c1, c2, c3, c4, c5⟩ := (((unhide HX).below (unhide HB2)).below (unhide HB3)).facts
        go_wp2_with fail
        refine (unhide h14 _).mono ?_
        rintro e w4 ⟨rfl, rfl⟩
        go_wp2_with fail
        go_ret
        exact ⟨retB (unhide HE), btC (btC (unhide HB0) (unhide HB2)) (unhide HB3)⟩
    · have q4 : (op == 4) = false := by simpa using h4
      have HE : Hid (certB h t u = false) := by show _ = _; simp [certB, hop, h4]
      clear hB hop h4
      go_enter Tryz.func56, Tryz.ntmps56
      go_wp2_with fail
      refine (unhide h10 _).mono ?_
      rintro e w2 ⟨rfl, hb2⟩
      obtain ⟨c0, c1, c2, c3, c4, c5⟩ := ((unhide HX).below hb2).facts
      go_wp2_with fail
      go_ret
      exact ⟨retB (unhide HE), btC (unhide HB0) hb2⟩

set_option maxRecDepth 100000 in
set_option maxHeartbeats 1000000 in
theorem toC (t : Tm) (h : ByteArray) (op n : Int) (s : ByteArray) (a : Option Addr) (len cap : Nat) (u : Int) (w : World) (hl : Lies w 0 t (tmCells op n s a len cap)) (hsz : t.size ≤ 2097152) :
    Calls Tryz.prog 42 #[.agg #[.string h, .int .i64 op, .int .i64 n, .string s, .slice a len cap, .int .i64 u]] w fun e w' => ∃ a', e = .returned (.agg #[.string h, .int .i64 op, .int .i64 n, .string s, .slice a' len len, .int .i64 u]) ∧ Lies w' w.heap.size t (tmCells op n s a' len len) ∧ Below w.heap.size w w' := by
  have h15 := to_calls t
  have hb0 : Below w.heap.size w (((w.alloc (.cells #[.string h, .int .i64 op, .int .i64 n, .string s, .slice a len cap, .int .i64 u] 53)).alloc (.cells #[.string ⟨#[]⟩, .int .i64 0, .int .i64 0, .string ⟨#[]⟩, .slice none 0 0, .int .i64 0] 57)).alloc (.cells #[.string h, .int .i64 0, .int .i64 0, .string ⟨#[]⟩, .slice none 0 0, .int .i64 0] 57)) := btC (btC (abC _) (abC _)) (abC _)
  have HL := hide (hl.below hb0)
  have HB0 := hide hb0
  clear hl hb0
  go_enter Tryz.func42, Tryz.ntmps42
  go_wp2_with fail
  refine (h15 op n s a len cap _ (unhide HL) hsz).mono ?_
  rintro e w2 ⟨a2, rfl, hL2, hb2⟩
  have HB2 := hide (btC (unhide HB0) hb2)
  obtain ⟨hc, hf⟩ := bcell hb2
  clear hb2 HB0 HL
  go_wp2_with fail
  simp only [heap_size_alloc] at hL2 hc
  refine bodyPost_ret (v := .agg #[.string h, .int .i64 op, .int .i64 n, .string s, .slice a2 len len, .int .i64 u]) (by simp [results, Tryz.results42, go_sem, hc]) rfl ⟨_, rfl, ?_, ?_⟩
  · refine Lies.carry (L := w.heap.size + 1 + 1 + 1) (by omega) (fun b o hb _ => ?_) _ _ hL2
    repeat rw [cell_set_other (by omega)]
  · repeat refine Below.setCell ?_ (by simp <;> omega) _
    exact unhide HB2

set_option maxRecDepth 100000 in
set_option maxHeartbeats 1000000 in
theorem eqC (t : Tm) (h : ByteArray) (op n : Int) (s : ByteArray) (a : Option Addr) (len cap : Nat) (u : Int) (op' n' : Int) (s' : ByteArray) (a' : Option Addr) (len' cap' : Nat) (w : World) (hl : Lies w 0 t (tmCells op n s a len cap)) (hl' : Lies w 0 t (tmCells op' n' s' a' len' cap')) :
    Calls Tryz.prog 44 #[.agg #[.string h, .int .i64 op, .int .i64 n, .string s, .slice a len cap, .int .i64 u], .agg #[.string h, .int .i64 op', .int .i64 n', .string s', .slice a' len' cap', .int .i64 u]] w fun e w' => e = .returned (.bool true) ∧ Below w.heap.size w w' := by
  have h17 := eq_calls t
  have hb0 : Below w.heap.size w ((w.alloc (.cells #[.string h, .int .i64 op, .int .i64 n, .string s, .slice a len cap, .int .i64 u] 57)).alloc (.cells #[.string h, .int .i64 op', .int .i64 n', .string s', .slice a' len' cap', .int .i64 u] 57)) := btC (abC _) (abC _)
  have HL := hide (hl.below hb0)
  have HL' := hide (hl'.below hb0)
  have HB0 := hide hb0
  have HX := hide ((RowC.new 57 w h op n s a len cap u).below (abC (.cells #[.string h, .int .i64 op', .int .i64 n', .string s', .slice a' len' cap', .int .i64 u] 57)))
  have HY : Hid (RowC 57 ((w.alloc (.cells #[.string h, .int .i64 op, .int .i64 n, .string s, .slice a len cap, .int .i64 u] 57)).alloc (.cells #[.string h, .int .i64 op', .int .i64 n', .string s', .slice a' len' cap', .int .i64 u] 57)) (w.heap.size + 1) h op' n' s' a' len' cap' u) := by
    have := RowC.new 57 (w.alloc (.cells #[.string h, .int .i64 op, .int .i64 n, .string s, .slice a len cap, .int .i64 u] 57)) h op' n' s' a' len' cap' u
    rwa [heap_size_alloc] at this
  clear hl hl' hb0
  go_enter Tryz.func44, Tryz.ntmps44
  go_wp2_with fail
  refine (h17 op n s a len cap op' n' s' a' len' cap' _ (unhide HL) (unhide HL')).mono ?_
  rintro e w2 ⟨rfl, hb2⟩
  obtain ⟨c0, c1, c2, c3, c4, c5⟩ := ((unhide HX).below hb2).facts
  obtain ⟨d0, d1, d2, d3, d4, d5⟩ := ((unhide HY).below hb2).facts
  have HB2 := hide (btC (unhide HB0) hb2)
  clear hb2
  go_wp2_with fail
  go_ret
  exact ⟨rfl, unhide HB2⟩

theorem copy_leaf (op n : Int) (s : ByteArray) (a : Option Addr) (cap : Nat) (w : World) (hl : Lies w 0 (.node op n s []) (tmCells op n s a 0 cap)) (hs : s.size ≤ 4194303) :
    Calls Tryz.prog 123 #[.agg #[.int .i64 op, .int .i64 n, .string s, .slice a 0 cap]] w fun e w' => e = .returned (.agg #[.int .i64 op, .int .i64 n, .string s, .slice none 0 0]) ∧ Below w.heap.size w w' := by
  refine (cy_all (.node op n s []) op n s a 0 cap w hl (by simp only [Tm.size, Tm.wt, Tm.sizes, Tm.wts, List.length_nil]; omega)).mono ?_
  rintro e w' ⟨a', cap', fp, rfl, _, _, hn, hb⟩
  obtain ⟨rfl, rfl⟩ := hn rfl
  exact ⟨rfl, hb⟩

theorem marks_nil (a : Option Addr) (cap : Nat) (k : Int) (w : World) :
    Calls Tryz.prog 105 #[.slice a 0 cap, .int .i64 k] w fun e w' => e = .returned (.int .i64 k) ∧ Below w.heap.size w w' := by
  go_enter Tryz.func105, Tryz.ntmps105
  go_wp2_with fail
  go_loop [1, 5] (fun x i => x = .int .i64 k ∧ i = .int .i64 0) (fun _ _ => 0)
  case atStart => exact ⟨rfl, rfl⟩
  case round =>
    obtain ⟨rfl, rfl⟩ := hrel
    go_wp2_with fail
    go_ret
    exact ⟨rfl, Below.refl _ _⟩

theorem helds_nil (a : Option Addr) (cap : Nat) (k : Int) (w : World) :
    Calls Tryz.prog 106 #[.slice a 0 cap, .int .i64 k] w fun e w' => e = .returned (.int .i64 k) ∧ Below w.heap.size w w' := by
  go_enter Tryz.func106, Tryz.ntmps106
  go_wp2_with fail
  go_loop [1, 5] (fun x i => x = .int .i64 k ∧ i = .int .i64 0) (fun _ _ => 0)
  case atStart => exact ⟨rfl, rfl⟩
  case round =>
    obtain ⟨rfl, rfl⟩ := hrel
    go_wp2_with fail
    go_ret
    exact ⟨rfl, Below.refl _ _⟩

theorem mark_leaf (op n : Int) (s : ByteArray) (a : Option Addr) (cap : Nat) (k : Int) (w : World) :
    Calls Tryz.prog 46 #[.agg #[.int .i64 op, .int .i64 n, .string s, .slice a 0 cap], .int .i64 k] w fun e w' => e = .returned (.int .i64 k) ∧ Below w.heap.size w w' := by
  go_enter Tryz.func46, Tryz.ntmps46
  go_wp2_with fail
  refine (marks_nil a cap k _).mono ?_
  rintro e w2 ⟨rfl, hb2⟩
  go_wp2_with fail
  go_ret
  exact ⟨rfl, ((Below.refl _ _).alloc (Nat.le_refl _) _).trans (hb2.mono (by simp))⟩

theorem held_leaf (op n : Int) (s : ByteArray) (a : Option Addr) (cap : Nat) (k : Int) (w : World) (hk : 0 ≤ k) :
    Calls Tryz.prog 47 #[.agg #[.int .i64 op, .int .i64 n, .string s, .slice a 0 cap], .int .i64 k] w fun e w' => e = .returned (.int .i64 k) ∧ Below w.heap.size w w' := by
  go_enter Tryz.func47, Tryz.ntmps47
  go_wp2_with fail
  refine (helds_nil a cap k _).mono ?_
  rintro e w2 ⟨rfl, hb2⟩
  go_wp2_with fail
  go_ret
  exact ⟨rfl, ((Below.refl _ _).alloc (Nat.le_refl _) _).trans (hb2.mono (by simp))⟩

set_option maxRecDepth 100000 in
set_option maxHeartbeats 1000000 in
theorem l3ok_yes (op n : Int) (s : ByteArray) (w : World) (hl : ∀ v, Lies v 0 (.node op n s []) (tmCells op n s none 0 0)) (hok : okT (.node op n s []) = true) :
    Calls Tryz.prog 117 #[.agg #[.int .i64 op, .int .i64 n, .string s, .slice none 0 0]] w fun e w' => e = .returned (.agg #[.int .i64 op, .int .i64 n, .string s, .slice none 0 0]) ∧ Below w.heap.size w w' := by
  have h8 := hide (ok8 (.node op n s []) op n s none 0 0)
  have HL := hide hl
  have HZ : Hid ((Tm.node op n s []).size ≤ 2097152) := by show _ ≤ _; simp [Tm.size, Tm.sizes]
  rw [hok] at h8
  clear hl hok
  go_enter Tryz.func117, Tryz.ntmps117
  go_wp2_with fail
  refine (unhide h8 _ (unhide HL _) (unhide HZ)).mono ?_
  rintro e w2 ⟨rfl, hb2⟩
  have hk : Below w.heap.size w w2 := (((Below.refl w.heap.size w).alloc (Nat.le_refl _) _).alloc (by simp) _).trans (hb2.mono (by simp; omega))
  have HB := hide hk
  obtain ⟨c0, c1, c2, c3, d0, d1, d2, d3, e0, e1, e2, e3⟩ := two_boxes hb2
  clear hb2 hk
  go_wp2_with fail
  refine bodyPost_ret (v := .agg #[.int .i64 op, .int .i64 n, .string s, .slice none 0 0]) (by simp [results, Tryz.results117, go_sem, d0, d1, d2, d3]) rfl ⟨rfl, ?_⟩
  exact ((((unhide HB).setCell (by show w.heap.size ≤ w.heap.size + 1; omega) _).setCell (by show w.heap.size ≤ w.heap.size + 1; omega) _).setCell (by show w.heap.size ≤ w.heap.size + 1; omega) _).setCell (by show w.heap.size ≤ w.heap.size + 1; omega) _

set_option maxRecDepth 100000 in
set_option maxHeartbeats 1000000 in
theorem l3ok_no (op n : Int) (s : ByteArray) (w : World) (hl : ∀ v, Lies v 0 (.node op n s []) (tmCells op n s none 0 0)) (hok : okT (.node op n s []) = false) :
    Calls Tryz.prog 117 #[.agg #[.int .i64 op, .int .i64 n, .string s, .slice none 0 0]] w fun e w' => e = .returned (.agg #[.int .i64 0, .int .i64 0, .string ByteArray.empty, .slice none 0 0]) ∧ Below w.heap.size w w' := by
  have h8 := hide (ok8 (.node op n s []) op n s none 0 0)
  have HL := hide hl
  have HZ : Hid ((Tm.node op n s []).size ≤ 2097152) := by show _ ≤ _; simp [Tm.size, Tm.sizes]
  rw [hok] at h8
  clear hl hok
  go_enter Tryz.func117, Tryz.ntmps117
  go_wp2_with fail
  refine (unhide h8 _ (unhide HL _) (unhide HZ)).mono ?_
  rintro e w2 ⟨rfl, hb2⟩
  have hk : Below w.heap.size w w2 := (((Below.refl w.heap.size w).alloc (Nat.le_refl _) _).alloc (by simp) _).trans (hb2.mono (by simp; omega))
  have HB := hide hk
  obtain ⟨c0, c1, c2, c3, d0, d1, d2, d3, e0, e1, e2, e3⟩ := two_boxes hb2
  clear hb2 hk
  go_wp2_with fail
  refine bodyPost_ret (v := .agg #[.int .i64 0, .int .i64 0, .string ByteArray.empty, .slice none 0 0]) (by simp [results, Tryz.results117, go_sem, d0, d1, d2, d3]; rfl) rfl ⟨rfl, ?_⟩
  exact ((((unhide HB).setCell (by show w.heap.size ≤ w.heap.size + 1; omega) _).setCell (by show w.heap.size ≤ w.heap.size + 1; omega) _).setCell (by show w.heap.size ≤ w.heap.size + 1; omega) _).setCell (by show w.heap.size ≤ w.heap.size + 1; omega) _

set_option maxRecDepth 100000 in
set_option maxHeartbeats 1000000 in
/-- impl.answer of a term with no kids, where there is no error: the same, and true. -/
theorem answer_leaf (op n : Int) (s : ByteArray) (x : Addr) (w : World) (he : ErrAt x w) (hll : ∀ v, Lies v 0 (.node op n s []) (tmCells op n s none 0 0)) (hsz0 : s.size ≤ 4194303) :
    Calls Tryz.prog 71 #[.agg #[.int .i64 op, .int .i64 n, .string s, .slice none 0 0], .nilIface] w fun e w' => e = .returned (.tuple #[.agg #[.int .i64 op, .int .i64 n, .string s, .slice none 0 0], .bool true]) ∧ Below w.heap.size w w' := by
  have h45 := hide (is_nil x)
  have HLL := hide hll
  clear hll
  have hB0 : Below w.heap.size w ((w.alloc (.cells #[.int .i64 op, .int .i64 n, .string s, .slice none 0 0] 29)).alloc (.cells #[.int .i64 0, .int .i64 0, .string ⟨#[]⟩, .slice none 0 0] 29)) := ((Below.refl w.heap.size w).alloc (Nat.le_refl _) _).alloc (by simp) _
  have HB := hide hB0
  have g0 := (he.on hB0).cell
  clear he hB0
  obtain ⟨c0, c1, c2, c3, d0, d1, d2, d3, e0, e1, e2, e3⟩ := two_boxes_at w op n s none 0 0
  have HG : Hid (w.heap.size + 2 = ((w.alloc (.cells #[.int .i64 op, .int .i64 n, .string s, .slice none 0 0] 29)).alloc (.cells #[.int .i64 0, .int .i64 0, .string ⟨#[]⟩, .slice none 0 0] 29)).heap.size) := by show _ = _; simp
  go_enter Tryz.func71, Tryz.ntmps71
  go_wp2_with fail
  refine (unhide h45 _).mono ?_
  rintro e w2 ⟨rfl, rfl⟩
  generalize (w.alloc (.cells #[.int .i64 op, .int .i64 n, .string s, .slice none 0 0] 29)).alloc (.cells #[.int .i64 0, .int .i64 0, .string ⟨#[]⟩, .slice none 0 0] 29) = v at *
  go_wp2_with fail
  refine (copy_leaf op n s none 0 _ (unhide HLL _) hsz0).mono ?_
  rintro e w3 ⟨rfl, hb3⟩
  have d0' := d0
  have d0 := keepc hb3 d0
  have d1 := keepc hb3 d1
  have d2 := keepc hb3 d2
  have d3 := keepc hb3 d3
  have e0 := keepf hb3 (lt_of_cell d0') e0
  have e1 := keepf hb3 (lt_of_cell d0') e1
  have e2 := keepf hb3 (lt_of_cell d0') e2
  have e3 := keepf hb3 (lt_of_cell d0') e3
  have HB3 := hide ((unhide HB).trans (hb3.mono (unhide HB).size))
  clear hb3 d0' c0 c1 c2 c3 g0
  go_wp2_with fail
  exact bodyPost_ret (v := .tuple #[.agg #[.int .i64 op, .int .i64 n, .string s, .slice none 0 0], .bool true]) (by simp [results, Tryz.results71, go_sem, d0, d1, d2, d3]) rfl ⟨rfl, set4_below (unhide HB3) (by omega)⟩

set_option maxRecDepth 100000 in
set_option maxHeartbeats 1000000 in
theorem new_yes (op n : Int) (s : ByteArray) (w : World) (hl : ∀ v, Lies v 0 (.node op n s []) (tmCells op n s none 0 0)) (hok : okT (.node op n s []) = true) (herr : Err w) :
    Calls Tryz.prog 90 #[.agg #[.int .i64 op, .int .i64 n, .string s, .slice none 0 0]] w fun e w' => e = .returned (.agg #[.int .i64 op, .int .i64 n, .string s, .slice none 0 0]) ∧ Below w.heap.size w w' := by
  have hsz : (Tm.node op n s []).size ≤ 2097152 := by simp [Tm.size, Tm.sizes]
  obtain ⟨x, he⟩ := herr
  have hB0 : Below w.heap.size w ((w.alloc (.cells #[.int .i64 op, .int .i64 n, .string s, .slice none 0 0] 29)).alloc (.cells #[.int .i64 0, .int .i64 0, .string ⟨#[]⟩, .slice none 0 0] 29)) := ((Below.refl w.heap.size w).alloc (Nat.le_refl _) _).alloc (by simp) _
  have HL := hide (hl ((w.alloc (.cells #[.int .i64 op, .int .i64 n, .string s, .slice none 0 0] 29)).alloc (.cells #[.int .i64 0, .int .i64 0, .string ⟨#[]⟩, .slice none 0 0] 29)))
  have HB0 := hide hB0
  have HE := hide (he.on hB0)
  have HG : Hid (w.heap.size + 2 = ((w.alloc (.cells #[.int .i64 op, .int .i64 n, .string s, .slice none 0 0] 29)).alloc (.cells #[.int .i64 0, .int .i64 0, .string ⟨#[]⟩, .slice none 0 0] 29)).heap.size) := by show _ = _; simp
  obtain ⟨c0, c1, c2, c3, d0, d1, d2, d3, e0, e1, e2, e3⟩ := two_boxes_at w op n s none 0 0
  have HR : Hid (RowT 29 ((w.alloc (.cells #[.int .i64 op, .int .i64 n, .string s, .slice none 0 0] 29)).alloc (.cells #[.int .i64 0, .int .i64 0, .string ⟨#[]⟩, .slice none 0 0] 29)) (w.heap.size + 1) 0 0 ⟨#[]⟩ none 0 0) := by
    have := RowT.new 29 (w.alloc (.cells #[.int .i64 op, .int .i64 n, .string s, .slice none 0 0] 29)) 0 0 ⟨#[]⟩ none 0 0
    rwa [heap_size_alloc] at this
  have HLL := hide hl
  clear hl he hB0 d0 d1 d2 d3 e0 e1 e2 e3
  have h39 := hide fun v h => checked_yes (.node op n s []) op n s none 0 0 v h hsz hok
  have h38 := hide fun v he => answer_leaf op n s x v he (unhide HLL) (by have := okT_small hok; simp only [Tm.size, Tm.wt] at this; omega)
  clear hok
  go_enter Tryz.func90, Tryz.ntmps90
  go_wp2_with fail
  generalize (w.alloc (.cells #[.int .i64 op, .int .i64 n, .string s, .slice none 0 0] 29)).alloc (.cells #[.int .i64 0, .int .i64 0, .string ⟨#[]⟩, .slice none 0 0] 29) = v at *
  refine (unhide h39 _ (unhide HL)).mono ?_
  rintro e w2 ⟨rfl, hb2⟩
  have HB2 := hide ((unhide HB0).trans (hb2.mono (unhide HB0).size))
  have HL2 := hide ((unhide HL).below hb2)
  have HE2 := hide ((unhide HE).on hb2)
  have HG2 : Hid (w.heap.size + 2 ≤ w2.heap.size) := by have := hb2.size; have := unhide HG; show _ ≤ _; omega
  have HR2 := hide ((unhide HR).below hb2)
  clear hb2 HR HB0 HL HE HG c0 c1 c2 c3
  go_wp2_with fail
  refine (unhide h38 _ (unhide HE2)).mono ?_
  rintro e w3 ⟨rfl, hb3⟩
  have HB3 := hide ((unhide HB2).trans (hb3.mono (unhide HB2).size))
  have HG3 : Hid (w.heap.size + 2 ≤ w3.heap.size) := by have := hb3.size; have := unhide HG2; show _ ≤ _; omega
  have HR3 := hide ((unhide HR2).below hb3)
  obtain ⟨d0, d1, d2, d3⟩ := (unhide HR3).facts
  obtain ⟨e0, e1, e2, e3⟩ := (unhide HR3).frozen
  have hlt : w.heap.size + 1 < w3.heap.size := by have := unhide HG3; omega
  have hne := Nat.ne_of_lt hlt
  have hne' := Ne.symm hne
  clear hb3 HR2 HB2 HL2 HE2
  go_wp2_with fail
  have HF := hide (((unhide HR3).fill op n s none 0 0).below ((Below.refl _ _).alloc (Nat.le_refl _) (.cells #[.int .i64 op, .int .i64 n, .string s, .slice none 0 0] 29)))
  obtain ⟨f0, f1, f2, f3⟩ := (unhide HF).facts
  have hS := set4_below (g := w.heap.size + 1) (x0 := .int .i64 op) (x1 := .int .i64 n) (x2 := .string s) (x3 := .slice none 0 0) (unhide HB3) (by omega)
  exact bodyPost_ret (v := .agg #[.int .i64 op, .int .i64 n, .string s, .slice none 0 0]) (by simp [results, Tryz.results90, go_sem, f0, f1, f2, f3]) rfl ⟨rfl, hS.alloc hS.size _⟩

set_option maxRecDepth 100000 in
set_option maxHeartbeats 1000000 in
theorem new_no (op n : Int) (s : ByteArray) (w : World) (hl : ∀ v, Lies v 0 (.node op n s []) (tmCells op n s none 0 0)) (hok : okT (.node op n s []) = false) (herr : Err w) :
    Calls Tryz.prog 90 #[.agg #[.int .i64 op, .int .i64 n, .string s, .slice none 0 0]] w fun e w' => e = .returned (.agg #[.int .i64 0, .int .i64 0, .string ByteArray.empty, .slice none 0 0]) ∧ Below w.heap.size w w' := by
  have hsz : (Tm.node op n s []).size ≤ 2097152 := by simp [Tm.size, Tm.sizes]
  obtain ⟨x, he⟩ := herr
  have hB0 : Below w.heap.size w ((w.alloc (.cells #[.int .i64 op, .int .i64 n, .string s, .slice none 0 0] 29)).alloc (.cells #[.int .i64 0, .int .i64 0, .string ⟨#[]⟩, .slice none 0 0] 29)) := ((Below.refl w.heap.size w).alloc (Nat.le_refl _) _).alloc (by simp) _
  have HL := hide (hl ((w.alloc (.cells #[.int .i64 op, .int .i64 n, .string s, .slice none 0 0] 29)).alloc (.cells #[.int .i64 0, .int .i64 0, .string ⟨#[]⟩, .slice none 0 0] 29)))
  have HB0 := hide hB0
  have HE := hide (he.on hB0)
  have HG : Hid (w.heap.size + 2 = ((w.alloc (.cells #[.int .i64 op, .int .i64 n, .string s, .slice none 0 0] 29)).alloc (.cells #[.int .i64 0, .int .i64 0, .string ⟨#[]⟩, .slice none 0 0] 29)).heap.size) := by show _ = _; simp
  obtain ⟨c0, c1, c2, c3, d0, d1, d2, d3, e0, e1, e2, e3⟩ := two_boxes_at w op n s none 0 0
  have HR : Hid (RowT 29 ((w.alloc (.cells #[.int .i64 op, .int .i64 n, .string s, .slice none 0 0] 29)).alloc (.cells #[.int .i64 0, .int .i64 0, .string ⟨#[]⟩, .slice none 0 0] 29)) (w.heap.size + 1) 0 0 ⟨#[]⟩ none 0 0) := by
    have := RowT.new 29 (w.alloc (.cells #[.int .i64 op, .int .i64 n, .string s, .slice none 0 0] 29)) 0 0 ⟨#[]⟩ none 0 0
    rwa [heap_size_alloc] at this
  clear hl he hB0 d0 d1 d2 d3 e0 e1 e2 e3
  have h39 := hide fun v h he => checked_no (.node op n s []) op n s none 0 0 x v h hsz hok he
  have h38 := hide fun v he => answer_no 0 0 ByteArray.empty none 0 0 x v he
  clear hok
  go_enter Tryz.func90, Tryz.ntmps90
  go_wp2_with fail
  generalize (w.alloc (.cells #[.int .i64 op, .int .i64 n, .string s, .slice none 0 0] 29)).alloc (.cells #[.int .i64 0, .int .i64 0, .string ⟨#[]⟩, .slice none 0 0] 29) = v at *
  refine (unhide h39 _ (unhide HL) (unhide HE)).mono ?_
  rintro e w2 ⟨rfl, hb2⟩
  have HB2 := hide ((unhide HB0).trans (hb2.mono (unhide HB0).size))
  have HE2 := hide ((unhide HE).on hb2)
  have HG2 : Hid (w.heap.size + 2 ≤ w2.heap.size) := by have := hb2.size; have := unhide HG; show _ ≤ _; omega
  have HR2 := hide ((unhide HR).below hb2)
  clear hb2 HR HB0 HL HE HG c0 c1 c2 c3
  go_wp2_with fail
  refine (unhide h38 _ (unhide HE2)).mono ?_
  rintro e w3 ⟨rfl, hb3⟩
  have HB3 := hide ((unhide HB2).trans (hb3.mono (unhide HB2).size))
  have HG3 : Hid (w.heap.size + 2 ≤ w3.heap.size) := by have := hb3.size; have := unhide HG2; show _ ≤ _; omega
  have HR3 := hide ((unhide HR2).below hb3)
  obtain ⟨d0, d1, d2, d3⟩ := (unhide HR3).facts
  obtain ⟨e0, e1, e2, e3⟩ := (unhide HR3).frozen
  have hlt : w.heap.size + 1 < w3.heap.size := by have := unhide HG3; omega
  have hne := Nat.ne_of_lt hlt
  have hne' := Ne.symm hne
  clear hb3 HR2 HB2 HE2
  go_wp2_with fail
  have HF := hide (((unhide HR3).fill 0 0 ByteArray.empty none 0 0).below ((Below.refl _ _).alloc (Nat.le_refl _) (.cells #[.int .i64 0, .int .i64 0, .string ByteArray.empty, .slice none 0 0] 29)))
  obtain ⟨f0, f1, f2, f3⟩ := (unhide HF).facts
  have hS := set4_below (g := w.heap.size + 1) (x0 := .int .i64 0) (x1 := .int .i64 0) (x2 := .string ByteArray.empty) (x3 := .slice none 0 0) (unhide HB3) (by omega)
  exact bodyPost_ret (v := .agg #[.int .i64 0, .int .i64 0, .string ByteArray.empty, .slice none 0 0]) (by simp [results, Tryz.results90, go_sem, f0, f1, f2, f3]; try rfl) rfl ⟨rfl, hS.alloc hS.size _⟩

set_option maxRecDepth 100000 in
theorem one_box {w w2 : World} (hb : Below (w.alloc (.cells #[.int .i64 0, .int .i64 0, .string ByteArray.empty, .slice none 0 0] 29)).heap.size (w.alloc (.cells #[.int .i64 0, .int .i64 0, .string ByteArray.empty, .slice none 0 0] 29)) w2) :
    w2.cell? ⟨w.heap.size, 0, none⟩ = some (.int .i64 0) ∧ w2.cell? ⟨w.heap.size, 1, none⟩ = some (.int .i64 0) ∧ w2.cell? ⟨w.heap.size, 2, none⟩ = some (.string ByteArray.empty) ∧ w2.cell? ⟨w.heap.size, 3, none⟩ = some (.slice none 0 0) ∧
    w2.frozen? ⟨w.heap.size, 0, none⟩ = false ∧ w2.frozen? ⟨w.heap.size, 1, none⟩ = false ∧ w2.frozen? ⟨w.heap.size, 2, none⟩ = false ∧ w2.frozen? ⟨w.heap.size, 3, none⟩ = false := by
  have h1 : w2.heap[w.heap.size]? = some (.cells #[.int .i64 0, .int .i64 0, .string ByteArray.empty, .slice none 0 0] 29) := by
    rw [hb.block _ (by simp)]
    exact heap_alloc_new w _
  exact ⟨cell_of_row h1 (by simp), cell_of_row h1 (by simp), cell_of_row h1 (by simp), cell_of_row h1 (by simp), frozen_of_row h1, frozen_of_row h1, frozen_of_row h1, frozen_of_row h1⟩

def atOp (n : Int) : Int := if okT (.node 1 n ByteArray.empty []) = true then 1 else 0
def atN (n : Int) : Int := if okT (.node 1 n ByteArray.empty []) = true then n else 0
set_option maxRecDepth 100000 in
theorem at_wf {n : Int} (h : (Lit.int .i64 n).wf = true) : (Lit.int .i64 (atOp n)).wf = true ∧ (Lit.int .i64 (atN n)).wf = true := by
  unfold atOp atN
  split
  · exact ⟨by decide, h⟩
  · exact ⟨by decide, by decide⟩

set_option maxRecDepth 100000 in
theorem atom6 (n : Int) (w : World) (hw : (Lit.int .i64 n).wf = true) :
    Calls Tryz.prog 67 #[.int .i64 n] w fun e w' => e = .returned (.agg #[.int .i64 (atOp n), .int .i64 (atN n), .string ByteArray.empty, .slice none 0 0]) ∧ Below w.heap.size w w' := by
  have hl : ∀ v, Lies v 0 (.node 1 n ByteArray.empty []) (tmCells 1 n ByteArray.empty none 0 0) := fun v => lies_leaf v 1 n ByteArray.empty (by simp [maxLen]) (by decide) hw
  cases hok : okT (.node 1 n ByteArray.empty []) with
  | true =>
    have h := hide (fun v => l3ok_yes 1 n ByteArray.empty v hl hok)
    rw [show atOp n = 1 from by unfold atOp; rw [if_pos hok], show atN n = n from by unfold atN; rw [if_pos hok]]
    clear hl hok
    go_enter Tryz.func67, Tryz.ntmps67
    go_wp2_with fail
    refine (unhide h _).mono ?_
    rintro e w2 ⟨rfl, hb2⟩
    have hk : Below w.heap.size w w2 := ((Below.refl w.heap.size w).alloc (Nat.le_refl _) _).trans (hb2.mono (by simp))
    obtain ⟨d0, d1, d2, d3, e0, e1, e2, e3⟩ := one_box hb2
    have HB := hide hk
    clear hb2 hk
    go_wp2_with fail
    refine bodyPost_ret (v := .agg #[.int .i64 1, .int .i64 n, .string ByteArray.empty, .slice none 0 0]) (by simp [results, Tryz.results67, go_sem, d0, d1, d2, d3]) rfl ⟨rfl, ?_⟩
    exact ((((unhide HB).setCell (Nat.le_refl _) _).setCell (Nat.le_refl _) _).setCell (Nat.le_refl _) _).setCell (Nat.le_refl _) _
  | false =>
    have h := hide (fun v => l3ok_no 1 n ByteArray.empty v hl hok)
    rw [show atOp n = 0 from by unfold atOp; rw [if_neg (by rw [hok]; decide)], show atN n = 0 from by unfold atN; rw [if_neg (by rw [hok]; decide)]]
    clear hl hok
    go_enter Tryz.func67, Tryz.ntmps67
    go_wp2_with fail
    refine (unhide h _).mono ?_
    rintro e w2 ⟨rfl, hb2⟩
    have hk : Below w.heap.size w w2 := ((Below.refl w.heap.size w).alloc (Nat.le_refl _) _).trans (hb2.mono (by simp))
    obtain ⟨d0, d1, d2, d3, e0, e1, e2, e3⟩ := one_box hb2
    have HB := hide hk
    clear hb2 hk
    go_wp2_with fail
    refine bodyPost_ret (v := .agg #[.int .i64 0, .int .i64 0, .string ByteArray.empty, .slice none 0 0]) (by simp [results, Tryz.results67, go_sem, d0, d1, d2, d3]) rfl ⟨rfl, ?_⟩
    exact ((((unhide HB).setCell (Nat.le_refl _) _).setCell (Nat.le_refl _) _).setCell (Nat.le_refl _) _).setCell (Nat.le_refl _) _

set_option maxRecDepth 100000 in
theorem atom7 (n : Int) (w : World) (hw : (Lit.int .i64 n).wf = true) (herr : Err w) :
    Calls Tryz.prog 103 #[.int .i64 n] w fun e w' => e = .returned (.agg #[.int .i64 (atOp n), .int .i64 (atN n), .string ByteArray.empty, .slice none 0 0]) ∧ Below w.heap.size w w' := by
  have HER := hide (herr.on (ab (.cells #[.int .i64 0, .int .i64 0, .string ByteArray.empty, .slice none 0 0] 29)))
  clear herr
  have hl : ∀ v, Lies v 0 (.node 1 n ByteArray.empty []) (tmCells 1 n ByteArray.empty none 0 0) := fun v => lies_leaf v 1 n ByteArray.empty (by simp [maxLen]) (by decide) hw
  cases hok : okT (.node 1 n ByteArray.empty []) with
  | true =>
    have h := hide (fun v he => new_yes 1 n ByteArray.empty v hl hok he)
    rw [show atOp n = 1 from by unfold atOp; rw [if_pos hok], show atN n = n from by unfold atN; rw [if_pos hok]]
    clear hl hok
    go_enter Tryz.func103, Tryz.ntmps103
    go_wp2_with fail
    refine (unhide h _ (unhide HER)).mono ?_
    rintro e w2 ⟨rfl, hb2⟩
    have hk : Below w.heap.size w w2 := ((Below.refl w.heap.size w).alloc (Nat.le_refl _) _).trans (hb2.mono (by simp))
    obtain ⟨d0, d1, d2, d3, e0, e1, e2, e3⟩ := one_box hb2
    have HB := hide hk
    clear hb2 hk
    go_wp2_with fail
    refine bodyPost_ret (v := .agg #[.int .i64 1, .int .i64 n, .string ByteArray.empty, .slice none 0 0]) (by simp [results, Tryz.results103, go_sem, d0, d1, d2, d3]) rfl ⟨rfl, ?_⟩
    exact ((((unhide HB).setCell (Nat.le_refl _) _).setCell (Nat.le_refl _) _).setCell (Nat.le_refl _) _).setCell (Nat.le_refl _) _
  | false =>
    have h := hide (fun v he => new_no 1 n ByteArray.empty v hl hok he)
    rw [show atOp n = 0 from by unfold atOp; rw [if_neg (by rw [hok]; decide)], show atN n = 0 from by unfold atN; rw [if_neg (by rw [hok]; decide)]]
    clear hl hok
    go_enter Tryz.func103, Tryz.ntmps103
    go_wp2_with fail
    refine (unhide h _ (unhide HER)).mono ?_
    rintro e w2 ⟨rfl, hb2⟩
    have hk : Below w.heap.size w w2 := ((Below.refl w.heap.size w).alloc (Nat.le_refl _) _).trans (hb2.mono (by simp))
    obtain ⟨d0, d1, d2, d3, e0, e1, e2, e3⟩ := one_box hb2
    have HB := hide hk
    clear hb2 hk
    go_wp2_with fail
    refine bodyPost_ret (v := .agg #[.int .i64 0, .int .i64 0, .string ByteArray.empty, .slice none 0 0]) (by simp [results, Tryz.results103, go_sem, d0, d1, d2, d3]) rfl ⟨rfl, ?_⟩
    exact ((((unhide HB).setCell (Nat.le_refl _) _).setCell (Nat.le_refl _) _).setCell (Nat.le_refl _) _).setCell (Nat.le_refl _) _

/-- The text of the mark u, of one above 0. -/
def mtx (u : Nat) : ByteArray := ⟨(109 :: Lib.decDigits u).toArray⟩

theorem mtx_size {u : Nat} (h : (u : Int) ≤ 9223372036854775807) : (mtx u).size ≤ 22 := by
  have := Lib.itoa_length_le (u : Int) (by omega) h
  rw [Lib.itoa_nonneg] at this
  simp [mtx, ByteArray.size]
  exact this

set_option maxRecDepth 100000 in
set_option maxHeartbeats 1000000 in
theorem mark29 (u : Nat) (w : World) (h0 : u ≠ 0) (h1 : (u : Int) ≤ 9223372036854775807) :
    Calls Tryz.prog 138 #[.int .i64 (u : Int)] w fun e w' => e = .returned (.string (mtx u)) ∧ Below w.heap.size w w' := by
  have hcv := conv1
  have q1 : ¬ (u : Int) ≤ 0 := by omega
  have HLN : Hid ((Lib.decDigits u).length ≤ 21) := by
    have := Lib.itoa_length_le (u : Int) (by omega) h1
    rwa [Lib.itoa_nonneg] at this
  have HM : Hid (mtx u = ⟨(109 :: Lib.decDigits u).toArray⟩) := rfl
  generalize mtx u = M at *
  generalize hD : Lib.decDigits u = D at *
  have HD : Hid (upper u = D) := by show _ = _; rw [upper_pos h0, hD]
  clear hD
  go_enter Tryz.func138, Tryz.ntmps138
  go_wp2_with fail
  go_loopw [0, 3] (fun x o wr => ∃ (m : Nat) (l : List UInt8), x = .int .i64 m ∧ m ≤ u ∧ o = .string ⟨l.toArray⟩ ∧ upper m ++ l = D ∧ Below w.heap.size w wr) (fun x _ _ => (intOf x).toNat)
  case atStart => exact ⟨u, [], rfl, Nat.le_refl _, rfl, by rw [List.append_nil]; exact HD.out, Below.refl _ _⟩
  case round =>
    obtain ⟨m, l, rfl, hm, rfl, hl, hb⟩ := hrel
    have hll : l.length ≤ 21 := by have := HLN.out; rw [← hl, List.length_append] at this; omega
    have HE : Hid (upper m ++ l = D) := hl
    clear hl
    by_cases hz : m = 0
    · subst hz
      go_wp2_with fail
      go_ret
      have h := HE.out
      simp only [upper, if_true, List.nil_append] at h
      exact ⟨ret_str (by rw [HM.out, ← h]; apply Go.WideShapes.bytes_inj; simp), hb⟩
    · have hmp : (1 : Int) ≤ m := by omega
      have hmu : (m : Int) ≤ 9223372036854775807 := by omega
      go_wp2_with fail
      refine ⟨⟨m / 10, [48 + UInt8.ofNat (m % 10)] ++ l, by go_num, by omega, by rw [← cat_list], ?_, hb.alloc hb.size _⟩, by simp [intOf]; omega⟩
      rw [← List.append_assoc, ← upper_step hz]
      exact HE.out

/- The marks, from k on: three for each term. -/
mutual
def markK : Tm → Nat → Tm
  | .node _ _ _ ks, k => .node k (k + 1 : Nat) (mtx (k + 2)) (markL ks (k + 3))
def markL : List Tm → Nat → List Tm
  | [], _ => []
  | t :: r, k => markK t k :: markL r (k + 3 * t.size)
end

theorem markL_length : ∀ (ks : List Tm) (k : Nat), (markL ks k).length = ks.length
  | [], _ => rfl
  | t :: r, k => by simp [markL, markL_length r]

mutual
theorem markK_size : ∀ (t : Tm) (k : Nat), (markK t k).size = t.size
  | .node _ _ _ ks, k => by simp only [markK, Tm.size, markL_sizes ks]
theorem markL_sizes : ∀ (ks : List Tm) (k : Nat), Tm.sizes (markL ks k) = Tm.sizes ks
  | [], _ => rfl
  | t :: r, k => by simp only [markL, Tm.sizes, markK_size t, markL_sizes r]
end

theorem markL_get : ∀ (ks : List Tm) (k j : Nat) (t : Tm), ks[j]? = some t → (markL ks k)[j]? = some (markK t (k + 3 * Tm.sizes (ks.take j)))
  | [], _, _, _, h => by simp at h
  | x :: r, k, 0, t, h => by
    simp at h
    subst h
    simp [markL, Tm.sizes]
  | x :: r, k, j + 1, t, h => by
    have := markL_get r (k + 3 * x.size) j t (by simpa using h)
    simp only [markL, List.getElem?_cons_succ, List.take_succ_cons, Tm.sizes]
    rw [this]
    congr 2
    omega

theorem sizes_take_succ {ks : List Tm} {j : Nat} (h : j < ks.length) : Tm.sizes (ks.take (j + 1)) = Tm.sizes (ks.take j) + ks[j].size := by
  rw [Tm.take_succ_get (by simp [h] : ks[j]? = some ks[j]), Tm.sizes_append]; simp [Tm.sizes]

theorem sizes_take_le (ks : List Tm) (j : Nat) : Tm.sizes (ks.take j) ≤ Tm.sizes ks := by
  have := Tm.sizes_append (ks.take j) (ks.drop j)
  rw [List.take_append_drop] at this
  omega

theorem size_kids (t : Tm) : t.size = 1 + Tm.sizes t.kids := by cases t; simp [Tm.size, Tm.kids]

/-- A kid that bears its marks. -/
theorem marked_elem {w : World} {a : Option Addr} {ks : List Tm} {k j : Nat} (h : LiesAll w 0 a 0 (markL ks k)) (hj : j < ks.length) :
    ∃ kj, kj = k + 3 * Tm.sizes (ks.take j) ∧ ∃ b o a' cap, a = some ⟨b, o, none⟩ ∧ b < w.heap.size ∧ w.cell? ⟨b, o + j * 4, none⟩ = some (.int .i64 (kj : Int)) ∧ w.cell? ⟨b, o + j * 4 + 1, none⟩ = some (.int .i64 ((kj + 1 : Nat) : Int)) ∧
      w.cell? ⟨b, o + j * 4 + 2, none⟩ = some (.string (mtx (kj + 2))) ∧ w.cell? ⟨b, o + j * 4 + 3, none⟩ = some (.slice a' (ks[j].kids).length cap) ∧ (ks[j].kids).length ≤ maxLen ∧ LiesAll w 0 a' 0 (markL ks[j].kids (kj + 3)) := by
  refine ⟨_, rfl, ?_⟩
  obtain ⟨b, o, cs, ha, _, hr, hl⟩ := h.get (k := j) (markL_get ks k j ks[j] (by simp [hj]))
  generalize k + 3 * Tm.sizes (ks.take j) = kj at *
  generalize ks[j] = tj at *
  obtain ⟨op, n, s, kk⟩ := tj
  simp only [markK, Lies, markL_length] at hl
  obtain ⟨a', cap, rfl, ⟨_, h2, h3⟩, _, hk⟩ := hl
  rw [Nat.zero_add] at hr
  refine ⟨b, o, a', cap, ha, rangeAt_lt hr (by simp [tmCells]), hr 0 _ rfl, hr 1 _ rfl, hr 2 _ rfl, hr 3 _ rfl, by simp [Tm.kids]; omega, hk⟩

def HdOk (ks : List Tm) : Prop := ∀ (a : Option Addr) (cap k : Nat) (w : World), LiesAll w 0 a 0 (markL ks k) → ks.length ≤ maxLen → 1 ≤ k → k + 3 * Tm.sizes ks ≤ 1099511627776 →
  Calls Tryz.prog 106 #[.slice a ks.length cap, .int .i64 (k : Int)] w fun e w' => e = .returned (.int .i64 ((k + 3 * Tm.sizes ks : Nat) : Int)) ∧ Below w.heap.size w w'

set_option maxHeartbeats 1000000 in
theorem hd_step (ks : List Tm) (hks : ∀ t ∈ ks, HdOk t.kids) : HdOk ks := by
  intro a cap k w hl hm h1 hz
  have HK := hide hks
  have HLL := hide hl
  have HTL := hide (sizes_take_le ks)
  generalize hlen : ks.length = len at *
  have HL := hide hlen
  generalize htot : Tm.sizes ks = tot at *
  unfold maxLen at hm
  clear hks hl hlen
  go_enter Tryz.func106, Tryz.ntmps106
  go_wp2_with fail
  go_loopw [1, 5] (fun l i wr => ∃ j : Nat, j ≤ len ∧ i = .int .i64 j ∧ l = .int .i64 ((k + 3 * Tm.sizes (ks.take j) : Nat) : Int) ∧ Below w.heap.size w wr) (fun _ i _ => len - (intOf i).toNat)
  case atStart => exact ⟨0, Nat.zero_le _, rfl, by simp [Tm.sizes], Below.refl _ _⟩
  case round =>
    obtain ⟨j, hj, rfl, rfl, hb⟩ := hrel
    by_cases hlt : j < len
    · have hlt' : j < ks.length := by have := unhide HL; omega
      obtain ⟨kj, hkj, b, o, a', cap', rfl, hbs, c0, c1, c2, c3, hml, hkk⟩ := marked_elem (unhide HLL) hlt'
      have hsj := sizes_take_succ hlt'
      have hsk := size_kids ks[j]
      have htl := unhide HTL (j + 1)
      have c0' := (hb.cell (p := ⟨b, o + j * 4, none⟩) hbs).trans c0
      have c1' := (hb.cell (p := ⟨b, o + j * 4 + 1, none⟩) hbs).trans c1
      have c2' := (hb.cell (p := ⟨b, o + j * 4 + 2, none⟩) hbs).trans c2
      have c3' := (hb.cell (p := ⟨b, o + j * 4 + 3, none⟩) hbs).trans c3
      have HKK := hide (hkk.below hb)
      rw [← hkj]
      have hks1 : kj + 3 + 3 * Tm.sizes ks[j].kids = k + 3 * Tm.sizes (ks.take (j + 1)) := by omega
      have hkb : kj + 3 + 3 * Tm.sizes ks[j].kids ≤ 1099511627776 := by omega
      have hk1 : 1 ≤ kj := by omega
      have hkb2 : kj + 3 ≤ 1099511627776 := by omega
      have HB := hide hb
      have HR : Hid (∀ (x : Int) (v : World), x = ((kj + 3 : Nat) : Int) → LiesAll v 0 a' 0 (markL ks[j].kids (kj + 3)) →
          Calls Tryz.prog 106 #[.slice a' ks[j].kids.length cap', .int .i64 x] v fun e w' => e = .returned (.int .i64 ((k + 3 * Tm.sizes (ks.take (j + 1)) : Nat) : Int)) ∧ Below v.heap.size v w') := fun x v hx hv => by
        rw [hx, ← hks1]
        exact unhide HK ks[j] (List.getElem_mem hlt') a' cap' (kj + 3) v hv hml (by omega) hkb
      generalize ks[j].kids.length = kl at *
      have hnb : k + 3 * Tm.sizes (ks.take (j + 1)) ≤ 1099511627776 := by omega
      generalize hkn : k + 3 * Tm.sizes (ks.take (j + 1)) = kn at *
      have HN := hide hkn
      clear hkn
      clear c0 c1 c2 c3 hkk hkj hsj hsk htl hb hks1 hkb
      have HM : Hid (∀ (x : Int) (v : World), x = ((kj + 2 : Nat) : Int) → Calls Tryz.prog 138 #[.int .i64 x] v fun e w' => e = .returned (.string (mtx (kj + 2))) ∧ Below v.heap.size v w') := fun x v hx => by
        rw [hx]; exact mark29 (kj + 2) v (by omega) (by omega)
      generalize mtx (kj + 2) = mt at *
      go_wp2_with fail
      go_region_with (go_at_call 138; refine (unhide HM _ _ (by omega)).mono ?_; rintro e w2 ⟨rfl, hb2⟩; have c2' := kpc (below_drew' hb2) c2'; have c3' := kpc (below_drew' hb2) c3'; have HKK := hide ((unhide HKK).below (below_drew' hb2)); have HB := hide ((unhide HB).trans ((below_drew' hb2).mono (unhide HB).size)))
      all_goals
        go_wp2_with fail
        refine (unhide HR _ _ (by omega) (unhide HKK)).mono ?_
        rintro e w3 ⟨rfl, hb3⟩
        go_wp2_with fail
        go_roundw
        case rel => exact ⟨j + 1, by omega, by go_num, by rw [unhide HN], (unhide HB).trans (hb3.mono (unhide HB).size)⟩
        case measure => simp [intOf]; omega
    · go_wp2_with fail
      go_ret
      exact ⟨ret_int (by rw [List.take_of_length_le (by have := unhide HL; omega), htot]), hb⟩

theorem hd_any : ∀ (m : Nat) (ks : List Tm), Tm.sizes ks ≤ m → HdOk ks
  | 0, ks, h => hd_step ks fun t ht => by have := Tm.size_mem ht; have := t.size_pos; omega
  | m + 1, ks, h => hd_step ks fun t ht => hd_any m t.kids (by have := Tm.size_mem ht; have := size_kids t; omega)

theorem held_any (op n : Int) (s : ByteArray) (ks : List Tm) (a : Option Addr) (len cap k : Nat) (w : World) (hl : Lies w 0 (.node op n s (markL ks k)) (tmCells op n s a len cap)) (h1 : 1 ≤ k) (hz : k + 3 * Tm.sizes ks ≤ 1099511627776) :
    Calls Tryz.prog 47 #[.agg #[.int .i64 op, .int .i64 n, .string s, .slice a len cap], .int .i64 (k : Int)] w fun e w' => e = .returned (.int .i64 ((k + 3 * Tm.sizes ks : Nat) : Int)) ∧ Below w.heap.size w w' := by
  simp only [Lies, tmCells, markL_length] at hl
  obtain ⟨a', cap', he, ⟨_, h2, h3⟩, _, hk⟩ := hl
  simp only [List.cons.injEq, Value.slice.injEq, true_and, and_true] at he
  obtain ⟨rfl, rfl, rfl⟩ := he
  have HS := hide (hd_any _ ks (Nat.le_refl _) a cap k)
  have HK := hide hk
  have hm : ks.length ≤ maxLen := by omega
  clear hk h2 h3
  generalize ks.length = len at *
  generalize Tm.sizes ks = sz at *
  go_enter Tryz.func47, Tryz.ntmps47
  go_wp2_with fail
  refine (unhide HS _ ((unhide HK).below ((Below.refl _ _).alloc (Nat.le_refl _) _)) hm h1 hz).mono ?_
  rintro e w2 ⟨rfl, hb2⟩
  go_wp2_with fail
  go_ret
  exact ⟨rfl, ((Below.refl _ _).alloc (Nat.le_refl _) _).trans (hb2.mono (by simp))⟩

theorem markL_append : ∀ (a b : List Tm) (k : Nat), markL (a ++ b) k = markL a k ++ markL b (k + 3 * Tm.sizes a)
  | [], b, k => by simp [markL, Tm.sizes]
  | t :: r, b, k => by
    simp only [List.cons_append, markL, markL_append r, Tm.sizes]
    rw [show k + 3 * (t.size + Tm.sizes r) = k + 3 * t.size + 3 * Tm.sizes r by omega]

theorem wf_nat {n : Nat} (h : (n : Int) ≤ 9223372036854775807) : (Lit.int .i64 (n : Int)).wf = true := by
  have h1 : IntKind.i64.min = -9223372036854775808 := by decide
  have h2 : IntKind.i64.max = 9223372036854775807 := by decide
  simp [Lit.wf, h1, h2]
  omega

/-- In the middle of the marking: the first j bear their marks. -/
structure MkMid (w : World) (b : Nat) (f : List Nat) (ks : List Tm) (k j : Nat) (wr : World) : Prop where
  own : OwnAll wr b 0 (markL (ks.take j) k ++ ks.drop j) f
  row : ∃ C, wr.heap[b]? = some (.cells C 29 (0, 0))
  only : Only (b :: f) w wr

/-- One kid within its list: what it is, and how the list goes on behind its marking. -/
theorem MkMid.open {w wr : World} {b : Nat} {f : List Nat} {ks : List Tm} {k j : Nat} (h : MkMid w b f ks k j wr) (hj : j < ks.length) (hnd : (b :: f).Nodup) :
    ∃ op n s a cap f1 kj, kj = k + 3 * Tm.sizes (ks.take j) ∧ b < wr.heap.size ∧ wr.cell? ⟨b, j * 4, none⟩ = some (.int .i64 op) ∧ wr.cell? ⟨b, j * 4 + 1, none⟩ = some (.int .i64 n) ∧ wr.cell? ⟨b, j * 4 + 2, none⟩ = some (.string s) ∧
      wr.cell? ⟨b, j * 4 + 3, none⟩ = some (.slice a ks[j].kids.length cap) ∧ ks[j].kids.length ≤ maxLen ∧ KidsOwn wr a ks[j].kids f1 ∧ f1.Nodup ∧ (∀ x ∈ f1, x ∈ f) ∧ b ∉ f1 ∧
      ∀ (W w3 : World), Only [b] wr W → (∀ i, (i < j * 4 ∨ j * 4 + 4 ≤ i) → W.cell? ⟨b, i, none⟩ = wr.cell? ⟨b, i, none⟩) → (∃ C, W.heap[b]? = some (.cells C 29 (0, 0))) →
        W.rangeAt b (j * 4) (tmCells (kj : Int) ((kj + 1 : Nat) : Int) (mtx (kj + 2)) a ks[j].kids.length cap) → (kj : Int) + 2 ≤ 1099511627776 →
        Only f1 W w3 → KidsOwn w3 a (markL ks[j].kids (kj + 3)) f1 → MkMid w b f ks k (j + 1) w3 := by
  have hd : ks.drop j = ks[j] :: ks.drop (j + 1) := List.drop_eq_getElem_cons hj
  have ho := h.own
  rw [hd] at ho
  obtain ⟨fA, f1, fB, cs, rfl, oA, hr, ht, oB⟩ := OwnAll.split ho
  rw [markL_length, List.length_take, Nat.min_eq_left (by omega), Nat.zero_add] at hr oB
  have hkn : ks.take (j + 1) = ks.take j ++ [ks[j]] := Tm.take_succ_get (by simp [hj])
  generalize hq : ks[j] = tj at *
  obtain ⟨op, n, s, kk⟩ := tj
  obtain ⟨a, cap, rfl, ⟨h1, h2, h3⟩, ⟨h4, h5⟩, hk⟩ := ht.kids
  simp only [List.nodup_cons, List.nodup_append, List.mem_append, not_or] at hnd
  obtain ⟨⟨bA, b1, bB⟩, ndA, ⟨nd1, ndB, d1B⟩, dA⟩ := hnd
  refine ⟨op, n, s, a, cap, f1, _, rfl, rangeAt_lt hr (by simp [tmCells]), hr 0 _ rfl, hr 1 _ rfl, hr 2 _ rfl, hr 3 _ rfl, by simp only [Tm.kids]; omega, hk, nd1, fun x hx => by simp [hx], b1, ?_⟩
  intro W w3 oW cW rW hW hkj oW3 hk3
  have hbW : W.heap[b]? = w3.heap[b]? := by
    obtain ⟨C, hC⟩ := rW
    exact (oW3.block b (lt_of_heap hC) b1).symm
  have hcb : ∀ i, w3.cell? ⟨b, i, none⟩ = W.cell? ⟨b, i, none⟩ := fun i => World.cell?_of_block hbW.symm
  have keepx : ∀ x, x < wr.heap.size → x ≠ b → x ∉ f1 → w3.heap[x]? = wr.heap[x]? := fun x hx hb h1 =>
    (oW3.block x (Nat.lt_of_lt_of_le hx oW.size) h1).trans (oW.block x hx (by simpa using hb))
  have hA := OwnAll.lt b _ _ fA oA
  have hB := OwnAll.lt b _ _ fB oB
  have e : markL (ks.take (j + 1)) k ++ ks.drop (j + 1) = markL (ks.take j) k ++ markK (.node op n s kk) (k + 3 * Tm.sizes (ks.take j)) :: ks.drop (j + 1) := by
    rw [hkn, markL_append]
    simp [markL]
  refine ⟨?_, ?_, ?_⟩
  · rw [e]
    refine OwnAll.join (l1 := markL (ks.take j) k) (f1 := f1) (cs := tmCells ((k + 3 * Tm.sizes (ks.take j) : Nat) : Int) ((k + 3 * Tm.sizes (ks.take j) + 1 : Nat) : Int) (mtx (k + 3 * Tm.sizes (ks.take j) + 2)) a kk.length cap) ?_ ?_ ?_ ?_
    · refine OwnAll.keep b 0 _ fA oA (fun i _ h2 => ?_) fun x hx => keepx x (hA x hx) (fun e => bA (e ▸ hx)) (fun h => dA x hx x (Or.inl h) rfl)
      rw [markL_length, List.length_take, Nat.min_eq_left (by omega)] at h2
      rw [hcb, cW i (Or.inl (by omega))]
    · rw [markL_length, List.length_take, Nat.min_eq_left (by omega), Nat.zero_add]
      intro i v hv
      rw [hcb]
      exact hW i v hv
    · simp only [markK]
      have hmt := mtx_size (u := k + 3 * Tm.sizes (ks.take j) + 2) (by omega)
      have := Own.of_kids (op := ((k + 3 * Tm.sizes (ks.take j) : Nat) : Int)) (n := ((k + 3 * Tm.sizes (ks.take j) + 1 : Nat) : Int)) (s := mtx (k + 3 * Tm.sizes (ks.take j) + 2)) (cap := cap) ⟨by unfold maxLen; omega, by rw [markL_length]; exact h2, h3⟩ ⟨wf_nat (by omega), wf_nat (by omega)⟩ hk3
      rw [markL_length] at this
      exact this
    · rw [markL_length, List.length_take, Nat.min_eq_left (by omega), Nat.zero_add]
      refine OwnAll.keep b (j + 1) _ fB oB (fun i h1 _ => ?_) fun x hx => keepx x (hB x hx) (fun e => bB (e ▸ hx)) (fun h => d1B x h x hx rfl)
      rw [hcb, cW i (Or.inr (by omega))]
  · obtain ⟨C, hC⟩ := rW
    exact ⟨C, by rw [← hbW]; exact hC⟩
  · exact (h.only.trans (oW.mono (by simp))).trans (oW3.mono fun x hx => by simp [hx])

theorem setCell_row {w : World} {b o : Nat} {C : Array Value} {t : TypeId} {fr : Nat × Nat} (v : Value) (h : w.heap[b]? = some (.cells C t fr)) : (w.setCell ⟨b, o, none⟩ v).heap[b]? = some (.cells (C.setIfInBounds o v) t fr) := by
  simp only [World.setCell, Array.getElem?_modify]
  simp [h]

theorem cell_set_off {w : World} {b o o' : Nat} {v : Value} (h : o' ≠ o) : (w.setCell ⟨b, o, none⟩ v).cell? ⟨b, o', none⟩ = w.cell? ⟨b, o', none⟩ :=
  World.cell?_setCell_other _ _ _ _ (fun e => h (by cases e; rfl))

theorem cell_set_same {w : World} {b o : Nat} {v u : Value} (h : w.cell? ⟨b, o, none⟩ = some u) : (w.setCell ⟨b, o, none⟩ v).cell? ⟨b, o, none⟩ = some v := by
  obtain ⟨C, t, fr, hC⟩ : ∃ C t fr, w.heap[b]? = some (.cells C t fr) := by
    unfold World.cell? at h
    split at h
    · rename_i hh; exact ⟨_, _, _, hh⟩
    all_goals simp_all
  have hb : o < C.size := by
    unfold World.cell? at h
    rw [hC] at h
    simp at h
    exact (Array.getElem?_eq_some_iff.1 h).1
  have := setCell_row (o := o) v hC
  unfold World.cell?
  rw [this]
  simp [hb]

/-- The three marks of a kid are written; between them what is new is made. -/
theorem three {wr : World} {b j : Nat} {C : Array Value} {op n x0 x1 : Int} {s mt : ByteArray} {a : Option Addr} {kl cap : Nat} (hC : wr.heap[b]? = some (.cells C 29 (0, 0)))
    (c0 : wr.cell? ⟨b, j * 4, none⟩ = some (.int .i64 op)) (c1 : wr.cell? ⟨b, j * 4 + 1, none⟩ = some (.int .i64 n)) (c2 : wr.cell? ⟨b, j * 4 + 2, none⟩ = some (.string s)) (c3 : wr.cell? ⟨b, j * 4 + 3, none⟩ = some (.slice a kl cap))
    {w2 : World} (hb : Below ((wr.setCell ⟨b, j * 4, none⟩ (.int .i64 x0)).setCell ⟨b, j * 4 + 1, none⟩ (.int .i64 x1)).heap.size ((wr.setCell ⟨b, j * 4, none⟩ (.int .i64 x0)).setCell ⟨b, j * 4 + 1, none⟩ (.int .i64 x1)) w2) :
    w2.cell? ⟨b, j * 4 + 2, none⟩ = some (.string s) ∧ w2.cell? ⟨b, j * 4 + 3, none⟩ = some (.slice a kl cap) ∧ w2.frozen? ⟨b, j * 4 + 2, none⟩ = false ∧
    Only [b] wr (w2.setCell ⟨b, j * 4 + 2, none⟩ (.string mt)) ∧ (∀ i, (i < j * 4 ∨ j * 4 + 4 ≤ i) → (w2.setCell ⟨b, j * 4 + 2, none⟩ (.string mt)).cell? ⟨b, i, none⟩ = wr.cell? ⟨b, i, none⟩) ∧
    (∃ C, (w2.setCell ⟨b, j * 4 + 2, none⟩ (.string mt)).heap[b]? = some (.cells C 29 (0, 0))) ∧ (w2.setCell ⟨b, j * 4 + 2, none⟩ (.string mt)).rangeAt b (j * 4) (tmCells x0 x1 mt a kl cap) := by
  have r1 := setCell_row (o := j * 4 + 1) (.int .i64 x1) (setCell_row (o := j * 4) (.int .i64 x0) hC)
  have k0 : ((wr.setCell ⟨b, j * 4, none⟩ (.int .i64 x0)).setCell ⟨b, j * 4 + 1, none⟩ (.int .i64 x1)).cell? ⟨b, j * 4, none⟩ = some (.int .i64 x0) := by
    rw [cell_set_off (by omega)]; exact cell_set_same c0
  have k1 : ((wr.setCell ⟨b, j * 4, none⟩ (.int .i64 x0)).setCell ⟨b, j * 4 + 1, none⟩ (.int .i64 x1)).cell? ⟨b, j * 4 + 1, none⟩ = some (.int .i64 x1) :=
    cell_set_same (by rw [cell_set_off (by omega)]; exact c1)
  have kk : ∀ i, i ≠ j * 4 → i ≠ j * 4 + 1 → ((wr.setCell ⟨b, j * 4, none⟩ (.int .i64 x0)).setCell ⟨b, j * 4 + 1, none⟩ (.int .i64 x1)).cell? ⟨b, i, none⟩ = wr.cell? ⟨b, i, none⟩ := fun i h1 h2 => by
    rw [cell_set_off h2, cell_set_off h1]
  have oV : Only [b] wr ((wr.setCell ⟨b, j * 4, none⟩ (.int .i64 x0)).setCell ⟨b, j * 4 + 1, none⟩ (.int .i64 x1)) := ((Only.refl [b] wr).set (p := ⟨b, j * 4, none⟩) (by simp) _).set (p := ⟨b, j * 4 + 1, none⟩) (by simp) _
  generalize (wr.setCell ⟨b, j * 4, none⟩ (.int .i64 x0)).setCell ⟨b, j * 4 + 1, none⟩ (.int .i64 x1) = V at *
  have hbV := lt_of_heap r1
  have r2 := (hb.block b hbV).trans r1
  have kw : ∀ i, w2.cell? ⟨b, i, none⟩ = V.cell? ⟨b, i, none⟩ := fun i => World.cell?_of_block (hb.block b hbV)
  have d2 : w2.cell? ⟨b, j * 4 + 2, none⟩ = some (.string s) := by rw [kw, kk _ (by omega) (by omega)]; exact c2
  have d3 : w2.cell? ⟨b, j * 4 + 3, none⟩ = some (.slice a kl cap) := by rw [kw, kk _ (by omega) (by omega)]; exact c3
  refine ⟨d2, d3, frozen_of_row r2, (oV.trans (Only.of_below hb)).set (p := ⟨b, j * 4 + 2, none⟩) (by simp) _, fun i hi => ?_, ⟨_, setCell_row (o := j * 4 + 2) (.string mt) r2⟩, fun i v hi => ?_⟩
  · rw [cell_set_off (by omega), kw, kk _ (by omega) (by omega)]
  · match i, hi with
    | 0, hi =>
      simp [tmCells] at hi
      subst hi
      rw [cell_set_off (by omega), kw]
      exact k0
    | 1, hi =>
      simp [tmCells] at hi
      subst hi
      rw [cell_set_off (by omega), kw]
      exact k1
    | 2, hi =>
      simp [tmCells] at hi
      subst hi
      exact cell_set_same d2
    | 3, hi =>
      simp [tmCells] at hi
      subst hi
      rw [cell_set_off (by omega)]
      exact d3
    | i + 4, hi => simp [tmCells] at hi

def MkOk (ks : List Tm) : Prop := ∀ (a : Option Addr) (cap k : Nat) (w : World) (fp : List Nat), KidsOwn w a ks fp → fp.Nodup → ks.length ≤ maxLen → 1 ≤ k → k + 3 * Tm.sizes ks ≤ 1099511627776 →
  Calls Tryz.prog 105 #[.slice a ks.length cap, .int .i64 (k : Int)] w fun e w' => e = .returned (.int .i64 ((k + 3 * Tm.sizes ks : Nat) : Int)) ∧ KidsOwn w' a (markL ks k) fp ∧ Only fp w w'

set_option maxHeartbeats 1000000 in
theorem mk_step (ks : List Tm) (hks : ∀ t ∈ ks, MkOk t.kids) : MkOk ks := by
  intro a cap k w fp hk hnd hm h1 hz
  rcases hk with ⟨rfl, rfl⟩ | ⟨b, C, f, rfl, rfl, hrow, hown⟩
  · refine (marks_nil a cap k w).mono ?_
    rintro e w' ⟨rfl, hb⟩
    exact ⟨by simp [Tm.sizes], Or.inl ⟨by simp [markL], rfl⟩, Only.of_below hb⟩
  · have HS : Hid (MkMid w b f ks k 0 w) := ⟨by simpa [markL] using hown, ⟨C, hrow⟩, Only.refl _ _⟩
    have HK := hide hks
    have HND := hide hnd
    have HTL := hide (sizes_take_le ks)
    generalize hlen : ks.length = len at *
    have HL := hide hlen
    generalize htot : Tm.sizes ks = tot at *
    have HTOT := hide htot
    unfold maxLen at hm
    clear hks hlen hnd hown hrow htot
    go_enter Tryz.func105, Tryz.ntmps105
    go_wp2_with fail
    go_loopw [1, 5] (fun l i wr => ∃ j : Nat, j ≤ len ∧ i = .int .i64 j ∧ l = .int .i64 ((k + 3 * Tm.sizes (ks.take j) : Nat) : Int) ∧ MkMid w b f ks k j wr) (fun _ i _ => len - (intOf i).toNat)
    case atStart => exact ⟨0, Nat.zero_le _, rfl, by simp [Tm.sizes], unhide HS⟩
    case round =>
      obtain ⟨j, hj, rfl, rfl, hM⟩ := hrel
      by_cases hlt : j < len
      · have hlt' : j < ks.length := by have := unhide HL; omega
        obtain ⟨op, n, s, a', cap', f1, kj, hkj, hbs, c0, c1, c2, c3, hml, hkk, nd1, sub1, nb1, hgo⟩ := hM.open hlt' (unhide HND)
        obtain ⟨Cb, hCb⟩ := hM.row
        have q0 : wr.frozen? ⟨b, j * 4, none⟩ = false := frozen_of_row hCb
        have q1 : wr.frozen? ⟨b, j * 4 + 1, none⟩ = false := frozen_of_row hCb
        have q2 : wr.frozen? ⟨b, j * 4 + 2, none⟩ = false := frozen_of_row hCb
        have hsj := sizes_take_succ hlt'
        have hsk := size_kids ks[j]
        have htl := unhide HTL (j + 1)
        have HKK := hide hkk
        have HN1 := hide nd1
        have HG := hide hgo
        rw [← hkj]
        have hks1 : kj + 3 + 3 * Tm.sizes ks[j].kids = k + 3 * Tm.sizes (ks.take (j + 1)) := by omega
        have hkb : kj + 3 + 3 * Tm.sizes ks[j].kids ≤ 1099511627776 := by omega
        have hk1 : 1 ≤ kj := by omega
        have hkb2 : kj + 3 ≤ 1099511627776 := by omega
        have HR : Hid (∀ (x : Int) (v : World), x = ((kj + 3 : Nat) : Int) → KidsOwn v a' ks[j].kids f1 →
            Calls Tryz.prog 105 #[.slice a' ks[j].kids.length cap', .int .i64 x] v fun e w' => e = .returned (.int .i64 ((k + 3 * Tm.sizes (ks.take (j + 1)) : Nat) : Int)) ∧ KidsOwn w' a' (markL ks[j].kids (kj + 3)) f1 ∧ Only f1 v w') := fun x v hx hv => by
          rw [hx, ← hks1]
          exact unhide HK ks[j] (List.getElem_mem hlt') a' cap' (kj + 3) v f1 hv nd1 hml (by omega) hkb
        generalize ks[j].kids.length = kl at *
        have hnb : k + 3 * Tm.sizes (ks.take (j + 1)) ≤ 1099511627776 := by omega
        generalize hkn : k + 3 * Tm.sizes (ks.take (j + 1)) = kn at *
        have HN := hide hkn
        have HM : Hid (∀ (x : Int) (v : World), x = ((kj + 2 : Nat) : Int) → Calls Tryz.prog 138 #[.int .i64 x] v fun e w' => e = .returned (.string (mtx (kj + 2))) ∧ Below v.heap.size v w') := fun x v hx => by
          rw [hx]; exact mark29 (kj + 2) v (by omega) (by omega)
        generalize mtx (kj + 2) = mt at *
        clear hkn hkk hkj hsj hsk htl hks1 hkb nd1 hgo hM HS
        go_wp2_with fail
        refine (unhide HM _ _ (by omega)).mono ?_
        rintro e w2 ⟨rfl, hb2⟩
        obtain ⟨d2, d3, e2, oW, cW, rW, hW⟩ := three (mt := mt) hCb c0 c1 c2 c3 hb2
        have HKW : Hid (KidsOwn (w2.setCell ⟨b, j * 4 + 2, none⟩ (.string mt)) a' ks[j].kids f1) := (unhide HKK).keep fun x hx => oW.block x ((unhide HKK).lt x hx) (fun e => nb1 (by rw [List.mem_singleton] at e; rw [← e]; exact hx))
        have HE := hide (fun w3 o3 k3 => unhide HG _ w3 oW cW rW (by rw [show ((kj + 1 : Nat) : Int) = (kj : Int) + 1 by omega]; exact hW) (by omega) o3 k3)
        clear oW cW rW hW HG HM hb2
        go_wp2_with fail
        refine (unhide HR _ _ (by omega) (unhide HKW)).mono ?_
        rintro e w3 ⟨rfl, k3, o3⟩
        have HM3 := hide (unhide HE w3 o3 k3)
        clear HE k3 o3
        go_wp2_with fail
        go_roundw
        case rel => exact ⟨j + 1, by omega, by go_num, by rw [unhide HN], unhide HM3⟩
        case measure => simp [intOf]; omega
      · go_wp2_with fail
        go_ret
        have e : ks.take j = ks := List.take_of_length_le (by have := unhide HL; omega)
        have ed : ks.drop j = [] := List.drop_of_length_le (by have := unhide HL; omega)
        obtain ⟨h1, ⟨C', h2⟩, h3⟩ := hM
        rw [e, ed, List.append_nil] at h1
        exact ⟨ret_int (by rw [e, unhide HTOT]), Or.inr ⟨b, C', f, rfl, rfl, h2, h1⟩, h3⟩

theorem mk_any : ∀ (m : Nat) (ks : List Tm), Tm.sizes ks ≤ m → MkOk ks
  | 0, ks, h => mk_step ks fun t ht => by have := Tm.size_mem ht; have := t.size_pos; omega
  | m + 1, ks, h => mk_step ks fun t ht => mk_any m t.kids (by have := Tm.size_mem ht; have := size_kids t; omega)

/-- Its kids bear the marks from k on. -/
def Tm.marked : Tm → Nat → Tm
  | .node op n s ks, k => .node op n s (markL ks k)

theorem mark_any (t : Tm) (op n : Int) (s : ByteArray) (a : Option Addr) (len cap k : Nat) (w : World) (fp : List Nat) (ho : Own w t (tmCells op n s a len cap) fp) (hnd : fp.Nodup) (h1 : 1 ≤ k) (hz : k + 3 * t.size ≤ 1099511627776) :
    Calls Tryz.prog 46 #[.agg #[.int .i64 op, .int .i64 n, .string s, .slice a len cap], .int .i64 (k : Int)] w fun e w' => e = .returned (.int .i64 ((k + 3 * Tm.sizes t.kids : Nat) : Int)) ∧ Own w' (t.marked k) (tmCells op n s a len cap) fp ∧ Only fp w w' := by
  obtain ⟨op', n', s', ks⟩ := t
  have hlt := Own.lt _ _ _ ho
  obtain ⟨a', cap', he, hs, hwf, hk⟩ := ho.kids
  simp only [tmCells, List.cons.injEq, Value.int.injEq, Value.string.injEq, Value.slice.injEq, true_and, and_true] at he
  obtain ⟨rfl, rfl, rfl, rfl, rfl, rfl⟩ := he
  simp only [Tm.kids, Tm.size] at hz ⊢
  have HS := hide (mk_any _ ks (Nat.le_refl _) a cap k)
  have HF : Hid (∀ w', KidsOwn w' a (markL ks k) fp → Own w' (Tm.marked (.node op n s ks) k) (tmCells op n s a ks.length cap) fp) := fun w' h => by
    have := Own.of_kids (op := op) (n := n) (s := s) (cap := cap) ⟨hs.1, by rw [markL_length]; exact hs.2.1, hs.2.2⟩ hwf h
    rw [markL_length] at this
    exact this
  have HK := hide (hk.keep (w' := w.alloc (.cells #[.int .i64 op, .int .i64 n, .string s, .slice a ks.length cap] 29)) fun b hb => heap_alloc_old w _ (hk.lt b hb))
  have hm : ks.length ≤ maxLen := by omega
  have HND := hide hnd
  clear hk hs hwf hnd ho hlt
  generalize ks.length = len at *
  generalize Tm.sizes ks = sz at *
  go_enter Tryz.func46, Tryz.ntmps46
  go_wp2_with fail
  refine (unhide HS _ fp (unhide HK) (unhide HND) hm h1 (by omega)).mono ?_
  rintro e w2 ⟨rfl, k2, o2⟩
  have H2 := hide (unhide HF w2 k2)
  have H3 := hide ((Only.of_below ((Below.refl _ w).alloc (Nat.le_refl _) _)).trans o2)
  clear k2 o2
  go_wp2_with fail
  go_ret
  exact ⟨rfl, unhide H2, unhide H3⟩

/-- The text. -/
def textT (h : ByteArray) : Tm := .node 2 0 h []
/-- The atom that signs. -/
def oneT : Tm := .node 1 1 ByteArray.empty []
/-- What a certificate comes to. -/
def certT (h : ByteArray) (t : Tm) (u : Int) : Tm := madeT 8 [oneT, madeT 3 [textT h, madeT 3 [t, numT u]]]
set_option maxRecDepth 100000 in
theorem madeT_200 (op : Int) (ks : List Tm) : (madeT op ks).size ≤ 200 := by
  unfold madeT pickT
  split
  · rename_i h
    simp only [okT, Bool.and_eq_true, decide_eq_true_eq] at h
    exact h.1
  · simp [Tm.size, Tm.sizes]
set_option maxRecDepth 100000 in
theorem made_in (op : Int) (k : Tm) (op2 : Int) (ks : List Tm) : madeT op [k, madeT op2 ks] = madeT op [k, .node op2 0 ByteArray.empty ks] := by
  cases h : okT (.node op2 0 ByteArray.empty ks) with
  | true =>
    have e : madeT op2 ks = .node op2 0 ByteArray.empty ks := by unfold madeT; rw [h]; rfl
    rw [e]
  | false =>
    have e : madeT op2 ks = .node 0 0 ByteArray.empty [] := by unfold madeT; rw [h]; rfl
    have h1 : okT (.node op 0 ByteArray.empty [k, .node op2 0 ByteArray.empty ks]) = false := by
      cases h2 : okT (.node op 0 ByteArray.empty [k, .node op2 0 ByteArray.empty ks]) with
      | false => rfl
      | true =>
        have := okT_kid h2 (x := .node op2 0 ByteArray.empty ks) (by simp)
        rw [h] at this
        cases this
    rw [e]
    unfold madeT
    rw [h1, okT_zero]
    rfl
set_option maxRecDepth 100000 in
theorem cert_one (h : ByteArray) (t : Tm) (u : Int) : madeT 8 [oneT, .node 3 0 ByteArray.empty [textT h, .node 3 0 ByteArray.empty [t, numT u]]] = certT h t u := by
  unfold certT
  rw [made_in 3 (textT h), made_in 8 oneT]
set_option maxRecDepth 100000 in
theorem certT_200 (h : ByteArray) (t : Tm) (u : Int) : (certT h t u).size ≤ 200 := madeT_200 _ _
set_option maxRecDepth 100000 in
theorem okT_200 {t : Tm} (h : okT t = true) : t.size ≤ 200 := by
  simp only [okT, Bool.and_eq_true, decide_eq_true_eq] at h
  exact h.1
set_option maxRecDepth 100000 in
theorem certB_ok {h : ByteArray} {t : Tm} {u : Int} (hc : certB h t u = true) : hostP h ∧ opT t = 4 ∧ okT t = true ∧ 0 ≤ u ∧ u ≤ 100000 := by
  simp only [certB, Bool.and_eq_true, beq_iff_eq, decide_eq_true_eq] at hc
  exact ⟨hostB_iff.1 hc.1, hc.2.1, hc.2.2.1, hc.2.2.2.1, hc.2.2.2.2⟩

set_option maxRecDepth 100000 in
theorem atom1S (w : World) : Calls Tryz.prog 67 #[.int .i64 1] w fun e w' => e = .returned (.agg #[.int .i64 1, .int .i64 1, .string ByteArray.empty, .slice none 0 0]) ∧ Below w.heap.size w w' :=
  (atom6 1 w (by decide)).mono fun _ _ ⟨he, hb⟩ => ⟨by rw [he, show atOp 1 = 1 from by unfold atOp; rw [if_pos (by decide)], show atN 1 = 1 from by unfold atN; rw [if_pos (by decide)]], hb⟩

set_option maxRecDepth 100000 in
theorem RowC.only6 {ty : TypeId} {w : World} {b : Nat} {h : ByteArray} {op n : Int} {s : ByteArray} {a : Option Addr} {len cap : Nat} {u : Int} (hr : RowC ty w b h op n s a len cap u) : b < w.heap.size := hr.lt

set_option maxRecDepth 100000 in
set_option maxHeartbeats 4000000 in
theorem certTS_yes (t : Tm) (h : ByteArray) (op n : Int) (s : ByteArray) (a : Option Addr) (len cap : Nat) (u : Int) (w : World) (hl : Lies w 0 t (tmCells op n s a len cap)) (hc : certB h t u = true) :
    Calls Tryz.prog 41 #[.agg #[.string h, .int .i64 op, .int .i64 n, .string s, .slice a len cap, .int .i64 u]] w fun e w' => ∃ op' n' s' a' len' cap', e = .returned (.agg #[.int .i64 op', .int .i64 n', .string s', .slice a' len' cap']) ∧ Lies w' w.heap.size (certT h t u) (tmCells op' n' s' a' len' cap') ∧ Below w.heap.size w w' ∧ len' = cap' := by
  obtain ⟨hh, _, hok, hu0, hu1⟩ := certB_ok hc
  have ht := okT_200 hok
  have hhs : h.size ≤ 60 := hh.1
  have h14 := hide (fun v hv => certS t h op n s a len cap u v hv (by omega) (by omega))
  rw [hc] at h14
  have h16 := hide atom1S
  have h18 := hide (fun v => num_calls u v (by omega) (by omega))
  have h17 := hide (fun v hl1 hl2 => pair12 t (numT u) op n s a len cap 2 0 ⟨(Lib.itoa u).toArray⟩ none 0 0 v hl1 hl2 (by rw [numT_size]; omega))
  have h17' := hide (fun op3 n3 s3 a3 len3 cap3 v hl1 hl2 => pair12 (textT h) (madeT 3 [t, numT u]) 2 0 h none 0 0 op3 n3 s3 a3 len3 cap3 v hl1 hl2 (by have := madeT_200 3 [t, numT u]; simp only [textT, Tm.size, Tm.sizes]; omega))
  have h15 := hide (fun op4 n4 s4 a4 len4 cap4 v hl1 hl2 => signS oneT (madeT 3 [textT h, madeT 3 [t, numT u]]) 1 1 ByteArray.empty none 0 0 op4 n4 s4 a4 len4 cap4 v hl1 hl2 (by have := madeT_200 3 [textT h, madeT 3 [t, numT u]]; simp only [oneT, Tm.size, Tm.sizes]; omega))
  have HNL : Hid (∀ v : World, Lies v 0 (numT u) (tmCells 2 0 ⟨(Lib.itoa u).toArray⟩ none 0 0)) := fun v => lies_leaf v 2 0 _ (itoa_size u (by omega) (by omega)) (by decide) (by decide)
  have HTL : Hid (∀ v : World, Lies v 0 (textT h) (tmCells 2 0 h none 0 0)) := fun v => lies_leaf v 2 0 _ (by unfold maxLen; omega) (by decide) (by decide)
  have HOL : Hid (∀ v : World, Lies v 0 oneT (tmCells 1 1 ByteArray.empty none 0 0)) := fun v => lies_leaf v 1 1 _ (by simp [maxLen]) (by decide) (by decide)
  have HE : Hid (certT h t u = madeT 8 [oneT, madeT 3 [textT h, madeT 3 [t, numT u]]]) := rfl
  generalize certT h t u = CT at *
  generalize madeT 8 [oneT, madeT 3 [textT h, madeT 3 [t, numT u]]] = ST at *
  generalize madeT 3 [textT h, madeT 3 [t, numT u]] = PT at *
  generalize madeT 3 [t, numT u] = QT at *
  generalize numT u = NT at *
  generalize (⟨(Lib.itoa u).toArray⟩ : ByteArray) = ns at *
  have hB0 : Below w.heap.size w ((w.alloc (.cells #[.string h, .int .i64 op, .int .i64 n, .string s, .slice a len cap, .int .i64 u] 57)).alloc (.cells #[.int .i64 0, .int .i64 0, .string ByteArray.empty, .slice none 0 0] 29)) := bt (ab _) (ab _) (Nat.le_refl _)
  have HX : Hid (ZBox ((w.alloc (.cells #[.string h, .int .i64 op, .int .i64 n, .string s, .slice a len cap, .int .i64 u] 57)).alloc (.cells #[.int .i64 0, .int .i64 0, .string ByteArray.empty, .slice none 0 0] 29)) (w.heap.size + 1)) := by
    have := ZBox.new (w.alloc (.cells #[.string h, .int .i64 op, .int .i64 n, .string s, .slice a len cap, .int .i64 u] 57))
    rwa [heap_size_alloc] at this
  have HR : Hid (RowC 57 ((w.alloc (.cells #[.string h, .int .i64 op, .int .i64 n, .string s, .slice a len cap, .int .i64 u] 57)).alloc (.cells #[.int .i64 0, .int .i64 0, .string ByteArray.empty, .slice none 0 0] 29)) w.heap.size h op n s a len cap u) := (RowC.new 57 w h op n s a len cap u).below (ab _)
  have HL := hide (hl.below hB0)
  have HB0 := hide hB0
  clear hl hB0 hc hh hok ht hhs hu0 hu1
  go_enter Tryz.func41, Tryz.ntmps41
  go_wp2_with fail
  refine (unhide h14 _ (unhide HL)).mono ?_
  rintro e W0 ⟨rfl, hb1⟩
  have HB1 := hide (bt (unhide HB0) hb1 (Nat.le_refl _))
  have HL1 := hide ((unhide HL).below hb1)
  have HX1 := hide ((unhide HX).below hb1)
  have HR1 := hide ((unhide HR).below hb1)
  clear hb1 HB0 HL HX HR h14
  obtain ⟨c0, c1, c2, c3, c4, c5⟩ := (unhide HR1).facts
  have hne1 : (w.heap.size = w.heap.size + 1) = False := by simp
  have hne2 : (w.heap.size + 1 = w.heap.size) = False := by simp
  have hsA : w.heap.size + 1 < W0.heap.size := lt_of_heap (unhide HX1)
  go_wp2_with fail
  go_region_held3 (fun x => x.cell? ⟨w.heap.size, 0, none⟩ = some (.string h) ∧ x.cell? ⟨w.heap.size, 1, none⟩ = some (.int .i64 op) ∧ x.cell? ⟨w.heap.size, 2, none⟩ = some (.int .i64 n) ∧ x.cell? ⟨w.heap.size, 3, none⟩ = some (.string s) ∧ x.cell? ⟨w.heap.size, 4, none⟩ = some (.slice a len cap) ∧ x.cell? ⟨w.heap.size, 5, none⟩ = some (.int .i64 u)) (go_keep)
    (first
      | (go_at_call 67
         refine (unhide h16 _).mono ?_
         rintro e w2 ⟨rfl, hb2⟩
         have hb2' := hide (below_drew' hb2)
         have f0 := kpc (unhide hb2') c0
         have f1 := kpc (unhide hb2') c1
         have f2 := kpc (unhide hb2') c2
         have f3 := kpc (unhide hb2') c3
         have f4 := kpc (unhide hb2') c4
         have f5 := kpc (unhide hb2') c5)
      | (go_at_call 101
         refine (unhide h18 _).mono ?_
         rintro e w3 ⟨rfl, hb3⟩
         have hb3' := hide hb3
         have g0 := kpc hb3 f0
         have g1 := kpc hb3 f1
         have g2 := kpc hb3 f2
         have g3 := kpc hb3 f3
         have g4 := kpc hb3 f4
         have g5 := kpc hb3 f5)
      | (go_at_call 74
         refine (unhide h17 _ (((unhide HL1).below (unhide hb2')).below (unhide hb3')) (unhide HNL _)).mono ?_
         rintro e w4 ⟨op3, n3, s3, a3, len3, cap3, rfl, hL4, hb4, -⟩
         have hb4' := hide hb4
         have HL4 := hide (hL4.any (Nat.zero_le _))
         have j0 := kpc hb4 g0
         have j1 := kpc hb4 g1
         have j2 := kpc hb4 g2
         have j3 := kpc hb4 g3
         have j4 := kpc hb4 g4
         have j5 := kpc hb4 g5)
      | (go_at_call 74
         refine (unhide h17' _ _ _ _ _ _ _ (unhide HTL _) (unhide HL4)).mono ?_
         rintro e w5 ⟨op4, n4, s4, a4, len4, cap4, rfl, hL5, hb5, -⟩
         have hb5' := hide hb5
         have HL5 := hide (hL5.any (Nat.zero_le _))
         have k0 := kpc hb5 j0
         have k1 := kpc hb5 j1
         have k2 := kpc hb5 j2
         have k3 := kpc hb5 j3
         have k4 := kpc hb5 j4
         have k5 := kpc hb5 j5)
      | (go_at_call 78
         refine (unhide h15 _ _ _ _ _ _ _ (unhide HOL _) (unhide HL5)).mono ?_
         rintro e w6 ⟨op', n', s', a', len', cap', rfl, hL6, hb6, htt⟩
         have HTT := hide htt
         clear htt
         have hb6' := hide hb6
         have HL6 := hide hL6
         obtain ⟨p0, p1, p2, p3, q0, q1, q2, q3⟩ := ((((((unhide HX1).below (unhide hb2')).below (unhide hb3')).below (unhide hb4')).below (unhide hb5')).below hb6).facts
         have l0 := kpc hb6 k0
         have l1 := kpc hb6 k1
         have l2 := kpc hb6 k2
         have l3 := kpc hb6 k3
         have l4 := kpc hb6 k4
         have l5 := kpc hb6 k5))
  have HSZ : Hid (w.heap.size + 1 < w5.heap.size) := by show _ < _; have := (unhide hb2').size; have := (unhide hb3').size; have := (unhide hb4').size; have := (unhide hb5').size; omega
  have HB6 := hide (bt (bt (bt (bt (bt (unhide HB1) (unhide hb2') (Nat.le_refl _)) (unhide hb3') (Nat.le_refl _)) (unhide hb4') (Nat.le_refl _)) (unhide hb5') (Nat.le_refl _)) (unhide hb6') (Nat.le_refl _))
  clear f0 f1 f2 f3 f4 f5 c0 c1 c2 c3 c4 c5 g0 g1 g2 g3 g4 g5 j0 j1 j2 j3 j4 j5 k0 k1 k2 k3 k4 k5 l0 l1 l2 l3 l4 l5 hb2' hb3' hb4' hb5' hb6'
  go_wp2_with fail
  exact bodyPost_ret (v := .agg #[.int .i64 op', .int .i64 n', .string s', .slice a' len' cap']) (by simp [results, Tryz.results41, go_sem, p0, p1, p2, p3]) rfl ⟨op', n', s', a', len', cap', rfl, by rw [unhide HE]; exact set4_lies (unhide HL6) (unhide HSZ) w.heap.size (by have := unhide HSZ; omega), set4_below (unhide HB6) (by omega), unhide HTT⟩

set_option maxRecDepth 100000 in
set_option maxHeartbeats 1000000 in
theorem certTS_no (t : Tm) (h : ByteArray) (op n : Int) (s : ByteArray) (a : Option Addr) (len cap : Nat) (u : Int) (w : World) (hl : Lies w 0 t (tmCells op n s a len cap)) (hsz : t.size ≤ 2097152) (hh : h.size ≤ 2097152) (hc : certB h t u = false) :
    Calls Tryz.prog 41 #[.agg #[.string h, .int .i64 op, .int .i64 n, .string s, .slice a len cap, .int .i64 u]] w fun e w' => e = .returned (.agg #[.int .i64 0, .int .i64 0, .string ByteArray.empty, .slice none 0 0]) ∧ Below w.heap.size w w' := by
  have h14 := hide (fun v hv => certS t h op n s a len cap u v hv hsz hh)
  rw [hc] at h14
  have hB0 : Below w.heap.size w ((w.alloc (.cells #[.string h, .int .i64 op, .int .i64 n, .string s, .slice a len cap, .int .i64 u] 57)).alloc (.cells #[.int .i64 0, .int .i64 0, .string ByteArray.empty, .slice none 0 0] 29)) := bt (ab _) (ab _) (Nat.le_refl _)
  have HX : Hid (ZBox ((w.alloc (.cells #[.string h, .int .i64 op, .int .i64 n, .string s, .slice a len cap, .int .i64 u] 57)).alloc (.cells #[.int .i64 0, .int .i64 0, .string ByteArray.empty, .slice none 0 0] 29)) (w.heap.size + 1)) := by
    have := ZBox.new (w.alloc (.cells #[.string h, .int .i64 op, .int .i64 n, .string s, .slice a len cap, .int .i64 u] 57))
    rwa [heap_size_alloc] at this
  have HL := hide (hl.below hB0)
  have HB0 := hide hB0
  clear hl hB0 hc
  go_enter Tryz.func41, Tryz.ntmps41
  go_wp2_with fail
  refine (unhide h14 _ (unhide HL)).mono ?_
  rintro e w2 ⟨rfl, hb2⟩
  obtain ⟨p0, p1, p2, p3, q0, q1, q2, q3⟩ := ((unhide HX).below hb2).facts
  have HB2 := hide (bt (unhide HB0) hb2 (Nat.le_refl _))
  clear hb2
  go_wp2_with fail
  exact bodyPost_ret (v := .agg #[.int .i64 0, .int .i64 0, .string ByteArray.empty, .slice none 0 0]) (by simp [results, Tryz.results41, go_sem, p0, p1, p2, p3]; try rfl) rfl ⟨rfl, set4_below (unhide HB2) (by omega)⟩

set_option maxRecDepth 100000 in
set_option maxHeartbeats 1000000 in
theorem hostText24 (h : ByteArray) (op n : Int) (s : ByteArray) (a : Option Addr) (len cap : Nat) (u : Int) (w : World) :
    Calls Tryz.prog 104 #[.agg #[.string h, .int .i64 op, .int .i64 n, .string s, .slice a len cap, .int .i64 u]] w fun e w' => e = .returned (.agg #[.int .i64 2, .int .i64 0, .string h, .slice none 0 0]) ∧ Below w.heap.size w w' := by
  have hB0 : Below w.heap.size w ((w.alloc (.cells #[.string h, .int .i64 op, .int .i64 n, .string s, .slice a len cap, .int .i64 u] 57)).alloc (.cells #[.int .i64 2, .int .i64 0, .string h, .slice none 0 0] 29)) := bt (ab _) (ab _) (Nat.le_refl _)
  have HB0 := hide hB0
  clear hB0
  go_enter Tryz.func104, Tryz.ntmps104
  go_wp2_with fail
  have HR := RowT.new 29 (w.alloc (.cells #[.string h, .int .i64 op, .int .i64 n, .string s, .slice a len cap, .int .i64 u] 57)) 2 0 h none 0 0
  rw [heap_size_alloc] at HR
  obtain ⟨p0, p1, p2, p3⟩ := HR.facts
  exact bodyPost_ret (v := .agg #[.int .i64 2, .int .i64 0, .string h, .slice none 0 0]) (by simp [results, Tryz.results104, go_sem, p0, p1, p2, p3]; try rfl) rfl ⟨rfl, unhide HB0⟩

set_option maxRecDepth 100000 in
theorem atom1I (w : World) (herr : Err w) : Calls Tryz.prog 103 #[.int .i64 1] w fun e w' => e = .returned (.agg #[.int .i64 1, .int .i64 1, .string ByteArray.empty, .slice none 0 0]) ∧ Below w.heap.size w w' :=
  (atom7 1 w (by decide) herr).mono fun _ _ ⟨he, hb⟩ => ⟨by rw [he, show atOp 1 = 1 from by unfold atOp; rw [if_pos (by decide)], show atN 1 = 1 from by unfold atN; rw [if_pos (by decide)]], hb⟩

set_option maxRecDepth 100000 in
theorem DcCut.mk {w2 wx : World} {g b : Nat} {NT u : Tm} {ns s2 : ByteArray} {op2 n2 : Int} {a2 : Option Addr} {len2 cap2 : Nat} (hb : Below w2.heap.size w2 wx) (hrow : RowT 29 wx g 3 0 ByteArray.empty (some ⟨b, 0, none⟩) 2 2) (hc : ∀ j v, (#[.int .i64 op2, .int .i64 n2, .string s2, .slice a2 len2 cap2, .int .i64 2, .int .i64 0, .string ns, .slice none 0 0] : Array Value)[j]? = some v → wx.cell? ⟨b, j, none⟩ = some v) (hN : ∀ v : World, Lies v 0 NT (tmCells 2 0 ns none 0 0)) (hu : Lies w2 0 u (tmCells op2 n2 s2 a2 len2 cap2)) :
    SlCut (.node 3 0 ByteArray.empty [u, NT]) w2 (.pointer (some ⟨g, 0, none⟩)) wx := ⟨g, _, rfl, hrow, lies_row2 (hu.below hb) (hN _) hc 3 (by decide), hb⟩
set_option maxRecDepth 100000 in
theorem DcCut.late {w2 X : World} {NT u : Tm} {ns s2 : ByteArray} {op2 n2 : Int} {a2 : Option Addr} {len2 cap2 : Nat} (hb : Below w2.heap.size w2 X) (hN : ∀ v : World, Lies v 0 NT (tmCells 2 0 ns none 0 0)) (hu : Lies w2 0 u (tmCells op2 n2 s2 a2 len2 cap2)) :
    SlCut (.node 3 0 ByteArray.empty [u, NT]) w2 (.pointer (some ⟨X.heap.size + 1, 0, none⟩)) ((X.alloc (.cells #[.int .i64 op2, .int .i64 n2, .string s2, .slice a2 len2 cap2, .int .i64 2, .int .i64 0, .string ns, .slice none 0 0] 29)).alloc (.cells #[.int .i64 3, .int .i64 0, .string ⟨#[]⟩, .slice (some ⟨X.heap.size, 0, none⟩) 2 2] 29)) := by
  have hr := RowT.new 29 (X.alloc (.cells #[.int .i64 op2, .int .i64 n2, .string s2, .slice a2 len2 cap2, .int .i64 2, .int .i64 0, .string ns, .slice none 0 0] 29)) 3 0 ByteArray.empty (some ⟨X.heap.size, 0, none⟩) 2 2
  rw [heap_size_alloc] at hr
  exact DcCut.mk (bt (bt hb (ab _) (Nat.le_refl _)) (ab _) (Nat.le_refl _)) hr (fun j v hj => kpc (ab _) (box_cell X _ 29 j v hj)) hN hu
set_option maxRecDepth 100000 in
theorem DcCut.mid {w2 X : World} {NT u : Tm} {ns s2 : ByteArray} {op2 n2 : Int} {a2 : Option Addr} {len2 cap2 : Nat} (hb : Below w2.heap.size w2 X) (hN : ∀ v : World, Lies v 0 NT (tmCells 2 0 ns none 0 0)) (hu : Lies w2 0 u (tmCells op2 n2 s2 a2 len2 cap2)) :
    SlCut (.node 3 0 ByteArray.empty [u, NT]) w2 (.pointer (some ⟨X.heap.size, 0, none⟩)) ((X.alloc (.cells #[.int .i64 3, .int .i64 0, .string ⟨#[]⟩, .slice (some ⟨X.heap.size + 1, 0, none⟩) 2 2] 29)).alloc (.cells #[.int .i64 op2, .int .i64 n2, .string s2, .slice a2 len2 cap2, .int .i64 2, .int .i64 0, .string ns, .slice none 0 0] 29)) := by
  have hr := (RowT.new 29 X 3 0 ByteArray.empty (some ⟨X.heap.size + 1, 0, none⟩) 2 2).below (ab (.cells #[.int .i64 op2, .int .i64 n2, .string s2, .slice a2 len2 cap2, .int .i64 2, .int .i64 0, .string ns, .slice none 0 0] 29))
  exact DcCut.mk (bt (bt hb (ab _) (Nat.le_refl _)) (ab _) (Nat.le_refl _)) hr (fun j v hj => by have := box_cell (X.alloc (.cells #[.int .i64 3, .int .i64 0, .string ByteArray.empty, .slice (some ⟨X.heap.size + 1, 0, none⟩) 2 2] 29)) _ 29 j v hj; rwa [heap_size_alloc] at this) hN hu
set_option maxRecDepth 100000 in
theorem DcCut.early {w2 X Y : World} {g : Nat} {NT u : Tm} {ns s2 : ByteArray} {op2 n2 : Int} {a2 : Option Addr} {len2 cap2 : Nat} (hb : Below w2.heap.size w2 X) (hz : ZBox X g) (hg : w2.heap.size ≤ g) (hN : ∀ v : World, Lies v 0 NT (tmCells 2 0 ns none 0 0)) (hu : Lies w2 0 u (tmCells op2 n2 s2 a2 len2 cap2))
    (hY : Y = ((((X.setCell ⟨g, 0, none⟩ (.int .i64 3)).setCell ⟨g, 1, none⟩ (.int .i64 0)).setCell ⟨g, 2, none⟩ (.string ⟨#[]⟩)).setCell ⟨g, 3, none⟩ (.slice (some ⟨X.heap.size, 0, none⟩) 2 2))) :
    SlCut (.node 3 0 ByteArray.empty [u, NT]) w2 (.pointer (some ⟨g, 0, none⟩)) (Y.alloc (.cells #[.int .i64 op2, .int .i64 n2, .string s2, .slice a2 len2 cap2, .int .i64 2, .int .i64 0, .string ns, .slice none 0 0] 29)) := by
  have hf := fill26 hz 3 0 ByteArray.empty (some ⟨X.heap.size, 0, none⟩) 2 2
  have hby := set4_below (x0 := .int .i64 3) (x1 := .int .i64 0) (x2 := .string ByteArray.empty) (x3 := .slice (some ⟨X.heap.size, 0, none⟩) 2 2) hb hg
  have hs : Y.heap.size = X.heap.size := by rw [hY]; simp
  have hf : RowT 29 ((((X.setCell ⟨g, 0, none⟩ (.int .i64 3)).setCell ⟨g, 1, none⟩ (.int .i64 0)).setCell ⟨g, 2, none⟩ (.string ⟨#[]⟩)).setCell ⟨g, 3, none⟩ (.slice (some ⟨X.heap.size, 0, none⟩) 2 2)) g 3 0 ByteArray.empty (some ⟨X.heap.size, 0, none⟩) 2 2 := hf
  have hby : Below w2.heap.size w2 ((((X.setCell ⟨g, 0, none⟩ (.int .i64 3)).setCell ⟨g, 1, none⟩ (.int .i64 0)).setCell ⟨g, 2, none⟩ (.string ⟨#[]⟩)).setCell ⟨g, 3, none⟩ (.slice (some ⟨X.heap.size, 0, none⟩) 2 2)) := hby
  rw [← hY] at hf hby
  rw [← hs] at hf
  exact DcCut.mk (bt hby (ab _) (Nat.le_refl _)) (hf.below (ab _)) (fun j v hj => box_cell Y _ 29 j v hj) hN hu

set_option maxRecDepth 100000 in
set_option maxHeartbeats 4000000 in
theorem certTI_yes (t : Tm) (h : ByteArray) (op n : Int) (s : ByteArray) (a : Option Addr) (len cap : Nat) (u : Int) (w : World) (hl : Lies w 0 t (tmCells op n s a len cap)) (hc : certB h t u = true) (htab : Tab w) (herr : Err w) :
    Calls Tryz.prog 43 #[.agg #[.string h, .int .i64 op, .int .i64 n, .string s, .slice a len cap, .int .i64 u]] w fun e w' => ∃ op' n' s' a' len' cap' fp, e = .returned (.agg #[.int .i64 op', .int .i64 n', .string s', .slice a' len' cap']) ∧ Own w' (certT h t u) (tmCells op' n' s' a' len' cap') fp ∧ (fp.Nodup ∧ ∀ x ∈ fp, w.heap.size ≤ x) ∧ Below w.heap.size w w' := by
  obtain ⟨hh, _, hok, hu0, hu1⟩ := certB_ok hc
  have ht := okT_200 hok
  have hhs : h.size ≤ 60 := hh.1
  have h20 := hide (fun v hv => certI t h op n s a len cap u v hv (by omega) (by omega))
  rw [hc] at h20
  have h21 := hide (fun v ht => digitsI u v (by omega) (by omega) ht)
  have h23 := hide atom1I
  have h24 := hide (hostText24 h op n s a len cap u)
  have h22 := hide (fun a7 v hl1 hl2 he => signI oneT (.node 3 0 ByteArray.empty [textT h, .node 3 0 ByteArray.empty [t, numT u]]) 1 1 ByteArray.empty none 0 0 3 0 ByteArray.empty a7 2 2 v hl1 hl2 (by simp only [oneT, textT, Tm.size, Tm.sizes, numT_size]; omega) he)
  rw [cert_one h t u] at h22
  have HNL : Hid (∀ v : World, Lies v 0 (numT u) (tmCells 2 0 ⟨(Lib.itoa u).toArray⟩ none 0 0)) := fun v => lies_leaf v 2 0 _ (itoa_size u (by omega) (by omega)) (by decide) (by decide)
  have HTL : Hid (∀ v : World, Lies v 0 (textT h) (tmCells 2 0 h none 0 0)) := fun v => lies_leaf v 2 0 _ (by unfold maxLen; omega) (by decide) (by decide)
  have HOL : Hid (∀ v : World, Lies v 0 oneT (tmCells 1 1 ByteArray.empty none 0 0)) := fun v => lies_leaf v 1 1 _ (by simp [maxLen]) (by decide) (by decide)
  generalize certT h t u = CT at *
  generalize numT u = NT at *
  generalize (⟨(Lib.itoa u).toArray⟩ : ByteArray) = ns at *
  have hB0 : Below w.heap.size w ((w.alloc (.cells #[.string h, .int .i64 op, .int .i64 n, .string s, .slice a len cap, .int .i64 u] 57)).alloc (.cells #[.int .i64 0, .int .i64 0, .string ByteArray.empty, .slice none 0 0] 29)) := bt (ab _) (ab _) (Nat.le_refl _)
  have HX : Hid (ZBox ((w.alloc (.cells #[.string h, .int .i64 op, .int .i64 n, .string s, .slice a len cap, .int .i64 u] 57)).alloc (.cells #[.int .i64 0, .int .i64 0, .string ByteArray.empty, .slice none 0 0] 29)) (w.heap.size + 1)) := by
    have := ZBox.new (w.alloc (.cells #[.string h, .int .i64 op, .int .i64 n, .string s, .slice a len cap, .int .i64 u] 57))
    rwa [heap_size_alloc] at this
  have HR : Hid (RowC 57 ((w.alloc (.cells #[.string h, .int .i64 op, .int .i64 n, .string s, .slice a len cap, .int .i64 u] 57)).alloc (.cells #[.int .i64 0, .int .i64 0, .string ByteArray.empty, .slice none 0 0] 29)) w.heap.size h op n s a len cap u) := (RowC.new 57 w h op n s a len cap u).below (ab _)
  have HL := hide (hl.below hB0)
  have HTB := hide (htab.on hB0)
  have HER := hide (herr.on hB0)
  have HB0 := hide hB0
  clear hl hB0 hc hh hok ht hhs hu0 hu1 htab herr
  go_enter Tryz.func43, Tryz.ntmps43
  go_wp2_with fail
  refine (unhide h20 _ (unhide HL)).mono ?_
  rintro e W0 ⟨rfl, hb1⟩
  have HB1 := hide (bt (unhide HB0) hb1 (Nat.le_refl _))
  have HL1 := hide ((unhide HL).below hb1)
  have HX1 := hide ((unhide HX).below hb1)
  have HR1 := hide ((unhide HR).below hb1)
  have HTB1 := hide ((unhide HTB).on hb1)
  have HER1 := hide ((unhide HER).on hb1)
  clear hb1 HB0 HL HX HR h20 HTB HER
  obtain ⟨c0, c1, c2, c3, c4, c5⟩ := (unhide HR1).facts
  have l0 := lt_of_cell c1
  have n0 := Nat.ne_of_lt l0
  have m0 := Ne.symm n0
  go_wp2_with fail
  go_cut [3] (fun p wx => SlCut (.node 3 0 ByteArray.empty [t, NT]) W0 p wx)
  case first =>
    go_region_held3 (fun x => x.cell? ⟨w.heap.size, 1, none⟩ = some (.int .i64 op) ∧ x.cell? ⟨w.heap.size, 2, none⟩ = some (.int .i64 n) ∧ x.cell? ⟨w.heap.size, 3, none⟩ = some (.string s) ∧ x.cell? ⟨w.heap.size, 4, none⟩ = some (.slice a len cap) ∧ x.cell? ⟨w.heap.size, 5, none⟩ = some (.int .i64 u)) (go_keep)
      (first
        | (go_at_call 102
           refine (unhide h21 _ ?_).mono ?_
           first
             | exact (unhide HTB1).on ((Below.refl _ _).drew)
             | exact (unhide HTB1).on ((ab _).drew)
           rintro e w2 ⟨rfl, hb2⟩
           try have zz2 := hide ((ZBox.new W0).drew.below hb2)
           have hb02 : Hid (Below W0.heap.size W0 w2) := by
             first
               | exact below_drew' hb2
               | exact bt (ab _) (below_drew' hb2) (Nat.le_refl _)
           have f4 := kpc (unhide hb02) c1
           have f5 := kpc (unhide hb02) c2
           have f6 := kpc (unhide hb02) c3
           have f7 := kpc (unhide hb02) c4
           have f8 := kpc (unhide hb02) c5
           try obtain ⟨p0, p1, p2, p3, q0, q1, q2, q3⟩ := (unhide zz2).facts
           try have nz := Nat.ne_of_lt (lt_of_heap (unhide zz2))
           try have mz := Ne.symm nz
           try have nz' := eq_false nz
           try have mz' := eq_false mz
           try have lz := lt_of_heap (unhide zz2)
           have l2 := lt_of_cell f4
           have n2' := Nat.ne_of_lt l2
           have m2 := Ne.symm n2'
           clear hb2))
    all_goals
      go_wp2_with fail
      go_meet
      first
        | (with_reducible refine DcCut.late ?_ ?_ ?_
           · exact unhide hb02
           · exact unhide HNL
           · exact unhide HL1)
        | (with_reducible refine DcCut.mid ?_ ?_ ?_
           · exact unhide hb02
           · exact unhide HNL
           · exact unhide HL1)
        | (with_reducible refine DcCut.early ?_ ?_ ?_ ?_ ?_ rfl
           · exact unhide hb02
           · exact unhide zz2
           · exact Nat.le_refl _
           · exact unhide HNL
           · exact unhide HL1)
  case rest =>
    obtain ⟨g7, a7, rfl, hR7, hP7, hb7⟩ := hcut
    have HX7 := hide ((unhide HX1).below hb7)
    have HER7 := hide ((unhide HER1).on hb7)
    have HB7 := hide (bt (unhide HB1) hb7 (Nat.le_refl _))
    have HP7 := hide hP7
    have HR7 := hide ((unhide HR1).below hb7)
    have HRR := hide hR7
    clear hR7 hP7 hb7 c0 c1 c2 c3 c4 c5 l0 n0 m0
    obtain ⟨c0, c1, c2, c3, c4, c5⟩ := (unhide HR7).facts
    obtain ⟨d0, d1, d2, d3⟩ := (unhide HRR).facts
    have hne1 : (w.heap.size = w.heap.size + 1) = False := by simp
    have hne2 : (w.heap.size + 1 = w.heap.size) = False := by simp
    have hneg : g7 ≠ w.heap.size + 1 := fun e => by
      have h1 : wc.heap[g7]? = _ := unhide HRR
      have h2 : wc.heap[w.heap.size + 1]? = _ := unhide HX7
      rw [e, h2] at h1
      simp at h1
    have hg1 : (g7 = w.heap.size + 1) = False := eq_false hneg
    have hg2 : (w.heap.size + 1 = g7) = False := eq_false (Ne.symm hneg)
    go_wp2_with fail
    go_region_held3 (fun x => x.cell? ⟨w.heap.size, 0, none⟩ = some (.string h) ∧ x.cell? ⟨w.heap.size, 1, none⟩ = some (.int .i64 op) ∧ x.cell? ⟨w.heap.size, 2, none⟩ = some (.int .i64 n) ∧ x.cell? ⟨w.heap.size, 3, none⟩ = some (.string s) ∧ x.cell? ⟨w.heap.size, 4, none⟩ = some (.slice a len cap) ∧ x.cell? ⟨w.heap.size, 5, none⟩ = some (.int .i64 u) ∧
        x.cell? ⟨g7, 0, none⟩ = some (.int .i64 3) ∧ x.cell? ⟨g7, 1, none⟩ = some (.int .i64 0) ∧ x.cell? ⟨g7, 2, none⟩ = some (.string ByteArray.empty) ∧ x.cell? ⟨g7, 3, none⟩ = some (.slice a7 2 2)) (go_keep)
      (first
        | (go_at_call 103
           refine (unhide h23 _ ((unhide HER7).on ((Below.refl _ _).drew))).mono ?_
           rintro e w8 ⟨rfl, hb8⟩
           have hb8' := hide (below_drew' hb8)
           obtain ⟨f0, f1, f2, f3, f4, f5⟩ := ((unhide HR7).below (unhide hb8')).facts
           obtain ⟨e0, e1, e2, e3⟩ := ((unhide HRR).below (unhide hb8')).facts)
        | (go_at_call 104
           refine (unhide h24 _).mono ?_
           rintro e w9 ⟨rfl, hb9⟩
           have hb9' := hide hb9
           obtain ⟨i0, i1, i2, i3, i4, i5⟩ := (((unhide HR7).below (unhide hb8')).below hb9).facts
           obtain ⟨j0, j1, j2, j3⟩ := (((unhide HRR).below (unhide hb8')).below hb9).facts
           have l9 := lt_of_cell j0
           have n9 := Nat.ne_of_lt l9
           have m9 := Ne.symm n9
           have l8 := lt_of_cell i0
           have n8 := Nat.ne_of_lt l8
           have m8 := Ne.symm n8)
        | (go_at_call 39
           refine (unhide h22 _ _ (unhide HOL _) (lies_row2 (unhide HTL _) ((((unhide HP7).below (unhide hb8')).below (unhide hb9')).below (ab _)) (fun j v hj => box_cell w9 _ 29 j v hj) 3 (by decide)) ((((unhide HER7).on (unhide hb8')).on (unhide hb9')).on (ab _))).mono ?_
           rintro e wx ⟨op', n', s', a', len', cap', fp, rfl, hOx, ⟨hnd, hge⟩, hbx⟩
           have HBX := hide (bt (bt (bt (bt (unhide HB7) (unhide hb8') (Nat.le_refl _)) (unhide hb9') (Nat.le_refl _)) (ab _) (Nat.le_refl _)) hbx (Nat.le_refl _))
           have hb9x := bt (ab (w := w9) (.cells #[.int .i64 2, .int .i64 0, .string h, .slice none 0 0, .int .i64 3, .int .i64 0, .string ByteArray.empty, .slice a7 2 2] 29)) hbx (Nat.le_refl _)
           have HOX := hide hOx
           have HND := hide hnd
           rw [heap_size_alloc] at hge
           have HGE := hide hge
           obtain ⟨p0, p1, p2, p3, q0, q1, q2, q3⟩ := ((((unhide HX7).below (unhide hb8')).below (unhide hb9')).below hb9x).facts
           obtain ⟨t0, t1, t2, t3, t4, t5⟩ := ((((unhide HR7).below (unhide hb8')).below (unhide hb9')).below hb9x).facts
           obtain ⟨v0, v1, v2, v3⟩ := ((((unhide HRR).below (unhide hb8')).below (unhide hb9')).below hb9x).facts
           have HS9 : Hid (w.heap.size + 1 < w9.heap.size) := lt_of_heap (((unhide HX7).below (unhide hb8')).below (unhide hb9'))
           clear hOx hnd hge hbx hb9x))
    all_goals go_wp2_with fail
    all_goals
      exact bodyPost_ret (v := .agg #[.int .i64 op', .int .i64 n', .string s', .slice a' len' cap']) (by simp [results, Tryz.results43, go_sem, p0, p1, p2, p3]) rfl ⟨op', n', s', a', len', cap', fp, rfl, Own.keep _ _ _ (unhide HOX) (fun b hb => set4_heap _ _ _ _ _ _ b (by have := unhide HGE b hb; have := unhide HS9; omega)), ⟨unhide HND, fun x hx => by have := unhide HGE x hx; have := unhide HS9; omega⟩, set4_below (unhide HBX) (by omega)⟩

set_option maxRecDepth 100000 in
set_option maxHeartbeats 1000000 in
theorem certTI_no (t : Tm) (h : ByteArray) (op n : Int) (s : ByteArray) (a : Option Addr) (len cap : Nat) (u : Int) (w : World) (hl : Lies w 0 t (tmCells op n s a len cap)) (hsz : t.size ≤ 2097152) (hh : h.size ≤ 2097152) (hc : certB h t u = false) :
    Calls Tryz.prog 43 #[.agg #[.string h, .int .i64 op, .int .i64 n, .string s, .slice a len cap, .int .i64 u]] w fun e w' => e = .returned (.agg #[.int .i64 0, .int .i64 0, .string ByteArray.empty, .slice none 0 0]) ∧ Below w.heap.size w w' := by
  have h14 := hide (fun v hv => certI t h op n s a len cap u v hv hsz hh)
  rw [hc] at h14
  have hB0 : Below w.heap.size w ((w.alloc (.cells #[.string h, .int .i64 op, .int .i64 n, .string s, .slice a len cap, .int .i64 u] 57)).alloc (.cells #[.int .i64 0, .int .i64 0, .string ByteArray.empty, .slice none 0 0] 29)) := bt (ab _) (ab _) (Nat.le_refl _)
  have HX : Hid (ZBox ((w.alloc (.cells #[.string h, .int .i64 op, .int .i64 n, .string s, .slice a len cap, .int .i64 u] 57)).alloc (.cells #[.int .i64 0, .int .i64 0, .string ByteArray.empty, .slice none 0 0] 29)) (w.heap.size + 1)) := by
    have := ZBox.new (w.alloc (.cells #[.string h, .int .i64 op, .int .i64 n, .string s, .slice a len cap, .int .i64 u] 57))
    rwa [heap_size_alloc] at this
  have HL := hide (hl.below hB0)
  have HB0 := hide hB0
  clear hl hB0 hc
  go_enter Tryz.func43, Tryz.ntmps43
  go_wp2_with fail
  refine (unhide h14 _ (unhide HL)).mono ?_
  rintro e w2 ⟨rfl, hb2⟩
  obtain ⟨p0, p1, p2, p3, q0, q1, q2, q3⟩ := ((unhide HX).below hb2).facts
  have HB2 := hide (bt (unhide HB0) hb2 (Nat.le_refl _))
  clear hb2
  go_wp2_with fail
  exact bodyPost_ret (v := .agg #[.int .i64 0, .int .i64 0, .string ByteArray.empty, .slice none 0 0]) (by simp [results, Tryz.results43, go_sem, p0, p1, p2, p3]; try rfl) rfl ⟨rfl, set4_below (unhide HB2) (by omega)⟩

/-- What a certificate comes to, or zero. -/
noncomputable def certTm (h : ByteArray) (t : Tm) (u : Int) : Tm := pickT (certB h t u) (certT h t u)
set_option maxRecDepth 100000 in
theorem certTm_200 (h : ByteArray) (t : Tm) (u : Int) : (certTm h t u).size ≤ 200 := by
  unfold certTm pickT
  split
  · exact certT_200 h t u
  · simp [Tm.size, Tm.sizes]

set_option maxRecDepth 100000 in
theorem certTS (t : Tm) (h : ByteArray) (op n : Int) (s : ByteArray) (a : Option Addr) (len cap : Nat) (u : Int) (w : World) (hl : Lies w 0 t (tmCells op n s a len cap)) (hsz : t.size ≤ 2097152) (hh : h.size ≤ 2097152) :
    Calls Tryz.prog 41 #[.agg #[.string h, .int .i64 op, .int .i64 n, .string s, .slice a len cap, .int .i64 u]] w fun e w' => ∃ op' n' s' a' len' cap', e = .returned (.agg #[.int .i64 op', .int .i64 n', .string s', .slice a' len' cap']) ∧ Lies w' w.heap.size (certTm h t u) (tmCells op' n' s' a' len' cap') ∧ Below w.heap.size w w' := by
  cases hc : certB h t u with
  | true =>
    have e : certTm h t u = certT h t u := by unfold certTm; rw [hc]; rfl
    rw [e]
    exact (certTS_yes t h op n s a len cap u w hl hc).mono fun _ _ ⟨o, n', s', a', l, c, h1, h2, h3, _⟩ => ⟨o, n', s', a', l, c, h1, h2, h3⟩
  | false =>
    have e : certTm h t u = .node 0 0 ByteArray.empty [] := by unfold certTm; rw [hc]; rfl
    rw [e]
    exact (certTS_no t h op n s a len cap u w hl hsz hh hc).mono fun _ _ ⟨h1, h2⟩ => ⟨_, _, _, _, _, _, h1, zero_lies _ _, h2⟩

set_option maxRecDepth 100000 in
theorem certTI (t : Tm) (h : ByteArray) (op n : Int) (s : ByteArray) (a : Option Addr) (len cap : Nat) (u : Int) (w : World) (hl : Lies w 0 t (tmCells op n s a len cap)) (hsz : t.size ≤ 2097152) (hh : h.size ≤ 2097152) (htab : Tab w) (herr : Err w) :
    Calls Tryz.prog 43 #[.agg #[.string h, .int .i64 op, .int .i64 n, .string s, .slice a len cap, .int .i64 u]] w fun e w' => ∃ op' n' s' a' len' cap' fp, e = .returned (.agg #[.int .i64 op', .int .i64 n', .string s', .slice a' len' cap']) ∧ Own w' (certTm h t u) (tmCells op' n' s' a' len' cap') fp ∧ (fp.Nodup ∧ ∀ x ∈ fp, w.heap.size ≤ x) ∧ Below w.heap.size w w' := by
  cases hc : certB h t u with
  | true =>
    have e : certTm h t u = certT h t u := by unfold certTm; rw [hc]; rfl
    rw [e]
    exact certTI_yes t h op n s a len cap u w hl hc htab herr
  | false =>
    have e : certTm h t u = .node 0 0 ByteArray.empty [] := by unfold certTm; rw [hc]; rfl
    rw [e]
    exact (certTI_no t h op n s a len cap u w hl hsz hh hc).mono fun _ _ ⟨h1, h2⟩ => ⟨_, _, _, _, _, _, [], h1, zero_own _, ⟨by simp, by simp⟩, h2⟩

set_option maxRecDepth 100000 in
theorem set_heap (w : World) (g o : Nat) (x : Value) (b : Nat) (h : b ≠ g) : (w.setCell ⟨g, o, none⟩ x).heap[b]? = w.heap[b]? := Below.heap_setCell _ _ _ _ h

set_option maxRecDepth 100000 in
set_option maxHeartbeats 1000000 in
theorem tpC (t : Tm) (h : ByteArray) (op n : Int) (s : ByteArray) (a : Option Addr) (len cap : Nat) (u : Int) (w : World) (hl : Lies w 0 t (tmCells op n s a len cap)) (hsz : t.size ≤ 2097152) :
    Calls Tryz.prog 42 #[.agg #[.string h, .int .i64 op, .int .i64 n, .string s, .slice a len cap, .int .i64 u]] w fun e w' => ∃ a' fp, e = .returned (.agg #[.string h, .int .i64 op, .int .i64 n, .string s, .slice a' len len, .int .i64 u]) ∧ Own w' t (tmCells op n s a' len len) fp ∧ (fp.Nodup ∧ ∀ x ∈ fp, w.heap.size ≤ x) ∧ Below w.heap.size w w' := by
  have h15 := tp_calls t
  have hb0 : Below w.heap.size w (((w.alloc (.cells #[.string h, .int .i64 op, .int .i64 n, .string s, .slice a len cap, .int .i64 u] 53)).alloc (.cells #[.string ⟨#[]⟩, .int .i64 0, .int .i64 0, .string ⟨#[]⟩, .slice none 0 0, .int .i64 0] 57)).alloc (.cells #[.string h, .int .i64 0, .int .i64 0, .string ⟨#[]⟩, .slice none 0 0, .int .i64 0] 57)) := btC (btC (abC _) (abC _)) (abC _)
  have HL := hide (hl.below hb0)
  have HB0 := hide hb0
  clear hl hb0
  go_enter Tryz.func42, Tryz.ntmps42
  go_wp2_with fail
  refine (h15 op n s a len cap _ (unhide HL) hsz).mono ?_
  rintro e w2 ⟨a2, fp, rfl, hO2, ⟨hnd, hge⟩, hb2⟩
  have HB2 := hide (btC (unhide HB0) hb2)
  have HO2 := hide hO2
  have HND := hide hnd
  obtain ⟨hc, hf⟩ := bcell hb2
  clear hb2 HB0 HL hO2 hnd
  go_wp2_with fail
  simp only [heap_size_alloc] at hge hc
  refine bodyPost_ret (v := .agg #[.string h, .int .i64 op, .int .i64 n, .string s, .slice a2 len len, .int .i64 u]) (by simp [results, Tryz.results42, go_sem, hc]) rfl ⟨_, fp, rfl, ?_, ⟨unhide HND, fun x hx => by have := hge x hx; omega⟩, ?_⟩
  · refine Own.keep _ _ _ (unhide HO2) fun b hb => ?_
    have := hge b hb
    repeat rw [set_heap _ _ _ _ _ (by omega)]
  · repeat refine Below.setCell ?_ (by simp <;> omega) _
    exact unhide HB2

set_option maxRecDepth 100000 in
set_option maxHeartbeats 1000000 in
theorem markC (t : Tm) (h : ByteArray) (op n : Int) (s : ByteArray) (a : Option Addr) (len cap : Nat) (u : Int) (w : World) (fp : List Nat) (ho : Own w t (tmCells op n s a len cap) fp) (hnd : fp.Nodup) (hz : 1 + 3 * t.size ≤ 1099511627776) :
    Calls Tryz.prog 45 #[.agg #[.string h, .int .i64 op, .int .i64 n, .string s, .slice a len cap, .int .i64 u], .int .i64 1] w fun e w' => e = .returned (.int .i64 ((1 + 3 * Tm.sizes t.kids : Nat) : Int)) ∧ Own w' (t.marked 1) (tmCells op n s a len cap) fp ∧ Only fp w w' := by
  have h11 := hide (fun v (ho : Own v t (tmCells op n s a len cap) fp) => mark_any t op n s a len cap 1 v fp ho hnd (Nat.le_refl _) hz)
  have HO := hide (ho.below (abC (.cells #[.string h, .int .i64 op, .int .i64 n, .string s, .slice a len cap, .int .i64 u] 57)))
  have HB := hide (Only.of_below (fp := fp) (abC (w := w) (.cells #[.string h, .int .i64 op, .int .i64 n, .string s, .slice a len cap, .int .i64 u] 57)))
  generalize 1 + 3 * Tm.sizes t.kids = M at *
  clear ho hnd hz
  go_enter Tryz.func45, Tryz.ntmps45
  go_wp2_with fail
  refine (unhide h11 _ (unhide HO)).mono ?_
  rintro e w2 ⟨rfl, k2, o2⟩
  have HK := hide k2
  have HOO := hide ((unhide HB).trans o2)
  clear k2 o2
  go_wp2_with fail
  go_ret
  exact ⟨rfl, unhide HK, unhide HOO⟩

end Go.Proofs.YtmklgikbajhcpaaGreatDoor
