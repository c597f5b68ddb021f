/- The walks at a term with no kids: spec.l3Ok, impl.newTerm, spec.Atom, impl.Atom; nothing that was there is written. -/
import Derived.Test.YtlfnfedklkkjaaaLf
import Derived.Test.YtlfnfedklkkjaaaNw
namespace Go.Proofs.Ytlfnfedklkkjaaa
open Go.RowKit Go.Deep

set_option maxHeartbeats 1000000 in
theorem l3ok_yes (op n : Int) (s : ByteArray) (w : World) (hl : ∀ v, Lies v 0 (.node op n s []) (tmCells op n s none 0 0)) (hok : okT (.node op n s []) = true) :
    Calls Try.prog 26 #[.agg #[.int .i64 op, .int .i64 n, .string s, .slice none 0 0]] w fun e w' => e = .returned (.agg #[.int .i64 op, .int .i64 n, .string s, .slice none 0 0]) ∧ Below w.heap.size w w' := by
  have h8 := hide (ok8 (.node op n s []) op n s none 0 0)
  have HL := hide hl
  have HZ : Hid ((Tm.node op n s []).size ≤ 2097152) := by show _ ≤ _; simp [Tm.size, Tm.sizes]
  rw [hok] at h8
  clear hl hok
  go_enter Try.func26, Try.ntmps26
  go_wp2_with fail
  refine (unhide h8 _ (unhide HL _) (unhide HZ)).mono ?_
  rintro e w2 ⟨rfl, hb2⟩
  have hk : Below w.heap.size w w2 := (((Below.refl w.heap.size w).alloc (Nat.le_refl _) _).alloc (by simp) _).trans (hb2.mono (by simp; omega))
  have HB := hide hk
  obtain ⟨c0, c1, c2, c3, d0, d1, d2, d3, e0, e1, e2, e3⟩ := two_boxes hb2
  clear hb2 hk
  go_wp2_with fail
  refine bodyPost_ret (v := .agg #[.int .i64 op, .int .i64 n, .string s, .slice none 0 0]) (by simp [results, Try.results26, go_sem, d0, d1, d2, d3]) rfl ⟨rfl, ?_⟩
  exact ((((unhide HB).setCell (by show w.heap.size ≤ w.heap.size + 1; omega) _).setCell (by show w.heap.size ≤ w.heap.size + 1; omega) _).setCell (by show w.heap.size ≤ w.heap.size + 1; omega) _).setCell (by show w.heap.size ≤ w.heap.size + 1; omega) _

set_option maxHeartbeats 1000000 in
theorem l3ok_no (op n : Int) (s : ByteArray) (w : World) (hl : ∀ v, Lies v 0 (.node op n s []) (tmCells op n s none 0 0)) (hok : okT (.node op n s []) = false) :
    Calls Try.prog 26 #[.agg #[.int .i64 op, .int .i64 n, .string s, .slice none 0 0]] w fun e w' => e = .returned (.agg #[.int .i64 0, .int .i64 0, .string ByteArray.empty, .slice none 0 0]) ∧ Below w.heap.size w w' := by
  have h8 := hide (ok8 (.node op n s []) op n s none 0 0)
  have HL := hide hl
  have HZ : Hid ((Tm.node op n s []).size ≤ 2097152) := by show _ ≤ _; simp [Tm.size, Tm.sizes]
  rw [hok] at h8
  clear hl hok
  go_enter Try.func26, Try.ntmps26
  go_wp2_with fail
  refine (unhide h8 _ (unhide HL _) (unhide HZ)).mono ?_
  rintro e w2 ⟨rfl, hb2⟩
  have hk : Below w.heap.size w w2 := (((Below.refl w.heap.size w).alloc (Nat.le_refl _) _).alloc (by simp) _).trans (hb2.mono (by simp; omega))
  have HB := hide hk
  obtain ⟨c0, c1, c2, c3, d0, d1, d2, d3, e0, e1, e2, e3⟩ := two_boxes hb2
  clear hb2 hk
  go_wp2_with fail
  refine bodyPost_ret (v := .agg #[.int .i64 0, .int .i64 0, .string ByteArray.empty, .slice none 0 0]) (by simp [results, Try.results26, go_sem, d0, d1, d2, d3]; rfl) rfl ⟨rfl, ?_⟩
  exact ((((unhide HB).setCell (by show w.heap.size ≤ w.heap.size + 1; omega) _).setCell (by show w.heap.size ≤ w.heap.size + 1; omega) _).setCell (by show w.heap.size ≤ w.heap.size + 1; omega) _).setCell (by show w.heap.size ≤ w.heap.size + 1; omega) _

set_option maxHeartbeats 1000000 in
theorem new_yes (op n : Int) (s : ByteArray) (w : World) (hl : ∀ v, Lies v 0 (.node op n s []) (tmCells op n s none 0 0)) (hok : okT (.node op n s []) = true) :
    Calls Try.prog 27 #[.agg #[.int .i64 op, .int .i64 n, .string s, .slice none 0 0]] w fun e w' => e = .returned (.agg #[.int .i64 op, .int .i64 n, .string s, .slice none 0 0]) ∧ Below w.heap.size w w' := by
  have h8 := hide (ok10 (.node op n s []) op n s none 0 0)
  have HL := hide hl
  have HZ : Hid ((Tm.node op n s []).size ≤ 2097152) := by show _ ≤ _; simp [Tm.size, Tm.sizes]
  rw [hok] at h8
  clear hl hok
  go_enter Try.func27, Try.ntmps27
  go_wp2_with fail
  refine (unhide h8 _ (unhide HL _) (unhide HZ)).mono ?_
  rintro e w2 ⟨rfl, hb2⟩
  have hk : Below w.heap.size w w2 := (((Below.refl w.heap.size w).alloc (Nat.le_refl _) _).alloc (by simp) _).trans (hb2.mono (by simp; omega))
  have HB := hide hk
  obtain ⟨c0, c1, c2, c3, d0, d1, d2, d3, e0, e1, e2, e3⟩ := two_boxes hb2
  clear hb2 hk
  go_wp2_with fail
  refine (copy_leaf op n s none 0 _).mono ?_
  rintro e w3 ⟨rfl, hb3⟩
  have d0' := d0
  have d0 := keepc hb3 d0
  have d1 := keepc hb3 d1
  have d2 := keepc hb3 d2
  have d3 := keepc hb3 d3
  have e0 := keepf hb3 (lt_of_cell d0') e0
  have e1 := keepf hb3 (lt_of_cell d0') e1
  have e2 := keepf hb3 (lt_of_cell d0') e2
  have e3 := keepf hb3 (lt_of_cell d0') e3
  have HB := hide ((unhide HB).trans (hb3.mono (unhide HB).size))
  clear hb3 d0'
  go_wp2_with fail
  refine bodyPost_ret (v := .agg #[.int .i64 op, .int .i64 n, .string s, .slice none 0 0]) (by simp [results, Try.results27, go_sem, d0, d1, d2, d3]) rfl ⟨rfl, ?_⟩
  exact ((((unhide HB).setCell (by show w.heap.size ≤ w.heap.size + 1; omega) _).setCell (by show w.heap.size ≤ w.heap.size + 1; omega) _).setCell (by show w.heap.size ≤ w.heap.size + 1; omega) _).setCell (by show w.heap.size ≤ w.heap.size + 1; omega) _

set_option maxHeartbeats 1000000 in
theorem new_no (op n : Int) (s : ByteArray) (w : World) (hl : ∀ v, Lies v 0 (.node op n s []) (tmCells op n s none 0 0)) (hok : okT (.node op n s []) = false) :
    Calls Try.prog 27 #[.agg #[.int .i64 op, .int .i64 n, .string s, .slice none 0 0]] w fun e w' => e = .returned (.agg #[.int .i64 0, .int .i64 0, .string ByteArray.empty, .slice none 0 0]) ∧ Below w.heap.size w w' := by
  have h8 := hide (ok10 (.node op n s []) op n s none 0 0)
  have HL := hide hl
  have HZ : Hid ((Tm.node op n s []).size ≤ 2097152) := by show _ ≤ _; simp [Tm.size, Tm.sizes]
  rw [hok] at h8
  clear hl hok
  go_enter Try.func27, Try.ntmps27
  go_wp2_with fail
  refine (unhide h8 _ (unhide HL _) (unhide HZ)).mono ?_
  rintro e w2 ⟨rfl, hb2⟩
  have hk : Below w.heap.size w w2 := (((Below.refl w.heap.size w).alloc (Nat.le_refl _) _).alloc (by simp) _).trans (hb2.mono (by simp; omega))
  have HB := hide hk
  obtain ⟨c0, c1, c2, c3, d0, d1, d2, d3, e0, e1, e2, e3⟩ := two_boxes hb2
  clear hb2 hk
  go_wp2_with fail
  refine bodyPost_ret (v := .agg #[.int .i64 0, .int .i64 0, .string ByteArray.empty, .slice none 0 0]) (by simp [results, Try.results27, go_sem, d0, d1, d2, d3]; rfl) rfl ⟨rfl, ?_⟩
  exact ((((unhide HB).setCell (by show w.heap.size ≤ w.heap.size + 1; omega) _).setCell (by show w.heap.size ≤ w.heap.size + 1; omega) _).setCell (by show w.heap.size ≤ w.heap.size + 1; omega) _).setCell (by show w.heap.size ≤ w.heap.size + 1; omega) _

theorem one_box {w w2 : World} (hb : Below (w.alloc (.cells #[.int .i64 0, .int .i64 0, .string ByteArray.empty, .slice none 0 0] 24)).heap.size (w.alloc (.cells #[.int .i64 0, .int .i64 0, .string ByteArray.empty, .slice none 0 0] 24)) w2) :
    w2.cell? ⟨w.heap.size, 0, none⟩ = some (.int .i64 0) ∧ w2.cell? ⟨w.heap.size, 1, none⟩ = some (.int .i64 0) ∧ w2.cell? ⟨w.heap.size, 2, none⟩ = some (.string ByteArray.empty) ∧ w2.cell? ⟨w.heap.size, 3, none⟩ = some (.slice none 0 0) ∧
    w2.frozen? ⟨w.heap.size, 0, none⟩ = false ∧ w2.frozen? ⟨w.heap.size, 1, none⟩ = false ∧ w2.frozen? ⟨w.heap.size, 2, none⟩ = false ∧ w2.frozen? ⟨w.heap.size, 3, none⟩ = false := by
  have h1 : w2.heap[w.heap.size]? = some (.cells #[.int .i64 0, .int .i64 0, .string ByteArray.empty, .slice none 0 0] 24) := by
    rw [hb.block _ (by simp)]
    exact heap_alloc_new w _
  exact ⟨cell_of_row h1 (by simp), cell_of_row h1 (by simp), cell_of_row h1 (by simp), cell_of_row h1 (by simp), frozen_of_row h1, frozen_of_row h1, frozen_of_row h1, frozen_of_row h1⟩

def atOp (n : Int) : Int := if okT (.node 1 n ByteArray.empty []) = true then 1 else 0
def atN (n : Int) : Int := if okT (.node 1 n ByteArray.empty []) = true then n else 0
theorem at_wf {n : Int} (h : (Lit.int .i64 n).wf = true) : (Lit.int .i64 (atOp n)).wf = true ∧ (Lit.int .i64 (atN n)).wf = true := by
  unfold atOp atN
  split
  · exact ⟨by decide, h⟩
  · exact ⟨by decide, by decide⟩

/-- What an atom's maker answers: the atom, or the zero term. -/
theorem atom6 (n : Int) (w : World) (hw : (Lit.int .i64 n).wf = true) :
    Calls Try.prog 9 #[.int .i64 n] w fun e w' => e = .returned (.agg #[.int .i64 (atOp n), .int .i64 (atN n), .string ByteArray.empty, .slice none 0 0]) ∧ Below w.heap.size w w' := by
  have hl : ∀ v, Lies v 0 (.node 1 n ByteArray.empty []) (tmCells 1 n ByteArray.empty none 0 0) := fun v => lies_leaf v 1 n ByteArray.empty (by simp [maxLen]) (by decide) hw
  cases hok : okT (.node 1 n ByteArray.empty []) with
  | true =>
    have h := hide (fun v => l3ok_yes 1 n ByteArray.empty v hl hok)
    rw [show atOp n = 1 from by unfold atOp; rw [if_pos hok], show atN n = n from by unfold atN; rw [if_pos hok]]
    clear hl hok
    go_enter Try.func9, Try.ntmps9
    go_wp2_with fail
    refine (unhide h _).mono ?_
    rintro e w2 ⟨rfl, hb2⟩
    have hk : Below w.heap.size w w2 := ((Below.refl w.heap.size w).alloc (Nat.le_refl _) _).trans (hb2.mono (by simp))
    obtain ⟨d0, d1, d2, d3, e0, e1, e2, e3⟩ := one_box hb2
    have HB := hide hk
    clear hb2 hk
    go_wp2_with fail
    refine bodyPost_ret (v := .agg #[.int .i64 1, .int .i64 n, .string ByteArray.empty, .slice none 0 0]) (by simp [results, Try.results9, go_sem, d0, d1, d2, d3]) rfl ⟨rfl, ?_⟩
    exact ((((unhide HB).setCell (Nat.le_refl _) _).setCell (Nat.le_refl _) _).setCell (Nat.le_refl _) _).setCell (Nat.le_refl _) _
  | false =>
    have h := hide (fun v => l3ok_no 1 n ByteArray.empty v hl hok)
    rw [show atOp n = 0 from by unfold atOp; rw [if_neg (by rw [hok]; decide)], show atN n = 0 from by unfold atN; rw [if_neg (by rw [hok]; decide)]]
    clear hl hok
    go_enter Try.func9, Try.ntmps9
    go_wp2_with fail
    refine (unhide h _).mono ?_
    rintro e w2 ⟨rfl, hb2⟩
    have hk : Below w.heap.size w w2 := ((Below.refl w.heap.size w).alloc (Nat.le_refl _) _).trans (hb2.mono (by simp))
    obtain ⟨d0, d1, d2, d3, e0, e1, e2, e3⟩ := one_box hb2
    have HB := hide hk
    clear hb2 hk
    go_wp2_with fail
    refine bodyPost_ret (v := .agg #[.int .i64 0, .int .i64 0, .string ByteArray.empty, .slice none 0 0]) (by simp [results, Try.results9, go_sem, d0, d1, d2, d3]) rfl ⟨rfl, ?_⟩
    exact ((((unhide HB).setCell (Nat.le_refl _) _).setCell (Nat.le_refl _) _).setCell (Nat.le_refl _) _).setCell (Nat.le_refl _) _

/-- What an atom's maker answers: the atom, or the zero term. -/
theorem atom7 (n : Int) (w : World) (hw : (Lit.int .i64 n).wf = true) :
    Calls Try.prog 10 #[.int .i64 n] w fun e w' => e = .returned (.agg #[.int .i64 (atOp n), .int .i64 (atN n), .string ByteArray.empty, .slice none 0 0]) ∧ Below w.heap.size w w' := by
  have hl : ∀ v, Lies v 0 (.node 1 n ByteArray.empty []) (tmCells 1 n ByteArray.empty none 0 0) := fun v => lies_leaf v 1 n ByteArray.empty (by simp [maxLen]) (by decide) hw
  cases hok : okT (.node 1 n ByteArray.empty []) with
  | true =>
    have h := hide (fun v => new_yes 1 n ByteArray.empty v hl hok)
    rw [show atOp n = 1 from by unfold atOp; rw [if_pos hok], show atN n = n from by unfold atN; rw [if_pos hok]]
    clear hl hok
    go_enter Try.func10, Try.ntmps10
    go_wp2_with fail
    refine (unhide h _).mono ?_
    rintro e w2 ⟨rfl, hb2⟩
    have hk : Below w.heap.size w w2 := ((Below.refl w.heap.size w).alloc (Nat.le_refl _) _).trans (hb2.mono (by simp))
    obtain ⟨d0, d1, d2, d3, e0, e1, e2, e3⟩ := one_box hb2
    have HB := hide hk
    clear hb2 hk
    go_wp2_with fail
    refine bodyPost_ret (v := .agg #[.int .i64 1, .int .i64 n, .string ByteArray.empty, .slice none 0 0]) (by simp [results, Try.results10, go_sem, d0, d1, d2, d3]) rfl ⟨rfl, ?_⟩
    exact ((((unhide HB).setCell (Nat.le_refl _) _).setCell (Nat.le_refl _) _).setCell (Nat.le_refl _) _).setCell (Nat.le_refl _) _
  | false =>
    have h := hide (fun v => new_no 1 n ByteArray.empty v hl hok)
    rw [show atOp n = 0 from by unfold atOp; rw [if_neg (by rw [hok]; decide)], show atN n = 0 from by unfold atN; rw [if_neg (by rw [hok]; decide)]]
    clear hl hok
    go_enter Try.func10, Try.ntmps10
    go_wp2_with fail
    refine (unhide h _).mono ?_
    rintro e w2 ⟨rfl, hb2⟩
    have hk : Below w.heap.size w w2 := ((Below.refl w.heap.size w).alloc (Nat.le_refl _) _).trans (hb2.mono (by simp))
    obtain ⟨d0, d1, d2, d3, e0, e1, e2, e3⟩ := one_box hb2
    have HB := hide hk
    clear hb2 hk
    go_wp2_with fail
    refine bodyPost_ret (v := .agg #[.int .i64 0, .int .i64 0, .string ByteArray.empty, .slice none 0 0]) (by simp [results, Try.results10, go_sem, d0, d1, d2, d3]) rfl ⟨rfl, ?_⟩
    exact ((((unhide HB).setCell (Nat.le_refl _) _).setCell (Nat.le_refl _) _).setCell (Nat.le_refl _) _).setCell (Nat.le_refl _) _

end Go.Proofs.Ytlfnfedklkkjaaa
