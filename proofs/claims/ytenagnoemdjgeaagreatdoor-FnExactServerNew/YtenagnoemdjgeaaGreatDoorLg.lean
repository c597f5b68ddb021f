
/- The walks at a term with no kids: spec.l3Ok, impl.newTerm, spec.Atom, impl.Atom; nothing that was there is written. -/
import Derived.Test.YtenagnoemdjgeaaGreatDoorLf
import Derived.Test.YtenagnoemdjgeaaGreatDoorNw
import Derived.Test.YtenagnoemdjgeaaGreatDoorHs
namespace Go.Proofs.YtenagnoemdjgeaaGreatDoor
open Go.RowKit Go.Deep

set_option maxRecDepth 100000 in
set_option maxHeartbeats 1000000 in
theorem l3ok_yes (op n : Int) (s : ByteArray) (w : World) (hl : ∀ v, Lies v 0 (.node op n s []) (tmCells op n s none 0 0)) (hok : okT (.node op n s []) = true) :
    Calls Tryz.prog 112 #[.agg #[.int .i64 op, .int .i64 n, .string s, .slice none 0 0]] w fun e w' => e = .returned (.agg #[.int .i64 op, .int .i64 n, .string s, .slice none 0 0]) ∧ Below w.heap.size w w' := by
  have h8 := hide (ok8 (.node op n s []) op n s none 0 0)
  have HL := hide hl
  have HZ : Hid ((Tm.node op n s []).size ≤ 2097152) := by show _ ≤ _; simp [Tm.size, Tm.sizes]
  rw [hok] at h8
  clear hl hok
  go_enter Tryz.func112, Tryz.ntmps112
  go_wp2_with fail
  refine (unhide h8 _ (unhide HL _) (unhide HZ)).mono ?_
  rintro e w2 ⟨rfl, hb2⟩
  have hk : Below w.heap.size w w2 := (((Below.refl w.heap.size w).alloc (Nat.le_refl _) _).alloc (by simp) _).trans (hb2.mono (by simp; omega))
  have HB := hide hk
  obtain ⟨c0, c1, c2, c3, d0, d1, d2, d3, e0, e1, e2, e3⟩ := two_boxes hb2
  clear hb2 hk
  go_wp2_with fail
  refine bodyPost_ret (v := .agg #[.int .i64 op, .int .i64 n, .string s, .slice none 0 0]) (by simp [results, Tryz.results112, go_sem, d0, d1, d2, d3]) rfl ⟨rfl, ?_⟩
  exact ((((unhide HB).setCell (by show w.heap.size ≤ w.heap.size + 1; omega) _).setCell (by show w.heap.size ≤ w.heap.size + 1; omega) _).setCell (by show w.heap.size ≤ w.heap.size + 1; omega) _).setCell (by show w.heap.size ≤ w.heap.size + 1; omega) _

set_option maxRecDepth 100000 in
set_option maxHeartbeats 1000000 in
theorem l3ok_no (op n : Int) (s : ByteArray) (w : World) (hl : ∀ v, Lies v 0 (.node op n s []) (tmCells op n s none 0 0)) (hok : okT (.node op n s []) = false) :
    Calls Tryz.prog 112 #[.agg #[.int .i64 op, .int .i64 n, .string s, .slice none 0 0]] w fun e w' => e = .returned (.agg #[.int .i64 0, .int .i64 0, .string ByteArray.empty, .slice none 0 0]) ∧ Below w.heap.size w w' := by
  have h8 := hide (ok8 (.node op n s []) op n s none 0 0)
  have HL := hide hl
  have HZ : Hid ((Tm.node op n s []).size ≤ 2097152) := by show _ ≤ _; simp [Tm.size, Tm.sizes]
  rw [hok] at h8
  clear hl hok
  go_enter Tryz.func112, Tryz.ntmps112
  go_wp2_with fail
  refine (unhide h8 _ (unhide HL _) (unhide HZ)).mono ?_
  rintro e w2 ⟨rfl, hb2⟩
  have hk : Below w.heap.size w w2 := (((Below.refl w.heap.size w).alloc (Nat.le_refl _) _).alloc (by simp) _).trans (hb2.mono (by simp; omega))
  have HB := hide hk
  obtain ⟨c0, c1, c2, c3, d0, d1, d2, d3, e0, e1, e2, e3⟩ := two_boxes hb2
  clear hb2 hk
  go_wp2_with fail
  refine bodyPost_ret (v := .agg #[.int .i64 0, .int .i64 0, .string ByteArray.empty, .slice none 0 0]) (by simp [results, Tryz.results112, go_sem, d0, d1, d2, d3]; rfl) rfl ⟨rfl, ?_⟩
  exact ((((unhide HB).setCell (by show w.heap.size ≤ w.heap.size + 1; omega) _).setCell (by show w.heap.size ≤ w.heap.size + 1; omega) _).setCell (by show w.heap.size ≤ w.heap.size + 1; omega) _).setCell (by show w.heap.size ≤ w.heap.size + 1; omega) _

set_option maxRecDepth 100000 in
set_option maxHeartbeats 1000000 in
/-- impl.answer of a term with no kids, where there is no error: the same, and true. -/
theorem answer_leaf (op n : Int) (s : ByteArray) (x : Addr) (w : World) (he : ErrAt x w) (hll : ∀ v, Lies v 0 (.node op n s []) (tmCells op n s none 0 0)) (hsz0 : s.size ≤ 4194303) :
    Calls Tryz.prog 78 #[.agg #[.int .i64 op, .int .i64 n, .string s, .slice none 0 0], .nilIface] w fun e w' => e = .returned (.tuple #[.agg #[.int .i64 op, .int .i64 n, .string s, .slice none 0 0], .bool true]) ∧ Below w.heap.size w w' := by
  have h45 := hide (is_nil x)
  have HLL := hide hll
  clear hll
  have hB0 : Below w.heap.size w ((w.alloc (.cells #[.int .i64 op, .int .i64 n, .string s, .slice none 0 0] 24)).alloc (.cells #[.int .i64 0, .int .i64 0, .string ⟨#[]⟩, .slice none 0 0] 24)) := ((Below.refl w.heap.size w).alloc (Nat.le_refl _) _).alloc (by simp) _
  have HB := hide hB0
  have g0 := (he.on hB0).cell
  clear he hB0
  obtain ⟨c0, c1, c2, c3, d0, d1, d2, d3, e0, e1, e2, e3⟩ := two_boxes_at w op n s none 0 0
  have HG : Hid (w.heap.size + 2 = ((w.alloc (.cells #[.int .i64 op, .int .i64 n, .string s, .slice none 0 0] 24)).alloc (.cells #[.int .i64 0, .int .i64 0, .string ⟨#[]⟩, .slice none 0 0] 24)).heap.size) := by show _ = _; simp
  go_enter Tryz.func78, Tryz.ntmps78
  go_wp2_with fail
  refine (unhide h45 _).mono ?_
  rintro e w2 ⟨rfl, rfl⟩
  generalize (w.alloc (.cells #[.int .i64 op, .int .i64 n, .string s, .slice none 0 0] 24)).alloc (.cells #[.int .i64 0, .int .i64 0, .string ⟨#[]⟩, .slice none 0 0] 24) = v at *
  go_wp2_with fail
  refine (copy_leaf op n s none 0 _ (unhide HLL _) hsz0).mono ?_
  rintro e w3 ⟨rfl, hb3⟩
  have d0' := d0
  have d0 := keepc hb3 d0
  have d1 := keepc hb3 d1
  have d2 := keepc hb3 d2
  have d3 := keepc hb3 d3
  have e0 := keepf hb3 (lt_of_cell d0') e0
  have e1 := keepf hb3 (lt_of_cell d0') e1
  have e2 := keepf hb3 (lt_of_cell d0') e2
  have e3 := keepf hb3 (lt_of_cell d0') e3
  have HB3 := hide ((unhide HB).trans (hb3.mono (unhide HB).size))
  clear hb3 d0' c0 c1 c2 c3 g0
  go_wp2_with fail
  exact bodyPost_ret (v := .tuple #[.agg #[.int .i64 op, .int .i64 n, .string s, .slice none 0 0], .bool true]) (by simp [results, Tryz.results78, go_sem, d0, d1, d2, d3]) rfl ⟨rfl, set4_below (unhide HB3) (by omega)⟩

set_option maxRecDepth 100000 in
set_option maxHeartbeats 1000000 in
theorem new_yes (op n : Int) (s : ByteArray) (w : World) (hl : ∀ v, Lies v 0 (.node op n s []) (tmCells op n s none 0 0)) (hok : okT (.node op n s []) = true) (herr : Err w) :
    Calls Tryz.prog 101 #[.agg #[.int .i64 op, .int .i64 n, .string s, .slice none 0 0]] w fun e w' => e = .returned (.agg #[.int .i64 op, .int .i64 n, .string s, .slice none 0 0]) ∧ Below w.heap.size w w' := by
  have hsz : (Tm.node op n s []).size ≤ 2097152 := by simp [Tm.size, Tm.sizes]
  obtain ⟨x, he⟩ := herr
  have hB0 : Below w.heap.size w ((w.alloc (.cells #[.int .i64 op, .int .i64 n, .string s, .slice none 0 0] 24)).alloc (.cells #[.int .i64 0, .int .i64 0, .string ⟨#[]⟩, .slice none 0 0] 24)) := ((Below.refl w.heap.size w).alloc (Nat.le_refl _) _).alloc (by simp) _
  have HL := hide (hl ((w.alloc (.cells #[.int .i64 op, .int .i64 n, .string s, .slice none 0 0] 24)).alloc (.cells #[.int .i64 0, .int .i64 0, .string ⟨#[]⟩, .slice none 0 0] 24)))
  have HB0 := hide hB0
  have HE := hide (he.on hB0)
  have HG : Hid (w.heap.size + 2 = ((w.alloc (.cells #[.int .i64 op, .int .i64 n, .string s, .slice none 0 0] 24)).alloc (.cells #[.int .i64 0, .int .i64 0, .string ⟨#[]⟩, .slice none 0 0] 24)).heap.size) := by show _ = _; simp
  obtain ⟨c0, c1, c2, c3, d0, d1, d2, d3, e0, e1, e2, e3⟩ := two_boxes_at w op n s none 0 0
  have HR : Hid (RowT 24 ((w.alloc (.cells #[.int .i64 op, .int .i64 n, .string s, .slice none 0 0] 24)).alloc (.cells #[.int .i64 0, .int .i64 0, .string ⟨#[]⟩, .slice none 0 0] 24)) (w.heap.size + 1) 0 0 ⟨#[]⟩ none 0 0) := by
    have := RowT.new 24 (w.alloc (.cells #[.int .i64 op, .int .i64 n, .string s, .slice none 0 0] 24)) 0 0 ⟨#[]⟩ none 0 0
    rwa [heap_size_alloc] at this
  have HLL := hide hl
  clear hl he hB0 d0 d1 d2 d3 e0 e1 e2 e3
  have h39 := hide fun v h => checked_yes (.node op n s []) op n s none 0 0 v h hsz hok
  have h38 := hide fun v he => answer_leaf op n s x v he (unhide HLL) (by have := okT_small hok; simp only [Tm.size, Tm.wt] at this; omega)
  clear hok
  go_enter Tryz.func101, Tryz.ntmps101
  go_wp2_with fail
  generalize (w.alloc (.cells #[.int .i64 op, .int .i64 n, .string s, .slice none 0 0] 24)).alloc (.cells #[.int .i64 0, .int .i64 0, .string ⟨#[]⟩, .slice none 0 0] 24) = v at *
  refine (unhide h39 _ (unhide HL)).mono ?_
  rintro e w2 ⟨rfl, hb2⟩
  have HB2 := hide ((unhide HB0).trans (hb2.mono (unhide HB0).size))
  have HL2 := hide ((unhide HL).below hb2)
  have HE2 := hide ((unhide HE).on hb2)
  have HG2 : Hid (w.heap.size + 2 ≤ w2.heap.size) := by have := hb2.size; have := unhide HG; show _ ≤ _; omega
  have HR2 := hide ((unhide HR).below hb2)
  clear hb2 HR HB0 HL HE HG c0 c1 c2 c3
  go_wp2_with fail
  refine (unhide h38 _ (unhide HE2)).mono ?_
  rintro e w3 ⟨rfl, hb3⟩
  have HB3 := hide ((unhide HB2).trans (hb3.mono (unhide HB2).size))
  have HG3 : Hid (w.heap.size + 2 ≤ w3.heap.size) := by have := hb3.size; have := unhide HG2; show _ ≤ _; omega
  have HR3 := hide ((unhide HR2).below hb3)
  obtain ⟨d0, d1, d2, d3⟩ := (unhide HR3).facts
  obtain ⟨e0, e1, e2, e3⟩ := (unhide HR3).frozen
  have hlt : w.heap.size + 1 < w3.heap.size := by have := unhide HG3; omega
  have hne := Nat.ne_of_lt hlt
  have hne' := Ne.symm hne
  clear hb3 HR2 HB2 HL2 HE2
  go_wp2_with fail
  have HF := hide (((unhide HR3).fill op n s none 0 0).below ((Below.refl _ _).alloc (Nat.le_refl _) (.cells #[.int .i64 op, .int .i64 n, .string s, .slice none 0 0] 24)))
  obtain ⟨f0, f1, f2, f3⟩ := (unhide HF).facts
  have hS := set4_below (g := w.heap.size + 1) (x0 := .int .i64 op) (x1 := .int .i64 n) (x2 := .string s) (x3 := .slice none 0 0) (unhide HB3) (by omega)
  exact bodyPost_ret (v := .agg #[.int .i64 op, .int .i64 n, .string s, .slice none 0 0]) (by simp [results, Tryz.results101, go_sem, f0, f1, f2, f3]) rfl ⟨rfl, hS.alloc hS.size _⟩

set_option maxRecDepth 100000 in
set_option maxHeartbeats 1000000 in
theorem new_no (op n : Int) (s : ByteArray) (w : World) (hl : ∀ v, Lies v 0 (.node op n s []) (tmCells op n s none 0 0)) (hok : okT (.node op n s []) = false) (herr : Err w) :
    Calls Tryz.prog 101 #[.agg #[.int .i64 op, .int .i64 n, .string s, .slice none 0 0]] w fun e w' => e = .returned (.agg #[.int .i64 0, .int .i64 0, .string ByteArray.empty, .slice none 0 0]) ∧ Below w.heap.size w w' := by
  have hsz : (Tm.node op n s []).size ≤ 2097152 := by simp [Tm.size, Tm.sizes]
  obtain ⟨x, he⟩ := herr
  have hB0 : Below w.heap.size w ((w.alloc (.cells #[.int .i64 op, .int .i64 n, .string s, .slice none 0 0] 24)).alloc (.cells #[.int .i64 0, .int .i64 0, .string ⟨#[]⟩, .slice none 0 0] 24)) := ((Below.refl w.heap.size w).alloc (Nat.le_refl _) _).alloc (by simp) _
  have HL := hide (hl ((w.alloc (.cells #[.int .i64 op, .int .i64 n, .string s, .slice none 0 0] 24)).alloc (.cells #[.int .i64 0, .int .i64 0, .string ⟨#[]⟩, .slice none 0 0] 24)))
  have HB0 := hide hB0
  have HE := hide (he.on hB0)
  have HG : Hid (w.heap.size + 2 = ((w.alloc (.cells #[.int .i64 op, .int .i64 n, .string s, .slice none 0 0] 24)).alloc (.cells #[.int .i64 0, .int .i64 0, .string ⟨#[]⟩, .slice none 0 0] 24)).heap.size) := by show _ = _; simp
  obtain ⟨c0, c1, c2, c3, d0, d1, d2, d3, e0, e1, e2, e3⟩ := two_boxes_at w op n s none 0 0
  have HR : Hid (RowT 24 ((w.alloc (.cells #[.int .i64 op, .int .i64 n, .string s, .slice none 0 0] 24)).alloc (.cells #[.int .i64 0, .int .i64 0, .string ⟨#[]⟩, .slice none 0 0] 24)) (w.heap.size + 1) 0 0 ⟨#[]⟩ none 0 0) := by
    have := RowT.new 24 (w.alloc (.cells #[.int .i64 op, .int .i64 n, .string s, .slice none 0 0] 24)) 0 0 ⟨#[]⟩ none 0 0
    rwa [heap_size_alloc] at this
  clear hl he hB0 d0 d1 d2 d3 e0 e1 e2 e3
  have h39 := hide fun v h he => checked_no (.node op n s []) op n s none 0 0 x v h hsz hok he
  have h38 := hide fun v he => answer_no 0 0 ByteArray.empty none 0 0 x v he
  clear hok
  go_enter Tryz.func101, Tryz.ntmps101
  go_wp2_with fail
  generalize (w.alloc (.cells #[.int .i64 op, .int .i64 n, .string s, .slice none 0 0] 24)).alloc (.cells #[.int .i64 0, .int .i64 0, .string ⟨#[]⟩, .slice none 0 0] 24) = v at *
  refine (unhide h39 _ (unhide HL) (unhide HE)).mono ?_
  rintro e w2 ⟨rfl, hb2⟩
  have HB2 := hide ((unhide HB0).trans (hb2.mono (unhide HB0).size))
  have HE2 := hide ((unhide HE).on hb2)
  have HG2 : Hid (w.heap.size + 2 ≤ w2.heap.size) := by have := hb2.size; have := unhide HG; show _ ≤ _; omega
  have HR2 := hide ((unhide HR).below hb2)
  clear hb2 HR HB0 HL HE HG c0 c1 c2 c3
  go_wp2_with fail
  refine (unhide h38 _ (unhide HE2)).mono ?_
  rintro e w3 ⟨rfl, hb3⟩
  have HB3 := hide ((unhide HB2).trans (hb3.mono (unhide HB2).size))
  have HG3 : Hid (w.heap.size + 2 ≤ w3.heap.size) := by have := hb3.size; have := unhide HG2; show _ ≤ _; omega
  have HR3 := hide ((unhide HR2).below hb3)
  obtain ⟨d0, d1, d2, d3⟩ := (unhide HR3).facts
  obtain ⟨e0, e1, e2, e3⟩ := (unhide HR3).frozen
  have hlt : w.heap.size + 1 < w3.heap.size := by have := unhide HG3; omega
  have hne := Nat.ne_of_lt hlt
  have hne' := Ne.symm hne
  clear hb3 HR2 HB2 HE2
  go_wp2_with fail
  have HF := hide (((unhide HR3).fill 0 0 ByteArray.empty none 0 0).below ((Below.refl _ _).alloc (Nat.le_refl _) (.cells #[.int .i64 0, .int .i64 0, .string ByteArray.empty, .slice none 0 0] 24)))
  obtain ⟨f0, f1, f2, f3⟩ := (unhide HF).facts
  have hS := set4_below (g := w.heap.size + 1) (x0 := .int .i64 0) (x1 := .int .i64 0) (x2 := .string ByteArray.empty) (x3 := .slice none 0 0) (unhide HB3) (by omega)
  exact bodyPost_ret (v := .agg #[.int .i64 0, .int .i64 0, .string ByteArray.empty, .slice none 0 0]) (by simp [results, Tryz.results101, go_sem, f0, f1, f2, f3]; try rfl) rfl ⟨rfl, hS.alloc hS.size _⟩

set_option maxRecDepth 100000 in
theorem one_box {w w2 : World} (hb : Below (w.alloc (.cells #[.int .i64 0, .int .i64 0, .string ByteArray.empty, .slice none 0 0] 24)).heap.size (w.alloc (.cells #[.int .i64 0, .int .i64 0, .string ByteArray.empty, .slice none 0 0] 24)) w2) :
    w2.cell? ⟨w.heap.size, 0, none⟩ = some (.int .i64 0) ∧ w2.cell? ⟨w.heap.size, 1, none⟩ = some (.int .i64 0) ∧ w2.cell? ⟨w.heap.size, 2, none⟩ = some (.string ByteArray.empty) ∧ w2.cell? ⟨w.heap.size, 3, none⟩ = some (.slice none 0 0) ∧
    w2.frozen? ⟨w.heap.size, 0, none⟩ = false ∧ w2.frozen? ⟨w.heap.size, 1, none⟩ = false ∧ w2.frozen? ⟨w.heap.size, 2, none⟩ = false ∧ w2.frozen? ⟨w.heap.size, 3, none⟩ = false := by
  have h1 : w2.heap[w.heap.size]? = some (.cells #[.int .i64 0, .int .i64 0, .string ByteArray.empty, .slice none 0 0] 24) := by
    rw [hb.block _ (by simp)]
    exact heap_alloc_new w _
  exact ⟨cell_of_row h1 (by simp), cell_of_row h1 (by simp), cell_of_row h1 (by simp), cell_of_row h1 (by simp), frozen_of_row h1, frozen_of_row h1, frozen_of_row h1, frozen_of_row h1⟩

def atOp (n : Int) : Int := if okT (.node 1 n ByteArray.empty []) = true then 1 else 0
def atN (n : Int) : Int := if okT (.node 1 n ByteArray.empty []) = true then n else 0
set_option maxRecDepth 100000 in
theorem at_wf {n : Int} (h : (Lit.int .i64 n).wf = true) : (Lit.int .i64 (atOp n)).wf = true ∧ (Lit.int .i64 (atN n)).wf = true := by
  unfold atOp atN
  split
  · exact ⟨by decide, h⟩
  · exact ⟨by decide, by decide⟩

set_option maxRecDepth 100000 in
theorem atom6 (n : Int) (w : World) (hw : (Lit.int .i64 n).wf = true) :
    Calls Tryz.prog 54 #[.int .i64 n] w fun e w' => e = .returned (.agg #[.int .i64 (atOp n), .int .i64 (atN n), .string ByteArray.empty, .slice none 0 0]) ∧ Below w.heap.size w w' := by
  have hl : ∀ v, Lies v 0 (.node 1 n ByteArray.empty []) (tmCells 1 n ByteArray.empty none 0 0) := fun v => lies_leaf v 1 n ByteArray.empty (by simp [maxLen]) (by decide) hw
  cases hok : okT (.node 1 n ByteArray.empty []) with
  | true =>
    have h := hide (fun v => l3ok_yes 1 n ByteArray.empty v hl hok)
    rw [show atOp n = 1 from by unfold atOp; rw [if_pos hok], show atN n = n from by unfold atN; rw [if_pos hok]]
    clear hl hok
    go_enter Tryz.func54, Tryz.ntmps54
    go_wp2_with fail
    refine (unhide h _).mono ?_
    rintro e w2 ⟨rfl, hb2⟩
    have hk : Below w.heap.size w w2 := ((Below.refl w.heap.size w).alloc (Nat.le_refl _) _).trans (hb2.mono (by simp))
    obtain ⟨d0, d1, d2, d3, e0, e1, e2, e3⟩ := one_box hb2
    have HB := hide hk
    clear hb2 hk
    go_wp2_with fail
    refine bodyPost_ret (v := .agg #[.int .i64 1, .int .i64 n, .string ByteArray.empty, .slice none 0 0]) (by simp [results, Tryz.results54, go_sem, d0, d1, d2, d3]) rfl ⟨rfl, ?_⟩
    exact ((((unhide HB).setCell (Nat.le_refl _) _).setCell (Nat.le_refl _) _).setCell (Nat.le_refl _) _).setCell (Nat.le_refl _) _
  | false =>
    have h := hide (fun v => l3ok_no 1 n ByteArray.empty v hl hok)
    rw [show atOp n = 0 from by unfold atOp; rw [if_neg (by rw [hok]; decide)], show atN n = 0 from by unfold atN; rw [if_neg (by rw [hok]; decide)]]
    clear hl hok
    go_enter Tryz.func54, Tryz.ntmps54
    go_wp2_with fail
    refine (unhide h _).mono ?_
    rintro e w2 ⟨rfl, hb2⟩
    have hk : Below w.heap.size w w2 := ((Below.refl w.heap.size w).alloc (Nat.le_refl _) _).trans (hb2.mono (by simp))
    obtain ⟨d0, d1, d2, d3, e0, e1, e2, e3⟩ := one_box hb2
    have HB := hide hk
    clear hb2 hk
    go_wp2_with fail
    refine bodyPost_ret (v := .agg #[.int .i64 0, .int .i64 0, .string ByteArray.empty, .slice none 0 0]) (by simp [results, Tryz.results54, go_sem, d0, d1, d2, d3]) rfl ⟨rfl, ?_⟩
    exact ((((unhide HB).setCell (Nat.le_refl _) _).setCell (Nat.le_refl _) _).setCell (Nat.le_refl _) _).setCell (Nat.le_refl _) _

set_option maxRecDepth 100000 in
theorem atom7 (n : Int) (w : World) (hw : (Lit.int .i64 n).wf = true) (herr : Err w) :
    Calls Tryz.prog 56 #[.int .i64 n] w fun e w' => e = .returned (.agg #[.int .i64 (atOp n), .int .i64 (atN n), .string ByteArray.empty, .slice none 0 0]) ∧ Below w.heap.size w w' := by
  have HER := hide (herr.on (ab (.cells #[.int .i64 0, .int .i64 0, .string ByteArray.empty, .slice none 0 0] 24)))
  clear herr
  have hl : ∀ v, Lies v 0 (.node 1 n ByteArray.empty []) (tmCells 1 n ByteArray.empty none 0 0) := fun v => lies_leaf v 1 n ByteArray.empty (by simp [maxLen]) (by decide) hw
  cases hok : okT (.node 1 n ByteArray.empty []) with
  | true =>
    have h := hide (fun v he => new_yes 1 n ByteArray.empty v hl hok he)
    rw [show atOp n = 1 from by unfold atOp; rw [if_pos hok], show atN n = n from by unfold atN; rw [if_pos hok]]
    clear hl hok
    go_enter Tryz.func56, Tryz.ntmps56
    go_wp2_with fail
    refine (unhide h _ (unhide HER)).mono ?_
    rintro e w2 ⟨rfl, hb2⟩
    have hk : Below w.heap.size w w2 := ((Below.refl w.heap.size w).alloc (Nat.le_refl _) _).trans (hb2.mono (by simp))
    obtain ⟨d0, d1, d2, d3, e0, e1, e2, e3⟩ := one_box hb2
    have HB := hide hk
    clear hb2 hk
    go_wp2_with fail
    refine bodyPost_ret (v := .agg #[.int .i64 1, .int .i64 n, .string ByteArray.empty, .slice none 0 0]) (by simp [results, Tryz.results56, go_sem, d0, d1, d2, d3]) rfl ⟨rfl, ?_⟩
    exact ((((unhide HB).setCell (Nat.le_refl _) _).setCell (Nat.le_refl _) _).setCell (Nat.le_refl _) _).setCell (Nat.le_refl _) _
  | false =>
    have h := hide (fun v he => new_no 1 n ByteArray.empty v hl hok he)
    rw [show atOp n = 0 from by unfold atOp; rw [if_neg (by rw [hok]; decide)], show atN n = 0 from by unfold atN; rw [if_neg (by rw [hok]; decide)]]
    clear hl hok
    go_enter Tryz.func56, Tryz.ntmps56
    go_wp2_with fail
    refine (unhide h _ (unhide HER)).mono ?_
    rintro e w2 ⟨rfl, hb2⟩
    have hk : Below w.heap.size w w2 := ((Below.refl w.heap.size w).alloc (Nat.le_refl _) _).trans (hb2.mono (by simp))
    obtain ⟨d0, d1, d2, d3, e0, e1, e2, e3⟩ := one_box hb2
    have HB := hide hk
    clear hb2 hk
    go_wp2_with fail
    refine bodyPost_ret (v := .agg #[.int .i64 0, .int .i64 0, .string ByteArray.empty, .slice none 0 0]) (by simp [results, Tryz.results56, go_sem, d0, d1, d2, d3]) rfl ⟨rfl, ?_⟩
    exact ((((unhide HB).setCell (Nat.le_refl _) _).setCell (Nat.le_refl _) _).setCell (Nat.le_refl _) _).setCell (Nat.le_refl _) _

end Go.Proofs.YtenagnoemdjgeaaGreatDoor
