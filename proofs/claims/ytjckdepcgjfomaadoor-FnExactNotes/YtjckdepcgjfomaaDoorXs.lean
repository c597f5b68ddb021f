/- The text of a note: the walk of spec.NoteText, a theorem for each kind. -/
import Derived.Test.YtjckdepcgjfomaaDoorXa
namespace Go.Proofs.YtjckdepcgjfomaaDoor
open Go.RowKit Go.Deep

/-- The words of a note. -/
def wordsN (k h : Int) (d : ByteArray) (b t : Int) : List ByteArray := if k = 1 then [⟨#[116, 97, 107, 101]⟩, dig h, d, dig b] else if k = 2 then [⟨#[116, 114, 121]⟩, dig h, dig t] else if k = 3 then [⟨#[103, 111, 110, 101]⟩, dig h] else [⟨#[98, 97, 99, 107]⟩, dig h]
/-- The text of a note. -/
noncomputable def textN (k h : Int) (d : ByteArray) (b t : Int) : ByteArray := if noteB k h d b t = true then lineT (wordsN k h d b t) else ⟨#[]⟩
theorem note_cases {k h : Int} {d : ByteArray} {b t : Int} (ok : noteB k h d b t = true) : (0 ≤ h ∧ h ≤ 29) ∧ ((k = 1 ∧ d.size ≤ 10 ∧ (0 ≤ b ∧ b ≤ 1000000) ∧ t = 0) ∨ (k = 2 ∧ d = ⟨#[]⟩ ∧ b = 0 ∧ (0 ≤ t ∧ t ≤ 100000)) ∨ (k = 3 ∧ d = ⟨#[]⟩ ∧ b = 0 ∧ t = 0) ∨ (k = 4 ∧ d = ⟨#[]⟩ ∧ b = 0 ∧ t = 0)) := by
  unfold noteB at ok
  rw [Bool.and_eq_true, decide_eq_true_iff] at ok
  refine ⟨ok.1, ?_⟩
  have h2 := ok.2
  by_cases q1 : k = 1
  · subst q1
    rw [named1, Bool.and_eq_true, Bool.and_eq_true, decide_eq_true_iff, decide_eq_true_iff] at h2
    exact Or.inl ⟨rfl, (domB_iff.1 h2.1).1.2, h2.2.1, h2.2.2⟩
  · by_cases q2 : k = 2
    · subst q2
      rw [named2, Bool.and_eq_true, Bool.and_eq_true, decide_eq_true_iff, decide_eq_true_iff, decide_eq_true_iff] at h2
      exact Or.inr (Or.inl ⟨rfl, empty_of_size h2.1, h2.2.1, h2.2.2⟩)
    · by_cases q34 : k = 3 ∨ k = 4
      · rw [named34 q34, Bool.and_eq_true, Bool.and_eq_true, decide_eq_true_iff, decide_eq_true_iff, decide_eq_true_iff] at h2
        rcases q34 with rfl | rfl
        · exact Or.inr (Or.inr (Or.inl ⟨rfl, empty_of_size h2.1, h2.2.1, h2.2.2⟩))
        · exact Or.inr (Or.inr (Or.inr ⟨rfl, empty_of_size h2.1, h2.2.1, h2.2.2⟩))
      · rw [named_no (by omega)] at h2
        cases h2
theorem add_ex (x y : ByteArray) (h : x.size + y.size ≤ 4096) : ∃ A : ByteArray, (∀ w, (Op.stringOp .add x y).run Tryd.prog w = .ok (.string A) w) ∧ A = x ++ y :=
  ⟨x ++ y, fun w => run_string_add_sum _ _ _ (by omega), rfl⟩
theorem drewA {w v : World} {x : Obj} (h : Below (w.drew.alloc x).heap.size (w.drew.alloc x) v) : Below w.heap.size w v := btP ((Below.refl _ w).drew) (btP (abP x) h)
theorem drewB {w v : World} (h : Below w.drew.heap.size w.drew v) : Below w.heap.size w v := ((Below.refl _ _).drew).trans h

theorem chain4 (W0 W1 W2 W3 : ByteArray) (s0 : W0.size ≤ 64) (s1 : W1.size ≤ 64) (s2 : W2.size ≤ 64) (s3 : W3.size ≤ 64) : ∃ A1 A2 A3 A4 A5 A6 A7 : ByteArray, (∀ w, (Op.stringOp .add W0 (⟨#[32]⟩ : ByteArray)).run Tryd.prog w = .ok (.string A1) w) ∧ (∀ w, (Op.stringOp .add A1 W1).run Tryd.prog w = .ok (.string A2) w) ∧ (∀ w, (Op.stringOp .add A2 (⟨#[32]⟩ : ByteArray)).run Tryd.prog w = .ok (.string A3) w) ∧ (∀ w, (Op.stringOp .add A3 W2).run Tryd.prog w = .ok (.string A4) w) ∧ (∀ w, (Op.stringOp .add A4 (⟨#[32]⟩ : ByteArray)).run Tryd.prog w = .ok (.string A5) w) ∧ (∀ w, (Op.stringOp .add A5 W3).run Tryd.prog w = .ok (.string A6) w) ∧ (∀ w, (Op.stringOp .add A6 (⟨#[10]⟩ : ByteArray)).run Tryd.prog w = .ok (.string A7) w) ∧ Hid (A7 = lineT [W0, W1, W2, W3]) := by
  have hs : (⟨#[32]⟩ : ByteArray).size = 1 := rfl
  have hn : (⟨#[10]⟩ : ByteArray).size = 1 := rfl
  obtain ⟨A1, rA1, eA1⟩ := add_ex W0 (⟨#[32]⟩ : ByteArray) (by omega)
  obtain ⟨A2, rA2, eA2⟩ := add_ex A1 W1 (by simp only [eA1, ByteArray.size_append]; omega)
  obtain ⟨A3, rA3, eA3⟩ := add_ex A2 (⟨#[32]⟩ : ByteArray) (by simp only [eA1, eA2, ByteArray.size_append]; omega)
  obtain ⟨A4, rA4, eA4⟩ := add_ex A3 W2 (by simp only [eA1, eA2, eA3, ByteArray.size_append]; omega)
  obtain ⟨A5, rA5, eA5⟩ := add_ex A4 (⟨#[32]⟩ : ByteArray) (by simp only [eA1, eA2, eA3, eA4, ByteArray.size_append]; omega)
  obtain ⟨A6, rA6, eA6⟩ := add_ex A5 W3 (by simp only [eA1, eA2, eA3, eA4, eA5, ByteArray.size_append]; omega)
  obtain ⟨A7, rA7, eA7⟩ := add_ex A6 (⟨#[10]⟩ : ByteArray) (by simp only [eA1, eA2, eA3, eA4, eA5, eA6, ByteArray.size_append]; omega)
  refine ⟨A1, A2, A3, A4, A5, A6, A7, rA1, rA2, rA3, rA4, rA5, rA6, rA7, ?_⟩
  show A7 = _
  rw [eA7, eA6, eA5, eA4, eA3, eA2, eA1]
  apply Go.WideShapes.bytes_inj
  simp [lineT, joinT, joinW, Lib.join, List.intercalate, List.intersperse]

theorem chain3 (W0 W1 W2 : ByteArray) (s0 : W0.size ≤ 64) (s1 : W1.size ≤ 64) (s2 : W2.size ≤ 64) : ∃ A1 A2 A3 A4 A5 : ByteArray, (∀ w, (Op.stringOp .add W0 (⟨#[32]⟩ : ByteArray)).run Tryd.prog w = .ok (.string A1) w) ∧ (∀ w, (Op.stringOp .add A1 W1).run Tryd.prog w = .ok (.string A2) w) ∧ (∀ w, (Op.stringOp .add A2 (⟨#[32]⟩ : ByteArray)).run Tryd.prog w = .ok (.string A3) w) ∧ (∀ w, (Op.stringOp .add A3 W2).run Tryd.prog w = .ok (.string A4) w) ∧ (∀ w, (Op.stringOp .add A4 (⟨#[10]⟩ : ByteArray)).run Tryd.prog w = .ok (.string A5) w) ∧ Hid (A5 = lineT [W0, W1, W2]) := by
  have hs : (⟨#[32]⟩ : ByteArray).size = 1 := rfl
  have hn : (⟨#[10]⟩ : ByteArray).size = 1 := rfl
  obtain ⟨A1, rA1, eA1⟩ := add_ex W0 (⟨#[32]⟩ : ByteArray) (by omega)
  obtain ⟨A2, rA2, eA2⟩ := add_ex A1 W1 (by simp only [eA1, ByteArray.size_append]; omega)
  obtain ⟨A3, rA3, eA3⟩ := add_ex A2 (⟨#[32]⟩ : ByteArray) (by simp only [eA1, eA2, ByteArray.size_append]; omega)
  obtain ⟨A4, rA4, eA4⟩ := add_ex A3 W2 (by simp only [eA1, eA2, eA3, ByteArray.size_append]; omega)
  obtain ⟨A5, rA5, eA5⟩ := add_ex A4 (⟨#[10]⟩ : ByteArray) (by simp only [eA1, eA2, eA3, eA4, ByteArray.size_append]; omega)
  refine ⟨A1, A2, A3, A4, A5, rA1, rA2, rA3, rA4, rA5, ?_⟩
  show A5 = _
  rw [eA5, eA4, eA3, eA2, eA1]
  apply Go.WideShapes.bytes_inj
  simp [lineT, joinT, joinW, Lib.join, List.intercalate, List.intersperse]

theorem chain2 (W0 W1 : ByteArray) (s0 : W0.size ≤ 64) (s1 : W1.size ≤ 64) : ∃ A1 A2 A3 : ByteArray, (∀ w, (Op.stringOp .add W0 (⟨#[32]⟩ : ByteArray)).run Tryd.prog w = .ok (.string A1) w) ∧ (∀ w, (Op.stringOp .add A1 W1).run Tryd.prog w = .ok (.string A2) w) ∧ (∀ w, (Op.stringOp .add A2 (⟨#[10]⟩ : ByteArray)).run Tryd.prog w = .ok (.string A3) w) ∧ Hid (A3 = lineT [W0, W1]) := by
  have hs : (⟨#[32]⟩ : ByteArray).size = 1 := rfl
  have hn : (⟨#[10]⟩ : ByteArray).size = 1 := rfl
  obtain ⟨A1, rA1, eA1⟩ := add_ex W0 (⟨#[32]⟩ : ByteArray) (by omega)
  obtain ⟨A2, rA2, eA2⟩ := add_ex A1 W1 (by simp only [eA1, ByteArray.size_append]; omega)
  obtain ⟨A3, rA3, eA3⟩ := add_ex A2 (⟨#[10]⟩ : ByteArray) (by simp only [eA1, eA2, ByteArray.size_append]; omega)
  refine ⟨A1, A2, A3, rA1, rA2, rA3, ?_⟩
  show A3 = _
  rw [eA3, eA2, eA1]
  apply Go.WideShapes.bytes_inj
  simp [lineT, joinT, joinW, Lib.join, List.intercalate, List.intersperse]


end Go.Proofs.YtjckdepcgjfomaaDoor
