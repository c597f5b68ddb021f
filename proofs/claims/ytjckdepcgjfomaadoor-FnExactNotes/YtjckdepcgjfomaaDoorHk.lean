
/- Patterns of hosts as plain texts, and the walks of spec.l5Star, spec.PatternOk and impl.PatternOk: whether a text is a pattern; nothing that was there is written. -/
import Derived.Test.YtjckdepcgjfomaaDoorHj
namespace Go.Proofs.YtjckdepcgjfomaaDoor
open Go.RowKit Go.Deep

/-- It begins with a star and a byte 46. -/
def starE (s : ByteArray) : Prop := s.extract 0 2 = ⟨#[42, 46]⟩
theorem starE_size {s : ByteArray} (h : starE s) : 2 ≤ s.size := by
  have := congrArg ByteArray.size h
  rw [ByteArray.size_extract] at this
  have e : (⟨#[42, 46]⟩ : ByteArray).size = 2 := rfl
  omega
theorem star_prefix (s : ByteArray) : Lib.hasPrefix s.data.toList [42, 46] = true ↔ starE s := by
  unfold Lib.hasPrefix starE
  rw [List.isPrefixOf_iff_prefix, List.prefix_iff_eq_take, Lib.extract_eq]
  constructor
  · intro h
    simp only [List.length_cons, List.length_nil] at h
    simp only [List.drop_zero]
    rw [← h]
  · intro h
    have := congrArg (fun b : ByteArray => b.data.toList) h
    simp only [List.drop_zero] at this
    simpa using this.symm
theorem star_yes {s : ByteArray} (h : starE s) : Lib.hasPrefix s.data.toList [42, 46] = true := (star_prefix s).2 h
theorem star_no {s : ByteArray} (h : ¬ starE s) : Lib.hasPrefix s.data.toList [42, 46] = false := by
  cases hb : Lib.hasPrefix s.data.toList [42, 46]
  · rfl
  · exact absurd ((star_prefix s).1 hb) h
theorem trim_yes {s : ByteArray} (h : starE s) : (⟨(Lib.trimPrefix s.data.toList [42, 46]).toArray⟩ : ByteArray) = s.extract 2 s.size := by
  unfold Lib.trimPrefix
  rw [star_yes h, if_pos rfl, Lib.extract_eq]
  congr 2
  rw [List.take_of_length_le]
  · rfl
  · rw [List.length_drop, ← Lib.size_eq]
    exact Nat.le_refl _
theorem trim_no {s : ByteArray} (h : ¬ starE s) : (⟨(Lib.trimPrefix s.data.toList [42, 46]).toArray⟩ : ByteArray) = s := by
  unfold Lib.trimPrefix
  rw [star_no h]
  rfl
/-- A pattern. -/
def patP (s : ByteArray) : Prop := hostP s ∨ starE s ∧ lsP 1 (s.extract 2 s.size)
open Classical in
noncomputable def patB (s : ByteArray) : Bool := decide (patP s)
theorem patB_yes {s : ByteArray} (h : patP s) : patB s = true := by simp [patB, h]
theorem patB_no {s : ByteArray} (h : ¬ patP s) : patB s = false := by simp [patB, h]
theorem patB_iff {s : ByteArray} : patB s = true ↔ patP s := by simp [patB]
theorem patB_host {s : ByteArray} (h : hostB s = true) : patB s = true := patB_yes (Or.inl (hostB_iff.1 h))
theorem patB_star {s : ByteArray} (h : hostB s = false) (h2 : starE s) : patB s = lsB 1 (s.extract 2 s.size) := by
  have hn : ¬ hostP s := fun hp => by rw [hostB_yes hp] at h; cases h
  by_cases hl : lsP 1 (s.extract 2 s.size)
  · rw [lsB_yes hl, patB_yes (Or.inr ⟨h2, hl⟩)]
  · rw [lsB_no hl, patB_no fun hp => hp.elim hn fun x => hl x.2]
theorem patB_none {s : ByteArray} (h : hostB s = false) (h2 : ¬ starE s) : patB s = false :=
  patB_no fun hp => hp.elim (fun hh => by rw [hostB_yes hh] at h; cases h) fun x => h2 x.1
/-- Of no byte there are no labels. -/
theorem lsP_empty {n : Nat} {s : ByteArray} (h : s.size = 0) : ¬ lsP n s := fun hl => by
  have := hl.2.2 (s.extract 0 s.size) (by unfold labsOf; rw [h]; simp [labs, h])
  have h1 := this.1
  rw [ByteArray.size_extract] at h1
  omega
open Classical in
noncomputable def starB (s : ByteArray) : Bool := decide (2 < s.size ∧ starE s)

end Go.Proofs.YtjckdepcgjfomaaDoor
