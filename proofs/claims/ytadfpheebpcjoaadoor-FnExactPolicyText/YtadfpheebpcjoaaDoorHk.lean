
/- Patterns of hosts as plain texts, and the walks of spec.l5Star, spec.PatternOk and impl.PatternOk: whether a text is a pattern; nothing that was there is written. -/
import Derived.Test.YtadfpheebpcjoaaDoorHj
namespace Go.Proofs.YtadfpheebpcjoaaDoor
open Go.RowKit Go.Deep

/-- It begins with a star and a byte 46. -/
def starE (s : ByteArray) : Prop := s.extract 0 2 = ⟨#[42, 46]⟩
theorem starE_size {s : ByteArray} (h : starE s) : 2 ≤ s.size := by
  have := congrArg ByteArray.size h
  rw [ByteArray.size_extract] at this
  have e : (⟨#[42, 46]⟩ : ByteArray).size = 2 := rfl
  omega
theorem star_prefix (s : ByteArray) : Lib.hasPrefix s.data.toList [42, 46] = true ↔ starE s := by
  unfold Lib.hasPrefix starE
  rw [List.isPrefixOf_iff_prefix, List.prefix_iff_eq_take, Lib.extract_eq]
  constructor
  · intro h
    simp only [List.length_cons, List.length_nil] at h
    simp only [List.drop_zero]
    rw [← h]
  · intro h
    have := congrArg (fun b : ByteArray => b.data.toList) h
    simp only [List.drop_zero] at this
    simpa using this.symm
theorem star_yes {s : ByteArray} (h : starE s) : Lib.hasPrefix s.data.toList [42, 46] = true := (star_prefix s).2 h
theorem star_no {s : ByteArray} (h : ¬ starE s) : Lib.hasPrefix s.data.toList [42, 46] = false := by
  cases hb : Lib.hasPrefix s.data.toList [42, 46]
  · rfl
  · exact absurd ((star_prefix s).1 hb) h
theorem trim_yes {s : ByteArray} (h : starE s) : (⟨(Lib.trimPrefix s.data.toList [42, 46]).toArray⟩ : ByteArray) = s.extract 2 s.size := by
  unfold Lib.trimPrefix
  rw [star_yes h, if_pos rfl, Lib.extract_eq]
  congr 2
  rw [List.take_of_length_le]
  · rfl
  · rw [List.length_drop, ← Lib.size_eq]
    exact Nat.le_refl _
theorem trim_no {s : ByteArray} (h : ¬ starE s) : (⟨(Lib.trimPrefix s.data.toList [42, 46]).toArray⟩ : ByteArray) = s := by
  unfold Lib.trimPrefix
  rw [star_no h]
  rfl
/-- A pattern. -/
def patP (s : ByteArray) : Prop := hostP s ∨ starE s ∧ lsP 1 (s.extract 2 s.size)
open Classical in
noncomputable def patB (s : ByteArray) : Bool := decide (patP s)
theorem patB_yes {s : ByteArray} (h : patP s) : patB s = true := by simp [patB, h]
theorem patB_no {s : ByteArray} (h : ¬ patP s) : patB s = false := by simp [patB, h]
theorem patB_iff {s : ByteArray} : patB s = true ↔ patP s := by simp [patB]
theorem patB_host {s : ByteArray} (h : hostB s = true) : patB s = true := patB_yes (Or.inl (hostB_iff.1 h))
theorem patB_star {s : ByteArray} (h : hostB s = false) (h2 : starE s) : patB s = lsB 1 (s.extract 2 s.size) := by
  have hn : ¬ hostP s := fun hp => by rw [hostB_yes hp] at h; cases h
  by_cases hl : lsP 1 (s.extract 2 s.size)
  · rw [lsB_yes hl, patB_yes (Or.inr ⟨h2, hl⟩)]
  · rw [lsB_no hl, patB_no fun hp => hp.elim hn fun x => hl x.2]
theorem patB_none {s : ByteArray} (h : hostB s = false) (h2 : ¬ starE s) : patB s = false :=
  patB_no fun hp => hp.elim (fun hh => by rw [hostB_yes hh] at h; cases h) fun x => h2 x.1
/-- Of no byte there are no labels. -/
theorem lsP_empty {n : Nat} {s : ByteArray} (h : s.size = 0) : ¬ lsP n s := fun hl => by
  have := hl.2.2 (s.extract 0 s.size) (by unfold labsOf; rw [h]; simp [labs, h])
  have h1 := this.1
  rw [ByteArray.size_extract] at h1
  omega
open Classical in
noncomputable def starB (s : ByteArray) : Bool := decide (2 < s.size ∧ starE s)

set_option maxRecDepth 100000 in
theorem star33 (s : ByteArray) (w : World) : Calls Tryd.prog 29 #[.string s] w fun e w' => e = .returned (.bool (starB s)) ∧ w' = w := by
  by_cases h : 2 < s.size
  · have c1 : (2 : Int) < (s.size : Int) := by omega
    have c2 : (2 : Int) ≤ (s.size : Int) := by omega
    by_cases he : starE s
    · have HE : Hid (starB s = true) := by show _ = _; simp [starB, h, he]
      unfold starE at he
      go_enter Tryd.func29, Tryd.ntmps29
      go_wp2_with fail
      go_ret
      exact ⟨retB (unhide HE), rfl⟩
    · have HE : Hid (starB s = false) := by show _ = _; simp [starB, he]
      unfold starE at he
      go_enter Tryd.func29, Tryd.ntmps29
      go_wp2_with fail
      go_ret
      exact ⟨retB (by rw [unhide HE]; symm; simp; exact fun h => he (by rw [Lib.extract_eq, ← Lib.extract_toList, h])), rfl⟩
  · have c1 : ¬ (2 : Int) < (s.size : Int) := by omega
    have HE : Hid (starB s = false) := by show _ = _; simp [starB, h]
    go_enter Tryd.func29, Tryd.ntmps29
    go_wp2_with fail
    go_ret
    exact ⟨retB (unhide HE), rfl⟩

set_option maxRecDepth 100000 in
set_option maxHeartbeats 1000000 in
theorem patS (s : ByteArray) (w : World) (hs : s.size ≤ 2097152) :
    Calls Tryd.prog 20 #[.string s] w fun e w' => e = .returned (.bool (patB s)) ∧ Below w.heap.size w w' := by
  have h9 := hide (fun v => hostS s v hs)
  have h33 := hide (fun v => star33 s v)
  have h31 := hide (fun v => labels18 1 (s.extract 2 s.size) v (by have := size_extract_le s 2 s.size; omega))
  cases hB : hostB s with
  | true =>
    have HE := hide (patB_host hB)
    rw [hB] at h9
    go_enter Tryd.func20, Tryd.ntmps20
    go_wp2_with fail
    refine (unhide h9 _).mono ?_
    rintro e w2 ⟨rfl, hb2⟩
    go_wp2_with fail
    go_ret
    exact ⟨retB (unhide HE), hb2⟩
  | false =>
    rw [hB] at h9
    by_cases h2 : 2 < s.size ∧ starE s
    · have HE := hide (patB_star hB h2.2)
      have hsb : starB s = true := by simp [starB, h2]
      rw [hsb] at h33
      have c2 : (2 : Int) ≤ (s.size : Int) := by have := h2.1; omega
      clear hsb h2
      go_enter Tryd.func20, Tryd.ntmps20
      go_wp2_with fail
      refine (unhide h9 _).mono ?_
      rintro e w2 ⟨rfl, hb2⟩
      have HB2 := hide hb2
      clear hb2
      go_wp2_with fail
      refine (unhide h33 _).mono ?_
      rintro e w3 ⟨rfl, rfl⟩
      go_wp2_with fail
      refine (unhide h31 _).mono ?_
      rintro e w4 ⟨rfl, hb4⟩
      go_wp2_with fail
      go_ret
      exact ⟨retB (unhide HE), (unhide HB2).trans (hb4.mono (unhide HB2).size)⟩
    · have hsb : starB s = false := by simp [starB]; intro h; exact fun h3 => h2 ⟨h, h3⟩
      have HE : Hid (patB s = false) := by
        show _ = _
        by_cases h3 : starE s
        · rw [patB_star hB h3, lsB_no (lsP_empty (by rw [ByteArray.size_extract]; have := starE_size h3; have : ¬ 2 < s.size := fun h => h2 ⟨h, h3⟩; omega))]
        · exact patB_none hB h3
      rw [hsb] at h33
      clear hsb h2
      go_enter Tryd.func20, Tryd.ntmps20
      go_wp2_with fail
      refine (unhide h9 _).mono ?_
      rintro e w2 ⟨rfl, hb2⟩
      have HB2 := hide hb2
      clear hb2
      go_wp2_with fail
      refine (unhide h33 _).mono ?_
      rintro e w3 ⟨rfl, rfl⟩
      go_wp2_with fail
      go_ret
      exact ⟨retB (unhide HE), unhide HB2⟩

theorem cut34 (s : ByteArray) (w : World) : Calls Tryd.prog 37 #[.string s, .string ⟨#[42, 46]⟩] w fun e w' => e = .returned (.tuple #[.string ⟨(Lib.trimPrefix s.data.toList [42, 46]).toArray⟩, .bool (Lib.hasPrefix s.data.toList [42, 46])]) ∧ w' = w :=
  Tryd.strings_CutPrefix s ⟨#[42, 46]⟩ w

set_option maxRecDepth 100000 in
set_option maxHeartbeats 1000000 in
theorem patI (s : ByteArray) (w : World) (hs : s.size ≤ 2097152) :
    Calls Tryd.prog 31 #[.string s] w fun e w' => e = .returned (.bool (patB s)) ∧ Below w.heap.size w w' := by
  have h10 := hide (fun v => hostI s v hs)
  have h34 := hide (fun v => cut34 s v)
  have h32 := hide (fun v => labelsOkI 1 (s.extract 2 s.size) v (by have := size_extract_le s 2 s.size; omega))
  cases hB : hostB s with
  | true =>
    have HE := hide (patB_host hB)
    rw [hB] at h10
    generalize (⟨(Lib.trimPrefix s.data.toList [42, 46]).toArray⟩ : ByteArray) = R at *
    generalize Lib.hasPrefix s.data.toList [42, 46] = M at *
    go_enter Tryd.func31, Tryd.ntmps31
    go_wp2_with fail
    refine (unhide h34 _).mono ?_
    rintro e w1 ⟨rfl, rfl⟩
    go_wp2_with fail
    refine (unhide h10 _).mono ?_
    rintro e w2 ⟨rfl, hb2⟩
    go_wp2_with fail
    go_ret
    exact ⟨retB (unhide HE), hb2⟩
  | false =>
    rw [hB] at h10
    by_cases h2 : starE s
    · have HE := hide (patB_star hB h2)
      rw [star_yes h2, trim_yes h2] at h34
      clear h2
      go_enter Tryd.func31, Tryd.ntmps31
      go_wp2_with fail
      refine (unhide h34 _).mono ?_
      rintro e w1 ⟨rfl, rfl⟩
      go_wp2_with fail
      refine (unhide h10 _).mono ?_
      rintro e w2 ⟨rfl, hb2⟩
      have HB2 := hide hb2
      clear hb2
      go_wp2_with fail
      refine (unhide h32 _).mono ?_
      rintro e w4 ⟨rfl, hb4⟩
      go_wp2_with fail
      go_ret
      exact ⟨retB (unhide HE), (unhide HB2).trans (hb4.mono (unhide HB2).size)⟩
    · have HE := hide (patB_none hB h2)
      rw [star_no h2, trim_no h2] at h34
      clear h2
      go_enter Tryd.func31, Tryd.ntmps31
      go_wp2_with fail
      refine (unhide h34 _).mono ?_
      rintro e w1 ⟨rfl, rfl⟩
      go_wp2_with fail
      refine (unhide h10 _).mono ?_
      rintro e w2 ⟨rfl, hb2⟩
      go_wp2_with fail
      go_ret
      exact ⟨retB (unhide HE), hb2⟩

end Go.Proofs.YtadfpheebpcjoaaDoor
