
/- An argument that is a list of the laws' own terms, opened: the terms that it holds, and that they lie in memory. -/
import Derived.Test.YteminklafghgpaaDoorArg
namespace Go.Proofs.YteminklafghgpaaDoor
open Go.ChangeShapes Go.WideShapes Go.ChangeAt Go.RowKit Go.Deep

set_option maxRecDepth 100000 in
theorem open_list {H : Type} {enc : TypeId × Value → H} {W : World} {base : Nat} {v : Value} {d : DataW H} {p : List MemPlace} (hv : Value.okWide Tryd.prog W .any base 22 v) (h : DataW.Trod enc Tryd.prog W 0 (fun _ => true) true 22 v d p) :
    ∃ (ps : List Tm) (a : Option Addr) (cap : Nat), v = .slice a ps.length cap ∧ LiesAll W 0 a 0 ps ∧ ps.length ≤ maxLen := by
  obtain ⟨a1, len1, cap1, rfl⟩ := okWide_slice Tryd.underlying22 hv
  obtain ⟨fuel, hf⟩ := h
  rcases DataW.trod_slice Tryd.underlying22 hf with ⟨h0, _⟩ | ⟨a, len, cap, elems, rest, m, hm, h0, _, _, hlc, hcm, hel, hget, _⟩
  · simp [Value.cells] at h0
    obtain ⟨rfl, rfl, rfl⟩ := h0
    exact ⟨[], none, 0, rfl, by simp [LiesAll], by simp⟩
  · simp [Value.cells] at h0
    obtain ⟨rfl, rfl, rfl⟩ := h0
    rw [cells24] at hget
    have hk : ∀ i, i < len1 → ∃ T : Tm, ∃ b o cs, a = ⟨b, o, none⟩ ∧ W.rangeAt b (o + i * 4) cs ∧ Lies W 0 T cs := fun i hi => by
      have hb := hget i hi
      rw [List.getElem?_eq_getElem (by omega)] at hb
      obtain ⟨cs', c1', c2'⟩ := Option.bind_eq_some_iff.1 hb
      obtain ⟨T, hT⟩ := open_tm (t := 22) (e := 24) (tint := 3) (tstr := 9) Tryd.underlying24 (by kernel_rfl) cells24 rfl rfl rfl rfl Tryd.underlying3 Tryd.underlying9 Tryd.underlying22 m cs' _ c2'
      obtain ⟨_, hl4, hcell⟩ := World.cells?_some c1'
      have hsp : a.spot = none := by
        have := hcell 1 (by omega)
        have h00 := hcell 0 (by omega)
        rw [List.getElem?_eq_getElem (by omega)] at h00
        have := World.cell?_spot h00
        unfold Addr.add at this
        by_cases hz : i * 4 = 0
        · simpa [hz] using this
        · have hi0 : i ≠ 0 := by omega
          have h0c := hget 0 (by omega)
          rw [List.getElem?_eq_getElem (by omega)] at h0c
          obtain ⟨cs0, d1', _⟩ := Option.bind_eq_some_iff.1 h0c
          obtain ⟨_, hl0, hcell0⟩ := World.cells?_some d1'
          have h000 := hcell0 0 (by omega)
          rw [List.getElem?_eq_getElem (by omega)] at h000
          have := World.cell?_spot h000
          simpa [Addr.add] using this
      obtain ⟨b, o, sp⟩ := a
      simp only at hsp
      subst hsp
      refine ⟨T, b, o, cs', rfl, fun j v hj => ?_, hT⟩
      have hjl : j < cs'.length := by
        by_cases hq : j < cs'.length
        · exact hq
        · rw [List.getElem?_eq_none (by omega)] at hj; cases hj
      have := hcell j (by omega)
      rw [hj] at this
      rw [Addr.add_mid, Addr.add_mid] at this
      exact this
    obtain ⟨F, hF⟩ := choose_lt (α := Tm) (p := fun i T => ∃ b o cs, a = ⟨b, o, none⟩ ∧ W.rangeAt b (o + i * 4) cs ∧ Lies W 0 T cs) hk
    refine ⟨(List.range len1).map F, some a, cap1, by simp, LiesAll.mk fun k t hkt => ?_, by simp; omega⟩
    have hkl : k < len1 := by
      by_cases hq : k < len1
      · exact hq
      · rw [List.getElem?_eq_none (by simp; omega)] at hkt; cases hkt
    simp [hkl] at hkt
    subst hkt
    obtain ⟨b, o, cs, rfl, hr, hl⟩ := hF k hkl
    exact ⟨b, o, cs, rfl, Nat.zero_le _, by rwa [Nat.zero_add], hl⟩

end Go.Proofs.YteminklafghgpaaDoor
