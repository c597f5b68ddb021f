/- An argument that is a list of the laws' own policies, opened: the policies that it holds, and that they lie in memory. -/
import Derived.Test.YtdcfkbnppbeahaaArp
import Derived.Test.YtdcfkbnppbeahaaQl
namespace Go.Proofs.Ytdcfkbnppbeahaa
open Go.ChangeShapes Go.WideShapes Go.ChangeAt Go.RowKit Go.Deep

instance : Inhabited Pol := ⟨⟨ByteArray.empty, 0, [], 0⟩⟩

set_option maxRecDepth 100000 in
theorem pol_cells {H : Type} {enc : TypeId × Value → H} {W : World} {fuel : Nat} {cs : List Value} {x : DataW H × List MemPlace} (hf : DataW.trod enc Try.prog W 0 (fun _ => true) true fuel 24 cs = some x) :
    ∃ (p : Pol) (a : Option Addr) (cap : Nat), cs = polCells p a cap ∧ Txt W 0 a p.l ∧ polFit p := by
  obtain ⟨xs, m, hfu, hx, hl, hlen, hg⟩ := DataW.trod_struct Try.underlying24 hf
  rw [cells24p] at hl
  have g0 : DataW.trod enc Try.prog W 0 (fun _ => true) true m 9 ((cs.drop 0).take (Try.prog.cellsOf 9)) = xs[0]? := hg 0 _ rfl
  have g1 : DataW.trod enc Try.prog W 0 (fun _ => true) true m 3 ((cs.drop 1).take (Try.prog.cellsOf 3)) = xs[1]? := hg 1 _ rfl
  have g2 : DataW.trod enc Try.prog W 0 (fun _ => true) true m 22 ((cs.drop 2).take (Try.prog.cellsOf 22)) = xs[2]? := hg 2 _ rfl
  have g3 : DataW.trod enc Try.prog W 0 (fun _ => true) true m 3 ((cs.drop 3).take (Try.prog.cellsOf 3)) = xs[3]? := hg 3 _ rfl
  rw [cells9p] at g0
  rw [cells3p] at g1 g3
  rw [cells22p] at g2
  match cs, hl with
  | [c0, c1, c2, c3], _ =>
    match xs, hlen with
    | [y0, y1, y2, y3], _ =>
      obtain ⟨ds, q0, _, w0⟩ := DataW.trod_string Try.underlying9 (by simpa using g0)
      obtain ⟨mm, q1, _, w1⟩ := DataW.trod_int Try.underlying3 (by simpa using g1)
      obtain ⟨u, q3, _, w3⟩ := DataW.trod_int Try.underlying3 (by simpa using g3)
      obtain ⟨a, cap, l, q2, h2, h3, h4⟩ := open_txt (c := c2) (by simpa using g2)
      simp at q0 q1 q3
      subst q0 q1 q2 q3
      exact ⟨⟨ds, mm, l, u⟩, a, cap, rfl, h2, h3, h4, w0⟩

set_option maxRecDepth 100000 in
theorem open_pols {H : Type} {enc : TypeId × Value → H} {W : World} {base : Nat} {v : Value} {d : DataW H} {p : List MemPlace} (hv : Value.okWide Try.prog W .any base 31 v) (h : DataW.Trod enc Try.prog W 0 (fun _ => true) true 31 v d p) :
    ∃ (P : List Pol) (a : Option Addr) (cap : Nat), v = .slice a P.length cap ∧ Pols W 0 a P ∧ P.length ≤ maxLen ∧ ∀ p ∈ P, polFit p := by
  obtain ⟨a1, len1, cap1, rfl⟩ := okWide_slice Try.underlying31 hv
  obtain ⟨fuel, hf⟩ := h
  rcases DataW.trod_slice Try.underlying31 hf with ⟨h0, _⟩ | ⟨a, len, cap, elems, rest, m, hm, h0, _, _, hlc, hcm, hel, hget, _⟩
  · simp [Value.cells] at h0
    obtain ⟨rfl, rfl, rfl⟩ := h0
    exact ⟨[], none, 0, rfl, fun k p hk => by simp at hk, by simp, by simp⟩
  · simp [Value.cells] at h0
    obtain ⟨rfl, rfl, rfl⟩ := h0
    rw [cells24p] at hget
    have hk : ∀ i, i < len1 → ∃ T : Pol, ∃ b o x c, a = ⟨b, o, none⟩ ∧ W.rangeAt b (o + i * 4) (polCells T x c) ∧ Txt W 0 x T.l ∧ polFit T := fun i hi => by
      have hb := hget i hi
      rw [List.getElem?_eq_getElem (by omega)] at hb
      obtain ⟨cs', c1', c2'⟩ := Option.bind_eq_some_iff.1 hb
      obtain ⟨T, x, c, rfl, hT, hfit⟩ := pol_cells c2'
      obtain ⟨_, hl4, hcell⟩ := World.cells?_some c1'
      have hsp : a.spot = none := by
        have h00 := hcell 0 (by omega)
        rw [List.getElem?_eq_getElem (by simp [polCells])] at h00
        have := World.cell?_spot h00
        unfold Addr.add at this
        by_cases hz : i * 4 = 0
        · simpa [hz] using this
        · have h0c := hget 0 (by omega)
          rw [List.getElem?_eq_getElem (by omega)] at h0c
          obtain ⟨cs0, d1', d2'⟩ := Option.bind_eq_some_iff.1 h0c
          obtain ⟨T0, x0, c0, rfl, _⟩ := pol_cells d2'
          obtain ⟨_, hl0, hcell0⟩ := World.cells?_some d1'
          have h000 := hcell0 0 (by omega)
          rw [List.getElem?_eq_getElem (by simp [polCells])] at h000
          have := World.cell?_spot h000
          simpa [Addr.add] using this
      obtain ⟨b, o, sp⟩ := a
      simp only at hsp
      subst hsp
      refine ⟨T, b, o, x, c, rfl, fun j v hj => ?_, hT, hfit⟩
      have hjl : j < 4 := (List.getElem?_eq_some_iff.1 hj).1
      have := hcell j (by omega)
      rw [hj] at this
      rw [Addr.add_mid, Addr.add_mid] at this
      exact this
    obtain ⟨Fp, hF⟩ := choose_lt (α := Pol) (p := fun i T => ∃ b o x c, a = ⟨b, o, none⟩ ∧ W.rangeAt b (o + i * 4) (polCells T x c) ∧ Txt W 0 x T.l ∧ polFit T) hk
    refine ⟨(List.range len1).map Fp, some a, cap1, by simp, fun k t hkt => ?_, by simp; omega, fun p hp => ?_⟩
    · have hkl : k < len1 := by
        by_cases hq : k < len1
        · exact hq
        · rw [List.getElem?_eq_none (by simp; omega)] at hkt; cases hkt
      simp [hkl] at hkt
      subst hkt
      obtain ⟨b, o, x, c, rfl, hr, hl, _⟩ := hF k hkl
      exact ⟨b, o, x, c, rfl, Nat.zero_le _, hr, hl⟩
    · simp only [List.mem_map, List.mem_range] at hp
      obtain ⟨k, hkl, rfl⟩ := hp
      obtain ⟨b, o, x, c, _, _, _, hfit⟩ := hF k hkl
      exact hfit

end Go.Proofs.Ytdcfkbnppbeahaa
