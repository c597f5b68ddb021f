/- An argument that is a note of the laws' own, or a list of such, opened. -/
import Derived.Test.YtfbillhfbdconaaArg
import Derived.Test.YtfbillhfbdconaaNl
namespace Go.Proofs.Ytfbillhfbdconaa
open Go.ChangeShapes Go.WideShapes Go.ChangeAt Go.RowKit Go.Deep

theorem cells23n : Try.prog.cellsOf 23 = 5 := by kernel_rfl
theorem cells9n : Try.prog.cellsOf 9 = 1 := by kernel_rfl
theorem cells3n : Try.prog.cellsOf 3 = 1 := by kernel_rfl

set_option maxRecDepth 100000 in
theorem note_cells {H : Type} {enc : TypeId × Value → H} {W : World} {fuel : Nat} {cs : List Value} {x : DataW H × List MemPlace} (hf : DataW.trod enc Try.prog W 0 (fun _ => true) true fuel 23 cs = some x) :
    ∃ p : Nt, cs = ntC p ∧ p.d.size ≤ maxLen := by
  obtain ⟨xs, m, hfu, hx, hl, hlen, hg⟩ := DataW.trod_struct Try.underlying23 hf
  rw [cells23n] at hl
  have g0 : DataW.trod enc Try.prog W 0 (fun _ => true) true m 3 ((cs.drop 0).take (Try.prog.cellsOf 3)) = xs[0]? := hg 0 _ rfl
  have g1 : DataW.trod enc Try.prog W 0 (fun _ => true) true m 3 ((cs.drop 1).take (Try.prog.cellsOf 3)) = xs[1]? := hg 1 _ rfl
  have g2 : DataW.trod enc Try.prog W 0 (fun _ => true) true m 9 ((cs.drop 2).take (Try.prog.cellsOf 9)) = xs[2]? := hg 2 _ rfl
  have g3 : DataW.trod enc Try.prog W 0 (fun _ => true) true m 3 ((cs.drop 3).take (Try.prog.cellsOf 3)) = xs[3]? := hg 3 _ rfl
  have g4 : DataW.trod enc Try.prog W 0 (fun _ => true) true m 3 ((cs.drop 4).take (Try.prog.cellsOf 3)) = xs[4]? := hg 4 _ rfl
  rw [cells9n] at g2
  rw [cells3n] at g0 g1 g3 g4
  match cs, hl with
  | [c0, c1, c2, c3, c4], _ =>
    match xs, hlen with
    | [y0, y1, y2, y3, y4], _ =>
      obtain ⟨k, q0, _, w0⟩ := DataW.trod_int Try.underlying3 (by simpa using g0)
      obtain ⟨h, q1, _, w1⟩ := DataW.trod_int Try.underlying3 (by simpa using g1)
      obtain ⟨ds, q2, _, w2⟩ := DataW.trod_string Try.underlying9 (by simpa using g2)
      obtain ⟨b, q3, _, w3⟩ := DataW.trod_int Try.underlying3 (by simpa using g3)
      obtain ⟨t, q4, _, w4⟩ := DataW.trod_int Try.underlying3 (by simpa using g4)
      simp at q0 q1 q2 q3 q4
      subst q0 q1 q2 q3 q4
      exact ⟨⟨k, h, ds, b, t⟩, rfl, w2⟩

set_option maxRecDepth 100000 in
theorem open_note {H : Type} {enc : TypeId × Value → H} {W : World} {base : Nat} {v : Value} {d : DataW H} {p : List MemPlace} (hv : Value.okWide Try.prog W .any base 23 v) (h : DataW.Trod enc Try.prog W 0 (fun _ => true) true 23 v d p) :
    ∃ (k h : Int) (ds : ByteArray) (b t : Int), v = .agg #[.int .i64 k, .int .i64 h, .string ds, .int .i64 b, .int .i64 t] ∧ ds.size ≤ maxLen := by
  obtain ⟨cs, rfl, hsz⟩ := okWide_struct Try.underlying23 hv
  obtain ⟨fuel, hf⟩ := h
  obtain ⟨p, hp, hd⟩ := note_cells hf
  obtain ⟨cl⟩ := cs
  simp only [Value.cells] at hp
  subst hp
  exact ⟨p.k, p.h, p.d, p.b, p.t, rfl, hd⟩

theorem choose_ltN {α : Type} [Inhabited α] {n : Nat} {p : Nat → α → Prop} (h : ∀ i, i < n → ∃ x, p i x) : ∃ F : Nat → α, ∀ i, i < n → p i (F i) := by
  classical
  refine ⟨fun i => if hi : i < n then Classical.choose (h i hi) else default, fun i hi => ?_⟩
  simp only [hi, dif_pos]
  exact Classical.choose_spec (h i hi)

set_option maxRecDepth 100000 in
theorem open_notes {H : Type} {enc : TypeId × Value → H} {W : World} {base : Nat} {v : Value} {d : DataW H} {p : List MemPlace} (hv : Value.okWide Try.prog W .any base 29 v) (h : DataW.Trod enc Try.prog W 0 (fun _ => true) true 29 v d p) :
    ∃ (P : List Nt) (a : Option Addr) (cap : Nat), v = .slice a P.length cap ∧ Els ntC W 0 a P ∧ P.length ≤ maxLen ∧ ∀ p ∈ P, p.d.size ≤ maxLen := by
  obtain ⟨a1, len1, cap1, rfl⟩ := okWide_slice Try.underlying29 hv
  obtain ⟨fuel, hf⟩ := h
  rcases DataW.trod_slice Try.underlying29 hf with ⟨h0, _⟩ | ⟨a, len, cap, elems, rest, m, hm, h0, _, _, hlc, hcm, hel, hget, _⟩
  · simp [Value.cells] at h0
    obtain ⟨rfl, rfl, rfl⟩ := h0
    exact ⟨[], none, 0, rfl, fun k p hk => by simp at hk, by simp, by simp⟩
  · simp [Value.cells] at h0
    obtain ⟨rfl, rfl, rfl⟩ := h0
    rw [cells23n] at hget
    have hk : ∀ i, i < len1 → ∃ T : Nt, ∃ b o, a = ⟨b, o, none⟩ ∧ W.rangeAt b (o + i * 5) (ntC T) ∧ T.d.size ≤ maxLen := fun i hi => by
      have hb := hget i hi
      rw [List.getElem?_eq_getElem (by omega)] at hb
      obtain ⟨cs', c1', c2'⟩ := Option.bind_eq_some_iff.1 hb
      obtain ⟨T, rfl, hfit⟩ := note_cells c2'
      obtain ⟨_, hl4, hcell⟩ := World.cells?_some c1'
      have hsp : a.spot = none := by
        have h00 := hcell 0 (by omega)
        rw [List.getElem?_eq_getElem (by simp [ntC])] at h00
        have := World.cell?_spot h00
        unfold Addr.add at this
        by_cases hz : i * 5 = 0
        · simpa [hz] using this
        · have h0c := hget 0 (by omega)
          rw [List.getElem?_eq_getElem (by omega)] at h0c
          obtain ⟨cs0, d1', d2'⟩ := Option.bind_eq_some_iff.1 h0c
          obtain ⟨T0, rfl, _⟩ := note_cells d2'
          obtain ⟨_, hl0, hcell0⟩ := World.cells?_some d1'
          have h000 := hcell0 0 (by omega)
          rw [List.getElem?_eq_getElem (by simp [ntC])] at h000
          have := World.cell?_spot h000
          simpa [Addr.add] using this
      obtain ⟨b, o, sp⟩ := a
      simp only at hsp
      subst hsp
      refine ⟨T, b, o, rfl, fun j v hj => ?_, hfit⟩
      have hjl : j < 5 := (List.getElem?_eq_some_iff.1 hj).1
      have := hcell j (by omega)
      rw [hj] at this
      rw [Addr.add_mid, Addr.add_mid] at this
      exact this
    obtain ⟨Fp, hF⟩ := choose_ltN (α := Nt) (p := fun i T => ∃ b o, a = ⟨b, o, none⟩ ∧ W.rangeAt b (o + i * 5) (ntC T) ∧ T.d.size ≤ maxLen) hk
    refine ⟨(List.range len1).map Fp, some a, cap1, by simp, fun k t hkt => ?_, by simp; omega, fun p hp => ?_⟩
    · have hkl : k < len1 := by
        by_cases hq : k < len1
        · exact hq
        · rw [List.getElem?_eq_none (by simp; omega)] at hkt; cases hkt
      simp [hkl] at hkt
      subst hkt
      obtain ⟨b, o, rfl, hr, _⟩ := hF k hkl
      exact ⟨b, o, rfl, Nat.zero_le _, hr⟩
    · simp only [List.mem_map, List.mem_range] at hp
      obtain ⟨k, hkl, rfl⟩ := hp
      obtain ⟨b, o, _, _, hfit⟩ := hF k hkl
      exact hfit

end Go.Proofs.Ytfbillhfbdconaa
