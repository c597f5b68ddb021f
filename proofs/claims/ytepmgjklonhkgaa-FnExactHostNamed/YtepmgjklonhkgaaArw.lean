/- An argument that is a world of the laws' own, opened: what it holds, and that it lies in memory. -/
import Derived.Test.YtepmgjklonhkgaaArg
import Derived.Test.YtepmgjklonhkgaaWwa
import Derived.ChangeSlices
namespace Go.Proofs.Ytepmgjklonhkgaa
open Go.ChangeShapes Go.WideShapes Go.ChangeAt Go.RowKit Go.Deep

theorem cellsW3 : Try.prog.cellsOf 3 = 1 := by kernel_rfl
theorem cellsW4 : Try.prog.cellsOf 4 = 1 := by kernel_rfl
theorem cellsW9 : Try.prog.cellsOf 9 = 1 := by kernel_rfl
theorem cellsW22 : Try.prog.cellsOf 22 = 1 := by kernel_rfl
theorem cellsW23 : Try.prog.cellsOf 23 = 1 := by kernel_rfl
theorem cellsW24 : Try.prog.cellsOf 24 = 1 := by kernel_rfl
theorem cellsW25 : Try.prog.cellsOf 25 = 1 := by kernel_rfl
theorem cellsW26 : Try.prog.cellsOf 26 = 1 := by kernel_rfl
theorem cellsW27 : Try.prog.cellsOf 27 = 1 := by kernel_rfl
theorem cellsW28 : Try.prog.cellsOf 28 = 1 := by kernel_rfl
theorem cellsW30 : Try.prog.cellsOf 30 = 11 := by kernel_rfl
theorem cellsW70 : Try.prog.cellsOf 70 = 4 := by kernel_rfl
theorem cellsW74 : Try.prog.cellsOf 74 = 4 := by kernel_rfl
theorem cellsW76 : Try.prog.cellsOf 76 = 3 := by kernel_rfl
theorem cellsW79 : Try.prog.cellsOf 79 = 5 := by kernel_rfl
theorem cellsW82 : Try.prog.cellsOf 82 = 13 := by kernel_rfl
theorem cellsW84 : Try.prog.cellsOf 84 = 15 := by kernel_rfl
theorem cellsW87 : Try.prog.cellsOf 87 = 16 := by kernel_rfl
theorem cellsW89 : Try.prog.cellsOf 89 = 17 := by kernel_rfl
theorem choose_ltW {α : Type} [Inhabited α] {n : Nat} {p : Nat → α → Prop} (h : ∀ i, i < n → ∃ x, p i x) : ∃ F : Nat → α, ∀ i, i < n → p i (F i) := by
  classical
  refine ⟨fun i => if hi : i < n then Classical.choose (h i hi) else default, fun i hi => ?_⟩
  simp only [hi, dif_pos]
  exact Classical.choose_spec (h i hi)
theorem cells24p : Try.prog.cellsOf 74 = 4 := by kernel_rfl
theorem cells9p : Try.prog.cellsOf 9 = 1 := by kernel_rfl
theorem cells3p : Try.prog.cellsOf 3 = 1 := by kernel_rfl
theorem cells22p : Try.prog.cellsOf 72 = 1 := by kernel_rfl
theorem cells3s : Try.prog.cellsOf 3 = 1 := by kernel_rfl

/-- A row of texts that can be read as data. -/
theorem open_txt {H : Type} {enc : TypeId × Value → H} {W : World} {m : Nat} {c : Value} {x : DataW H × List MemPlace} (h : DataW.trod enc Try.prog W 0 (fun _ => true) true m 72 [c] = some x) :
    ∃ (a : Option Addr) (cap : Nat) (l : List ByteArray), c = .slice a l.length cap ∧ Txt W 0 a l ∧ l.length ≤ maxLen ∧ ∀ t ∈ l, t.size ≤ maxLen := by
  rcases open_strings Try.underlying72 Try.underlying9 cells9p h with ⟨hcs, hx⟩ | ⟨a, len, cap, ss, hcs, _, hl, hm, hz, hx, hcell, hsz⟩
  · simp at hcs
    exact ⟨none, 0, [], by simpa using hcs, fun k t hk => by simp at hk, by simp, by simp⟩
  · simp at hcs hz
    subst hcs
    refine ⟨some a, cap, ss.take len, by simp [hz, hl], ?_, by simp; omega, fun t ht => hsz t (List.mem_of_mem_take ht)⟩
    intro k t hk
    have hkl : k < len ∧ k < ss.length := by
      have := (List.getElem?_eq_some_iff.1 hk).1
      simp at this
      omega
    have hc := hcell k hkl.2
    have h0 := World.cell?_spot (hcell 0 (by omega))
    obtain ⟨b, o, sp⟩ := a
    have hsp : sp = none := by simpa [Addr.add] using h0
    subst hsp
    refine ⟨b, o, rfl, Nat.zero_le _, ?_⟩
    have hget : ss.getD k ByteArray.empty = t := by
      rw [List.getElem?_take_of_lt hkl.1] at hk
      simp [List.getD, hk]
    rw [hget] at hc
    by_cases hk0 : k = 0
    · subst hk0
      simpa [Addr.add] using hc
    · simpa [Addr.add, hk0] using hc

/-- A row of ints that can be read as data. -/
theorem open_ins {H : Type} {enc : TypeId × Value → H} {W : World} {m : Nat} {c : Value} {x : DataW H × List MemPlace} (h : DataW.trod enc Try.prog W 0 (fun _ => true) true m 28 [c] = some x) :
    ∃ (a : Option Addr) (cap : Nat) (l : List Int), c = .slice a l.length cap ∧ Ints W 0 a l ∧ l.length ≤ maxLen := by
  rcases open_ints Try.underlying28 Try.underlying3 cells3s h with ⟨hcs, hx⟩ | ⟨a, len, cap, ss, hcs, _, hl, hm, hz, hx, hcell, hsz⟩
  · simp at hcs
    exact ⟨none, 0, [], by simpa using hcs, fun k t hk => by simp at hk, by simp⟩
  · simp at hcs hz
    subst hcs
    refine ⟨some a, cap, ss.take len, by simp [hz, hl], ?_, by simp; omega⟩
    intro k t hk
    have hkl : k < len ∧ k < ss.length := by
      have := (List.getElem?_eq_some_iff.1 hk).1
      simp at this
      omega
    have hc := hcell k hkl.2
    have h0 := World.cell?_spot (hcell 0 (by omega))
    obtain ⟨b, o, sp⟩ := a
    have hsp : sp = none := by simpa [Addr.add] using h0
    subst hsp
    refine ⟨b, o, rfl, Nat.zero_le _, ?_⟩
    have hget : ss.getD k 0 = t := by
      rw [List.getElem?_take_of_lt hkl.1] at hk
      simp [List.getD, hk]
    rw [hget] at hc
    by_cases hk0 : k = 0
    · subst hk0
      simpa [Addr.add] using hc
    · simpa [Addr.add, hk0] using hc

set_option maxRecDepth 100000 in
theorem pol_cells {H : Type} {enc : TypeId × Value → H} {W : World} {fuel : Nat} {cs : List Value} {x : DataW H × List MemPlace} (hf : DataW.trod enc Try.prog W 0 (fun _ => true) true fuel 74 cs = some x) :
    ∃ (p : Pol) (a : Option Addr) (cap : Nat), cs = polCells p a cap ∧ Txt W 0 a p.l ∧ polFit p := by
  obtain ⟨xs, m, hfu, hx, hl, hlen, hg⟩ := DataW.trod_struct Try.underlying74 hf
  rw [cells24p] at hl
  have g0 : DataW.trod enc Try.prog W 0 (fun _ => true) true m 9 ((cs.drop 0).take (Try.prog.cellsOf 9)) = xs[0]? := hg 0 _ rfl
  have g1 : DataW.trod enc Try.prog W 0 (fun _ => true) true m 3 ((cs.drop 1).take (Try.prog.cellsOf 3)) = xs[1]? := hg 1 _ rfl
  have g2 : DataW.trod enc Try.prog W 0 (fun _ => true) true m 72 ((cs.drop 2).take (Try.prog.cellsOf 72)) = xs[2]? := hg 2 _ rfl
  have g3 : DataW.trod enc Try.prog W 0 (fun _ => true) true m 3 ((cs.drop 3).take (Try.prog.cellsOf 3)) = xs[3]? := hg 3 _ rfl
  rw [cells9p] at g0
  rw [cells3p] at g1 g3
  rw [cells22p] at g2
  match cs, hl with
  | [c0, c1, c2, c3], _ =>
    match xs, hlen with
    | [y0, y1, y2, y3], _ =>
      obtain ⟨ds, q0, _, w0⟩ := DataW.trod_string Try.underlying9 (by simpa using g0)
      obtain ⟨mm, q1, _, w1⟩ := DataW.trod_int Try.underlying3 (by simpa using g1)
      obtain ⟨u, q3, _, w3⟩ := DataW.trod_int Try.underlying3 (by simpa using g3)
      obtain ⟨a, cap, l, q2, h2, h3, h4⟩ := open_txt (c := c2) (by simpa using g2)
      simp at q0 q1 q3
      subst q0 q1 q2 q3
      exact ⟨⟨ds, mm, l, u⟩, a, cap, rfl, h2, h3, h4, w0⟩

/-- A list that can be read as data, of any kind whose elements can. -/
theorem open_ls {α : Type} [Inhabited α] (K : Kd α) {H : Type} {enc : TypeId × Value → H} {W : World} {sl el : TypeId} (hs : Try.prog.underlying sl = some (.slice el)) (hC : Try.prog.cellsOf el = K.n)
    (hel : ∀ {m : Nat} {cs : List Value} {x : DataW H × List MemPlace}, DataW.trod enc Try.prog W 0 (fun _ => true) true m el cs = some x → ∃ T : α, K.at_ W 0 T cs) {fuel : Nat} {c : Value} {x : DataW H × List MemPlace} (h : DataW.trod enc Try.prog W 0 (fun _ => true) true fuel sl [c] = some x) :
    ∃ (P : List α) (a : Option Addr) (cap : Nat), c = .slice a P.length cap ∧ K.Ls W 0 a P ∧ P.length ≤ maxLen := by
  rcases DataW.trod_slice hs h with ⟨h0, _⟩ | ⟨a, len, cap, elems, rest, m, hm, h0, _, _, hlc, hcm, hel', hget, _⟩
  · simp at h0
    exact ⟨[], none, 0, by simpa using h0, fun k p hk => by simp at hk, by simp⟩
  · simp at h0
    subst h0
    rw [hC] at hget
    have hk : ∀ i, i < len → ∃ T : α, ∃ b o cs, a = ⟨b, o, none⟩ ∧ W.rangeAt b (o + i * K.n) cs ∧ K.at_ W 0 T cs := fun i hi => by
      have hb := hget i hi
      rw [List.getElem?_eq_getElem (by omega)] at hb
      obtain ⟨cs', c1', c2'⟩ := Option.bind_eq_some_iff.1 hb
      obtain ⟨T, hT⟩ := hel c2'
      obtain ⟨_, hl4, hcell⟩ := World.cells?_some c1'
      have hpos := K.pos
      have hsp : a.spot = none := by
        have h0c := hget 0 (by omega)
        rw [List.getElem?_eq_getElem (by omega)] at h0c
        obtain ⟨cs0, d1', d2'⟩ := Option.bind_eq_some_iff.1 h0c
        obtain ⟨T0, hT0⟩ := hel d2'
        obtain ⟨_, hl0, hcell0⟩ := World.cells?_some d1'
        have h000 := hcell0 0 (by omega)
        rw [List.getElem?_eq_getElem (by rw [K.len hT0]; exact hpos)] at h000
        have := World.cell?_spot h000
        simpa [Addr.add] using this
      obtain ⟨b, o, sp⟩ := a
      simp only at hsp
      subst hsp
      refine ⟨T, b, o, cs', rfl, fun j v hj => ?_, hT⟩
      have hjl : j < K.n := by rw [← K.len hT]; exact (List.getElem?_eq_some_iff.1 hj).1
      have := hcell j (by omega)
      rw [hj] at this
      rw [Addr.add_mid, Addr.add_mid] at this
      exact this
    obtain ⟨Fp, hF⟩ := choose_ltW (α := α) (p := fun i T => ∃ b o cs, a = ⟨b, o, none⟩ ∧ W.rangeAt b (o + i * K.n) cs ∧ K.at_ W 0 T cs) hk
    refine ⟨(List.range len).map Fp, some a, cap, by simp, fun k t hkt => ?_, by simp; omega⟩
    have hkl : k < len := by
      by_cases hq : k < len
      · exact hq
      · rw [List.getElem?_eq_none (by simp; omega)] at hkt; cases hkt
    simp [hkl] at hkt
    subst hkt
    obtain ⟨b, o, cs, rfl, hr, hA⟩ := hF k hkl
    exact ⟨b, o, cs, rfl, Nat.zero_le _, hr, hA⟩

set_option maxRecDepth 100000 in
set_option maxHeartbeats 4000000 in
theorem ho_cells {H : Type} {enc : TypeId × Value → H} {W : World} {fuel : Nat} {cs : List Value} {x : DataW H × List MemPlace} (hf : DataW.trod enc Try.prog W 0 (fun _ => true) true fuel 76 cs = some x) : ∃ T : Ho, hoAt W 0 T cs := by
  obtain ⟨xs, m, hfu, hx, hl, hlen, hg⟩ := DataW.trod_struct Try.underlying76 hf
  rw [cellsW76] at hl
  have g0 : DataW.trod enc Try.prog W 0 (fun _ => true) true m 9 ((cs.drop 0).take (Try.prog.cellsOf 9)) = xs[0]? := hg 0 _ rfl
  rw [cellsW9] at g0
  have g1 : DataW.trod enc Try.prog W 0 (fun _ => true) true m 3 ((cs.drop 1).take (Try.prog.cellsOf 3)) = xs[1]? := hg 1 _ rfl
  rw [cellsW3] at g1
  have g2 : DataW.trod enc Try.prog W 0 (fun _ => true) true m 4 ((cs.drop 2).take (Try.prog.cellsOf 4)) = xs[2]? := hg 2 _ rfl
  rw [cellsW4] at g2
  match cs, hl with
  | [k0, k1, k2], _ =>
    match xs, hlen with
    | [y0, y1, y2], _ =>
      obtain ⟨nm, q0, _, w0⟩ := DataW.trod_string Try.underlying9 (by simpa using g0)
      obtain ⟨ke, q1, _, w1⟩ := DataW.trod_int Try.underlying3 (by simpa using g1)
      obtain ⟨lo, q2, _⟩ := DataW.trod_bool Try.underlying4 (by simpa using g2)
      simp at q0 q1 q2
      subst q0 q1 q2
      exact ⟨⟨nm, ke, lo⟩, rfl, w0⟩

set_option maxRecDepth 100000 in
set_option maxHeartbeats 4000000 in
theorem le_cells {H : Type} {enc : TypeId × Value → H} {W : World} {fuel : Nat} {cs : List Value} {x : DataW H × List MemPlace} (hf : DataW.trod enc Try.prog W 0 (fun _ => true) true fuel 79 cs = some x) : ∃ T : Le, leAt W 0 T cs := by
  obtain ⟨xs, m, hfu, hx, hl, hlen, hg⟩ := DataW.trod_struct Try.underlying79 hf
  rw [cellsW79] at hl
  have g0 : DataW.trod enc Try.prog W 0 (fun _ => true) true m 9 ((cs.drop 0).take (Try.prog.cellsOf 9)) = xs[0]? := hg 0 _ rfl
  rw [cellsW9] at g0
  have g1 : DataW.trod enc Try.prog W 0 (fun _ => true) true m 3 ((cs.drop 1).take (Try.prog.cellsOf 3)) = xs[1]? := hg 1 _ rfl
  rw [cellsW3] at g1
  have g2 : DataW.trod enc Try.prog W 0 (fun _ => true) true m 3 ((cs.drop 2).take (Try.prog.cellsOf 3)) = xs[2]? := hg 2 _ rfl
  rw [cellsW3] at g2
  have g3 : DataW.trod enc Try.prog W 0 (fun _ => true) true m 3 ((cs.drop 3).take (Try.prog.cellsOf 3)) = xs[3]? := hg 3 _ rfl
  rw [cellsW3] at g3
  have g4 : DataW.trod enc Try.prog W 0 (fun _ => true) true m 3 ((cs.drop 4).take (Try.prog.cellsOf 3)) = xs[4]? := hg 4 _ rfl
  rw [cellsW3] at g4
  match cs, hl with
  | [k0, k1, k2, k3, k4], _ =>
    match xs, hlen with
    | [y0, y1, y2, y3, y4], _ =>
      obtain ⟨d, q0, _, w0⟩ := DataW.trod_string Try.underlying9 (by simpa using g0)
      obtain ⟨b, q1, _, w1⟩ := DataW.trod_int Try.underlying3 (by simpa using g1)
      obtain ⟨s, q2, _, w2⟩ := DataW.trod_int Try.underlying3 (by simpa using g2)
      obtain ⟨t, q3, _, w3⟩ := DataW.trod_int Try.underlying3 (by simpa using g3)
      obtain ⟨n, q4, _, w4⟩ := DataW.trod_int Try.underlying3 (by simpa using g4)
      simp at q0 q1 q2 q3 q4
      subst q0 q1 q2 q3 q4
      exact ⟨⟨d, b, s, t, n⟩, rfl, w0⟩

theorem tm_cells {H : Type} {enc : TypeId × Value → H} {W : World} {fuel : Nat} {cs : List Value} {x : DataW H × List MemPlace} (hf : DataW.trod enc Try.prog W 0 (fun _ => true) true fuel 70 cs = some x) : ∃ t : Tm, Lies W 0 t cs :=
  open_tm (t := 22) (e := 70) (tint := 3) (tstr := 9) Try.underlying70 (by kernel_rfl) cellsW70 rfl rfl rfl rfl Try.underlying3 Try.underlying9 Try.underlying22 fuel _ _ hf
theorem po_cells {H : Type} {enc : TypeId × Value → H} {W : World} {fuel : Nat} {cs : List Value} {x : DataW H × List MemPlace} (hf : DataW.trod enc Try.prog W 0 (fun _ => true) true fuel 74 cs = some x) : ∃ p : Pol, poAt W 0 p cs := by
  obtain ⟨p, a, cap, rfl, h1, h2⟩ := pol_cells hf
  exact ⟨p, h2, a, cap, rfl, h1⟩

set_option maxRecDepth 100000 in
set_option maxHeartbeats 4000000 in
theorem cl_cells {H : Type} {enc : TypeId × Value → H} {W : World} {fuel : Nat} {cs : List Value} {x : DataW H × List MemPlace} (hf : DataW.trod enc Try.prog W 0 (fun _ => true) true fuel 82 cs = some x) : ∃ T : Cl, clAt W 0 T cs := by
  obtain ⟨xs, m, hfu, hx, hl, hlen, hg⟩ := DataW.trod_struct Try.underlying82 hf
  rw [cellsW82] at hl
  have g0 : DataW.trod enc Try.prog W 0 (fun _ => true) true m 3 ((cs.drop 0).take (Try.prog.cellsOf 3)) = xs[0]? := hg 0 _ rfl
  rw [cellsW3] at g0
  have g1 : DataW.trod enc Try.prog W 0 (fun _ => true) true m 9 ((cs.drop 1).take (Try.prog.cellsOf 9)) = xs[1]? := hg 1 _ rfl
  rw [cellsW9] at g1
  have g2 : DataW.trod enc Try.prog W 0 (fun _ => true) true m 4 ((cs.drop 2).take (Try.prog.cellsOf 4)) = xs[2]? := hg 2 _ rfl
  rw [cellsW4] at g2
  have g3 : DataW.trod enc Try.prog W 0 (fun _ => true) true m 3 ((cs.drop 3).take (Try.prog.cellsOf 3)) = xs[3]? := hg 3 _ rfl
  rw [cellsW3] at g3
  have g4 : DataW.trod enc Try.prog W 0 (fun _ => true) true m 3 ((cs.drop 4).take (Try.prog.cellsOf 3)) = xs[4]? := hg 4 _ rfl
  rw [cellsW3] at g4
  have g5 : DataW.trod enc Try.prog W 0 (fun _ => true) true m 70 ((cs.drop 5).take (Try.prog.cellsOf 70)) = xs[5]? := hg 5 _ rfl
  rw [cellsW70] at g5
  have g6 : DataW.trod enc Try.prog W 0 (fun _ => true) true m 3 ((cs.drop 9).take (Try.prog.cellsOf 3)) = xs[6]? := hg 6 _ rfl
  rw [cellsW3] at g6
  have g7 : DataW.trod enc Try.prog W 0 (fun _ => true) true m 3 ((cs.drop 10).take (Try.prog.cellsOf 3)) = xs[7]? := hg 7 _ rfl
  rw [cellsW3] at g7
  have g8 : DataW.trod enc Try.prog W 0 (fun _ => true) true m 4 ((cs.drop 11).take (Try.prog.cellsOf 4)) = xs[8]? := hg 8 _ rfl
  rw [cellsW4] at g8
  have g9 : DataW.trod enc Try.prog W 0 (fun _ => true) true m 4 ((cs.drop 12).take (Try.prog.cellsOf 4)) = xs[9]? := hg 9 _ rfl
  rw [cellsW4] at g9
  match cs, hl with
  | [k0, k1, k2, k3, k4, k5, k6, k7, k8, k9, k10, k11, k12], _ =>
    match xs, hlen with
    | [y0, y1, y2, y3, y4, y5, y6, y7, y8, y9], _ =>
      obtain ⟨st, q0, _, w0⟩ := DataW.trod_int Try.underlying3 (by simpa using g0)
      obtain ⟨h, q1, _, w1⟩ := DataW.trod_string Try.underlying9 (by simpa using g1)
      obtain ⟨mu, q2, _⟩ := DataW.trod_bool Try.underlying4 (by simpa using g2)
      obtain ⟨ep, q3, _, w3⟩ := DataW.trod_int Try.underlying3 (by simpa using g3)
      obtain ⟨bo, q4, _, w4⟩ := DataW.trod_int Try.underlying3 (by simpa using g4)
      obtain ⟨T, hT5⟩ := open_tm (t := 22) (e := 70) (tint := 3) (tstr := 9) Try.underlying70 (by kernel_rfl) cellsW70 rfl rfl rfl rfl Try.underlying3 Try.underlying9 Try.underlying22 m _ _ (show DataW.trod enc Try.prog W 0 (fun _ => true) true m 70 [k5, k6, k7, k8] = some _ by simpa using g5)
      obtain ⟨op5, n5, s5, a5, len5, cap5, he5⟩ := hT5.cells
      rw [he5] at hT5
      obtain ⟨ii, q6, _, w6⟩ := DataW.trod_int Try.underlying3 (by simpa using g6)
      obtain ⟨o, q7, _, w7⟩ := DataW.trod_int Try.underlying3 (by simpa using g7)
      obtain ⟨tl, q8, _⟩ := DataW.trod_bool Try.underlying4 (by simpa using g8)
      obtain ⟨pr, q9, _⟩ := DataW.trod_bool Try.underlying4 (by simpa using g9)
      simp at q0 q1 q2 q3 q4 q6 q7 q8 q9
      subst q0 q1 q2 q3 q4 q6 q7 q8 q9
      simp [tmCells] at he5
      obtain ⟨rfl, rfl, rfl, rfl⟩ := he5
      exact ⟨⟨st, h, mu, ep, bo, T, ii, o, tl, pr⟩, w1, op5, n5, s5, a5, len5, cap5, rfl, hT5⟩

set_option maxRecDepth 100000 in
set_option maxHeartbeats 4000000 in
theorem sv_cells {H : Type} {enc : TypeId × Value → H} {W : World} {fuel : Nat} {cs : List Value} {x : DataW H × List MemPlace} (hf : DataW.trod enc Try.prog W 0 (fun _ => true) true fuel 87 cs = some x) : ∃ T : Sv, svAt W 0 T cs := by
  obtain ⟨xs, m, hfu, hx, hl, hlen, hg⟩ := DataW.trod_struct Try.underlying87 hf
  rw [cellsW87] at hl
  have g0 : DataW.trod enc Try.prog W 0 (fun _ => true) true m 3 ((cs.drop 0).take (Try.prog.cellsOf 3)) = xs[0]? := hg 0 _ rfl
  rw [cellsW3] at g0
  have g1 : DataW.trod enc Try.prog W 0 (fun _ => true) true m 9 ((cs.drop 1).take (Try.prog.cellsOf 9)) = xs[1]? := hg 1 _ rfl
  rw [cellsW9] at g1
  have g2 : DataW.trod enc Try.prog W 0 (fun _ => true) true m 3 ((cs.drop 2).take (Try.prog.cellsOf 3)) = xs[2]? := hg 2 _ rfl
  rw [cellsW3] at g2
  have g3 : DataW.trod enc Try.prog W 0 (fun _ => true) true m 3 ((cs.drop 3).take (Try.prog.cellsOf 3)) = xs[3]? := hg 3 _ rfl
  rw [cellsW3] at g3
  have g4 : DataW.trod enc Try.prog W 0 (fun _ => true) true m 70 ((cs.drop 4).take (Try.prog.cellsOf 70)) = xs[4]? := hg 4 _ rfl
  rw [cellsW70] at g4
  have g5 : DataW.trod enc Try.prog W 0 (fun _ => true) true m 70 ((cs.drop 8).take (Try.prog.cellsOf 70)) = xs[5]? := hg 5 _ rfl
  rw [cellsW70] at g5
  have g6 : DataW.trod enc Try.prog W 0 (fun _ => true) true m 3 ((cs.drop 12).take (Try.prog.cellsOf 3)) = xs[6]? := hg 6 _ rfl
  rw [cellsW3] at g6
  have g7 : DataW.trod enc Try.prog W 0 (fun _ => true) true m 3 ((cs.drop 13).take (Try.prog.cellsOf 3)) = xs[7]? := hg 7 _ rfl
  rw [cellsW3] at g7
  have g8 : DataW.trod enc Try.prog W 0 (fun _ => true) true m 4 ((cs.drop 14).take (Try.prog.cellsOf 4)) = xs[8]? := hg 8 _ rfl
  rw [cellsW4] at g8
  have g9 : DataW.trod enc Try.prog W 0 (fun _ => true) true m 28 ((cs.drop 15).take (Try.prog.cellsOf 28)) = xs[9]? := hg 9 _ rfl
  rw [cellsW28] at g9
  match cs, hl with
  | [k0, k1, k2, k3, k4, k5, k6, k7, k8, k9, k10, k11, k12, k13, k14, k15], _ =>
    match xs, hlen with
    | [y0, y1, y2, y3, y4, y5, y6, y7, y8, y9], _ =>
      obtain ⟨st, q0, _, w0⟩ := DataW.trod_int Try.underlying3 (by simpa using g0)
      obtain ⟨h, q1, _, w1⟩ := DataW.trod_string Try.underlying9 (by simpa using g1)
      obtain ⟨ke, q2, _, w2⟩ := DataW.trod_int Try.underlying3 (by simpa using g2)
      obtain ⟨ep, q3, _, w3⟩ := DataW.trod_int Try.underlying3 (by simpa using g3)
      obtain ⟨T, hT4⟩ := open_tm (t := 22) (e := 70) (tint := 3) (tstr := 9) Try.underlying70 (by kernel_rfl) cellsW70 rfl rfl rfl rfl Try.underlying3 Try.underlying9 Try.underlying22 m _ _ (show DataW.trod enc Try.prog W 0 (fun _ => true) true m 70 [k4, k5, k6, k7] = some _ by simpa using g4)
      obtain ⟨op4, n4, s4, a4, len4, cap4, he4⟩ := hT4.cells
      rw [he4] at hT4
      obtain ⟨U, hT5⟩ := open_tm (t := 22) (e := 70) (tint := 3) (tstr := 9) Try.underlying70 (by kernel_rfl) cellsW70 rfl rfl rfl rfl Try.underlying3 Try.underlying9 Try.underlying22 m _ _ (show DataW.trod enc Try.prog W 0 (fun _ => true) true m 70 [k8, k9, k10, k11] = some _ by simpa using g5)
      obtain ⟨op5, n5, s5, a5, len5, cap5, he5⟩ := hT5.cells
      rw [he5] at hT5
      obtain ⟨ii, q6, _, w6⟩ := DataW.trod_int Try.underlying3 (by simpa using g6)
      obtain ⟨o, q7, _, w7⟩ := DataW.trod_int Try.underlying3 (by simpa using g7)
      obtain ⟨tl, q8, _⟩ := DataW.trod_bool Try.underlying4 (by simpa using g8)
      obtain ⟨ai9, ci9, l, q9, hI9, hm9⟩ := open_ins (c := k15) (by simpa using g9)
      simp at q0 q1 q2 q3 q6 q7 q8
      subst q0 q1 q2 q3 q6 q7 q8 q9
      simp [tmCells] at he4
      obtain ⟨rfl, rfl, rfl, rfl⟩ := he4
      simp [tmCells] at he5
      obtain ⟨rfl, rfl, rfl, rfl⟩ := he5
      exact ⟨⟨st, h, ke, ep, T, U, ii, o, tl, l⟩, w1, hm9, op4, n4, s4, a4, len4, cap4, op5, n5, s5, a5, len5, cap5, ai9, ci9, rfl, hT4, hT5, hI9⟩

set_option maxRecDepth 100000 in
set_option maxHeartbeats 4000000 in
theorem ca_cells {H : Type} {enc : TypeId × Value → H} {W : World} {fuel : Nat} {cs : List Value} {x : DataW H × List MemPlace} (hf : DataW.trod enc Try.prog W 0 (fun _ => true) true fuel 84 cs = some x) : ∃ T : Ca, caAt W 0 T cs := by
  obtain ⟨xs, m, hfu, hx, hl, hlen, hg⟩ := DataW.trod_struct Try.underlying84 hf
  rw [cellsW84] at hl
  have g0 : DataW.trod enc Try.prog W 0 (fun _ => true) true m 3 ((cs.drop 0).take (Try.prog.cellsOf 3)) = xs[0]? := hg 0 _ rfl
  rw [cellsW3] at g0
  have g1 : DataW.trod enc Try.prog W 0 (fun _ => true) true m 82 ((cs.drop 1).take (Try.prog.cellsOf 82)) = xs[1]? := hg 1 _ rfl
  rw [cellsW82] at g1
  have g2 : DataW.trod enc Try.prog W 0 (fun _ => true) true m 4 ((cs.drop 14).take (Try.prog.cellsOf 4)) = xs[2]? := hg 2 _ rfl
  rw [cellsW4] at g2
  match cs, hl with
  | [k0, k1, k2, k3, k4, k5, k6, k7, k8, k9, k10, k11, k12, k13, k14], _ =>
    match xs, hlen with
    | [y0, y1, y2], _ =>
      obtain ⟨k, q0, _, w0⟩ := DataW.trod_int Try.underlying3 (by simpa using g0)
      obtain ⟨c, hS1⟩ := cl_cells (show DataW.trod enc Try.prog W 0 (fun _ => true) true m 82 [k1, k2, k3, k4, k5, k6, k7, k8, k9, k10, k11, k12, k13] = some _ by simpa using g1)
      obtain ⟨g, q2, _⟩ := DataW.trod_bool Try.underlying4 (by simpa using g2)
      simp at q0 q2
      subst q0 q2
      exact ⟨⟨k, c, g⟩, _, rfl, hS1⟩

set_option maxRecDepth 100000 in
set_option maxHeartbeats 4000000 in
theorem ta_cells {H : Type} {enc : TypeId × Value → H} {W : World} {fuel : Nat} {cs : List Value} {x : DataW H × List MemPlace} (hf : DataW.trod enc Try.prog W 0 (fun _ => true) true fuel 89 cs = some x) : ∃ T : Ta, taAt W 0 T cs := by
  obtain ⟨xs, m, hfu, hx, hl, hlen, hg⟩ := DataW.trod_struct Try.underlying89 hf
  rw [cellsW89] at hl
  have g0 : DataW.trod enc Try.prog W 0 (fun _ => true) true m 3 ((cs.drop 0).take (Try.prog.cellsOf 3)) = xs[0]? := hg 0 _ rfl
  rw [cellsW3] at g0
  have g1 : DataW.trod enc Try.prog W 0 (fun _ => true) true m 87 ((cs.drop 1).take (Try.prog.cellsOf 87)) = xs[1]? := hg 1 _ rfl
  rw [cellsW87] at g1
  match cs, hl with
  | [k0, k1, k2, k3, k4, k5, k6, k7, k8, k9, k10, k11, k12, k13, k14, k15, k16], _ =>
    match xs, hlen with
    | [y0, y1], _ =>
      obtain ⟨k, q0, _, w0⟩ := DataW.trod_int Try.underlying3 (by simpa using g0)
      obtain ⟨c, hS1⟩ := sv_cells (show DataW.trod enc Try.prog W 0 (fun _ => true) true m 87 [k1, k2, k3, k4, k5, k6, k7, k8, k9, k10, k11, k12, k13, k14, k15, k16] = some _ by simpa using g1)
      simp at q0
      subst q0
      exact ⟨⟨k, c⟩, _, rfl, hS1⟩

set_option maxRecDepth 100000 in
set_option maxHeartbeats 4000000 in
theorem wd_cells {H : Type} {enc : TypeId × Value → H} {W : World} {fuel : Nat} {cs : List Value} {x : DataW H × List MemPlace} (hf : DataW.trod enc Try.prog W 0 (fun _ => true) true fuel 30 cs = some x) : ∃ T : Wd, wdAt W 0 T cs := by
  obtain ⟨xs, m, hfu, hx, hl, hlen, hg⟩ := DataW.trod_struct Try.underlying30 hf
  rw [cellsW30] at hl
  have g0 : DataW.trod enc Try.prog W 0 (fun _ => true) true m 3 ((cs.drop 0).take (Try.prog.cellsOf 3)) = xs[0]? := hg 0 _ rfl
  rw [cellsW3] at g0
  have g1 : DataW.trod enc Try.prog W 0 (fun _ => true) true m 3 ((cs.drop 1).take (Try.prog.cellsOf 3)) = xs[1]? := hg 1 _ rfl
  rw [cellsW3] at g1
  have g2 : DataW.trod enc Try.prog W 0 (fun _ => true) true m 22 ((cs.drop 2).take (Try.prog.cellsOf 22)) = xs[2]? := hg 2 _ rfl
  rw [cellsW22] at g2
  have g3 : DataW.trod enc Try.prog W 0 (fun _ => true) true m 23 ((cs.drop 3).take (Try.prog.cellsOf 23)) = xs[3]? := hg 3 _ rfl
  rw [cellsW23] at g3
  have g4 : DataW.trod enc Try.prog W 0 (fun _ => true) true m 24 ((cs.drop 4).take (Try.prog.cellsOf 24)) = xs[4]? := hg 4 _ rfl
  rw [cellsW24] at g4
  have g5 : DataW.trod enc Try.prog W 0 (fun _ => true) true m 25 ((cs.drop 5).take (Try.prog.cellsOf 25)) = xs[5]? := hg 5 _ rfl
  rw [cellsW25] at g5
  have g6 : DataW.trod enc Try.prog W 0 (fun _ => true) true m 9 ((cs.drop 6).take (Try.prog.cellsOf 9)) = xs[6]? := hg 6 _ rfl
  rw [cellsW9] at g6
  have g7 : DataW.trod enc Try.prog W 0 (fun _ => true) true m 3 ((cs.drop 7).take (Try.prog.cellsOf 3)) = xs[7]? := hg 7 _ rfl
  rw [cellsW3] at g7
  have g8 : DataW.trod enc Try.prog W 0 (fun _ => true) true m 26 ((cs.drop 8).take (Try.prog.cellsOf 26)) = xs[8]? := hg 8 _ rfl
  rw [cellsW26] at g8
  have g9 : DataW.trod enc Try.prog W 0 (fun _ => true) true m 27 ((cs.drop 9).take (Try.prog.cellsOf 27)) = xs[9]? := hg 9 _ rfl
  rw [cellsW27] at g9
  have g10 : DataW.trod enc Try.prog W 0 (fun _ => true) true m 28 ((cs.drop 10).take (Try.prog.cellsOf 28)) = xs[10]? := hg 10 _ rfl
  rw [cellsW28] at g10
  match cs, hl with
  | [k0, k1, k2, k3, k4, k5, k6, k7, k8, k9, k10], _ =>
    match xs, hlen with
    | [y0, y1, y2, y3, y4, y5, y6, y7, y8, y9, y10], _ =>
      obtain ⟨ti, q0, _, w0⟩ := DataW.trod_int Try.underlying3 (by simpa using g0)
      obtain ⟨fr, q1, _, w1⟩ := DataW.trod_int Try.underlying3 (by simpa using g1)
      obtain ⟨P2, a2, c2, q2, hP2, hm2⟩ := open_ls tmK Try.underlying22 cellsW70 (fun {_ _ _} h => tm_cells h) (c := k2) (show DataW.trod enc Try.prog W 0 (fun _ => true) true m 22 [k2] = some _ by simpa using g2)
      obtain ⟨P3, a3, c3, q3, hP3, hm3⟩ := open_ls poK Try.underlying23 cellsW74 (fun {_ _ _} h => po_cells h) (c := k3) (show DataW.trod enc Try.prog W 0 (fun _ => true) true m 23 [k3] = some _ by simpa using g3)
      obtain ⟨P4, a4, c4, q4, hP4, hm4⟩ := open_ls hoK Try.underlying24 cellsW76 (fun {_ _ _} h => ho_cells h) (c := k4) (show DataW.trod enc Try.prog W 0 (fun _ => true) true m 24 [k4] = some _ by simpa using g4)
      obtain ⟨P5, a5, c5, q5, hP5, hm5⟩ := open_ls leK Try.underlying25 cellsW79 (fun {_ _ _} h => le_cells h) (c := k5) (show DataW.trod enc Try.prog W 0 (fun _ => true) true m 25 [k5] = some _ by simpa using g5)
      obtain ⟨bk, q6, _, w6⟩ := DataW.trod_string Try.underlying9 (by simpa using g6)
      obtain ⟨su, q7, _, w7⟩ := DataW.trod_int Try.underlying3 (by simpa using g7)
      obtain ⟨P8, a8, c8, q8, hP8, hm8⟩ := open_ls caK Try.underlying26 cellsW84 (fun {_ _ _} h => ca_cells h) (c := k8) (show DataW.trod enc Try.prog W 0 (fun _ => true) true m 26 [k8] = some _ by simpa using g8)
      obtain ⟨P9, a9, c9, q9, hP9, hm9⟩ := open_ls taK Try.underlying27 cellsW89 (fun {_ _ _} h => ta_cells h) (c := k9) (show DataW.trod enc Try.prog W 0 (fun _ => true) true m 27 [k9] = some _ by simpa using g9)
      obtain ⟨ai10, ci10, l, q10, hI10, hm10⟩ := open_ins (c := k10) (by simpa using g10)
      simp at q0 q1 q6 q7
      subst q0 q1 q2 q3 q4 q5 q6 q7 q8 q9 q10
      exact ⟨⟨ti, fr, P2, P3, P4, P5, bk, su, P8, P9, l⟩, ⟨hm2, hm3, hm4, hm5, hm8, hm9, hm10, w6⟩, a2, c2, a3, c3, a4, c4, a5, c5, a8, c8, a9, c9, ai10, ci10, rfl, hP2, hP3, hP4, hP5, hP8, hP9, hI10⟩

set_option maxRecDepth 100000 in
set_option maxHeartbeats 4000000 in
theorem open_world {H : Type} {enc : TypeId × Value → H} {W : World} {base : Nat} {v : Value} {d : DataW H} {p : List MemPlace} (hv : Value.okWide Try.prog W .any base 30 v) (h : DataW.Trod enc Try.prog W 0 (fun _ => true) true 30 v d p) :
    ∃ (X : Wd) (cs : List Value), v = .agg cs.toArray ∧ wdAt W 0 X cs := by
  obtain ⟨cs, rfl, hsz⟩ := okWide_struct Try.underlying30 hv
  obtain ⟨fuel, hf⟩ := h
  obtain ⟨X, hX⟩ := wd_cells hf
  exact ⟨X, _, by simp [Value.cells], hX⟩

end Go.Proofs.Ytepmgjklonhkgaa
