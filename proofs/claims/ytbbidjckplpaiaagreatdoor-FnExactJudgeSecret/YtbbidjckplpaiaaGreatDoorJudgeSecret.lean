/- For every world that can be read as data, FnExactJudgeSecret returns true and leaves its arguments as they were: impl.JudgeSecret answers as the model does, at every argument, writes into none, and its answer owns its memory. Conditions: the row's own; the package-level variables that it lists begin as the program's text lays them, which the card ties to the pruned copy of the program. An argument of the laws' own term type, opened: the term that it is, and that it lies in memory. An argument that is a world of the laws' own, opened: what it holds, and that it lies in memory. The variables that the row lists, as the program lays them. -/
import Derived.Test.YtbbidjckplpaiaaGreatDoorRows
import Derived.Test.YtbbidjckplpaiaaGreatDoorTm
import Derived.OpenShut
import Derived.ShutString
import Derived.ChangeOld
import Derived.Test.YtbbidjckplpaiaaGreatDoorWwd
import Derived.ChangeSlices
import Derived.Test.YtbbidjckplpaiaaGreatDoorLg
import Derived.ProofKit
import Derived.LaidMore
import Derived.MakeChecks
import Derived.LaidHandle
import Derived.Stop.LaidErr
import Derived.Stop.LaidTwo
import Derived.Stop.Joined
import Derived.SevenTiedAt
import Derived.Test.YtbbidjckplpaiaaGreatDoorLjSecret
import Derived.Test.YtbbidjckplpaiaaGreatDoorTie
import Derived.Test.YtbbidjckplpaiaaGreatDoorCards
namespace Go.Proofs.YtbbidjckplpaiaaGreatDoor
open Go.ChangeShapes Go.WideShapes Go.ChangeAt Go.RowKit Go.Deep

set_option maxRecDepth 100000 in
theorem own : ownKnob Tryz.prog.godebug = none := by kernel_rfl
set_option maxRecDepth 100000 in
theorem laidOut : laidOutB Tryz.prog = true := by kernel_rfl
theorem cells24 : Tryz.prog.cellsOf 77 = 4 := by kernel_rfl

set_option maxRecDepth 100000 in
/-- An argument of the laws' own term type, opened. -/
theorem open_arg {H : Type} {enc : TypeId × Value → H} {W : World} {base : Nat} {v : Value} {d : DataW H} {p : List MemPlace} (hv : Value.okWide Tryz.prog W .any base 77 v) (h : DataW.Trod enc Tryz.prog W 0 (fun _ => true) true 77 v d p) :
    ∃ (t : Tm) (op n : Int) (s : ByteArray) (a : Option Addr) (len cap : Nat), v = .agg #[.int .i64 op, .int .i64 n, .string s, .slice a len cap] ∧ Lies W 0 t (tmCells op n s a len cap) := by
  obtain ⟨cs, rfl, hsz⟩ := okWide_struct Tryz.underlying77 hv
  obtain ⟨fuel, hf⟩ := h
  obtain ⟨T, hT⟩ := open_tm (t := 22) (e := 77) (tint := 3) (tstr := 9) Tryz.underlying77 (by kernel_rfl) cells24 rfl rfl rfl rfl Tryz.underlying3 Tryz.underlying9 Tryz.underlying22 fuel _ _ hf
  obtain ⟨op, n, s, a, len, cap, he⟩ := hT.cells
  rw [he] at hT
  refine ⟨T, op, n, s, a, len, cap, ?_, hT⟩
  have : cs = #[.int .i64 op, .int .i64 n, .string s, .slice a len cap] := by
    apply Array.ext'
    simpa [Value.cells, tmCells] using he
  rw [this]

theorem cellsW3 : Tryz.prog.cellsOf 3 = 1 := by kernel_rfl
theorem cellsW4 : Tryz.prog.cellsOf 4 = 1 := by kernel_rfl
theorem cellsW9 : Tryz.prog.cellsOf 9 = 1 := by kernel_rfl
theorem cellsW22 : Tryz.prog.cellsOf 22 = 1 := by kernel_rfl
theorem cellsW23 : Tryz.prog.cellsOf 23 = 1 := by kernel_rfl
theorem cellsW24 : Tryz.prog.cellsOf 24 = 1 := by kernel_rfl
theorem cellsW25 : Tryz.prog.cellsOf 25 = 1 := by kernel_rfl
theorem cellsW26 : Tryz.prog.cellsOf 26 = 1 := by kernel_rfl
theorem cellsW27 : Tryz.prog.cellsOf 27 = 1 := by kernel_rfl
theorem cellsW28 : Tryz.prog.cellsOf 28 = 1 := by kernel_rfl
theorem cellsW30 : Tryz.prog.cellsOf 30 = 11 := by kernel_rfl
theorem cellsW96 : Tryz.prog.cellsOf 77 = 4 := by kernel_rfl
theorem cellsW100 : Tryz.prog.cellsOf 81 = 4 := by kernel_rfl
theorem cellsW102 : Tryz.prog.cellsOf 84 = 3 := by kernel_rfl
theorem cellsW104 : Tryz.prog.cellsOf 86 = 5 := by kernel_rfl
theorem cellsW107 : Tryz.prog.cellsOf 89 = 13 := by kernel_rfl
theorem cellsW109 : Tryz.prog.cellsOf 91 = 15 := by kernel_rfl
theorem cellsW112 : Tryz.prog.cellsOf 94 = 16 := by kernel_rfl
theorem cellsW114 : Tryz.prog.cellsOf 96 = 17 := by kernel_rfl
theorem choose_ltW {α : Type} [Inhabited α] {n : Nat} {p : Nat → α → Prop} (h : ∀ i, i < n → ∃ x, p i x) : ∃ F : Nat → α, ∀ i, i < n → p i (F i) := by
  classical
  refine ⟨fun i => if hi : i < n then Classical.choose (h i hi) else default, fun i hi => ?_⟩
  simp only [hi, dif_pos]
  exact Classical.choose_spec (h i hi)
theorem cells24p : Tryz.prog.cellsOf 81 = 4 := by kernel_rfl
theorem cells9p : Tryz.prog.cellsOf 9 = 1 := by kernel_rfl
theorem cells3p : Tryz.prog.cellsOf 3 = 1 := by kernel_rfl
theorem cells22p : Tryz.prog.cellsOf 79 = 1 := by kernel_rfl
theorem cells3s : Tryz.prog.cellsOf 3 = 1 := by kernel_rfl

/-- A row of texts that can be read as data. -/
theorem open_txt {H : Type} {enc : TypeId × Value → H} {W : World} {m : Nat} {c : Value} {x : DataW H × List MemPlace} (h : DataW.trod enc Tryz.prog W 0 (fun _ => true) true m 79 [c] = some x) :
    ∃ (a : Option Addr) (cap : Nat) (l : List ByteArray), c = .slice a l.length cap ∧ Txt W 0 a l ∧ l.length ≤ maxLen ∧ ∀ t ∈ l, t.size ≤ maxLen := by
  rcases open_strings Tryz.underlying79 Tryz.underlying9 cells9p h with ⟨hcs, hx⟩ | ⟨a, len, cap, ss, hcs, _, hl, hm, hz, hx, hcell, hsz⟩
  · simp at hcs
    exact ⟨none, 0, [], by simpa using hcs, fun k t hk => by simp at hk, by simp, by simp⟩
  · simp at hcs hz
    subst hcs
    refine ⟨some a, cap, ss.take len, by simp [hz, hl], ?_, by simp; omega, fun t ht => hsz t (List.mem_of_mem_take ht)⟩
    intro k t hk
    have hkl : k < len ∧ k < ss.length := by
      have := (List.getElem?_eq_some_iff.1 hk).1
      simp at this
      omega
    have hc := hcell k hkl.2
    have h0 := World.cell?_spot (hcell 0 (by omega))
    obtain ⟨b, o, sp⟩ := a
    have hsp : sp = none := by simpa [Addr.add] using h0
    subst hsp
    refine ⟨b, o, rfl, Nat.zero_le _, ?_⟩
    have hget : ss.getD k ByteArray.empty = t := by
      rw [List.getElem?_take_of_lt hkl.1] at hk
      simp [List.getD, hk]
    rw [hget] at hc
    by_cases hk0 : k = 0
    · subst hk0
      simpa [Addr.add] using hc
    · simpa [Addr.add, hk0] using hc

/-- A row of ints that can be read as data. -/
theorem open_ins {H : Type} {enc : TypeId × Value → H} {W : World} {m : Nat} {c : Value} {x : DataW H × List MemPlace} (h : DataW.trod enc Tryz.prog W 0 (fun _ => true) true m 28 [c] = some x) :
    ∃ (a : Option Addr) (cap : Nat) (l : List Int), c = .slice a l.length cap ∧ Ints W 0 a l ∧ l.length ≤ maxLen := by
  rcases open_ints Tryz.underlying28 Tryz.underlying3 cells3s h with ⟨hcs, hx⟩ | ⟨a, len, cap, ss, hcs, _, hl, hm, hz, hx, hcell, hsz⟩
  · simp at hcs
    exact ⟨none, 0, [], by simpa using hcs, fun k t hk => by simp at hk, by simp⟩
  · simp at hcs hz
    subst hcs
    refine ⟨some a, cap, ss.take len, by simp [hz, hl], ?_, by simp; omega⟩
    intro k t hk
    have hkl : k < len ∧ k < ss.length := by
      have := (List.getElem?_eq_some_iff.1 hk).1
      simp at this
      omega
    have hc := hcell k hkl.2
    have h0 := World.cell?_spot (hcell 0 (by omega))
    obtain ⟨b, o, sp⟩ := a
    have hsp : sp = none := by simpa [Addr.add] using h0
    subst hsp
    refine ⟨b, o, rfl, Nat.zero_le _, ?_⟩
    have hget : ss.getD k 0 = t := by
      rw [List.getElem?_take_of_lt hkl.1] at hk
      simp [List.getD, hk]
    rw [hget] at hc
    by_cases hk0 : k = 0
    · subst hk0
      simpa [Addr.add] using hc
    · simpa [Addr.add, hk0] using hc

set_option maxRecDepth 100000 in
theorem pol_cells {H : Type} {enc : TypeId × Value → H} {W : World} {fuel : Nat} {cs : List Value} {x : DataW H × List MemPlace} (hf : DataW.trod enc Tryz.prog W 0 (fun _ => true) true fuel 81 cs = some x) :
    ∃ (p : Pol) (a : Option Addr) (cap : Nat), cs = polCells p a cap ∧ Txt W 0 a p.l ∧ polFit p := by
  obtain ⟨xs, m, hfu, hx, hl, hlen, hg⟩ := DataW.trod_struct Tryz.underlying81 hf
  rw [cells24p] at hl
  have g0 : DataW.trod enc Tryz.prog W 0 (fun _ => true) true m 9 ((cs.drop 0).take (Tryz.prog.cellsOf 9)) = xs[0]? := hg 0 _ rfl
  have g1 : DataW.trod enc Tryz.prog W 0 (fun _ => true) true m 3 ((cs.drop 1).take (Tryz.prog.cellsOf 3)) = xs[1]? := hg 1 _ rfl
  have g2 : DataW.trod enc Tryz.prog W 0 (fun _ => true) true m 79 ((cs.drop 2).take (Tryz.prog.cellsOf 79)) = xs[2]? := hg 2 _ rfl
  have g3 : DataW.trod enc Tryz.prog W 0 (fun _ => true) true m 3 ((cs.drop 3).take (Tryz.prog.cellsOf 3)) = xs[3]? := hg 3 _ rfl
  rw [cells9p] at g0
  rw [cells3p] at g1 g3
  rw [cells22p] at g2
  match cs, hl with
  | [c0, c1, c2, c3], _ =>
    match xs, hlen with
    | [y0, y1, y2, y3], _ =>
      obtain ⟨ds, q0, _, w0⟩ := DataW.trod_string Tryz.underlying9 (by simpa using g0)
      obtain ⟨mm, q1, _, w1⟩ := DataW.trod_int Tryz.underlying3 (by simpa using g1)
      obtain ⟨u, q3, _, w3⟩ := DataW.trod_int Tryz.underlying3 (by simpa using g3)
      obtain ⟨a, cap, l, q2, h2, h3, h4⟩ := open_txt (c := c2) (by simpa using g2)
      simp at q0 q1 q3
      subst q0 q1 q2 q3
      exact ⟨⟨ds, mm, l, u⟩, a, cap, rfl, h2, h3, h4, w0⟩

/-- A list that can be read as data, of any kind whose elements can. -/
theorem open_ls {α : Type} [Inhabited α] (K : Kd α) {H : Type} {enc : TypeId × Value → H} {W : World} {sl el : TypeId} (hs : Tryz.prog.underlying sl = some (.slice el)) (hC : Tryz.prog.cellsOf el = K.n)
    (hel : ∀ {m : Nat} {cs : List Value} {x : DataW H × List MemPlace}, DataW.trod enc Tryz.prog W 0 (fun _ => true) true m el cs = some x → ∃ T : α, K.at_ W 0 T cs) {fuel : Nat} {c : Value} {x : DataW H × List MemPlace} (h : DataW.trod enc Tryz.prog W 0 (fun _ => true) true fuel sl [c] = some x) :
    ∃ (P : List α) (a : Option Addr) (cap : Nat), c = .slice a P.length cap ∧ K.Ls W 0 a P ∧ P.length ≤ maxLen := by
  rcases DataW.trod_slice hs h with ⟨h0, _⟩ | ⟨a, len, cap, elems, rest, m, hm, h0, _, _, hlc, hcm, hel', hget, _⟩
  · simp at h0
    exact ⟨[], none, 0, by simpa using h0, fun k p hk => by simp at hk, by simp⟩
  · simp at h0
    subst h0
    rw [hC] at hget
    have hk : ∀ i, i < len → ∃ T : α, ∃ b o cs, a = ⟨b, o, none⟩ ∧ W.rangeAt b (o + i * K.n) cs ∧ K.at_ W 0 T cs := fun i hi => by
      have hb := hget i hi
      rw [List.getElem?_eq_getElem (by omega)] at hb
      obtain ⟨cs', c1', c2'⟩ := Option.bind_eq_some_iff.1 hb
      obtain ⟨T, hT⟩ := hel c2'
      obtain ⟨_, hl4, hcell⟩ := World.cells?_some c1'
      have hpos := K.pos
      have hsp : a.spot = none := by
        have h0c := hget 0 (by omega)
        rw [List.getElem?_eq_getElem (by omega)] at h0c
        obtain ⟨cs0, d1', d2'⟩ := Option.bind_eq_some_iff.1 h0c
        obtain ⟨T0, hT0⟩ := hel d2'
        obtain ⟨_, hl0, hcell0⟩ := World.cells?_some d1'
        have h000 := hcell0 0 (by omega)
        rw [List.getElem?_eq_getElem (by rw [K.len hT0]; exact hpos)] at h000
        have := World.cell?_spot h000
        simpa [Addr.add] using this
      obtain ⟨b, o, sp⟩ := a
      simp only at hsp
      subst hsp
      refine ⟨T, b, o, cs', rfl, fun j v hj => ?_, hT⟩
      have hjl : j < K.n := by rw [← K.len hT]; exact (List.getElem?_eq_some_iff.1 hj).1
      have := hcell j (by omega)
      rw [hj] at this
      rw [Addr.add_mid, Addr.add_mid] at this
      exact this
    obtain ⟨Fp, hF⟩ := choose_ltW (α := α) (p := fun i T => ∃ b o cs, a = ⟨b, o, none⟩ ∧ W.rangeAt b (o + i * K.n) cs ∧ K.at_ W 0 T cs) hk
    refine ⟨(List.range len).map Fp, some a, cap, by simp, fun k t hkt => ?_, by simp; omega⟩
    have hkl : k < len := by
      by_cases hq : k < len
      · exact hq
      · rw [List.getElem?_eq_none (by simp; omega)] at hkt; cases hkt
    simp [hkl] at hkt
    subst hkt
    obtain ⟨b, o, cs, rfl, hr, hA⟩ := hF k hkl
    exact ⟨b, o, cs, rfl, Nat.zero_le _, hr, hA⟩

set_option maxRecDepth 100000 in
set_option maxHeartbeats 4000000 in
theorem ho_cells {H : Type} {enc : TypeId × Value → H} {W : World} {fuel : Nat} {cs : List Value} {x : DataW H × List MemPlace} (hf : DataW.trod enc Tryz.prog W 0 (fun _ => true) true fuel 84 cs = some x) : ∃ T : Ho, hoAt W 0 T cs := by
  obtain ⟨xs, m, hfu, hx, hl, hlen, hg⟩ := DataW.trod_struct Tryz.underlying84 hf
  rw [cellsW102] at hl
  have g0 : DataW.trod enc Tryz.prog W 0 (fun _ => true) true m 9 ((cs.drop 0).take (Tryz.prog.cellsOf 9)) = xs[0]? := hg 0 _ rfl
  rw [cellsW9] at g0
  have g1 : DataW.trod enc Tryz.prog W 0 (fun _ => true) true m 3 ((cs.drop 1).take (Tryz.prog.cellsOf 3)) = xs[1]? := hg 1 _ rfl
  rw [cellsW3] at g1
  have g2 : DataW.trod enc Tryz.prog W 0 (fun _ => true) true m 4 ((cs.drop 2).take (Tryz.prog.cellsOf 4)) = xs[2]? := hg 2 _ rfl
  rw [cellsW4] at g2
  match cs, hl with
  | [k0, k1, k2], _ =>
    match xs, hlen with
    | [y0, y1, y2], _ =>
      obtain ⟨nm, q0, _, w0⟩ := DataW.trod_string Tryz.underlying9 (by simpa using g0)
      obtain ⟨ke, q1, _, w1⟩ := DataW.trod_int Tryz.underlying3 (by simpa using g1)
      obtain ⟨lo, q2, _⟩ := DataW.trod_bool Tryz.underlying4 (by simpa using g2)
      simp at q0 q1 q2
      subst q0 q1 q2
      exact ⟨⟨nm, ke, lo⟩, rfl, w0⟩

set_option maxRecDepth 100000 in
set_option maxHeartbeats 4000000 in
theorem le_cells {H : Type} {enc : TypeId × Value → H} {W : World} {fuel : Nat} {cs : List Value} {x : DataW H × List MemPlace} (hf : DataW.trod enc Tryz.prog W 0 (fun _ => true) true fuel 86 cs = some x) : ∃ T : Le, leAt W 0 T cs := by
  obtain ⟨xs, m, hfu, hx, hl, hlen, hg⟩ := DataW.trod_struct Tryz.underlying86 hf
  rw [cellsW104] at hl
  have g0 : DataW.trod enc Tryz.prog W 0 (fun _ => true) true m 9 ((cs.drop 0).take (Tryz.prog.cellsOf 9)) = xs[0]? := hg 0 _ rfl
  rw [cellsW9] at g0
  have g1 : DataW.trod enc Tryz.prog W 0 (fun _ => true) true m 3 ((cs.drop 1).take (Tryz.prog.cellsOf 3)) = xs[1]? := hg 1 _ rfl
  rw [cellsW3] at g1
  have g2 : DataW.trod enc Tryz.prog W 0 (fun _ => true) true m 3 ((cs.drop 2).take (Tryz.prog.cellsOf 3)) = xs[2]? := hg 2 _ rfl
  rw [cellsW3] at g2
  have g3 : DataW.trod enc Tryz.prog W 0 (fun _ => true) true m 3 ((cs.drop 3).take (Tryz.prog.cellsOf 3)) = xs[3]? := hg 3 _ rfl
  rw [cellsW3] at g3
  have g4 : DataW.trod enc Tryz.prog W 0 (fun _ => true) true m 3 ((cs.drop 4).take (Tryz.prog.cellsOf 3)) = xs[4]? := hg 4 _ rfl
  rw [cellsW3] at g4
  match cs, hl with
  | [k0, k1, k2, k3, k4], _ =>
    match xs, hlen with
    | [y0, y1, y2, y3, y4], _ =>
      obtain ⟨d, q0, _, w0⟩ := DataW.trod_string Tryz.underlying9 (by simpa using g0)
      obtain ⟨b, q1, _, w1⟩ := DataW.trod_int Tryz.underlying3 (by simpa using g1)
      obtain ⟨s, q2, _, w2⟩ := DataW.trod_int Tryz.underlying3 (by simpa using g2)
      obtain ⟨t, q3, _, w3⟩ := DataW.trod_int Tryz.underlying3 (by simpa using g3)
      obtain ⟨n, q4, _, w4⟩ := DataW.trod_int Tryz.underlying3 (by simpa using g4)
      simp at q0 q1 q2 q3 q4
      subst q0 q1 q2 q3 q4
      exact ⟨⟨d, b, s, t, n⟩, rfl, w0⟩

theorem tm_cells {H : Type} {enc : TypeId × Value → H} {W : World} {fuel : Nat} {cs : List Value} {x : DataW H × List MemPlace} (hf : DataW.trod enc Tryz.prog W 0 (fun _ => true) true fuel 77 cs = some x) : ∃ t : Tm, Lies W 0 t cs :=
  open_tm (t := 22) (e := 77) (tint := 3) (tstr := 9) Tryz.underlying77 (by kernel_rfl) cellsW96 rfl rfl rfl rfl Tryz.underlying3 Tryz.underlying9 Tryz.underlying22 fuel _ _ hf
theorem po_cells {H : Type} {enc : TypeId × Value → H} {W : World} {fuel : Nat} {cs : List Value} {x : DataW H × List MemPlace} (hf : DataW.trod enc Tryz.prog W 0 (fun _ => true) true fuel 81 cs = some x) : ∃ p : Pol, poAt W 0 p cs := by
  obtain ⟨p, a, cap, rfl, h1, h2⟩ := pol_cells hf
  exact ⟨p, h2, a, cap, rfl, h1⟩

set_option maxRecDepth 100000 in
set_option maxHeartbeats 4000000 in
theorem cl_cells {H : Type} {enc : TypeId × Value → H} {W : World} {fuel : Nat} {cs : List Value} {x : DataW H × List MemPlace} (hf : DataW.trod enc Tryz.prog W 0 (fun _ => true) true fuel 89 cs = some x) : ∃ T : Cl, clAt W 0 T cs := by
  obtain ⟨xs, m, hfu, hx, hl, hlen, hg⟩ := DataW.trod_struct Tryz.underlying89 hf
  rw [cellsW107] at hl
  have g0 : DataW.trod enc Tryz.prog W 0 (fun _ => true) true m 3 ((cs.drop 0).take (Tryz.prog.cellsOf 3)) = xs[0]? := hg 0 _ rfl
  rw [cellsW3] at g0
  have g1 : DataW.trod enc Tryz.prog W 0 (fun _ => true) true m 9 ((cs.drop 1).take (Tryz.prog.cellsOf 9)) = xs[1]? := hg 1 _ rfl
  rw [cellsW9] at g1
  have g2 : DataW.trod enc Tryz.prog W 0 (fun _ => true) true m 4 ((cs.drop 2).take (Tryz.prog.cellsOf 4)) = xs[2]? := hg 2 _ rfl
  rw [cellsW4] at g2
  have g3 : DataW.trod enc Tryz.prog W 0 (fun _ => true) true m 3 ((cs.drop 3).take (Tryz.prog.cellsOf 3)) = xs[3]? := hg 3 _ rfl
  rw [cellsW3] at g3
  have g4 : DataW.trod enc Tryz.prog W 0 (fun _ => true) true m 3 ((cs.drop 4).take (Tryz.prog.cellsOf 3)) = xs[4]? := hg 4 _ rfl
  rw [cellsW3] at g4
  have g5 : DataW.trod enc Tryz.prog W 0 (fun _ => true) true m 77 ((cs.drop 5).take (Tryz.prog.cellsOf 77)) = xs[5]? := hg 5 _ rfl
  rw [cellsW96] at g5
  have g6 : DataW.trod enc Tryz.prog W 0 (fun _ => true) true m 3 ((cs.drop 9).take (Tryz.prog.cellsOf 3)) = xs[6]? := hg 6 _ rfl
  rw [cellsW3] at g6
  have g7 : DataW.trod enc Tryz.prog W 0 (fun _ => true) true m 3 ((cs.drop 10).take (Tryz.prog.cellsOf 3)) = xs[7]? := hg 7 _ rfl
  rw [cellsW3] at g7
  have g8 : DataW.trod enc Tryz.prog W 0 (fun _ => true) true m 4 ((cs.drop 11).take (Tryz.prog.cellsOf 4)) = xs[8]? := hg 8 _ rfl
  rw [cellsW4] at g8
  have g9 : DataW.trod enc Tryz.prog W 0 (fun _ => true) true m 4 ((cs.drop 12).take (Tryz.prog.cellsOf 4)) = xs[9]? := hg 9 _ rfl
  rw [cellsW4] at g9
  match cs, hl with
  | [k0, k1, k2, k3, k4, k5, k6, k7, k8, k9, k10, k11, k12], _ =>
    match xs, hlen with
    | [y0, y1, y2, y3, y4, y5, y6, y7, y8, y9], _ =>
      obtain ⟨st, q0, _, w0⟩ := DataW.trod_int Tryz.underlying3 (by simpa using g0)
      obtain ⟨h, q1, _, w1⟩ := DataW.trod_string Tryz.underlying9 (by simpa using g1)
      obtain ⟨mu, q2, _⟩ := DataW.trod_bool Tryz.underlying4 (by simpa using g2)
      obtain ⟨ep, q3, _, w3⟩ := DataW.trod_int Tryz.underlying3 (by simpa using g3)
      obtain ⟨bo, q4, _, w4⟩ := DataW.trod_int Tryz.underlying3 (by simpa using g4)
      obtain ⟨T, hT5⟩ := open_tm (t := 22) (e := 77) (tint := 3) (tstr := 9) Tryz.underlying77 (by kernel_rfl) cellsW96 rfl rfl rfl rfl Tryz.underlying3 Tryz.underlying9 Tryz.underlying22 m _ _ (show DataW.trod enc Tryz.prog W 0 (fun _ => true) true m 77 [k5, k6, k7, k8] = some _ by simpa using g5)
      obtain ⟨op5, n5, s5, a5, len5, cap5, he5⟩ := hT5.cells
      rw [he5] at hT5
      obtain ⟨ii, q6, _, w6⟩ := DataW.trod_int Tryz.underlying3 (by simpa using g6)
      obtain ⟨o, q7, _, w7⟩ := DataW.trod_int Tryz.underlying3 (by simpa using g7)
      obtain ⟨tl, q8, _⟩ := DataW.trod_bool Tryz.underlying4 (by simpa using g8)
      obtain ⟨pr, q9, _⟩ := DataW.trod_bool Tryz.underlying4 (by simpa using g9)
      simp at q0 q1 q2 q3 q4 q6 q7 q8 q9
      subst q0 q1 q2 q3 q4 q6 q7 q8 q9
      simp [tmCells] at he5
      obtain ⟨rfl, rfl, rfl, rfl⟩ := he5
      exact ⟨⟨st, h, mu, ep, bo, T, ii, o, tl, pr⟩, w1, op5, n5, s5, a5, len5, cap5, rfl, hT5⟩

set_option maxRecDepth 100000 in
set_option maxHeartbeats 4000000 in
theorem sv_cells {H : Type} {enc : TypeId × Value → H} {W : World} {fuel : Nat} {cs : List Value} {x : DataW H × List MemPlace} (hf : DataW.trod enc Tryz.prog W 0 (fun _ => true) true fuel 94 cs = some x) : ∃ T : Sv, svAt W 0 T cs := by
  obtain ⟨xs, m, hfu, hx, hl, hlen, hg⟩ := DataW.trod_struct Tryz.underlying94 hf
  rw [cellsW112] at hl
  have g0 : DataW.trod enc Tryz.prog W 0 (fun _ => true) true m 3 ((cs.drop 0).take (Tryz.prog.cellsOf 3)) = xs[0]? := hg 0 _ rfl
  rw [cellsW3] at g0
  have g1 : DataW.trod enc Tryz.prog W 0 (fun _ => true) true m 9 ((cs.drop 1).take (Tryz.prog.cellsOf 9)) = xs[1]? := hg 1 _ rfl
  rw [cellsW9] at g1
  have g2 : DataW.trod enc Tryz.prog W 0 (fun _ => true) true m 3 ((cs.drop 2).take (Tryz.prog.cellsOf 3)) = xs[2]? := hg 2 _ rfl
  rw [cellsW3] at g2
  have g3 : DataW.trod enc Tryz.prog W 0 (fun _ => true) true m 3 ((cs.drop 3).take (Tryz.prog.cellsOf 3)) = xs[3]? := hg 3 _ rfl
  rw [cellsW3] at g3
  have g4 : DataW.trod enc Tryz.prog W 0 (fun _ => true) true m 77 ((cs.drop 4).take (Tryz.prog.cellsOf 77)) = xs[4]? := hg 4 _ rfl
  rw [cellsW96] at g4
  have g5 : DataW.trod enc Tryz.prog W 0 (fun _ => true) true m 77 ((cs.drop 8).take (Tryz.prog.cellsOf 77)) = xs[5]? := hg 5 _ rfl
  rw [cellsW96] at g5
  have g6 : DataW.trod enc Tryz.prog W 0 (fun _ => true) true m 3 ((cs.drop 12).take (Tryz.prog.cellsOf 3)) = xs[6]? := hg 6 _ rfl
  rw [cellsW3] at g6
  have g7 : DataW.trod enc Tryz.prog W 0 (fun _ => true) true m 3 ((cs.drop 13).take (Tryz.prog.cellsOf 3)) = xs[7]? := hg 7 _ rfl
  rw [cellsW3] at g7
  have g8 : DataW.trod enc Tryz.prog W 0 (fun _ => true) true m 4 ((cs.drop 14).take (Tryz.prog.cellsOf 4)) = xs[8]? := hg 8 _ rfl
  rw [cellsW4] at g8
  have g9 : DataW.trod enc Tryz.prog W 0 (fun _ => true) true m 28 ((cs.drop 15).take (Tryz.prog.cellsOf 28)) = xs[9]? := hg 9 _ rfl
  rw [cellsW28] at g9
  match cs, hl with
  | [k0, k1, k2, k3, k4, k5, k6, k7, k8, k9, k10, k11, k12, k13, k14, k15], _ =>
    match xs, hlen with
    | [y0, y1, y2, y3, y4, y5, y6, y7, y8, y9], _ =>
      obtain ⟨st, q0, _, w0⟩ := DataW.trod_int Tryz.underlying3 (by simpa using g0)
      obtain ⟨h, q1, _, w1⟩ := DataW.trod_string Tryz.underlying9 (by simpa using g1)
      obtain ⟨ke, q2, _, w2⟩ := DataW.trod_int Tryz.underlying3 (by simpa using g2)
      obtain ⟨ep, q3, _, w3⟩ := DataW.trod_int Tryz.underlying3 (by simpa using g3)
      obtain ⟨T, hT4⟩ := open_tm (t := 22) (e := 77) (tint := 3) (tstr := 9) Tryz.underlying77 (by kernel_rfl) cellsW96 rfl rfl rfl rfl Tryz.underlying3 Tryz.underlying9 Tryz.underlying22 m _ _ (show DataW.trod enc Tryz.prog W 0 (fun _ => true) true m 77 [k4, k5, k6, k7] = some _ by simpa using g4)
      obtain ⟨op4, n4, s4, a4, len4, cap4, he4⟩ := hT4.cells
      rw [he4] at hT4
      obtain ⟨U, hT5⟩ := open_tm (t := 22) (e := 77) (tint := 3) (tstr := 9) Tryz.underlying77 (by kernel_rfl) cellsW96 rfl rfl rfl rfl Tryz.underlying3 Tryz.underlying9 Tryz.underlying22 m _ _ (show DataW.trod enc Tryz.prog W 0 (fun _ => true) true m 77 [k8, k9, k10, k11] = some _ by simpa using g5)
      obtain ⟨op5, n5, s5, a5, len5, cap5, he5⟩ := hT5.cells
      rw [he5] at hT5
      obtain ⟨ii, q6, _, w6⟩ := DataW.trod_int Tryz.underlying3 (by simpa using g6)
      obtain ⟨o, q7, _, w7⟩ := DataW.trod_int Tryz.underlying3 (by simpa using g7)
      obtain ⟨tl, q8, _⟩ := DataW.trod_bool Tryz.underlying4 (by simpa using g8)
      obtain ⟨ai9, ci9, l, q9, hI9, hm9⟩ := open_ins (c := k15) (by simpa using g9)
      simp at q0 q1 q2 q3 q6 q7 q8
      subst q0 q1 q2 q3 q6 q7 q8 q9
      simp [tmCells] at he4
      obtain ⟨rfl, rfl, rfl, rfl⟩ := he4
      simp [tmCells] at he5
      obtain ⟨rfl, rfl, rfl, rfl⟩ := he5
      exact ⟨⟨st, h, ke, ep, T, U, ii, o, tl, l⟩, w1, hm9, op4, n4, s4, a4, len4, cap4, op5, n5, s5, a5, len5, cap5, ai9, ci9, rfl, hT4, hT5, hI9⟩

set_option maxRecDepth 100000 in
set_option maxHeartbeats 4000000 in
theorem ca_cells {H : Type} {enc : TypeId × Value → H} {W : World} {fuel : Nat} {cs : List Value} {x : DataW H × List MemPlace} (hf : DataW.trod enc Tryz.prog W 0 (fun _ => true) true fuel 91 cs = some x) : ∃ T : Ca, caAt W 0 T cs := by
  obtain ⟨xs, m, hfu, hx, hl, hlen, hg⟩ := DataW.trod_struct Tryz.underlying91 hf
  rw [cellsW109] at hl
  have g0 : DataW.trod enc Tryz.prog W 0 (fun _ => true) true m 3 ((cs.drop 0).take (Tryz.prog.cellsOf 3)) = xs[0]? := hg 0 _ rfl
  rw [cellsW3] at g0
  have g1 : DataW.trod enc Tryz.prog W 0 (fun _ => true) true m 89 ((cs.drop 1).take (Tryz.prog.cellsOf 89)) = xs[1]? := hg 1 _ rfl
  rw [cellsW107] at g1
  have g2 : DataW.trod enc Tryz.prog W 0 (fun _ => true) true m 4 ((cs.drop 14).take (Tryz.prog.cellsOf 4)) = xs[2]? := hg 2 _ rfl
  rw [cellsW4] at g2
  match cs, hl with
  | [k0, k1, k2, k3, k4, k5, k6, k7, k8, k9, k10, k11, k12, k13, k14], _ =>
    match xs, hlen with
    | [y0, y1, y2], _ =>
      obtain ⟨k, q0, _, w0⟩ := DataW.trod_int Tryz.underlying3 (by simpa using g0)
      obtain ⟨c, hS1⟩ := cl_cells (show DataW.trod enc Tryz.prog W 0 (fun _ => true) true m 89 [k1, k2, k3, k4, k5, k6, k7, k8, k9, k10, k11, k12, k13] = some _ by simpa using g1)
      obtain ⟨g, q2, _⟩ := DataW.trod_bool Tryz.underlying4 (by simpa using g2)
      simp at q0 q2
      subst q0 q2
      exact ⟨⟨k, c, g⟩, _, rfl, hS1⟩

set_option maxRecDepth 100000 in
set_option maxHeartbeats 4000000 in
theorem ta_cells {H : Type} {enc : TypeId × Value → H} {W : World} {fuel : Nat} {cs : List Value} {x : DataW H × List MemPlace} (hf : DataW.trod enc Tryz.prog W 0 (fun _ => true) true fuel 96 cs = some x) : ∃ T : Ta, taAt W 0 T cs := by
  obtain ⟨xs, m, hfu, hx, hl, hlen, hg⟩ := DataW.trod_struct Tryz.underlying96 hf
  rw [cellsW114] at hl
  have g0 : DataW.trod enc Tryz.prog W 0 (fun _ => true) true m 3 ((cs.drop 0).take (Tryz.prog.cellsOf 3)) = xs[0]? := hg 0 _ rfl
  rw [cellsW3] at g0
  have g1 : DataW.trod enc Tryz.prog W 0 (fun _ => true) true m 94 ((cs.drop 1).take (Tryz.prog.cellsOf 94)) = xs[1]? := hg 1 _ rfl
  rw [cellsW112] at g1
  match cs, hl with
  | [k0, k1, k2, k3, k4, k5, k6, k7, k8, k9, k10, k11, k12, k13, k14, k15, k16], _ =>
    match xs, hlen with
    | [y0, y1], _ =>
      obtain ⟨k, q0, _, w0⟩ := DataW.trod_int Tryz.underlying3 (by simpa using g0)
      obtain ⟨c, hS1⟩ := sv_cells (show DataW.trod enc Tryz.prog W 0 (fun _ => true) true m 94 [k1, k2, k3, k4, k5, k6, k7, k8, k9, k10, k11, k12, k13, k14, k15, k16] = some _ by simpa using g1)
      simp at q0
      subst q0
      exact ⟨⟨k, c⟩, _, rfl, hS1⟩

set_option maxRecDepth 100000 in
set_option maxHeartbeats 4000000 in
theorem wd_cells {H : Type} {enc : TypeId × Value → H} {W : World} {fuel : Nat} {cs : List Value} {x : DataW H × List MemPlace} (hf : DataW.trod enc Tryz.prog W 0 (fun _ => true) true fuel 30 cs = some x) : ∃ T : Wd, wdAt W 0 T cs := by
  obtain ⟨xs, m, hfu, hx, hl, hlen, hg⟩ := DataW.trod_struct Tryz.underlying30 hf
  rw [cellsW30] at hl
  have g0 : DataW.trod enc Tryz.prog W 0 (fun _ => true) true m 3 ((cs.drop 0).take (Tryz.prog.cellsOf 3)) = xs[0]? := hg 0 _ rfl
  rw [cellsW3] at g0
  have g1 : DataW.trod enc Tryz.prog W 0 (fun _ => true) true m 3 ((cs.drop 1).take (Tryz.prog.cellsOf 3)) = xs[1]? := hg 1 _ rfl
  rw [cellsW3] at g1
  have g2 : DataW.trod enc Tryz.prog W 0 (fun _ => true) true m 22 ((cs.drop 2).take (Tryz.prog.cellsOf 22)) = xs[2]? := hg 2 _ rfl
  rw [cellsW22] at g2
  have g3 : DataW.trod enc Tryz.prog W 0 (fun _ => true) true m 23 ((cs.drop 3).take (Tryz.prog.cellsOf 23)) = xs[3]? := hg 3 _ rfl
  rw [cellsW23] at g3
  have g4 : DataW.trod enc Tryz.prog W 0 (fun _ => true) true m 24 ((cs.drop 4).take (Tryz.prog.cellsOf 24)) = xs[4]? := hg 4 _ rfl
  rw [cellsW24] at g4
  have g5 : DataW.trod enc Tryz.prog W 0 (fun _ => true) true m 25 ((cs.drop 5).take (Tryz.prog.cellsOf 25)) = xs[5]? := hg 5 _ rfl
  rw [cellsW25] at g5
  have g6 : DataW.trod enc Tryz.prog W 0 (fun _ => true) true m 9 ((cs.drop 6).take (Tryz.prog.cellsOf 9)) = xs[6]? := hg 6 _ rfl
  rw [cellsW9] at g6
  have g7 : DataW.trod enc Tryz.prog W 0 (fun _ => true) true m 3 ((cs.drop 7).take (Tryz.prog.cellsOf 3)) = xs[7]? := hg 7 _ rfl
  rw [cellsW3] at g7
  have g8 : DataW.trod enc Tryz.prog W 0 (fun _ => true) true m 26 ((cs.drop 8).take (Tryz.prog.cellsOf 26)) = xs[8]? := hg 8 _ rfl
  rw [cellsW26] at g8
  have g9 : DataW.trod enc Tryz.prog W 0 (fun _ => true) true m 27 ((cs.drop 9).take (Tryz.prog.cellsOf 27)) = xs[9]? := hg 9 _ rfl
  rw [cellsW27] at g9
  have g10 : DataW.trod enc Tryz.prog W 0 (fun _ => true) true m 28 ((cs.drop 10).take (Tryz.prog.cellsOf 28)) = xs[10]? := hg 10 _ rfl
  rw [cellsW28] at g10
  match cs, hl with
  | [k0, k1, k2, k3, k4, k5, k6, k7, k8, k9, k10], _ =>
    match xs, hlen with
    | [y0, y1, y2, y3, y4, y5, y6, y7, y8, y9, y10], _ =>
      obtain ⟨ti, q0, _, w0⟩ := DataW.trod_int Tryz.underlying3 (by simpa using g0)
      obtain ⟨fr, q1, _, w1⟩ := DataW.trod_int Tryz.underlying3 (by simpa using g1)
      obtain ⟨P2, a2, c2, q2, hP2, hm2⟩ := open_ls tmK Tryz.underlying22 cellsW96 (fun {_ _ _} h => tm_cells h) (c := k2) (show DataW.trod enc Tryz.prog W 0 (fun _ => true) true m 22 [k2] = some _ by simpa using g2)
      obtain ⟨P3, a3, c3, q3, hP3, hm3⟩ := open_ls poK Tryz.underlying23 cellsW100 (fun {_ _ _} h => po_cells h) (c := k3) (show DataW.trod enc Tryz.prog W 0 (fun _ => true) true m 23 [k3] = some _ by simpa using g3)
      obtain ⟨P4, a4, c4, q4, hP4, hm4⟩ := open_ls hoK Tryz.underlying24 cellsW102 (fun {_ _ _} h => ho_cells h) (c := k4) (show DataW.trod enc Tryz.prog W 0 (fun _ => true) true m 24 [k4] = some _ by simpa using g4)
      obtain ⟨P5, a5, c5, q5, hP5, hm5⟩ := open_ls leK Tryz.underlying25 cellsW104 (fun {_ _ _} h => le_cells h) (c := k5) (show DataW.trod enc Tryz.prog W 0 (fun _ => true) true m 25 [k5] = some _ by simpa using g5)
      obtain ⟨bk, q6, _, w6⟩ := DataW.trod_string Tryz.underlying9 (by simpa using g6)
      obtain ⟨su, q7, _, w7⟩ := DataW.trod_int Tryz.underlying3 (by simpa using g7)
      obtain ⟨P8, a8, c8, q8, hP8, hm8⟩ := open_ls caK Tryz.underlying26 cellsW109 (fun {_ _ _} h => ca_cells h) (c := k8) (show DataW.trod enc Tryz.prog W 0 (fun _ => true) true m 26 [k8] = some _ by simpa using g8)
      obtain ⟨P9, a9, c9, q9, hP9, hm9⟩ := open_ls taK Tryz.underlying27 cellsW114 (fun {_ _ _} h => ta_cells h) (c := k9) (show DataW.trod enc Tryz.prog W 0 (fun _ => true) true m 27 [k9] = some _ by simpa using g9)
      obtain ⟨ai10, ci10, l, q10, hI10, hm10⟩ := open_ins (c := k10) (by simpa using g10)
      simp at q0 q1 q6 q7
      subst q0 q1 q2 q3 q4 q5 q6 q7 q8 q9 q10
      exact ⟨⟨ti, fr, P2, P3, P4, P5, bk, su, P8, P9, l⟩, ⟨hm2, hm3, hm4, hm5, hm8, hm9, hm10, w6⟩, a2, c2, a3, c3, a4, c4, a5, c5, a8, c8, a9, c9, ai10, ci10, rfl, hP2, hP3, hP4, hP5, hP8, hP9, hI10⟩

set_option maxRecDepth 100000 in
set_option maxHeartbeats 4000000 in
theorem open_world {H : Type} {enc : TypeId × Value → H} {W : World} {base : Nat} {v : Value} {d : DataW H} {p : List MemPlace} (hv : Value.okWide Tryz.prog W .any base 30 v) (h : DataW.Trod enc Tryz.prog W 0 (fun _ => true) true 30 v d p) :
    ∃ (X : Wd) (cs : List Value), v = .agg cs.toArray ∧ wdAt W 0 X cs := by
  obtain ⟨cs, rfl, hsz⟩ := okWide_struct Tryz.underlying30 hv
  obtain ⟨fuel, hf⟩ := h
  obtain ⟨X, hX⟩ := wd_cells hf
  exact ⟨X, _, by simp [Value.cells], hX⟩

def laidE : List (String × DataW Unit) := [("loop.example/g00328/impl.errNoTerm", Rows.laid_loop_example_g00328_impl_errNoTerm)]
def laid4 : List (String × DataW Unit) := [("math/bits.deBruijn32tab", Rows.laid_math_bits_deBruijn32tab), ("math/bits.deBruijn64tab", Rows.laid_math_bits_deBruijn64tab), ("internal/strconv.uint64pow10", Rows.laid_internal_strconv_uint64pow10), ("loop.example/g00328/impl.errNoTerm", Rows.laid_loop_example_g00328_impl_errNoTerm)]

theorem doorE_met (os : Os) (args : Array Value) : laidMetH Tryz.prog laidE ((World.doorLaid Tryz.prog 400 os).forCall (fun _ _ => 0) ⟨#[], args, []⟩).memory :=
  laidMetH_of_parts3 (fuel := 8) (laidMet_of_run' 8 (by kernel_rfl) (by kernel_rfl)) (by kernel_rfl) (by kernel_rfl)
theorem door4_met (os : Os) (args : Array Value) : laidMetH Tryz.prog laid4 ((World.doorLaid Tryz.prog 400 os).forCall (fun _ _ => 0) ⟨#[], args, []⟩).memory :=
  laidMetH_of_parts3 (fuel := 8) (laidMet_of_run' 8 (by kernel_rfl) (by kernel_rfl)) (by kernel_rfl) (by kernel_rfl)

theorem gE : Tryz.prog.globalNamed "loop.example/g00328/impl.errNoTerm" = some 0 := by kernel_rfl
theorem gEType : (Tryz.prog.globals[0]?).map (·.type) = some 188 := by kernel_rfl
theorem cells137 : Tryz.prog.cellsOf 289 = 1 := by kernel_rfl
theorem cells9 : Tryz.prog.cellsOf 9 = 1 := by kernel_rfl
theorem star : "*" ++ "errors.errorString" = "*errors.errorString" := by decide
theorem rowE (u : TypeId) (h : Tryz.prog.typeName? 3 u = some "*errors.errorString") : u = 263 :=
  typeName_ptr_named (nm := "errors.errorString") (by rw [star]; kernel_rfl) (by kernel_rfl) (by decide) u (by rw [star]; exact h)

theorem err_of_met {W : World} {r : List (String × DataW Unit)} (h : laidMet Tryz.prog (("loop.example/g00328/impl.errNoTerm", Rows.laid_loop_example_g00328_impl_errNoTerm) :: r) W) : ∃ a, W.var? Tryz.prog "loop.example/g00328/impl.errNoTerm" = some #[.iface 263 (.pointer (some a))] := by
  obtain ⟨a, s, hv, _⟩ := laid_sentinel h gE gEType Tryz.underlying188 rowE Tryz.underlying263 Tryz.underlying289 rfl rfl Tryz.underlying9 cells137 cells9
  exact ⟨a, hv⟩
theorem err_of_var {W : World} {a : Addr} (hv : W.var? Tryz.prog "loop.example/g00328/impl.errNoTerm" = some #[.iface 263 (.pointer (some a))]) : Err W :=
  ⟨a, by have := World.var?_cell gE hv 0; simpa [ErrAt] using this⟩
theorem err_of_laidE {W : World} (h : laidMetH Tryz.prog laidE W) : ∃ a, W.var? Tryz.prog "loop.example/g00328/impl.errNoTerm" = some #[.iface 263 (.pointer (some a))] := by
  rw [MakeChecks.laidMetH_plain _ _ _ (by kernel_rfl)] at h
  exact err_of_met h
theorem err_of_laid4 {W : World} (h : laidMetH Tryz.prog laid4 W) : ∃ a, W.var? Tryz.prog "loop.example/g00328/impl.errNoTerm" = some #[.iface 263 (.pointer (some a))] := by
  rw [MakeChecks.laidMetH_plain _ _ _ (by kernel_rfl)] at h
  exact err_of_met h.tail.tail.tail

theorem pow_data : (Rows.laid_internal_strconv_uint64pow10 : DataW Unit) = Lib.tabData .u64 Lib.pow10Tab := by kernel_rfl
theorem tab_of_laid4 {W : World} (h : laidMetH Tryz.prog laid4 W) : Tab W := by
  rw [MakeChecks.laidMetH_plain _ _ _ (by kernel_rfl)] at h
  have h2 : laidMet Tryz.prog (("internal/strconv.uint64pow10", Lib.tabData .u64 Lib.pow10Tab) :: [("loop.example/g00328/impl.errNoTerm", Rows.laid_loop_example_g00328_impl_errNoTerm)]) W := by
    have := h.tail.tail
    rw [pow_data] at this
    exact this
  exact Lib.tabIs_of_head (g := 1) (t := 252) (e := 226) (n := 20) (by kernel_rfl) (by kernel_rfl) (by kernel_rfl) (by kernel_rfl) (by kernel_rfl) (by kernel_rfl) h2

theorem var?_below {P : Program} {W W' : World} {n : String} {cs : Array Value} (h : W.var? P n = some cs) (hb : Below W.heap.size W W') : W'.var? P n = some cs := by
  unfold World.var? at h ⊢
  cases hg : P.globalNamed n with
  | none => simp [hg] at h
  | some g =>
    simp only [hg, Option.bind_some] at h ⊢
    have hlt : g < W.heap.size := by
      rcases Nat.lt_or_ge g W.heap.size with h' | h'
      · exact h'
      · simp [Array.getElem?_eq_none h'] at h
    rw [hb.block g hlt]
    exact h

/-- The variable of the named error, read as a token. -/
theorem err_read {H : Type} (enc : TypeId × Value → H) {W : World} {a : Addr} (h : W.var? Tryz.prog "loop.example/g00328/impl.errNoTerm" = some #[.iface 263 (.pointer (some a))]) (sp : Nat → Bool) :
    DataW.TrodVars enc Tryz.prog W sp ["loop.example/g00328/impl.errNoTerm"] [tok enc (.iface 263 (.pointer (some a)))] [.cell 0 0] :=
  vars_read1 enc gE gEType Tryz.underlying188 h trivial sp

set_option maxRecDepth 100000 in
theorem liftedJudgeSecret (os : Os) (started : os.Started) (H : Type) (enc : TypeId × Value → H) :
    ReturnsInHanded {} Tryz.checked os 3 .any (fun w args => (Rows.fnExactJudgeSecretSpec.pre enc Tryz.prog Tryz.f3 Rows.fnExactJudgeSecretRow.domain false w args ∧ laidMetH Tryz.prog laid4 w) ∧ sizedMet enc Tryz.prog Tryz.f3 (OpenSpec.ofChange Rows.fnExactJudgeSecretSpec) false w args)
      (Rows.fnExactJudgeSecretSpec.post enc Tryz.prog Tryz.f3 false true false false) := by
  refine returnsInHanded_of_change_and (C := Tryz.checked) (X := fun w _ => laidMetH Tryz.prog laid4 w) (fun _ _ _ hh h => h.of_heap hh) own started (by kernel_rfl) Tryz.func3
    (ChangeSpec.witness_shaped (enc := enc) (C := Tryz.checked) (os := os) (X := fun w _ => laidMetH Tryz.prog laid4 w) false (World.doorLaid Tryz.prog 400 os) #[.agg #[.int .i64 0, .int .i64 0, .slice none 0 0, .slice none 0 0, .slice none 0 0, .slice none 0 0, .string ByteArray.empty, .int .i64 0, .slice none 0 0, .slice none 0 0, .slice none 0 0]] 8 rfl (World.shaped_of_RefB (by kernel_rfl) (by kernel_rfl)) (by kernel_rfl) (by kernel_rfl) (by kernel_rfl) (door4_met os _)) ?_
  intro W base args ds gs before hval0 hW _ _ hL _
  have hval : ∀ (j : Nat) t v, Tryz.f3.params[j]? = some t → args[j]? = some v → Value.okWide Tryz.prog W .any base t v := hval0
  have hW' := hW
  obtain ⟨p, q, hA0, hV0, rfl, hfz, hnd⟩ := hW
  have hA : DataW.TrodAll enc Tryz.prog W 0 (fun _ => true) true Tryz.f3.params.toList args.toList ds p := hA0
  have hV : DataW.TrodVars enc Tryz.prog W (fun _ => true) ["loop.example/g00328/impl.errNoTerm"] gs q := hV0
  rw [Tryz.params3] at hA hval
  obtain ⟨v0, vs0, d0, ds0, p0, q0, hargs, rfl, rfl, h0, r0⟩ := trodAll_cons hA
  obtain ⟨rfl, rfl, rfl⟩ := trodAll_nil r0
  obtain rfl : args = #[v0] := by cases args; simp_all
  obtain ⟨x, hx⟩ := err_of_laid4 hL
  obtain ⟨rfl, rfl⟩ := hV.unique (err_read enc hx _)
  have k0 := h0
  have lt0 : ∀ x ∈ p0, x.block < W.heap.size := by obtain ⟨m, hm⟩ := k0; exact DataW.trod_lt m _ _ _ hm
  obtain ⟨X0, cs0, rfl, hX0⟩ := open_world (hval 0 30 v0 rfl rfl) h0
  clear hA0 hV0 hval0
  refine (lawJudgeSecret X0 cs0 W hX0 (tab_of_laid4 hL) (err_of_var hx)).mono fun e W' ⟨he, bel⟩ => ?_
  subst he
  exact ⟨_, rfl, _, _, _, [], _, [.cell 0 0], hW', trodAll_mk1 (shut_bool Tryz.underlying4 _), (trodAll_cons_mk (Below.trod laidOut (by kernel_rfl) (of_decide_eq_true (by kernel_rfl)) k0 bel lt0) trodAll_mk0), err_read enc (var?_below hx bel) _, bel.frame _, fun h => by cases h⟩

theorem judgeSecret_row : Rows.FnExactJudgeSecretSaid :=
  OpenClaim.holds_of_wide 3 Tryz.f3 rfl rfl rfl rfl rfl rfl rfl ⟨rfl, rfl, rfl, rfl, rfl⟩ rfl rfl rfl rfl rfl (by kernel_rfl) Tryz.func3 (by kernel_rfl)
    (of_decide_eq_true (by kernel_rfl)) (by unfold Func.isWrapper; first | (rw [if_pos (by decide +kernel)]; kernel_rfl) | (rw [if_neg (by decide +kernel)]; exact ⟨rfl, rfl⟩))
    (fun os started H enc _ => liftedJudgeSecret os started H enc)

theorem judgeSecret_card : Rows.FnExactJudgeSecretCardSaid :=
  Claim7.holds_tied_plain_at .later [] [.data, .data, .data, .sentinel] true (true, "ec088695ef9706de1320dab88bbbc2396bc39a12aaca64184b1cd102aeddc2fd") true
    judgeSecret_row (fun _ h => by cases h) (by kernel_rfl) (fun _ h => by cases h) fnExactJudgeSecret_row_tie rfl ⟨rfl, rfl⟩ (by kernel_rfl) rfl
    (fun f fn hf hfn => by
      obtain rfl : f = 3 := Option.some.inj ((show Tryz.prog.funcNamed "loop.example/g00328/laws.FnExactJudgeSecret" = some 3 by kernel_rfl).symm.trans hf) |>.symm
      obtain rfl : fn = Tryz.f3 := (Option.some.inj (Tryz.func3.symm.trans hfn)).symm
      exact ⟨by kernel_rfl, fun j t ht => by
        rw [Tryz.params3] at ht
        have hm : t ∈ [30] := by have := Array.mem_of_getElem? ht; simp at this ⊢; first | exact this | omega
        have hall : ([30].all fun u => !Tryz.prog.wantsStandIn u) = true := by kernel_rfl
        exact (show Tryz.prog.wantsStandIn t = false by simpa using List.all_eq_true.1 hall t hm)⟩)
    (by kernel_rfl)
#print axioms judgeSecret_card

end Go.Proofs.YtbbidjckplpaiaaGreatDoor
