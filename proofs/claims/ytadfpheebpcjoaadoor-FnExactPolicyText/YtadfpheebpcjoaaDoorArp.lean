
/- An argument of the laws' own policy type, opened: its text, its two numbers, and its texts that lie in memory. -/
import Derived.Test.YtadfpheebpcjoaaDoorArg
import Derived.Test.YtadfpheebpcjoaaDoorPl
import Derived.SliceStrings
namespace Go.Proofs.YtadfpheebpcjoaaDoor
open Go.ChangeShapes Go.WideShapes Go.ChangeAt Go.RowKit Go.Deep

theorem cells24p : Tryd.prog.cellsOf 24 = 4 := by kernel_rfl
theorem cells9p : Tryd.prog.cellsOf 9 = 1 := by kernel_rfl
theorem cells3p : Tryd.prog.cellsOf 3 = 1 := by kernel_rfl
theorem cells22p : Tryd.prog.cellsOf 22 = 1 := by kernel_rfl

/-- A row of texts that can be read as data. -/
theorem open_txt {H : Type} {enc : TypeId × Value → H} {W : World} {m : Nat} {c : Value} {x : DataW H × List MemPlace} (h : DataW.trod enc Tryd.prog W 0 (fun _ => true) true m 22 [c] = some x) :
    ∃ (a : Option Addr) (cap : Nat) (l : List ByteArray), c = .slice a l.length cap ∧ Txt W 0 a l ∧ l.length ≤ maxLen ∧ ∀ t ∈ l, t.size ≤ maxLen := by
  rcases open_strings Tryd.underlying22 Tryd.underlying9 cells9p h with ⟨hcs, hx⟩ | ⟨a, len, cap, ss, hcs, _, hl, hm, hz, hx, hcell, hsz⟩
  · simp at hcs
    exact ⟨none, 0, [], by simpa using hcs, fun k t hk => by simp at hk, by simp, by simp⟩
  · simp at hcs hz
    subst hcs
    refine ⟨some a, cap, ss.take len, by simp [hz, hl], ?_, by simp; omega, fun t ht => hsz t (List.mem_of_mem_take ht)⟩
    intro k t hk
    have hkl : k < len ∧ k < ss.length := by
      have := (List.getElem?_eq_some_iff.1 hk).1
      simp at this
      omega
    have hc := hcell k hkl.2
    have h0 := World.cell?_spot (hcell 0 (by omega))
    obtain ⟨b, o, sp⟩ := a
    have hsp : sp = none := by simpa [Addr.add] using h0
    subst hsp
    refine ⟨b, o, rfl, Nat.zero_le _, ?_⟩
    have hget : ss.getD k ByteArray.empty = t := by
      rw [List.getElem?_take_of_lt hkl.1] at hk
      simp [List.getD, hk]
    rw [hget] at hc
    by_cases hk0 : k = 0
    · subst hk0
      simpa [Addr.add] using hc
    · simpa [Addr.add, hk0] using hc

set_option maxRecDepth 100000 in
/-- An argument of the laws' own policy type, opened. -/
theorem open_pol {H : Type} {enc : TypeId × Value → H} {W : World} {base : Nat} {v : Value} {d : DataW H} {p : List MemPlace} (hv : Value.okWide Tryd.prog W .any base 24 v) (h : DataW.Trod enc Tryd.prog W 0 (fun _ => true) true 24 v d p) :
    ∃ (l : List ByteArray) (ds : ByteArray) (m : Int) (a : Option Addr) (cap : Nat) (u : Int), v = .agg #[.string ds, .int .i64 m, .slice a l.length cap, .int .i64 u] ∧ Txt W 0 a l ∧ l.length ≤ maxLen ∧ (∀ t ∈ l, t.size ≤ maxLen) ∧ ds.size ≤ maxLen := by
  obtain ⟨cs, rfl, hsz⟩ := okWide_struct Tryd.underlying24 hv
  obtain ⟨fuel, hf⟩ := h
  obtain ⟨xs, m, hfu, hx, hl, hlen, hg⟩ := DataW.trod_struct Tryd.underlying24 hf
  rw [cells24p] at hl
  have g0 : DataW.trod enc Tryd.prog W 0 (fun _ => true) true m 9 (((Value.agg cs).cells.toList.drop 0).take (Tryd.prog.cellsOf 9)) = xs[0]? := hg 0 _ rfl
  have g1 : DataW.trod enc Tryd.prog W 0 (fun _ => true) true m 3 (((Value.agg cs).cells.toList.drop 1).take (Tryd.prog.cellsOf 3)) = xs[1]? := hg 1 _ rfl
  have g2 : DataW.trod enc Tryd.prog W 0 (fun _ => true) true m 22 (((Value.agg cs).cells.toList.drop 2).take (Tryd.prog.cellsOf 22)) = xs[2]? := hg 2 _ rfl
  have g3 : DataW.trod enc Tryd.prog W 0 (fun _ => true) true m 3 (((Value.agg cs).cells.toList.drop 3).take (Tryd.prog.cellsOf 3)) = xs[3]? := hg 3 _ rfl
  rw [cells9p] at g0
  rw [cells3p] at g1 g3
  rw [cells22p] at g2
  obtain ⟨cl⟩ := cs
  match cl, hl with
  | [c0, c1, c2, c3], _ =>
    match xs, hlen with
    | [y0, y1, y2, y3], _ =>
      obtain ⟨ds, q0, _, w0⟩ := DataW.trod_string Tryd.underlying9 (by simpa [Value.cells] using g0)
      obtain ⟨mm, q1, _, w1⟩ := DataW.trod_int Tryd.underlying3 (by simpa [Value.cells] using g1)
      obtain ⟨u, q3, _, w3⟩ := DataW.trod_int Tryd.underlying3 (by simpa [Value.cells] using g3)
      obtain ⟨a, cap, l, q2, h2, h3, h4⟩ := open_txt (c := c2) (by simpa [Value.cells] using g2)
      simp at q0 q1 q3
      subst q0 q1 q2 q3
      exact ⟨l, ds, mm, a, cap, u, rfl, h2, h3, h4, w0⟩

end Go.Proofs.YtadfpheebpcjoaaDoor
