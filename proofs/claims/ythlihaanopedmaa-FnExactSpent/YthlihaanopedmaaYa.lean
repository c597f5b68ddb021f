/- An argument of the laws' own letter type, opened: its text and its four numbers. -/
import Derived.Test.YthlihaanopedmaaArg
import Derived.Test.YthlihaanopedmaaYr
namespace Go.Proofs.Ythlihaanopedmaa
open Go.ChangeShapes Go.WideShapes Go.ChangeAt Go.RowKit Go.Deep

theorem cells23l : Try.prog.cellsOf 23 = 5 := by kernel_rfl
theorem cells9l : Try.prog.cellsOf 9 = 1 := by kernel_rfl
theorem cells3l : Try.prog.cellsOf 3 = 1 := by kernel_rfl

set_option maxRecDepth 100000 in
/-- An argument of the laws' own letter type, opened. -/
theorem open_letter {H : Type} {enc : TypeId × Value → H} {W : World} {base : Nat} {v : Value} {d : DataW H} {p : List MemPlace} (hv : Value.okWide Try.prog W .any base 23 v) (h : DataW.Trod enc Try.prog W 0 (fun _ => true) true 23 v d p) :
    ∃ (ds : ByteArray) (b s t n : Int), v = .agg #[.string ds, .int .i64 b, .int .i64 s, .int .i64 t, .int .i64 n] ∧ ds.size ≤ maxLen := by
  obtain ⟨cs, rfl, hsz⟩ := okWide_struct Try.underlying23 hv
  obtain ⟨fuel, hf⟩ := h
  obtain ⟨xs, m, hfu, hx, hl, hlen, hg⟩ := DataW.trod_struct Try.underlying23 hf
  rw [cells23l] at hl
  have g0 : DataW.trod enc Try.prog W 0 (fun _ => true) true m 9 (((Value.agg cs).cells.toList.drop 0).take (Try.prog.cellsOf 9)) = xs[0]? := hg 0 _ rfl
  have g1 : DataW.trod enc Try.prog W 0 (fun _ => true) true m 3 (((Value.agg cs).cells.toList.drop 1).take (Try.prog.cellsOf 3)) = xs[1]? := hg 1 _ rfl
  have g2 : DataW.trod enc Try.prog W 0 (fun _ => true) true m 3 (((Value.agg cs).cells.toList.drop 2).take (Try.prog.cellsOf 3)) = xs[2]? := hg 2 _ rfl
  have g3 : DataW.trod enc Try.prog W 0 (fun _ => true) true m 3 (((Value.agg cs).cells.toList.drop 3).take (Try.prog.cellsOf 3)) = xs[3]? := hg 3 _ rfl
  have g4 : DataW.trod enc Try.prog W 0 (fun _ => true) true m 3 (((Value.agg cs).cells.toList.drop 4).take (Try.prog.cellsOf 3)) = xs[4]? := hg 4 _ rfl
  rw [cells9l] at g0
  rw [cells3l] at g1 g2 g3 g4
  obtain ⟨cl⟩ := cs
  match cl, hl with
  | [c0, c1, c2, c3, c4], _ =>
    match xs, hlen with
    | [y0, y1, y2, y3, y4], _ =>
      obtain ⟨ds, q0, _, w0⟩ := DataW.trod_string Try.underlying9 (by simpa [Value.cells] using g0)
      obtain ⟨b, q1, _, w1⟩ := DataW.trod_int Try.underlying3 (by simpa [Value.cells] using g1)
      obtain ⟨s, q2, _, w2⟩ := DataW.trod_int Try.underlying3 (by simpa [Value.cells] using g2)
      obtain ⟨t, q3, _, w3⟩ := DataW.trod_int Try.underlying3 (by simpa [Value.cells] using g3)
      obtain ⟨n, q4, _, w4⟩ := DataW.trod_int Try.underlying3 (by simpa [Value.cells] using g4)
      simp at q0 q1 q2 q3 q4
      subst q0 q1 q2 q3 q4
      exact ⟨ds, b, s, t, n, rfl, w0⟩

end Go.Proofs.Ythlihaanopedmaa
