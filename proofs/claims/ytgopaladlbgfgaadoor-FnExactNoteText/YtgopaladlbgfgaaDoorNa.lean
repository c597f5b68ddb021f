/- An argument that is a note of the laws' own, or a list of such, opened. -/
import Derived.Test.YtgopaladlbgfgaaDoorArg
import Derived.Test.YtgopaladlbgfgaaDoorNl
namespace Go.Proofs.YtgopaladlbgfgaaDoor
open Go.ChangeShapes Go.WideShapes Go.ChangeAt Go.RowKit Go.Deep

theorem cells23n : Tryd.prog.cellsOf 23 = 5 := by kernel_rfl
theorem cells9n : Tryd.prog.cellsOf 9 = 1 := by kernel_rfl
theorem cells3n : Tryd.prog.cellsOf 3 = 1 := by kernel_rfl

set_option maxRecDepth 100000 in
theorem note_cells {H : Type} {enc : TypeId × Value → H} {W : World} {fuel : Nat} {cs : List Value} {x : DataW H × List MemPlace} (hf : DataW.trod enc Tryd.prog W 0 (fun _ => true) true fuel 23 cs = some x) :
    ∃ p : Nt, cs = ntC p ∧ p.d.size ≤ maxLen := by
  obtain ⟨xs, m, hfu, hx, hl, hlen, hg⟩ := DataW.trod_struct Tryd.underlying23 hf
  rw [cells23n] at hl
  have g0 : DataW.trod enc Tryd.prog W 0 (fun _ => true) true m 3 ((cs.drop 0).take (Tryd.prog.cellsOf 3)) = xs[0]? := hg 0 _ rfl
  have g1 : DataW.trod enc Tryd.prog W 0 (fun _ => true) true m 3 ((cs.drop 1).take (Tryd.prog.cellsOf 3)) = xs[1]? := hg 1 _ rfl
  have g2 : DataW.trod enc Tryd.prog W 0 (fun _ => true) true m 9 ((cs.drop 2).take (Tryd.prog.cellsOf 9)) = xs[2]? := hg 2 _ rfl
  have g3 : DataW.trod enc Tryd.prog W 0 (fun _ => true) true m 3 ((cs.drop 3).take (Tryd.prog.cellsOf 3)) = xs[3]? := hg 3 _ rfl
  have g4 : DataW.trod enc Tryd.prog W 0 (fun _ => true) true m 3 ((cs.drop 4).take (Tryd.prog.cellsOf 3)) = xs[4]? := hg 4 _ rfl
  rw [cells9n] at g2
  rw [cells3n] at g0 g1 g3 g4
  match cs, hl with
  | [c0, c1, c2, c3, c4], _ =>
    match xs, hlen with
    | [y0, y1, y2, y3, y4], _ =>
      obtain ⟨k, q0, _, w0⟩ := DataW.trod_int Tryd.underlying3 (by simpa using g0)
      obtain ⟨h, q1, _, w1⟩ := DataW.trod_int Tryd.underlying3 (by simpa using g1)
      obtain ⟨ds, q2, _, w2⟩ := DataW.trod_string Tryd.underlying9 (by simpa using g2)
      obtain ⟨b, q3, _, w3⟩ := DataW.trod_int Tryd.underlying3 (by simpa using g3)
      obtain ⟨t, q4, _, w4⟩ := DataW.trod_int Tryd.underlying3 (by simpa using g4)
      simp at q0 q1 q2 q3 q4
      subst q0 q1 q2 q3 q4
      exact ⟨⟨k, h, ds, b, t⟩, rfl, w2⟩

set_option maxRecDepth 100000 in
theorem open_note {H : Type} {enc : TypeId × Value → H} {W : World} {base : Nat} {v : Value} {d : DataW H} {p : List MemPlace} (hv : Value.okWide Tryd.prog W .any base 23 v) (h : DataW.Trod enc Tryd.prog W 0 (fun _ => true) true 23 v d p) :
    ∃ (k h : Int) (ds : ByteArray) (b t : Int), v = .agg #[.int .i64 k, .int .i64 h, .string ds, .int .i64 b, .int .i64 t] ∧ ds.size ≤ maxLen := by
  obtain ⟨cs, rfl, hsz⟩ := okWide_struct Tryd.underlying23 hv
  obtain ⟨fuel, hf⟩ := h
  obtain ⟨p, hp, hd⟩ := note_cells hf
  obtain ⟨cl⟩ := cs
  simp only [Value.cells] at hp
  subst hp
  exact ⟨p.k, p.h, p.d, p.b, p.t, rfl, hd⟩

end Go.Proofs.YtgopaladlbgfgaaDoor
