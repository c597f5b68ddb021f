/- An argument of the laws' own client type, opened: its cells, its term that lies in memory. -/
import Derived.Test.YtfeolcefgciflaaArg
namespace Go.Proofs.Ytfeolcefgciflaa
open Go.ChangeShapes Go.WideShapes Go.ChangeAt Go.RowKit Go.Deep

theorem cellsK : Try.prog.cellsOf 26 = 13 := by kernel_rfl
theorem cells9k : Try.prog.cellsOf 9 = 1 := by kernel_rfl
theorem cells3k : Try.prog.cellsOf 3 = 1 := by kernel_rfl
theorem cells4k : Try.prog.cellsOf 4 = 1 := by kernel_rfl

set_option maxRecDepth 100000 in
set_option maxHeartbeats 1000000 in
theorem open_client {H : Type} {enc : TypeId × Value → H} {W : World} {base : Nat} {v : Value} {d : DataW H} {p : List MemPlace} (hv : Value.okWide Try.prog W .any base 26 v) (hd : DataW.Trod enc Try.prog W 0 (fun _ => true) true 26 v d p) :
    ∃ (t : Tm) (st : Int) (h : ByteArray) (mu : Bool) (ep bo op n : Int) (s : ByteArray) (a : Option Addr) (len cap : Nat) (i o : Int) (tl pr : Bool), v = .agg #[.int .i64 st, .string h, .bool mu, .int .i64 ep, .int .i64 bo, .int .i64 op, .int .i64 n, .string s, .slice a len cap, .int .i64 i, .int .i64 o, .bool tl, .bool pr] ∧ Lies W 0 t (tmCells op n s a len cap) ∧ h.size ≤ maxLen := by
  obtain ⟨cs, rfl, hsz⟩ := okWide_struct Try.underlying26 hv
  obtain ⟨fuel, hf⟩ := hd
  obtain ⟨xs, m, hfu, hx, hl, hlen, hg⟩ := DataW.trod_struct Try.underlying26 hf
  rw [cellsK] at hl
  have g0 : DataW.trod enc Try.prog W 0 (fun _ => true) true m 3 (((Value.agg cs).cells.toList.drop 0).take (Try.prog.cellsOf 3)) = xs[0]? := hg 0 _ rfl
  have g1 : DataW.trod enc Try.prog W 0 (fun _ => true) true m 9 (((Value.agg cs).cells.toList.drop 1).take (Try.prog.cellsOf 9)) = xs[1]? := hg 1 _ rfl
  have g2 : DataW.trod enc Try.prog W 0 (fun _ => true) true m 4 (((Value.agg cs).cells.toList.drop 2).take (Try.prog.cellsOf 4)) = xs[2]? := hg 2 _ rfl
  have g3 : DataW.trod enc Try.prog W 0 (fun _ => true) true m 3 (((Value.agg cs).cells.toList.drop 3).take (Try.prog.cellsOf 3)) = xs[3]? := hg 3 _ rfl
  have g4 : DataW.trod enc Try.prog W 0 (fun _ => true) true m 3 (((Value.agg cs).cells.toList.drop 4).take (Try.prog.cellsOf 3)) = xs[4]? := hg 4 _ rfl
  have g5 : DataW.trod enc Try.prog W 0 (fun _ => true) true m 24 (((Value.agg cs).cells.toList.drop 5).take (Try.prog.cellsOf 24)) = xs[5]? := hg 5 _ rfl
  have g6 : DataW.trod enc Try.prog W 0 (fun _ => true) true m 3 (((Value.agg cs).cells.toList.drop 9).take (Try.prog.cellsOf 3)) = xs[6]? := hg 6 _ rfl
  have g7 : DataW.trod enc Try.prog W 0 (fun _ => true) true m 3 (((Value.agg cs).cells.toList.drop 10).take (Try.prog.cellsOf 3)) = xs[7]? := hg 7 _ rfl
  have g8 : DataW.trod enc Try.prog W 0 (fun _ => true) true m 4 (((Value.agg cs).cells.toList.drop 11).take (Try.prog.cellsOf 4)) = xs[8]? := hg 8 _ rfl
  have g9 : DataW.trod enc Try.prog W 0 (fun _ => true) true m 4 (((Value.agg cs).cells.toList.drop 12).take (Try.prog.cellsOf 4)) = xs[9]? := hg 9 _ rfl
  rw [cells3k] at g0
  rw [cells9k] at g1
  rw [cells4k] at g2
  rw [cells3k] at g3
  rw [cells3k] at g4
  rw [cells24] at g5
  rw [cells3k] at g6
  rw [cells3k] at g7
  rw [cells4k] at g8
  rw [cells4k] at g9
  obtain ⟨cl⟩ := cs
  match cl, hl with
  | [c0, c1, c2, c3, c4, c5, c6, c7, c8, c9, c10, c11, c12], _ =>
    match xs, hlen with
    | [y0, y1, y2, y3, y4, y5, y6, y7, y8, y9], _ =>
      obtain ⟨st, q0, _, w0⟩ := DataW.trod_int Try.underlying3 (by simpa [Value.cells] using g0)
      obtain ⟨h, q1, _, w1⟩ := DataW.trod_string Try.underlying9 (by simpa [Value.cells] using g1)
      obtain ⟨mu, q2, _⟩ := DataW.trod_bool Try.underlying4 (by simpa [Value.cells] using g2)
      obtain ⟨ep, q3, _, w3⟩ := DataW.trod_int Try.underlying3 (by simpa [Value.cells] using g3)
      obtain ⟨bo, q4, _, w4⟩ := DataW.trod_int Try.underlying3 (by simpa [Value.cells] using g4)
      obtain ⟨i, q6, _, w6⟩ := DataW.trod_int Try.underlying3 (by simpa [Value.cells] using g6)
      obtain ⟨o, q7, _, w7⟩ := DataW.trod_int Try.underlying3 (by simpa [Value.cells] using g7)
      obtain ⟨tl, q8, _⟩ := DataW.trod_bool Try.underlying4 (by simpa [Value.cells] using g8)
      obtain ⟨pr, q9, _⟩ := DataW.trod_bool Try.underlying4 (by simpa [Value.cells] using g9)
      obtain ⟨T, hT⟩ := open_tm (t := 22) (e := 24) (tint := 3) (tstr := 9) Try.underlying24 (by kernel_rfl) cells24 rfl rfl rfl rfl Try.underlying3 Try.underlying9 Try.underlying22 m _ _ (by simpa [Value.cells] using g5)
      obtain ⟨op, n, s, a, len, cap, he⟩ := hT.cells
      rw [he] at hT
      simp at q0 q1 q2 q3 q4 q6 q7 q8 q9
      subst q0 q1 q2 q3 q4 q6 q7 q8 q9
      simp [tmCells] at he
      obtain ⟨rfl, rfl, rfl, rfl⟩ := he
      exact ⟨T, st, h, mu, ep, bo, op, n, s, a, len, cap, i, o, tl, pr, rfl, hT, w1⟩

end Go.Proofs.Ytfeolcefgciflaa
