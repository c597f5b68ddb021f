
/- An argument of the laws' own certificate type, opened: its text, its term that lies in memory, and its number. -/
import Derived.Test.YtlepdkbkiajkiaaGreatDoorArg
namespace Go.Proofs.YtlepdkbkiajkiaaGreatDoor
open Go.ChangeShapes Go.WideShapes Go.ChangeAt Go.RowKit Go.Deep

theorem cells26 : Tryz.prog.cellsOf 53 = 6 := by kernel_rfl
theorem cells9c : Tryz.prog.cellsOf 9 = 1 := by kernel_rfl
theorem cells3c : Tryz.prog.cellsOf 3 = 1 := by kernel_rfl

set_option maxRecDepth 100000 in
/-- An argument of the laws' own certificate type, opened. -/
theorem open_cert {H : Type} {enc : TypeId × Value → H} {W : World} {base : Nat} {v : Value} {d : DataW H} {p : List MemPlace} (hv : Value.okWide Tryz.prog W .any base 53 v) (h : DataW.Trod enc Tryz.prog W 0 (fun _ => true) true 53 v d p) :
    ∃ (hs : ByteArray) (t : Tm) (op n : Int) (s : ByteArray) (a : Option Addr) (len cap : Nat) (u : Int), v = .agg #[.string hs, .int .i64 op, .int .i64 n, .string s, .slice a len cap, .int .i64 u] ∧ Lies W 0 t (tmCells op n s a len cap) ∧ hs.size ≤ maxLen ∧ (Lit.int .i64 u).wf = true := by
  obtain ⟨cs, rfl, hsz⟩ := okWide_struct Tryz.underlying53 hv
  obtain ⟨fuel, hf⟩ := h
  obtain ⟨xs, m, hfu, hx, hl, hlen, hg⟩ := DataW.trod_struct Tryz.underlying53 hf
  rw [cells26] at hl
  have g0 : DataW.trod enc Tryz.prog W 0 (fun _ => true) true m 9 (((Value.agg cs).cells.toList.drop 0).take (Tryz.prog.cellsOf 9)) = xs[0]? := hg 0 _ rfl
  have g1 : DataW.trod enc Tryz.prog W 0 (fun _ => true) true m 24 (((Value.agg cs).cells.toList.drop 1).take (Tryz.prog.cellsOf 24)) = xs[1]? := hg 1 _ rfl
  have g2 : DataW.trod enc Tryz.prog W 0 (fun _ => true) true m 3 (((Value.agg cs).cells.toList.drop 5).take (Tryz.prog.cellsOf 3)) = xs[2]? := hg 2 _ rfl
  rw [cells9c] at g0
  rw [cells24] at g1
  rw [cells3c] at g2
  obtain ⟨cl⟩ := cs
  match cl, hl with
  | [c0, c1, c2, c3, c4, c5], _ =>
    match xs, hlen with
    | [y0, y1, y2], _ =>
      obtain ⟨hs, q0, _, w0⟩ := DataW.trod_string Tryz.underlying9 (by simpa [Value.cells] using g0)
      obtain ⟨u, q2, _, w2⟩ := DataW.trod_int Tryz.underlying3 (by simpa [Value.cells] using g2)
      obtain ⟨T, hT⟩ := open_tm (t := 22) (e := 24) (tint := 3) (tstr := 9) Tryz.underlying24 (by kernel_rfl) cells24 rfl rfl rfl rfl Tryz.underlying3 Tryz.underlying9 Tryz.underlying22 m _ _ (by simpa [Value.cells] using g1)
      obtain ⟨op, n, s, a, len, cap, he⟩ := hT.cells
      rw [he] at hT
      simp at q0 q2
      subst q0 q2
      simp [tmCells] at he
      obtain ⟨rfl, rfl, rfl, rfl⟩ := he
      exact ⟨hs, T, op, n, s, a, len, cap, u, rfl, hT, w0, w2⟩

end Go.Proofs.YtlepdkbkiajkiaaGreatDoor
