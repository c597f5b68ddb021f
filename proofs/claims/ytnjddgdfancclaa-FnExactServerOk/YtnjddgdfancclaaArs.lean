/- An argument of the laws' own server type, opened: its cells, its terms and its ints that lie in memory. -/
import Derived.Test.YtnjddgdfancclaaArg
import Derived.Test.YtnjddgdfancclaaIn
import Derived.ChangeSlices
namespace Go.Proofs.Ytnjddgdfancclaa
open Go.ChangeShapes Go.WideShapes Go.ChangeAt Go.RowKit Go.Deep

theorem cellsS : Try.prog.cellsOf 27 = 16 := by kernel_rfl
theorem cells9s : Try.prog.cellsOf 9 = 1 := by kernel_rfl
theorem cells3s : Try.prog.cellsOf 3 = 1 := by kernel_rfl
theorem cells4s : Try.prog.cellsOf 4 = 1 := by kernel_rfl
theorem cellsGs : Try.prog.cellsOf 25 = 1 := by kernel_rfl

/-- A row of ints that can be read as data. -/
theorem open_ins {H : Type} {enc : TypeId × Value → H} {W : World} {m : Nat} {c : Value} {x : DataW H × List MemPlace} (h : DataW.trod enc Try.prog W 0 (fun _ => true) true m 25 [c] = some x) :
    ∃ (a : Option Addr) (cap : Nat) (l : List Int), c = .slice a l.length cap ∧ Ints W 0 a l ∧ l.length ≤ maxLen := by
  rcases open_ints Try.underlying25 Try.underlying3 cells3s h with ⟨hcs, hx⟩ | ⟨a, len, cap, ss, hcs, _, hl, hm, hz, hx, hcell, hsz⟩
  · simp at hcs
    exact ⟨none, 0, [], by simpa using hcs, fun k t hk => by simp at hk, by simp⟩
  · simp at hcs hz
    subst hcs
    refine ⟨some a, cap, ss.take len, by simp [hz, hl], ?_, by simp; omega⟩
    intro k t hk
    have hkl : k < len ∧ k < ss.length := by
      have := (List.getElem?_eq_some_iff.1 hk).1
      simp at this
      omega
    have hc := hcell k hkl.2
    have h0 := World.cell?_spot (hcell 0 (by omega))
    obtain ⟨b, o, sp⟩ := a
    have hsp : sp = none := by simpa [Addr.add] using h0
    subst hsp
    refine ⟨b, o, rfl, Nat.zero_le _, ?_⟩
    have hget : ss.getD k 0 = t := by
      rw [List.getElem?_take_of_lt hkl.1] at hk
      simp [List.getD, hk]
    rw [hget] at hc
    by_cases hk0 : k = 0
    · subst hk0
      simpa [Addr.add] using hc
    · simpa [Addr.add, hk0] using hc

set_option maxRecDepth 100000 in
set_option maxHeartbeats 1000000 in
theorem open_server {H : Type} {enc : TypeId × Value → H} {W : World} {base : Nat} {v : Value} {d : DataW H} {p : List MemPlace} (hv : Value.okWide Try.prog W .any base 27 v) (hd : DataW.Trod enc Try.prog W 0 (fun _ => true) true 27 v d p) :
    ∃ (t u : Tm) (l : List Int) (st : Int) (h : ByteArray) (ke : Int) (ep : Int) (op : Int) (n : Int) (s : ByteArray) (a : Option Addr) (len : Nat) (cap : Nat) (oq : Int) (m : Int) (r : ByteArray) (c : Option Addr) (lem : Nat) (cat : Nat) (i : Int) (o : Int) (tl : Bool) (g : Option Addr) (gc : Nat), v = .agg #[.int .i64 st, .string h, .int .i64 ke, .int .i64 ep, .int .i64 op, .int .i64 n, .string s, .slice a len cap, .int .i64 oq, .int .i64 m, .string r, .slice c lem cat, .int .i64 i, .int .i64 o, .bool tl, .slice g l.length gc] ∧ Lies W 0 t (tmCells op n s a len cap) ∧ Lies W 0 u (tmCells oq m r c lem cat) ∧ Ints W 0 g l ∧ l.length ≤ maxLen ∧ h.size ≤ maxLen := by
  obtain ⟨cs, rfl, hsz⟩ := okWide_struct Try.underlying27 hv
  obtain ⟨fuel, hf⟩ := hd
  obtain ⟨xs, mm, hfu, hx, hl, hlen, hg⟩ := DataW.trod_struct Try.underlying27 hf
  rw [cellsS] at hl
  have g0 : DataW.trod enc Try.prog W 0 (fun _ => true) true mm 3 (((Value.agg cs).cells.toList.drop 0).take (Try.prog.cellsOf 3)) = xs[0]? := hg 0 _ rfl
  have g1 : DataW.trod enc Try.prog W 0 (fun _ => true) true mm 9 (((Value.agg cs).cells.toList.drop 1).take (Try.prog.cellsOf 9)) = xs[1]? := hg 1 _ rfl
  have g2 : DataW.trod enc Try.prog W 0 (fun _ => true) true mm 3 (((Value.agg cs).cells.toList.drop 2).take (Try.prog.cellsOf 3)) = xs[2]? := hg 2 _ rfl
  have g3 : DataW.trod enc Try.prog W 0 (fun _ => true) true mm 3 (((Value.agg cs).cells.toList.drop 3).take (Try.prog.cellsOf 3)) = xs[3]? := hg 3 _ rfl
  have g4 : DataW.trod enc Try.prog W 0 (fun _ => true) true mm 24 (((Value.agg cs).cells.toList.drop 4).take (Try.prog.cellsOf 24)) = xs[4]? := hg 4 _ rfl
  have g5 : DataW.trod enc Try.prog W 0 (fun _ => true) true mm 24 (((Value.agg cs).cells.toList.drop 8).take (Try.prog.cellsOf 24)) = xs[5]? := hg 5 _ rfl
  have g6 : DataW.trod enc Try.prog W 0 (fun _ => true) true mm 3 (((Value.agg cs).cells.toList.drop 12).take (Try.prog.cellsOf 3)) = xs[6]? := hg 6 _ rfl
  have g7 : DataW.trod enc Try.prog W 0 (fun _ => true) true mm 3 (((Value.agg cs).cells.toList.drop 13).take (Try.prog.cellsOf 3)) = xs[7]? := hg 7 _ rfl
  have g8 : DataW.trod enc Try.prog W 0 (fun _ => true) true mm 4 (((Value.agg cs).cells.toList.drop 14).take (Try.prog.cellsOf 4)) = xs[8]? := hg 8 _ rfl
  have g9 : DataW.trod enc Try.prog W 0 (fun _ => true) true mm 25 (((Value.agg cs).cells.toList.drop 15).take (Try.prog.cellsOf 25)) = xs[9]? := hg 9 _ rfl
  rw [cells3s] at g0
  rw [cells9s] at g1
  rw [cells3s] at g2
  rw [cells3s] at g3
  rw [cells24] at g4
  rw [cells24] at g5
  rw [cells3s] at g6
  rw [cells3s] at g7
  rw [cells4s] at g8
  rw [cellsGs] at g9
  obtain ⟨cl⟩ := cs
  match cl, hl with
  | [c0, c1, c2, c3, c4, c5, c6, c7, c8, c9, c10, c11, c12, c13, c14, c15], _ =>
    match xs, hlen with
    | [y0, y1, y2, y3, y4, y5, y6, y7, y8, y9], _ =>
      obtain ⟨st, q0, _, w0⟩ := DataW.trod_int Try.underlying3 (by simpa [Value.cells] using g0)
      obtain ⟨h, q1, _, w1⟩ := DataW.trod_string Try.underlying9 (by simpa [Value.cells] using g1)
      obtain ⟨ke, q2, _, w2⟩ := DataW.trod_int Try.underlying3 (by simpa [Value.cells] using g2)
      obtain ⟨ep, q3, _, w3⟩ := DataW.trod_int Try.underlying3 (by simpa [Value.cells] using g3)
      obtain ⟨i, q6, _, w6⟩ := DataW.trod_int Try.underlying3 (by simpa [Value.cells] using g6)
      obtain ⟨o, q7, _, w7⟩ := DataW.trod_int Try.underlying3 (by simpa [Value.cells] using g7)
      obtain ⟨tl, q8, _⟩ := DataW.trod_bool Try.underlying4 (by simpa [Value.cells] using g8)
      obtain ⟨T, hT⟩ := open_tm (t := 22) (e := 24) (tint := 3) (tstr := 9) Try.underlying24 (by kernel_rfl) cells24 rfl rfl rfl rfl Try.underlying3 Try.underlying9 Try.underlying22 mm _ _ (by simpa [Value.cells] using g4)
      obtain ⟨op, n, s, a, len, cap, heT⟩ := hT.cells
      rw [heT] at hT
      obtain ⟨U, hU⟩ := open_tm (t := 22) (e := 24) (tint := 3) (tstr := 9) Try.underlying24 (by kernel_rfl) cells24 rfl rfl rfl rfl Try.underlying3 Try.underlying9 Try.underlying22 mm _ _ (by simpa [Value.cells] using g5)
      obtain ⟨oq, m, r, c, lem, cat, heU⟩ := hU.cells
      rw [heU] at hU
      obtain ⟨g, gc, l, qG, hI, hIm⟩ := open_ins (c := c15) (by simpa [Value.cells] using g9)
      simp at q0 q1 q2 q3 q6 q7 q8
      subst q0 q1 q2 q3 q6 q7 q8 qG
      simp [tmCells] at heT heU
      obtain ⟨rfl, rfl, rfl, rfl⟩ := heT
      obtain ⟨rfl, rfl, rfl, rfl⟩ := heU
      exact ⟨T, U, l, st, h, ke, ep, op, n, s, a, len, cap, oq, m, r, c, lem, cat, i, o, tl, g, gc, rfl, hT, hU, hI, hIm, w1⟩

end Go.Proofs.Ytnjddgdfancclaa
