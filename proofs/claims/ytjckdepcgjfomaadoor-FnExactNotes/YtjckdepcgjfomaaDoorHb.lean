
/- The walks of spec.l5Label, spec.Labels, spec.l5Labels and spec.HostOk: whether a text is a host; nothing that was there is written. -/
import Derived.Test.YtjckdepcgjfomaaDoorHa
import Derived.Laws.AppendOwn
import Derived.Deep.DeepAppendWide
import Derived.Deep.Fields
namespace Go.Proofs.YtjckdepcgjfomaaDoor
open Go.RowKit Go.Deep

theorem in14 (x lo hi : Int) (w : World) :
    Calls Tryd.prog 29 #[.int .i64 x, .int .i64 lo, .int .i64 hi] w fun e w' => e = .returned (.bool (decide (lo ≤ x ∧ x ≤ hi))) ∧ w' = w := by
  go_enter Tryd.func29, Tryd.ntmps29
  go_wp2
  all_goals go_ret
  all_goals exact ⟨retB (by simp; omega), rfl⟩

theorem infoS : (Tryd.prog.info? 9).map (fun i => (i.zero, i.size, i.bytes)) = some (some (.string ⟨#[]⟩), 1, 16) := by kernel_rfl
/-- The texts lie in a row of the call's own. -/
def Txs (w : World) (l : List ByteArray) (v : Value) (wr : World) : Prop := wr.ownsRow w.heap.size 9 1 v l.length (l.map fun b => Value.string b)
theorem Txs.shape {w wr : World} {l : List ByteArray} {v : Value} (h : Txs w l v wr) : ∃ a c, v = .slice a l.length c := by
  rcases h.2 with ⟨h1, h2⟩ | ⟨g, cap, cur, h1, _⟩
  · exact ⟨none, 0, by rw [h1, h2]⟩
  · exact ⟨_, _, h1⟩
theorem Txs.on {w wr w2 : World} {l : List ByteArray} {v : Value} (h : Txs w l v wr) (hb : Below wr.heap.size wr w2) : Txs w l v w2 :=
  World.ownsRow.kept h (w' := w2) (row := none) ⟨hb.os, hb.tape, hb.output, hb.size, fun k hk _ => hb.block k hk⟩ (by cases v.ownBlock <;> simp)
/-- One text more, out of a block of its own. -/
theorem Txs.put {w wr w0 : World} {l : List ByteArray} {tv : Value} (h : Txs w l tv wr) (hbw : Below w.heap.size w wr) (c : ByteArray) {b : Nat} (hb : Below wr.heap.size wr w0) (hc : w0.cell? ⟨b, 0, none⟩ = some (.string c)) (hn : l.length + 1 ≤ 1073741824) (ty : TypeId) :
    ∃ v' w', (Builtin.append_ #[39, 39] ty #[tv, .slice (some ⟨b, 0, none⟩) 1 1]).run Tryd.prog w0 = .ok v' w' ∧ Txs w (l ++ [c]) v' w' ∧ w0.grownBy w' tv.ownBlock ∧ Below w.heap.size w w' := by
  obtain ⟨i, hi, hzz⟩ := Option.map_eq_some_iff.1 infoS
  simp only [Prod.mk.injEq] at hzz
  obtain ⟨hz, hs, hby⟩ := hzz
  have h0 := h.on hb
  have hb0 : Below w.heap.size w w0 := hbw.trans (hb.mono hbw.size)
  obtain ⟨v', w', g1, g2, g3, _⟩ := run_append_own_wide (P := Tryd.prog) w0 w.heap.size 39 ty 9 i _ 1 16 Tryd.underlying39 hi hz hs hby rfl (by omega) tv l.length _ h0 ⟨b, 0, none⟩ 1 1 [.string c]
    rfl (fun j u hj => by
      rw [Addr.add_mid]
      match j, hj with
      | 0, hj => simp at hj; subst hj; exact hc) (fun u hu => by simp at hu; subst hu; rfl) (by unfold maxLen; omega) (by omega) hb0.size
  refine ⟨v', w', g1, ?_, g3, hb0.grown g3 hb0.size (fun k hk => (World.ownsRow.lt h0 k hk).1)⟩
  unfold Txs
  rw [List.length_append, List.map_append]
  simpa using g2

theorem abH {w : World} (x : Obj) : Below w.heap.size w (w.alloc x) := (Below.refl _ _).alloc (Nat.le_refl _) _
theorem Txs.lit (w : World) : Txs w [] (.slice (some ⟨w.heap.size, 0, none⟩) 0 0) (w.alloc (.cells #[] 9)) :=
  ⟨rfl, Or.inr ⟨w.heap.size, 0, #[], rfl, Nat.le_refl _, heap_alloc_new w _, Nat.le_refl _, Nat.zero_le _, rfl, rfl⟩⟩
/-- How far the labels are gone through. -/
def Gone (s : ByteArray) (k fr : Nat) (ls : List ByteArray) : Prop := (k ≤ s.size ∧ fr ≤ k ∧ ls ++ labs s (s.size - k) fr = labsOf s) ∨ (k = s.size + 1 ∧ ls = labsOf s)
theorem Gone.end {s : ByteArray} {k fr : Nat} {ls : List ByteArray} (h : Gone s k fr ls) (hk : ¬ k ≤ s.size) : ls = labsOf s := by
  rcases h with h | h
  · exact absurd h.1 hk
  · exact h.2
theorem Gone.last {s : ByteArray} {k fr : Nat} {ls : List ByteArray} (h : Gone s k fr ls) (hk : k = s.size) (fr' : Nat) : Gone s (k + 1) fr' (ls ++ [s.extract fr k]) := by
  rcases h with h | h
  · refine Or.inr ⟨by omega, ?_⟩
    rw [← h.2.2, hk, Nat.sub_self]
    simp [labs]
  · omega
theorem Gone.dot {s : ByteArray} {k fr : Nat} {ls : List ByteArray} (h : Gone s k fr ls) (hk : k < s.size) (hd : byteAt s k = 46) : Gone s (k + 1) (k + 1) (ls ++ [s.extract fr k]) := by
  rcases h with h | h
  · refine Or.inl ⟨by omega, Nat.le_refl _, ?_⟩
    rw [← h.2.2, labs_dot hk hd]
    simp
  · omega
theorem Gone.next {s : ByteArray} {k fr : Nat} {ls : List ByteArray} (h : Gone s k fr ls) (hk : k < s.size) (hd : ¬ byteAt s k = 46) : Gone s (k + 1) fr ls := by
  rcases h with h | h
  · exact Or.inl ⟨by omega, by omega, by rw [← h.2.2, labs_no hk hd]⟩
  · omega
theorem Gone.le {s : ByteArray} {k fr : Nat} {ls : List ByteArray} (h : Gone s k fr ls) (hk : k ≤ s.size) : fr ≤ k := by
  rcases h with h | h
  · exact h.2.1
  · omega

end Go.Proofs.YtjckdepcgjfomaaDoor
