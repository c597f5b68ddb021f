
/- The walks of spec.l5Label, spec.Labels, spec.l5Labels and spec.HostOk: whether a text is a host; nothing that was there is written. -/
import Derived.Test.YtfbillhfbdconaaHa
import Derived.Laws.AppendOwn
import Derived.Deep.DeepAppendWide
import Derived.Deep.Fields
namespace Go.Proofs.Ytfbillhfbdconaa
open Go.RowKit Go.Deep

theorem in14 (x lo hi : Int) (w : World) :
    Calls Try.prog 18 #[.int .i64 x, .int .i64 lo, .int .i64 hi] w fun e w' => e = .returned (.bool (decide (lo ≤ x ∧ x ≤ hi))) ∧ w' = w := by
  go_enter Try.func18, Try.ntmps18
  go_wp2
  all_goals go_ret
  all_goals exact ⟨retB (by simp; omega), rfl⟩

theorem infoS : (Try.prog.info? 9).map (fun i => (i.zero, i.size, i.bytes)) = some (some (.string ⟨#[]⟩), 1, 16) := by kernel_rfl
/-- The texts lie in a row of the call's own. -/
def Txs (w : World) (l : List ByteArray) (v : Value) (wr : World) : Prop := wr.ownsRow w.heap.size 9 1 v l.length (l.map fun b => Value.string b)
theorem Txs.shape {w wr : World} {l : List ByteArray} {v : Value} (h : Txs w l v wr) : ∃ a c, v = .slice a l.length c := by
  rcases h.2 with ⟨h1, h2⟩ | ⟨g, cap, cur, h1, _⟩
  · exact ⟨none, 0, by rw [h1, h2]⟩
  · exact ⟨_, _, h1⟩
theorem Txs.on {w wr w2 : World} {l : List ByteArray} {v : Value} (h : Txs w l v wr) (hb : Below wr.heap.size wr w2) : Txs w l v w2 :=
  World.ownsRow.kept h (w' := w2) (row := none) ⟨hb.os, hb.tape, hb.output, hb.size, fun k hk _ => hb.block k hk⟩ (by cases v.ownBlock <;> simp)
theorem abH {w : World} (x : Obj) : Below w.heap.size w (w.alloc x) := (Below.refl _ _).alloc (Nat.le_refl _) _
theorem Txs.lit (w : World) : Txs w [] (.slice (some ⟨w.heap.size, 0, none⟩) 0 0) (w.alloc (.cells #[] 9)) :=
  ⟨rfl, Or.inr ⟨w.heap.size, 0, #[], rfl, Nat.le_refl _, heap_alloc_new w _, Nat.le_refl _, Nat.zero_le _, rfl, rfl⟩⟩
/-- How far the labels are gone through. -/
def Gone (s : ByteArray) (k fr : Nat) (ls : List ByteArray) : Prop := (k ≤ s.size ∧ fr ≤ k ∧ ls ++ labs s (s.size - k) fr = labsOf s) ∨ (k = s.size + 1 ∧ ls = labsOf s)
theorem Gone.end {s : ByteArray} {k fr : Nat} {ls : List ByteArray} (h : Gone s k fr ls) (hk : ¬ k ≤ s.size) : ls = labsOf s := by
  rcases h with h | h
  · exact absurd h.1 hk
  · exact h.2
theorem Gone.last {s : ByteArray} {k fr : Nat} {ls : List ByteArray} (h : Gone s k fr ls) (hk : k = s.size) (fr' : Nat) : Gone s (k + 1) fr' (ls ++ [s.extract fr k]) := by
  rcases h with h | h
  · refine Or.inr ⟨by omega, ?_⟩
    rw [← h.2.2, hk, Nat.sub_self]
    simp [labs]
  · omega
theorem Gone.dot {s : ByteArray} {k fr : Nat} {ls : List ByteArray} (h : Gone s k fr ls) (hk : k < s.size) (hd : byteAt s k = 46) : Gone s (k + 1) (k + 1) (ls ++ [s.extract fr k]) := by
  rcases h with h | h
  · refine Or.inl ⟨by omega, Nat.le_refl _, ?_⟩
    rw [← h.2.2, labs_dot hk hd]
    simp
  · omega
theorem Gone.next {s : ByteArray} {k fr : Nat} {ls : List ByteArray} (h : Gone s k fr ls) (hk : k < s.size) (hd : ¬ byteAt s k = 46) : Gone s (k + 1) fr ls := by
  rcases h with h | h
  · exact Or.inl ⟨by omega, by omega, by rw [← h.2.2, labs_no hk hd]⟩
  · omega
theorem Gone.le {s : ByteArray} {k fr : Nat} {ls : List ByteArray} (h : Gone s k fr ls) (hk : k ≤ s.size) : fr ≤ k := by
  rcases h with h | h
  · exact h.2.1
  · omega

end Go.Proofs.Ytfbillhfbdconaa
