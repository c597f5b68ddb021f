
/- The walks of strings.Clone, impl.Labels, impl.labelsOk and impl.HostOk: what stands between bytes 46, in a row of the call's own; whether a text is labels; nothing that was there is written. -/
import Derived.Test.YtjckdepcgjfomaaDoorHc
import Derived.Test.YtjckdepcgjfomaaDoorShelf
namespace Go.Proofs.YtjckdepcgjfomaaDoor
open Go.RowKit Go.Deep

set_option maxRecDepth 100000 in
theorem clone36 (s : ByteArray) (w : World) (hs : s.size ≤ 2097152) :
    Calls Tryd.prog 48 #[.string s] w fun e w' => e = .returned (.string s) ∧ Below w.heap.size w w' := by
  have h := hide (fun v => Tryd.stringslite_Clone s v (by omega))
  go_enter Tryd.func48, Tryd.ntmps48
  go_wp2_with fail
  refine (unhide h _).mono ?_
  rintro e w2 ⟨rfl, hb2⟩
  go_wp2_with fail
  go_ret
  exact ⟨rfl, hb2⟩

theorem Txs.iterAt {w wr : World} {l : List ByteArray} {v : Value} (h : Txs w l v wr) {k : Nat} {s : ByteArray} {pos : Nat} (hk : wr.heap[k]? = some (.stringIter s pos)) (pos' : Nat) : Txs w l v (wr.iterAt k s pos') := by
  refine World.ownsRow.kept h (row := some k) ⟨rfl, rfl, rfl, by rw [Lib.iterAt_size]; exact Nat.le_refl _, fun j _ hj => Lib.iterAt_other wr k j s pos' fun e => hj (by rw [e])⟩ ?_
  rcases h.2 with ⟨h1, _⟩ | ⟨g, cap, cur, h1, _, h3, _⟩
  · exact Or.inl (by rw [h1]; rfl)
  · refine Or.inr (fun e => ?_)
    rw [h1] at e
    cases e
    rw [h3] at hk
    cases hk
theorem Txs.notIter {w wr : World} {l : List ByteArray} {v : Value} (h : Txs w l v wr) {k : Nat} {s : ByteArray} {pos : Nat} (hk : wr.heap[k]? = some (.stringIter s pos)) : some k ≠ v.ownBlock := fun e => by
  rcases h.2 with ⟨h1, _⟩ | ⟨g, cap, cur, h1, _, h3, _⟩
  · rw [h1] at e; cases e
  · rw [h1] at e
    cases e
    rw [h3] at hk
    cases hk
theorem grown_iter {w w' : World} {row : Option Nat} {k : Nat} {s : ByteArray} {pos : Nat} {x : Obj} (hk : w.heap[k]? = some (.stringIter s pos)) (hn : some k ≠ row) (hg : (w.alloc x).grownBy w' row) : w'.heap[k]? = some (.stringIter s pos) := by
  have h1 : k < w.heap.size := (Array.getElem?_eq_some_iff.1 hk).1
  rw [hg.block k (by rw [heap_size_alloc]; omega) hn, (abH x).block k h1, hk]
theorem Txs.nil (w : World) (s : ByteArray) : Txs w [] (.slice none 0 0) (w.iter s 0) := ⟨rfl, Or.inl ⟨rfl, rfl⟩⟩

/-- How far the range over the text has come: what was put, and where the label that is under way began. -/
def Run (s : ByteArray) (pos st : Nat) (ls : List ByteArray) : Prop := pos ≤ s.size ∧ st ≤ pos ∧ ls.length ≤ pos ∧ ls ++ labs s (s.size - pos) st = labsOf s
theorem Run.start (s : ByteArray) : Run s 0 0 [] := ⟨Nat.zero_le _, Nat.le_refl _, Nat.le_refl _, rfl⟩
theorem Run.dot {s : ByteArray} {pos st : Nat} {ls : List ByteArray} (h : Run s pos st ls) (hp : pos < s.size) (hd : byteAt s pos = 46) : Run s (pos + 1) (pos + 1) (ls ++ [s.extract st pos]) := by
  refine ⟨hp, Nat.le_refl _, by have := h.2.2.1; simp; omega, ?_⟩
  rw [← h.2.2.2, labs_dot hp hd]
  simp
theorem Run.next {s : ByteArray} {pos st : Nat} {ls : List ByteArray} (h : Run s pos st ls) (hp : pos < s.size) (hd : ¬ byteAt s pos = 46) : Run s (pos + (Utf8.decode s pos).2) st ls := by
  obtain ⟨_, h1, h2, h3⟩ := h
  rcases Nat.lt_or_ge (byteAt s pos) 128 with hb | hb
  · rw [decode_byte hp hb]
    exact ⟨hp, by simp only; omega, by simp only; omega, by rw [← h3, labs_no hp hd]⟩
  · obtain ⟨w1, w2⟩ := decode_wide hp hb
    exact ⟨w1, by omega, by omega, by rw [← h3, labs_skip _ pos w1 fun j a b => by have := w2 j a b; omega]⟩
theorem Run.last {s : ByteArray} {pos st : Nat} {ls : List ByteArray} (h : Run s pos st ls) (hp : ¬ pos < s.size) : ls ++ [s.extract st s.size] = labsOf s := by
  rw [← h.2.2.2, show s.size - pos = 0 by omega]
  rfl

end Go.Proofs.YtjckdepcgjfomaaDoor
