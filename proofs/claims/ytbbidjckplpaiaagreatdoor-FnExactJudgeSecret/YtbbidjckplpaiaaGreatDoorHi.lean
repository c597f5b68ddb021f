
/- The walks of strings.Clone, impl.Labels, impl.labelsOk and impl.HostOk: what stands between bytes 46, in a row of the call's own; whether a text is labels; nothing that was there is written. -/
import Derived.Test.YtbbidjckplpaiaaGreatDoorHc
import Derived.Test.YtbbidjckplpaiaaGreatDoorShelf
namespace Go.Proofs.YtbbidjckplpaiaaGreatDoor
open Go.RowKit Go.Deep

set_option maxRecDepth 100000 in
theorem clone36 (s : ByteArray) (w : World) (hs : s.size ≤ 2097152) :
    Calls Tryz.prog 158 #[.string s] w fun e w' => e = .returned (.string s) ∧ Below w.heap.size w w' := by
  have h := hide (fun v => Tryz.stringslite_Clone s v (by omega))
  go_enter Tryz.func158, Tryz.ntmps158
  go_wp2_with fail
  refine (unhide h _).mono ?_
  rintro e w2 ⟨rfl, hb2⟩
  go_wp2_with fail
  go_ret
  exact ⟨rfl, hb2⟩

theorem Txs.iterAt {w wr : World} {l : List ByteArray} {v : Value} (h : Txs w l v wr) {k : Nat} {s : ByteArray} {pos : Nat} (hk : wr.heap[k]? = some (.stringIter s pos)) (pos' : Nat) : Txs w l v (wr.iterAt k s pos') := by
  refine World.ownsRow.kept h (row := some k) ⟨rfl, rfl, rfl, by rw [Lib.iterAt_size]; exact Nat.le_refl _, fun j _ hj => Lib.iterAt_other wr k j s pos' fun e => hj (by rw [e])⟩ ?_
  rcases h.2 with ⟨h1, _⟩ | ⟨g, cap, cur, h1, _, h3, _⟩
  · exact Or.inl (by rw [h1]; rfl)
  · refine Or.inr (fun e => ?_)
    rw [h1] at e
    cases e
    rw [h3] at hk
    cases hk
theorem Txs.notIter {w wr : World} {l : List ByteArray} {v : Value} (h : Txs w l v wr) {k : Nat} {s : ByteArray} {pos : Nat} (hk : wr.heap[k]? = some (.stringIter s pos)) : some k ≠ v.ownBlock := fun e => by
  rcases h.2 with ⟨h1, _⟩ | ⟨g, cap, cur, h1, _, h3, _⟩
  · rw [h1] at e; cases e
  · rw [h1] at e
    cases e
    rw [h3] at hk
    cases hk
theorem grown_iter {w w' : World} {row : Option Nat} {k : Nat} {s : ByteArray} {pos : Nat} {x : Obj} (hk : w.heap[k]? = some (.stringIter s pos)) (hn : some k ≠ row) (hg : (w.alloc x).grownBy w' row) : w'.heap[k]? = some (.stringIter s pos) := by
  have h1 : k < w.heap.size := (Array.getElem?_eq_some_iff.1 hk).1
  rw [hg.block k (by rw [heap_size_alloc]; omega) hn, (abH x).block k h1, hk]
theorem Txs.nil (w : World) (s : ByteArray) : Txs w [] (.slice none 0 0) (w.iter s 0) := ⟨rfl, Or.inl ⟨rfl, rfl⟩⟩

/-- How far the range over the text has come: what was put, and where the label that is under way began. -/
def Run (s : ByteArray) (pos st : Nat) (ls : List ByteArray) : Prop := pos ≤ s.size ∧ st ≤ pos ∧ ls.length ≤ pos ∧ ls ++ labs s (s.size - pos) st = labsOf s
theorem Run.start (s : ByteArray) : Run s 0 0 [] := ⟨Nat.zero_le _, Nat.le_refl _, Nat.le_refl _, rfl⟩
theorem Run.dot {s : ByteArray} {pos st : Nat} {ls : List ByteArray} (h : Run s pos st ls) (hp : pos < s.size) (hd : byteAt s pos = 46) : Run s (pos + 1) (pos + 1) (ls ++ [s.extract st pos]) := by
  refine ⟨hp, Nat.le_refl _, by have := h.2.2.1; simp; omega, ?_⟩
  rw [← h.2.2.2, labs_dot hp hd]
  simp
theorem Run.next {s : ByteArray} {pos st : Nat} {ls : List ByteArray} (h : Run s pos st ls) (hp : pos < s.size) (hd : ¬ byteAt s pos = 46) : Run s (pos + (Utf8.decode s pos).2) st ls := by
  obtain ⟨_, h1, h2, h3⟩ := h
  rcases Nat.lt_or_ge (byteAt s pos) 128 with hb | hb
  · rw [decode_byte hp hb]
    exact ⟨hp, by simp only; omega, by simp only; omega, by rw [← h3, labs_no hp hd]⟩
  · obtain ⟨w1, w2⟩ := decode_wide hp hb
    exact ⟨w1, by omega, by omega, by rw [← h3, labs_skip _ pos w1 fun j a b => by have := w2 j a b; omega]⟩
theorem Run.last {s : ByteArray} {pos st : Nat} {ls : List ByteArray} (h : Run s pos st ls) (hp : ¬ pos < s.size) : ls ++ [s.extract st s.size] = labsOf s := by
  rw [← h.2.2.2, show s.size - pos = 0 by omega]
  rfl

set_option maxRecDepth 100000 in
set_option maxHeartbeats 1000000 in
theorem labelsI (s : ByteArray) (w : World) (hs : s.size ≤ 2097152) :
    Calls Tryz.prog 147 #[.string s] w fun e w' => ∃ v, e = .returned v ∧ Txs w (labsOf s) v w' ∧ Below w.heap.size w w' := by
  have h36 := hide (fun (l : ByteArray) v (h : l.size ≤ s.size) => clone36 l v (by omega))
  go_enter Tryz.func147, Tryz.ntmps147
  go_wp2_with fail
  go_loopw [3, 4] (fun v n wr => ∃ (pos st : Nat) (ls : List ByteArray), n = .int .i64 st ∧ Txs w ls v wr ∧ wr.heap[w.heap.size]? = some (.stringIter s pos) ∧ Below w.heap.size w wr ∧ Run s pos st ls) (fun _ _ wr => s.size - wr.iterPos w.heap.size)
  case atStart => exact ⟨0, 0, [], rfl, Txs.nil w s, World.iter_heap _ _ _, iterBelow (Below.refl _ _), Run.start s⟩
  case round =>
    obtain ⟨pos, st, ls, rfl, htx, hit, hbw, hrun⟩ := hrel
    obtain ⟨ua, uc, rfl⟩ := htx.shape
    have HTX := hide htx
    have HIT := hide hit
    have HBW := hide hbw
    have HRUN := hide hrun
    have HP0 : Hid (wr.iterPos w.heap.size = pos) := iterPos_of hit
    obtain ⟨r1, r2, r3, r4⟩ := hrun
    by_cases hp : pos < s.size
    · have hnx := fun ty => Lib.run_next_any_at (P := Tryz.prog) wr w.heap.size s pos ty hit hp
      clear htx hit hbw r4
      have c1 : (pos : Int) ≤ (s.size : Int) := by omega
      have c2 : (st : Int) ≤ (pos : Int) := by omega
      have c3 : (0 : Int) ≤ (st : Int) := by omega
      have c4 : (0 : Int) ≤ (pos : Int) := by omega
      by_cases hd : byteAt s pos = 46
      · simp only [decode_byte hp (show byteAt s pos < 128 by omega), hd, Int.cast_ofNat_Int] at hnx
        have w1 : wrap64 ((pos : Int) + 1) = ((pos + 1 : Nat) : Int) := by unfold wrap64; omega
        have hc := hide (fun v => unhide h36 (s.extract st pos) v (size_extract_le _ _ _))
        generalize hul : ls.length = ul at *
        go_wp2_with fail
        refine (unhide hc _).mono ?_
        rintro e w2 ⟨rfl, hb2⟩
        have HTX2 := hide (((unhide HTX).iterAt (unhide HIT) (pos + 1)).on hb2)
        have HBI := hide (Lib.below_iterAt (unhide HBW) (Nat.le_refl _) s (pos + 1))
        have HBW2 := hide ((unhide HBI).trans (hb2.mono (unhide HBI).size))
        have HIT2 := hide (iter_kept (unhide HIT) hb2)
        clear hb2
        subst hul
        have HAP := hide ((unhide HTX2).put (unhide HBW2) (s.extract st pos) (b := w2.heap.size) (abH (.cells #[.string (s.extract st pos)] 9)) (box_cell w2 _ 9 0 _ rfl) (by omega) 79)
        have HNI := hide ((unhide HTX2).notIter (unhide HIT2))
        have HN := hide ((unhide HRUN).dot hp hd)
        generalize hul : ls.length = ul at *
        go_wp2_with (at_builtin; refine wpList_append_run rfl _ _ 79 rfl _ _ rfl rfl (fun v' w' => Txs w (ls ++ [s.extract st pos]) v' w' ∧ (w2.alloc (.cells #[.string (s.extract st pos)] 9)).grownBy w' (Value.slice ua ul uc).ownBlock ∧ Below w.heap.size w w') (unhide HAP) ?_; rintro v3 w3 ⟨hb3, hg3, hbw3⟩; have HB3 := hide hb3; have HW3 := hide hbw3; have HI3 := hide (grown_iter (unhide HIT2) (unhide HNI) hg3); clear hb3 hg3 hbw3)
        go_roundw
        case rel => exact ⟨pos + 1, pos + 1, _, rfl, unhide HB3, unhide HI3, unhide HW3, unhide HN⟩
        case measure =>
          have e1 := iterPos_of (unhide HI3)
          have e0 := unhide HP0
          simp only [e0, e1]
          omega
      · have hr : ((((Utf8.decode s pos).1 : Nat) : Int) == 46) = false := by
          rcases Nat.lt_or_ge (byteAt s pos) 128 with hb | hb
          · rw [decode_byte hp hb]
            simp
            omega
          · have := decode_not hp hb
            simp
            omega
        generalize hul : ls.length = ul at *
        go_wp2_with fail
        go_roundw
        case rel =>
          exact ⟨_, st, ls, rfl, (unhide HTX).iterAt (unhide HIT) _, Lib.iterAt_heap wr w.heap.size s pos _ (unhide HIT), Lib.below_iterAt (unhide HBW) (Nat.le_refl _) s _, (unhide HRUN).next hp hd⟩
        case measure =>
          have e1 := iterPos_of (Lib.iterAt_heap wr w.heap.size s pos (pos + (Utf8.decode s pos).2) (unhide HIT))
          have e0 := unhide HP0
          have := width_pos s pos hp
          simp only [e0, e1]
          omega
    · have hnx := fun ty => Lib.run_next_end_at (P := Tryz.prog) wr w.heap.size s pos ty hit hp
      clear htx hit hbw r4
      have c5 : (st : Int) ≤ (s.size : Int) := by omega
      have c3 : (0 : Int) ≤ (st : Int) := by omega
      have hc := hide (fun v => unhide h36 (s.extract st s.size) v (size_extract_le _ _ _))
      generalize hul : ls.length = ul at *
      go_wp2_with fail
      refine (unhide hc _).mono ?_
      rintro e w2 ⟨rfl, hb2⟩
      have HTX2 := hide ((unhide HTX).on hb2)
      have HBW2 := hide ((unhide HBW).trans (hb2.mono (unhide HBW).size))
      clear hb2
      subst hul
      have HAP := hide ((unhide HTX2).put (unhide HBW2) (s.extract st s.size) (b := w2.heap.size) (abH (.cells #[.string (s.extract st s.size)] 9)) (box_cell w2 _ 9 0 _ rfl) (by omega) 79)
      have HN := hide ((unhide HRUN).last hp)
      generalize hul : ls.length = ul at *
      go_wp2_with (at_builtin; refine wpList_append_run rfl _ _ 79 rfl _ _ rfl rfl (fun v' w' => Txs w (ls ++ [s.extract st s.size]) v' w' ∧ (w2.alloc (.cells #[.string (s.extract st s.size)] 9)).grownBy w' (Value.slice ua ul uc).ownBlock ∧ Below w.heap.size w w') (unhide HAP) ?_; rintro v3 w3 ⟨hb3, hg3, hbw3⟩; have HB3 := hide hb3; have HW3 := hide hbw3; clear hb3 hg3 hbw3)
      go_ret
      refine ⟨_, rfl, ?_, unhide HW3⟩
      rw [← unhide HN]
      exact unhide HB3

end Go.Proofs.YtbbidjckplpaiaaGreatDoor
