/- The walks of impl.inLabel, impl.labelOk, impl.labelsOk and impl.HostOk: whether a text is a host; nothing that was there is written. -/
import Derived.Test.YtlgbkmfbemghlaaHp
import Derived.Test.YtlgbkmfbemghlaaStk
import Derived.Test.YtlgbkmfbemghlaaProg
import Derived.LoopTactic
import Derived.WalkSpells
import Derived.Lib.OthersKept
namespace Go.Proofs.Ytlgbkmfbemghlaa
open Go.RowKit Go.Deep

theorem inLabel_yes (r : Int) (w : World) (h : (97 ≤ r ∧ r ≤ 122) ∨ (48 ≤ r ∧ r ≤ 57) ∨ r = 45) :
    Calls Try.prog 33 #[.int .i32 r] w fun e w' => e = .returned (.bool true) ∧ w' = w := by
  go_enter Try.func33, Try.ntmps33
  go_wp2
  all_goals go_ret
  all_goals first
    | (exfalso; omega)
    | (refine ⟨?_, rfl⟩; congr 2 <;> simp <;> omega)
theorem inLabel_no (r : Int) (w : World) (h : ¬ ((97 ≤ r ∧ r ≤ 122) ∨ (48 ≤ r ∧ r ≤ 57) ∨ r = 45)) :
    Calls Try.prog 33 #[.int .i32 r] w fun e w' => e = .returned (.bool false) ∧ w' = w := by
  go_enter Try.func33, Try.ntmps33
  go_wp2
  all_goals go_ret
  all_goals first
    | (exfalso; omega)
    | (refine ⟨?_, rfl⟩; congr 2 <;> simp <;> omega)


theorem retB {b c : Bool} (h : c = b) : Ending.returned (.bool b) = .returned (.bool c) := by rw [h]
theorem iterBelow {w v : World} {s : ByteArray} {pos : Nat} (h : Below w.heap.size w v) : Below w.heap.size w (v.iter s pos) := h.alloc h.size _
theorem width_pos (s : ByteArray) (pos : Nat) (h : pos < s.size) : 1 ≤ (Utf8.decode s pos).2 := by
  by_cases ha : (s[pos]'h).toNat < 128
  · rw [decode_ascii s pos h ha]
    exact Nat.le_refl _
  · exact (decode_high s pos h (by omega)).2
theorem decode_byte {s : ByteArray} {pos : Nat} (h : pos < s.size) (ha : byteAt s pos < 128) : Utf8.decode s pos = (byteAt s pos, 1) := by
  rw [← byteAt_lt h] at ha ⊢
  exact decode_ascii s pos h ha
theorem decode_not {s : ByteArray} {pos : Nat} (h : pos < s.size) (ha : 128 ≤ byteAt s pos) : 128 ≤ (Utf8.decode s pos).1 := by
  rw [← byteAt_lt h] at ha
  exact (decode_high s pos h ha).1

set_option maxRecDepth 100000 in
theorem labelOk_empty (s : ByteArray) (w : World) (hs : s.size = 0) :
    Calls Try.prog 29 #[.string s] w fun e w' => e = .returned (.bool false) ∧ Below w.heap.size w w' := by
  have hwr : wrap64 ((s.size : Int) - 1) = -1 := by unfold wrap64; omega
  go_enter Try.func29, Try.ntmps29
  go_wp2
  go_ret
  exact ⟨rfl, Below.refl _ _⟩

set_option maxRecDepth 100000 in
theorem labelOk_long (s : ByteArray) (w : World) (m : Nat) (hm : s.size = m + 1) (hs : s.size ≤ 2097152) (h : 10 ≤ m) :
    Calls Try.prog 29 #[.string s] w fun e w' => e = .returned (.bool false) ∧ Below w.heap.size w w' := by
  have hwr : wrap64 ((s.size : Int) - 1) = (m : Int) := by unfold wrap64; omega
  have h1 : ¬ ((m : Int) < 0) := by omega
  have h2 : (10 : Int) ≤ (m : Int) := by omega
  go_enter Try.func29, Try.ntmps29
  go_wp2
  go_ret
  exact ⟨rfl, Below.refl _ _⟩

set_option maxRecDepth 100000 in
theorem labelOk_first (s : ByteArray) (w : World) (m : Nat) (hm : s.size = m + 1) (h : m < 10) (hb : byteAt s 0 = 45) :
    Calls Try.prog 29 #[.string s] w fun e w' => e = .returned (.bool false) ∧ Below w.heap.size w w' := by
  have hwr : wrap64 ((s.size : Int) - 1) = (m : Int) := by unfold wrap64; omega
  have h1 : ¬ ((m : Int) < 0) := by omega
  have h2 : ¬ (10 : Int) ≤ (m : Int) := by omega
  have h3 : 0 < s.size := by omega
  have h4 : (((s[0]'h3).toNat : Int) == 45) = true := by rw [byteAt_lt h3, hb]; rfl
  go_enter Try.func29, Try.ntmps29
  go_wp2
  go_ret
  exact ⟨rfl, Below.refl _ _⟩

set_option maxRecDepth 100000 in
theorem labelOk_last (s : ByteArray) (w : World) (m : Nat) (hm : s.size = m + 1) (h : m < 10) (ha : byteAt s 0 ≠ 45) (hb : byteAt s m = 45) :
    Calls Try.prog 29 #[.string s] w fun e w' => e = .returned (.bool false) ∧ Below w.heap.size w w' := by
  have hwr : wrap64 ((s.size : Int) - 1) = (m : Int) := by unfold wrap64; omega
  have h1 : ¬ ((m : Int) < 0) := by omega
  have h2 : ¬ (10 : Int) ≤ (m : Int) := by omega
  have h3 : 0 < s.size := by omega
  have h4 : (((s[0]'h3).toNat : Int) == 45) = false := by rw [byteAt_lt h3]; simp; omega
  have h5 : m < s.size := by omega
  have h6 : (((s[m]'h5).toNat : Int) == 45) = true := by rw [byteAt_lt h5, hb]; rfl
  go_enter Try.func29, Try.ntmps29
  go_wp2
  go_ret
  exact ⟨rfl, Below.refl _ _⟩

set_option maxRecDepth 100000 in
theorem labelOk_loop (s : ByteArray) (w : World) (m : Nat) (hm : s.size = m + 1) (h : m < 10) (ha : byteAt s 0 ≠ 45) (hb : byteAt s m ≠ 45) :
    Calls Try.prog 29 #[.string s] w fun e w' => e = .returned (.bool (labB s)) ∧ Below w.heap.size w w' := by
  have hwr : wrap64 ((s.size : Int) - 1) = (m : Int) := by unfold wrap64; omega
  have h1 : ¬ ((m : Int) < 0) := by omega
  have h2 : ¬ (10 : Int) ≤ (m : Int) := by omega
  have h3 : 0 < s.size := by omega
  have h4 : (((s[0]'h3).toNat : Int) == 45) = false := by rw [byteAt_lt h3]; simp; omega
  have h5 : m < s.size := by omega
  have h6 : (((s[m]'h5).toNat : Int) == 45) = false := by rw [byteAt_lt h5]; simp; omega
  go_enter Try.func29, Try.ntmps29
  go_wp2
  go_loopw [5] (fun _ w' => ∃ pos : Nat, w' = w.iter s pos ∧ pos ≤ s.size ∧ ∀ k, k < pos → labByte (byteAt s k)) (fun _ w' => s.size - w'.iterPos w.heap.size)
  case atStart => exact ⟨0, rfl, by omega, fun k hk => by omega⟩
  case round =>
    obtain ⟨pos, rfl, hpos, hall⟩ := hrel
    by_cases hp : pos < s.size
    · have hnx : ∀ ty, (Instr.next (.pointer (some ⟨w.heap.size, 0, none⟩)) true ty).run Try.prog (w.iter s pos) = _ := fun ty => run_next_any w s pos ty hp
      by_cases hin : labByte (byteAt s pos)
      · have hlt : byteAt s pos < 128 := by unfold labByte at hin; omega
        rw [decode_byte hp hlt] at hnx
        have hc := fun v => inLabel_yes (byteAt s pos : Int) v (by unfold labByte at hin; omega)
        go_wp2_with fail
        refine (hc _).mono ?_
        rintro e w2 ⟨rfl, rfl⟩
        go_wp2
        go_roundw
        case rel =>
          refine ⟨pos + 1, rfl, by omega, fun k hk => ?_⟩
          rcases Nat.lt_or_ge k pos with hk' | hk'
          · exact hall k hk'
          · obtain rfl : k = pos := by omega
            exact hin
        case measure =>
          simp
          omega
      · have hc := fun v => inLabel_no ((Utf8.decode s pos).1 : Int) v (by
          rcases Nat.lt_or_ge (byteAt s pos) 128 with hl | hl
          · rw [decode_byte hp hl]
            unfold labByte at hin
            simp only
            omega
          · have := decode_not hp hl
            omega)
        go_wp2_with fail
        refine (hc _).mono ?_
        rintro e w2 ⟨rfl, rfl⟩
        go_wp2
        go_ret
        exact ⟨retB (labB_no (labP_bad hp hin)), iterBelow (Below.refl _ _)⟩
    · have hnx : ∀ ty, (Instr.next (.pointer (some ⟨w.heap.size, 0, none⟩)) true ty).run Try.prog (w.iter s pos) = _ := fun ty => run_next_end w s pos ty hp
      go_wp2
      go_ret
      exact ⟨retB (labB_yes (labP_mk (by omega) (by omega) ha (by rw [show s.size - 1 = m by omega]; exact hb) fun k hk => hall k (by omega))), iterBelow (Below.refl _ _)⟩

theorem labelOk_calls (s : ByteArray) (w : World) (hs : s.size ≤ 2097152) :
    Calls Try.prog 29 #[.string s] w fun e w' => e = .returned (.bool (labB s)) ∧ Below w.heap.size w w' := by
  rcases Nat.eq_zero_or_pos s.size with h0 | h0
  · rw [labB_no fun h => by have := h.1; omega]
    exact labelOk_empty s w h0
  · obtain ⟨m, hm⟩ : ∃ m, s.size = m + 1 := ⟨s.size - 1, by omega⟩
    rcases Nat.lt_or_ge m 10 with h1 | h1
    · by_cases ha : byteAt s 0 = 45
      · rw [labB_no (labP_first ha)]
        exact labelOk_first s w m hm h1 ha
      · by_cases hb : byteAt s m = 45
        · rw [labB_no (labP_last (by rw [show s.size - 1 = m by omega]; exact hb))]
          exact labelOk_last s w m hm h1 ha hb
        · exact labelOk_loop s w m hm h1 ha hb
    · rw [labB_no fun h => by have := h.2.1; omega]
      exact labelOk_long s w m hm hs h1


theorem iterPos_of {w : World} {k : Nat} {s : ByteArray} {pos : Nat} (h : w.heap[k]? = some (.stringIter s pos)) : w.iterPos k = pos := by simp [World.iterPos, h]
theorem iter_kept {w w2 : World} {k : Nat} {s : ByteArray} {pos pos' : Nat} (h : w.heap[k]? = some (.stringIter s pos)) (hb : Below (w.iterAt k s pos').heap.size (w.iterAt k s pos') w2) : w2.heap[k]? = some (.stringIter s pos') := by
  rw [hb.block k (by rw [Lib.iterAt_size]; exact (Array.getElem?_eq_some_iff.1 h).1)]
  exact Lib.iterAt_heap w k s pos pos' h

/-- Where the range over the text stands: as the labels go, or behind a byte that no host has. -/
def Scan (s : ByteArray) (pos st cnt : Nat) : Prop :=
  (pos ≤ s.size ∧ ∃ ls, ls ++ labs s (s.size - pos) st = labsOf s ∧ (∀ l ∈ ls, labP l) ∧ cnt = ls.length + 1) ∨ (∃ j, st ≤ j ∧ j < pos ∧ j < s.size ∧ 128 ≤ byteAt s j)
theorem Scan.start (s : ByteArray) : Scan s 0 0 1 := Or.inl ⟨Nat.zero_le _, [], rfl, by simp, rfl⟩
theorem Scan.dot {s : ByteArray} {pos st cnt : Nat} (h : Scan s pos st cnt) (hp : pos < s.size) (hd : byteAt s pos = 46) (hl : labP (s.extract st pos)) : Scan s (pos + 1) (pos + 1) (cnt + 1) := by
  rcases h with ⟨_, ls, h1, h2, h3⟩ | ⟨j, h1, h2, h3, h4⟩
  · refine Or.inl ⟨hp, ls ++ [s.extract st pos], ?_, ?_, by simp [h3]⟩
    · rw [← h1, labs_dot hp hd]
      simp
    · intro l hm
      rcases List.mem_append.1 hm with hm | hm
      · exact h2 l hm
      · simp at hm
        subst hm
        exact hl
  · exfalso
    refine labP_bad (k := j - st) (by rw [ByteArray.size_extract]; omega) ?_ hl
    rw [byteAt_extract (by omega) (by omega), show st + (j - st) = j by omega]
    unfold labByte
    omega
theorem Scan.bad {s : ByteArray} {pos st cnt : Nat} (h : Scan s pos st cnt) (hp : pos < s.size) (hd : byteAt s pos = 46) (hl : ¬ labP (s.extract st pos)) : ¬ hostP s := by
  rcases h with ⟨_, ls, h1, h2, h3⟩ | ⟨j, h1, h2, h3, h4⟩
  · intro hh
    exact hl (hh.2.2 _ (by rw [← h1, labs_dot hp hd]; simp))
  · exact hostP_bad h3 h4
theorem Scan.next {s : ByteArray} {pos st cnt : Nat} (h : Scan s pos st cnt) (hst : st ≤ pos) (hp : pos < s.size) (hd : ¬ byteAt s pos = 46) : Scan s (pos + (Utf8.decode s pos).2) st cnt := by
  have hw := width_pos s pos hp
  rcases h with ⟨_, ls, h1, h2, h3⟩ | ⟨j, h1, h2, h3, h4⟩
  · rcases Nat.lt_or_ge (byteAt s pos) 128 with hb | hb
    · rw [decode_byte hp hb]
      exact Or.inl ⟨hp, ls, by rw [← h1, labs_no hp hd], h2, h3⟩
    · exact Or.inr ⟨pos, hst, by omega, hp, hb⟩
  · exact Or.inr ⟨j, h1, by omega, h3, h4⟩
theorem Scan.few {s : ByteArray} {pos st cnt : Nat} (h : Scan s pos st cnt) (hp : ¬ pos < s.size) (hc : ¬ 2 ≤ cnt) : ¬ hostP s := by
  rcases h with ⟨h0, ls, h1, h2, h3⟩ | ⟨j, h1, h2, h3, h4⟩
  · intro hh
    have := hh.2.1
    rw [← h1, show s.size - pos = 0 by omega] at this
    simp [labs] at this
    omega
  · exact hostP_bad h3 h4
theorem Scan.last {s : ByteArray} {pos st cnt : Nat} (h : Scan s pos st cnt) (hp : ¬ pos < s.size) (hc : 2 ≤ cnt) (hs : s.size ≤ 60) : hostB s = labB (s.extract st s.size) := by
  rcases h with ⟨h0, ls, h1, h2, h3⟩ | ⟨j, h1, h2, h3, h4⟩
  · rw [show s.size - pos = 0 by omega] at h1
    by_cases hl : labP (s.extract st s.size)
    · rw [labB_yes hl]
      refine hostB_yes ⟨hs, ?_, ?_⟩
      · rw [← h1]
        simp [labs]
        omega
      · intro l hm
        rw [← h1] at hm
        rcases List.mem_append.1 hm with hm | hm
        · exact h2 l hm
        · simp [labs] at hm
          subst hm
          exact hl
    · rw [labB_no hl]
      exact hostB_no fun hh => hl (hh.2.2 _ (by rw [← h1]; simp [labs]))
  · rw [hostB_no (hostP_bad h3 h4), labB_no]
    refine labP_bad (k := j - st) (by rw [ByteArray.size_extract]; omega) ?_
    rw [byteAt_extract (Nat.le_refl _) (by omega), show st + (j - st) = j by omega]
    unfold labByte
    omega
theorem Scan.lt {s : ByteArray} {pos st cnt : Nat} (h : Scan s pos st cnt) (hst : st ≤ pos) : st ≤ s.size := by
  rcases h with ⟨h0, _⟩ | ⟨j, h1, h2, h3, h4⟩ <;> omega

set_option maxRecDepth 100000 in
set_option maxHeartbeats 1000000 in
theorem labelsOk_calls (s : ByteArray) (w : World) (hs : s.size ≤ 60) :
    Calls Try.prog 19 #[.string s, .int .i64 2] w fun e w' => e = .returned (.bool (hostB s)) ∧ Below w.heap.size w w' := by
  have h29 := hide (fun (l : ByteArray) v (h : l.size ≤ s.size) => labelOk_calls l v (by omega))
  go_enter Try.func19, Try.ntmps19
  go_wp2_with fail
  go_loopw [5, 6] (fun c n w' => ∃ pos st cnt : Nat, c = .int .i64 cnt ∧ n = .int .i64 st ∧ w'.heap[w.heap.size]? = some (.stringIter s pos) ∧ Below w.heap.size w w' ∧ st ≤ pos ∧ cnt ≤ pos + 1 ∧ Scan s pos st cnt) (fun _ _ w' => s.size - w'.iterPos w.heap.size)
  case atStart => exact ⟨0, 0, 1, rfl, rfl, World.iter_heap _ _ _, iterBelow (Below.refl _ _), by omega, by omega, Scan.start s⟩
  case round =>
    obtain ⟨pos, st, cnt, rfl, rfl, hit, hbw, hst, hcnt, hsc⟩ := hrel
    have HIT := hide hit
    have HBW := hide hbw
    have HSC := hide hsc
    have hstz := hsc.lt hst
    have HP0 : Hid (wr.iterPos w.heap.size = pos) := by show _ = _; simp [World.iterPos, hit]
    by_cases hp : pos < s.size
    · have hnx := fun ty => Lib.run_next_any_at (P := Try.prog) wr w.heap.size s pos ty hit hp
      clear hit hbw hsc
      have c1 : (pos : Int) ≤ (s.size : Int) := by omega
      have c2 : (st : Int) ≤ (pos : Int) := by omega
      have c3 : (0 : Int) ≤ (st : Int) := by omega
      have c4 : (0 : Int) ≤ (pos : Int) := by omega
      by_cases hd : byteAt s pos = 46
      · simp only [decode_byte hp (show byteAt s pos < 128 by omega), hd, Int.cast_ofNat_Int] at hnx
        have w1 : wrap64 ((pos : Int) + 1) = ((pos + 1 : Nat) : Int) := by unfold wrap64; omega
        have w2 : wrap64 ((cnt : Int) + 1) = ((cnt + 1 : Nat) : Int) := by unfold wrap64; omega
        have hbi := hide (Lib.below_iterAt (unhide HBW) (Nat.le_refl _) s (pos + 1))
        have hii := hide (Lib.iterAt_heap wr w.heap.size s pos (pos + 1) (unhide HIT))
        have hc := hide (fun v => unhide h29 (s.extract st pos) v (size_extract_le _ _ _))
        by_cases hl : labP (s.extract st pos)
        · rw [labB_yes hl] at hc
          have HL := hide hl
          clear hl
          go_wp2_with fail
          refine (unhide hc _).mono ?_
          rintro e w2 ⟨rfl, hb2⟩
          have HB2 := hide hb2
          clear hb2
          go_wp2_with fail
          go_roundw
          case rel =>
            refine ⟨pos + 1, pos + 1, cnt + 1, rfl, rfl, ?_, ?_, by omega, by omega, (unhide HSC).dot hp hd (unhide HL)⟩
            · exact iter_kept (unhide HIT) (unhide HB2)
            · exact (unhide hbi).trans ((unhide HB2).mono (unhide hbi).size)
          case measure =>
            have e1 := iterPos_of (iter_kept (unhide HIT) (unhide HB2))
            have e0 := unhide HP0
            simp only [e0, e1]
            omega
        · rw [labB_no hl] at hc
          go_wp2_with fail
          refine (unhide hc _).mono ?_
          rintro e w2 ⟨rfl, hb2⟩
          go_wp2_with fail
          go_ret
          exact ⟨retB (hostB_no ((unhide HSC).bad hp hd hl)), (unhide hbi).trans (hb2.mono (unhide hbi).size)⟩
      · have hr : ((((Utf8.decode s pos).1 : Nat) : Int) != 46) = true := by
          rcases Nat.lt_or_ge (byteAt s pos) 128 with hb | hb
          · rw [decode_byte hp hb]
            simp
            omega
          · have := decode_not hp hb
            simp
            omega
        go_wp2_with fail
        go_roundw
        case rel =>
          exact ⟨_, st, cnt, rfl, rfl, Lib.iterAt_heap wr w.heap.size s pos _ (unhide HIT), Lib.below_iterAt (unhide HBW) (Nat.le_refl _) s _, by omega, by omega, (unhide HSC).next hst hp hd⟩
        case measure =>
          have e1 := iterPos_of (Lib.iterAt_heap wr w.heap.size s pos (pos + (Utf8.decode s pos).2) (unhide HIT))
          have e0 := unhide HP0
          have := width_pos s pos hp
          simp only [e0, e1]
          omega
    · have hnx := fun ty => Lib.run_next_end_at (P := Try.prog) wr w.heap.size s pos ty hit hp
      clear hit hbw hsc
      have c5 : (st : Int) ≤ (s.size : Int) := by omega
      have c3 : (0 : Int) ≤ (st : Int) := by omega
      by_cases hc : 2 ≤ cnt
      · have c6 : (2 : Int) ≤ (cnt : Int) := by omega
        have HH := hide ((unhide HSC).last hp hc hs)
        have hc2 := hide (fun v => unhide h29 (s.extract st s.size) v (size_extract_le _ _ _))
        go_wp2_with fail
        refine (unhide hc2 _).mono ?_
        rintro e w2 ⟨rfl, hb2⟩
        go_wp2_with fail
        go_ret
        exact ⟨retB (unhide HH), (unhide HBW).trans (hb2.mono (unhide HBW).size)⟩
      · have c6 : ¬ (2 : Int) ≤ (cnt : Int) := by omega
        have HH := hide (hostB_no ((unhide HSC).few hp hc))
        go_wp2_with fail
        go_ret
        exact ⟨retB (unhide HH), unhide HBW⟩

set_option maxRecDepth 100000 in
theorem hostI (s : ByteArray) (w : World) (hs : s.size ≤ 2097152) :
    Calls Try.prog 11 #[.string s] w fun e w' => e = .returned (.bool (hostB s)) ∧ Below w.heap.size w w' := by
  by_cases h : s.size ≤ 60
  · have h19 := hide (fun v => labelsOk_calls s v h)
    have c : (s.size : Int) ≤ 60 := by omega
    go_enter Try.func11, Try.ntmps11
    go_wp2_with fail
    refine (unhide h19 _).mono ?_
    rintro e w2 ⟨rfl, hb2⟩
    go_wp2_with fail
    go_ret
    exact ⟨rfl, hb2⟩
  · have c : ¬ (s.size : Int) ≤ 60 := by omega
    go_enter Try.func11, Try.ntmps11
    go_wp2_with fail
    go_ret
    exact ⟨retB (hostB_no fun hh => h hh.1), Below.refl _ _⟩

end Go.Proofs.Ytlgbkmfbemghlaa
