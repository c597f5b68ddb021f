/- The walks of impl.inLabel, impl.labelOk, impl.labelsOk and impl.HostOk: whether a text is a host; nothing that was there is written. The walks of spec.l5Label, spec.Labels, spec.l5Labels and spec.HostOk: whether a text is a host; nothing that was there is written. The walks of spec.l5Labels and spec.HostOk, and of laws.FnExactHostOk: at every text the two agree. Certificates as plain data, and the walks of laws.szCert, laws.toCert, laws.eqCert, spec.CertOk and impl.CertOk. -/
import Derived.Test.YtpmkoeahckjigaaGreatDoorHp
import Derived.Test.YtpmkoeahckjigaaGreatDoorStk
import Derived.Test.YtpmkoeahckjigaaGreatDoorProg
import Derived.LoopTactic
import Derived.WalkSpells
import Derived.Lib.OthersKept
import Derived.Laws.AppendOwn
import Derived.Deep.DeepAppendWide
import Derived.Deep.Fields
import Derived.Test.YtpmkoeahckjigaaGreatDoorAv
import Derived.Test.YtpmkoeahckjigaaGreatDoorEq
namespace Go.Proofs.YtpmkoeahckjigaaGreatDoor
open Go.RowKit Go.Deep

theorem inLabel_yes (r : Int) (w : World) (h : (97 ≤ r ∧ r ≤ 122) ∨ (48 ≤ r ∧ r ≤ 57) ∨ r = 45) :
    Calls Tryz.prog 90 #[.int .i32 r] w fun e w' => e = .returned (.bool true) ∧ w' = w := by
  go_enter Tryz.func90, Tryz.ntmps90
  go_wp2
  all_goals go_ret
  all_goals first
    | (exfalso; omega)
    | (refine ⟨?_, rfl⟩; congr 2 <;> simp <;> omega)
theorem inLabel_no (r : Int) (w : World) (h : ¬ ((97 ≤ r ∧ r ≤ 122) ∨ (48 ≤ r ∧ r ≤ 57) ∨ r = 45)) :
    Calls Tryz.prog 90 #[.int .i32 r] w fun e w' => e = .returned (.bool false) ∧ w' = w := by
  go_enter Tryz.func90, Tryz.ntmps90
  go_wp2
  all_goals go_ret
  all_goals first
    | (exfalso; omega)
    | (refine ⟨?_, rfl⟩; congr 2 <;> simp <;> omega)


theorem retB {b c : Bool} (h : c = b) : Ending.returned (.bool b) = .returned (.bool c) := by rw [h]
theorem iterBelow {w v : World} {s : ByteArray} {pos : Nat} (h : Below w.heap.size w v) : Below w.heap.size w (v.iter s pos) := h.alloc h.size _
theorem width_pos (s : ByteArray) (pos : Nat) (h : pos < s.size) : 1 ≤ (Utf8.decode s pos).2 := by
  by_cases ha : (s[pos]'h).toNat < 128
  · rw [decode_ascii s pos h ha]
    exact Nat.le_refl _
  · exact (decode_high s pos h (by omega)).2
theorem decode_byte {s : ByteArray} {pos : Nat} (h : pos < s.size) (ha : byteAt s pos < 128) : Utf8.decode s pos = (byteAt s pos, 1) := by
  rw [← byteAt_lt h] at ha ⊢
  exact decode_ascii s pos h ha
theorem decode_not {s : ByteArray} {pos : Nat} (h : pos < s.size) (ha : 128 ≤ byteAt s pos) : 128 ≤ (Utf8.decode s pos).1 := by
  rw [← byteAt_lt h] at ha
  exact (decode_high s pos h ha).1

set_option maxRecDepth 100000 in
theorem labelOk_empty (s : ByteArray) (w : World) (hs : s.size = 0) :
    Calls Tryz.prog 84 #[.string s] w fun e w' => e = .returned (.bool false) ∧ Below w.heap.size w w' := by
  have hwr : wrap64 ((s.size : Int) - 1) = -1 := by unfold wrap64; omega
  go_enter Tryz.func84, Tryz.ntmps84
  go_wp2
  go_ret
  exact ⟨rfl, Below.refl _ _⟩

set_option maxRecDepth 100000 in
theorem labelOk_long (s : ByteArray) (w : World) (m : Nat) (hm : s.size = m + 1) (hs : s.size ≤ 2097152) (h : 10 ≤ m) :
    Calls Tryz.prog 84 #[.string s] w fun e w' => e = .returned (.bool false) ∧ Below w.heap.size w w' := by
  have hwr : wrap64 ((s.size : Int) - 1) = (m : Int) := by unfold wrap64; omega
  have h1 : ¬ ((m : Int) < 0) := by omega
  have h2 : (10 : Int) ≤ (m : Int) := by omega
  go_enter Tryz.func84, Tryz.ntmps84
  go_wp2
  go_ret
  exact ⟨rfl, Below.refl _ _⟩

set_option maxRecDepth 100000 in
theorem labelOk_first (s : ByteArray) (w : World) (m : Nat) (hm : s.size = m + 1) (h : m < 10) (hb : byteAt s 0 = 45) :
    Calls Tryz.prog 84 #[.string s] w fun e w' => e = .returned (.bool false) ∧ Below w.heap.size w w' := by
  have hwr : wrap64 ((s.size : Int) - 1) = (m : Int) := by unfold wrap64; omega
  have h1 : ¬ ((m : Int) < 0) := by omega
  have h2 : ¬ (10 : Int) ≤ (m : Int) := by omega
  have h3 : 0 < s.size := by omega
  have h4 : (((s[0]'h3).toNat : Int) == 45) = true := by rw [byteAt_lt h3, hb]; rfl
  go_enter Tryz.func84, Tryz.ntmps84
  go_wp2
  go_ret
  exact ⟨rfl, Below.refl _ _⟩

set_option maxRecDepth 100000 in
theorem labelOk_last (s : ByteArray) (w : World) (m : Nat) (hm : s.size = m + 1) (h : m < 10) (ha : byteAt s 0 ≠ 45) (hb : byteAt s m = 45) :
    Calls Tryz.prog 84 #[.string s] w fun e w' => e = .returned (.bool false) ∧ Below w.heap.size w w' := by
  have hwr : wrap64 ((s.size : Int) - 1) = (m : Int) := by unfold wrap64; omega
  have h1 : ¬ ((m : Int) < 0) := by omega
  have h2 : ¬ (10 : Int) ≤ (m : Int) := by omega
  have h3 : 0 < s.size := by omega
  have h4 : (((s[0]'h3).toNat : Int) == 45) = false := by rw [byteAt_lt h3]; simp; omega
  have h5 : m < s.size := by omega
  have h6 : (((s[m]'h5).toNat : Int) == 45) = true := by rw [byteAt_lt h5, hb]; rfl
  go_enter Tryz.func84, Tryz.ntmps84
  go_wp2
  go_ret
  exact ⟨rfl, Below.refl _ _⟩

set_option maxRecDepth 100000 in
theorem labelOk_loop (s : ByteArray) (w : World) (m : Nat) (hm : s.size = m + 1) (h : m < 10) (ha : byteAt s 0 ≠ 45) (hb : byteAt s m ≠ 45) :
    Calls Tryz.prog 84 #[.string s] w fun e w' => e = .returned (.bool (labB s)) ∧ Below w.heap.size w w' := by
  have hwr : wrap64 ((s.size : Int) - 1) = (m : Int) := by unfold wrap64; omega
  have h1 : ¬ ((m : Int) < 0) := by omega
  have h2 : ¬ (10 : Int) ≤ (m : Int) := by omega
  have h3 : 0 < s.size := by omega
  have h4 : (((s[0]'h3).toNat : Int) == 45) = false := by rw [byteAt_lt h3]; simp; omega
  have h5 : m < s.size := by omega
  have h6 : (((s[m]'h5).toNat : Int) == 45) = false := by rw [byteAt_lt h5]; simp; omega
  go_enter Tryz.func84, Tryz.ntmps84
  go_wp2
  go_loopw [5] (fun _ w' => ∃ pos : Nat, w' = w.iter s pos ∧ pos ≤ s.size ∧ ∀ k, k < pos → labByte (byteAt s k)) (fun _ w' => s.size - w'.iterPos w.heap.size)
  case atStart => exact ⟨0, rfl, by omega, fun k hk => by omega⟩
  case round =>
    obtain ⟨pos, rfl, hpos, hall⟩ := hrel
    by_cases hp : pos < s.size
    · have hnx : ∀ ty, (Instr.next (.pointer (some ⟨w.heap.size, 0, none⟩)) true ty).run Tryz.prog (w.iter s pos) = _ := fun ty => run_next_any w s pos ty hp
      by_cases hin : labByte (byteAt s pos)
      · have hlt : byteAt s pos < 128 := by unfold labByte at hin; omega
        rw [decode_byte hp hlt] at hnx
        have hc := fun v => inLabel_yes (byteAt s pos : Int) v (by unfold labByte at hin; omega)
        go_wp2_with fail
        refine (hc _).mono ?_
        rintro e w2 ⟨rfl, rfl⟩
        go_wp2
        go_roundw
        case rel =>
          refine ⟨pos + 1, rfl, by omega, fun k hk => ?_⟩
          rcases Nat.lt_or_ge k pos with hk' | hk'
          · exact hall k hk'
          · obtain rfl : k = pos := by omega
            exact hin
        case measure =>
          simp
          omega
      · have hc := fun v => inLabel_no ((Utf8.decode s pos).1 : Int) v (by
          rcases Nat.lt_or_ge (byteAt s pos) 128 with hl | hl
          · rw [decode_byte hp hl]
            unfold labByte at hin
            simp only
            omega
          · have := decode_not hp hl
            omega)
        go_wp2_with fail
        refine (hc _).mono ?_
        rintro e w2 ⟨rfl, rfl⟩
        go_wp2
        go_ret
        exact ⟨retB (labB_no (labP_bad hp hin)), iterBelow (Below.refl _ _)⟩
    · have hnx : ∀ ty, (Instr.next (.pointer (some ⟨w.heap.size, 0, none⟩)) true ty).run Tryz.prog (w.iter s pos) = _ := fun ty => run_next_end w s pos ty hp
      go_wp2
      go_ret
      exact ⟨retB (labB_yes (labP_mk (by omega) (by omega) ha (by rw [show s.size - 1 = m by omega]; exact hb) fun k hk => hall k (by omega))), iterBelow (Below.refl _ _)⟩

theorem labelOk_calls (s : ByteArray) (w : World) (hs : s.size ≤ 2097152) :
    Calls Tryz.prog 84 #[.string s] w fun e w' => e = .returned (.bool (labB s)) ∧ Below w.heap.size w w' := by
  rcases Nat.eq_zero_or_pos s.size with h0 | h0
  · rw [labB_no fun h => by have := h.1; omega]
    exact labelOk_empty s w h0
  · obtain ⟨m, hm⟩ : ∃ m, s.size = m + 1 := ⟨s.size - 1, by omega⟩
    rcases Nat.lt_or_ge m 10 with h1 | h1
    · by_cases ha : byteAt s 0 = 45
      · rw [labB_no (labP_first ha)]
        exact labelOk_first s w m hm h1 ha
      · by_cases hb : byteAt s m = 45
        · rw [labB_no (labP_last (by rw [show s.size - 1 = m by omega]; exact hb))]
          exact labelOk_last s w m hm h1 ha hb
        · exact labelOk_loop s w m hm h1 ha hb
    · rw [labB_no fun h => by have := h.2.1; omega]
      exact labelOk_long s w m hm hs h1


theorem iterPos_of {w : World} {k : Nat} {s : ByteArray} {pos : Nat} (h : w.heap[k]? = some (.stringIter s pos)) : w.iterPos k = pos := by simp [World.iterPos, h]
theorem iter_kept {w w2 : World} {k : Nat} {s : ByteArray} {pos pos' : Nat} (h : w.heap[k]? = some (.stringIter s pos)) (hb : Below (w.iterAt k s pos').heap.size (w.iterAt k s pos') w2) : w2.heap[k]? = some (.stringIter s pos') := by
  rw [hb.block k (by rw [Lib.iterAt_size]; exact (Array.getElem?_eq_some_iff.1 h).1)]
  exact Lib.iterAt_heap w k s pos pos' h

/-- Where the range over the text stands: as the labels go, or behind a byte that no host has. -/
def Scan (s : ByteArray) (pos st cnt : Nat) : Prop :=
  (pos ≤ s.size ∧ ∃ ls, ls ++ labs s (s.size - pos) st = labsOf s ∧ (∀ l ∈ ls, labP l) ∧ cnt = ls.length + 1) ∨ (∃ j, st ≤ j ∧ j < pos ∧ j < s.size ∧ 128 ≤ byteAt s j)
theorem Scan.start (s : ByteArray) : Scan s 0 0 1 := Or.inl ⟨Nat.zero_le _, [], rfl, by simp, rfl⟩
theorem Scan.dot {s : ByteArray} {pos st cnt : Nat} (h : Scan s pos st cnt) (hp : pos < s.size) (hd : byteAt s pos = 46) (hl : labP (s.extract st pos)) : Scan s (pos + 1) (pos + 1) (cnt + 1) := by
  rcases h with ⟨_, ls, h1, h2, h3⟩ | ⟨j, h1, h2, h3, h4⟩
  · refine Or.inl ⟨hp, ls ++ [s.extract st pos], ?_, ?_, by simp [h3]⟩
    · rw [← h1, labs_dot hp hd]
      simp
    · intro l hm
      rcases List.mem_append.1 hm with hm | hm
      · exact h2 l hm
      · simp at hm
        subst hm
        exact hl
  · exfalso
    refine labP_bad (k := j - st) (by rw [ByteArray.size_extract]; omega) ?_ hl
    rw [byteAt_extract (by omega) (by omega), show st + (j - st) = j by omega]
    unfold labByte
    omega
theorem Scan.bad {s : ByteArray} {pos st cnt : Nat} (h : Scan s pos st cnt) (hp : pos < s.size) (hd : byteAt s pos = 46) (hl : ¬ labP (s.extract st pos)) : ¬ hostP s := by
  rcases h with ⟨_, ls, h1, h2, h3⟩ | ⟨j, h1, h2, h3, h4⟩
  · intro hh
    exact hl (hh.2.2 _ (by rw [← h1, labs_dot hp hd]; simp))
  · exact hostP_bad h3 h4
theorem Scan.next {s : ByteArray} {pos st cnt : Nat} (h : Scan s pos st cnt) (hst : st ≤ pos) (hp : pos < s.size) (hd : ¬ byteAt s pos = 46) : Scan s (pos + (Utf8.decode s pos).2) st cnt := by
  have hw := width_pos s pos hp
  rcases h with ⟨_, ls, h1, h2, h3⟩ | ⟨j, h1, h2, h3, h4⟩
  · rcases Nat.lt_or_ge (byteAt s pos) 128 with hb | hb
    · rw [decode_byte hp hb]
      exact Or.inl ⟨hp, ls, by rw [← h1, labs_no hp hd], h2, h3⟩
    · exact Or.inr ⟨pos, hst, by omega, hp, hb⟩
  · exact Or.inr ⟨j, h1, by omega, h3, h4⟩
theorem Scan.few {s : ByteArray} {pos st cnt : Nat} (h : Scan s pos st cnt) (hp : ¬ pos < s.size) (hc : ¬ 2 ≤ cnt) : ¬ hostP s := by
  rcases h with ⟨h0, ls, h1, h2, h3⟩ | ⟨j, h1, h2, h3, h4⟩
  · intro hh
    have := hh.2.1
    rw [← h1, show s.size - pos = 0 by omega] at this
    simp [labs] at this
    omega
  · exact hostP_bad h3 h4
theorem Scan.last {s : ByteArray} {pos st cnt : Nat} (h : Scan s pos st cnt) (hp : ¬ pos < s.size) (hc : 2 ≤ cnt) (hs : s.size ≤ 60) : hostB s = labB (s.extract st s.size) := by
  rcases h with ⟨h0, ls, h1, h2, h3⟩ | ⟨j, h1, h2, h3, h4⟩
  · rw [show s.size - pos = 0 by omega] at h1
    by_cases hl : labP (s.extract st s.size)
    · rw [labB_yes hl]
      refine hostB_yes ⟨hs, ?_, ?_⟩
      · rw [← h1]
        simp [labs]
        omega
      · intro l hm
        rw [← h1] at hm
        rcases List.mem_append.1 hm with hm | hm
        · exact h2 l hm
        · simp [labs] at hm
          subst hm
          exact hl
    · rw [labB_no hl]
      exact hostB_no fun hh => hl (hh.2.2 _ (by rw [← h1]; simp [labs]))
  · rw [hostB_no (hostP_bad h3 h4), labB_no]
    refine labP_bad (k := j - st) (by rw [ByteArray.size_extract]; omega) ?_
    rw [byteAt_extract (Nat.le_refl _) (by omega), show st + (j - st) = j by omega]
    unfold labByte
    omega
theorem Scan.lt {s : ByteArray} {pos st cnt : Nat} (h : Scan s pos st cnt) (hst : st ≤ pos) : st ≤ s.size := by
  rcases h with ⟨h0, _⟩ | ⟨j, h1, h2, h3, h4⟩ <;> omega

set_option maxRecDepth 100000 in
set_option maxHeartbeats 1000000 in
theorem labelsOk_calls (s : ByteArray) (w : World) (hs : s.size ≤ 60) :
    Calls Tryz.prog 75 #[.string s, .int .i64 2] w fun e w' => e = .returned (.bool (hostB s)) ∧ Below w.heap.size w w' := by
  have h29 := hide (fun (l : ByteArray) v (h : l.size ≤ s.size) => labelOk_calls l v (by omega))
  go_enter Tryz.func75, Tryz.ntmps75
  go_wp2_with fail
  go_loopw [5, 6] (fun c n w' => ∃ pos st cnt : Nat, c = .int .i64 cnt ∧ n = .int .i64 st ∧ w'.heap[w.heap.size]? = some (.stringIter s pos) ∧ Below w.heap.size w w' ∧ st ≤ pos ∧ cnt ≤ pos + 1 ∧ Scan s pos st cnt) (fun _ _ w' => s.size - w'.iterPos w.heap.size)
  case atStart => exact ⟨0, 0, 1, rfl, rfl, World.iter_heap _ _ _, iterBelow (Below.refl _ _), by omega, by omega, Scan.start s⟩
  case round =>
    obtain ⟨pos, st, cnt, rfl, rfl, hit, hbw, hst, hcnt, hsc⟩ := hrel
    have HIT := hide hit
    have HBW := hide hbw
    have HSC := hide hsc
    have hstz := hsc.lt hst
    have HP0 : Hid (wr.iterPos w.heap.size = pos) := by show _ = _; simp [World.iterPos, hit]
    by_cases hp : pos < s.size
    · have hnx := fun ty => Lib.run_next_any_at (P := Tryz.prog) wr w.heap.size s pos ty hit hp
      clear hit hbw hsc
      have c1 : (pos : Int) ≤ (s.size : Int) := by omega
      have c2 : (st : Int) ≤ (pos : Int) := by omega
      have c3 : (0 : Int) ≤ (st : Int) := by omega
      have c4 : (0 : Int) ≤ (pos : Int) := by omega
      by_cases hd : byteAt s pos = 46
      · simp only [decode_byte hp (show byteAt s pos < 128 by omega), hd, Int.cast_ofNat_Int] at hnx
        have w1 : wrap64 ((pos : Int) + 1) = ((pos + 1 : Nat) : Int) := by unfold wrap64; omega
        have w2 : wrap64 ((cnt : Int) + 1) = ((cnt + 1 : Nat) : Int) := by unfold wrap64; omega
        have hbi := hide (Lib.below_iterAt (unhide HBW) (Nat.le_refl _) s (pos + 1))
        have hii := hide (Lib.iterAt_heap wr w.heap.size s pos (pos + 1) (unhide HIT))
        have hc := hide (fun v => unhide h29 (s.extract st pos) v (size_extract_le _ _ _))
        by_cases hl : labP (s.extract st pos)
        · rw [labB_yes hl] at hc
          have HL := hide hl
          clear hl
          go_wp2_with fail
          refine (unhide hc _).mono ?_
          rintro e w2 ⟨rfl, hb2⟩
          have HB2 := hide hb2
          clear hb2
          go_wp2_with fail
          go_roundw
          case rel =>
            refine ⟨pos + 1, pos + 1, cnt + 1, rfl, rfl, ?_, ?_, by omega, by omega, (unhide HSC).dot hp hd (unhide HL)⟩
            · exact iter_kept (unhide HIT) (unhide HB2)
            · exact (unhide hbi).trans ((unhide HB2).mono (unhide hbi).size)
          case measure =>
            have e1 := iterPos_of (iter_kept (unhide HIT) (unhide HB2))
            have e0 := unhide HP0
            simp only [e0, e1]
            omega
        · rw [labB_no hl] at hc
          go_wp2_with fail
          refine (unhide hc _).mono ?_
          rintro e w2 ⟨rfl, hb2⟩
          go_wp2_with fail
          go_ret
          exact ⟨retB (hostB_no ((unhide HSC).bad hp hd hl)), (unhide hbi).trans (hb2.mono (unhide hbi).size)⟩
      · have hr : ((((Utf8.decode s pos).1 : Nat) : Int) != 46) = true := by
          rcases Nat.lt_or_ge (byteAt s pos) 128 with hb | hb
          · rw [decode_byte hp hb]
            simp
            omega
          · have := decode_not hp hb
            simp
            omega
        go_wp2_with fail
        go_roundw
        case rel =>
          exact ⟨_, st, cnt, rfl, rfl, Lib.iterAt_heap wr w.heap.size s pos _ (unhide HIT), Lib.below_iterAt (unhide HBW) (Nat.le_refl _) s _, by omega, by omega, (unhide HSC).next hst hp hd⟩
        case measure =>
          have e1 := iterPos_of (Lib.iterAt_heap wr w.heap.size s pos (pos + (Utf8.decode s pos).2) (unhide HIT))
          have e0 := unhide HP0
          have := width_pos s pos hp
          simp only [e0, e1]
          omega
    · have hnx := fun ty => Lib.run_next_end_at (P := Tryz.prog) wr w.heap.size s pos ty hit hp
      clear hit hbw hsc
      have c5 : (st : Int) ≤ (s.size : Int) := by omega
      have c3 : (0 : Int) ≤ (st : Int) := by omega
      by_cases hc : 2 ≤ cnt
      · have c6 : (2 : Int) ≤ (cnt : Int) := by omega
        have HH := hide ((unhide HSC).last hp hc hs)
        have hc2 := hide (fun v => unhide h29 (s.extract st s.size) v (size_extract_le _ _ _))
        go_wp2_with fail
        refine (unhide hc2 _).mono ?_
        rintro e w2 ⟨rfl, hb2⟩
        go_wp2_with fail
        go_ret
        exact ⟨retB (unhide HH), (unhide HBW).trans (hb2.mono (unhide HBW).size)⟩
      · have c6 : ¬ (2 : Int) ≤ (cnt : Int) := by omega
        have HH := hide (hostB_no ((unhide HSC).few hp hc))
        go_wp2_with fail
        go_ret
        exact ⟨retB (unhide HH), unhide HBW⟩

set_option maxRecDepth 100000 in
theorem hostI (s : ByteArray) (w : World) (hs : s.size ≤ 2097152) :
    Calls Tryz.prog 58 #[.string s] w fun e w' => e = .returned (.bool (hostB s)) ∧ Below w.heap.size w w' := by
  by_cases h : s.size ≤ 60
  · have h19 := hide (fun v => labelsOk_calls s v h)
    have c : (s.size : Int) ≤ 60 := by omega
    go_enter Tryz.func58, Tryz.ntmps58
    go_wp2_with fail
    refine (unhide h19 _).mono ?_
    rintro e w2 ⟨rfl, hb2⟩
    go_wp2_with fail
    go_ret
    exact ⟨rfl, hb2⟩
  · have c : ¬ (s.size : Int) ≤ 60 := by omega
    go_enter Tryz.func58, Tryz.ntmps58
    go_wp2_with fail
    go_ret
    exact ⟨retB (hostB_no fun hh => h hh.1), Below.refl _ _⟩

theorem in14 (x lo hi : Int) (w : World) :
    Calls Tryz.prog 38 #[.int .i64 x, .int .i64 lo, .int .i64 hi] w fun e w' => e = .returned (.bool (decide (lo ≤ x ∧ x ≤ hi))) ∧ w' = w := by
  go_enter Tryz.func38, Tryz.ntmps38
  go_wp2
  all_goals go_ret
  all_goals exact ⟨retB (by simp; omega), rfl⟩

set_option maxRecDepth 100000 in
set_option maxHeartbeats 1000000 in
theorem label28 (s : ByteArray) (w : World) (hs : s.size ≤ 2097152) :
    Calls Tryz.prog 67 #[.string s] w fun e w' => e = .returned (.bool (labB s)) ∧ w' = w := by
  have h14 := hide (fun v => in14 (s.size : Int) 1 10 v)
  go_enter Tryz.func67, Tryz.ntmps67
  go_wp2_with fail
  go_loopw [3] (fun n w' => ∃ k : Nat, n = .int .i64 k ∧ w' = w ∧ k ≤ s.size ∧ ∀ j, j < k → okAt s j) (fun n _ => s.size - (intOf n).toNat)
  case atStart => exact ⟨0, rfl, rfl, by omega, fun j hj => by omega⟩
  case round =>
    obtain ⟨k, rfl, rfl, hk, hall⟩ := hrel
    by_cases hp : k < s.size
    · have hb := byteAt_lt hp
      have c1 : (k : Int) < (s.size : Int) := by omega
      have w1 : wrap64 ((k : Int) + 1) = ((k + 1 : Nat) : Int) := by unfold wrap64; omega
      have w2 : wrap64 ((s.size : Int) - 1) = (s.size : Int) - 1 := by unfold wrap64; omega
      by_cases hok : okAt s k
      · have hok' := hok
        unfold okAt at hok'
        generalize byteAt s k = b at *
        have HM : Hid (∃ k' : Nat, Value.int .i64 ((k : Int) + 1) = .int .i64 k' ∧ True ∧ k' ≤ s.size ∧ ∀ j, j < k' → okAt s j) := ⟨k + 1, rfl, trivial, by omega, fun j hj => by
          rcases Nat.lt_or_ge j k with h | h
          · exact hall j h
          · obtain rfl : j = k := by omega
            exact hok⟩
        go_wp2
        all_goals first
          | (go_roundw
             case rel => exact unhide HM
             case measure => simp only [intOf]; omega)
          | (exfalso; simp at *; omega)
      · have hok' := hok
        unfold okAt at hok'
        have HN := hide (labB_no (s := s) fun hl => hok (hl.2.2 k hp))
        generalize byteAt s k = b at *
        go_wp2
        all_goals first
          | (go_ret; exact ⟨retB (unhide HN), rfl⟩)
          | (exfalso; simp at *; omega)
    · have c1 : ¬ (k : Int) < (s.size : Int) := by omega
      go_wp2_with fail
      refine (unhide h14 _).mono ?_
      rintro e w2 ⟨rfl, rfl⟩
      go_wp2_with fail
      go_ret
      refine ⟨retB ?_, rfl⟩
      by_cases hl : labP s
      · rw [labB_yes hl]; symm; simp; have := hl.1; have := hl.2.1; omega
      · rw [labB_no hl]; symm; simp; intro h1; refine Classical.byContradiction fun h2 => hl ⟨by omega, by omega, fun j hj => hall j (by omega)⟩


theorem infoS : (Tryz.prog.info? 9).map (fun i => (i.zero, i.size, i.bytes)) = some (some (.string ⟨#[]⟩), 1, 16) := by kernel_rfl
/-- The texts lie in a row of the call's own. -/
def Txs (w : World) (l : List ByteArray) (v : Value) (wr : World) : Prop := wr.ownsRow w.heap.size 9 1 v l.length (l.map fun b => Value.string b)
theorem Txs.shape {w wr : World} {l : List ByteArray} {v : Value} (h : Txs w l v wr) : ∃ a c, v = .slice a l.length c := by
  rcases h.2 with ⟨h1, h2⟩ | ⟨g, cap, cur, h1, _⟩
  · exact ⟨none, 0, by rw [h1, h2]⟩
  · exact ⟨_, _, h1⟩
theorem Txs.on {w wr w2 : World} {l : List ByteArray} {v : Value} (h : Txs w l v wr) (hb : Below wr.heap.size wr w2) : Txs w l v w2 :=
  World.ownsRow.kept h (w' := w2) (row := none) ⟨hb.os, hb.tape, hb.output, hb.size, fun k hk _ => hb.block k hk⟩ (by cases v.ownBlock <;> simp)
/-- One text more, out of a block of its own. -/
theorem Txs.put {w wr w0 : World} {l : List ByteArray} {tv : Value} (h : Txs w l tv wr) (hbw : Below w.heap.size w wr) (c : ByteArray) {b : Nat} (hb : Below wr.heap.size wr w0) (hc : w0.cell? ⟨b, 0, none⟩ = some (.string c)) (hn : l.length + 1 ≤ 1073741824) (ty : TypeId) :
    ∃ v' w', (Builtin.append_ #[87, 87] ty #[tv, .slice (some ⟨b, 0, none⟩) 1 1]).run Tryz.prog w0 = .ok v' w' ∧ Txs w (l ++ [c]) v' w' ∧ w0.grownBy w' tv.ownBlock ∧ Below w.heap.size w w' := by
  obtain ⟨i, hi, hzz⟩ := Option.map_eq_some_iff.1 infoS
  simp only [Prod.mk.injEq] at hzz
  obtain ⟨hz, hs, hby⟩ := hzz
  have h0 := h.on hb
  have hb0 : Below w.heap.size w w0 := hbw.trans (hb.mono hbw.size)
  obtain ⟨v', w', g1, g2, g3, _⟩ := run_append_own_wide (P := Tryz.prog) w0 w.heap.size 87 ty 9 i _ 1 16 Tryz.underlying87 hi hz hs hby rfl (by omega) tv l.length _ h0 ⟨b, 0, none⟩ 1 1 [.string c]
    rfl (fun j u hj => by
      rw [Addr.add_mid]
      match j, hj with
      | 0, hj => simp at hj; subst hj; exact hc) (fun u hu => by simp at hu; subst hu; rfl) (by unfold maxLen; omega) (by omega) hb0.size
  refine ⟨v', w', g1, ?_, g3, hb0.grown g3 hb0.size (fun k hk => (World.ownsRow.lt h0 k hk).1)⟩
  unfold Txs
  rw [List.length_append, List.map_append]
  simpa using g2

theorem abH {w : World} (x : Obj) : Below w.heap.size w (w.alloc x) := (Below.refl _ _).alloc (Nat.le_refl _) _
theorem Txs.lit (w : World) : Txs w [] (.slice (some ⟨w.heap.size, 0, none⟩) 0 0) (w.alloc (.cells #[] 9)) :=
  ⟨rfl, Or.inr ⟨w.heap.size, 0, #[], rfl, Nat.le_refl _, heap_alloc_new w _, Nat.le_refl _, Nat.zero_le _, rfl, rfl⟩⟩
/-- How far the labels are gone through. -/
def Gone (s : ByteArray) (k fr : Nat) (ls : List ByteArray) : Prop := (k ≤ s.size ∧ fr ≤ k ∧ ls ++ labs s (s.size - k) fr = labsOf s) ∨ (k = s.size + 1 ∧ ls = labsOf s)
theorem Gone.end {s : ByteArray} {k fr : Nat} {ls : List ByteArray} (h : Gone s k fr ls) (hk : ¬ k ≤ s.size) : ls = labsOf s := by
  rcases h with h | h
  · exact absurd h.1 hk
  · exact h.2
theorem Gone.last {s : ByteArray} {k fr : Nat} {ls : List ByteArray} (h : Gone s k fr ls) (hk : k = s.size) (fr' : Nat) : Gone s (k + 1) fr' (ls ++ [s.extract fr k]) := by
  rcases h with h | h
  · refine Or.inr ⟨by omega, ?_⟩
    rw [← h.2.2, hk, Nat.sub_self]
    simp [labs]
  · omega
theorem Gone.dot {s : ByteArray} {k fr : Nat} {ls : List ByteArray} (h : Gone s k fr ls) (hk : k < s.size) (hd : byteAt s k = 46) : Gone s (k + 1) (k + 1) (ls ++ [s.extract fr k]) := by
  rcases h with h | h
  · refine Or.inl ⟨by omega, Nat.le_refl _, ?_⟩
    rw [← h.2.2, labs_dot hk hd]
    simp
  · omega
theorem Gone.next {s : ByteArray} {k fr : Nat} {ls : List ByteArray} (h : Gone s k fr ls) (hk : k < s.size) (hd : ¬ byteAt s k = 46) : Gone s (k + 1) fr ls := by
  rcases h with h | h
  · exact Or.inl ⟨by omega, by omega, by rw [← h.2.2, labs_no hk hd]⟩
  · omega
theorem Gone.le {s : ByteArray} {k fr : Nat} {ls : List ByteArray} (h : Gone s k fr ls) (hk : k ≤ s.size) : fr ≤ k := by
  rcases h with h | h
  · exact h.2.1
  · omega

set_option maxRecDepth 100000 in
set_option maxHeartbeats 1000000 in
theorem labels27 (s : ByteArray) (w : World) (hs : s.size ≤ 2097152) :
    Calls Tryz.prog 66 #[.string s] w fun e w' => ∃ v, e = .returned v ∧ Txs w (labsOf s) v w' ∧ Below w.heap.size w w' := by
  go_enter Tryz.func66, Tryz.ntmps66
  go_wp2_with fail
  go_loopw [3, 4, 5] (fun v f i wr => ∃ (k fr : Nat) (ls : List ByteArray), i = .int .i64 k ∧ f = .int .i64 fr ∧ Txs w ls v wr ∧ Below w.heap.size w wr ∧ k ≤ s.size + 1 ∧ ls.length ≤ k ∧ Gone s k fr ls) (fun _ _ i _ => s.size + 1 - (intOf i).toNat)
  case atStart => exact ⟨0, 0, [], rfl, rfl, Txs.lit w, abH _, by omega, by simp, Or.inl ⟨Nat.zero_le _, Nat.le_refl _, rfl⟩⟩
  case round =>
    obtain ⟨k, fr, ls, rfl, rfl, htx, hbw, hk, hlen, hgo⟩ := hrel
    obtain ⟨ua, uc, rfl⟩ := htx.shape
    have HTX := hide htx
    have HBW := hide hbw
    have HGO := hide hgo
    by_cases hp : k ≤ s.size
    · have hfr := hgo.le hp
      clear htx hbw hgo
      have c1 : (k : Int) ≤ (s.size : Int) := by omega
      have c2 : (fr : Int) ≤ (k : Int) := by omega
      have c3 : (0 : Int) ≤ (fr : Int) := by omega
      have c4 : (0 : Int) ≤ (k : Int) := by omega
      have w1 : wrap64 ((k : Int) + 1) = ((k + 1 : Nat) : Int) := by unfold wrap64; omega
      have HAP := hide ((unhide HTX).put (unhide HBW) (s.extract fr k) (b := wr.heap.size) (abH (.cells #[.string (s.extract fr k)] 9)) (box_cell wr _ 9 0 _ rfl) (by omega) 87)
      have HLEN : Hid (ls.length ≤ k) := hlen
      have HLT : Hid (∀ l, (ls ++ [l]).length ≤ k + 1) := fun l => by simp; exact hlen
      by_cases he : k = s.size
      · have hq : ((k : Int) == (s.size : Int)) = true := by simp [he]
        have HN := hide ((unhide HGO).last he (k + 1))
        have HE := hide he
        clear he
        generalize ls.length = ul at *
        go_wp2_with (at_builtin; refine wpList_append_run rfl _ _ 87 rfl _ _ rfl rfl (fun v' w' => Txs w (ls ++ [s.extract fr k]) v' w' ∧ (wr.alloc (.cells #[.string (s.extract fr k)] 9)).grownBy w' (Value.slice ua ul uc).ownBlock ∧ Below w.heap.size w w') (unhide HAP) ?_; rintro v3 w3 ⟨hb3, hg3, hbw3⟩; have HB3 := hide hb3; have HW3 := hide hbw3; clear hb3 hg3 hbw3)
        go_roundw
        case rel => exact ⟨k + 1, k + 1, _, rfl, rfl, unhide HB3, unhide HW3, by omega, unhide HLT _, unhide HN⟩
        case measure => simp only [intOf]; omega
      · have hlt : k < s.size := by omega
        have hq : ((k : Int) == (s.size : Int)) = false := by simp; omega
        have c5 : (k : Int) < (s.size : Int) := by omega
        have hb := byteAt_lt hlt
        by_cases hd : byteAt s k = 46
        · have HN := hide ((unhide HGO).dot hlt hd)
          rw [hd] at hb
          have hb' : ((((s[k]'hlt).toNat : Nat) : Int) == 46) = true := by rw [hb]; rfl
          generalize ls.length = ul at *
          go_wp2_with (at_builtin; refine wpList_append_run rfl _ _ 87 rfl _ _ rfl rfl (fun v' w' => Txs w (ls ++ [s.extract fr k]) v' w' ∧ (wr.alloc (.cells #[.string (s.extract fr k)] 9)).grownBy w' (Value.slice ua ul uc).ownBlock ∧ Below w.heap.size w w') (unhide HAP) ?_; rintro v3 w3 ⟨hb3, hg3, hbw3⟩; have HB3 := hide hb3; have HW3 := hide hbw3; clear hb3 hg3 hbw3)
          go_roundw
          case rel => exact ⟨k + 1, k + 1, _, rfl, rfl, unhide HB3, unhide HW3, by omega, unhide HLT _, unhide HN⟩
          case measure => simp only [intOf]; omega
        · have HN := hide ((unhide HGO).next hlt hd)
          have hb' : ((((s[k]'hlt).toNat : Nat) : Int) == 46) = false := by rw [hb]; simp; omega
          generalize hul : ls.length = ul at *
          go_wp2_with fail
          go_roundw
          case rel => exact ⟨k + 1, fr, ls, rfl, rfl, by have := unhide HTX; exact this, unhide HBW, by omega, by have := unhide HLEN; omega, unhide HN⟩
          case measure => simp only [intOf]; omega
    · have c1 : ¬ (k : Int) ≤ (s.size : Int) := by omega
      have he := (unhide HGO).end hp
      clear htx hbw hgo
      go_wp2_with fail
      go_ret
      refine ⟨_, rfl, ?_, unhide HBW⟩
      rw [← he]
      exact unhide HTX

theorem labs_ne (s : ByteArray) : ∀ f st, labs s f st ≠ []
  | 0, st => by simp [labs]
  | f + 1, st => by
    unfold labs
    split
    · simp
    · exact labs_ne s f st
/-- A row of texts that is not empty: where it lies, and what each place holds. -/
theorem Txs.open {w wr : World} {l : List ByteArray} {v : Value} (h : Txs w l v wr) (hne : l ≠ []) : ∃ g c, v = .slice (some ⟨g, 0, none⟩) l.length c ∧ ∀ k t, l[k]? = some t → wr.cell? ⟨g, k, none⟩ = some (.string t) := by
  rcases h.2 with ⟨h1, h2⟩ | ⟨g, cap, cur, h1, h2, h3, h4, h5, h6, h7⟩
  · exact absurd (List.length_eq_zero_iff.1 h2) hne
  · refine ⟨g, cap, h1, fun k t hk => ?_⟩
    have hk' : k < l.length := (List.getElem?_eq_some_iff.1 hk).1
    have hkc : k < cur.size := by omega
    have e : (cur.toList.take (l.length * 1))[k]? = some (.string t) := by rw [h7]; simp [hk]
    rw [List.getElem?_take, if_pos (by omega), Array.getElem?_toList, Array.getElem?_eq_getElem hkc] at e
    rw [cell_of_row h3 hkc, e]

set_option maxRecDepth 100000 in
set_option maxHeartbeats 1000000 in
theorem labels18 (s : ByteArray) (w : World) (hs : s.size ≤ 2097152) :
    Calls Tryz.prog 52 #[.string s, .int .i64 2] w fun e w' => e = .returned (.bool (hostB s)) ∧ Below w.heap.size w w' := by
  have h27 := hide (fun v => labels27 s v hs)
  have h28 := hide (fun (l : ByteArray) v (h : l.size ≤ s.size) => label28 l v (by omega))
  have hlz : ∀ l ∈ labsOf s, l.size ≤ s.size := labs_size _ _
  have hll : (labsOf s).length ≤ s.size + 1 := labs_length _ _ _
  go_enter Tryz.func52, Tryz.ntmps52
  go_wp2_with fail
  refine (unhide h27 _).mono ?_
  rintro e wr ⟨v, rfl, htx, hbw⟩
  obtain ⟨g, c, rfl, hcell⟩ := htx.open (labs_ne _ _ _)
  have HC := hide hcell
  have HBW := hide hbw
  have HLZ := hide hlz
  have HH : Hid (∀ k, ¬ k < (labsOf s).length → (∀ j l, j < k → (labsOf s)[j]? = some l → labP l) → ∀ l ∈ labsOf s, labP l) := fun k hk h l hm => by
    obtain ⟨j, hj, e⟩ := List.getElem_of_mem hm
    exact h j l (by omega) (by rw [List.getElem?_eq_getElem hj, e])
  clear htx hcell hbw hlz
  go_wp2_with fail
  go_loopw [6] (fun n w' => ∃ k : Nat, n = .int .i64 k ∧ w' = wr ∧ k ≤ (labsOf s).length ∧ ∀ j l, j < k → (labsOf s)[j]? = some l → labP l) (fun n _ => (labsOf s).length - (intOf n).toNat)
  case atStart => exact ⟨0, rfl, rfl, by omega, fun j l hj => by omega⟩
  case round =>
    obtain ⟨k, rfl, rfl, hk, hall⟩ := hrel
    by_cases hp : k < (labsOf s).length
    · obtain ⟨l, hl⟩ : ∃ l, (labsOf s)[k]? = some l := ⟨_, List.getElem?_eq_getElem hp⟩
      have hm : l ∈ labsOf s := List.mem_of_getElem? hl
      have c0 := unhide HC k l hl
      have hc := hide (fun v => unhide h28 l v (unhide HLZ l hm))
      have c1 : (k : Int) < ((labsOf s).length : Int) := by omega
      have w1 : wrap64 ((k : Int) + 1) = ((k + 1 : Nat) : Int) := by unfold wrap64; omega
      by_cases hb : labP l
      · rw [labB_yes hb] at hc
        have HM : Hid (∀ j l, j < k + 1 → (labsOf s)[j]? = some l → labP l) := fun j l' hj hl' => by
          rcases Nat.lt_or_ge j k with h | h
          · exact hall j l' h hl'
          · obtain rfl : j = k := by omega
            rw [hl] at hl'
            cases hl'
            exact hb
        clear hl hm hall hb
        generalize hL : (labsOf s).length = L at *
        go_wp2_with fail
        refine (unhide hc _).mono ?_
        rintro e w2 ⟨rfl, rfl⟩
        go_wp2_with fail
        go_roundw
        case rel => exact ⟨k + 1, rfl, by simp, by omega, unhide HM⟩
        case measure => simp only [intOf]; omega
      · rw [labB_no hb] at hc
        have HN := hide (hostB_no (s := s) fun hh => hb (hh.2.2 l hm))
        clear hl hm hall hb
        generalize hL : (labsOf s).length = L at *
        go_wp2_with fail
        refine (unhide hc _).mono ?_
        rintro e w2 ⟨rfl, rfl⟩
        go_wp2_with fail
        go_ret
        exact ⟨retB (unhide HN), unhide HBW⟩
    · have c1 : ¬ (k : Int) < ((labsOf s).length : Int) := by omega
      have HA := hide (unhide HH k hp hall)
      have HE : Hid (hostB s = (decide ((2 : Int) ≤ ((labsOf s).length : Int)) && decide ((s.size : Int) ≤ 60))) := by
        show _ = _
        by_cases h1 : 2 ≤ (labsOf s).length
        · by_cases h2 : s.size ≤ 60
          · rw [hostB_yes ⟨h2, h1, unhide HA⟩]; symm; simp; omega
          · rw [hostB_no fun hh => h2 hh.1]; symm; simp; intro _; omega
        · rw [hostB_no fun hh => h1 hh.2.1]; symm; simp; omega
      clear hall
      generalize hL : (labsOf s).length = L at *
      by_cases h1 : (2 : Int) ≤ (L : Int)
      · by_cases h2 : (s.size : Int) ≤ 60
        · have HF : Hid (hostB s = true) := by show _ = _; rw [unhide HE]; simp [h1, h2]
          go_wp2_with fail
          go_ret
          exact ⟨retB (unhide HF), unhide HBW⟩
        · have HF : Hid (hostB s = false) := by show _ = _; rw [unhide HE]; simp [h2]
          go_wp2_with fail
          go_ret
          exact ⟨retB (unhide HF), unhide HBW⟩
      · have HF : Hid (hostB s = false) := by show _ = _; rw [unhide HE]; simp [h1]
        go_wp2_with fail
        go_ret
        exact ⟨retB (unhide HF), unhide HBW⟩

set_option maxRecDepth 100000 in
theorem hostS (s : ByteArray) (w : World) (hs : s.size ≤ 2097152) :
    Calls Tryz.prog 37 #[.string s] w fun e w' => e = .returned (.bool (hostB s)) ∧ Below w.heap.size w w' := by
  have h18 := hide (fun v => labels18 s v hs)
  go_enter Tryz.func37, Tryz.ntmps37
  go_wp2_with fail
  refine (unhide h18 _).mono ?_
  rintro e w2 ⟨rfl, hb2⟩
  go_wp2_with fail
  go_ret
  exact ⟨rfl, hb2⟩

/-- The six cells of a certificate in a block of its own. -/
def RowC (ty : TypeId) (w : World) (b : Nat) (h : ByteArray) (op n : Int) (s : ByteArray) (a : Option Addr) (len cap : Nat) (u : Int) : Prop := w.heap[b]? = some (.cells #[.string h, .int .i64 op, .int .i64 n, .string s, .slice a len cap, .int .i64 u] ty (0, 0))
theorem RowC.new (ty : TypeId) (w : World) (h : ByteArray) (op n : Int) (s : ByteArray) (a : Option Addr) (len cap : Nat) (u : Int) : RowC ty (w.alloc (.cells #[.string h, .int .i64 op, .int .i64 n, .string s, .slice a len cap, .int .i64 u] ty)) w.heap.size h op n s a len cap u := heap_alloc_new w _
theorem RowC.lt {ty : TypeId} {w : World} {b : Nat} {h : ByteArray} {op n : Int} {s : ByteArray} {a : Option Addr} {len cap : Nat} {u : Int} (hr : RowC ty w b h op n s a len cap u) : b < w.heap.size := (Array.getElem?_eq_some_iff.1 hr).1
theorem RowC.below {ty : TypeId} {w w' : World} {b : Nat} {h : ByteArray} {op n : Int} {s : ByteArray} {a : Option Addr} {len cap : Nat} {u : Int} (hr : RowC ty w b h op n s a len cap u) (hb : Below w.heap.size w w') : RowC ty w' b h op n s a len cap u := (hb.block b hr.lt).trans hr
theorem RowC.facts {ty : TypeId} {w : World} {b : Nat} {h : ByteArray} {op n : Int} {s : ByteArray} {a : Option Addr} {len cap : Nat} {u : Int} (hr : RowC ty w b h op n s a len cap u) :
    w.cell? ⟨b, 0, none⟩ = some (.string h) ∧ w.cell? ⟨b, 1, none⟩ = some (.int .i64 op) ∧ w.cell? ⟨b, 2, none⟩ = some (.int .i64 n) ∧ w.cell? ⟨b, 3, none⟩ = some (.string s) ∧ w.cell? ⟨b, 4, none⟩ = some (.slice a len cap) ∧ w.cell? ⟨b, 5, none⟩ = some (.int .i64 u) :=
  ⟨cell_of_row hr (by simp), cell_of_row hr (by simp), cell_of_row hr (by simp), cell_of_row hr (by simp), cell_of_row hr (by simp), cell_of_row hr (by simp)⟩

def opT : Tm → Int | .node op _ _ _ => op
theorem lies_op {w : World} {L : Nat} {t : Tm} {op n : Int} {s : ByteArray} {a : Option Addr} {len cap : Nat} (h : Lies w L t (tmCells op n s a len cap)) : opT t = op := by
  cases t with
  | node op' n' s' ks =>
    simp only [Lies, tmCells] at h
    obtain ⟨a', cap', he, _⟩ := h
    simp only [List.cons.injEq, Value.int.injEq, true_and] at he
    exact he.1.symm
/-- A certificate that is right. -/
noncomputable def certB (h : ByteArray) (t : Tm) (u : Int) : Bool := hostB h && (opT t == 4 && (okT t && decide (0 ≤ u ∧ u ≤ 100000)))

theorem abC {w : World} (x : Obj) : Below w.heap.size w (w.alloc x) := (Below.refl _ _).alloc (Nat.le_refl _) _
theorem btC {w v x : World} (h : Below w.heap.size w v) (h2 : Below v.heap.size v x) : Below w.heap.size w x := h.trans (h2.mono h.size)

set_option maxRecDepth 100000 in
set_option maxHeartbeats 1000000 in
theorem certS (t : Tm) (h : ByteArray) (op n : Int) (s : ByteArray) (a : Option Addr) (len cap : Nat) (u : Int) (w : World) (hl : Lies w 0 t (tmCells op n s a len cap)) (hsz : t.size ≤ 2097152) (hh : h.size ≤ 2097152) :
    Calls Tryz.prog 22 #[.agg #[.string h, .int .i64 op, .int .i64 n, .string s, .slice a len cap, .int .i64 u]] w fun e w' => e = .returned (.bool (certB h t u)) ∧ Below w.heap.size w w' := by
  have h10 := hide (fun v => hostS h v hh)
  have h13 := hide (fun v hv => ok8 t op n s a len cap v hv hsz)
  have h14 := hide (fun v => in14 u 0 100000 v)
  have hop := lies_op hl
  have hb0 := abC (w := w) (.cells #[.string h, .int .i64 op, .int .i64 n, .string s, .slice a len cap, .int .i64 u] 30)
  have HB0 := hide hb0
  have HL := hide (hl.below hb0)
  have HX := hide (RowC.new 30 w h op n s a len cap u)
  clear hl hb0
  cases hB : hostB h with
  | false =>
    have HE : Hid (certB h t u = false) := by show _ = _; simp [certB, hB]
    rw [hB] at h10
    clear hB
    go_enter Tryz.func22, Tryz.ntmps22
    go_wp2_with fail
    refine (unhide h10 _).mono ?_
    rintro e w2 ⟨rfl, hb2⟩
    obtain ⟨c0, c1, c2, c3, c4, c5⟩ := ((unhide HX).below hb2).facts
    go_wp2_with fail
    go_ret
    exact ⟨retB (unhide HE), btC (unhide HB0) hb2⟩
  | true =>
    rw [hB] at h10
    by_cases h4 : op = 4
    · have q4 : (op == 4) = true := by simpa using h4
      cases hK : okT t with
      | false =>
        have HE : Hid (certB h t u = false) := by show _ = _; simp [certB, hK]
        rw [hK] at h13
        clear hB hK hop h4
        go_enter Tryz.func22, Tryz.ntmps22
        go_wp2_with fail
        refine (unhide h10 _).mono ?_
        rintro e w2 ⟨rfl, hb2⟩
        obtain ⟨c0, c1, c2, c3, c4, c5⟩ := ((unhide HX).below hb2).facts
        have HB2 := hide hb2
        clear hb2
        go_wp2_with fail
        refine (unhide h13 _ ((unhide HL).below (unhide HB2))).mono ?_
        rintro e w3 ⟨rfl, hb3⟩
        have HB3 := hide hb3
        clear hb3 c0 c1 c2 c3 c4 c5
        obtain ⟨c0, c1, c2, c3, c4, c5⟩ := (((unhide HX).below (unhide HB2)).below (unhide HB3)).facts
        go_wp2_with fail
        go_ret
        exact ⟨retB (unhide HE), btC (btC (unhide HB0) (unhide HB2)) (unhide HB3)⟩
      | true =>
        have HE : Hid (certB h t u = decide (0 ≤ u ∧ u ≤ 100000)) := by show _ = _; simp [certB, hB, hK, hop, h4]
        rw [hK] at h13
        clear hB hK hop h4
        generalize decide (0 ≤ u ∧ u ≤ 100000) = D at *
        go_enter Tryz.func22, Tryz.ntmps22
        go_wp2_with fail
        refine (unhide h10 _).mono ?_
        rintro e w2 ⟨rfl, hb2⟩
        obtain ⟨c0, c1, c2, c3, c4, c5⟩ := ((unhide HX).below hb2).facts
        have HB2 := hide hb2
        clear hb2
        go_wp2_with fail
        refine (unhide h13 _ ((unhide HL).below (unhide HB2))).mono ?_
        rintro e w3 ⟨rfl, hb3⟩
        have HB3 := hide hb3
        clear hb3 c0 c1 c2 c3 c4 c5
        obtain ⟨c0, c1, c2, c3, c4, c5⟩ := (((unhide HX).below (unhide HB2)).below (unhide HB3)).facts
        go_wp2_with fail
        refine (unhide h14 _).mono ?_
        rintro e w4 ⟨rfl, rfl⟩
        go_wp2_with fail
        go_ret
        exact ⟨retB (unhide HE), btC (btC (unhide HB0) (unhide HB2)) (unhide HB3)⟩
    · have q4 : (op == 4) = false := by simpa using h4
      have HE : Hid (certB h t u = false) := by show _ = _; simp [certB, hop, h4]
      clear hB hop h4
      go_enter Tryz.func22, Tryz.ntmps22
      go_wp2_with fail
      refine (unhide h10 _).mono ?_
      rintro e w2 ⟨rfl, hb2⟩
      obtain ⟨c0, c1, c2, c3, c4, c5⟩ := ((unhide HX).below hb2).facts
      go_wp2_with fail
      go_ret
      exact ⟨retB (unhide HE), btC (unhide HB0) hb2⟩

set_option maxRecDepth 100000 in
set_option maxHeartbeats 1000000 in
theorem certI (t : Tm) (h : ByteArray) (op n : Int) (s : ByteArray) (a : Option Addr) (len cap : Nat) (u : Int) (w : World) (hl : Lies w 0 t (tmCells op n s a len cap)) (hsz : t.size ≤ 2097152) (hh : h.size ≤ 2097152) :
    Calls Tryz.prog 45 #[.agg #[.string h, .int .i64 op, .int .i64 n, .string s, .slice a len cap, .int .i64 u]] w fun e w' => e = .returned (.bool (certB h t u)) ∧ Below w.heap.size w w' := by
  have h10 := hide (fun v => hostI h v hh)
  have h13 := hide (fun v hv => ok10 t op n s a len cap v hv hsz)
  have hop := lies_op hl
  have hb0 := abC (w := w) (.cells #[.string h, .int .i64 op, .int .i64 n, .string s, .slice a len cap, .int .i64 u] 30)
  have HB0 := hide hb0
  have HL := hide (hl.below hb0)
  have HX := hide (RowC.new 30 w h op n s a len cap u)
  clear hl hb0
  cases hB : hostB h with
  | false =>
    have HE : Hid (certB h t u = false) := by show _ = _; simp [certB, hB]
    rw [hB] at h10
    clear hB
    go_enter Tryz.func45, Tryz.ntmps45
    go_wp2_with fail
    refine (unhide h10 _).mono ?_
    rintro e w2 ⟨rfl, hb2⟩
    obtain ⟨c0, c1, c2, c3, c4, c5⟩ := ((unhide HX).below hb2).facts
    go_wp2_with fail
    go_ret
    exact ⟨retB (unhide HE), btC (unhide HB0) hb2⟩
  | true =>
    rw [hB] at h10
    by_cases h4 : op = 4
    · have q4 : (op == 4) = true := by simpa using h4
      cases hK : okT t with
      | false =>
        have HE : Hid (certB h t u = false) := by show _ = _; simp [certB, hK]
        rw [hK] at h13
        clear hB hK hop h4
        go_enter Tryz.func45, Tryz.ntmps45
        go_wp2_with fail
        refine (unhide h10 _).mono ?_
        rintro e w2 ⟨rfl, hb2⟩
        obtain ⟨c0, c1, c2, c3, c4, c5⟩ := ((unhide HX).below hb2).facts
        have HB2 := hide hb2
        clear hb2
        go_wp2_with fail
        refine (unhide h13 _ ((unhide HL).below (unhide HB2))).mono ?_
        rintro e w3 ⟨rfl, hb3⟩
        have HB3 := hide hb3
        clear hb3 c0 c1 c2 c3 c4 c5
        obtain ⟨c0, c1, c2, c3, c4, c5⟩ := (((unhide HX).below (unhide HB2)).below (unhide HB3)).facts
        go_wp2_with fail
        go_ret
        exact ⟨retB (unhide HE), btC (btC (unhide HB0) (unhide HB2)) (unhide HB3)⟩
      | true =>
        have HE : Hid (∀ D, decide (0 ≤ u ∧ u ≤ 100000) = D → certB h t u = D) := by intro D hD; rw [← hD]; simp [certB, hB, hK, hop, h4]
        rw [hK] at h13
        clear hB hK hop h4
        by_cases u1 : 0 ≤ u
        · by_cases u2 : u ≤ 100000
          · go_enter Tryz.func45, Tryz.ntmps45
            go_wp2_with fail
            refine (unhide h10 _).mono ?_
            rintro e w2 ⟨rfl, hb2⟩
            obtain ⟨c0, c1, c2, c3, c4, c5⟩ := ((unhide HX).below hb2).facts
            have HB2 := hide hb2
            clear hb2
            go_wp2_with fail
            refine (unhide h13 _ ((unhide HL).below (unhide HB2))).mono ?_
            rintro e w3 ⟨rfl, hb3⟩
            have HB3 := hide hb3
            clear hb3 c0 c1 c2 c3 c4 c5
            obtain ⟨c0, c1, c2, c3, c4, c5⟩ := (((unhide HX).below (unhide HB2)).below (unhide HB3)).facts
            go_wp2_with fail
            go_ret
            exact ⟨retB (unhide HE _ (by simp [u1, u2])), btC (btC (unhide HB0) (unhide HB2)) (unhide HB3)⟩
          · have HF : Hid (certB h t u = decide (u ≤ 100000)) := unhide HE _ (by simp [u1])
            go_enter Tryz.func45, Tryz.ntmps45
            go_wp2_with fail
            refine (unhide h10 _).mono ?_
            rintro e w2 ⟨rfl, hb2⟩
            obtain ⟨c0, c1, c2, c3, c4, c5⟩ := ((unhide HX).below hb2).facts
            have HB2 := hide hb2
            clear hb2
            go_wp2_with fail
            refine (unhide h13 _ ((unhide HL).below (unhide HB2))).mono ?_
            rintro e w3 ⟨rfl, hb3⟩
            have HB3 := hide hb3
            clear hb3 c0 c1 c2 c3 c4 c5
            obtain ⟨c0, c1, c2, c3, c4, c5⟩ := (((unhide HX).below (unhide HB2)).below (unhide HB3)).facts
            go_wp2_with fail
            go_ret
            exact ⟨retB (unhide HF), btC (btC (unhide HB0) (unhide HB2)) (unhide HB3)⟩
        · go_enter Tryz.func45, Tryz.ntmps45
          go_wp2_with fail
          refine (unhide h10 _).mono ?_
          rintro e w2 ⟨rfl, hb2⟩
          obtain ⟨c0, c1, c2, c3, c4, c5⟩ := ((unhide HX).below hb2).facts
          have HB2 := hide hb2
          clear hb2
          go_wp2_with fail
          refine (unhide h13 _ ((unhide HL).below (unhide HB2))).mono ?_
          rintro e w3 ⟨rfl, hb3⟩
          have HB3 := hide hb3
          clear hb3 c0 c1 c2 c3 c4 c5
          obtain ⟨c0, c1, c2, c3, c4, c5⟩ := (((unhide HX).below (unhide HB2)).below (unhide HB3)).facts
          go_wp2_with fail
          go_ret
          exact ⟨retB (unhide HE _ (decide_eq_false (by omega))), btC (btC (unhide HB0) (unhide HB2)) (unhide HB3)⟩
    · have q4 : (op == 4) = false := by simpa using h4
      have HE : Hid (certB h t u = false) := by show _ = _; simp [certB, hop, h4]
      clear hB hop h4
      go_enter Tryz.func45, Tryz.ntmps45
      go_wp2_with fail
      refine (unhide h10 _).mono ?_
      rintro e w2 ⟨rfl, hb2⟩
      obtain ⟨c0, c1, c2, c3, c4, c5⟩ := ((unhide HX).below hb2).facts
      go_wp2_with fail
      go_ret
      exact ⟨retB (unhide HE), btC (unhide HB0) hb2⟩

set_option maxRecDepth 100000 in
set_option maxHeartbeats 1000000 in
theorem eqC (t : Tm) (h : ByteArray) (op n : Int) (s : ByteArray) (a : Option Addr) (len cap : Nat) (u : Int) (op' n' : Int) (s' : ByteArray) (a' : Option Addr) (len' cap' : Nat) (w : World) (hl : Lies w 0 t (tmCells op n s a len cap)) (hl' : Lies w 0 t (tmCells op' n' s' a' len' cap')) :
    Calls Tryz.prog 9 #[.agg #[.string h, .int .i64 op, .int .i64 n, .string s, .slice a len cap, .int .i64 u], .agg #[.string h, .int .i64 op', .int .i64 n', .string s', .slice a' len' cap', .int .i64 u]] w fun e w' => e = .returned (.bool true) ∧ Below w.heap.size w w' := by
  have h17 := eq_calls t
  have hb0 : Below w.heap.size w ((w.alloc (.cells #[.string h, .int .i64 op, .int .i64 n, .string s, .slice a len cap, .int .i64 u] 30)).alloc (.cells #[.string h, .int .i64 op', .int .i64 n', .string s', .slice a' len' cap', .int .i64 u] 30)) := btC (abC _) (abC _)
  have HL := hide (hl.below hb0)
  have HL' := hide (hl'.below hb0)
  have HB0 := hide hb0
  have HX := hide ((RowC.new 30 w h op n s a len cap u).below (abC (.cells #[.string h, .int .i64 op', .int .i64 n', .string s', .slice a' len' cap', .int .i64 u] 30)))
  have HY : Hid (RowC 30 ((w.alloc (.cells #[.string h, .int .i64 op, .int .i64 n, .string s, .slice a len cap, .int .i64 u] 30)).alloc (.cells #[.string h, .int .i64 op', .int .i64 n', .string s', .slice a' len' cap', .int .i64 u] 30)) (w.heap.size + 1) h op' n' s' a' len' cap' u) := by
    have := RowC.new 30 (w.alloc (.cells #[.string h, .int .i64 op, .int .i64 n, .string s, .slice a len cap, .int .i64 u] 30)) h op' n' s' a' len' cap' u
    rwa [heap_size_alloc] at this
  clear hl hl' hb0
  go_enter Tryz.func9, Tryz.ntmps9
  go_wp2_with fail
  refine (h17 op n s a len cap op' n' s' a' len' cap' _ (unhide HL) (unhide HL')).mono ?_
  rintro e w2 ⟨rfl, hb2⟩
  obtain ⟨c0, c1, c2, c3, c4, c5⟩ := ((unhide HX).below hb2).facts
  obtain ⟨d0, d1, d2, d3, d4, d5⟩ := ((unhide HY).below hb2).facts
  have HB2 := hide (btC (unhide HB0) hb2)
  clear hb2
  go_wp2_with fail
  go_ret
  exact ⟨rfl, unhide HB2⟩

end Go.Proofs.YtpmkoeahckjigaaGreatDoor
