
/- Texts of hosts as lists of bytes: labels, what stands between bytes 46, a host. Plain: nothing of the program is named. -/
import Derived.WalkKit
import Derived.ProofKit
import Derived.Laws.RangeAny
namespace Go.Proofs.YtbbidjckplpaiaaGreatDoor
open Go.RowKit

/-- A byte of a text; nought behind its end. -/
def byteAt (s : ByteArray) (i : Nat) : Nat := if h : i < s.size then (s[i]'h).toNat else 0
theorem byteAt_lt {s : ByteArray} {i : Nat} (h : i < s.size) : (s[i]'h).toNat = byteAt s i := by simp [byteAt, h]
theorem byteAt_le (s : ByteArray) (i : Nat) : byteAt s i < 256 := by
  unfold byteAt
  split
  · exact UInt8.toNat_lt _
  · omega
theorem byteAt_extract {s : ByteArray} {a b i : Nat} (hb : b ≤ s.size) (hi : a + i < b) : byteAt (s.extract a b) i = byteAt s (a + i) := by
  have h1 : i < (s.extract a b).size := by rw [ByteArray.size_extract]; omega
  have h2 : a + i < s.size := by omega
  rw [← byteAt_lt h1, ← byteAt_lt h2]
  simp [ByteArray.getElem_extract]
theorem size_extract_le (s : ByteArray) (a b : Nat) : (s.extract a b).size ≤ s.size := by rw [ByteArray.size_extract]; omega

/-- A byte of a label at its place. -/
def okAt (s : ByteArray) (k : Nat) : Prop := (97 ≤ byteAt s k ∧ byteAt s k ≤ 122) ∨ (48 ≤ byteAt s k ∧ byteAt s k ≤ 57) ∨ (byteAt s k = 45 ∧ 0 < k ∧ k + 1 < s.size)
/-- A byte that a label may have. -/
def labByte (b : Nat) : Prop := (97 ≤ b ∧ b ≤ 122) ∨ (48 ≤ b ∧ b ≤ 57) ∨ b = 45
/-- A label. -/
def labP (s : ByteArray) : Prop := 1 ≤ s.size ∧ s.size ≤ 10 ∧ ∀ k, k < s.size → okAt s k
open Classical in
noncomputable def labB (s : ByteArray) : Bool := decide (labP s)
theorem labB_yes {s : ByteArray} (h : labP s) : labB s = true := by simp [labB, h]
theorem labB_no {s : ByteArray} (h : ¬ labP s) : labB s = false := by simp [labB, h]
theorem labB_iff {s : ByteArray} : labB s = true ↔ labP s := by simp [labB]

theorem okAt_labByte {s : ByteArray} {k : Nat} (h : okAt s k) : labByte (byteAt s k) := by
  rcases h with h | h | h
  · exact Or.inl h
  · exact Or.inr (Or.inl h)
  · exact Or.inr (Or.inr h.1)
theorem labP_bad {s : ByteArray} {k : Nat} (hk : k < s.size) (h : ¬ labByte (byteAt s k)) : ¬ labP s := fun hl => h (okAt_labByte (hl.2.2 k hk))
theorem labP_mk {s : ByteArray} (h0 : 1 ≤ s.size) (h1 : s.size ≤ 10) (ha : byteAt s 0 ≠ 45) (hz : byteAt s (s.size - 1) ≠ 45) (h : ∀ k, k < s.size → labByte (byteAt s k)) : labP s := by
  refine ⟨h0, h1, fun k hk => ?_⟩
  rcases h k hk with h | h | h
  · exact Or.inl h
  · exact Or.inr (Or.inl h)
  · refine Or.inr (Or.inr ⟨h, ?_, ?_⟩)
    · rcases Nat.eq_zero_or_pos k with rfl | hp
      · exact absurd h ha
      · exact hp
    · rcases Nat.lt_or_ge (k + 1) s.size with hp | hp
      · exact hp
      · have : k = s.size - 1 := by omega
        subst this
        exact absurd h hz
theorem labP_first {s : ByteArray} (h : byteAt s 0 = 45) : ¬ labP s := fun hl => by
  have h0 := hl.2.2 0 (by have := hl.1; omega)
  rcases h0 with h1 | h1 | h1
  · omega
  · omega
  · exact absurd h1.2.1 (by omega)
theorem labP_last {s : ByteArray} (h : byteAt s (s.size - 1) = 45) : ¬ labP s := fun hl => by
  have hs := hl.1
  have h0 := hl.2.2 (s.size - 1) (by omega)
  rcases h0 with h1 | h1 | h1
  · omega
  · omega
  · have := h1.2.2; omega

/-- What stands between bytes 46, from a place on: the label that is under way began at the second number. -/
def labs (s : ByteArray) : Nat → Nat → List ByteArray
  | 0, st => [s.extract st s.size]
  | f + 1, st => if byteAt s (s.size - (f + 1)) = 46 then s.extract st (s.size - (f + 1)) :: labs s f (s.size - (f + 1) + 1) else labs s f st
def labsOf (s : ByteArray) : List ByteArray := labs s s.size 0
theorem labs_dot {s : ByteArray} {i st : Nat} (hi : i < s.size) (h : byteAt s i = 46) : labs s (s.size - i) st = s.extract st i :: labs s (s.size - (i + 1)) (i + 1) := by
  have e : s.size - i = (s.size - (i + 1)) + 1 := by omega
  have e2 : s.size - (s.size - (i + 1) + 1) = i := by omega
  rw [e, labs, e2, if_pos h]
theorem labs_no {s : ByteArray} {i st : Nat} (hi : i < s.size) (h : ¬ byteAt s i = 46) : labs s (s.size - i) st = labs s (s.size - (i + 1)) st := by
  have e : s.size - i = (s.size - (i + 1)) + 1 := by omega
  have e2 : s.size - (s.size - (i + 1) + 1) = i := by omega
  conv => lhs; rw [e, labs, e2, if_neg h]
theorem labs_size {s : ByteArray} : ∀ (f st : Nat), ∀ l ∈ labs s f st, l.size ≤ s.size
  | 0, st, l, h => by
    simp [labs] at h
    subst h
    exact size_extract_le _ _ _
  | f + 1, st, l, h => by
    unfold labs at h
    split at h
    · rcases List.mem_cons.mp h with rfl | h
      · exact size_extract_le _ _ _
      · exact labs_size f _ l h
    · exact labs_size f _ l h
theorem labs_length (s : ByteArray) : ∀ (f st : Nat), (labs s f st).length ≤ f + 1
  | 0, st => by simp [labs]
  | f + 1, st => by
    unfold labs
    split
    · have := labs_length s f (s.size - (f + 1) + 1)
      simp only [List.length_cons]
      omega
    · have := labs_length s f st
      omega
/-- A byte above 127 stands in some label. -/
theorem labs_bad {s : ByteArray} {j : Nat} (hj : j < s.size) (h : 128 ≤ byteAt s j) : ∀ (f st : Nat), f ≤ s.size → st ≤ s.size - f → st ≤ j → ∃ l ∈ labs s f st, ¬ labP l
  | 0, st, _, h1, h2 => by
    refine ⟨s.extract st s.size, by simp [labs], labP_bad (k := j - st) (by rw [ByteArray.size_extract]; omega) ?_⟩
    rw [byteAt_extract (Nat.le_refl _) (by omega), show st + (j - st) = j by omega]
    unfold labByte
    omega
  | f + 1, st, hf, h1, h2 => by
    unfold labs
    split
    · rename_i hd
      rcases Nat.lt_or_ge j (s.size - (f + 1)) with hl | hl
      · refine ⟨_, List.mem_cons_self, labP_bad (k := j - st) (by rw [ByteArray.size_extract]; omega) ?_⟩
        rw [byteAt_extract (by omega) (by omega), show st + (j - st) = j by omega]
        unfold labByte
        omega
      · have hne : j ≠ s.size - (f + 1) := fun e => by rw [← e] at hd; omega
        obtain ⟨l, hm, hb⟩ := labs_bad hj h f (s.size - (f + 1) + 1) (by omega) (by omega) (by omega)
        exact ⟨l, List.mem_cons_of_mem _ hm, hb⟩
    · exact labs_bad hj h f st (by omega) (by omega) h2

/-- Labels with a byte 46 between, so many at least. -/
def lsP (n : Nat) (s : ByteArray) : Prop := s.size ≤ 60 ∧ n ≤ (labsOf s).length ∧ ∀ l ∈ labsOf s, labP l
open Classical in
noncomputable def lsB (n : Nat) (s : ByteArray) : Bool := decide (lsP n s)
theorem lsB_yes {n : Nat} {s : ByteArray} (h : lsP n s) : lsB n s = true := by simp [lsB, h]
theorem lsB_no {n : Nat} {s : ByteArray} (h : ¬ lsP n s) : lsB n s = false := by simp [lsB, h]
theorem lsB_iff {n : Nat} {s : ByteArray} : lsB n s = true ↔ lsP n s := by simp [lsB]
/-- A host's name. -/
def hostP (s : ByteArray) : Prop := s.size ≤ 60 ∧ 2 ≤ (labsOf s).length ∧ ∀ l ∈ labsOf s, labP l
open Classical in
noncomputable def hostB (s : ByteArray) : Bool := decide (hostP s)
theorem hostB_yes {s : ByteArray} (h : hostP s) : hostB s = true := by simp [hostB, h]
theorem hostB_no {s : ByteArray} (h : ¬ hostP s) : hostB s = false := by simp [hostB, h]
theorem hostB_iff {s : ByteArray} : hostB s = true ↔ hostP s := by simp [hostB]
theorem hostP_bad {s : ByteArray} {j : Nat} (hj : j < s.size) (h : 128 ≤ byteAt s j) : ¬ hostP s := fun hp => by
  obtain ⟨l, hm, hb⟩ := labs_bad hj h s.size 0 (Nat.le_refl _) (by omega) (by omega)
  exact hb (hp.2.2 l hm)
theorem hostB_ls (s : ByteArray) : hostB s = lsB 2 s := rfl
/-- A rune's bytes: none behind its end, and where it is none of seven bits none of its bytes is. -/
theorem decode_wide {s : ByteArray} {pos : Nat} (h : pos < s.size) (ha : 128 ≤ byteAt s pos) : pos + (Utf8.decode s pos).2 ≤ s.size ∧ ∀ j, pos ≤ j → j < pos + (Utf8.decode s pos).2 → 128 ≤ byteAt s j := by
  have g : ∀ k, pos + k < s.size → (s.get! (pos + k)).toNat = byteAt s (pos + k) := fun k hk => by
    rw [← byteAt_lt hk]
    simp [ByteArray.get!, getElem!_pos, hk]
    rfl
  have g0 := g 0 h
  have hn : ¬ (s.get! (pos + 0)).toNat < 128 := by rw [g0]; simpa using ha
  have one : ∀ j, pos ≤ j → j < pos + 1 → 128 ≤ byteAt s j := fun j h1 h2 => by
    obtain rfl : j = pos := by omega
    exact ha
  simp only [Utf8.decode, hn, if_false]
  repeat' split
  all_goals (try exact ⟨h, one⟩)
  all_goals
    rename_i hc _
    simp only [Bool.and_eq_true, decide_eq_true_eq, beq_iff_eq] at hc
  · obtain ⟨_, h1, h2⟩ := hc
    rw [g 1 h1] at h2
    refine ⟨by simp only; omega, fun j a b => ?_⟩
    rcases Nat.eq_or_lt_of_le a with rfl | a
    · exact ha
    · obtain rfl : j = pos + 1 := by simp only at b; omega
      omega
  · obtain ⟨⟨_, h1, h2⟩, h3, h4⟩ := hc
    rw [g 1 h1] at h2
    rw [g 2 h3] at h4
    refine ⟨by simp only; omega, fun j a b => ?_⟩
    simp only at b
    rcases Nat.eq_or_lt_of_le a with rfl | a
    · exact ha
    · rcases Nat.eq_or_lt_of_le (Nat.succ_le_of_lt a) with rfl | a
      · show 128 ≤ byteAt s (pos + 1)
        omega
      · obtain rfl : j = pos + 2 := by omega
        omega
  · obtain ⟨⟨⟨_, h1, h2⟩, h3, h4⟩, h5, h6⟩ := hc
    rw [g 1 h1] at h2
    rw [g 2 h3] at h4
    rw [g 3 h5] at h6
    refine ⟨by simp only; omega, fun j a b => ?_⟩
    simp only at b
    obtain ⟨d, rfl⟩ : ∃ d, j = pos + d := ⟨j - pos, by omega⟩
    obtain rfl | rfl | rfl | rfl : d = 0 ∨ d = 1 ∨ d = 2 ∨ d = 3 := by omega
    · exact ha
    · omega
    · omega
    · omega
theorem labs_skip {s : ByteArray} {st : Nat} : ∀ (n pos : Nat), pos + n ≤ s.size → (∀ j, pos ≤ j → j < pos + n → ¬ byteAt s j = 46) → labs s (s.size - pos) st = labs s (s.size - (pos + n)) st
  | 0, pos, _, _ => rfl
  | n + 1, pos, h, hj => by
    rw [labs_no (by omega) (hj pos (Nat.le_refl _) (by omega)), labs_skip n (pos + 1) (by omega) (fun j a b => hj j (by omega) (by omega)), show pos + 1 + n = pos + (n + 1) by omega]

end Go.Proofs.YtbbidjckplpaiaaGreatDoor
