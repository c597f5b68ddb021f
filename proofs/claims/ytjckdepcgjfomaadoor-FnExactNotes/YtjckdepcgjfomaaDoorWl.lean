/- Words between blanks and numbers, as lists of bytes. Plain: nothing of the program is named. -/
import Derived.Lib.Split
import Derived.Lib.IndexLaws
import Derived.Lib.AtoiTie
import Derived.Lib.ItoaNum
import Derived.Lib.Join
import Derived.Lib.Strings
namespace Go.Proofs.YtjckdepcgjfomaaDoor

/-- What stands between bytes 32. -/
def wsL : List UInt8 → List (List UInt8)
  | [] => [[]]
  | c :: r => if c = 32 then [] :: wsL r else match wsL r with
    | h :: t => (c :: h) :: t
    | [] => [[c]]
theorem wsL_ne (l : List UInt8) : wsL l ≠ [] := by
  cases l with
  | nil => simp [wsL]
  | cons c r =>
    unfold wsL
    split
    · simp
    · split <;> simp
/-- No byte 32. -/
def NoB (x : List UInt8) : Prop := ∀ c ∈ x, c ≠ 32
theorem wsL_word : ∀ (x : List UInt8), NoB x → wsL x = [x]
  | [], _ => rfl
  | c :: r, h => by
    have h1 : c ≠ 32 := h c (by simp)
    rw [wsL, if_neg h1, wsL_word r fun d hd => h d (by simp [hd])]
theorem wsL_more : ∀ (x r : List UInt8), NoB x → wsL (x ++ 32 :: r) = x :: wsL r
  | [], r, _ => by simp [wsL]
  | c :: x, r, h => by
    have h1 : c ≠ 32 := h c (by simp)
    rw [List.cons_append, wsL, if_neg h1, wsL_more x r fun d hd => h d (by simp [hd])]
theorem join_two (x y : List UInt8) (r : List (List UInt8)) : Lib.join (x :: y :: r) [32] = x ++ 32 :: Lib.join (y :: r) [32] := by
  simp [Lib.join, List.intercalate, List.intersperse]
theorem join_one (x : List UInt8) : Lib.join [x] [32] = x := by simp [Lib.join, List.intercalate, List.intersperse]
theorem wsL_join : ∀ (xs : List (List UInt8)), xs ≠ [] → (∀ x ∈ xs, NoB x) → wsL (Lib.join xs [32]) = xs
  | [], h, _ => absurd rfl h
  | [x], _, h => by rw [join_one, wsL_word x (h x (by simp))]
  | x :: y :: r, _, h => by
    rw [join_two, wsL_more x _ (h x (by simp)), wsL_join (y :: r) (by simp) fun z hz => h z (List.mem_cons_of_mem _ hz)]

theorem indexByte_no : ∀ (x : List UInt8), NoB x → Lib.indexByte x 32 = -1
  | [], _ => rfl
  | c :: r, h => by
    have h1 : (c == 32) = false := by simpa using h c (by simp)
    rw [Lib.indexByte, h1, indexByte_no r fun d hd => h d (by simp [hd])]
    simp
theorem indexByte_at : ∀ (x r : List UInt8), NoB x → Lib.indexByte (x ++ 32 :: r) 32 = (x.length : Int)
  | [], r, _ => by simp [Lib.indexByte]
  | c :: x, r, h => by
    have h1 : (c == 32) = false := by simpa using h c (by simp)
    rw [List.cons_append, Lib.indexByte, h1, indexByte_at x r fun d hd => h d (by simp [hd])]
    have : ((x.length : Int) == -1) = false := by rw [beq_eq_false_iff_ne]; omega
    simp [this]
theorem splitK_join : ∀ (k : Nat) (xs : List (List UInt8)), xs ≠ [] → xs.length ≤ k + 1 → (∀ x ∈ xs, NoB x) → Lib.splitK [32] 0 k (Lib.join xs [32]) = xs
  | _, [], h, _, _ => absurd rfl h
  | 0, [x], _, _, h => by rw [join_one]; rfl
  | 0, x :: y :: r, _, hl, _ => by simp at hl
  | k + 1, [x], _, _, h => by
    rw [join_one, Lib.splitK, Lib.index_one, indexByte_no x (h x (by simp))]
    rfl
  | k + 1, x :: y :: r, _, hl, h => by
    rw [join_two, Lib.splitK, Lib.index_one, indexByte_at x _ (h x (by simp))]
    have : ((x.length : Int) == -1) = false := by rw [beq_eq_false_iff_ne]; omega
    rw [this]
    simp only [Bool.false_eq_true, if_false, Int.toNat_natCast, Nat.add_zero, List.length_cons, List.length_nil]
    rw [List.take_left, show (x ++ 32 :: Lib.join (y :: r) [32]).drop (x.length + (0 + 1)) = Lib.join (y :: r) [32] by simp [List.drop_append]]
    rw [splitK_join k (y :: r) (by simp) (by simp at hl ⊢; omega) fun z hz => h z (List.mem_cons_of_mem _ hz)]

theorem decFrom_append : ∀ (l r : List UInt8) (a : Nat), Lib.decFrom a (l ++ r) = (Lib.decFrom a l).bind fun b => Lib.decFrom b r
  | [], r, a => rfl
  | c :: l, r, a => by
    rw [List.cons_append, Lib.decFrom, Lib.decFrom]
    cases Lib.digitVal c with
    | none => rfl
    | some d => exact decFrom_append l r _
theorem digit_byte {d : Nat} (h : d < 10) : (UInt8.ofNat (48 + d)).toNat = 48 + d := by
  rw [UInt8.toNat_ofNat']; omega
theorem digitVal_of {d : Nat} (h : d < 10) : Lib.digitVal (UInt8.ofNat (48 + d)) = some d := by
  unfold Lib.digitVal
  rw [digit_byte h, if_pos (by omega)]
  congr 1
  omega
theorem decFrom_digits (u : Nat) : Lib.decFrom 0 (Lib.decDigits u) = some u := by
  induction u using Nat.strongRecOn with
  | ind u ih =>
    by_cases h : u < 10
    · rw [Lib.decDigits, dif_pos h, Lib.decFrom, digitVal_of h]
      simp [Lib.decFrom]
    · rw [Lib.decDigits, dif_neg h, decFrom_append, ih (u / 10) (by omega)]
      rw [Option.bind_some, Lib.decFrom, digitVal_of (Nat.mod_lt _ (by decide))]
      simp only [Lib.decFrom]
      congr 1
      omega
theorem digits_bytes (u : Nat) : ∀ c ∈ Lib.decDigits u, 48 ≤ c.toNat ∧ c.toNat ≤ 57 := by
  induction u using Nat.strongRecOn with
  | ind u ih =>
    intro c hc
    by_cases h : u < 10
    · rw [Lib.decDigits, dif_pos h] at hc
      rw [List.mem_singleton.1 hc, digit_byte h]
      omega
    · rw [Lib.decDigits, dif_neg h, List.mem_append] at hc
      rcases hc with hc | hc
      · exact ih (u / 10) (by omega) c hc
      · simp only [List.mem_singleton] at hc
        rw [hc, digit_byte (Nat.mod_lt _ (by decide))]
        omega
theorem digits_ne (u : Nat) : Lib.decDigits u ≠ [] := by
  rw [Lib.decDigits]
  split <;> simp
theorem nDigits_le : ∀ (k u : Nat), 1 ≤ k → u < 10 ^ k → Lib.nDigits u ≤ k
  | 0, _, h, _ => absurd h (by decide)
  | k + 1, u, _, h => by
    by_cases hu : u < 10
    · rw [Lib.nDigits_small hu]; omega
    · rw [Lib.nDigits_big hu]
      have hk : 1 ≤ k := by
        rcases Nat.eq_zero_or_pos k with rfl | hp
        · simp at h; omega
        · exact hp
      have := nDigits_le k (u / 10) hk (by rw [Nat.pow_succ] at h; omega)
      omega
theorem digits_len {u : Nat} (h : u < 10000000) : (Lib.decDigits u).length ≤ 7 := by
  rw [Lib.decDigits_length]
  exact nDigits_le 7 u (by decide) h
theorem atoi_digits (u : Nat) : Lib.atoi (Lib.decDigits u) = some (u : Int) := by
  have h0 := digits_ne u
  have h1 := digits_bytes u
  have h2 := decFrom_digits u
  generalize Lib.decDigits u = l at *
  cases l with
  | nil => exact absurd rfl h0
  | cons c r =>
    have hc := h1 c (by simp)
    have e1 : (c == 45) = false := by
      rw [beq_eq_false_iff_ne]
      rintro rfl
      exact absurd hc (by decide)
    have e2 : (c == 43) = false := by
      rw [beq_eq_false_iff_ne]
      rintro rfl
      exact absurd hc (by decide)
    simp only [Lib.atoi, e1, e2, Lib.decNat, h2]
    simp
theorem atoiAll_digits {u : Nat} (h : u < 10000000) : Lib.atoiAll (Lib.decDigits u) = .ok (u : Int) := by
  rw [Lib.atoiAll_short _ (by have := digits_len h; omega), atoi_digits]
  rfl
/-- A number of at most seven bytes, as the model reads it. -/
def numL (l : List UInt8) : Int := (l.take 7).foldl (fun n b => 10 * n + (b.toNat : Int) - 48) 0
theorem fold_digits (u : Nat) : (Lib.decDigits u).foldl (fun (n : Int) b => 10 * n + (b.toNat : Int) - 48) 0 = (u : Int) := by
  induction u using Nat.strongRecOn with
  | ind u ih =>
    by_cases h : u < 10
    · rw [Lib.decDigits, dif_pos h]
      rw [List.foldl_cons, List.foldl_nil, digit_byte h]
      omega
    · rw [Lib.decDigits, dif_neg h, List.foldl_append, ih (u / 10) (by omega), List.foldl_cons, List.foldl_nil, digit_byte (Nat.mod_lt u (by decide : 0 < 10))]
      omega
theorem numL_digits {u : Nat} (h : u < 10000000) : numL (Lib.decDigits u) = (u : Int) := by
  unfold numL
  rw [List.take_of_length_le (digits_len h)]
  exact fold_digits u
end Go.Proofs.YtjckdepcgjfomaaDoor
