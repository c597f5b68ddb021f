
/- The exact text of a term, as a list of bytes: two right terms with one exact text are one. -/
import Derived.Test.YteminklafghgpaaGreatDoorRl
import Derived.Lib.ItoaLen
namespace Go.Proofs.YteminklafghgpaaGreatDoor
open Go.RowKit Go.Deep

/-- The number that digits tell. -/
def undec (l : List UInt8) : Nat := l.foldl (fun z d => z * 10 + (d.toNat - 48)) 0
theorem undec_snoc (l : List UInt8) (d : UInt8) : undec (l ++ [d]) = undec l * 10 + (d.toNat - 48) := by simp [undec]
theorem dig_toNat {m : Nat} (h : m < 10) : (UInt8.ofNat (48 + m)).toNat = 48 + m := by
  rw [UInt8.toNat_ofNat']
  omega
theorem undec_dec : ∀ u : Nat, undec (Lib.decDigits u) = u
  | u => by
    rw [Lib.decDigits]
    split
    · rename_i h
      simp only [undec, List.foldl_cons, List.foldl_nil, dig_toNat h]
      omega
    · rename_i h
      rw [undec_snoc, undec_dec (u / 10), dig_toNat (by omega)]
      omega
theorem dec_digits : ∀ (u : Nat), ∀ d ∈ Lib.decDigits u, 48 ≤ d.toNat ∧ d.toNat ≤ 57
  | u, d, hd => by
    rw [Lib.decDigits] at hd
    split at hd
    · rename_i h
      simp only [List.mem_singleton] at hd
      subst hd
      rw [dig_toNat h]
      omega
    · rename_i h
      rw [List.mem_append, List.mem_singleton] at hd
      rcases hd with hd | rfl
      · exact dec_digits (u / 10) d hd
      · rw [dig_toNat (by omega)]
        omega
theorem dec_inj {a b : Nat} (h : Lib.decDigits a = Lib.decDigits b) : a = b := by rw [← undec_dec a, ← undec_dec b, h]
theorem itoa_inj {a b : Int} (h : Lib.itoa a = Lib.itoa b) : a = b := by
  have hd : ∀ (u : Nat) (l : List UInt8), Lib.decDigits u ≠ 45 :: l := fun u l e => by
    have := dec_digits u 45 (by rw [e]; simp)
    have h45 : (45 : UInt8).toNat = 45 := rfl
    omega
  unfold Lib.itoa at h
  split at h <;> split at h
  · have := dec_inj (List.cons.inj h).2
    omega
  · exact absurd h.symm (hd _ _)
  · exact absurd h (hd _ _)
  · have := dec_inj h
    omega
theorem itoa_no_space (a : Int) : (32 : UInt8) ∉ Lib.itoa a := fun hm => by
  have h32 : (32 : UInt8).toNat = 32 := rfl
  unfold Lib.itoa at hm
  split at hm
  · rcases List.mem_cons.1 hm with h | h
    · cases h
    · have := dec_digits _ _ h; omega
  · have := dec_digits _ _ hm; omega

/-- Up to the first blank. -/
theorem cut_inj : ∀ {x y : List UInt8} {r r' : List UInt8}, (32 : UInt8) ∉ x → (32 : UInt8) ∉ y → x ++ 32 :: r = y ++ 32 :: r' → x = y ∧ r = r'
  | [], [], _, _, _, _, h => ⟨rfl, (List.cons.inj h).2⟩
  | [], b :: y, _, _, _, hy, h => absurd (show (32 : UInt8) ∈ b :: y by have := (List.cons.inj h).1; simp [← this]) hy
  | a :: x, [], _, _, hx, _, h => absurd (show (32 : UInt8) ∈ a :: x by have := (List.cons.inj h).1; simp [this]) hx
  | a :: x, b :: y, _, _, hx, hy, h => by
    obtain ⟨rfl, h2⟩ := List.cons.inj h
    obtain ⟨rfl, rfl⟩ := cut_inj (fun hm => hx (by simp [hm])) (fun hm => hy (by simp [hm])) h2
    exact ⟨rfl, rfl⟩

/-- What a term has beside its kids. -/
def headX (op n : Int) (s : ByteArray) : List UInt8 := Lib.itoa op ++ 32 :: (Lib.itoa n ++ 32 :: (Lib.itoa (s.size : Int) ++ 32 :: s.toList))
mutual
def exT : Tm → List UInt8
  | .node op n s ks => headX op n s ++ exL ks
def exL : List Tm → List UInt8
  | [] => []
  | t :: r => exT t ++ exL r
end

theorem headX_inj {op n op' n' : Int} {s s' : ByteArray} {r r' : List UInt8} (h : headX op n s ++ r = headX op' n' s' ++ r') : op = op' ∧ n = n' ∧ s = s' ∧ r = r' := by
  unfold headX at h
  simp only [List.append_assoc, List.cons_append] at h
  obtain ⟨h1, h2⟩ := cut_inj (itoa_no_space _) (itoa_no_space _) h
  obtain ⟨h3, h4⟩ := cut_inj (itoa_no_space _) (itoa_no_space _) h2
  obtain ⟨h5, h6⟩ := cut_inj (itoa_no_space _) (itoa_no_space _) h4
  have hs : s.size = s'.size := by have := itoa_inj h5; omega
  have hl : s.toList.length = s'.toList.length := by rw [ByteArray.toList_eq, ByteArray.toList_eq]; simpa using hs
  obtain ⟨h7, h8⟩ := List.append_inj h6 hl
  exact ⟨itoa_inj h1, itoa_inj h3, toList_inj h7, h8⟩

mutual
theorem exT_inj : ∀ (t u : Tm) (r r' : List UInt8), rightT t = true → rightT u = true → exT t ++ r = exT u ++ r' → t = u ∧ r = r'
  | .node op n s ks, .node op' n' s' ks', r, r', ht, hu, h => by
    simp only [exT, List.append_assoc] at h
    obtain ⟨rfl, rfl, rfl, h2⟩ := headX_inj h
    simp only [rightT, Bool.and_eq_true] at ht hu
    have hk := headB_len ht.1.1
    have hk' := headB_len hu.1.1
    obtain ⟨rfl, rfl⟩ := exL_inj ks ks' r r' (by omega) ht.2 hu.2 h2
    exact ⟨rfl, rfl⟩
theorem exL_inj : ∀ (ks ks' : List Tm) (r r' : List UInt8), ks.length = ks'.length → rightL ks = true → rightL ks' = true → exL ks ++ r = exL ks' ++ r' → ks = ks' ∧ r = r'
  | [], [], _, _, _, _, _, h => ⟨rfl, by simpa [exL] using h⟩
  | [], _ :: _, _, _, hl, _, _, _ => by simp at hl
  | _ :: _, [], _, _, hl, _, _, _ => by simp at hl
  | t :: ks, u :: ks', r, r', hl, h1, h2, h => by
    simp only [rightL, Bool.and_eq_true] at h1 h2
    simp only [exL, List.append_assoc] at h
    obtain ⟨rfl, h3⟩ := exT_inj t u _ _ h1.1 h2.1 h
    obtain ⟨rfl, rfl⟩ := exL_inj ks ks' r r' (by simpa using hl) h1.2 h2.2 h3
    exact ⟨rfl, rfl⟩
end

/-- Two right terms with one exact text are one. -/
theorem ex_one {t u : Tm} (ht : rightT t = true) (hu : rightT u = true) (h : exT t = exT u) : t = u :=
  (exT_inj t u [] [] ht hu (by rw [h])).1

end Go.Proofs.YteminklafghgpaaGreatDoor
