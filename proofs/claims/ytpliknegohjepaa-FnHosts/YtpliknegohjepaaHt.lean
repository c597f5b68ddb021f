/- Hosts and patterns as plain texts: how many labels there are where a pattern fits; the pattern of a host's rest. -/
import Derived.Test.YtpliknegohjepaaHl
namespace Go.Proofs.Ytpliknegohjepaa
open Go.RowKit Go.Deep

theorem labs_len {s u : ByteArray} {a : Nat} (hu : u = s.extract a s.size) (ha : a ≤ s.size) : ∀ (f st st' : Nat), f ≤ u.size → (labs u f st).length = (labs s f st').length
  | 0, st, st', _ => rfl
  | f + 1, st, st', hf => by
    have hz : u.size = s.size - a := by rw [hu, ByteArray.size_extract]; omega
    have e : byteAt u (u.size - (f + 1)) = byteAt s (s.size - (f + 1)) := by
      rw [hz, hu, byteAt_extract (Nat.le_refl _) (by omega)]
      congr 1
      omega
    unfold labs
    rw [e]
    split
    · simp only [List.length_cons]
      rw [labs_len hu ha f _ (s.size - (f + 1) + 1) (by omega)]
    · exact labs_len hu ha f st st' (by omega)
theorem labs_rest {s : ByteArray} {a st : Nat} (ha : a ≤ s.size) : (labs s (s.size - a) st).length = (labsOf (s.extract a s.size)).length := by
  have hz : (s.extract a s.size).size = s.size - a := by rw [ByteArray.size_extract]; omega
  unfold labsOf
  rw [labs_len (s := s) rfl ha _ 0 st (Nat.le_refl _), hz]
theorem star_bytes {p : ByteArray} (h : starE p) : byteAt p 0 = 42 ∧ byteAt p 1 = 46 := by
  have hz := starE_size h
  have e3 := h
  unfold starE at e3
  have e0 := byteAt_extract (s := p) (a := 0) (b := 2) (i := 0) hz (by omega)
  have e1 := byteAt_extract (s := p) (a := 0) (b := 2) (i := 1) hz (by omega)
  rw [e3, Nat.zero_add] at e0 e1
  exact ⟨by rw [← e0]; rfl, by rw [← e1]; rfl⟩
theorem fit_count {p h : ByteArray} (f : fitP p h) : (labsOf p).length = (labsOf h).length := by
  obtain ⟨_, _, rfl | ⟨hs, i, hi, i1, i2, he⟩⟩ := f
  · rfl
  · obtain ⟨b0, b1⟩ := star_bytes hs
    have hz := starE_size hs
    have e1 : labsOf p = p.extract 0 1 :: labs p (p.size - 2) 2 := by
      have a := labs_no (s := p) (i := 0) (st := 0) (by omega) (by omega)
      have b := labs_dot (s := p) (i := 1) (st := 0) (by omega) b1
      unfold labsOf
      rw [Nat.sub_zero] at a
      rw [a, b]
    have e2 : labsOf h = h.extract 0 i :: labs h (h.size - (i + 1)) (i + 1) := by
      unfold labsOf
      have a := labs_skip (s := h) (st := 0) i 0 (by omega) (fun j _ hj => i2 j (by omega))
      rw [Nat.sub_zero, Nat.zero_add] at a
      rw [a, labs_dot hi i1]
    rw [e1, e2]
    simp only [List.length_cons]
    rw [labs_rest hz, labs_rest (by omega), he]
theorem catE (a b : ByteArray) : (a ++ b).data.toList = a.data.toList ++ b.data.toList := by simp [ByteArray.data_append]
theorem cat_size (a b : ByteArray) : (a ++ b).size = a.size + b.size := ByteArray.size_append
theorem cat2_head (x y : UInt8) (r : ByteArray) : ((⟨#[x, y]⟩ : ByteArray) ++ r).extract 0 2 = ⟨#[x, y]⟩ := by
  rw [Lib.extract_eq, catE]
  rfl
theorem cat2_tail (x y : UInt8) (r : ByteArray) : ((⟨#[x, y]⟩ : ByteArray) ++ r).extract 2 ((⟨#[x, y]⟩ : ByteArray) ++ r).size = r := by
  rw [Lib.extract_eq, catE]
  have : (([x, y] ++ r.data.toList).drop 2) = r.data.toList := rfl
  show (⟨(List.take _ (([x, y] ++ r.data.toList).drop 2)).toArray⟩ : ByteArray) = r
  have hl : r.data.toList.length ≤ ((⟨#[x, y]⟩ : ByteArray) ++ r).size - 2 := by
    rw [← Lib.size_eq, cat_size]
    show r.size ≤ 2 + r.size - 2
    omega
  rw [this, List.take_of_length_le hl]
theorem cat2_b0 (x y : UInt8) (r : ByteArray) : byteAt ((⟨#[x, y]⟩ : ByteArray) ++ r) 0 = x.toNat := by
  have hz := cat_size ⟨#[x, y]⟩ r
  have h2 : (⟨#[x, y]⟩ : ByteArray).size = 2 := rfl
  have e := byteAt_extract (s := (⟨#[x, y]⟩ : ByteArray) ++ r) (a := 0) (b := 2) (i := 0) (by omega) (by omega)
  rw [cat2_head, Nat.zero_add] at e
  rw [← e]
  rfl
theorem cat2_b1 (x y : UInt8) (r : ByteArray) : byteAt ((⟨#[x, y]⟩ : ByteArray) ++ r) 1 = y.toNat := by
  have hz := cat_size ⟨#[x, y]⟩ r
  have h2 : (⟨#[x, y]⟩ : ByteArray).size = 2 := rfl
  have e := byteAt_extract (s := (⟨#[x, y]⟩ : ByteArray) ++ r) (a := 0) (b := 2) (i := 1) (by omega) (by omega)
  rw [cat2_head, Nat.zero_add] at e
  rw [← e]
  rfl
/-- The pattern of a host's rest fits the host. -/
theorem fit_rest {s : ByteArray} {i : Nat} (hs : hostP s) (hi : i < s.size) (i1 : byteAt s i = 46) (i2 : ∀ j, j < i → ¬ byteAt s j = 46) (hr : hostB (s.extract (i + 1) s.size) = true) : fitB (⟨#[42, 46]⟩ ++ s.extract (i + 1) s.size) s = true := by
  have hr' := hostB_iff.1 hr
  have hst : starE (⟨#[42, 46]⟩ ++ s.extract (i + 1) s.size) := cat2_head _ _ _
  have ht := cat2_tail 42 46 (s.extract (i + 1) s.size)
  refine fitB_yes ⟨Or.inr ⟨hst, ?_⟩, hs, Or.inr ⟨hst, i, hi, i1, i2, ht.symm⟩⟩
  rw [ht]
  exact ⟨hr'.1, by have := hr'.2.1; omega, hr'.2.2⟩
/-- It fits none with a label more. -/
theorem fit_two {s : ByteArray} {i : Nat} (hi : i < s.size) : fitB (⟨#[42, 46]⟩ ++ s.extract (i + 1) s.size) (⟨#[113, 46]⟩ ++ s) = false := by
  refine fitB_no ?_
  rintro ⟨_, _, he | ⟨hs, k, hk, k1, k2, he⟩⟩
  · have := cat2_b0 42 46 (s.extract (i + 1) s.size)
    rw [he, cat2_b0] at this
    exact absurd this (by decide)
  · have e0 := cat2_b0 113 46 s
    have e1 := cat2_b1 113 46 s
    have hk1 : k = 1 := first_one k1 k2 (by rw [e1]; rfl) (fun j hj => by
      obtain rfl : j = 0 := by omega
      rw [e0]
      decide)
    subst hk1
    rw [cat2_tail, cat2_tail] at he
    have := congrArg ByteArray.size he
    rw [ByteArray.size_extract] at this
    omega

end Go.Proofs.Ytpliknegohjepaa
