/- What stands between bytes 32, place by place, as the model goes through a text; it is what the list of bytes says. Plain: nothing of the program is named. -/
import Derived.Test.YtjckdepcgjfomaaDoorHp
import Derived.Test.YtjckdepcgjfomaaDoorWl
namespace Go.Proofs.YtjckdepcgjfomaaDoor
open Go.RowKit

/-- What stands between bytes 32, from a place on: the word that is under way began at the second number. -/
def wds (s : ByteArray) : Nat → Nat → List ByteArray
  | 0, st => [s.extract st s.size]
  | f + 1, st => if byteAt s (s.size - (f + 1)) = 32 then s.extract st (s.size - (f + 1)) :: wds s f (s.size - (f + 1) + 1) else wds s f st
def wdsOf (s : ByteArray) : List ByteArray := wds s s.size 0
theorem wds_ne (s : ByteArray) : ∀ f st, wds s f st ≠ []
  | 0, st => by simp [wds]
  | f + 1, st => by
    unfold wds
    split
    · simp
    · exact wds_ne s f st
theorem wds_dot {s : ByteArray} {i st : Nat} (hi : i < s.size) (h : byteAt s i = 32) : wds s (s.size - i) st = s.extract st i :: wds s (s.size - (i + 1)) (i + 1) := by
  have e : s.size - i = (s.size - (i + 1)) + 1 := by omega
  have e2 : s.size - (s.size - (i + 1) + 1) = i := by omega
  rw [e, wds, e2, if_pos h]
theorem wds_no {s : ByteArray} {i st : Nat} (hi : i < s.size) (h : ¬ byteAt s i = 32) : wds s (s.size - i) st = wds s (s.size - (i + 1)) st := by
  have e : s.size - i = (s.size - (i + 1)) + 1 := by omega
  have e2 : s.size - (s.size - (i + 1) + 1) = i := by omega
  conv => lhs; rw [e, wds, e2, if_neg h]
theorem wds_size {s : ByteArray} : ∀ (f st : Nat), ∀ l ∈ wds s f st, l.size ≤ s.size
  | 0, st, l, h => by
    simp [wds] at h
    subst h
    exact size_extract_le _ _ _
  | f + 1, st, l, h => by
    unfold wds at h
    split at h
    · rcases List.mem_cons.mp h with rfl | h
      · exact size_extract_le _ _ _
      · exact wds_size f _ l h
    · exact wds_size f _ l h
theorem wds_length (s : ByteArray) : ∀ (f st : Nat), (wds s f st).length ≤ f + 1
  | 0, st => by simp [wds]
  | f + 1, st => by
    unfold wds
    split
    · have := wds_length s f (s.size - (f + 1) + 1)
      simp only [List.length_cons]
      omega
    · have := wds_length s f st
      omega
/-- How far the words are gone through. -/
def GoneW (s : ByteArray) (k fr : Nat) (ls : List ByteArray) : Prop := (k ≤ s.size ∧ fr ≤ k ∧ ls ++ wds s (s.size - k) fr = wdsOf s) ∨ (k = s.size + 1 ∧ ls = wdsOf s)
theorem GoneW.end {s : ByteArray} {k fr : Nat} {ls : List ByteArray} (h : GoneW s k fr ls) (hk : ¬ k ≤ s.size) : ls = wdsOf s := by
  rcases h with h | h
  · exact absurd h.1 hk
  · exact h.2
theorem GoneW.last {s : ByteArray} {k fr : Nat} {ls : List ByteArray} (h : GoneW s k fr ls) (hk : k = s.size) (fr' : Nat) : GoneW s (k + 1) fr' (ls ++ [s.extract fr k]) := by
  rcases h with h | h
  · refine Or.inr ⟨by omega, ?_⟩
    rw [← h.2.2, hk, Nat.sub_self]
    simp [wds]
  · omega
theorem GoneW.dot {s : ByteArray} {k fr : Nat} {ls : List ByteArray} (h : GoneW s k fr ls) (hk : k < s.size) (hd : byteAt s k = 32) : GoneW s (k + 1) (k + 1) (ls ++ [s.extract fr k]) := by
  rcases h with h | h
  · refine Or.inl ⟨by omega, Nat.le_refl _, ?_⟩
    rw [← h.2.2, wds_dot hk hd]
    simp
  · omega
theorem GoneW.next {s : ByteArray} {k fr : Nat} {ls : List ByteArray} (h : GoneW s k fr ls) (hk : k < s.size) (hd : ¬ byteAt s k = 32) : GoneW s (k + 1) fr ls := by
  rcases h with h | h
  · exact Or.inl ⟨by omega, by omega, by rw [← h.2.2, wds_no hk hd]⟩
  · omega
theorem GoneW.le {s : ByteArray} {k fr : Nat} {ls : List ByteArray} (h : GoneW s k fr ls) (hk : k ≤ s.size) : fr ≤ k := by
  rcases h with h | h
  · exact h.2.1
  · omega

/-- Some bytes ahead of the first word. -/
def ahead (p : List UInt8) : List (List UInt8) → List (List UInt8)
  | [] => []
  | h :: t => (p ++ h) :: t
theorem ahead_nil (l : List (List UInt8)) : ahead [] l = l := by cases l <;> rfl
theorem ahead_wsL (p r : List UInt8) (c : UInt8) (h : c ≠ 32) : ahead p (wsL (c :: r)) = ahead (p ++ [c]) (wsL r) := by
  rw [wsL, if_neg h]
  cases hw : wsL r with
  | nil => exact absurd hw (wsL_ne r)
  | cons a t => simp [ahead]
theorem ext_list (s : ByteArray) (a b : Nat) : (s.extract a b).data.toList = (s.data.toList.take b).drop a := by
  rw [Lib.extract_data, List.drop_take]
theorem len_size (s : ByteArray) : s.data.toList.length = s.size := Array.length_toList
theorem drop_at {s : ByteArray} {i : Nat} (h : i < s.size) : s.data.toList.drop i = s[i] :: s.data.toList.drop (i + 1) := by
  have hl : i < s.data.toList.length := by rw [len_size]; exact h
  rw [List.drop_eq_getElem_cons hl]
  rfl
theorem ext_more {s : ByteArray} {a i : Nat} (h : i < s.size) (ha : a ≤ i) : (s.extract a (i + 1)).data.toList = (s.extract a i).data.toList ++ [s[i]] := by
  have hl : i < s.data.toList.length := by rw [len_size]; exact h
  rw [ext_list, ext_list, List.take_succ_eq_append_getElem hl, List.drop_append_of_le_length (by simp; omega)]
  rfl
theorem wds_list (s : ByteArray) : ∀ (f st : Nat), f ≤ s.size → st ≤ s.size - f → (wds s f st).map (·.data.toList) = ahead (s.extract st (s.size - f)).data.toList (wsL (s.data.toList.drop (s.size - f)))
  | 0, st, _, _ => by
    have : s.data.toList.drop (s.size - 0) = [] := by
      rw [List.drop_eq_nil_iff, len_size]
      omega
    rw [this]
    simp [wds, wsL, ahead]
  | f + 1, st, hf, hst => by
    have hi : s.size - (f + 1) < s.size := by omega
    have e : s.size - f = s.size - (f + 1) + 1 := by omega
    have hb := byteAt_lt hi
    have hd := drop_at hi
    unfold wds
    split
    · rename_i h
      have hc : s[s.size - (f + 1)] = 32 := by
        apply UInt8.toNat_inj.1
        rw [hb, h]
        rfl
      have ih := wds_list s f (s.size - (f + 1) + 1) (by omega) (by omega)
      rw [hd, hc, wsL, if_pos rfl, List.map_cons, ih, e]
      have hz : (s.extract (s.size - (f + 1) + 1) (s.size - (f + 1) + 1)).data.toList = [] := by
        rw [ext_list, List.drop_eq_nil_iff]
        simp
        omega
      rw [hz, ahead_nil]
      simp [ahead]
    · rename_i h
      have hc : s[s.size - (f + 1)] ≠ 32 := fun hh => h (by rw [← hb, hh]; rfl)
      have ih := wds_list s f st (by omega) (by omega)
      rw [hd, ahead_wsL _ _ _ hc, ih, e, ext_more hi hst]
theorem bytes_map_inj {xs ys : List ByteArray} (h : xs.map (·.data.toList) = ys.map (·.data.toList)) : xs = ys :=
  (List.map_inj_right fun _ _ hxy => Go.WideShapes.bytes_inj hxy).1 h
theorem wdsOf_list (s : ByteArray) : (wdsOf s).map (·.data.toList) = wsL s.data.toList := by
  have := wds_list s s.size 0 (Nat.le_refl _) (Nat.zero_le _)
  rw [Nat.sub_self] at this
  unfold wdsOf
  rw [this, ext_list]
  simp [ahead_nil]

end Go.Proofs.YtjckdepcgjfomaaDoor
