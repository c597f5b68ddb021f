
/- How impl puts a term together by exact texts, as a plain function: of a term that is right it answers as the model does. -/
import Derived.Test.YteminklafghgpaaGreatDoorEx
import Derived.Test.YteminklafghgpaaGreatDoorMd
namespace Go.Proofs.YteminklafghgpaaGreatDoor
open Go.RowKit Go.Deep

/-- Whether the exact text of a term is one of those of the right terms among some. -/
def hasX (ps : List Tm) (t : Tm) : Bool := ps.any fun p => okT p && decide (exT p = exT t)
/-- Whether a term is put together, by which of its kids are. -/
def putX (ps : List Tm) (op : Int) (ks : List Tm) (made : List Bool) : Bool :=
  if op = 1 then false else if made.all (fun b => b) = true then true else if op = 5 then
    match ks, made with
    | [x, y], [mx, my] => (mx && hasX ps (pubT y)) || (my && hasX ps (pubT x))
    | _, _ => false
  else false
mutual
def spX (ps : List Tm) : Tm → Bool
  | .node op n s ks => putX ps op ks (spL ps ks) || hasX ps (.node op n s ks)
def spL (ps : List Tm) : List Tm → List Bool
  | [] => []
  | t :: r => spX ps t :: spL ps r
end

mutual
theorem cmpT_one : ∀ (t u : Tm), cmpT t u = 0 → t = u
  | .node op n s ks, .node op' n' s' ks', h => by
    simp only [cmpT] at h
    obtain ⟨h1, h2⟩ := orI_eq_zero.1 h
    obtain ⟨rfl, rfl, rfl, h3⟩ := headC_zero.1 h1
    rw [cmpL_one ks ks' h3 h2]
theorem cmpL_one : ∀ (ks ks' : List Tm), ks.length = ks'.length → cmpL ks ks' = 0 → ks = ks'
  | [], [], _, _ => rfl
  | [], _ :: _, h, _ => by simp at h
  | _ :: _, [], h, _ => by simp at h
  | t :: r, u :: r', h, h0 => by
    simp only [cmpL] at h0
    obtain ⟨h1, h2⟩ := orI_eq_zero.1 h0
    rw [cmpT_one t u h1, cmpL_one r r' (by simpa using h) h2]
end

mutual
theorem cmpT_same : ∀ t : Tm, cmpT t t = 0
  | .node op n s ks => by
    simp only [cmpT]
    exact orI_eq_zero.2 ⟨headC_zero.2 ⟨rfl, rfl, rfl, rfl⟩, cmpL_same ks⟩
theorem cmpL_same : ∀ ks : List Tm, cmpL ks ks = 0
  | [] => by simp [cmpL]
  | t :: r => by
    simp only [cmpL]
    exact orI_eq_zero.2 ⟨cmpT_same t, cmpL_same r⟩
end

theorem okT_right {t : Tm} (h : okT t = true) : rightT t = true := by
  simp only [okT, Bool.and_eq_true] at h
  exact h.2
theorem sameB_iff {t u : Tm} (ht : rightT t = true) (hu : rightT u = true) : (sameB t u = true) ↔ exT t = exT u := by
  constructor
  · intro h
    have h0 : cmpT t u = 0 := by simpa [sameB] using h
    rw [cmpT_one t u h0]
  · intro h
    rw [ex_one ht hu h]
    simp [sameB, cmpT_same]
theorem hasX_hasB (ps : List Tm) (t : Tm) (ht : okT t = true) : hasX ps t = hasB ps t := by
  unfold hasX hasB
  induction ps with
  | nil => rfl
  | cons p r ih =>
    simp only [List.any_cons, ih]
    congr 1
    by_cases hp : okT p = true
    · rw [hp, Bool.true_and, Bool.eq_iff_iff, decide_eq_true_iff, sameB_iff (okT_right hp) (okT_right ht)]
    · have hp' : okT p = false := by simpa using hp
      rw [hp', Bool.false_and]
      cases hs : sameB p t with
      | false => rfl
      | true =>
        have h0 : cmpT p t = 0 := by simpa [sameB] using hs
        rw [cmpT_one p t h0] at hp'
        rw [hp'] at ht
        cases ht

theorem okT_kids {op n : Int} {s : ByteArray} {ks : List Tm} {x : Tm} (h : okT (.node op n s ks) = true) (hx : x ∈ ks) : okT x = true := by
  simp only [okT, Bool.and_eq_true, decide_eq_true_eq, rightT] at h
  simp only [okT, Bool.and_eq_true, decide_eq_true_eq]
  refine ⟨?_, rightL_mem' h.2.2 hx⟩
  have := Tm.size_mem hx
  have h1 := h.1
  simp only [Tm.size] at h1
  omega
theorem okT_pub {x : Tm} (h : okT x = true) (hz : x.size ≤ 199) : okT (pubT x) = true := by
  simp only [okT, Bool.and_eq_true, decide_eq_true_eq] at h
  simp only [okT, Bool.and_eq_true, decide_eq_true_eq, pubT, Tm.size, Tm.sizes, rightT, rightL, h.2, and_true]
  exact ⟨by omega, show headB 4 0 ByteArray.empty 1 = true by decide, by simp [shareB]⟩
theorem mkL_all (ps : List Tm) : ∀ ks : List Tm, mkL ps ks = (ks.map (mkB ps)).all fun b => b
  | [] => rfl
  | t :: r => by simp [mkL, mkL_all ps r]
theorem spL_map (ps : List Tm) : ∀ ks : List Tm, spL ps ks = ks.map (spX ps)
  | [] => rfl
  | t :: r => by simp [spL, spL_map ps r]

theorem spX_any (ps : List Tm) : ∀ (k : Nat) (t : Tm), t.size ≤ k → okT t = true → spX ps t = mkB ps t
  | 0, t, h, _ => by have := t.size_pos; omega
  | k + 1, .node op n s ks, h, hok => by
    have hk : ∀ x ∈ ks, spX ps x = mkB ps x := fun x hx => spX_any ps k x (by have := Tm.size_mem hx; simp only [Tm.size] at h; omega) (okT_kids hok hx)
    have hmap : spL ps ks = ks.map (mkB ps) := by rw [spL_map]; exact List.map_congr_left hk
    have hr := hok
    simp only [okT, Bool.and_eq_true, rightT] at hr
    have hlen := headB_len hr.2.1.1
    simp only [spX, hmap, hasX_hasB ps _ hok, mkB]
    by_cases e1 : op = 1
    · subst e1
      simp [putX]
    by_cases e2 : op = 2
    · subst e2
      have h0 : ks = [] := by
        simp only [kidsOf] at hlen
        simp at hlen
        exact List.length_eq_zero_iff.1 (by omega)
      subst h0
      simp [putX]
    by_cases e5 : op = 5
    · subst e5
      have hk2 : ks.length = 2 := by
        simp only [kidsOf] at hlen
        simp at hlen
        omega
      obtain ⟨x, y, rfl⟩ := two_of hk2
      have sx := x.size_pos
      have sy := y.size_pos
      have hz : (Tm.node 5 n s [x, y]).size ≤ 200 := by
        have h9 := hok
        simp only [okT, Bool.and_eq_true, decide_eq_true_eq] at h9
        exact h9.1
      simp only [Tm.size, Tm.sizes] at hz
      have hpx := hasX_hasB ps (pubT x) (okT_pub (okT_kids hok (by simp)) (by omega))
      have hpy := hasX_hasB ps (pubT y) (okT_pub (okT_kids hok (by simp)) (by omega))
      simp only [putX, List.map_cons, List.map_nil, hpx, hpy, mkS]
      generalize mkB ps x = mx
      generalize mkB ps y = my
      generalize hasB ps (pubT x) = px
      generalize hasB ps (pubT y) = py
      generalize hasB ps (.node 5 n s [x, y]) = hh
      cases mx <;> cases my <;> cases px <;> cases py <;> cases hh <;> rfl
    · simp only [putX, if_neg e1, if_neg e5, mkL_all]
      cases hh : (ks.map (mkB ps)).all fun b => b <;> simp [e1, e2]

/-- What impl puts together of a right term is what the model makes. -/
theorem spX_mkB (ps : List Tm) (t : Tm) (h : okT t = true) : spX ps t = mkB ps t := spX_any ps t.size t (Nat.le_refl _) h

end Go.Proofs.YteminklafghgpaaGreatDoor
