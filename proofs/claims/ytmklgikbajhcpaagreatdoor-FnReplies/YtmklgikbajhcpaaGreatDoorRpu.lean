/- What a made reply tells to one who has the secret that it answers: plain data alone. -/
import Derived.Test.YtmklgikbajhcpaaGreatDoorRy
namespace Go.Proofs.YtmklgikbajhcpaaGreatDoor
open Go.RowKit Go.Deep

theorem bytesLess_flip : ∀ (x y : List UInt8), x ≠ y → Op.bytesLess y x = !Op.bytesLess x y
  | [], [], h => absurd rfl h
  | [], _ :: _, _ => rfl
  | _ :: _, [], _ => rfl
  | a :: x, b :: y, h => by
    simp only [Op.bytesLess]
    by_cases hab : a = b
    · subst hab
      have hxy : x ≠ y := fun e => h (by rw [e])
      have := bytesLess_flip x y hxy
      simp [this]
    · have hba : ¬ b = a := fun e => hab e.symm
      have hlt : (b < a) ↔ ¬ (a < b) := by
        constructor
        · intro h1 h2
          exact absurd (UInt8.lt_trans h1 h2) (UInt8.lt_irrefl b)
        · intro h1
          rcases UInt8.lt_or_lt_of_ne hab with h2 | h2
          · exact absurd h2 h1
          · exact h2
      by_cases h1 : a < b
      · have h2 : ¬ b < a := fun h2 => (hlt.1 h2) h1
        simp [h1, h2, hba]
      · have h2 : b < a := hlt.2 h1
        simp [h1, h2, hab]

theorem cmpI_flip (a b : Int) : cmpI b a = -cmpI a b := by unfold cmpI; split <;> split <;> (try split) <;> omega
theorem cmpS_flip (x y : ByteArray) : cmpS y x = -cmpS x y := by
  unfold cmpS
  by_cases h : x = y
  · subst h; simp
  · have hl : x.toList ≠ y.toList := fun e => h (toList_inj e)
    rw [if_neg h, if_neg (fun e => h e.symm), bytesLess_flip _ _ hl]
    cases Op.bytesLess x.toList y.toList <;> simp
theorem orI_flip (a b : Int) : orI (-a) (-b) = -orI a b := by unfold orI; split <;> split <;> omega

mutual
theorem cmpT_flip : ∀ (t u : Tm), cmpT u t = -cmpT t u
  | .node op n s ks, .node op' n' s' ks' => by
    simp only [cmpT, headC]
    rw [cmpI_flip op op', cmpI_flip n n', cmpS_flip s s', cmpI_flip (ks.length : Int) (ks'.length : Int), cmpL_flip ks ks', orI_flip, orI_flip, orI_flip, orI_flip]
theorem cmpL_flip : ∀ (ks ks' : List Tm), cmpL ks' ks = -cmpL ks ks'
  | [], [] => by simp [cmpL]
  | [], _ :: _ => by simp [cmpL]
  | _ :: _, [] => by simp [cmpL]
  | t :: r, u :: r' => by
    simp only [cmpL]
    rw [cmpT_flip t u, cmpL_flip r r', orI_flip]
end

mutual
theorem cmpT_eq : ∀ (t u : Tm), cmpT t u = 0 → t = u
  | .node op n s ks, .node op' n' s' ks', h => by
    simp only [cmpT] at h
    obtain ⟨h1, h2⟩ := orI_eq_zero.1 h
    obtain ⟨rfl, rfl, rfl, h3⟩ := headC_zero.1 h1
    rw [cmpL_eq ks ks' h3 h2]
theorem cmpL_eq : ∀ (ks ks' : List Tm), ks.length = ks'.length → cmpL ks ks' = 0 → ks = ks'
  | [], [], _, _ => rfl
  | [], _ :: _, h, _ => by simp at h
  | _ :: _, [], h, _ => by simp at h
  | t :: r, u :: r', h, h0 => by
    simp only [cmpL] at h0
    obtain ⟨h1, h2⟩ := orI_eq_zero.1 h0
    rw [cmpT_eq t u h1, cmpL_eq r r' (by simpa using h) h2]
end

theorem same_eq {t u : Tm} (h : sameB t u = true) : t = u := cmpT_eq t u (by simpa [sameB] using h)

theorem same_refl (t : Tm) : sameB t t = true := by
  have := cmpT_flip t t
  unfold sameB
  rw [decide_eq_true_eq]
  omega
theorem share_comm (t k : Tm) : shareT t k = shareT k t := by
  have hf := cmpT_flip t k
  unfold shareT beforeB
  by_cases h : cmpT k t < 0
  · have h2 : ¬ cmpT t k < 0 := by omega
    simp [h, h2]
  · by_cases h2 : cmpT t k < 0
    · simp [h, h2]
    · have he := cmpT_eq t k (by omega)
      subst he
      rfl
theorem ok_zero : okT (.node 0 0 ByteArray.empty []) = false := by decide
theorem made_of_ok {op : Int} {ks : List Tm} (h : okT (madeT op ks) = true) : madeT op ks = .node op 0 ByteArray.empty ks ∧ okT (.node op 0 ByteArray.empty ks) = true := by
  unfold madeT pickT at h ⊢
  cases hk : okT (.node op 0 ByteArray.empty ks) with
  | true => simp
  | false =>
    rw [hk] at h
    simp only [Bool.false_eq_true, if_false, ok_zero] at h
theorem behO_made {o : Int} {f k : Tm} (h : okT (.node o 0 ByteArray.empty [f, k]) = true) : behO o f (.node o 0 ByteArray.empty [f, k]) = some k := by
  simp [behO, h, same_refl]

theorem agree_shape {t u : Tm} (h : agreeB t u = true) : ∃ n st k, u = .node 4 n st [k] ∧ okT u = true ∧ okT (shareT t k) = true ∧ agreeT t u = shareT t k := by
  obtain ⟨op, n, st, ks⟩ := u
  match ks with
  | [] => simp [agreeB] at h
  | _ :: _ :: _ => simp [agreeB] at h
  | [k] =>
    have h' := h
    simp only [agreeB, Bool.and_eq_true, decide_eq_true_eq] at h
    obtain ⟨⟨rfl, hp⟩, hs⟩ := h
    refine ⟨n, st, k, rfl, hp, hs, ?_⟩
    simp only [agreeT, h', pickT, if_true]
theorem agree_half {k s : Tm} (h4 : okT (.node 4 0 ByteArray.empty [s]) = true) (hs : okT (shareT s k) = true) : agreeB k (.node 4 0 ByteArray.empty [s]) = true ∧ agreeT k (.node 4 0 ByteArray.empty [s]) = shareT s k := by
  have hb : agreeB k (.node 4 0 ByteArray.empty [s]) = true := by
    simp only [agreeB, Bool.and_eq_true, decide_eq_true_eq]
    exact ⟨⟨trivial, h4⟩, by rw [share_comm]; exact hs⟩
  refine ⟨hb, ?_⟩
  simp only [agreeT, hb, pickT, if_true]
  exact share_comm k s
theorem open_seal {K B : Tm} (h : okT (sealT K 0 B) = true) : ∃ S, sealT K 0 B = S ∧ openO K 0 S = some B ∧ okT B = true := by
  unfold sealT at h
  obtain ⟨e7, k7⟩ := made_of_ok h
  obtain ⟨e3, k3⟩ := made_of_ok (okT_kid k7 (x := madeT 3 [numT 0, B]) (by simp))
  refine ⟨_, rfl, ?_, okT_kid k3 (x := B) (by simp)⟩
  unfold sealT openO
  rw [e7, behO_made k7, e3]
  exact behO_made k3
theorem reply_core {k s c G : Tm} (hs : okT (shareT s k) = true) (hr : okT (twoT (textT replyW) (twoT (madeT 4 [s]) (sealT (keyT (shareT s k) 0) 0 (twoT c G)))) = true) :
    okT c = true ∧ replyO k (twoT (textT replyW) (twoT (madeT 4 [s]) (sealT (keyT (shareT s k) 0) 0 (twoT c G)))) = some (madeT 4 [s], shareT s k, c, G) := by
  have h1 : okT (twoT (madeT 4 [s]) (sealT (keyT (shareT s k) 0) 0 (twoT c G))) = true := okT_kid hr (by simp)
  obtain ⟨e4, k4⟩ := made_of_ok (okT_kid h1 (x := madeT 4 [s]) (by simp))
  obtain ⟨S, hS, hop, hB⟩ := open_seal (okT_kid h1 (x := sealT (keyT (shareT s k) 0) 0 (twoT c G)) (by simp))
  rw [hS] at hr ⊢
  rw [e4] at hr ⊢
  obtain ⟨hab, hat⟩ := agree_half k4 hs
  have hres := replyO_body_yes (e := k) (t := twoT (textT replyW) (twoT (.node 4 0 ByteArray.empty [s]) S)) (behO_made hr) hab (by rw [hat]; exact hop)
  rw [hat] at hres
  exact ⟨okT_kid hB (by simp), hres⟩

/-- A reply that was made is read as it was. -/
theorem reply_reads {s pub key cert : Tm} (h : replyB s pub key cert = true) : ∃ n st k, pub = .node 4 n st [k] ∧ okT pub = true ∧ okT cert = true ∧
    replyO k (replyT s pub key cert) = some (madeT 4 [s], agreeT s pub, cert, madeT 8 [key, bothT pub (madeT 4 [s])]) := by
  have hT : replyT s pub key cert = replyR s pub key cert (agreeT s pub) := by
    unfold replyT pickT
    rw [if_pos h]
  rw [hT]
  simp only [replyB, Bool.and_eq_true] at h
  obtain ⟨ha, hr⟩ := h
  obtain ⟨n, st, k, hp, hok, hs, hA⟩ := agree_shape ha
  rw [hA] at hr ⊢
  obtain ⟨h1, h2⟩ := reply_core hs hr
  exact ⟨n, st, k, hp, hok, h1, h2⟩

end Go.Proofs.YtmklgikbajhcpaaGreatDoor
