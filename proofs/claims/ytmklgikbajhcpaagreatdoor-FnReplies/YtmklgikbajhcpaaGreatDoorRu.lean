
/- What is read of a reply, by the model's own questions; the box of a term whose kids are right, made early or late. -/
import Derived.Test.YtmklgikbajhcpaaGreatDoorRh
import Derived.Test.YtmklgikbajhcpaaGreatDoorG4
import Derived.Test.YtmklgikbajhcpaaGreatDoorBq
import Derived.Test.YtmklgikbajhcpaaGreatDoorDe
namespace Go.Proofs.YtmklgikbajhcpaaGreatDoor
open Go.RowKit Go.Deep

abbrev Tc.agg (p : Tc) : Value := .agg #[.int .i64 p.op, .int .i64 p.n, .string p.s, .slice p.a p.len p.cap]

theorem replyO_named_none {e t : Tm} (h : behO 3 (textT replyW) t = none) : replyO e t = none := by
  obtain ⟨op, n, s, ks⟩ := t
  cases hok : okT (.node op n s ks) with
  | false => simp [replyO, inO, hok]
  | true =>
    by_cases h3 : op = 3
    · subst h3
      obtain ⟨k0, k1, rfl⟩ := ok_two (Or.inl rfl) hok
      simp only [behO, hok, decide_true, Bool.true_and] at h
      have hs : sameB k0 (textT replyW) = false := by
        cases hs : sameB k0 (textT replyW) with
        | false => rfl
        | true => rw [hs] at h; simp at h
      simp only [replyO, inO, hok, if_true, rowO_yes]
      cases hr : rowO 1 k1 with
      | none => rfl
      | some l =>
        have hl := rowO_len 1 k1 l hr
        match l, hl with
        | [p, q], _ => simp [hs]
    · simp [replyO, inO, hok, rowO_no h3]
theorem replyO_named_op {e t k : Tm} (h : behO 3 (textT replyW) t = some k) (h3 : k.opOf ≠ 3) : replyO e t = none := by
  obtain ⟨n, s, k0, rfl, hok, hs⟩ := behO_some h
  obtain ⟨ko, kn, ks, kk⟩ := k
  simp [replyO, inO, hok, rowO_yes, rowO_no (show ko ≠ 3 from h3)]
theorem inO_of_named {t : Tm} {n : Int} {s : ByteArray} {pub sealed : Tm} (h : behO 3 (textT replyW) t = some (.node 3 n s [pub, sealed])) : okT pub = true ∧ okT sealed = true ∧ pub.size + sealed.size ≤ t.size ∧ ∃ k0, sameB k0 (textT replyW) = true ∧ inO 2 t = some [k0, pub, sealed] := by
  obtain ⟨n', s', k0, rfl, hok, hs⟩ := behO_some h
  have h1 := okT_kid hok (x := .node 3 n s [pub, sealed]) (by simp)
  refine ⟨okT_kid h1 (by simp), okT_kid h1 (by simp), ?_, k0, hs, ?_⟩
  · simp only [Tm.size, Tm.sizes]; omega
  · simp [inO, hok, rowO]
theorem replyO_agree_no {e t : Tm} {n : Int} {s : ByteArray} {pub sealed : Tm} (h : behO 3 (textT replyW) t = some (.node 3 n s [pub, sealed])) (ha : agreeB e pub = false) : replyO e t = none := by
  obtain ⟨hp, -, -, k0, hs, hi⟩ := inO_of_named h
  have hb : shrB e pub = false := by
    cases hb : shrB e pub with
    | false => rfl
    | true => rw [sh_agree hb ha] at hp; cases hp
  simp [replyO, hi, hs, hb]
theorem replyO_open_no {e t : Tm} {n : Int} {s : ByteArray} {pub sealed : Tm} (h : behO 3 (textT replyW) t = some (.node 3 n s [pub, sealed])) (ha : agreeB e pub = true) (ho : openO (keyT (agreeT e pub) 0) 0 sealed = none) : replyO e t = none := by
  obtain ⟨hp, -, -, k0, hs, hi⟩ := inO_of_named h
  obtain ⟨hb, he⟩ := agree_sh ha
  rw [he] at ho
  simp [replyO, hi, hs, hb, ho]
theorem replyO_body_no {e t : Tm} {n : Int} {s : ByteArray} {pub sealed body : Tm} (h : behO 3 (textT replyW) t = some (.node 3 n s [pub, sealed])) (ha : agreeB e pub = true) (ho : openO (keyT (agreeT e pub) 0) 0 sealed = some body) (h3 : body.opOf ≠ 3) : replyO e t = none := by
  obtain ⟨hp, -, -, k0, hs, hi⟩ := inO_of_named h
  obtain ⟨hb, he⟩ := agree_sh ha
  have hok := openO_ok ho
  rw [he] at ho
  have hin : inO 1 body = none := by
    obtain ⟨ko, kn, ks, kk⟩ := body
    simp [inO, rowO_no (show ko ≠ 3 from h3)]
  simp [replyO, hi, hs, hb, ho, hin]
theorem replyO_body_yes {e t : Tm} {n n2 : Int} {s s2 : ByteArray} {pub sealed c g : Tm} (h : behO 3 (textT replyW) t = some (.node 3 n s [pub, sealed])) (ha : agreeB e pub = true) (ho : openO (keyT (agreeT e pub) 0) 0 sealed = some (.node 3 n2 s2 [c, g])) : replyO e t = some (pub, agreeT e pub, c, g) := by
  obtain ⟨hp, -, -, k0, hs, hi⟩ := inO_of_named h
  obtain ⟨hb, he⟩ := agree_sh ha
  have hok := openO_ok ho
  rw [he] at ho ⊢
  have hin : inO 1 (.node 3 n2 s2 [c, g]) = some [c, g] := by simp [inO, hok, rowO]
  simp [replyO, hi, hs, hb, ho, hin]

/-- The kids are right. -/
def KidsOk (t : Tm) : Prop := ∀ x ∈ t.kids, okT x = true
theorem KidsOk.of {t : Tm} (h : okT t = true) : KidsOk t := by
  cases t with
  | node op n s ks => exact fun x hx => okT_kid h hx
theorem KidsOk.zero : KidsOk (.node 0 0 ByteArray.empty []) := fun x hx => by simp [Tm.kids] at hx
theorem Lies.apartK {w w' : World} {L g : Nat} (hz : ZBox w g) (hc : ∀ b o, b ≠ g → w'.cell? ⟨b, o, none⟩ = w.cell? ⟨b, o, none⟩) : ∀ (t : Tm) (cs : List Value), KidsOk t → Lies w L t cs → Lies w' L t cs
  | .node op n s ks, cs, hk, h => by
    simp only [Lies] at h ⊢
    obtain ⟨a, cap, rfl, h1, h2, h4⟩ := h
    exact ⟨a, cap, rfl, h1, h2, LiesAll.apartZ hz hc a 0 ks hk h4⟩
def CutK (T : Tm) (w2 : World) (ev : Value) (p q : Value) (wx : World) : Prop := ∃ b op n s a len cap, p = .pointer (some ⟨b, 0, none⟩) ∧ q = ev ∧ w2.heap.size ≤ b ∧ RowT 29 wx b op n s a len cap ∧ Lies wx 0 T (tmCells op n s a len cap) ∧ Below w2.heap.size w2 wx
theorem CutK.late {T : Tm} {w2 w5 : World} {op n : Int} {s : ByteArray} {a : Option Addr} {len cap : Nat} {ev : Value} (hb : Below w2.heap.size w2 w5) (hl : Lies w5 0 T (tmCells op n s a len cap)) : CutK T w2 ev (.pointer (some ⟨w5.heap.size, 0, none⟩)) ev (w5.alloc (.cells #[.int .i64 op, .int .i64 n, .string s, .slice a len cap] 29)) :=
  ⟨_, _, _, _, _, _, _, rfl, rfl, hb.size, RowT.new 29 w5 op n s a len cap, hl.below (ab _), bt hb (ab _) (Nat.le_refl _)⟩
theorem CutK.early {T : Tm} {w2 w5 : World} {g : Nat} {op n : Int} {s : ByteArray} {a : Option Addr} {len cap : Nat} {ev : Value} (hb : Below w2.heap.size w2 w5) (hz : ZBox w5 g) (hg : w2.heap.size ≤ g) (hok : KidsOk T) (hl : Lies w5 0 T (tmCells op n s a len cap)) : CutK T w2 ev (.pointer (some ⟨g, 0, none⟩)) ev ((((w5.setCell ⟨g, 0, none⟩ (.int .i64 op)).setCell ⟨g, 1, none⟩ (.int .i64 n)).setCell ⟨g, 2, none⟩ (.string s)).setCell ⟨g, 3, none⟩ (.slice a len cap)) :=
  ⟨_, _, _, _, _, _, _, rfl, rfl, hg, fill26 hz op n s a len cap, Lies.apartK hz (fun b _ hne => World.cell?_of_block (set4_heap _ _ _ _ _ _ b hne)) T _ hok hl, set4_below hb hg⟩

/-- spec.Open, told alike whether it opens. -/
def openT (k : Tm) (m : Int) (t : Tm) : Tm := (openO k m t).getD (.node 0 0 ByteArray.empty [])
theorem openT_kids (k : Tm) (m : Int) (t : Tm) : KidsOk (openT k m t) := by
  unfold openT
  cases h : openO k m t with
  | none => exact KidsOk.zero
  | some v => exact KidsOk.of (openO_ok h)
theorem openS_any (k t : Tm) (m op n : Int) (s : ByteArray) (a : Option Addr) (len cap : Nat) (op2 n2 : Int) (s2 : ByteArray) (a2 : Option Addr) (len2 cap2 : Nat) (w : World) (hlf : Lies w 0 k (tmCells op n s a len cap)) (hl : Lies w 0 t (tmCells op2 n2 s2 a2 len2 cap2)) (hsz : t.size ≤ 2097152) (h0 : -9223372036854775808 ≤ m) (h1 : m ≤ 9223372036854775807) :
    Calls Tryz.prog 82 #[.agg #[.int .i64 op, .int .i64 n, .string s, .slice a len cap], .int .i64 m, .agg #[.int .i64 op2, .int .i64 n2, .string s2, .slice a2 len2 cap2]] w fun e w' => ∃ op' n' s' a' len' cap', e = .returned (.tuple #[.agg #[.int .i64 op', .int .i64 n', .string s', .slice a' len' cap'], .bool (openO k m t).isSome]) ∧ Lies w' 0 (openT k m t) (tmCells op' n' s' a' len' cap') ∧ Below w.heap.size w w' := by
  cases h : openO k m t with
  | none =>
    refine (openS_none k t m op n s a len cap op2 n2 s2 a2 len2 cap2 w hlf hl hsz h0 h1 h).mono ?_
    rintro e w' ⟨rfl, hb⟩
    refine ⟨0, 0, ByteArray.empty, none, 0, 0, rfl, ?_, hb⟩
    unfold openT
    rw [h]
    exact zero_lies w' 0
  | some v =>
    refine (openS_some k t m op n s a len cap op2 n2 s2 a2 len2 cap2 w hlf hl hsz h0 h1 v h).mono ?_
    rintro e w' ⟨op', n', s', a', len', cap', rfl, hL, hb⟩
    refine ⟨op', n', s', a', len', cap', rfl, ?_, hb⟩
    unfold openT
    rw [h]
    exact hL.any (Nat.zero_le _)

end Go.Proofs.YtmklgikbajhcpaaGreatDoor
