/- What the calls of FnReplies answer, both sides with the same data. -/
import Derived.Test.YtmklgikbajhcpaaGreatDoorDrd
import Derived.Test.YtmklgikbajhcpaaGreatDoorDrp
import Derived.Test.YtmklgikbajhcpaaGreatDoorG3
import Derived.Test.YtmklgikbajhcpaaGreatDoorG5
import Derived.Test.YtmklgikbajhcpaaGreatDoorRh
import Derived.Test.YtmklgikbajhcpaaGreatDoorRpu
namespace Go.Proofs.YtmklgikbajhcpaaGreatDoor
open Go.RowKit Go.Deep

/-- A term; a term and a flag; four terms and a flag: what comes. -/
def OneT (T : Tm) (w : World) (q : Ending) (w' : World) : Prop := ∃ op0 n0 s0 a0 len0 cap0, q = .returned (.agg #[.int .i64 op0, .int .i64 n0, .string s0, .slice a0 len0 cap0]) ∧ Lies w' 0 T (tmCells op0 n0 s0 a0 len0 cap0) ∧ Below w.heap.size w w'
def OneB (T : Tm) (ok : Bool) (w : World) (q : Ending) (w' : World) : Prop := ∃ op0 n0 s0 a0 len0 cap0, q = .returned (.tuple #[.agg #[.int .i64 op0, .int .i64 n0, .string s0, .slice a0 len0 cap0], .bool ok]) ∧ Lies w' 0 T (tmCells op0 n0 s0 a0 len0 cap0) ∧ Below w.heap.size w w'
def FourB (T0 T1 T2 T3 : Tm) (ok : Bool) (w : World) (q : Ending) (w' : World) : Prop := ∃ op0 n0 s0 a0 len0 cap0 op1 n1 s1 a1 len1 cap1 op2 n2 s2 a2 len2 cap2 op3 n3 s3 a3 len3 cap3, q = .returned (.tuple #[.agg #[.int .i64 op0, .int .i64 n0, .string s0, .slice a0 len0 cap0], .agg #[.int .i64 op1, .int .i64 n1, .string s1, .slice a1 len1 cap1], .agg #[.int .i64 op2, .int .i64 n2, .string s2, .slice a2 len2 cap2], .agg #[.int .i64 op3, .int .i64 n3, .string s3, .slice a3 len3 cap3], .bool ok]) ∧ Lies w' 0 T0 (tmCells op0 n0 s0 a0 len0 cap0) ∧ Lies w' 0 T1 (tmCells op1 n1 s1 a1 len1 cap1) ∧ Lies w' 0 T2 (tmCells op2 n2 s2 a2 len2 cap2) ∧ Lies w' 0 T3 (tmCells op3 n3 s3 a3 len3 cap3) ∧ Below w.heap.size w w'
def Ans (b : Bool) (w : World) (q : Ending) (w' : World) : Prop := q = .returned (.bool b) ∧ Below w.heap.size w w'

theorem same_one (t : Tm) (op0 n0 : Int) (s0 : ByteArray) (a0 : Option Addr) (len0 cap0 : Nat) (op1 n1 : Int) (s1 : ByteArray) (a1 : Option Addr) (len1 cap1 : Nat) (w : World) (h0 : Lies w 0 t (tmCells op0 n0 s0 a0 len0 cap0)) (h1 : Lies w 0 t (tmCells op1 n1 s1 a1 len1 cap1)) (hz : t.size ≤ 2097152) :
    Calls Tryz.prog 21 #[.agg #[.int .i64 op0, .int .i64 n0, .string s0, .slice a0 len0 cap0], .agg #[.int .i64 op1, .int .i64 n1, .string s1, .slice a1 len1 cap1]] w fun e w' => Ans true w e w' := by
  have := same15 t t op0 n0 s0 a0 len0 cap0 op1 n1 s1 a1 len1 cap1 w h0 h1 hz
  rwa [same_refl] at this
theorem reply_both (t u ky ce : Tm) (hsz : t.size + u.size + ky.size + ce.size ≤ 1100000) : ∃ (R : Tm) (ok : Bool), OkZ R ∧ (ok = true → replyB t u ky ce = true) ∧ R = replyT t u ky ce ∧
    Hid (∀ (op0 n0 : Int) (s0 : ByteArray) (a0 : Option Addr) (len0 cap0 : Nat) (op1 n1 : Int) (s1 : ByteArray) (a1 : Option Addr) (len1 cap1 : Nat) (op2 n2 : Int) (s2 : ByteArray) (a2 : Option Addr) (len2 cap2 : Nat) (op3 n3 : Int) (s3 : ByteArray) (a3 : Option Addr) (len3 cap3 : Nat) (x : Addr) (w : World), ErrAt x w → Tab w → Lies w 0 t (tmCells op0 n0 s0 a0 len0 cap0) → Lies w 0 u (tmCells op1 n1 s1 a1 len1 cap1) → Lies w 0 ky (tmCells op2 n2 s2 a2 len2 cap2) → Lies w 0 ce (tmCells op3 n3 s3 a3 len3 cap3) → Calls Tryz.prog 16 #[.agg #[.int .i64 op0, .int .i64 n0, .string s0, .slice a0 len0 cap0], .agg #[.int .i64 op1, .int .i64 n1, .string s1, .slice a1 len1 cap1], .agg #[.int .i64 op2, .int .i64 n2, .string s2, .slice a2 len2 cap2], .agg #[.int .i64 op3, .int .i64 n3, .string s3, .slice a3 len3 cap3]] w fun e w' => OneB R ok w e w') ∧
    Hid (∀ (op0 n0 : Int) (s0 : ByteArray) (a0 : Option Addr) (len0 cap0 : Nat) (op1 n1 : Int) (s1 : ByteArray) (a1 : Option Addr) (len1 cap1 : Nat) (op2 n2 : Int) (s2 : ByteArray) (a2 : Option Addr) (len2 cap2 : Nat) (op3 n3 : Int) (s3 : ByteArray) (a3 : Option Addr) (len3 cap3 : Nat) (w : World), Lies w 0 t (tmCells op0 n0 s0 a0 len0 cap0) → Lies w 0 u (tmCells op1 n1 s1 a1 len1 cap1) → Lies w 0 ky (tmCells op2 n2 s2 a2 len2 cap2) → Lies w 0 ce (tmCells op3 n3 s3 a3 len3 cap3) → Calls Tryz.prog 17 #[.agg #[.int .i64 op0, .int .i64 n0, .string s0, .slice a0 len0 cap0], .agg #[.int .i64 op1, .int .i64 n1, .string s1, .slice a1 len1 cap1], .agg #[.int .i64 op2, .int .i64 n2, .string s2, .slice a2 len2 cap2], .agg #[.int .i64 op3, .int .i64 n3, .string s3, .slice a3 len3 cap3]] w fun e w' => OneB R ok w e w') := by
  refine ⟨replyT t u ky ce, replyB t u ky ce, ?_, fun h => h, rfl, ?_, ?_⟩
  · cases h : replyB t u ky ce with
    | false => exact Or.inr (by unfold replyT; rw [h]; rfl)
    | true =>
      have e : replyT t u ky ce = replyR t u ky ce (agreeT t u) := by unfold replyT; rw [h]; rfl
      unfold replyB at h
      rw [Bool.and_eq_true] at h
      exact Or.inl (by rw [e]; exact h.2)
  · intro op0 n0 s0 a0 len0 cap0 op1 n1 s1 a1 len1 cap1 op2 n2 s2 a2 len2 cap2 op3 n3 s3 a3 len3 cap3 x w he ht l0 l1 l2 l3
    refine (replyI t u ky ce op0 n0 s0 a0 len0 cap0 op1 n1 s1 a1 len1 cap1 op2 n2 s2 a2 len2 cap2 op3 n3 s3 a3 len3 cap3 x w he ht l0 l1 l2 l3 hsz).mono ?_
    rintro e w' ⟨op, n, s, a, len, cap, fp, rfl, hO, -, hb⟩
    exact ⟨op, n, s, a, len, cap, rfl, hO.lies0, hb⟩
  · intro op0 n0 s0 a0 len0 cap0 op1 n1 s1 a1 len1 cap1 op2 n2 s2 a2 len2 cap2 op3 n3 s3 a3 len3 cap3 w l0 l1 l2 l3
    refine (replyS t u ky ce op0 n0 s0 a0 len0 cap0 op1 n1 s1 a1 len1 cap1 op2 n2 s2 a2 len2 cap2 op3 n3 s3 a3 len3 cap3 w l0 l1 l2 l3 hsz).mono ?_
    rintro e w' ⟨op, n, s, a, len, cap, rfl, hO, hb⟩
    exact ⟨op, n, s, a, len, cap, rfl, hO.any (Nat.zero_le _), hb⟩
theorem rof_both (e t : Tm) (hst : e.size + t.size ≤ 1048578) : ∃ (P S C G : Tm) (ok : Bool), (OkZ P ∧ OkZ S ∧ OkZ C ∧ OkZ G) ∧ (∀ p q r s, replyO e t = some (p, q, r, s) → ok = true ∧ P = p ∧ S = q ∧ C = r ∧ G = s) ∧
    Hid (∀ (op0 n0 : Int) (s0 : ByteArray) (a0 : Option Addr) (len0 cap0 : Nat) (op1 n1 : Int) (s1 : ByteArray) (a1 : Option Addr) (len1 cap1 : Nat) (x : Addr) (w : World), ErrAt x w → Tab w → Lies w 0 e (tmCells op0 n0 s0 a0 len0 cap0) → Lies w 0 t (tmCells op1 n1 s1 a1 len1 cap1) → Calls Tryz.prog 19 #[.agg #[.int .i64 op0, .int .i64 n0, .string s0, .slice a0 len0 cap0], .agg #[.int .i64 op1, .int .i64 n1, .string s1, .slice a1 len1 cap1]] w fun q w' => FourB P S C G ok w q w') ∧
    Hid (∀ (op0 n0 : Int) (s0 : ByteArray) (a0 : Option Addr) (len0 cap0 : Nat) (op1 n1 : Int) (s1 : ByteArray) (a1 : Option Addr) (len1 cap1 : Nat) (w : World), Lies w 0 e (tmCells op0 n0 s0 a0 len0 cap0) → Lies w 0 t (tmCells op1 n1 s1 a1 len1 cap1) → Calls Tryz.prog 20 #[.agg #[.int .i64 op0, .int .i64 n0, .string s0, .slice a0 len0 cap0], .agg #[.int .i64 op1, .int .i64 n1, .string s1, .slice a1 len1 cap1]] w fun q w' => FourB P S C G ok w q w') := by
  cases h : replyO e t with
  | none =>
    refine ⟨_, _, _, _, false, ⟨Or.inr rfl, Or.inr rfl, Or.inr rfl, Or.inr rfl⟩, (fun _ _ _ _ h => by cases h), ?_, ?_⟩
    · intro op0 n0 s0 a0 len0 cap0 op1 n1 s1 a1 len1 cap1 x w he ht l0 l1
      refine (rofI_no e t op0 n0 s0 a0 len0 cap0 op1 n1 s1 a1 len1 cap1 x w he ht l0 l1 hst h).mono ?_
      rintro q w' ⟨rfl, hb⟩
      exact ⟨_, _, _, _, _, _, _, _, _, _, _, _, _, _, _, _, _, _, _, _, _, _, _, _, rfl, zero_lies _ _, zero_lies _ _, zero_lies _ _, zero_lies _ _, hb⟩
    · intro op0 n0 s0 a0 len0 cap0 op1 n1 s1 a1 len1 cap1 w l0 l1
      refine (rofS_no e t op0 n0 s0 a0 len0 cap0 op1 n1 s1 a1 len1 cap1 w l0 l1 hst h).mono ?_
      rintro q w' ⟨rfl, hb⟩
      exact ⟨_, _, _, _, _, _, _, _, _, _, _, _, _, _, _, _, _, _, _, _, _, _, _, _, rfl, zero_lies _ _, zero_lies _ _, zero_lies _ _, zero_lies _ _, hb⟩
  | some y =>
    obtain ⟨P, S, C, G⟩ := y
    obtain ⟨o1, o2, o3, o4⟩ := replyO_ok h
    refine ⟨P, S, C, G, true, ⟨Or.inl o1, Or.inl o2, Or.inl o3, Or.inl o4⟩, (fun p q r s h => by simp only [Option.some.injEq, Prod.mk.injEq] at h; exact ⟨rfl, h.1, h.2.1, h.2.2.1, h.2.2.2⟩), ?_, ?_⟩
    · intro op0 n0 s0 a0 len0 cap0 op1 n1 s1 a1 len1 cap1 x w he ht l0 l1
      refine (rofI_yes e t P S C G op0 n0 s0 a0 len0 cap0 op1 n1 s1 a1 len1 cap1 x w he ht l0 l1 hst h).mono ?_
      rintro q w' ⟨op4, n4, s4, a4, len4, cap4, f4, op5, n5, s5, a5, len5, cap5, f5, op6, n6, s6, a6, len6, cap6, f6, op7, n7, s7, a7, len7, cap7, f7, rfl, h4, h5, h6, h7, -, -, hb⟩
      exact ⟨_, _, _, _, _, _, _, _, _, _, _, _, _, _, _, _, _, _, _, _, _, _, _, _, rfl, h4.lies0, h5.lies0, h6.lies0, h7.lies0, hb⟩
    · intro op0 n0 s0 a0 len0 cap0 op1 n1 s1 a1 len1 cap1 w l0 l1
      refine (rofS_yes e t P S C G op0 n0 s0 a0 len0 cap0 op1 n1 s1 a1 len1 cap1 w l0 l1 hst h).mono ?_
      rintro q w' ⟨op4, n4, s4, a4, len4, cap4, op5, n5, s5, a5, len5, cap5, op6, n6, s6, a6, len6, cap6, op7, n7, s7, a7, len7, cap7, rfl, h4, h5, h6, h7, hb⟩
      exact ⟨_, _, _, _, _, _, _, _, _, _, _, _, _, _, _, _, _, _, _, _, _, _, _, _, rfl, h4, h5, h6, h7, hb⟩
theorem hof_both (t : Tm) (hsz : t.size ≤ 2097152) : ∃ (k : Tm) (ok : Bool), OkZ k ∧
    Hid (∀ (op0 n0 : Int) (s0 : ByteArray) (a0 : Option Addr) (len0 cap0 : Nat) (x : Addr) (w : World), ErrAt x w → Lies w 0 t (tmCells op0 n0 s0 a0 len0 cap0) → Calls Tryz.prog 24 #[.agg #[.int .i64 op0, .int .i64 n0, .string s0, .slice a0 len0 cap0]] w fun q w' => OneB k ok w q w') ∧
    Hid (∀ (op0 n0 : Int) (s0 : ByteArray) (a0 : Option Addr) (len0 cap0 : Nat) (w : World), Lies w 0 t (tmCells op0 n0 s0 a0 len0 cap0) → Calls Tryz.prog 25 #[.agg #[.int .i64 op0, .int .i64 n0, .string s0, .slice a0 len0 cap0]] w fun q w' => OneB k ok w q w') := by
  cases h : helloO t with
  | none =>
    refine ⟨_, false, Or.inr rfl, ?_, ?_⟩
    · intro op0 n0 s0 a0 len0 cap0 x w he l0
      refine ((helloOfI t op0 n0 s0 a0 len0 cap0 x w he l0 hsz).1 h).mono ?_
      rintro q w' ⟨rfl, hb⟩
      exact ⟨_, _, _, _, _, _, rfl, zero_lies _ _, hb⟩
    · intro op0 n0 s0 a0 len0 cap0 w l0
      refine ((helloOfS t op0 n0 s0 a0 len0 cap0 w l0 hsz).1 h).mono ?_
      rintro q w' ⟨rfl, hb⟩
      exact ⟨_, _, _, _, _, _, rfl, zero_lies _ _, hb⟩
  | some k =>
    refine ⟨k, true, Or.inl (helloO_some h).2.2, ?_, ?_⟩
    · intro op0 n0 s0 a0 len0 cap0 x w he l0
      refine ((helloOfI t op0 n0 s0 a0 len0 cap0 x w he l0 hsz).2 k h).mono ?_
      rintro q w' ⟨op, n, s, a, len, cap, fp, rfl, hO, -, hb⟩
      exact ⟨_, _, _, _, _, _, rfl, hO.lies0, hb⟩
    · intro op0 n0 s0 a0 len0 cap0 w l0
      refine ((helloOfS t op0 n0 s0 a0 len0 cap0 w l0 hsz).2 k h).mono ?_
      rintro q w' ⟨op, n, s, a, len, cap, rfl, hO, hb⟩
      exact ⟨_, _, _, _, _, _, rfl, hO, hb⟩
theorem helloI1 (t : Tm) (op0 n0 : Int) (s0 : ByteArray) (a0 : Option Addr) (len0 cap0 : Nat) (w : World) (l0 : Lies w 0 t (tmCells op0 n0 s0 a0 len0 cap0)) (hz : t.size ≤ 2000000) (he : Err w) : Calls Tryz.prog 29 #[.agg #[.int .i64 op0, .int .i64 n0, .string s0, .slice a0 len0 cap0]] w fun q w' => OneT (helloT t) w q w' := by
  refine (helloI t op0 n0 s0 a0 len0 cap0 w l0 (by omega) he).mono ?_
  rintro q w' ⟨op, n, s, a, len, cap, fp, rfl, hO, -, hb⟩
  exact ⟨_, _, _, _, _, _, rfl, hO.lies0, hb⟩
theorem helloS1 (t : Tm) (op0 n0 : Int) (s0 : ByteArray) (a0 : Option Addr) (len0 cap0 : Nat) (w : World) (l0 : Lies w 0 t (tmCells op0 n0 s0 a0 len0 cap0)) (hz : t.size ≤ 2000000) : Calls Tryz.prog 30 #[.agg #[.int .i64 op0, .int .i64 n0, .string s0, .slice a0 len0 cap0]] w fun q w' => OneT (helloT t) w q w' := by
  refine (helloS t op0 n0 s0 a0 len0 cap0 w l0 (by omega)).mono ?_
  rintro q w' ⟨op, n, s, a, len, cap, rfl, hO, hb⟩
  exact ⟨_, _, _, _, _, _, rfl, hO.any (Nat.zero_le _), hb⟩
theorem doneI1 (t : Tm) (op0 n0 : Int) (s0 : ByteArray) (a0 : Option Addr) (len0 cap0 : Nat) (w : World) (l0 : Lies w 0 t (tmCells op0 n0 s0 a0 len0 cap0)) (hz : t.size ≤ 2000000) (ht : Tab w) (he : Err w) : Calls Tryz.prog 31 #[.agg #[.int .i64 op0, .int .i64 n0, .string s0, .slice a0 len0 cap0]] w fun q w' => OneT (doneT t) w q w' := by
  refine (doneI t op0 n0 s0 a0 len0 cap0 w l0 (by omega) ht he).mono ?_
  rintro q w' ⟨op, n, s, a, len, cap, fp, rfl, hO, -, hb⟩
  exact ⟨_, _, _, _, _, _, rfl, hO.lies0, hb⟩
theorem doneS1 (t : Tm) (op0 n0 : Int) (s0 : ByteArray) (a0 : Option Addr) (len0 cap0 : Nat) (w : World) (l0 : Lies w 0 t (tmCells op0 n0 s0 a0 len0 cap0)) (hz : t.size ≤ 2000000) : Calls Tryz.prog 32 #[.agg #[.int .i64 op0, .int .i64 n0, .string s0, .slice a0 len0 cap0]] w fun q w' => OneT (doneT t) w q w' := by
  refine (doneS t op0 n0 s0 a0 len0 cap0 w l0 (by omega)).mono ?_
  rintro q w' ⟨op, n, s, a, len, cap, rfl, hO, hb⟩
  exact ⟨_, _, _, _, _, _, rfl, hO.any (Nat.zero_le _), hb⟩
theorem bothI1 (t u : Tm) (op0 n0 : Int) (s0 : ByteArray) (a0 : Option Addr) (len0 cap0 : Nat) (op1 n1 : Int) (s1 : ByteArray) (a1 : Option Addr) (len1 cap1 : Nat) (w : World) (l0 : Lies w 0 t (tmCells op0 n0 s0 a0 len0 cap0)) (l1 : Lies w 0 u (tmCells op1 n1 s1 a1 len1 cap1)) (hz : t.size+u.size ≤ 2000000) (he : Err w) : Calls Tryz.prog 33 #[.agg #[.int .i64 op0, .int .i64 n0, .string s0, .slice a0 len0 cap0], .agg #[.int .i64 op1, .int .i64 n1, .string s1, .slice a1 len1 cap1]] w fun q w' => OneT (bothT t u) w q w' := by
  refine (bothI t u op0 n0 s0 a0 len0 cap0 op1 n1 s1 a1 len1 cap1 w l0 l1 (by omega) he).mono ?_
  rintro q w' ⟨op, n, s, a, len, cap, fp, rfl, hO, -, hb⟩
  exact ⟨_, _, _, _, _, _, rfl, hO.lies0, hb⟩
theorem bothS1 (t u : Tm) (op0 n0 : Int) (s0 : ByteArray) (a0 : Option Addr) (len0 cap0 : Nat) (op1 n1 : Int) (s1 : ByteArray) (a1 : Option Addr) (len1 cap1 : Nat) (w : World) (l0 : Lies w 0 t (tmCells op0 n0 s0 a0 len0 cap0)) (l1 : Lies w 0 u (tmCells op1 n1 s1 a1 len1 cap1)) (hz : t.size+u.size ≤ 2000000) : Calls Tryz.prog 34 #[.agg #[.int .i64 op0, .int .i64 n0, .string s0, .slice a0 len0 cap0], .agg #[.int .i64 op1, .int .i64 n1, .string s1, .slice a1 len1 cap1]] w fun q w' => OneT (bothT t u) w q w' := by
  refine (bothS t u op0 n0 s0 a0 len0 cap0 op1 n1 s1 a1 len1 cap1 w l0 l1 (by omega)).mono ?_
  rintro q w' ⟨op, n, s, a, len, cap, rfl, hO, hb⟩
  exact ⟨_, _, _, _, _, _, rfl, hO.any (Nat.zero_le _), hb⟩
theorem pubI1 (t : Tm) (op0 n0 : Int) (s0 : ByteArray) (a0 : Option Addr) (len0 cap0 : Nat) (w : World) (l0 : Lies w 0 t (tmCells op0 n0 s0 a0 len0 cap0)) (hz : t.size ≤ 2000000) (he : Err w) : Calls Tryz.prog 38 #[.agg #[.int .i64 op0, .int .i64 n0, .string s0, .slice a0 len0 cap0]] w fun q w' => OneT (madeT 4 [t]) w q w' := by
  refine (pubI t op0 n0 s0 a0 len0 cap0 w l0 (by omega) he).mono ?_
  rintro q w' ⟨op, n, s, a, len, cap, fp, rfl, hO, -, hb⟩
  exact ⟨_, _, _, _, _, _, rfl, hO.lies0, hb⟩
theorem signI1 (t u : Tm) (op0 n0 : Int) (s0 : ByteArray) (a0 : Option Addr) (len0 cap0 : Nat) (op1 n1 : Int) (s1 : ByteArray) (a1 : Option Addr) (len1 cap1 : Nat) (w : World) (l0 : Lies w 0 t (tmCells op0 n0 s0 a0 len0 cap0)) (l1 : Lies w 0 u (tmCells op1 n1 s1 a1 len1 cap1)) (hz : t.size+u.size ≤ 2000000) (he : Err w) : Calls Tryz.prog 39 #[.agg #[.int .i64 op0, .int .i64 n0, .string s0, .slice a0 len0 cap0], .agg #[.int .i64 op1, .int .i64 n1, .string s1, .slice a1 len1 cap1]] w fun q w' => OneT (madeT 8 [t, u]) w q w' := by
  refine (signI t u op0 n0 s0 a0 len0 cap0 op1 n1 s1 a1 len1 cap1 w l0 l1 (by omega) he).mono ?_
  rintro q w' ⟨op, n, s, a, len, cap, fp, rfl, hO, -, hb⟩
  exact ⟨_, _, _, _, _, _, rfl, hO.lies0, hb⟩

set_option maxRecDepth 100000 in
theorem agreeI_yes (t u : Tm) (op0 n0 : Int) (s0 : ByteArray) (a0 : Option Addr) (len0 cap0 : Nat) (op1 n1 : Int) (s1 : ByteArray) (a1 : Option Addr) (len1 cap1 : Nat) (x : Addr) (w : World) (he : ErrAt x w) (hl : Lies w 0 t (tmCells op0 n0 s0 a0 len0 cap0)) (hl2 : Lies w 0 u (tmCells op1 n1 s1 a1 len1 cap1)) (hsz : t.size + u.size ≤ 2000000) (h : agreeB t u = true) :
    Calls Tryz.prog 37 #[.agg #[.int .i64 op0, .int .i64 n0, .string s0, .slice a0 len0 cap0], .agg #[.int .i64 op1, .int .i64 n1, .string s1, .slice a1 len1 cap1]] w fun q w' => OneB (agreeT t u) true w q w' := by
  obtain ⟨hs, hT⟩ := agree_sh h
  have hok : okT (shrT t u) = true := by
    obtain ⟨_, _, k, _, _, h3, h4⟩ := agree_shape h
    rw [← hT, h4]
    exact h3
  rw [hT]
  have h1 := hide (fun V (hV : Below w.heap.size w V) => shareI_yes t u op0 n0 s0 a0 len0 cap0 op1 n1 s1 a1 len1 cap1 x V (he.on hV) (hl.below hV) (hl2.below hV) (by omega) hs)
  have h2 := hide (fun a0 V (hV : Below w.heap.size w V) hL => answer_yes (shrT t u) 5 0 ByteArray.empty a0 2 2 x V hL (by have := okT_small hok; omega) (he.on hV))
  clear he hl hl2
  go_enter Tryz.func37, Tryz.ntmps37
  have hb0 : Below w.heap.size w (((w.alloc (.cells #[.int .i64 op0, .int .i64 n0, .string s0, .slice a0 len0 cap0] 29)).alloc (.cells #[.int .i64 op1, .int .i64 n1, .string s1, .slice a1 len1 cap1] 29)).alloc (.cells #[.int .i64 0, .int .i64 0, .string ⟨#[]⟩, .slice none 0 0] 29)) := bt (bt (ab _) (ab _) (Nat.le_refl _)) (ab _) (Nat.le_refl _)
  have HZ : Hid (RowT 29 (((w.alloc (.cells #[.int .i64 op0, .int .i64 n0, .string s0, .slice a0 len0 cap0] 29)).alloc (.cells #[.int .i64 op1, .int .i64 n1, .string s1, .slice a1 len1 cap1] 29)).alloc (.cells #[.int .i64 0, .int .i64 0, .string ⟨#[]⟩, .slice none 0 0] 29)) (w.heap.size + 1 + 1) 0 0 ⟨#[]⟩ none 0 0) := by
    have := RowT.new 29 ((w.alloc (.cells #[.int .i64 op0, .int .i64 n0, .string s0, .slice a0 len0 cap0] 29)).alloc (.cells #[.int .i64 op1, .int .i64 n1, .string s1, .slice a1 len1 cap1] 29)) 0 0 ⟨#[]⟩ none 0 0
    rwa [heap_size_alloc, heap_size_alloc] at this
  go_wp2_with fail
  generalize hgw : (((w.alloc (.cells #[.int .i64 op0, .int .i64 n0, .string s0, .slice a0 len0 cap0] 29)).alloc (.cells #[.int .i64 op1, .int .i64 n1, .string s1, .slice a1 len1 cap1] 29)).alloc (.cells #[.int .i64 0, .int .i64 0, .string ⟨#[]⟩, .slice none 0 0] 29)) = W0 at *
  clear hgw
  refine (unhide h1 _ hb0).mono ?_
  rintro q w1 ⟨a', rfl, hl1, hb1⟩
  have hb1' := bt hb0 hb1 (Nat.le_refl _)
  have h3 := hide (unhide h2 a' w1 hb1' hl1)
  clear h1 h2
  go_wp2_with fail
  refine (unhide h3).mono ?_
  rintro q w2 ⟨a2', cap2', fp, rfl, hO, ⟨-, hf⟩, hb2⟩
  have hZ2 := ((unhide HZ).below hb1).below hb2
  have hlt : w.heap.size + 1 + 1 < w1.heap.size := ((unhide HZ).below hb1).lt
  obtain ⟨p0, p1, p2, p3, q0, q1, q2, q3⟩ := (show ZBox w2 (w.heap.size + 1 + 1) from hZ2).facts
  have HB2 := hide (bt hb1' hb2 (Nat.le_refl _))
  have HL := hide (Own.lies _ _ fp hO hf)
  clear hb2 hb1' hO hf hl1 hb1 hb0 h3
  go_wp2_with fail
  exact bodyPost_ret (v := .tuple #[.agg #[.int .i64 5, .int .i64 0, .string ByteArray.empty, .slice a2' 2 cap2'], .bool true]) (by simp [results, Tryz.results37, go_sem, p0, p1, p2, p3]; try rfl) rfl ⟨_, _, _, _, _, _, rfl, set4_lies (unhide HL) (by omega) _ (Nat.zero_le _), set4_below (unhide HB2) (by omega)⟩

end Go.Proofs.YtmklgikbajhcpaaGreatDoor
