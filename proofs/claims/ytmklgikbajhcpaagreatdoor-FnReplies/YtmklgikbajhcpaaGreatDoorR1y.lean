
/- The walk of spec.Reply at whatever four terms: the reply and true, or zero and false; nothing that was there is written. -/
import Derived.Test.YtmklgikbajhcpaaGreatDoorR1
namespace Go.Proofs.YtmklgikbajhcpaaGreatDoor
open Go.RowKit Go.Deep

theorem szs {a b c d : Nat} (h : a + b + c + d ≤ 1100000) : a ≤ 1100000 ∧ b ≤ 1100000 ∧ c ≤ 1100000 ∧ d ≤ 1100000 ∧ a + b ≤ 2097150 := by omega
theorem adl {a b : Nat} (ha : a ≤ 1100000) (hb : b ≤ 200) : a + b ≤ 2097140 := by omega
theorem adm {a b : Nat} (ha : a ≤ 1100000) (hb : b ≤ 200) : a + b ≤ 2097151 := by omega
theorem add2 {a b : Nat} (ha : a ≤ 200) (hb : b ≤ 200) : a + b ≤ 2097140 := by omega
theorem add3 {a b : Nat} (ha : a ≤ 200) (hb : b ≤ 200) : a + b ≤ 2097151 := by omega
theorem one_le {a : Nat} (h : a = 1) : a ≤ 200 := by omega
theorem le_of200 {a : Nat} (h : a ≤ 200) : a ≤ 2097140 := by omega
theorem le_of11 {a : Nat} (h : a ≤ 1100000) : a ≤ 2097151 := by omega

set_option maxRecDepth 100000 in
set_option maxHeartbeats 2000000 in
theorem replyS_let (t u ky ce : Tm) (op n : Int) (s : ByteArray) (a : Option Addr) (len cap : Nat) (op2 n2 : Int) (s2 : ByteArray) (a2 : Option Addr) (len2 cap2 : Nat) (op5 n5 : Int) (s5 : ByteArray) (a5 : Option Addr) (len5 cap5 : Nat) (op6 n6 : Int) (s6 : ByteArray) (a6 : Option Addr) (len6 cap6 : Nat) (w : World) (hl : Lies w 0 t (tmCells op n s a len cap)) (hl2 : Lies w 0 u (tmCells op2 n2 s2 a2 len2 cap2)) (hl5 : Lies w 0 ky (tmCells op5 n5 s5 a5 len5 cap5)) (hl6 : Lies w 0 ce (tmCells op6 n6 s6 a6 len6 cap6)) (hsz : t.size + u.size + ky.size + ce.size ≤ 1100000) (hag : agreeB t u = true) (PT BT GT QT SH KT ET DT XT TT : Tm) (OB : Bool) (e1 : madeT 4 [t] = PT) (e2 : bothT u PT = BT) (e3 : madeT 8 [ky, BT] = GT) (e4 : madeT 3 [ce, GT] = QT) (e5 : agreeT t u = SH) (e6 : keyT SH 0 = KT) (e7 : sealT KT 0 QT = ET) (e8 : madeT 3 [PT, ET] = DT) (e9 : madeT 3 [TT, DT] = XT) (z1 : PT.size ≤ 200) (z2 : BT.size ≤ 200) (z3 : GT.size ≤ 200) (z4 : QT.size ≤ 200) (z5 : KT.size ≤ 200) (z6 : ET.size ≤ 200) (z7 : DT.size ≤ 200) (z8 : SH.size ≤ 200) (z9 : TT.size ≤ 200) (htl : ∀ v : World, Lies v 0 TT (tmCells 2 0 (⟨#[114, 101, 112, 108, 121]⟩ : ByteArray) none 0 0)) (hpo : ∀ (w : World) (L : Nat) (op n : Int) (s : ByteArray) (a : Option Addr) (len cap : Nat), Lies w L XT (tmCells op n s a len cap) → (op == 3) = OB) :
    Calls Tryz.prog 17 #[.agg #[.int .i64 op, .int .i64 n, .string s, .slice a len cap], .agg #[.int .i64 op2, .int .i64 n2, .string s2, .slice a2 len2 cap2], .agg #[.int .i64 op5, .int .i64 n5, .string s5, .slice a5 len5 cap5], .agg #[.int .i64 op6, .int .i64 n6, .string s6, .slice a6 len6 cap6]] w fun e w' => ∃ op' n' s' a' len' cap', e = .returned (.tuple #[.agg #[.int .i64 op', .int .i64 n', .string s', .slice a' len' cap'], .bool OB]) ∧ Lies w' w.heap.size XT (tmCells op' n' s' a' len' cap') ∧ Below w.heap.size w w' := by
  have hm0 : (-9223372036854775808 : Int) ≤ 0 := by decide
  have hm1 : (0 : Int) ≤ 9223372036854775807 := by decide
  obtain ⟨s0, s1, s2', s3', s4'⟩ := szs hsz
  refine replyS_core t u ky ce PT KT BT GT QT ET DT XT SH TT OB op n s a len cap op2 n2 s2 a2 len2 cap2 op5 n5 s5 a5 len5 cap5 op6 n6 s6 a6 len6 cap6 w hl hl2 hl5 hl6 (fun V h h2 => ?_) hpo htl (fun op n s a len cap V h => ?_) (fun op n s a len cap V h => ?_) (fun op n s a len cap op2 n2 s2 a2 len2 cap2 V h h2 => ?_) (fun op n s a len cap op2 n2 s2 a2 len2 cap2 V h h2 => ?_) (fun op n s a len cap op2 n2 s2 a2 len2 cap2 V h h2 => ?_) (fun op n s a len cap op2 n2 s2 a2 len2 cap2 V h h2 => ?_) (fun op n s a len cap op2 n2 s2 a2 len2 cap2 V h h2 => ?_) (fun op n s a len cap op2 n2 s2 a2 len2 cap2 V h h2 => ?_)
  · have := agree_calls t u op n s a len cap op2 n2 s2 a2 len2 cap2 V h h2 s4'
    rw [hag, e5] at this
    exact this
  · have := pubS t op n s a len cap V h (le_of11 s0)
    rw [e1] at this
    exact this
  · have := keyS SH 0 op n s a len cap V h (le_of200 z8) hm0 hm1
    rw [e6] at this
    exact this
  · have := bothS u PT op n s a len cap op2 n2 s2 a2 len2 cap2 V h h2 (adl s1 z1)
    rw [e2] at this
    exact this
  · have := signS ky BT op n s a len cap op2 n2 s2 a2 len2 cap2 V h h2 (adm s2' z2)
    rw [e3] at this
    exact this
  · have := pair12 ce GT op n s a len cap op2 n2 s2 a2 len2 cap2 V h h2 (adm s3' z3)
    rw [e4] at this
    exact this
  · have := sealS KT QT 0 op n s a len cap op2 n2 s2 a2 len2 cap2 V h h2 (add2 z5 z4) hm0 hm1
    rw [e7] at this
    exact this
  · have := pair12 PT ET op n s a len cap op2 n2 s2 a2 len2 cap2 V h h2 (add3 z1 z6)
    rw [e8] at this
    exact this
  · have := pair12 TT DT op n s a len cap op2 n2 s2 a2 len2 cap2 V h h2 (add3 z9 z7)
    rw [e9] at this
    exact this

theorem replyS_yes (t u ky ce : Tm) (op n : Int) (s : ByteArray) (a : Option Addr) (len cap : Nat) (op2 n2 : Int) (s2 : ByteArray) (a2 : Option Addr) (len2 cap2 : Nat) (op5 n5 : Int) (s5 : ByteArray) (a5 : Option Addr) (len5 cap5 : Nat) (op6 n6 : Int) (s6 : ByteArray) (a6 : Option Addr) (len6 cap6 : Nat) (w : World) (hl : Lies w 0 t (tmCells op n s a len cap)) (hl2 : Lies w 0 u (tmCells op2 n2 s2 a2 len2 cap2)) (hl5 : Lies w 0 ky (tmCells op5 n5 s5 a5 len5 cap5)) (hl6 : Lies w 0 ce (tmCells op6 n6 s6 a6 len6 cap6)) (hsz : t.size + u.size + ky.size + ce.size ≤ 1100000) (hag : agreeB t u = true) (R : Tm) (hR : R = replyR t u ky ce (agreeT t u)) :
    Calls Tryz.prog 17 #[.agg #[.int .i64 op, .int .i64 n, .string s, .slice a len cap], .agg #[.int .i64 op2, .int .i64 n2, .string s2, .slice a2 len2 cap2], .agg #[.int .i64 op5, .int .i64 n5, .string s5, .slice a5 len5 cap5], .agg #[.int .i64 op6, .int .i64 n6, .string s6, .slice a6 len6 cap6]] w fun e w' => ∃ op' n' s' a' len' cap', e = .returned (.tuple #[.agg #[.int .i64 op', .int .i64 n', .string s', .slice a' len' cap'], .bool (okT R)]) ∧ Lies w' w.heap.size (pickT (okT R) R) (tmCells op' n' s' a' len' cap') ∧ Below w.heap.size w w' := by
  have hop : R.opOf' = 3 := by rw [hR]; rfl
  have hmk := reply_made t u ky ce (agreeT t u)
  rw [← hR] at hmk
  exact replyS_let t u ky ce op n s a len cap op2 n2 s2 a2 len2 cap2 op5 n5 s5 a5 len5 cap5 op6 n6 s6 a6 len6 cap6 w hl hl2 hl5 hl6 hsz hag _ _ _ _ _ _ _ _ _ (textT replyW) (okT R) rfl rfl rfl rfl rfl rfl rfl rfl hmk (made200 _ _) (made200 _ _) (made200 _ _) (made200 _ _) (made200 _ _) (seal_200 _ _ _) (made200 _ _) (agree200 _ _) (one_le (textT_size replyW)) (fun v => text_lies replyW (by decide) v) (fun _ _ _ _ _ _ _ _ h => pick_op h hop)

theorem replyS (t u ky ce : Tm) (op n : Int) (s : ByteArray) (a : Option Addr) (len cap : Nat) (op2 n2 : Int) (s2 : ByteArray) (a2 : Option Addr) (len2 cap2 : Nat) (op5 n5 : Int) (s5 : ByteArray) (a5 : Option Addr) (len5 cap5 : Nat) (op6 n6 : Int) (s6 : ByteArray) (a6 : Option Addr) (len6 cap6 : Nat) (w : World) (hl : Lies w 0 t (tmCells op n s a len cap)) (hl2 : Lies w 0 u (tmCells op2 n2 s2 a2 len2 cap2)) (hl5 : Lies w 0 ky (tmCells op5 n5 s5 a5 len5 cap5)) (hl6 : Lies w 0 ce (tmCells op6 n6 s6 a6 len6 cap6)) (hsz : t.size + u.size + ky.size + ce.size ≤ 1100000) :
    Calls Tryz.prog 17 #[.agg #[.int .i64 op, .int .i64 n, .string s, .slice a len cap], .agg #[.int .i64 op2, .int .i64 n2, .string s2, .slice a2 len2 cap2], .agg #[.int .i64 op5, .int .i64 n5, .string s5, .slice a5 len5 cap5], .agg #[.int .i64 op6, .int .i64 n6, .string s6, .slice a6 len6 cap6]] w fun e w' => ∃ op' n' s' a' len' cap', e = .returned (.tuple #[.agg #[.int .i64 op', .int .i64 n', .string s', .slice a' len' cap'], .bool (replyB t u ky ce)]) ∧ Lies w' w.heap.size (replyT t u ky ce) (tmCells op' n' s' a' len' cap') ∧ Below w.heap.size w w' := by
  cases h : agreeB t u with
  | true =>
    have e1 : replyB t u ky ce = okT (replyR t u ky ce (agreeT t u)) := by unfold replyB; rw [h, Bool.true_and]
    have e2 : replyT t u ky ce = pickT (okT (replyR t u ky ce (agreeT t u))) (replyR t u ky ce (agreeT t u)) := by unfold replyT; rw [e1]
    rw [e1, e2]
    exact replyS_yes t u ky ce op n s a len cap op2 n2 s2 a2 len2 cap2 op5 n5 s5 a5 len5 cap5 op6 n6 s6 a6 len6 cap6 w hl hl2 hl5 hl6 hsz h _ rfl
  | false =>
    refine (replyS_no t u ky ce op n s a len cap op2 n2 s2 a2 len2 cap2 op5 n5 s5 a5 len5 cap5 op6 n6 s6 a6 len6 cap6 w hl hl2 hl5 hl6 hsz h).mono ?_
    rintro e w' ⟨he, hb⟩
    have e1 : replyB t u ky ce = false := by unfold replyB; rw [h, Bool.false_and]
    have e2 : replyT t u ky ce = .node 0 0 ByteArray.empty [] := by unfold replyT; rw [e1]; rfl
    rw [e1, e2]
    exact ⟨_, _, _, _, _, _, he, zero_lies _ _, hb⟩


end Go.Proofs.YtmklgikbajhcpaaGreatDoor
