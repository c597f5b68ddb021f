/- The walk of spec.l6Number: the number that a text is in digits, from 0 to 100000; -1 where it is none; nothing that was there is written. The walk of spec.CertOf: the certificate of which a term is what it comes to, and true; else zero and false; nothing that was there is written. The walk of spec.CertOf where what is signed are pairs: the certificate that was read, or zero and false. spec.CertOf at whatever term: the certificate of which it is what that comes to, and true; else zero and false; nothing that was there is written. The walk of laws.FnExactCertOf, given what both sides answer: it answers true; nothing that was there is written. The walks of impl.goodPub, impl.CertGood and spec.CertGood: the open half of a certificate that is good for that host at that time, and true; else zero and false; nothing that was there is written. The walk of spec.CertGood: the open half of a certificate that is good for that host at that time, and true; else zero and false; nothing that was there is written. The walk of laws.FnExactCertGood, given what both sides answer, and at whatever term, text and number: it answers true; nothing that was there is written. CertGood of both sides, by what the term is: contracts for Proved. Proved of both sides: what the two answer at the same arguments is one and the same; nothing that was there is written. -/
import Derived.Test.YtmklgikbajhcpaaGreatDoorSx
import Derived.Test.YtmklgikbajhcpaaGreatDoorCv
import Derived.Deep.RegionHeld3
import Derived.Deep.RegionWith
import Derived.Test.YtmklgikbajhcpaaGreatDoorPv
namespace Go.Proofs.YtmklgikbajhcpaaGreatDoor
open Go.RowKit Go.Deep

theorem decFrom_digit : ∀ (l : List UInt8) (acc m k : Nat) (b : UInt8), Lib.decFrom acc l = some m → l[k]? = some b → ∃ d, Lib.digitVal b = some d
  | [], _, _, k, _, _, hk => by simp at hk
  | c :: r, acc, m, k, b, h, hk => by
    simp only [Lib.decFrom] at h
    cases hc : Lib.digitVal c with
    | none => rw [hc] at h; cases h
    | some x =>
      rw [hc] at h
      cases k with
      | zero =>
        simp at hk
        subst hk
        exact ⟨x, hc⟩
      | succ k => exact decFrom_digit r _ m k b h (by simpa using hk)
theorem isNum_dec {s : ByteArray} {u : Int} (h : isNum s u) : Lib.decFrom 0 s.data.toList = some u.toNat := by
  rw [isNum_list h]
  exact decFrom_digits _
theorem isNum_six {s : ByteArray} {u : Int} (h : isNum s u) : 1 ≤ s.size ∧ s.size ≤ 6 := by
  have e := isNum_list h
  have hl : ∀ (k u : Nat), u < 10 ^ k → 1 ≤ k → (Lib.decDigits u).length ≤ k := by
    intro k
    induction k with
    | zero => intro u _ h; omega
    | succ k ih =>
      intro u hu _
      by_cases h : u < 10
      · rw [Lib.decDigits_one h]; simp
      · rw [Lib.decDigits, dif_neg h]
        have hk : 1 ≤ k := by
          rcases Nat.eq_zero_or_pos k with rfl | hp
          · simp at hu; omega
          · exact hp
        have := ih (u / 10) (by rw [Nat.pow_succ] at hu; omega) hk
        simp
        omega
  have h0 := h.1
  have h1 := h.2.1
  have h2 := hl 6 u.toNat (by omega) (by omega)
  have h3 : (Lib.decDigits u.toNat).length ≠ 0 := fun e => digits_ne _ (List.length_eq_zero_iff.1 e)
  have h4 : s.data.toList.length = s.size := by show s.data.toList.length = s.data.size; exact Array.length_toList
  rw [← e, h4] at h2 h3
  omega
theorem list_at {s : ByteArray} {k : Nat} (h : k < s.size) : s.data.toList[k]? = some (s[k]'h) := by
  have hk : k < s.data.toList.length := by simpa using h
  rw [List.getElem?_eq_getElem hk]
  simp [ByteArray.getElem_eq_getElem_data]
theorem digit_of {b : UInt8} {n : Nat} (h : b.toNat = n) (h0 : 48 ≤ n) (h1 : n ≤ 57) : Lib.digitVal b = some (n - 48) := by
  unfold Lib.digitVal
  rw [h, if_pos ⟨h0, h1⟩]
theorem no_digit {b : UInt8} {n : Nat} (h : b.toNat = n) (h0 : n < 48 ∨ 57 < n) : ¬ ∃ d, Lib.digitVal b = some d := by
  rintro ⟨d, hd⟩
  unfold Lib.digitVal at hd
  rw [h, if_neg (by omega)] at hd
  cases hd

set_option maxRecDepth 100000 in
set_option maxHeartbeats 2000000 in
theorem num21 (s : ByteArray) (w : World) (hs : s.size ≤ 2097152) :
    Calls Tryz.prog 107 #[.string s] w fun e w' => ∃ v, e = .returned (.int .i64 v) ∧ Below w.heap.size w w' ∧ (isNum s v ∨ (v = -1 ∧ ¬ ∃ u, isNum s u)) := by
  by_cases hz : 1 ≤ s.size ∧ s.size ≤ 6
  · have c1 : ¬ (s.size : Int) < 1 := by omega
    have c2 : ¬ (6 : Int) < (s.size : Int) := by omega
    have h36 := hide (fun (m : Nat) v (h : m < 1000000) => digits_any (m : Int) v (by omega) (by omega))
    go_enter Tryz.func107, Tryz.ntmps107
    go_wp2_with fail
    go_loopw [3, 4] (fun n i wr => ∃ k m : Nat, i = .int .i64 k ∧ n = .int .i64 m ∧ wr = w ∧ k ≤ s.size ∧ m < 10 ^ k ∧ Lib.decFrom 0 (s.data.toList.take k) = some m) (fun _ i _ => s.size - (intOf i).toNat)
    case atStart => exact ⟨0, 0, rfl, rfl, rfl, by omega, by simp, rfl⟩
    case round =>
      obtain ⟨k, m, rfl, rfl, rfl, hk, hm, hd⟩ := hrel
      by_cases hp : k < s.size
      · have hb := byteAt_lt hp
        have c3 : (k : Int) < (s.size : Int) := by omega
        have w0 : wrap64 ((k : Int) + 1) = ((k + 1 : Nat) : Int) := by unfold wrap64; omega
        have hm6 : m < 1000000 := Nat.lt_of_lt_of_le hm (Nat.le_trans (Nat.pow_le_pow_right (by omega) (show k ≤ 6 by omega)) (by omega))
        have hb256 := byteAt_le s k
        have hat := list_at hp
        by_cases hlo : byteAt s k < 48
        · have HNO : Hid (¬ ∃ u, isNum s u) := fun ⟨u, hu⟩ => no_digit hb (Or.inl hlo) (decFrom_digit _ _ _ k _ (isNum_dec hu) hat)
          have c4 : ((byteAt s k : Nat) : Int) < 48 := by omega
          clear hat hd
          generalize byteAt s k = b at *
          go_wp2_with fail
          go_ret
          exact ⟨-1, rfl, Below.refl _ _, Or.inr ⟨rfl, by first | exact unhide HNO | exact fun u hu => unhide HNO ⟨u, hu⟩⟩⟩
        · by_cases hhi : 57 < byteAt s k
          · have HNO : Hid (¬ ∃ u, isNum s u) := fun ⟨u, hu⟩ => no_digit hb (Or.inr hhi) (decFrom_digit _ _ _ k _ (isNum_dec hu) hat)
            have c4 : ¬ ((byteAt s k : Nat) : Int) < 48 := by omega
            have c5 : (57 : Int) < ((byteAt s k : Nat) : Int) := by omega
            clear hat hd
            generalize byteAt s k = b at *
            go_wp2_with fail
            go_ret
            exact ⟨-1, rfl, Below.refl _ _, Or.inr ⟨rfl, by first | exact unhide HNO | exact fun u hu => unhide HNO ⟨u, hu⟩⟩⟩
          · have c4 : ¬ ((byteAt s k : Nat) : Int) < 48 := by omega
            have c5 : ¬ (57 : Int) < ((byteAt s k : Nat) : Int) := by omega
            have hdig := digit_of hb (by omega) (by omega)
            have hd' : Lib.decFrom 0 (s.data.toList.take (k + 1)) = some (m * 10 + (byteAt s k - 48)) := Lib.decFrom_take _ k 0 m _ _ hd hat hdig
            have hm' : m * 10 + (byteAt s k - 48) < 10 ^ (k + 1) := by rw [Nat.pow_succ]; omega
            have HR : Hid (∃ k' m' : Nat, Value.int .i64 ((k : Int) + 1) = .int .i64 k' ∧ Value.int .i64 (10 * (m : Int) + ((byteAt s k : Nat) : Int) - 48) = .int .i64 m' ∧ True ∧ k' ≤ s.size ∧ m' < 10 ^ k' ∧ Lib.decFrom 0 (s.data.toList.take k') = some m') := ⟨k + 1, _, rfl, by rw [show (10 * (m : Int) + ((byteAt s k : Nat) : Int) - 48) = ((m * 10 + (byteAt s k - 48) : Nat) : Int) by omega], trivial, hp, hm', hd'⟩
            clear hat hd hd' hm' hdig hm
            generalize byteAt s k = b at *
            go_wp2_with fail
            go_roundw
            case rel => exact unhide HR
            case measure => simp only [intOf]; omega
      · have c3 : ¬ (k : Int) < (s.size : Int) := by omega
        have hm6 : m < 1000000 := Nat.lt_of_lt_of_le hm (Nat.le_trans (Nat.pow_le_pow_right (by omega) (show k ≤ 6 by omega)) (by omega))
        have hkk : s.data.toList.take k = s.data.toList := List.take_of_length_le (by have h4 : s.data.toList.length = s.size := (by show s.data.toList.length = s.data.size; exact Array.length_toList); omega)
        rw [hkk] at hd
        have HC := hide (fun v => unhide h36 m v hm6)
        have HONE : Hid (∀ u, isNum s u → u = (m : Int)) := fun u hu => by
          have := isNum_dec hu
          rw [hd] at this
          simp only [Option.some.injEq] at this
          have := hu.1
          omega
        by_cases he : s = ⟨(Lib.itoa (m : Int)).toArray⟩
        · by_cases hmx : m ≤ 100000
          · have HY : Hid (isNum s (m : Int)) := ⟨by omega, by omega, he⟩
            have c6 : ¬ (100000 : Int) < (m : Int) := by omega
            rw [← he] at HC
            clear he hd hm
            go_wp2_with fail
            refine (unhide HC _).mono ?_
            rintro e w2 ⟨rfl, hb2⟩
            go_wp2_with fail
            go_ret
            exact ⟨_, rfl, hb2, Or.inl (unhide HY)⟩
          · have c6 : (100000 : Int) < (m : Int) := by omega
            have HNO : Hid (¬ ∃ u, isNum s u) := fun ⟨u, hu⟩ => by have h1 := unhide HONE u hu; have h2 := hu.2.1; omega
            rw [← he] at HC
            clear he hd hm
            go_wp2_with fail
            refine (unhide HC _).mono ?_
            rintro e w2 ⟨rfl, hb2⟩
            go_wp2_with fail
            go_ret
            exact ⟨-1, rfl, hb2, Or.inr ⟨rfl, by first | exact unhide HNO | exact fun u hu => unhide HNO ⟨u, hu⟩⟩⟩
        · have q3 : ((⟨(Lib.itoa (m : Int)).toArray⟩ : ByteArray).toList == s.toList) = false := by
            rw [beq_eq_false_iff_ne]
            intro e
            exact he (toList_inj e).symm
          have HNO : Hid (¬ ∃ u, isNum s u) := fun ⟨u, hu⟩ => he (by rw [hu.2.2, unhide HONE u hu])
          clear he hd hm
          generalize (⟨(Lib.itoa (m : Int)).toArray⟩ : ByteArray) = ns at *
          go_wp2_with fail
          refine (unhide HC _).mono ?_
          rintro e w2 ⟨rfl, hb2⟩
          go_wp2_with fail
          go_ret
          exact ⟨-1, rfl, hb2, Or.inr ⟨rfl, by first | exact unhide HNO | exact fun u hu => unhide HNO ⟨u, hu⟩⟩⟩
  · have HNO : Hid (¬ ∃ u, isNum s u) := fun ⟨u, hu⟩ => hz (isNum_six hu)
    by_cases h1 : s.size < 1
    · have c1 : (s.size : Int) < 1 := by omega
      go_enter Tryz.func107, Tryz.ntmps107
      go_wp2_with fail
      go_ret
      exact ⟨-1, rfl, Below.refl _ _, Or.inr ⟨rfl, by first | exact unhide HNO | exact fun u hu => unhide HNO ⟨u, hu⟩⟩⟩
    · have c1 : ¬ (s.size : Int) < 1 := by omega
      have c2 : (6 : Int) < (s.size : Int) := by omega
      go_enter Tryz.func107, Tryz.ntmps107
      go_wp2_with fail
      go_ret
      exact ⟨-1, rfl, Below.refl _ _, Or.inr ⟨rfl, by first | exact unhide HNO | exact fun u hu => unhide HNO ⟨u, hu⟩⟩⟩

theorem half_made : madeT 4 [oneT] = halfT := by
  have h : okT (.node 4 0 ByteArray.empty [oneT]) = true := by decide
  unfold madeT
  rw [h]
  rfl
theorem half19 (w : World) : Calls Tryz.prog 61 #[.agg #[.int .i64 1, .int .i64 1, .string ByteArray.empty, .slice none 0 0]] w fun e w' => ∃ op' n' s' a' len' cap', e = .returned (.agg #[.int .i64 op', .int .i64 n', .string s', .slice a' len' cap']) ∧ Lies w' 0 halfT (tmCells op' n' s' a' len' cap') ∧ Below w.heap.size w w' :=
  (pubS oneT 1 1 ByteArray.empty none 0 0 w (lies_leaf w 1 1 _ (by simp [maxLen]) (by decide) (by decide)) (by simp [oneT, Tm.size, Tm.sizes])).mono fun _ _ ⟨o, n, s, a, l, c, h1, h2, h3, _⟩ => ⟨o, n, s, a, l, c, h1, by rw [half_made] at h2; exact h2.any (Nat.zero_le _), h3⟩

/-- The two kids of a term that lies in memory, from a block on. -/
theorem lies_kidsL {w : World} {L : Nat} {op n : Int} {s : ByteArray} {k0 k1 : Tm} {op2 n2 : Int} {s2 : ByteArray} {a2 : Option Addr} {len2 cap2 : Nat} (hl : Lies w L (.node op n s [k0, k1]) (tmCells op2 n2 s2 a2 len2 cap2)) :
    op2 = op ∧ n2 = n ∧ s2 = s ∧ len2 = 2 ∧ ∃ b q op3 n3 s3 a3 len3 cap3 op4 n4 s4 a4 len4 cap4, a2 = some ⟨b, q, none⟩ ∧
      (w.cell? ⟨b, q, none⟩ = some (.int .i64 op3) ∧ w.cell? ⟨b, q + 1, none⟩ = some (.int .i64 n3) ∧ w.cell? ⟨b, q + 2, none⟩ = some (.string s3) ∧ w.cell? ⟨b, q + 3, none⟩ = some (.slice a3 len3 cap3) ∧ Lies w L k0 (tmCells op3 n3 s3 a3 len3 cap3)) ∧
      (w.cell? ⟨b, q + 4, none⟩ = some (.int .i64 op4) ∧ w.cell? ⟨b, q + 5, none⟩ = some (.int .i64 n4) ∧ w.cell? ⟨b, q + 6, none⟩ = some (.string s4) ∧ w.cell? ⟨b, q + 7, none⟩ = some (.slice a4 len4 cap4) ∧ Lies w L k1 (tmCells op4 n4 s4 a4 len4 cap4)) := by
  have hx := hl
  simp only [Lies, tmCells, List.cons.injEq, Value.int.injEq, Value.string.injEq, Value.slice.injEq, true_and, and_true] at hx
  obtain ⟨a9, c9, ⟨rfl, rfl, rfl, rfl, rfl, rfl⟩, _, _, hka⟩ := hx
  obtain ⟨b, q, op3, n3, s3, a3, len3, cap3, rfl, _, _, r0, r1, r2, r3, hk0⟩ := hka.elem (k := 0) (by simp)
  obtain ⟨b', q', op4, n4, s4, a4, len4, cap4, hab, _, _, r4, r5, r6, r7, hk1⟩ := hka.elem (k := 1) (by simp)
  simp only [Option.some.injEq, Addr.mk.injEq, and_true] at hab
  obtain ⟨rfl, rfl⟩ := hab
  simp only [Nat.zero_mul, Nat.add_zero, Nat.one_mul] at r0 r1 r2 r3 r4 r5 r6 r7
  exact ⟨rfl, rfl, rfl, by simp, b, q, op3, n3, s3, a3, len3, cap3, op4, n4, s4, a4, len4, cap4, rfl, ⟨r0, r1, r2, r3, hk0⟩, ⟨r4, r5, r6, r7, hk1⟩⟩

/-- The box of what lies behind the signature, and what lies there. -/
def SigCut (K : Nat → World → Option Addr → Nat → Prop) (B : Bool) (W0 : World) (p e : Value) (wx : World) (op4 n4 : Int) (s4 : ByteArray) (len4 : Nat) : Prop := ∃ L a' cap', e = .bool B ∧ K L wx a' cap' ∧ BodyCut W0 p wx op4 n4 s4 a' len4 cap'
theorem SigCut.mk {K : Nat → World → Option Addr → Nat → Prop} {B : Bool} {W0 : World} {p : Value} {wx : World} {op4 n4 : Int} {s4 : ByteArray} {len4 L : Nat} {a' : Option Addr} {cap' : Nat} (hk : K L wx a' cap') (hb : BodyCut W0 p wx op4 n4 s4 a' len4 cap') : SigCut K B W0 p (.bool B) wx op4 n4 s4 len4 := ⟨L, a', cap', rfl, hk, hb⟩

set_option maxRecDepth 100000 in
set_option maxHeartbeats 8000000 in
theorem ofS_no1 (K : Nat → World → Option Addr → Nat → Prop) (op2 n2 : Int) (s2 : ByteArray) (a2 : Option Addr) (len2 cap2 : Nat) (op4 n4 : Int) (s4 : ByteArray) (len4 : Nat) (w : World) 
    (h18' : ∀ op n s a len cap v, Below w.heap.size w v → w.heap.size + 2 ≤ v.heap.size → Lies v 0 halfT (tmCells op n s a len cap) → Calls Tryz.prog 59 #[.agg #[.int .i64 op, .int .i64 n, .string s, .slice a len cap], .agg #[.int .i64 op2, .int .i64 n2, .string s2, .slice a2 len2 cap2]] v fun e w' => ∃ a' cap', e = .returned (.tuple #[.agg #[.int .i64 op4, .int .i64 n4, .string s4, .slice a' len4 cap'], .bool false]) ∧ K v.heap.size w' a' cap' ∧ Below v.heap.size v w')
    (hKa' : ∀ L v o a' cap', K L v a' cap' → K L (v.alloc o) a' cap') (hKs' : ∀ L v g x0 x1 x2 x3 a' cap', K L v a' cap' → g < L → K L ((((v.setCell ⟨g, 0, none⟩ x0).setCell ⟨g, 1, none⟩ x1).setCell ⟨g, 2, none⟩ x2).setCell ⟨g, 3, none⟩ x3) a' cap') :
    Calls Tryz.prog 48 #[.agg #[.int .i64 op2, .int .i64 n2, .string s2, .slice a2 len2 cap2]] w fun e w' => e = .returned (.tuple #[zeroC, .bool false]) ∧ Below w.heap.size w w' := by
  have h18 := hide h18'
  have hKa := hide hKa'
  have hKs := hide hKs'
  clear h18' hKa' hKs'
  have hB0 : Below w.heap.size w ((w.alloc (.cells #[.int .i64 op2, .int .i64 n2, .string s2, .slice a2 len2 cap2] 29)).alloc (.cells #[.string ⟨#[]⟩, .int .i64 0, .int .i64 0, .string ⟨#[]⟩, .slice none 0 0, .int .i64 0] 57)) := bt (ab _) (ab _) (Nat.le_refl _)
  have HR : Hid (RowT 29 ((w.alloc (.cells #[.int .i64 op2, .int .i64 n2, .string s2, .slice a2 len2 cap2] 29)).alloc (.cells #[.string ⟨#[]⟩, .int .i64 0, .int .i64 0, .string ⟨#[]⟩, .slice none 0 0, .int .i64 0] 57)) w.heap.size op2 n2 s2 a2 len2 cap2) := (RowT.new 29 w op2 n2 s2 a2 len2 cap2).below (ab _)
  have HX : Hid (RowC 57 ((w.alloc (.cells #[.int .i64 op2, .int .i64 n2, .string s2, .slice a2 len2 cap2] 29)).alloc (.cells #[.string ⟨#[]⟩, .int .i64 0, .int .i64 0, .string ⟨#[]⟩, .slice none 0 0, .int .i64 0] 57)) (w.heap.size + 1) ⟨#[]⟩ 0 0 ⟨#[]⟩ none 0 0 0) := by
    have := RowC.new 57 (w.alloc (.cells #[.int .i64 op2, .int .i64 n2, .string s2, .slice a2 len2 cap2] 29)) ⟨#[]⟩ 0 0 ⟨#[]⟩ none 0 0 0
    rwa [heap_size_alloc] at this
  have HS0 : Hid (((w.alloc (.cells #[.int .i64 op2, .int .i64 n2, .string s2, .slice a2 len2 cap2] 29)).alloc (.cells #[.string ⟨#[]⟩, .int .i64 0, .int .i64 0, .string ⟨#[]⟩, .slice none 0 0, .int .i64 0] 57)).heap.size = w.heap.size + 2) := by show _ = _; simp
  have HB0 := hide hB0
  have h20 := hide atom1S
  have h19 := hide half19
  clear hB0
  go_enter Tryz.func48, Tryz.ntmps48
  go_wp2_with fail
  generalize hgw : (w.alloc (.cells #[.int .i64 op2, .int .i64 n2, .string s2, .slice a2 len2 cap2] 29)).alloc (.cells #[.string ⟨#[]⟩, .int .i64 0, .int .i64 0, .string ⟨#[]⟩, .slice none 0 0, .int .i64 0] 57) = W0 at *
  clear hgw
  obtain ⟨c0, c1, c2, c3⟩ := (unhide HR).facts
  have l0 := lt_of_cell c0
  have n0 := Nat.ne_of_lt l0
  have m0 := Ne.symm n0
  go_cut [4, 5] (fun p e wx => SigCut K false W0 p e wx op4 n4 s4 len4)
  case first =>
    go_region_held3 (fun y => y.cell? ⟨w.heap.size, 0, none⟩ = some (.int .i64 op2) ∧ y.cell? ⟨w.heap.size, 1, none⟩ = some (.int .i64 n2) ∧ y.cell? ⟨w.heap.size, 2, none⟩ = some (.string s2) ∧ y.cell? ⟨w.heap.size, 3, none⟩ = some (.slice a2 len2 cap2)) (go_keep)
      (first
        | (go_at_call 67
           refine (unhide h20 _).mono ?_
           rintro e w2 ⟨rfl, hb2⟩
           try have zz2 := hide ((ZBox.new W0).drew.below hb2)
           have hb02 : Hid (Below W0.heap.size W0 w2) := by
             first
               | exact below_drew' hb2
               | exact bt (ab _) (below_drew' hb2) (Nat.le_refl _)
           have f0 := kpc (unhide hb02) c0
           have f1 := kpc (unhide hb02) c1
           have f2 := kpc (unhide hb02) c2
           have f3 := kpc (unhide hb02) c3
           have l2 := lt_of_cell f0
           have n2' := Nat.ne_of_lt l2
           have m2 := Ne.symm n2'
           clear hb2)
        | (go_at_call 61
           refine (unhide h19 _).mono ?_
           rintro e w3 ⟨oH, nH, sH, aH, lH, cH, rfl, hLH, hb3⟩
           first
             | (have zz3 := hide ((unhide zz2).below hb3)
                have hb03 : Hid (Below W0.heap.size W0 w3) := bt (unhide hb02) hb3 (Nat.le_refl _)
                have hg3 : Hid (W0.heap.size ≤ W0.heap.size) := Nat.le_refl _)
             | (have zz3 := hide ((ZBox.new w2).below hb3)
                have hb03 : Hid (Below W0.heap.size W0 w3) := bt (bt (unhide hb02) (ab _) (Nat.le_refl _)) hb3 (Nat.le_refl _)
                have hg3 : Hid (W0.heap.size ≤ w2.heap.size) := (unhide hb02).size)
             | have hb03 : Hid (Below W0.heap.size W0 w3) := bt (unhide hb02) hb3 (Nat.le_refl _)
           have HLH := hide hLH
           have i0 := kpc (unhide hb03) c0
           have i1 := kpc (unhide hb03) c1
           have i2 := kpc (unhide hb03) c2
           have i3 := kpc (unhide hb03) c3
           have l3 := lt_of_cell i0
           have n3' := Nat.ne_of_lt l3
           have m3 := Ne.symm n3'
           clear hb3 hLH)
        | (go_at_call 59
           refine (unhide h18 _ _ _ _ _ _ _ ?_ ?_ ?_).mono ?_
           first
             | exact bt (unhide HB0) (unhide hb03) (Nat.le_refl _)
             | exact bt (bt (unhide HB0) (unhide hb03) (Nat.le_refl _)) (ab _) (Nat.le_refl _)
           first
             | exact Nat.le_trans (Nat.le_of_eq (unhide HS0).symm) (unhide hb03).size
             | exact Nat.le_trans (Nat.le_trans (Nat.le_of_eq (unhide HS0).symm) (unhide hb03).size) (ab _).size
           first
             | exact unhide HLH
             | exact (unhide HLH).below (ab _)
           rintro e w4 ⟨a', cap', rfl, hK, hb4⟩
           first
             | (have zz4 := hide ((unhide zz3).below hb4)
                have hb04 : Hid (Below W0.heap.size W0 w4) := bt (unhide hb03) hb4 (Nat.le_refl _)
                have hg4 := hg3
                have hl4 := hide (lt_of_heap (unhide zz3)))
             | (have zz4 := hide ((ZBox.new w3).below hb4)
                have hb04 : Hid (Below W0.heap.size W0 w4) := bt (bt (unhide hb03) (ab _) (Nat.le_refl _)) hb4 (Nat.le_refl _)
                have hg4 : Hid (W0.heap.size ≤ w3.heap.size) := (unhide hb03).size
                have hl4 : Hid (w3.heap.size < (w3.alloc (.cells #[.int .i64 0, .int .i64 0, .string ⟨#[]⟩, .slice none 0 0] 29)).heap.size) := lt_of_heap (ZBox.new w3))
             | have hb04 : Hid (Below W0.heap.size W0 w4) := bt (unhide hb03) hb4 (Nat.le_refl _)
           have HK := hide hK
           have j0 := kpc (unhide hb04) c0
           have j1 := kpc (unhide hb04) c1
           have j2 := kpc (unhide hb04) c2
           have j3 := kpc (unhide hb04) c3
           try obtain ⟨p0, p1, p2, p3, q0, q1, q2, q3⟩ := (unhide zz4).facts
           try have nz := Nat.ne_of_lt (lt_of_heap (unhide zz4))
           try have mz := Ne.symm nz
           try have nz' := eq_false nz
           try have mz' := eq_false mz
           try have lz := lt_of_heap (unhide zz4)
           have l4 := lt_of_cell j0
           have n4' := Nat.ne_of_lt l4
           have m4 := Ne.symm n4'
           clear hb4 hK))
    all_goals
      go_wp2_with fail
      go_meet
      first
        | with_reducible exact SigCut.mk (unhide hKa _ _ _ _ _ (unhide HK)) (BodyCut.late (unhide hb04))
        | with_reducible exact SigCut.mk (unhide hKs _ _ _ _ _ _ _ _ _ (unhide HK) (unhide hl4)) (BodyCut.early (unhide hb04) (unhide zz4) (unhide hg4) rfl)
  case rest =>
    obtain ⟨L7, a', cap', rfl, hK, g7, rfl, hR7, hb7⟩ := hcut
    have HB7 := hide (bt (unhide HB0) hb7 (Nat.le_refl _))
    have HX7 := hide ((unhide HX).below hb7)
    have HR7 := hide ((unhide HR).below hb7)
    have HRR := hide hR7
    have HK7 := hide hK
    clear c0 c1 c2 c3 l0 n0 m0 hb7 hR7 hK
    obtain ⟨d0, d1, d2, d3⟩ := (unhide HRR).facts
    obtain ⟨p0, p1, p2, p3, p4, p5⟩ := (unhide HX7).facts
    obtain ⟨q0, q1, q2, q3, q4, q5⟩ := (unhide HX7).frozen
    go_wp2_with fail
    exact bodyPost_ret (v := .tuple #[.agg #[.string ByteArray.empty, .int .i64 0, .int .i64 0, .string ByteArray.empty, .slice none 0 0, .int .i64 0], .bool false]) (by simp [results, Tryz.results48, go_sem, p0, p1, p2, p3, p4, p5]; try rfl) rfl ⟨rfl, set6_below (unhide HB7) (by omega)⟩

set_option maxRecDepth 100000 in
set_option maxHeartbeats 8000000 in
theorem ofS_no2 (K : Nat → World → Option Addr → Nat → Prop) (op2 n2 : Int) (s2 : ByteArray) (a2 : Option Addr) (len2 cap2 : Nat) (op4 n4 : Int) (s4 : ByteArray) (len4 : Nat) (w : World) (h3 : op4 ≠ 3)
    (h18' : ∀ op n s a len cap v, Below w.heap.size w v → w.heap.size + 2 ≤ v.heap.size → Lies v 0 halfT (tmCells op n s a len cap) → Calls Tryz.prog 59 #[.agg #[.int .i64 op, .int .i64 n, .string s, .slice a len cap], .agg #[.int .i64 op2, .int .i64 n2, .string s2, .slice a2 len2 cap2]] v fun e w' => ∃ a' cap', e = .returned (.tuple #[.agg #[.int .i64 op4, .int .i64 n4, .string s4, .slice a' len4 cap'], .bool true]) ∧ K v.heap.size w' a' cap' ∧ Below v.heap.size v w')
    (hKa' : ∀ L v o a' cap', K L v a' cap' → K L (v.alloc o) a' cap') (hKs' : ∀ L v g x0 x1 x2 x3 a' cap', K L v a' cap' → g < L → K L ((((v.setCell ⟨g, 0, none⟩ x0).setCell ⟨g, 1, none⟩ x1).setCell ⟨g, 2, none⟩ x2).setCell ⟨g, 3, none⟩ x3) a' cap') :
    Calls Tryz.prog 48 #[.agg #[.int .i64 op2, .int .i64 n2, .string s2, .slice a2 len2 cap2]] w fun e w' => e = .returned (.tuple #[zeroC, .bool false]) ∧ Below w.heap.size w w' := by
  have h18 := hide h18'
  have hKa := hide hKa'
  have hKs := hide hKs'
  clear h18' hKa' hKs'
  have q9 : (op4 != 3) = true := by simpa using h3
  clear h3
  have hB0 : Below w.heap.size w ((w.alloc (.cells #[.int .i64 op2, .int .i64 n2, .string s2, .slice a2 len2 cap2] 29)).alloc (.cells #[.string ⟨#[]⟩, .int .i64 0, .int .i64 0, .string ⟨#[]⟩, .slice none 0 0, .int .i64 0] 57)) := bt (ab _) (ab _) (Nat.le_refl _)
  have HR : Hid (RowT 29 ((w.alloc (.cells #[.int .i64 op2, .int .i64 n2, .string s2, .slice a2 len2 cap2] 29)).alloc (.cells #[.string ⟨#[]⟩, .int .i64 0, .int .i64 0, .string ⟨#[]⟩, .slice none 0 0, .int .i64 0] 57)) w.heap.size op2 n2 s2 a2 len2 cap2) := (RowT.new 29 w op2 n2 s2 a2 len2 cap2).below (ab _)
  have HX : Hid (RowC 57 ((w.alloc (.cells #[.int .i64 op2, .int .i64 n2, .string s2, .slice a2 len2 cap2] 29)).alloc (.cells #[.string ⟨#[]⟩, .int .i64 0, .int .i64 0, .string ⟨#[]⟩, .slice none 0 0, .int .i64 0] 57)) (w.heap.size + 1) ⟨#[]⟩ 0 0 ⟨#[]⟩ none 0 0 0) := by
    have := RowC.new 57 (w.alloc (.cells #[.int .i64 op2, .int .i64 n2, .string s2, .slice a2 len2 cap2] 29)) ⟨#[]⟩ 0 0 ⟨#[]⟩ none 0 0 0
    rwa [heap_size_alloc] at this
  have HS0 : Hid (((w.alloc (.cells #[.int .i64 op2, .int .i64 n2, .string s2, .slice a2 len2 cap2] 29)).alloc (.cells #[.string ⟨#[]⟩, .int .i64 0, .int .i64 0, .string ⟨#[]⟩, .slice none 0 0, .int .i64 0] 57)).heap.size = w.heap.size + 2) := by show _ = _; simp
  have HB0 := hide hB0
  have h20 := hide atom1S
  have h19 := hide half19
  clear hB0
  go_enter Tryz.func48, Tryz.ntmps48
  go_wp2_with fail
  generalize hgw : (w.alloc (.cells #[.int .i64 op2, .int .i64 n2, .string s2, .slice a2 len2 cap2] 29)).alloc (.cells #[.string ⟨#[]⟩, .int .i64 0, .int .i64 0, .string ⟨#[]⟩, .slice none 0 0, .int .i64 0] 57) = W0 at *
  clear hgw
  obtain ⟨c0, c1, c2, c3⟩ := (unhide HR).facts
  have l0 := lt_of_cell c0
  have n0 := Nat.ne_of_lt l0
  have m0 := Ne.symm n0
  go_cut [4, 5] (fun p e wx => SigCut K true W0 p e wx op4 n4 s4 len4)
  case first =>
    go_region_held3 (fun y => y.cell? ⟨w.heap.size, 0, none⟩ = some (.int .i64 op2) ∧ y.cell? ⟨w.heap.size, 1, none⟩ = some (.int .i64 n2) ∧ y.cell? ⟨w.heap.size, 2, none⟩ = some (.string s2) ∧ y.cell? ⟨w.heap.size, 3, none⟩ = some (.slice a2 len2 cap2)) (go_keep)
      (first
        | (go_at_call 67
           refine (unhide h20 _).mono ?_
           rintro e w2 ⟨rfl, hb2⟩
           try have zz2 := hide ((ZBox.new W0).drew.below hb2)
           have hb02 : Hid (Below W0.heap.size W0 w2) := by
             first
               | exact below_drew' hb2
               | exact bt (ab _) (below_drew' hb2) (Nat.le_refl _)
           have f0 := kpc (unhide hb02) c0
           have f1 := kpc (unhide hb02) c1
           have f2 := kpc (unhide hb02) c2
           have f3 := kpc (unhide hb02) c3
           have l2 := lt_of_cell f0
           have n2' := Nat.ne_of_lt l2
           have m2 := Ne.symm n2'
           clear hb2)
        | (go_at_call 61
           refine (unhide h19 _).mono ?_
           rintro e w3 ⟨oH, nH, sH, aH, lH, cH, rfl, hLH, hb3⟩
           first
             | (have zz3 := hide ((unhide zz2).below hb3)
                have hb03 : Hid (Below W0.heap.size W0 w3) := bt (unhide hb02) hb3 (Nat.le_refl _)
                have hg3 : Hid (W0.heap.size ≤ W0.heap.size) := Nat.le_refl _)
             | (have zz3 := hide ((ZBox.new w2).below hb3)
                have hb03 : Hid (Below W0.heap.size W0 w3) := bt (bt (unhide hb02) (ab _) (Nat.le_refl _)) hb3 (Nat.le_refl _)
                have hg3 : Hid (W0.heap.size ≤ w2.heap.size) := (unhide hb02).size)
             | have hb03 : Hid (Below W0.heap.size W0 w3) := bt (unhide hb02) hb3 (Nat.le_refl _)
           have HLH := hide hLH
           have i0 := kpc (unhide hb03) c0
           have i1 := kpc (unhide hb03) c1
           have i2 := kpc (unhide hb03) c2
           have i3 := kpc (unhide hb03) c3
           have l3 := lt_of_cell i0
           have n3' := Nat.ne_of_lt l3
           have m3 := Ne.symm n3'
           clear hb3 hLH)
        | (go_at_call 59
           refine (unhide h18 _ _ _ _ _ _ _ ?_ ?_ ?_).mono ?_
           first
             | exact bt (unhide HB0) (unhide hb03) (Nat.le_refl _)
             | exact bt (bt (unhide HB0) (unhide hb03) (Nat.le_refl _)) (ab _) (Nat.le_refl _)
           first
             | exact Nat.le_trans (Nat.le_of_eq (unhide HS0).symm) (unhide hb03).size
             | exact Nat.le_trans (Nat.le_trans (Nat.le_of_eq (unhide HS0).symm) (unhide hb03).size) (ab _).size
           first
             | exact unhide HLH
             | exact (unhide HLH).below (ab _)
           rintro e w4 ⟨a', cap', rfl, hK, hb4⟩
           first
             | (have zz4 := hide ((unhide zz3).below hb4)
                have hb04 : Hid (Below W0.heap.size W0 w4) := bt (unhide hb03) hb4 (Nat.le_refl _)
                have hg4 := hg3
                have hl4 := hide (lt_of_heap (unhide zz3)))
             | (have zz4 := hide ((ZBox.new w3).below hb4)
                have hb04 : Hid (Below W0.heap.size W0 w4) := bt (bt (unhide hb03) (ab _) (Nat.le_refl _)) hb4 (Nat.le_refl _)
                have hg4 : Hid (W0.heap.size ≤ w3.heap.size) := (unhide hb03).size
                have hl4 : Hid (w3.heap.size < (w3.alloc (.cells #[.int .i64 0, .int .i64 0, .string ⟨#[]⟩, .slice none 0 0] 29)).heap.size) := lt_of_heap (ZBox.new w3))
             | have hb04 : Hid (Below W0.heap.size W0 w4) := bt (unhide hb03) hb4 (Nat.le_refl _)
           have HK := hide hK
           have j0 := kpc (unhide hb04) c0
           have j1 := kpc (unhide hb04) c1
           have j2 := kpc (unhide hb04) c2
           have j3 := kpc (unhide hb04) c3
           try obtain ⟨p0, p1, p2, p3, q0, q1, q2, q3⟩ := (unhide zz4).facts
           try have nz := Nat.ne_of_lt (lt_of_heap (unhide zz4))
           try have mz := Ne.symm nz
           try have nz' := eq_false nz
           try have mz' := eq_false mz
           try have lz := lt_of_heap (unhide zz4)
           have l4 := lt_of_cell j0
           have n4' := Nat.ne_of_lt l4
           have m4 := Ne.symm n4'
           clear hb4 hK))
    all_goals
      go_wp2_with fail
      go_meet
      first
        | with_reducible exact SigCut.mk (unhide hKa _ _ _ _ _ (unhide HK)) (BodyCut.late (unhide hb04))
        | with_reducible exact SigCut.mk (unhide hKs _ _ _ _ _ _ _ _ _ (unhide HK) (unhide hl4)) (BodyCut.early (unhide hb04) (unhide zz4) (unhide hg4) rfl)
  case rest =>
    obtain ⟨L7, a', cap', rfl, hK, g7, rfl, hR7, hb7⟩ := hcut
    have HB7 := hide (bt (unhide HB0) hb7 (Nat.le_refl _))
    have HX7 := hide ((unhide HX).below hb7)
    have HR7 := hide ((unhide HR).below hb7)
    have HRR := hide hR7
    have HK7 := hide hK
    clear c0 c1 c2 c3 l0 n0 m0 hb7 hR7 hK
    obtain ⟨d0, d1, d2, d3⟩ := (unhide HRR).facts
    obtain ⟨p0, p1, p2, p3, p4, p5⟩ := (unhide HX7).facts
    obtain ⟨q0, q1, q2, q3, q4, q5⟩ := (unhide HX7).frozen
    go_wp2_with fail
    exact bodyPost_ret (v := .tuple #[.agg #[.string ByteArray.empty, .int .i64 0, .int .i64 0, .string ByteArray.empty, .slice none 0 0, .int .i64 0], .bool false]) (by simp [results, Tryz.results48, go_sem, p0, p1, p2, p3, p4, p5]; try rfl) rfl ⟨rfl, set6_below (unhide HB7) (by omega)⟩

set_option maxRecDepth 100000 in
set_option maxHeartbeats 8000000 in
theorem ofS_no3 (K : Nat → World → Option Addr → Nat → Prop) (op2 n2 : Int) (s2 : ByteArray) (a2 : Option Addr) (len2 cap2 : Nat) (k1 : Tm) (op4 n4 : Int) (s4 : ByteArray) (len4 : Nat) (w : World) (b0 b1 : Tm) (hk1 : k1 = .node 3 0 ByteArray.empty [b0, b1]) (h3 : opT b1 ≠ 3) (hKy' : ∀ L v a' cap', K L v a' cap' → Lies v L k1 (tmCells op4 n4 s4 a' len4 cap') ∧ w.heap.size + 2 ≤ L)
    (h18' : ∀ op n s a len cap v, Below w.heap.size w v → w.heap.size + 2 ≤ v.heap.size → Lies v 0 halfT (tmCells op n s a len cap) → Calls Tryz.prog 59 #[.agg #[.int .i64 op, .int .i64 n, .string s, .slice a len cap], .agg #[.int .i64 op2, .int .i64 n2, .string s2, .slice a2 len2 cap2]] v fun e w' => ∃ a' cap', e = .returned (.tuple #[.agg #[.int .i64 op4, .int .i64 n4, .string s4, .slice a' len4 cap'], .bool true]) ∧ K v.heap.size w' a' cap' ∧ Below v.heap.size v w')
    (hKa' : ∀ L v o a' cap', K L v a' cap' → K L (v.alloc o) a' cap') (hKs' : ∀ L v g x0 x1 x2 x3 a' cap', K L v a' cap' → g < L → K L ((((v.setCell ⟨g, 0, none⟩ x0).setCell ⟨g, 1, none⟩ x1).setCell ⟨g, 2, none⟩ x2).setCell ⟨g, 3, none⟩ x3) a' cap') :
    Calls Tryz.prog 48 #[.agg #[.int .i64 op2, .int .i64 n2, .string s2, .slice a2 len2 cap2]] w fun e w' => e = .returned (.tuple #[zeroC, .bool false]) ∧ Below w.heap.size w w' := by
  have h18 := hide h18'
  have hKa := hide hKa'
  have hKs := hide hKs'
  have hKy := hide hKy'
  clear h18' hKa' hKs' hKy'
  have hB0 : Below w.heap.size w ((w.alloc (.cells #[.int .i64 op2, .int .i64 n2, .string s2, .slice a2 len2 cap2] 29)).alloc (.cells #[.string ⟨#[]⟩, .int .i64 0, .int .i64 0, .string ⟨#[]⟩, .slice none 0 0, .int .i64 0] 57)) := bt (ab _) (ab _) (Nat.le_refl _)
  have HR : Hid (RowT 29 ((w.alloc (.cells #[.int .i64 op2, .int .i64 n2, .string s2, .slice a2 len2 cap2] 29)).alloc (.cells #[.string ⟨#[]⟩, .int .i64 0, .int .i64 0, .string ⟨#[]⟩, .slice none 0 0, .int .i64 0] 57)) w.heap.size op2 n2 s2 a2 len2 cap2) := (RowT.new 29 w op2 n2 s2 a2 len2 cap2).below (ab _)
  have HX : Hid (RowC 57 ((w.alloc (.cells #[.int .i64 op2, .int .i64 n2, .string s2, .slice a2 len2 cap2] 29)).alloc (.cells #[.string ⟨#[]⟩, .int .i64 0, .int .i64 0, .string ⟨#[]⟩, .slice none 0 0, .int .i64 0] 57)) (w.heap.size + 1) ⟨#[]⟩ 0 0 ⟨#[]⟩ none 0 0 0) := by
    have := RowC.new 57 (w.alloc (.cells #[.int .i64 op2, .int .i64 n2, .string s2, .slice a2 len2 cap2] 29)) ⟨#[]⟩ 0 0 ⟨#[]⟩ none 0 0 0
    rwa [heap_size_alloc] at this
  have HS0 : Hid (((w.alloc (.cells #[.int .i64 op2, .int .i64 n2, .string s2, .slice a2 len2 cap2] 29)).alloc (.cells #[.string ⟨#[]⟩, .int .i64 0, .int .i64 0, .string ⟨#[]⟩, .slice none 0 0, .int .i64 0] 57)).heap.size = w.heap.size + 2) := by show _ = _; simp
  have HB0 := hide hB0
  have h20 := hide atom1S
  have h19 := hide half19
  clear hB0
  go_enter Tryz.func48, Tryz.ntmps48
  go_wp2_with fail
  generalize hgw : (w.alloc (.cells #[.int .i64 op2, .int .i64 n2, .string s2, .slice a2 len2 cap2] 29)).alloc (.cells #[.string ⟨#[]⟩, .int .i64 0, .int .i64 0, .string ⟨#[]⟩, .slice none 0 0, .int .i64 0] 57) = W0 at *
  clear hgw
  obtain ⟨c0, c1, c2, c3⟩ := (unhide HR).facts
  have l0 := lt_of_cell c0
  have n0 := Nat.ne_of_lt l0
  have m0 := Ne.symm n0
  go_cut [4, 5] (fun p e wx => SigCut K true W0 p e wx op4 n4 s4 len4)
  case first =>
    go_region_held3 (fun y => y.cell? ⟨w.heap.size, 0, none⟩ = some (.int .i64 op2) ∧ y.cell? ⟨w.heap.size, 1, none⟩ = some (.int .i64 n2) ∧ y.cell? ⟨w.heap.size, 2, none⟩ = some (.string s2) ∧ y.cell? ⟨w.heap.size, 3, none⟩ = some (.slice a2 len2 cap2)) (go_keep)
      (first
        | (go_at_call 67
           refine (unhide h20 _).mono ?_
           rintro e w2 ⟨rfl, hb2⟩
           try have zz2 := hide ((ZBox.new W0).drew.below hb2)
           have hb02 : Hid (Below W0.heap.size W0 w2) := by
             first
               | exact below_drew' hb2
               | exact bt (ab _) (below_drew' hb2) (Nat.le_refl _)
           have f0 := kpc (unhide hb02) c0
           have f1 := kpc (unhide hb02) c1
           have f2 := kpc (unhide hb02) c2
           have f3 := kpc (unhide hb02) c3
           have l2 := lt_of_cell f0
           have n2' := Nat.ne_of_lt l2
           have m2 := Ne.symm n2'
           clear hb2)
        | (go_at_call 61
           refine (unhide h19 _).mono ?_
           rintro e w3 ⟨oH, nH, sH, aH, lH, cH, rfl, hLH, hb3⟩
           first
             | (have zz3 := hide ((unhide zz2).below hb3)
                have hb03 : Hid (Below W0.heap.size W0 w3) := bt (unhide hb02) hb3 (Nat.le_refl _)
                have hg3 : Hid (W0.heap.size ≤ W0.heap.size) := Nat.le_refl _)
             | (have zz3 := hide ((ZBox.new w2).below hb3)
                have hb03 : Hid (Below W0.heap.size W0 w3) := bt (bt (unhide hb02) (ab _) (Nat.le_refl _)) hb3 (Nat.le_refl _)
                have hg3 : Hid (W0.heap.size ≤ w2.heap.size) := (unhide hb02).size)
             | have hb03 : Hid (Below W0.heap.size W0 w3) := bt (unhide hb02) hb3 (Nat.le_refl _)
           have HLH := hide hLH
           have i0 := kpc (unhide hb03) c0
           have i1 := kpc (unhide hb03) c1
           have i2 := kpc (unhide hb03) c2
           have i3 := kpc (unhide hb03) c3
           have l3 := lt_of_cell i0
           have n3' := Nat.ne_of_lt l3
           have m3 := Ne.symm n3'
           clear hb3 hLH)
        | (go_at_call 59
           refine (unhide h18 _ _ _ _ _ _ _ ?_ ?_ ?_).mono ?_
           first
             | exact bt (unhide HB0) (unhide hb03) (Nat.le_refl _)
             | exact bt (bt (unhide HB0) (unhide hb03) (Nat.le_refl _)) (ab _) (Nat.le_refl _)
           first
             | exact Nat.le_trans (Nat.le_of_eq (unhide HS0).symm) (unhide hb03).size
             | exact Nat.le_trans (Nat.le_trans (Nat.le_of_eq (unhide HS0).symm) (unhide hb03).size) (ab _).size
           first
             | exact unhide HLH
             | exact (unhide HLH).below (ab _)
           rintro e w4 ⟨a', cap', rfl, hK, hb4⟩
           first
             | (have zz4 := hide ((unhide zz3).below hb4)
                have hb04 : Hid (Below W0.heap.size W0 w4) := bt (unhide hb03) hb4 (Nat.le_refl _)
                have hg4 := hg3
                have hl4 := hide (lt_of_heap (unhide zz3)))
             | (have zz4 := hide ((ZBox.new w3).below hb4)
                have hb04 : Hid (Below W0.heap.size W0 w4) := bt (bt (unhide hb03) (ab _) (Nat.le_refl _)) hb4 (Nat.le_refl _)
                have hg4 : Hid (W0.heap.size ≤ w3.heap.size) := (unhide hb03).size
                have hl4 : Hid (w3.heap.size < (w3.alloc (.cells #[.int .i64 0, .int .i64 0, .string ⟨#[]⟩, .slice none 0 0] 29)).heap.size) := lt_of_heap (ZBox.new w3))
             | have hb04 : Hid (Below W0.heap.size W0 w4) := bt (unhide hb03) hb4 (Nat.le_refl _)
           have HK := hide hK
           have j0 := kpc (unhide hb04) c0
           have j1 := kpc (unhide hb04) c1
           have j2 := kpc (unhide hb04) c2
           have j3 := kpc (unhide hb04) c3
           try obtain ⟨p0, p1, p2, p3, q0, q1, q2, q3⟩ := (unhide zz4).facts
           try have nz := Nat.ne_of_lt (lt_of_heap (unhide zz4))
           try have mz := Ne.symm nz
           try have nz' := eq_false nz
           try have mz' := eq_false mz
           try have lz := lt_of_heap (unhide zz4)
           have l4 := lt_of_cell j0
           have n4' := Nat.ne_of_lt l4
           have m4 := Ne.symm n4'
           clear hb4 hK))
    all_goals
      go_wp2_with fail
      go_meet
      first
        | with_reducible exact SigCut.mk (unhide hKa _ _ _ _ _ (unhide HK)) (BodyCut.late (unhide hb04))
        | with_reducible exact SigCut.mk (unhide hKs _ _ _ _ _ _ _ _ _ (unhide HK) (unhide hl4)) (BodyCut.early (unhide hb04) (unhide zz4) (unhide hg4) rfl)
  case rest =>
    obtain ⟨L7, a', cap', rfl, hK, g7, rfl, hR7, hb7⟩ := hcut
    have HB7 := hide (bt (unhide HB0) hb7 (Nat.le_refl _))
    have HX7 := hide ((unhide HX).below hb7)
    have HR7 := hide ((unhide HR).below hb7)
    have HRR := hide hR7
    have HK7 := hide hK
    clear c0 c1 c2 c3 l0 n0 m0 hb7 hR7 hK
    obtain ⟨d0, d1, d2, d3⟩ := (unhide HRR).facts
    obtain ⟨p0, p1, p2, p3, p4, p5⟩ := (unhide HX7).facts
    obtain ⟨q0, q1, q2, q3, q4, q5⟩ := (unhide HX7).frozen
    obtain ⟨hLk, hL7⟩ := unhide hKy _ _ _ _ (unhide HK7)
    rw [hk1] at hLk
    obtain ⟨rfl, rfl, rfl, rfl, b, q, oh, nh, sh, ah, lh, ch, op6, n6, s6, a6, len6, cap6, rfl, ⟨r0, r1, r2, r3, hy0⟩, r4, r5, r6, r7, hy1⟩ := lies_kidsL hLk
    have q9 : (op6 != 3) = true := by rw [lies_op hy1] at h3; simpa using h3
    clear hLk hy0 hy1 h3
    go_wp2_with fail
    exact bodyPost_ret (v := .tuple #[.agg #[.string ByteArray.empty, .int .i64 0, .int .i64 0, .string ByteArray.empty, .slice none 0 0, .int .i64 0], .bool false]) (by simp [results, Tryz.results48, go_sem, p0, p1, p2, p3, p4, p5]; try rfl) rfl ⟨rfl, set6_below (unhide HB7) (by omega)⟩

def strT : Tm → ByteArray | .node _ _ s _ => s
theorem lies_str {w : World} {L : Nat} {t : Tm} {op n : Int} {s : ByteArray} {a : Option Addr} {len cap : Nat} (h : Lies w L t (tmCells op n s a len cap)) : strT t = s := by
  cases t with
  | node op' n' s' ks =>
    simp only [Lies, tmCells, List.cons.injEq, Value.string.injEq] at h
    obtain ⟨_, _, ⟨_, _, h, _⟩, _⟩ := h
    exact h.symm
/-- Two terms, each in a box of its own. -/
def TwoBox (w2 : World) (p6 p7 : Value) (wx : World) (oh nh : Int) (sh : ByteArray) (ah : Option Addr) (lh ch : Nat) (op n : Int) (s : ByteArray) (a : Option Addr) (len cap : Nat) : Prop :=
  ∃ b6 b7, p6 = .pointer (some ⟨b6, 0, none⟩) ∧ p7 = .pointer (some ⟨b7, 0, none⟩) ∧ RowT 29 wx b6 oh nh sh ah lh ch ∧ RowT 29 wx b7 op n s a len cap ∧ Below w2.heap.size w2 wx
theorem held9 {w2 v : World} {g b q : Nat} {x0 x1 x2 x3 x4 x5 x6 x7 x8 : Value} (hb : Below w2.heap.size w2 v) (t0 : w2.cell? ⟨g, 3, none⟩ = some x0) (t1 : w2.cell? ⟨b, q, none⟩ = some x1) (t2 : w2.cell? ⟨b, q + 1, none⟩ = some x2) (t3 : w2.cell? ⟨b, q + 2, none⟩ = some x3) (t4 : w2.cell? ⟨b, q + 3, none⟩ = some x4) (t5 : w2.cell? ⟨b, q + 4, none⟩ = some x5) (t6 : w2.cell? ⟨b, q + 5, none⟩ = some x6) (t7 : w2.cell? ⟨b, q + 6, none⟩ = some x7) (t8 : w2.cell? ⟨b, q + 7, none⟩ = some x8) :
    v.cell? ⟨g, 3, none⟩ = some x0 ∧ v.cell? ⟨b, q, none⟩ = some x1 ∧ v.cell? ⟨b, q + 1, none⟩ = some x2 ∧ v.cell? ⟨b, q + 2, none⟩ = some x3 ∧ v.cell? ⟨b, q + 3, none⟩ = some x4 ∧ v.cell? ⟨b, q + 4, none⟩ = some x5 ∧ v.cell? ⟨b, q + 5, none⟩ = some x6 ∧ v.cell? ⟨b, q + 6, none⟩ = some x7 ∧ v.cell? ⟨b, q + 7, none⟩ = some x8 :=
  ⟨kpc hb t0, kpc hb t1, kpc hb t2, kpc hb t3, kpc hb t4, kpc hb t5, kpc hb t6, kpc hb t7, kpc hb t8⟩
theorem row2a {w : World} {A B : Obj} {op n : Int} {s : ByteArray} {a : Option Addr} {len cap : Nat} (hA : A = .cells #[.int .i64 op, .int .i64 n, .string s, .slice a len cap] 29) : RowT 29 ((w.alloc A).alloc B).drew w.heap.size op n s a len cap := by
  subst hA
  exact (RowT.new 29 w op n s a len cap).below (ab B).drew
theorem row2b {w : World} {A B : Obj} {op n : Int} {s : ByteArray} {a : Option Addr} {len cap : Nat} (hB : B = .cells #[.int .i64 op, .int .i64 n, .string s, .slice a len cap] 29) : RowT 29 ((w.alloc A).alloc B).drew (w.heap.size + 1) op n s a len cap := by
  subst hB
  have := RowT.new 29 (w.alloc A) op n s a len cap
  rw [heap_size_alloc] at this
  exact this
theorem bel2 {w : World} {A B : Obj} : Below w.heap.size w ((w.alloc A).alloc B).drew := (bt (ab _) (ab _) (Nat.le_refl _)).drew
theorem RowC.drew {ty : TypeId} {w : World} {b : Nat} {h : ByteArray} {op n : Int} {s : ByteArray} {a : Option Addr} {len cap : Nat} {u : Int} (hr : RowC ty w b h op n s a len cap u) : RowC ty w.drew b h op n s a len cap u := hr
/-- The box of what was read. -/
def CertCut (su : ByteArray) (W0 : World) (p : Value) (wx : World) (sh : ByteArray) (op n : Int) (s : ByteArray) (a : Option Addr) (len cap : Nat) : Prop := ∃ v g, p = .pointer (some ⟨g, 0, none⟩) ∧ RowC 57 wx g sh op n s a len cap v ∧ Below W0.heap.size W0 wx ∧ (isNum su v ∨ (v = -1 ∧ ¬ ∃ u, isNum su u))
theorem CertCut.late {su : ByteArray} {W0 X : World} {sh : ByteArray} {op n : Int} {s : ByteArray} {a : Option Addr} {len cap : Nat} {v : Int} (hb : Below W0.heap.size W0 X) (hv : isNum su v ∨ (v = -1 ∧ ¬ ∃ u, isNum su u)) :
    CertCut su W0 (.pointer (some ⟨X.heap.size, 0, none⟩)) (X.alloc (.cells #[.string sh, .int .i64 op, .int .i64 n, .string s, .slice a len cap, .int .i64 v] 57)) sh op n s a len cap := ⟨v, _, rfl, RowC.new 57 X sh op n s a len cap v, bt hb (ab _) (Nat.le_refl _), hv⟩
theorem CertCut.early {su : ByteArray} {W0 X Y : World} {g : Nat} {sh : ByteArray} {op n : Int} {s : ByteArray} {a : Option Addr} {len cap : Nat} {v : Int} (hb : Below W0.heap.size W0 X) (hz : RowC 57 X g ⟨#[]⟩ 0 0 ⟨#[]⟩ none 0 0 0) (hg : W0.heap.size ≤ g) (hv : isNum su v ∨ (v = -1 ∧ ¬ ∃ u, isNum su u))
    (hY : Y = ((((((X.setCell ⟨g, 0, none⟩ (.string sh)).setCell ⟨g, 1, none⟩ (.int .i64 op)).setCell ⟨g, 2, none⟩ (.int .i64 n)).setCell ⟨g, 3, none⟩ (.string s)).setCell ⟨g, 4, none⟩ (.slice a len cap)).setCell ⟨g, 5, none⟩ (.int .i64 v))) : CertCut su W0 (.pointer (some ⟨g, 0, none⟩)) Y sh op n s a len cap :=
  ⟨v, g, rfl, by rw [hY]; exact fillC hz sh op n s a len cap v, by rw [hY]; exact set6_below hb hg, hv⟩

set_option maxRecDepth 100000 in
set_option maxHeartbeats 8000000 in
theorem ofS_all (K : Nat → World → Option Addr → Nat → Prop) (op2 n2 : Int) (s2 : ByteArray) (a2 : Option Addr) (len2 cap2 : Nat) (k1 : Tm) (op4 n4 : Int) (s4 : ByteArray) (len4 : Nat) (w : World) (T b0 c0 c1 : Tm) (hk1 : k1 = .node 3 0 ByteArray.empty [b0, .node 3 0 ByteArray.empty [c0, c1]]) (hlt : Lies w 0 T (tmCells op2 n2 s2 a2 len2 cap2)) (hsuz : ∀ x : ByteArray, strT c1 = x → x.size ≤ 2097152) (hshz : ∀ x : ByteArray, strT b0 = x → x.size ≤ 2097152) (hc0 : c0.size ≤ 2097152) (hKy' : ∀ L v a' cap', K L v a' cap' → Lies v L k1 (tmCells op4 n4 s4 a' len4 cap') ∧ w.heap.size + 2 ≤ L)
    (h18' : ∀ op n s a len cap v, Below w.heap.size w v → w.heap.size + 2 ≤ v.heap.size → Lies v 0 halfT (tmCells op n s a len cap) → Calls Tryz.prog 59 #[.agg #[.int .i64 op, .int .i64 n, .string s, .slice a len cap], .agg #[.int .i64 op2, .int .i64 n2, .string s2, .slice a2 len2 cap2]] v fun e w' => ∃ a' cap', e = .returned (.tuple #[.agg #[.int .i64 op4, .int .i64 n4, .string s4, .slice a' len4 cap'], .bool true]) ∧ K v.heap.size w' a' cap' ∧ Below v.heap.size v w')
    (hKa' : ∀ L v o a' cap', K L v a' cap' → K L (v.alloc o) a' cap') (hKs' : ∀ L v g x0 x1 x2 x3 a' cap', K L v a' cap' → g < L → K L ((((v.setCell ⟨g, 0, none⟩ x0).setCell ⟨g, 1, none⟩ x1).setCell ⟨g, 2, none⟩ x2).setCell ⟨g, 3, none⟩ x3) a' cap') :
    Calls Tryz.prog 48 #[.agg #[.int .i64 op2, .int .i64 n2, .string s2, .slice a2 len2 cap2]] w fun e w' => Below w.heap.size w w' ∧ ((∃ h v op n s a len cap, strT b0 = h ∧ (certB (strT b0) c0 v = true ∧ sameB (certT (strT b0) c0 v) T = true) ∧ e = .returned (.tuple #[.agg #[.string h, .int .i64 op, .int .i64 n, .string s, .slice a len cap, .int .i64 v], .bool true]) ∧ Lies w' w.heap.size c0 (tmCells op n s a len cap)) ∨ (e = .returned (.tuple #[zeroC, .bool false]) ∧ ∀ u, isNum (strT c1) u → ¬ (certB (strT b0) c0 u = true ∧ sameB (certT (strT b0) c0 u) T = true))) := by
  have h18 := hide h18'
  have hKa := hide hKa'
  have hKs := hide hKs'
  have hKy := hide hKy'
  clear h18' hKa' hKs' hKy'
  have hB0 : Below w.heap.size w ((w.alloc (.cells #[.int .i64 op2, .int .i64 n2, .string s2, .slice a2 len2 cap2] 29)).alloc (.cells #[.string ⟨#[]⟩, .int .i64 0, .int .i64 0, .string ⟨#[]⟩, .slice none 0 0, .int .i64 0] 57)) := bt (ab _) (ab _) (Nat.le_refl _)
  have HR : Hid (RowT 29 ((w.alloc (.cells #[.int .i64 op2, .int .i64 n2, .string s2, .slice a2 len2 cap2] 29)).alloc (.cells #[.string ⟨#[]⟩, .int .i64 0, .int .i64 0, .string ⟨#[]⟩, .slice none 0 0, .int .i64 0] 57)) w.heap.size op2 n2 s2 a2 len2 cap2) := (RowT.new 29 w op2 n2 s2 a2 len2 cap2).below (ab _)
  have HX : Hid (RowC 57 ((w.alloc (.cells #[.int .i64 op2, .int .i64 n2, .string s2, .slice a2 len2 cap2] 29)).alloc (.cells #[.string ⟨#[]⟩, .int .i64 0, .int .i64 0, .string ⟨#[]⟩, .slice none 0 0, .int .i64 0] 57)) (w.heap.size + 1) ⟨#[]⟩ 0 0 ⟨#[]⟩ none 0 0 0) := by
    have := RowC.new 57 (w.alloc (.cells #[.int .i64 op2, .int .i64 n2, .string s2, .slice a2 len2 cap2] 29)) ⟨#[]⟩ 0 0 ⟨#[]⟩ none 0 0 0
    rwa [heap_size_alloc] at this
  have HS0 : Hid (((w.alloc (.cells #[.int .i64 op2, .int .i64 n2, .string s2, .slice a2 len2 cap2] 29)).alloc (.cells #[.string ⟨#[]⟩, .int .i64 0, .int .i64 0, .string ⟨#[]⟩, .slice none 0 0, .int .i64 0] 57)).heap.size = w.heap.size + 2) := by show _ = _; simp
  have HB0 := hide hB0
  have h20 := hide atom1S
  have h19 := hide half19
  clear hB0
  go_enter Tryz.func48, Tryz.ntmps48
  go_wp2_with fail
  generalize hgw : (w.alloc (.cells #[.int .i64 op2, .int .i64 n2, .string s2, .slice a2 len2 cap2] 29)).alloc (.cells #[.string ⟨#[]⟩, .int .i64 0, .int .i64 0, .string ⟨#[]⟩, .slice none 0 0, .int .i64 0] 57) = W0 at *
  clear hgw
  obtain ⟨c0, c1, c2, c3⟩ := (unhide HR).facts
  have l0 := lt_of_cell c0
  have n0 := Nat.ne_of_lt l0
  have m0 := Ne.symm n0
  go_cut [4, 5] (fun p e wx => SigCut K true W0 p e wx op4 n4 s4 len4)
  case first =>
    go_region_held3 (fun y => y.cell? ⟨w.heap.size, 0, none⟩ = some (.int .i64 op2) ∧ y.cell? ⟨w.heap.size, 1, none⟩ = some (.int .i64 n2) ∧ y.cell? ⟨w.heap.size, 2, none⟩ = some (.string s2) ∧ y.cell? ⟨w.heap.size, 3, none⟩ = some (.slice a2 len2 cap2)) (go_keep)
      (first
        | (go_at_call 67
           refine (unhide h20 _).mono ?_
           rintro e w2 ⟨rfl, hb2⟩
           try have zz2 := hide ((ZBox.new W0).drew.below hb2)
           have hb02 : Hid (Below W0.heap.size W0 w2) := by
             first
               | exact below_drew' hb2
               | exact bt (ab _) (below_drew' hb2) (Nat.le_refl _)
           have f0 := kpc (unhide hb02) c0
           have f1 := kpc (unhide hb02) c1
           have f2 := kpc (unhide hb02) c2
           have f3 := kpc (unhide hb02) c3
           have l2 := lt_of_cell f0
           have n2' := Nat.ne_of_lt l2
           have m2 := Ne.symm n2'
           clear hb2)
        | (go_at_call 61
           refine (unhide h19 _).mono ?_
           rintro e w3 ⟨oH, nH, sH, aH, lH, cH, rfl, hLH, hb3⟩
           first
             | (have zz3 := hide ((unhide zz2).below hb3)
                have hb03 : Hid (Below W0.heap.size W0 w3) := bt (unhide hb02) hb3 (Nat.le_refl _)
                have hg3 : Hid (W0.heap.size ≤ W0.heap.size) := Nat.le_refl _)
             | (have zz3 := hide ((ZBox.new w2).below hb3)
                have hb03 : Hid (Below W0.heap.size W0 w3) := bt (bt (unhide hb02) (ab _) (Nat.le_refl _)) hb3 (Nat.le_refl _)
                have hg3 : Hid (W0.heap.size ≤ w2.heap.size) := (unhide hb02).size)
             | have hb03 : Hid (Below W0.heap.size W0 w3) := bt (unhide hb02) hb3 (Nat.le_refl _)
           have HLH := hide hLH
           have i0 := kpc (unhide hb03) c0
           have i1 := kpc (unhide hb03) c1
           have i2 := kpc (unhide hb03) c2
           have i3 := kpc (unhide hb03) c3
           have l3 := lt_of_cell i0
           have n3' := Nat.ne_of_lt l3
           have m3 := Ne.symm n3'
           clear hb3 hLH)
        | (go_at_call 59
           refine (unhide h18 _ _ _ _ _ _ _ ?_ ?_ ?_).mono ?_
           first
             | exact bt (unhide HB0) (unhide hb03) (Nat.le_refl _)
             | exact bt (bt (unhide HB0) (unhide hb03) (Nat.le_refl _)) (ab _) (Nat.le_refl _)
           first
             | exact Nat.le_trans (Nat.le_of_eq (unhide HS0).symm) (unhide hb03).size
             | exact Nat.le_trans (Nat.le_trans (Nat.le_of_eq (unhide HS0).symm) (unhide hb03).size) (ab _).size
           first
             | exact unhide HLH
             | exact (unhide HLH).below (ab _)
           rintro e w4 ⟨a', cap', rfl, hK, hb4⟩
           first
             | (have zz4 := hide ((unhide zz3).below hb4)
                have hb04 : Hid (Below W0.heap.size W0 w4) := bt (unhide hb03) hb4 (Nat.le_refl _)
                have hg4 := hg3
                have hl4 := hide (lt_of_heap (unhide zz3)))
             | (have zz4 := hide ((ZBox.new w3).below hb4)
                have hb04 : Hid (Below W0.heap.size W0 w4) := bt (bt (unhide hb03) (ab _) (Nat.le_refl _)) hb4 (Nat.le_refl _)
                have hg4 : Hid (W0.heap.size ≤ w3.heap.size) := (unhide hb03).size
                have hl4 : Hid (w3.heap.size < (w3.alloc (.cells #[.int .i64 0, .int .i64 0, .string ⟨#[]⟩, .slice none 0 0] 29)).heap.size) := lt_of_heap (ZBox.new w3))
             | have hb04 : Hid (Below W0.heap.size W0 w4) := bt (unhide hb03) hb4 (Nat.le_refl _)
           have HK := hide hK
           have j0 := kpc (unhide hb04) c0
           have j1 := kpc (unhide hb04) c1
           have j2 := kpc (unhide hb04) c2
           have j3 := kpc (unhide hb04) c3
           try obtain ⟨p0, p1, p2, p3, q0, q1, q2, q3⟩ := (unhide zz4).facts
           try have nz := Nat.ne_of_lt (lt_of_heap (unhide zz4))
           try have mz := Ne.symm nz
           try have nz' := eq_false nz
           try have mz' := eq_false mz
           try have lz := lt_of_heap (unhide zz4)
           have l4 := lt_of_cell j0
           have n4' := Nat.ne_of_lt l4
           have m4 := Ne.symm n4'
           clear hb4 hK))
    all_goals
      go_wp2_with fail
      go_meet
      first
        | with_reducible exact SigCut.mk (unhide hKa _ _ _ _ _ (unhide HK)) (BodyCut.late (unhide hb04))
        | with_reducible exact SigCut.mk (unhide hKs _ _ _ _ _ _ _ _ _ (unhide HK) (unhide hl4)) (BodyCut.early (unhide hb04) (unhide zz4) (unhide hg4) rfl)
  case rest =>
    obtain ⟨L7, a', cap', rfl, hK, g7, rfl, hR7, hb7⟩ := hcut
    have HB7 := hide (bt (unhide HB0) hb7 (Nat.le_refl _))
    have HX7 := hide ((unhide HX).below hb7)
    have HR7 := hide ((unhide HR).below hb7)
    have HRR := hide hR7
    have HK7 := hide hK
    clear c0 c1 c2 c3 l0 n0 m0 hb7 hR7 hK
    obtain ⟨d0, d1, d2, d3⟩ := (unhide HRR).facts
    obtain ⟨p0, p1, p2, p3, p4, p5⟩ := (unhide HX7).facts
    obtain ⟨q0, q1, q2, q3, q4, q5⟩ := (unhide HX7).frozen
    obtain ⟨hLk, hL7⟩ := unhide hKy _ _ _ _ (unhide HK7)
    rw [hk1] at hLk
    obtain ⟨rfl, rfl, rfl, rfl, b, q, oh, nh, sh, ah, lh, ch, op6, n6, s6, a6, len6, cap6, rfl, ⟨r0, r1, r2, r3, hy0⟩, r4, r5, r6, r7, hy1⟩ := lies_kidsL hLk
    obtain ⟨rfl, rfl, rfl, rfl, b', q', op, n, s, a, len, cap, ou, nu, su, au, lu, cu, rfl, ⟨z0, z1, z2, z3, hz0⟩, z4, z5, z6, z7, hz1⟩ := lies_kidsL hy1
    have hsh : strT b0 = sh := lies_str hy0
    have hsu : strT c1 = su := lies_str hz1
    have HLZ := hide hz0
    have lg := lt_of_cell d3
    have ng := Nat.ne_of_lt lg
    have mg := Ne.symm ng
    have lb := lt_of_cell r0
    have nb := Nat.ne_of_lt lb
    have mb := Ne.symm nb
    clear hLk hy0 hy1 hz0 hz1 hKy hKa hKs h18
    go_wp2_with fail
    go_cut [6, 7] (fun p6 p7 wx => TwoBox wc p6 p7 wx oh nh sh ah lh ch 3 0 ByteArray.empty (some ⟨b', q', none⟩) 2 cap6)
    case first =>
      go_region_held3 (fun y => y.cell? ⟨g7, 3, none⟩ = some (.slice (some ⟨b, q, none⟩) 2 cap') ∧ y.cell? ⟨b, q, none⟩ = some (.int .i64 oh) ∧ y.cell? ⟨b, q + 1, none⟩ = some (.int .i64 nh) ∧ y.cell? ⟨b, q + 2, none⟩ = some (.string sh) ∧ y.cell? ⟨b, q + 3, none⟩ = some (.slice ah lh ch) ∧
          y.cell? ⟨b, q + 4, none⟩ = some (.int .i64 3) ∧ y.cell? ⟨b, q + 5, none⟩ = some (.int .i64 0) ∧ y.cell? ⟨b, q + 6, none⟩ = some (.string ByteArray.empty) ∧ y.cell? ⟨b, q + 7, none⟩ = some (.slice (some ⟨b', q', none⟩) 2 cap6)) ((refine held9 ?_ d3 r0 r1 r2 r3 r4 r5 r6 r7; repeat (first | exact Below.refl _ _ | refine Below.drew ?_ | refine Below.alloc ?_ (by simp <;> omega) _ | refine Below.setCell ?_ (by simp <;> omega) _))) (fail)
      all_goals go_wp2_with fail
      all_goals go_meet
      all_goals
        refine ⟨_, _, rfl, rfl, ?_, ?_, bel2⟩
        all_goals first
          | exact row2a rfl
          | exact row2b rfl
    case rest =>
      obtain ⟨b6, b7, rfl, rfl, hR6, hRb, hb8⟩ := hcut
      have HB8 := hide (bt (unhide HB7) hb8 (Nat.le_refl _))
      have HX8 := hide ((unhide HX7).below hb8)
      have HR8 := hide ((unhide HR7).below hb8)
      have HLZ8 := hide ((unhide HLZ).below hb8)
      have y0 := kpc hb8 z0
      have y1 := kpc hb8 z1
      have y2 := kpc hb8 z2
      have y3 := kpc hb8 z3
      have y6 := kpc hb8 z6
      obtain ⟨f0, f1, f2, f3⟩ := hR6.facts
      obtain ⟨i0, i1, i2, i3⟩ := hRb.facts
      clear d0 d1 d2 d3 p0 p1 p2 p3 p4 p5 q0 q1 q2 q3 q4 q5 r0 r1 r2 r3 r4 r5 r6 r7 z0 z1 z2 z3 z4 z5 z6 z7 lg ng mg lb nb mb hb8 hR6 hRb HRR HK7
      have l6 := lt_of_cell f2
      have n6' := Nat.ne_of_lt l6
      have m6 := Ne.symm n6'
      have l7 := lt_of_cell i3
      have n7' := Nat.ne_of_lt l7
      have m7 := Ne.symm n7'
      have lq := lt_of_cell y0
      have nq := Nat.ne_of_lt lq
      have mq := Ne.symm nq
      have h21 := hide (fun v => num21 su v (hsuz su hsu))
      go_wp2_with fail
      go_cut [8] (fun p wx => CertCut su wc p wx sh op n s a len cap)
      case first =>
        go_region_held3 (fun y => y.cell? ⟨b6, 2, none⟩ = some (.string sh) ∧ y.cell? ⟨b7, 3, none⟩ = some (.slice (some ⟨b', q', none⟩) 2 cap6) ∧ y.cell? ⟨b', q', none⟩ = some (.int .i64 op) ∧ y.cell? ⟨b', q' + 1, none⟩ = some (.int .i64 n) ∧ y.cell? ⟨b', q' + 2, none⟩ = some (.string s) ∧ y.cell? ⟨b', q' + 3, none⟩ = some (.slice a len cap) ∧ y.cell? ⟨b', q' + 6, none⟩ = some (.string su)) (go_keep)
          (first
            | (go_at_call 107
               refine (unhide h21 _).mono ?_
               rintro e w2 ⟨v, rfl, hb2, hv⟩
               try have zz2 := hide ((RowC.new 57 wc ⟨#[]⟩ 0 0 ⟨#[]⟩ none 0 0 0).drew.below hb2)
               have hb02 : Hid (Below wc.heap.size wc w2) := by
                 first
                   | exact below_drew' hb2
                   | exact bt (ab _) (below_drew' hb2) (Nat.le_refl _)
               have HV := hide hv
               have e2 := kpc (unhide hb02) f2
               have e3 := kpc (unhide hb02) i3
               have x0 := kpc (unhide hb02) y0
               have x1 := kpc (unhide hb02) y1
               have x2 := kpc (unhide hb02) y2
               have x3 := kpc (unhide hb02) y3
               have x6 := kpc (unhide hb02) y6
               try obtain ⟨p0, p1, p2, p3, p4, p5⟩ := (unhide zz2).facts
               try obtain ⟨q0, q1, q2, q3, q4, q5⟩ := (unhide zz2).frozen
               try have nz := Nat.ne_of_lt (lt_of_heap (unhide zz2))
               try have mz := Ne.symm nz
               try have nz' := eq_false nz
               try have mz' := eq_false mz
               try have lz := lt_of_heap (unhide zz2)
               have la := lt_of_cell e2
               have na := Nat.ne_of_lt la
               have ma := Ne.symm na
               have lc := lt_of_cell e3
               have nc := Nat.ne_of_lt lc
               have mc := Ne.symm nc
               have ld := lt_of_cell x0
               have nd := Nat.ne_of_lt ld
               have md := Ne.symm nd
               clear hb2 hv))
        all_goals go_wp2_with fail
        all_goals go_meet
        all_goals first
          | with_reducible exact CertCut.late (unhide hb02) (unhide HV)
          | with_reducible exact CertCut.early (unhide hb02) (unhide zz2) (Nat.le_refl _) (unhide HV) rfl
      case rest =>
        obtain ⟨v, gC, rfl, hRC, hb9, hvN⟩ := hcut
        have HB9 := hide (bt (unhide HB8) hb9 (Nat.le_refl _))
        have HX9 := hide ((unhide HX8).below hb9)
        have HR9 := hide ((unhide HR8).below hb9)
        have HLZ9 := hide ((unhide HLZ8).below hb9)
        have HRC := hide hRC
        clear f0 f1 f2 f3 i0 i1 i2 i3 y0 y1 y2 y3 y6 l6 n6' m6 l7 n7' m7 lq nq mq hb9 hRC HB8 HX8 HR8 HLZ8
        obtain ⟨f0, f1, f2, f3, f4, f5⟩ := (unhide HRC).facts
        obtain ⟨i0, i1, i2, i3⟩ := (unhide HR9).facts
        have HLT9 := hide (hlt.below (unhide HB9))
        have HSH := hide (hshz sh hsh)
        have h22 := hide (fun W hl => certS c0 sh op n s a len cap v W hl hc0 (unhide HSH))
        have HVN := hide hvN
        clear hvN
        cases hC : certB sh c0 v with
        | false =>
          rw [hC] at h22
          have HNO : Hid (∀ u, isNum (strT c1) u → ¬ (certB (strT b0) c0 u = true ∧ sameB (certT (strT b0) c0 u) T = true)) := by
            intro u hu hh
            rw [hsu] at hu
            rw [hsh] at hh
            rcases unhide HVN with h1 | h1
            · rw [isNum_one hu h1, hC] at hh
              cases hh.1
            · exact h1.2 ⟨u, hu⟩
          clear hC
          go_wp2_with fail
          first
            | go_region_with (go_at_call 57
                              refine (unhide h22 _ (((unhide HLZ9).any (Nat.zero_le _)).below (Below.refl _ _).drew)).mono ?_
                              rintro e wA ⟨rfl, hbA⟩
                              have hbA' := below_drew' hbA
                              have HBA := hide (bt (unhide HB9) hbA' (Nat.le_refl _))
                              obtain ⟨p0, p1, p2, p3, p4, p5⟩ := ((unhide HX9).below hbA').facts
                              obtain ⟨q0, q1, q2, q3, q4, q5⟩ := ((unhide HX9).below hbA').frozen)
            | fail
          all_goals go_wp2_with fail
          all_goals exact bodyPost_ret (v := .tuple #[.agg #[.string ByteArray.empty, .int .i64 0, .int .i64 0, .string ByteArray.empty, .slice none 0 0, .int .i64 0], .bool false]) (by simp [results, Tryz.results48, go_sem, p0, p1, p2, p3, p4, p5]; try rfl) rfl ⟨set6_below (unhide HBA) (by omega), Or.inr ⟨rfl, unhide HNO⟩⟩
        | true =>
          rw [hC] at h22
          have h24 := hide (fun W hl => certTS_yes c0 sh op n s a len cap v W hl hC)
          have h23 := hide (fun op' n' s' a' len' cap' W h1 h2 => sa_calls (certT sh c0 v) T op' n' s' a' len' cap' op2 n2 s2 a2 len2 cap2 W h1 h2)
          cases hS : sameB (certT sh c0 v) T with
          | false =>
            rw [hS] at h23
            have HNO : Hid (∀ u, isNum (strT c1) u → ¬ (certB (strT b0) c0 u = true ∧ sameB (certT (strT b0) c0 u) T = true)) := by
              intro u hu hh
              rw [hsu] at hu
              rw [hsh] at hh
              rcases unhide HVN with h1 | h1
              · rw [isNum_one hu h1, hS] at hh
                cases hh.2
              · exact h1.2 ⟨u, hu⟩
            clear hC hS
            go_wp2_with fail
            go_region_held3 (fun y => y.cell? ⟨gC, 0, none⟩ = some (.string sh) ∧ y.cell? ⟨gC, 1, none⟩ = some (.int .i64 op) ∧ y.cell? ⟨gC, 2, none⟩ = some (.int .i64 n) ∧ y.cell? ⟨gC, 3, none⟩ = some (.string s) ∧ y.cell? ⟨gC, 4, none⟩ = some (.slice a len cap) ∧ y.cell? ⟨gC, 5, none⟩ = some (.int .i64 v) ∧
                y.cell? ⟨w.heap.size, 0, none⟩ = some (.int .i64 op2) ∧ y.cell? ⟨w.heap.size, 1, none⟩ = some (.int .i64 n2) ∧ y.cell? ⟨w.heap.size, 2, none⟩ = some (.string s2) ∧ y.cell? ⟨w.heap.size, 3, none⟩ = some (.slice a2 len2 cap2)) (go_keep)
              (first
                | (go_at_call 57
                   refine (unhide h22 _ (((unhide HLZ9).any (Nat.zero_le _)).below (Below.refl _ _).drew)).mono ?_
                   rintro e wA ⟨rfl, hbA⟩
                   have hbA' := hide (below_drew' hbA)
                   obtain ⟨e0, e1, e2, e3, e4, e5⟩ := ((unhide HRC).below (unhide hbA')).facts
                   obtain ⟨k0, k1', k2, k3⟩ := ((unhide HR9).below (unhide hbA')).facts)
                | (go_at_call 41
                   refine (unhide h24 _ (((unhide HLZ9).any (Nat.zero_le _)).below (unhide hbA'))).mono ?_
                   rintro e wB ⟨oT, nT, sT, aT, lT, cT, rfl, hLT, hbB, -⟩
                   have hbB' := hide hbB
                   have HLT := hide (hLT.any (Nat.zero_le _))
                   obtain ⟨j0, j1, j2, j3, j4, j5⟩ := (((unhide HRC).below (unhide hbA')).below hbB).facts
                   obtain ⟨t0, t1, t2, t3⟩ := (((unhide HR9).below (unhide hbA')).below hbB).facts)
                | (go_at_call 60
                   refine (unhide h23 _ _ _ _ _ _ _ (unhide HLT) (((unhide HLT9).below (unhide hbA')).below (unhide hbB'))).mono ?_
                   rintro e wC ⟨rfl, hbC⟩
                   have HBC := hide (bt (bt (bt (unhide HB9) (unhide hbA') (Nat.le_refl _)) (unhide hbB') (Nat.le_refl _)) hbC (Nat.le_refl _))
                   have HLZC := hide ((((unhide HLZ9).below (unhide hbA')).below (unhide hbB')).below hbC)
                   have HXC := hide ((((unhide HX9).below (unhide hbA')).below (unhide hbB')).below hbC)
                   obtain ⟨u0, u1, u2, u3, u4, u5⟩ := ((((unhide HRC).below (unhide hbA')).below (unhide hbB')).below hbC).facts
                   obtain ⟨v0, v1, v2, v3⟩ := ((((unhide HR9).below (unhide hbA')).below (unhide hbB')).below hbC).facts
                   obtain ⟨p0, p1, p2, p3, p4, p5⟩ := (unhide HXC).facts
                   obtain ⟨q0, q1, q2, q3, q4, q5⟩ := (unhide HXC).frozen))
            all_goals go_wp2_with fail
            all_goals exact bodyPost_ret (v := .tuple #[.agg #[.string ByteArray.empty, .int .i64 0, .int .i64 0, .string ByteArray.empty, .slice none 0 0, .int .i64 0], .bool false]) (by simp [results, Tryz.results48, go_sem, p0, p1, p2, p3, p4, p5]; try rfl) rfl ⟨set6_below (unhide HBC) (by omega), Or.inr ⟨rfl, unhide HNO⟩⟩
          | true =>
            rw [hS] at h23
            have HYES : Hid (certB (strT b0) c0 v = true ∧ sameB (certT (strT b0) c0 v) T = true) := by show _ ∧ _; rw [hsh]; exact ⟨hC, hS⟩
            clear hC hS
            go_wp2_with fail
            go_region_held3 (fun y => y.cell? ⟨gC, 0, none⟩ = some (.string sh) ∧ y.cell? ⟨gC, 1, none⟩ = some (.int .i64 op) ∧ y.cell? ⟨gC, 2, none⟩ = some (.int .i64 n) ∧ y.cell? ⟨gC, 3, none⟩ = some (.string s) ∧ y.cell? ⟨gC, 4, none⟩ = some (.slice a len cap) ∧ y.cell? ⟨gC, 5, none⟩ = some (.int .i64 v) ∧
                y.cell? ⟨w.heap.size, 0, none⟩ = some (.int .i64 op2) ∧ y.cell? ⟨w.heap.size, 1, none⟩ = some (.int .i64 n2) ∧ y.cell? ⟨w.heap.size, 2, none⟩ = some (.string s2) ∧ y.cell? ⟨w.heap.size, 3, none⟩ = some (.slice a2 len2 cap2)) (go_keep)
              (first
                | (go_at_call 57
                   refine (unhide h22 _ (((unhide HLZ9).any (Nat.zero_le _)).below (Below.refl _ _).drew)).mono ?_
                   rintro e wA ⟨rfl, hbA⟩
                   have hbA' := hide (below_drew' hbA)
                   obtain ⟨e0, e1, e2, e3, e4, e5⟩ := ((unhide HRC).below (unhide hbA')).facts
                   obtain ⟨k0, k1', k2, k3⟩ := ((unhide HR9).below (unhide hbA')).facts)
                | (go_at_call 41
                   refine (unhide h24 _ (((unhide HLZ9).any (Nat.zero_le _)).below (unhide hbA'))).mono ?_
                   rintro e wB ⟨oT, nT, sT, aT, lT, cT, rfl, hLT, hbB, -⟩
                   have hbB' := hide hbB
                   have HLT := hide (hLT.any (Nat.zero_le _))
                   obtain ⟨j0, j1, j2, j3, j4, j5⟩ := (((unhide HRC).below (unhide hbA')).below hbB).facts
                   obtain ⟨t0, t1, t2, t3⟩ := (((unhide HR9).below (unhide hbA')).below hbB).facts)
                | (go_at_call 60
                   refine (unhide h23 _ _ _ _ _ _ _ (unhide HLT) (((unhide HLT9).below (unhide hbA')).below (unhide hbB'))).mono ?_
                   rintro e wC ⟨rfl, hbC⟩
                   have HBC := hide (bt (bt (bt (unhide HB9) (unhide hbA') (Nat.le_refl _)) (unhide hbB') (Nat.le_refl _)) hbC (Nat.le_refl _))
                   have HLZC := hide ((((unhide HLZ9).below (unhide hbA')).below (unhide hbB')).below hbC)
                   have HXC := hide ((((unhide HX9).below (unhide hbA')).below (unhide hbB')).below hbC)
                   obtain ⟨u0, u1, u2, u3, u4, u5⟩ := ((((unhide HRC).below (unhide hbA')).below (unhide hbB')).below hbC).facts
                   obtain ⟨v0, v1, v2, v3⟩ := ((((unhide HR9).below (unhide hbA')).below (unhide hbB')).below hbC).facts
                   obtain ⟨p0, p1, p2, p3, p4, p5⟩ := (unhide HXC).facts
                   obtain ⟨q0, q1, q2, q3, q4, q5⟩ := (unhide HXC).frozen))
            all_goals go_wp2_with fail
            all_goals exact bodyPost_ret (v := .tuple #[.agg #[.string sh, .int .i64 op, .int .i64 n, .string s, .slice a len cap, .int .i64 v], .bool true]) (by simp [results, Tryz.results48, go_sem, p0, p1, p2, p3, p4, p5]; try rfl) rfl ⟨set6_below (unhide HBC) (by omega), Or.inl ⟨sh, v, op, n, s, a, len, cap, hsh, unhide HYES, rfl, Lies.carry (L := L7) (by omega) (fun b o hb _ => by rw [cell_set_other (by omega), cell_set_other (by omega), cell_set_other (by omega), cell_set_other (by omega), cell_set_other (by omega), cell_set_other (by omega)]) _ _ (unhide HLZC)⟩⟩

theorem certT_laid {h : ByteArray} {p : Tm} {v : Int} (hok : okT (certL h p v) = true) : certT h p v = certL h p v := by
  rw [← cert_one]
  unfold certL at hok
  unfold madeT certL
  rw [hok]
  rfl
theorem certT_ok {h : ByteArray} {p : Tm} {v : Int} {T : Tm} (e : certT h p v = T) (hok : okT T = true) : T = certL h p v := by
  cases hc : okT (certL h p v) with
  | true => rw [← e, certT_laid hc]
  | false =>
    exfalso
    have e2 : certT h p v = .node 0 0 ByteArray.empty [] := by
      rw [← cert_one]
      unfold certL at hc
      unfold madeT
      rw [hc]
      rfl
    rw [← e, e2] at hok
    exact absurd hok (by decide)

/-- spec.CertOf at whatever term. -/
theorem ofS6 (T : Tm) (op2 n2 : Int) (s2 : ByteArray) (a2 : Option Addr) (len2 cap2 : Nat) (w : World) (hl : Lies w 0 T (tmCells op2 n2 s2 a2 len2 cap2)) (hsz : T.size ≤ 2097152) :
    Calls Tryz.prog 48 #[.agg #[.int .i64 op2, .int .i64 n2, .string s2, .slice a2 len2 cap2]] w fun e w' => Below w.heap.size w w' ∧
      ((∃ h p v op n s a len cap, CP T h p v ∧ e = .returned (.tuple #[.agg #[.string h, .int .i64 op, .int .i64 n, .string s, .slice a len cap, .int .i64 v], .bool true]) ∧ Lies w' w.heap.size p (tmCells op n s a len cap)) ∨
        ((¬ ∃ h p v, CP T h p v) ∧ e = .returned (.tuple #[zeroC, .bool false]))) := by
  cases hb : behO 8 oneT T with
  | none =>
    have hno : ¬ ∃ h p v, CP T h p v := fun ⟨h, p, v, c⟩ => by rw [c.beh] at hb; cases hb
    refine (ofS_no1 (fun _ _ _ _ => True) op2 n2 s2 a2 len2 cap2 0 0 ByteArray.empty 0 w ?_ (fun _ _ _ _ _ h => h) (fun _ _ _ _ _ _ _ _ _ h _ => h)).mono fun e w' h => ⟨h.2, Or.inr ⟨hno, h.1⟩⟩
    intro op n s a len cap v hbv _ hlh
    have hlv := hl.below hbv
    have key : Calls Tryz.prog 59 #[.agg #[.int .i64 op, .int .i64 n, .string s, .slice a len cap], .agg #[.int .i64 op2, .int .i64 n2, .string s2, .slice a2 len2 cap2]] v fun e w' => e = .returned (.tuple #[.agg #[.int .i64 0, .int .i64 0, .string ByteArray.empty, .slice none 0 0], .bool false]) ∧ Below v.heap.size v w' := by
      cases hok : okT T with
      | false => exact signed_no1 T op n s a len cap op2 n2 s2 a2 len2 cap2 v hlv hsz hok
      | true =>
        by_cases h8 : op2 = 8
        · obtain ⟨oT, nT, sT, kT⟩ := T
          have ho : oT = op2 := lies_op hlv
          subst ho
          subst h8
          obtain ⟨k0, k1, rfl⟩ := ok_two (by omega) hok
          obtain ⟨-, rfl, rfl, rfl, b, q, op3, n3, s3, a3, len3, cap3, op4, n4, s4, a4, len4, cap4, rfl, ⟨r0, r1, r2, r3, hk0⟩, r4, r5, r6, r7, hk1⟩ := lies_kids hlv
          refine signed_no3 k0 k1 op n s a len cap n2 s2 b q cap2 op3 n3 s3 a3 len3 cap3 op4 n4 s4 a4 len4 cap4 v hlh hlv hsz hok r0 r1 r2 r3 hk0 r4 r5 r6 r7 hk1 ?_
          simp only [behO, hok, decide_true, Bool.true_and] at hb
          cases hs : sameB k0 oneT with
          | false => rfl
          | true => rw [hs] at hb; simp at hb
        · exact signed_no2 T op n s a len cap op2 n2 s2 a2 len2 cap2 v hlv hsz hok h8
    exact key.mono fun e w' h => ⟨none, 0, h.1, trivial, h.2⟩
  | some body =>
    obtain ⟨nt, st, k0, rfl, hok, hs⟩ := behO_some hb
    have hokb : okT body = true := okT_kid hok (by simp)
    obtain ⟨rfl, rfl, rfl, rfl, b, q, op3, n3, s3, a3, len3, cap3, op4, n4, s4, a4, len4, cap4, rfl, ⟨r0, r1, r2, r3, hk0⟩, r4, r5, r6, r7, hk1⟩ := lies_kids hl
    obtain ⟨K, hK⟩ : ∃ K : Nat → World → Option Addr → Nat → Prop, K = fun L wx a' cap' => Lies wx L body (tmCells op4 n4 s4 a' len4 cap') ∧ w.heap.size + 2 ≤ L := ⟨_, rfl⟩
    have h18 : ∀ op n s a len cap v, Below w.heap.size w v → w.heap.size + 2 ≤ v.heap.size → Lies v 0 halfT (tmCells op n s a len cap) → Calls Tryz.prog 59 #[.agg #[.int .i64 op, .int .i64 n, .string s, .slice a len cap], .agg #[.int .i64 8, .int .i64 n2, .string s2, .slice (some ⟨b, q, none⟩) 2 cap2]] v fun e w' => ∃ a' cap', e = .returned (.tuple #[.agg #[.int .i64 op4, .int .i64 n4, .string s4, .slice a' len4 cap'], .bool true]) ∧ K v.heap.size w' a' cap' ∧ Below v.heap.size v w' := fun op n s a len cap v hbv hv hlh => by
      refine (signed_yes k0 body op n s a len cap n2 s2 b q cap2 op3 n3 s3 a3 len3 cap3 op4 n4 s4 a4 len4 cap4 v hlh (hl.below hbv) hsz hok (kpc hbv r0) (kpc hbv r1) (kpc hbv r2) (kpc hbv r3) (hk0.below hbv) (kpc hbv r4) (kpc hbv r5) (kpc hbv r6) (kpc hbv r7) (hk1.below hbv) hs).mono ?_
      rintro e w' ⟨a', cap', h1, h2, h3⟩
      exact ⟨a', cap', h1, by rw [hK]; exact ⟨h2, hv⟩, h3⟩
    have hKa : ∀ L v o a' cap', K L v a' cap' → K L (v.alloc o) a' cap' := fun L v o a' cap' h => by
      rw [hK] at h ⊢
      exact ⟨h.1.below (ab _), h.2⟩
    have hKs : ∀ L v g x0 x1 x2 x3 a' cap', K L v a' cap' → g < L → K L ((((v.setCell ⟨g, 0, none⟩ x0).setCell ⟨g, 1, none⟩ x1).setCell ⟨g, 2, none⟩ x2).setCell ⟨g, 3, none⟩ x3) a' cap' := fun L v g x0 x1 x2 x3 a' cap' h hg => by
      rw [hK] at h ⊢
      exact ⟨set4_lies h.1 hg L (Nat.le_refl _), h.2⟩
    have hKy : ∀ L v a' cap', K L v a' cap' → Lies v L body (tmCells op4 n4 s4 a' len4 cap') ∧ w.heap.size + 2 ≤ L := fun L v a' cap' h => by rw [hK] at h; exact h
    clear hK
    obtain ⟨ob, nb, sb, kb⟩ := body
    have hob : ob = op4 := lies_op hk1
    subst hob
    by_cases h3 : ob = 3
    · subst h3
      obtain ⟨b0, b1, eb, hokb0, hokb1⟩ := ok_pair (Or.inl rfl) hokb
      obtain ⟨o1, m1, z1, kk1⟩ := b1
      by_cases h6 : o1 = 3
      · subst h6
        obtain ⟨c0, c1, ec, hokc0, hokc1⟩ := ok_pair (Or.inl rfl) hokb1
        have hstr : ∀ {t : Tm}, okT t = true → ∀ x : ByteArray, strT t = x → x.size ≤ 2097152 := fun {t} ht x hx => by
          cases t with
          | node o m z k =>
            have := (ok_head ht).2.2.2
            have hx' : z = x := hx
            rw [← hx']
            omega
        refine (ofS_all K 8 n2 s2 _ 2 cap2 _ 3 n4 s4 len4 w _ b0 c0 c1 (by rw [eb, ec]) hl (hstr hokc1) (hstr hokb0) (by have := okT_200 hokc0; omega) hKy h18 hKa hKs).mono ?_
        rintro e w' ⟨hbw, h | h⟩
        · obtain ⟨h1, v, op, n, s, a, len, cap, e1, ⟨hc, hsm⟩, hev, hlz⟩ := h
          subst e1
          exact ⟨hbw, Or.inl ⟨strT b0, c0, v, op, n, s, a, len, cap, ⟨certT_ok (same_alike.1 hsm) hok, hc, hok⟩, hev, hlz⟩⟩
        · refine ⟨hbw, Or.inr ⟨fun ⟨h1, p1, v1, c⟩ => ?_, h.1⟩⟩
          have e := c.beh
          rw [e] at hb
          rw [eb, ec] at hb
          simp only [Option.some.injEq, Tm.node.injEq, List.cons.injEq, and_true, true_and] at hb
          obtain ⟨g1, g2, g3⟩ := hb
          have hcb := certB_ok c.2.1
          refine h.2 v1 ⟨hcb.2.2.2.1, hcb.2.2.2.2, by rw [← g3]; rfl⟩ ?_
          have es : strT b0 = h1 := by rw [← g1]; rfl
          rw [es, ← g2]
          refine ⟨c.2.1, same_alike.2 ?_⟩
          have hok' := hok
          rw [c.1] at hok' ⊢
          exact certT_laid hok'
      · refine (ofS_no3 K 8 n2 s2 _ 2 cap2 _ 3 n4 s4 len4 w b0 _ eb h6 hKy h18 hKa hKs).mono fun e w' h => ⟨h.2, Or.inr ⟨fun ⟨h1, p1, v1, c⟩ => ?_, h.1⟩⟩
        have e := c.beh
        rw [e, eb] at hb
        simp only [Option.some.injEq, Tm.node.injEq, List.cons.injEq, and_true, true_and] at hb
        exact h6 hb.2.1.symm
    · refine (ofS_no2 K 8 n2 s2 _ 2 cap2 ob n4 s4 len4 w h3 h18 hKa hKs).mono fun e w' h => ⟨h.2, Or.inr ⟨fun ⟨h1, p1, v1, c⟩ => ?_, h.1⟩⟩
      have e := c.beh
      rw [e] at hb
      simp only [Option.some.injEq, Tm.node.injEq] at hb
      exact h3 hb.1.symm

theorem RowC.only {ty : TypeId} {w w' : World} {b : Nat} {h : ByteArray} {op n : Int} {s : ByteArray} {a : Option Addr} {len cap : Nat} {u : Int} {f : List Nat} (hr : RowC ty w b h op n s a len cap u) (hb : Only f w w') (hf : b ∉ f) : RowC ty w' b h op n s a len cap u := (hb.block b hr.lt hf).trans hr

theorem held_markedC (T : Tm) (op n : Int) (s : ByteArray) (a : Option Addr) (len cap k : Nat) (w : World) (hl : Lies w 0 (T.marked k) (tmCells op n s a len cap)) (h1 : 1 ≤ k) (hz : k + 3 * T.size ≤ 1099511627776) :
    Calls Tryz.prog 47 #[.agg #[.int .i64 op, .int .i64 n, .string s, .slice a len cap], .int .i64 (k : Int)] w fun e w' => e = .returned (.int .i64 ((k + 3 * Tm.sizes T.kids : Nat) : Int)) ∧ Below w.heap.size w w' := by
  obtain ⟨op', n', s', ks⟩ := T
  have hh := hl
  simp only [Tm.marked, Lies, tmCells, List.cons.injEq, Value.int.injEq, Value.string.injEq, true_and] at hh
  obtain ⟨_, _, ⟨rfl, rfl, rfl, _⟩, _⟩ := hh
  simp only [Tm.size] at hz
  exact held_any op n s ks a len cap k w hl h1 (by omega)

set_option maxRecDepth 100000 in
set_option maxHeartbeats 1000000 in
theorem heldC (P : Tm) (h : ByteArray) (op n : Int) (s : ByteArray) (a : Option Addr) (len cap : Nat) (u : Int) (w : World) (hl : Lies w 0 (P.marked 1) (tmCells op n s a len cap)) (hz : 1 + 3 * P.size ≤ 1099511627776) :
    Calls Tryz.prog 50 #[.agg #[.string h, .int .i64 op, .int .i64 n, .string s, .slice a len cap, .int .i64 u], .int .i64 1] w fun e w' => e = .returned (.int .i64 ((1 + 3 * Tm.sizes P.kids : Nat) : Int)) ∧ Below w.heap.size w w' := by
  have h16 := hide (fun v hl => held_markedC P op n s a len cap 1 v hl (Nat.le_refl _) hz)
  have HL := hide (hl.below (abC (.cells #[.string h, .int .i64 op, .int .i64 n, .string s, .slice a len cap, .int .i64 u] 57)))
  have HB := hide (abC (w := w) (.cells #[.string h, .int .i64 op, .int .i64 n, .string s, .slice a len cap, .int .i64 u] 57))
  generalize 1 + 3 * Tm.sizes P.kids = M at *
  clear hl hz
  go_enter Tryz.func50, Tryz.ntmps50
  go_wp2_with fail
  refine (unhide h16 _ (unhide HL)).mono ?_
  rintro e w2 ⟨rfl, hb2⟩
  have HB2 := hide (btC (unhide HB) hb2)
  have hM : ¬ (M : Int) < 0 := by omega
  clear hb2
  go_wp2_with fail
  go_ret
  exact ⟨rfl, unhide HB2⟩

set_option maxRecDepth 100000 in
set_option maxHeartbeats 8000000 in
theorem lawCertOf (t : Tm) (h : ByteArray) (P : Tm) (v : Int) (B : Bool) (x : Addr) (hPZ : P.size ≤ 200)
    (hS : ∀ (op n : Int) (s : ByteArray) (a : Option Addr) (len cap : Nat) (w : World), Lies w 0 t (tmCells op n s a len cap) → t.size ≤ 2097152 → Calls Tryz.prog 48 #[.agg #[.int .i64 op, .int .i64 n, .string s, .slice a len cap]] w fun e w' => ∃ opW nW sW aW lenW capW, e = .returned (.tuple #[.agg #[.string h, .int .i64 opW, .int .i64 nW, .string sW, .slice aW lenW capW, .int .i64 v], .bool B]) ∧ Lies w' 0 P (tmCells opW nW sW aW lenW capW) ∧ Below w.heap.size w w')
    (hI : ∀ (op n : Int) (s : ByteArray) (a : Option Addr) (len cap : Nat) (w : World), Lies w 0 t (tmCells op n s a len cap) → t.size ≤ 2097152 → ErrAt x w → Var12 w → Tab w → Calls Tryz.prog 49 #[.agg #[.int .i64 op, .int .i64 n, .string s, .slice a len cap]] w fun e w' => ∃ opG nG sG aG lenG capG fp, e = .returned (.tuple #[.agg #[.string h, .int .i64 opG, .int .i64 nG, .string sG, .slice aG lenG capG, .int .i64 v], .bool B]) ∧ Own w' P (tmCells opG nG sG aG lenG capG) fp ∧ (fp.Nodup ∧ ∀ y ∈ fp, w.heap.size ≤ y) ∧ Below w.heap.size w w')
    (op n : Int) (s : ByteArray) (a : Option Addr) (len cap : Nat) (w : World) (hl : Lies w 0 t (tmCells op n s a len cap)) (hv : Var12 w) (htab : Tab w) (herr : ErrAt x w) :
    Calls Tryz.prog 6 #[.agg #[.int .i64 op, .int .i64 n, .string s, .slice a len cap]] w fun e w' => e = .returned (.bool true) ∧ Below w.heap.size w w' := by
  have HER := hide herr
  have HTB := hide htab
  have HVR := hide hv
  clear herr htab hv
  have h11 := hide (sz_calls t)
  have h8 := hide eq_calls
  have hZ := t.size_le
  have hB0 : Below w.heap.size w (w.alloc (.cells #[.int .i64 op, .int .i64 n, .string s, .slice a len cap] 24)) := ab _
  have HL := hide (hl.below hB0)
  have HB0 := hide hB0
  have HA := hide (RowT.new 24 w op n s a len cap)
  clear hl hB0
  by_cases hw : (t.wt : Int) ≤ 1048576
  · have hsz : t.size ≤ 1048577 := by omega
    have hsz2 : t.size ≤ 2097152 := by omega
    have h13 := hide (fun a cap v hv => tp_calls t op n s a len cap v hv hsz2)
    have h15 := hide (fun a cap v hv => hS op n s a len cap v hv hsz2)
    have h16 := hide (fun a cap v hv he hr ht => hI op n s a len cap v hv hsz2 he hr ht)
    have h9 := hide (fun op1 n1 s1 a1 len1 cap1 op2 n2 s2 a2 len2 cap2 W hv hv' => eqC P h op1 n1 s1 a1 len1 cap1 v op2 n2 s2 a2 len2 cap2 W hv hv')
    clear hS hI
    have HKP : Hid (Tm.sizes P.kids ≤ P.size) := by have := size_kids P; show _ ≤ _; omega
    have HTZ : Hid (1 + 3 * P.size ≤ 1099511627776) := by show _ ≤ _; omega
    have HXZ : Hid (1 + 3 * t.size ≤ 1099511627776) := by show _ ≤ _; omega
    have h9x : Hid (∀ (a : Option Addr) (w : World) (fp : List Nat), Own w t (tmCells op n s a len len) fp → fp.Nodup →
        Calls Tryz.prog 46 #[.agg #[.int .i64 op, .int .i64 n, .string s, .slice a len len], .int .i64 1] w fun e w' => e = .returned (.int .i64 ((1 + 3 * Tm.sizes t.kids : Nat) : Int)) ∧ Own w' (t.marked 1) (tmCells op n s a len len) fp ∧ Only fp w w') :=
      fun a w fp ho hnd => mark_any t op n s a len len 1 w fp ho hnd (Nat.le_refl _) (unhide HXZ)
    have h9g : Hid (∀ (op n : Int) (s : ByteArray) (a : Option Addr) (len cap : Nat) (w : World) (fp : List Nat), Own w P (tmCells op n s a len cap) fp → fp.Nodup →
        Calls Tryz.prog 45 #[.agg #[.string h, .int .i64 op, .int .i64 n, .string s, .slice a len cap, .int .i64 v], .int .i64 1] w fun e w' => e = .returned (.int .i64 ((1 + 3 * Tm.sizes P.kids : Nat) : Int)) ∧ Own w' (P.marked 1) (tmCells op n s a len cap) fp ∧ Only fp w w') :=
      fun op n s a len cap w fp ho hnd => markC P h op n s a len cap v w fp ho hnd (unhide HTZ)
    have h10 : Hid (∀ (op n : Int) (s : ByteArray) (a : Option Addr) (len cap : Nat) (w : World), Lies w 0 (P.marked 1) (tmCells op n s a len cap) →
        Calls Tryz.prog 50 #[.agg #[.string h, .int .i64 op, .int .i64 n, .string s, .slice a len cap, .int .i64 v], .int .i64 1] w fun e w' => e = .returned (.int .i64 ((1 + 3 * Tm.sizes P.kids : Nat) : Int)) ∧ Below w.heap.size w w') :=
      fun op n s a len cap w hl => heldC P h op n s a len cap v w hl (unhide HTZ)
    have hmb : (1 + 3 * Tm.sizes P.kids : Nat) ≤ 4194304 := by have := unhide HKP; omega
    have hkb : (1 + 3 * Tm.sizes t.kids : Nat) ≤ 4194304 := by have := size_kids t; omega
    have hBB : (B != B) = false := by simp
    clear hZ hsz hsz2 HKP hPZ
    generalize 1 + 3 * Tm.sizes P.kids = mG at *
    generalize 1 + 3 * Tm.sizes t.kids = mX at *
    obtain ⟨left, hgl⟩ : ∃ left : Int, (1048576 : Int) - t.wt = left := ⟨_, rfl⟩
    have hln : 0 ≤ left := by omega
    go_enter Tryz.func6, Tryz.ntmps6
    go_wp2_with fail
    refine (unhide h11 op n s a len cap _ _ (unhide HL) (by omega) (by omega)).mono ?_
    rintro e w1 ⟨rfl, hb1⟩
    rw [szv_yes hw, hgl]
    have HA1 := hide ((unhide HA).below hb1)
    have HL1 := hide ((unhide HL).below hb1)
    have HB1 := hide (bt (unhide HB0) hb1 (Nat.le_refl _))
    clear hb1 HL HB0 HA hgl hw h11
    obtain ⟨c0, c1, c2, c3⟩ := (unhide HA1).facts
    go_wp2_with fail
    refine (unhide h13 a cap _ (unhide HL1)).mono ?_
    rintro e w2 ⟨a2, f2, rfl, hO2, _, hb2⟩
    have HA2 := hide ((unhide HA1).below hb2)
    have HL2 := hide ((unhide HL1).below hb2)
    have HB2 := hide (bt (unhide HB1) hb2 (Nat.le_refl _))
    have HO2 := hide hO2.lies0
    clear hb2 hO2 HA1 HL1 HB1 c0 c1 c2 c3
    go_wp2_with fail
    refine (unhide h15 a2 len _ (unhide HO2)).mono ?_
    rintro e w3 ⟨opW, nW, sW, aW, lenW, capW, rfl, hL3, hb3⟩
    have HA3 := hide ((unhide HA2).below hb3)
    have HL3 := hide ((unhide HL2).below hb3)
    have HB3 := hide (bt (unhide HB2) hb3 (Nat.le_refl _))
    have HW3 := hide hL3
    clear hb3 hL3 HA2 HL2 HB2 HO2
    have HVB := hide (bt (unhide HB3) (ab (.cells #[.string h, .int .i64 opW, .int .i64 nW, .string sW, .slice aW lenW capW, .int .i64 v] 57)) (Nat.le_refl _))
    have HVA := hide ((unhide HA3).below (ab (.cells #[.string h, .int .i64 opW, .int .i64 nW, .string sW, .slice aW lenW capW, .int .i64 v] 57)))
    have HVW := hide (RowC.new 57 w3 h opW nW sW aW lenW capW v)
    have HVLA := hide ((unhide HL3).below (ab (.cells #[.string h, .int .i64 opW, .int .i64 nW, .string sW, .slice aW lenW capW, .int .i64 v] 57)))
    have HVLW := hide ((unhide HW3).below (ab (.cells #[.string h, .int .i64 opW, .int .i64 nW, .string sW, .slice aW lenW capW, .int .i64 v] 57)))
    obtain ⟨c0, c1, c2, c3⟩ := (unhide HVA).facts
    clear HA3 HL3 HB3 HW3
    go_wp2_with fail
    generalize hV1 : w3.alloc (.cells #[.string h, .int .i64 opW, .int .i64 nW, .string sW, .slice aW lenW capW, .int .i64 v] 57) = V1 at *
    generalize w3.heap.size = bW at *
    clear hV1
    refine (unhide h13 a cap _ (unhide HVLA)).mono ?_
    rintro e w4 ⟨a4, f4, rfl, hO4, ⟨hnd4, hge4⟩, hb4⟩
    have HND4 := hide hnd4
    have HGE4 := hide hge4
    have HLT4 := hide (Own.lt _ _ _ hO4)
    have hb4' := bt hb4 (ab (.cells #[.int .i64 op, .int .i64 n, .string s, .slice a4 len len] 29)) (Nat.le_refl _)
    have HV2 := hide hb4'
    have HXR := hide (RowT.new 29 w4 op n s a4 len len)
    have HXO := hide (hO4.below (ab (.cells #[.int .i64 op, .int .i64 n, .string s, .slice a4 len len] 29)))
    clear hO4 hnd4 hge4 hb4 hb4' c0 c1 c2 c3
    obtain ⟨c0, c1, c2, c3⟩ := (unhide HXR).facts
    go_wp2_with fail
    generalize hV2 : w4.alloc (.cells #[.int .i64 op, .int .i64 n, .string s, .slice a4 len len] 29) = V2 at *
    have HGX : Hid (w4.heap.size + 1 = V2.heap.size) := by show _ = _; rw [← hV2, heap_size_alloc]
    generalize w4.heap.size = bX at *
    clear hV2
    have hVV := bt (unhide HVB) (unhide HV2) (Nat.le_refl _)
    refine (unhide h16 a4 len _ (unhide HXO).lies0 ((unhide HER).on hVV) ((unhide HVR).on hVV) ((unhide HTB).on hVV)).mono ?_
    rintro e w5 ⟨opG, nG, sG, aG, lenG, capG, f5, rfl, hO5, ⟨hnd5, hge5⟩, hb5⟩
    have HND5 := hide hnd5
    have HGE5 := hide hge5
    have HLT5 := hide (Own.lt _ _ _ hO5)
    have HBG := hide hb5.size
    have hb5' := bt hb5 (ab (.cells #[.string h, .int .i64 opG, .int .i64 nG, .string sG, .slice aG lenG capG, .int .i64 v] 57)) (Nat.le_refl _)
    have HV3 := hide hb5'
    have HV13 := hide (bt (unhide HV2) hb5' (Nat.le_refl _))
    have HGR := hide (RowC.new 57 w5 h opG nG sG aG lenG capG v)
    have HGO := hide (hO5.below (ab (.cells #[.string h, .int .i64 opG, .int .i64 nG, .string sG, .slice aG lenG capG, .int .i64 v] 57)))
    clear hVV hO5 hnd5 hge5 hb5 hb5' c0 c1 c2 c3
    obtain ⟨c0, c1, c2, c3, c4, c5⟩ := (unhide HGR).facts
    obtain ⟨d0, d1, d2, d3, d4, d5⟩ := ((unhide HVW).below (unhide HV13)).facts
    go_wp2_with fail
    generalize hV3 : w5.alloc (.cells #[.string h, .int .i64 opG, .int .i64 nG, .string sG, .slice aG lenG capG, .int .i64 v] 57) = V3 at *
    have HGG : Hid (w5.heap.size + 1 = V3.heap.size) := by show _ = _; rw [← hV3, heap_size_alloc]
    generalize w5.heap.size = bG at *
    clear hV3
    refine (unhide h9 opG nG sG aG lenG capG opW nW sW aW lenW capW _ (unhide HGO).lies0 ((unhide HVLW).below (unhide HV13))).mono ?_
    rintro e w6 ⟨rfl, hb6⟩
    have HV16 := hide (bt (unhide HV13) hb6 (Nat.le_refl _))
    have HV26 := hide (bt (unhide HV3) hb6 (Nat.le_refl _))
    have HGR6 := hide ((unhide HGR).below hb6)
    have HGO6 := hide ((unhide HGO).below hb6)
    clear hb6 c0 c1 c2 c3 c4 c5 d0 d1 d2 d3 d4 d5 HV13 HV3 HGR HGO
    obtain ⟨c0, c1, c2, c3⟩ := ((unhide HXR).below (unhide HV26)).facts
    obtain ⟨d0, d1, d2, d3⟩ := ((unhide HVA).below (unhide HV16)).facts
    have HLA6 := hide ((unhide HVLA).below (unhide HV16).drew)
    have HXO6 := hide ((unhide HXO).below (unhide HV26).drew)
    go_wp2_with fail
    go_region_held3 (fun x => x.cell? ⟨bX, 0, none⟩ = some (.int .i64 op) ∧ x.cell? ⟨bX, 1, none⟩ = some (.int .i64 n) ∧ x.cell? ⟨bX, 2, none⟩ = some (.string s) ∧ x.cell? ⟨bX, 3, none⟩ = some (.slice a4 len len) ∧
        x.cell? ⟨w.heap.size, 0, none⟩ = some (.int .i64 op) ∧ x.cell? ⟨w.heap.size, 1, none⟩ = some (.int .i64 n) ∧ x.cell? ⟨w.heap.size, 2, none⟩ = some (.string s) ∧ x.cell? ⟨w.heap.size, 3, none⟩ = some (.slice a len cap)) (go_keep)
      (first
        | (go_at_call 11
           refine (unhide h13 a cap _ (unhide HLA6)).mono ?_
           rintro e w7 ⟨a7, f7, rfl, hO7, _, hb7⟩
           have hb7' := hide (below_drew' hb7)
           have HO7 := hide hO7.lies0
           have HX7 := hide ((unhide HXO6).below hb7).lies0
           have f0 := kpc (unhide hb7') c0
           have f1 := kpc (unhide hb7') c1
           have f2 := kpc (unhide hb7') c2
           have f3 := kpc (unhide hb7') c3
           have e0 := kpc (unhide hb7') d0
           have e1 := kpc (unhide hb7') d1
           have e2 := kpc (unhide hb7') d2
           have e3 := kpc (unhide hb7') d3)
        | (go_at_call 13
           refine (unhide h8 t op n s a4 len len op n s a7 len len _ (unhide HX7) (unhide HO7)).mono ?_
           rintro e w8 ⟨rfl, hb8⟩
           have g0 := kpc hb8 f0
           have g1 := kpc hb8 f1
           have g2 := kpc hb8 f2
           have g3 := kpc hb8 f3
           have i0 := kpc hb8 e0
           have i1 := kpc hb8 e1
           have i2 := kpc hb8 e2
           have i3 := kpc hb8 e3
           have hb8' := hide hb8))
    have HV18 := hide (bt (bt (unhide HV16) (unhide hb7') (Nat.le_refl _)) (unhide hb8') (Nat.le_refl _))
    have HGR8 := hide (((unhide HGR6).below (unhide hb7')).below (unhide hb8'))
    have HGO8 := hide (((unhide HGO6).below (unhide hb7')).below (unhide hb8'))
    have HXO8 := hide (((unhide HXO).below (unhide HV26)).below (unhide hb7') |>.below (unhide hb8'))
    clear f0 f1 f2 f3 e0 e1 e2 e3 c0 c1 c2 c3 d0 d1 d2 d3 HV16 HV26 HGR6 HGO6 HXO6 HLA6 hb7' hb8' HO7 HX7
    go_wp2_with fail
    refine (unhide h9x a4 _ _ (unhide HXO8) (unhide HND4)).mono ?_
    rintro e w9 ⟨rfl, _, o9⟩
    have HV19 := hide ((unhide HV18).trans (o9.below (unhide HV18).size (unhide HGE4)))
    have HGR9 := hide ((unhide HGR8).only o9 (fun hx => by have := unhide HLT4 _ hx; have := unhide HBG; have := unhide HGX; omega))
    have HGO9 := hide ((unhide HGO8).only o9 (fun x hx hx4 => by have := unhide HLT4 _ hx4; have := unhide HGE5 _ hx; have := unhide HGX; omega))
    clear o9 HV18 HGR8 HGO8 HXO8 g0 g1 g2 g3 i0 i1 i2 i3
    obtain ⟨c0, c1, c2, c3, c4, c5⟩ := (unhide HGR9).facts
    obtain ⟨d0, d1, d2, d3, d4, d5⟩ := ((unhide HVW).below (unhide HV19)).facts
    go_wp2_with fail
    refine (unhide h9 opG nG sG aG lenG capG opW nW sW aW lenW capW _ (unhide HGO9).lies0 ((unhide HVLW).below (unhide HV19))).mono ?_
    rintro e w10 ⟨rfl, hb10⟩
    have HV20 := hide (bt (unhide HV19) hb10 (Nat.le_refl _))
    have HGR10 := hide ((unhide HGR9).below hb10)
    have HGO10 := hide ((unhide HGO9).below hb10)
    clear hb10 HV19 HGR9 HGO9 c0 c1 c2 c3 c4 c5 d0 d1 d2 d3 d4 d5
    obtain ⟨c0, c1, c2, c3, c4, c5⟩ := (unhide HGR10).facts
    go_wp2_with fail
    refine (unhide h9g opG nG sG aG lenG capG _ _ (unhide HGO10) (unhide HND5)).mono ?_
    rintro e w11 ⟨rfl, k11, o11⟩
    have HV21 := hide ((unhide HV20).trans (o11.below (unhide HV20).size (fun x hx => by have := unhide HGE5 _ hx; have := (unhide HV2).size; omega)))
    have HGR11 := hide ((unhide HGR10).only o11 (fun hx => by have := unhide HLT5 _ hx; omega))
    have HGO11 := hide k11.lies0
    clear o11 k11 HV20 HGR10 HGO10 c0 c1 c2 c3 c4 c5
    obtain ⟨c0, c1, c2, c3, c4, c5⟩ := (unhide HGR11).facts
    go_wp2_with fail
    refine (unhide h10 opG nG sG aG lenG capG _ (unhide HGO11)).mono ?_
    rintro e w12 ⟨rfl, hb12⟩
    have HV22 := hide (bt (unhide HV21) hb12 (Nat.le_refl _))
    have HGR12 := hide ((unhide HGR11).below hb12)
    have HGO12 := hide ((unhide HGO11).below hb12)
    clear hb12 HV21 HGR11 HGO11 c0 c1 c2 c3 c4 c5
    obtain ⟨d0, d1, d2, d3⟩ := ((unhide HVA).below (unhide HV22)).facts
    go_wp2_with fail
    refine (unhide h13 a cap _ ((unhide HVLA).below (unhide HV22))).mono ?_
    rintro e w13 ⟨a13, f13, rfl, hO13, _, hb13⟩
    have HV23 := hide (bt (unhide HV22) hb13 (Nat.le_refl _))
    have HGR13 := hide ((unhide HGR12).below hb13)
    have HGO13 := hide ((unhide HGO12).below hb13)
    have HO13 := hide hO13.lies0
    clear hb13 hO13 HV22 HGR12 HGO12 d0 d1 d2 d3
    have hVV := bt (unhide HVB) (unhide HV23) (Nat.le_refl _)
    have HE13 := hide ((unhide HER).on hVV)
    have HR13 := hide ((unhide HVR).on hVV)
    have HT13 := hide ((unhide HTB).on hVV)
    clear hVV
    go_wp2_with fail
    refine (unhide h16 a13 len _ (unhide HO13) (unhide HE13) (unhide HR13) (unhide HT13)).mono ?_
    rintro e w14 ⟨opH, nH, sH, aH, lenH, capH, f14, rfl, hO14, _, hb14⟩
    have hb14' := bt hb14 (ab (.cells #[.string h, .int .i64 opH, .int .i64 nH, .string sH, .slice aH lenH capH, .int .i64 v] 57)) (Nat.le_refl _)
    have HV24 := hide (bt (unhide HV23) hb14' (Nat.le_refl _))
    have HGR14 := hide ((unhide HGR13).below hb14')
    have HGO14 := hide ((unhide HGO13).below hb14')
    have HHO := hide (hO14.below (ab (.cells #[.string h, .int .i64 opH, .int .i64 nH, .string sH, .slice aH lenH capH, .int .i64 v] 57))).lies0
    clear hb14 hb14' hO14 HV23 HGR13 HGO13 HO13
    obtain ⟨c0, c1, c2, c3, c4, c5⟩ := (RowC.new 57 w14 h opH nH sH aH lenH capH v).facts
    obtain ⟨d0, d1, d2, d3, d4, d5⟩ := ((unhide HVW).below (unhide HV24)).facts
    go_wp2_with fail
    refine (unhide h9 opH nH sH aH lenH capH opW nW sW aW lenW capW _ (unhide HHO) ((unhide HVLW).below (unhide HV24))).mono ?_
    rintro e w15 ⟨rfl, hb15⟩
    have HV25 := hide (bt (unhide HV24) hb15 (Nat.le_refl _))
    have HGR15 := hide ((unhide HGR14).below hb15)
    have HGO15 := hide ((unhide HGO14).below hb15)
    clear hb15 HV24 HGR14 HGO14 HHO c0 c1 c2 c3 c4 c5 d0 d1 d2 d3 d4 d5
    obtain ⟨c0, c1, c2, c3, c4, c5⟩ := (unhide HGR15).facts
    go_wp2_with fail
    refine (unhide h10 opG nG sG aG lenG capG _ (unhide HGO15)).mono ?_
    rintro e w16 ⟨rfl, hb16⟩
    have HV26 := hide (bt (unhide HV25) hb16 (Nat.le_refl _))
    clear hb16 c0 c1 c2 c3 c4 c5
    go_wp2_with fail
    go_ret
    exact ⟨rfl, (unhide HVB).trans ((unhide HV26).mono (unhide HVB).size)⟩
  · go_enter Tryz.func6, Tryz.ntmps6
    go_wp2_with fail
    refine (unhide h11 op n s a len cap _ _ (unhide HL) (by omega) (by omega)).mono ?_
    rintro e w2 ⟨rfl, hb2⟩
    rw [szv_no (by omega)]
    go_wp2_with fail
    go_ret
    exact ⟨rfl, bt (unhide HB0) hb2 (Nat.le_refl _)⟩

set_option maxRecDepth 100000 in
set_option maxHeartbeats 2000000 in
theorem goodP_no1 (op2 n2 : Int) (s2 : ByteArray) (a2 : Option Addr) (len2 cap2 : Nat) (hs : ByteArray) (m : Int) (x : Addr) (w : World) (hr : ∀ W, Below w.heap.size w W → Calls Tryz.prog 108 #[.agg #[.int .i64 op2, .int .i64 n2, .string s2, .slice a2 len2 cap2]] W fun e w' => Below W.heap.size W w' ∧ e = .returned (.tuple #[zeroC, .iface 202 (.pointer (some x))])) :
    Calls Tryz.prog 97 #[.agg #[.int .i64 op2, .int .i64 n2, .string s2, .slice a2 len2 cap2], .string hs, .int .i64 m] w fun e w' => e = .returned (.tuple #[.agg #[.int .i64 0, .int .i64 0, .string ByteArray.empty, .slice none 0 0], .iface 202 (.pointer (some x))]) ∧ Below w.heap.size w w' := by
  have h26 := hide hr
  unfold zeroC at h26
  have hB0 : Below w.heap.size w ((w.alloc (.cells #[.int .i64 op2, .int .i64 n2, .string s2, .slice a2 len2 cap2] 29)).alloc (.cells #[.int .i64 0, .int .i64 0, .string ByteArray.empty, .slice none 0 0] 29)) := bt (ab _) (ab _) (Nat.le_refl _)
  have HX : Hid (ZBox ((w.alloc (.cells #[.int .i64 op2, .int .i64 n2, .string s2, .slice a2 len2 cap2] 29)).alloc (.cells #[.int .i64 0, .int .i64 0, .string ByteArray.empty, .slice none 0 0] 29)) (w.heap.size + 1)) := by
    have := ZBox.new (w.alloc (.cells #[.int .i64 op2, .int .i64 n2, .string s2, .slice a2 len2 cap2] 29))
    rwa [heap_size_alloc] at this
  have HB0 := hide hB0
  clear hB0 hr
  go_enter Tryz.func97, Tryz.ntmps97
  go_wp2_with fail
  refine (unhide h26 _ (unhide HB0)).mono ?_
  rintro e w2 ⟨hb2, rfl⟩
  have hb2' := bt hb2 (ab (.cells #[.string ByteArray.empty, .int .i64 0, .int .i64 0, .string ByteArray.empty, .slice none 0 0, .int .i64 0] 57)) (Nat.le_refl _)
  have HB2 := hide (bt (unhide HB0) hb2' (Nat.le_refl _))
  obtain ⟨p0, p1, p2, p3, q0, q1, q2, q3⟩ := ((unhide HX).below hb2').facts
  obtain ⟨p0', p1', p2', p3', q0', q1', q2', q3'⟩ := ((unhide HX).below hb2).facts
  have hlX := lt_of_cell p0'
  have nX := Nat.ne_of_lt hlX
  have mX := Ne.symm nX
  have HX2 := hide ((unhide HX).below hb2)
  have HB2 := hide (bt (unhide HB0) hb2 (Nat.le_refl _))
  clear hb2 hb2'
  go_wp2_with fail
  have HF := hide ((fill26 (unhide HX2) 0 0 ⟨#[]⟩ none 0 0).below (ab (.cells #[.string ByteArray.empty, .int .i64 0, .int .i64 0, .string ByteArray.empty, .slice none 0 0, .int .i64 0] 57)))
  obtain ⟨f0, f1, f2, f3⟩ := (unhide HF).facts
  refine bodyPost_ret (v := .tuple #[.agg #[.int .i64 0, .int .i64 0, .string ByteArray.empty, .slice none 0 0], .iface 202 (.pointer (some x))]) (by simp [results, Tryz.results97, go_sem, f0, f1, f2, f3]; try rfl) rfl ⟨rfl, ?_⟩
  exact (set4_below (unhide HB2) (by omega)).alloc (by simp only [set_size]; exact (unhide HB2).size) _

set_option maxRecDepth 100000 in
set_option maxHeartbeats 2000000 in
theorem goodP_no2 (op2 n2 : Int) (s2 : ByteArray) (a2 : Option Addr) (len2 cap2 : Nat) (hs : ByteArray) (m : Int) (x : Addr) (w : World) (he : ErrAt x w) (h : ByteArray) (p : Tm) (v : Int) (hh : h ≠ hs) (hr : ∀ W, Below w.heap.size w W → Calls Tryz.prog 108 #[.agg #[.int .i64 op2, .int .i64 n2, .string s2, .slice a2 len2 cap2]] W fun e w' => Below W.heap.size W w' ∧ ∃ op n s a len cap, e = .returned (.tuple #[.agg #[.string h, .int .i64 op, .int .i64 n, .string s, .slice a len cap, .int .i64 v], .nilIface]) ∧ Lies w 0 p (tmCells op n s a len cap)) :
    Calls Tryz.prog 97 #[.agg #[.int .i64 op2, .int .i64 n2, .string s2, .slice a2 len2 cap2], .string hs, .int .i64 m] w fun e w' => e = .returned (.tuple #[.agg #[.int .i64 0, .int .i64 0, .string ByteArray.empty, .slice none 0 0], .iface 202 (.pointer (some x))]) ∧ Below w.heap.size w w' := by
  have q9 : (h.toList == hs.toList) = false := by rw [beq_eq_false_iff_ne]; intro e; exact hh (toList_inj e)
  clear hh
  have h26 := hide hr
  have hB0 : Below w.heap.size w ((w.alloc (.cells #[.int .i64 op2, .int .i64 n2, .string s2, .slice a2 len2 cap2] 29)).alloc (.cells #[.int .i64 0, .int .i64 0, .string ByteArray.empty, .slice none 0 0] 29)) := bt (ab _) (ab _) (Nat.le_refl _)
  have HX : Hid (ZBox ((w.alloc (.cells #[.int .i64 op2, .int .i64 n2, .string s2, .slice a2 len2 cap2] 29)).alloc (.cells #[.int .i64 0, .int .i64 0, .string ByteArray.empty, .slice none 0 0] 29)) (w.heap.size + 1)) := by
    have := ZBox.new (w.alloc (.cells #[.int .i64 op2, .int .i64 n2, .string s2, .slice a2 len2 cap2] 29))
    rwa [heap_size_alloc] at this
  have HB0 := hide hB0
  have HER := hide (he.on hB0)
  clear hB0 hr he
  go_enter Tryz.func97, Tryz.ntmps97
  go_wp2_with fail
  refine (unhide h26 _ (unhide HB0)).mono ?_
  rintro e w2 ⟨hb2, op, n, s, a, len, cap, rfl, hL2⟩
  have HB2 := hide (bt (unhide HB0) hb2 (Nat.le_refl _))
  have HX2 := hide ((unhide HX).below hb2)
  have HER2 := hide ((unhide HER).on (bt hb2 (ab (.cells #[.string h, .int .i64 op, .int .i64 n, .string s, .slice a len cap, .int .i64 v] 57)) (Nat.le_refl _)))
  have HL2 := hide hL2
  have HXL : Hid (w.heap.size + 1 < w2.heap.size) := lt_of_heap (unhide HX2)
  obtain ⟨p0, p1, p2, p3, q0, q1, q2, q3⟩ := (unhide HX2).facts
  have g0 := (unhide HER2).cell
  have hlX := lt_of_cell p0
  have nX := Nat.ne_of_lt hlX
  have mX := Ne.symm nX
  have hne : (w.heap.size + 1 = 0) = False := by simp
  have hne' : (0 = w.heap.size + 1) = False := by simp
  clear hb2 hL2
  go_wp2_with fail
  generalize hV2 : w2.alloc (.cells #[.string h, .int .i64 op, .int .i64 n, .string s, .slice a len cap, .int .i64 v] 57) = V2 at *
  have HXV : Hid (ZBox V2 (w.heap.size + 1)) := by rw [← hV2]; exact (unhide HX2).below (ab _)
  have HBV : Hid (Below w.heap.size w V2) := by rw [← hV2]; exact bt (unhide HB2) (ab _) (Nat.le_refl _)
  clear p0 p1 p2 p3 q0 q1 q2 q3
  obtain ⟨p0, p1, p2, p3, q0, q1, q2, q3⟩ := (unhide HXV).facts
  clear hV2
  go_region
  all_goals go_wp2_with fail
  all_goals exact bodyPost_ret (v := .tuple #[.agg #[.int .i64 0, .int .i64 0, .string ByteArray.empty, .slice none 0 0], .iface 202 (.pointer (some x))]) (by simp [results, Tryz.results97, go_sem, p0, p1, p2, p3]; try rfl) rfl ⟨rfl, by first | exact (set4_below (unhide HBV) (by omega)).drew | exact set4_below (unhide HBV) (by omega)⟩

set_option maxRecDepth 100000 in
set_option maxHeartbeats 2000000 in
theorem goodP_no3 (op2 n2 : Int) (s2 : ByteArray) (a2 : Option Addr) (len2 cap2 : Nat) (hs : ByteArray) (m : Int) (x : Addr) (w : World) (he : ErrAt x w) (h : ByteArray) (p : Tm) (v : Int) (hh : h = hs) (hm : v < m) (hr : ∀ W, Below w.heap.size w W → Calls Tryz.prog 108 #[.agg #[.int .i64 op2, .int .i64 n2, .string s2, .slice a2 len2 cap2]] W fun e w' => Below W.heap.size W w' ∧ ∃ op n s a len cap, e = .returned (.tuple #[.agg #[.string h, .int .i64 op, .int .i64 n, .string s, .slice a len cap, .int .i64 v], .nilIface]) ∧ Lies w 0 p (tmCells op n s a len cap)) :
    Calls Tryz.prog 97 #[.agg #[.int .i64 op2, .int .i64 n2, .string s2, .slice a2 len2 cap2], .string hs, .int .i64 m] w fun e w' => e = .returned (.tuple #[.agg #[.int .i64 0, .int .i64 0, .string ByteArray.empty, .slice none 0 0], .iface 202 (.pointer (some x))]) ∧ Below w.heap.size w w' := by
  have q9 : (h.toList == hs.toList) = true := by rw [hh]; simp
  clear hh
  have h26 := hide hr
  have hB0 : Below w.heap.size w ((w.alloc (.cells #[.int .i64 op2, .int .i64 n2, .string s2, .slice a2 len2 cap2] 29)).alloc (.cells #[.int .i64 0, .int .i64 0, .string ByteArray.empty, .slice none 0 0] 29)) := bt (ab _) (ab _) (Nat.le_refl _)
  have HX : Hid (ZBox ((w.alloc (.cells #[.int .i64 op2, .int .i64 n2, .string s2, .slice a2 len2 cap2] 29)).alloc (.cells #[.int .i64 0, .int .i64 0, .string ByteArray.empty, .slice none 0 0] 29)) (w.heap.size + 1)) := by
    have := ZBox.new (w.alloc (.cells #[.int .i64 op2, .int .i64 n2, .string s2, .slice a2 len2 cap2] 29))
    rwa [heap_size_alloc] at this
  have HB0 := hide hB0
  have HER := hide (he.on hB0)
  clear hB0 hr he
  go_enter Tryz.func97, Tryz.ntmps97
  go_wp2_with fail
  refine (unhide h26 _ (unhide HB0)).mono ?_
  rintro e w2 ⟨hb2, op, n, s, a, len, cap, rfl, hL2⟩
  have HB2 := hide (bt (unhide HB0) hb2 (Nat.le_refl _))
  have HX2 := hide ((unhide HX).below hb2)
  have HER2 := hide ((unhide HER).on (bt hb2 (ab (.cells #[.string h, .int .i64 op, .int .i64 n, .string s, .slice a len cap, .int .i64 v] 57)) (Nat.le_refl _)))
  have HL2 := hide hL2
  have HXL : Hid (w.heap.size + 1 < w2.heap.size) := lt_of_heap (unhide HX2)
  obtain ⟨p0, p1, p2, p3, q0, q1, q2, q3⟩ := (unhide HX2).facts
  have g0 := (unhide HER2).cell
  have hlX := lt_of_cell p0
  have nX := Nat.ne_of_lt hlX
  have mX := Ne.symm nX
  have hne : (w.heap.size + 1 = 0) = False := by simp
  have hne' : (0 = w.heap.size + 1) = False := by simp
  clear hb2 hL2
  go_wp2_with fail
  generalize hV2 : w2.alloc (.cells #[.string h, .int .i64 op, .int .i64 n, .string s, .slice a len cap, .int .i64 v] 57) = V2 at *
  have HXV : Hid (ZBox V2 (w.heap.size + 1)) := by rw [← hV2]; exact (unhide HX2).below (ab _)
  have HBV : Hid (Below w.heap.size w V2) := by rw [← hV2]; exact bt (unhide HB2) (ab _) (Nat.le_refl _)
  clear p0 p1 p2 p3 q0 q1 q2 q3
  obtain ⟨p0, p1, p2, p3, q0, q1, q2, q3⟩ := (unhide HXV).facts
  clear hV2
  go_region
  all_goals go_wp2_with fail
  all_goals exact bodyPost_ret (v := .tuple #[.agg #[.int .i64 0, .int .i64 0, .string ByteArray.empty, .slice none 0 0], .iface 202 (.pointer (some x))]) (by simp [results, Tryz.results97, go_sem, p0, p1, p2, p3]; try rfl) rfl ⟨rfl, by first | exact (set4_below (unhide HBV) (by omega)).drew | exact set4_below (unhide HBV) (by omega)⟩

set_option maxRecDepth 100000 in
set_option maxHeartbeats 2000000 in
theorem goodP_yes (op2 n2 : Int) (s2 : ByteArray) (a2 : Option Addr) (len2 cap2 : Nat) (hs : ByteArray) (m : Int) (x : Addr) (w : World) (he : ErrAt x w) (h : ByteArray) (p : Tm) (v : Int) (hh : h = hs) (hm : ¬ v < m) (hr : ∀ W, Below w.heap.size w W → Calls Tryz.prog 108 #[.agg #[.int .i64 op2, .int .i64 n2, .string s2, .slice a2 len2 cap2]] W fun e w' => Below W.heap.size W w' ∧ ∃ op n s a len cap, e = .returned (.tuple #[.agg #[.string h, .int .i64 op, .int .i64 n, .string s, .slice a len cap, .int .i64 v], .nilIface]) ∧ Lies w 0 p (tmCells op n s a len cap)) :
    Calls Tryz.prog 97 #[.agg #[.int .i64 op2, .int .i64 n2, .string s2, .slice a2 len2 cap2], .string hs, .int .i64 m] w fun e w' => ∃ op n s a len cap, e = .returned (.tuple #[.agg #[.int .i64 op, .int .i64 n, .string s, .slice a len cap], .nilIface]) ∧ Lies w' 0 p (tmCells op n s a len cap) ∧ Below w.heap.size w w' := by
  have q9 : (h.toList == hs.toList) = true := by rw [hh]; simp
  clear hh
  have h26 := hide hr
  have hB0 : Below w.heap.size w ((w.alloc (.cells #[.int .i64 op2, .int .i64 n2, .string s2, .slice a2 len2 cap2] 29)).alloc (.cells #[.int .i64 0, .int .i64 0, .string ByteArray.empty, .slice none 0 0] 29)) := bt (ab _) (ab _) (Nat.le_refl _)
  have HX : Hid (ZBox ((w.alloc (.cells #[.int .i64 op2, .int .i64 n2, .string s2, .slice a2 len2 cap2] 29)).alloc (.cells #[.int .i64 0, .int .i64 0, .string ByteArray.empty, .slice none 0 0] 29)) (w.heap.size + 1)) := by
    have := ZBox.new (w.alloc (.cells #[.int .i64 op2, .int .i64 n2, .string s2, .slice a2 len2 cap2] 29))
    rwa [heap_size_alloc] at this
  have HB0 := hide hB0
  have HER := hide (he.on hB0)
  clear hB0 hr he
  go_enter Tryz.func97, Tryz.ntmps97
  go_wp2_with fail
  refine (unhide h26 _ (unhide HB0)).mono ?_
  rintro e w2 ⟨hb2, op, n, s, a, len, cap, rfl, hL2⟩
  have HB2 := hide (bt (unhide HB0) hb2 (Nat.le_refl _))
  have HX2 := hide ((unhide HX).below hb2)
  have HER2 := hide ((unhide HER).on (bt hb2 (ab (.cells #[.string h, .int .i64 op, .int .i64 n, .string s, .slice a len cap, .int .i64 v] 57)) (Nat.le_refl _)))
  have HL2 := hide hL2
  have HXL : Hid (w.heap.size + 1 < w2.heap.size) := lt_of_heap (unhide HX2)
  obtain ⟨p0, p1, p2, p3, q0, q1, q2, q3⟩ := (unhide HX2).facts
  have g0 := (unhide HER2).cell
  have hlX := lt_of_cell p0
  have nX := Nat.ne_of_lt hlX
  have mX := Ne.symm nX
  have hne : (w.heap.size + 1 = 0) = False := by simp
  have hne' : (0 = w.heap.size + 1) = False := by simp
  clear hb2 hL2
  have hpV := hide (RowC.new 57 w2 h op n s a len cap v)
  go_wp2_with fail
  have HF := hide ((fill26 (unhide HX2) op n s a len cap).below (ab (.cells #[.string h, .int .i64 op, .int .i64 n, .string s, .slice a len cap, .int .i64 v] 57)))
  obtain ⟨f0, f1, f2, f3⟩ := (unhide HF).facts
  refine bodyPost_ret (v := .tuple #[.agg #[.int .i64 op, .int .i64 n, .string s, .slice a len cap], .nilIface]) (by simp [results, Tryz.results97, go_sem, f0, f1, f2, f3]; try rfl) rfl ⟨op, n, s, a, len, cap, rfl, ?_, ?_⟩
  · exact (unhide HL2).below ((set4_below (unhide HB2) (by omega)).alloc (by simp only [set_size]; exact (unhide HB2).size) _)
  · exact (set4_below (unhide HB2) (by omega)).alloc (by simp only [set_size]; exact (unhide HB2).size) _

set_option maxRecDepth 100000 in
set_option maxHeartbeats 2000000 in
theorem goodI_yes (op2 n2 : Int) (s2 : ByteArray) (a2 : Option Addr) (len2 cap2 : Nat) (hs : ByteArray) (m : Int) (x : Addr) (w : World) (he : ErrAt x w) (p : Tm) (hp : p.size + p.wt ≤ 4194304)
    (h30 : ∀ W, Below w.heap.size w W → Calls Tryz.prog 97 #[.agg #[.int .i64 op2, .int .i64 n2, .string s2, .slice a2 len2 cap2], .string hs, .int .i64 m] W fun e w' => ∃ op n s a len cap, e = .returned (.tuple #[.agg #[.int .i64 op, .int .i64 n, .string s, .slice a len cap], .nilIface]) ∧ Lies w' 0 p (tmCells op n s a len cap) ∧ Below W.heap.size W w') :
    Calls Tryz.prog 35 #[.agg #[.int .i64 op2, .int .i64 n2, .string s2, .slice a2 len2 cap2], .string hs, .int .i64 m] w fun e w' => ∃ op n s a len cap fp, e = .returned (.tuple #[.agg #[.int .i64 op, .int .i64 n, .string s, .slice a len cap], .bool true]) ∧ Own w' p (tmCells op n s a len cap) fp ∧ (fp.Nodup ∧ ∀ y ∈ fp, w.heap.size ≤ y) ∧ Below w.heap.size w w' := by
  have H30 := hide h30
  clear h30
  have hB0 : Below w.heap.size w ((w.alloc (.cells #[.int .i64 op2, .int .i64 n2, .string s2, .slice a2 len2 cap2] 29)).alloc (.cells #[.int .i64 0, .int .i64 0, .string ByteArray.empty, .slice none 0 0] 29)) := bt (ab _) (ab _) (Nat.le_refl _)
  have HX : Hid (ZBox ((w.alloc (.cells #[.int .i64 op2, .int .i64 n2, .string s2, .slice a2 len2 cap2] 29)).alloc (.cells #[.int .i64 0, .int .i64 0, .string ByteArray.empty, .slice none 0 0] 29)) (w.heap.size + 1)) := by
    have := ZBox.new (w.alloc (.cells #[.int .i64 op2, .int .i64 n2, .string s2, .slice a2 len2 cap2] 29))
    rwa [heap_size_alloc] at this
  have HB0 := hide hB0
  have HER := hide (he.on hB0)
  clear hB0 he
  go_enter Tryz.func35, Tryz.ntmps35
  go_wp2_with fail
  refine (unhide H30 _ (unhide HB0)).mono ?_
  rintro e w2 ⟨op, n, s, a, len, cap, rfl, hL2, hb2⟩
  have HB2 := hide (bt (unhide HB0) hb2 (Nat.le_refl _))
  have HX2 := hide ((unhide HX).below hb2)
  have HER2 := hide ((unhide HER).on hb2)
  have HL2 := hide hL2
  have HXL : Hid (w.heap.size + 1 < w2.heap.size) := lt_of_heap (unhide HX2)
  have h27 := hide (fun W hl he => answer_yes p op n s a len cap x W hl hp he)
  clear hb2 hL2 HB0 HX HER H30
  go_wp2_with fail
  refine (unhide h27 _ (unhide HL2) (unhide HER2)).mono ?_
  rintro e w3 ⟨a3, cap3, fp, rfl, hO, ⟨hnd, hge⟩, hb3⟩
  have HB3 := hide (bt (unhide HB2) hb3 (Nat.le_refl _))
  have HO := hide hO
  have HND := hide hnd
  have HGE := hide hge
  obtain ⟨p0, p1, p2, p3, q0, q1, q2, q3⟩ := ((unhide HX2).below hb3).facts
  clear hb3 hO hnd hge
  go_wp2_with fail
  exact bodyPost_ret (v := .tuple #[.agg #[.int .i64 op, .int .i64 n, .string s, .slice a3 len cap3], .bool true]) (by simp [results, Tryz.results35, go_sem, p0, p1, p2, p3]; try rfl) rfl ⟨_, _, _, _, _, _, fp, rfl, Own.keep _ _ _ (unhide HO) (fun b hb => set4_heap _ _ _ _ _ _ b (by have := unhide HGE b hb; have := unhide HXL; omega)), ⟨unhide HND, fun y hy => by have := unhide HGE y hy; have := unhide HXL; omega⟩, set4_below (unhide HB3) (by omega)⟩

set_option maxRecDepth 100000 in
set_option maxHeartbeats 2000000 in
theorem goodI_no (op2 n2 : Int) (s2 : ByteArray) (a2 : Option Addr) (len2 cap2 : Nat) (hs : ByteArray) (m : Int) (x : Addr) (w : World) (he : ErrAt x w)
    (h30 : ∀ W, Below w.heap.size w W → Calls Tryz.prog 97 #[.agg #[.int .i64 op2, .int .i64 n2, .string s2, .slice a2 len2 cap2], .string hs, .int .i64 m] W fun e w' => e = .returned (.tuple #[.agg #[.int .i64 0, .int .i64 0, .string ByteArray.empty, .slice none 0 0], .iface 202 (.pointer (some x))]) ∧ Below W.heap.size W w') :
    Calls Tryz.prog 35 #[.agg #[.int .i64 op2, .int .i64 n2, .string s2, .slice a2 len2 cap2], .string hs, .int .i64 m] w fun e w' => e = .returned (.tuple #[.agg #[.int .i64 0, .int .i64 0, .string ByteArray.empty, .slice none 0 0], .bool false]) ∧ Below w.heap.size w w' := by
  have H30 := hide h30
  clear h30
  have hB0 : Below w.heap.size w ((w.alloc (.cells #[.int .i64 op2, .int .i64 n2, .string s2, .slice a2 len2 cap2] 29)).alloc (.cells #[.int .i64 0, .int .i64 0, .string ByteArray.empty, .slice none 0 0] 29)) := bt (ab _) (ab _) (Nat.le_refl _)
  have HX : Hid (ZBox ((w.alloc (.cells #[.int .i64 op2, .int .i64 n2, .string s2, .slice a2 len2 cap2] 29)).alloc (.cells #[.int .i64 0, .int .i64 0, .string ByteArray.empty, .slice none 0 0] 29)) (w.heap.size + 1)) := by
    have := ZBox.new (w.alloc (.cells #[.int .i64 op2, .int .i64 n2, .string s2, .slice a2 len2 cap2] 29))
    rwa [heap_size_alloc] at this
  have HB0 := hide hB0
  have HER := hide (he.on hB0)
  clear hB0 he
  go_enter Tryz.func35, Tryz.ntmps35
  go_wp2_with fail
  refine (unhide H30 _ (unhide HB0)).mono ?_
  rintro e w2 ⟨rfl, hb2⟩
  have HB2 := hide (bt (unhide HB0) hb2 (Nat.le_refl _))
  have HX2 := hide ((unhide HX).below hb2)
  have HER2 := hide ((unhide HER).on hb2)
  have h27 := hide (fun W he => answer_no 0 0 ByteArray.empty none 0 0 x W he)
  clear hb2 HB0 HX HER H30
  go_wp2_with fail
  refine (unhide h27 _ (unhide HER2)).mono ?_
  rintro e w3 ⟨rfl, hb3⟩
  have HB3 := hide (bt (unhide HB2) hb3 (Nat.le_refl _))
  obtain ⟨p0, p1, p2, p3, q0, q1, q2, q3⟩ := ((unhide HX2).below hb3).facts
  clear hb3
  go_wp2_with fail
  exact bodyPost_ret (v := .tuple #[.agg #[.int .i64 0, .int .i64 0, .string ByteArray.empty, .slice none 0 0], .bool false]) (by simp [results, Tryz.results35, go_sem, p0, p1, p2, p3]; try rfl) rfl ⟨rfl, set4_below (unhide HB3) (by omega)⟩

set_option maxRecDepth 100000 in
set_option maxHeartbeats 2000000 in
theorem goodS_no1 (op2 n2 : Int) (s2 : ByteArray) (a2 : Option Addr) (len2 cap2 : Nat) (hs : ByteArray) (m : Int) (w : World) (h6 : ∀ W, Below w.heap.size w W → Calls Tryz.prog 48 #[.agg #[.int .i64 op2, .int .i64 n2, .string s2, .slice a2 len2 cap2]] W fun e w' => Below W.heap.size W w' ∧ e = .returned (.tuple #[zeroC, .bool false])) :
    Calls Tryz.prog 51 #[.agg #[.int .i64 op2, .int .i64 n2, .string s2, .slice a2 len2 cap2], .string hs, .int .i64 m] w fun e w' => e = .returned (.tuple #[.agg #[.int .i64 0, .int .i64 0, .string ByteArray.empty, .slice none 0 0], .bool false]) ∧ Below w.heap.size w w' := by
  have H6 := hide h6
  unfold zeroC at H6
  have hB0 : Below w.heap.size w ((w.alloc (.cells #[.int .i64 op2, .int .i64 n2, .string s2, .slice a2 len2 cap2] 29)).alloc (.cells #[.int .i64 0, .int .i64 0, .string ByteArray.empty, .slice none 0 0] 29)) := bt (ab _) (ab _) (Nat.le_refl _)
  have HX : Hid (ZBox ((w.alloc (.cells #[.int .i64 op2, .int .i64 n2, .string s2, .slice a2 len2 cap2] 29)).alloc (.cells #[.int .i64 0, .int .i64 0, .string ByteArray.empty, .slice none 0 0] 29)) (w.heap.size + 1)) := by
    have := ZBox.new (w.alloc (.cells #[.int .i64 op2, .int .i64 n2, .string s2, .slice a2 len2 cap2] 29))
    rwa [heap_size_alloc] at this
  have HB0 := hide hB0
  clear hB0 h6
  go_enter Tryz.func51, Tryz.ntmps51
  go_wp2_with fail
  refine (unhide H6 _ (unhide HB0)).mono ?_
  rintro e w2 ⟨hb2, rfl⟩
  have HB2 := hide (bt (unhide HB0) hb2 (Nat.le_refl _))
  have HX2 := hide ((unhide HX).below hb2)
  obtain ⟨p0, p1, p2, p3, q0, q1, q2, q3⟩ := ((unhide HX).below hb2).facts
  have hlX := lt_of_cell p0
  have nX := Nat.ne_of_lt hlX
  have mX := Ne.symm nX
  clear hb2
  go_wp2_with fail
  have HF := hide ((fill26 (unhide HX2) 0 0 ⟨#[]⟩ none 0 0).below (ab (.cells #[.string ByteArray.empty, .int .i64 0, .int .i64 0, .string ByteArray.empty, .slice none 0 0, .int .i64 0] 57)))
  obtain ⟨f0, f1, f2, f3⟩ := (unhide HF).facts
  refine bodyPost_ret (v := .tuple #[.agg #[.int .i64 0, .int .i64 0, .string ByteArray.empty, .slice none 0 0], .bool false]) (by simp [results, Tryz.results51, go_sem, f0, f1, f2, f3]; try rfl) rfl ⟨rfl, ?_⟩
  exact (set4_below (unhide HB2) (by omega)).alloc (by simp only [set_size]; exact (unhide HB2).size) _

set_option maxRecDepth 100000 in
set_option maxHeartbeats 2000000 in
theorem goodS_no2 (op2 n2 : Int) (s2 : ByteArray) (a2 : Option Addr) (len2 cap2 : Nat) (hs : ByteArray) (m : Int) (w : World) (h : ByteArray) (p : Tm) (v : Int) (hh : h ≠ hs) (h6 : ∀ W, Below w.heap.size w W → Calls Tryz.prog 48 #[.agg #[.int .i64 op2, .int .i64 n2, .string s2, .slice a2 len2 cap2]] W fun e w' => Below W.heap.size W w' ∧ ∃ op n s a len cap, e = .returned (.tuple #[.agg #[.string h, .int .i64 op, .int .i64 n, .string s, .slice a len cap, .int .i64 v], .bool true]) ∧ Lies w' W.heap.size p (tmCells op n s a len cap)) :
    Calls Tryz.prog 51 #[.agg #[.int .i64 op2, .int .i64 n2, .string s2, .slice a2 len2 cap2], .string hs, .int .i64 m] w fun e w' => e = .returned (.tuple #[.agg #[.int .i64 0, .int .i64 0, .string ByteArray.empty, .slice none 0 0], .bool false]) ∧ Below w.heap.size w w' := by
  have q9 : (h.toList == hs.toList) = false := by rw [beq_eq_false_iff_ne]; intro e; exact hh (toList_inj e)
  clear hh
  have H6 := hide h6
  have hB0 : Below w.heap.size w ((w.alloc (.cells #[.int .i64 op2, .int .i64 n2, .string s2, .slice a2 len2 cap2] 29)).alloc (.cells #[.int .i64 0, .int .i64 0, .string ByteArray.empty, .slice none 0 0] 29)) := bt (ab _) (ab _) (Nat.le_refl _)
  have HX : Hid (ZBox ((w.alloc (.cells #[.int .i64 op2, .int .i64 n2, .string s2, .slice a2 len2 cap2] 29)).alloc (.cells #[.int .i64 0, .int .i64 0, .string ByteArray.empty, .slice none 0 0] 29)) (w.heap.size + 1)) := by
    have := ZBox.new (w.alloc (.cells #[.int .i64 op2, .int .i64 n2, .string s2, .slice a2 len2 cap2] 29))
    rwa [heap_size_alloc] at this
  have HB0 := hide hB0
  have HG0 : Hid (w.heap.size + 2 = ((w.alloc (.cells #[.int .i64 op2, .int .i64 n2, .string s2, .slice a2 len2 cap2] 29)).alloc (.cells #[.int .i64 0, .int .i64 0, .string ByteArray.empty, .slice none 0 0] 29)).heap.size) := by show _ = _; simp
  clear hB0 h6
  go_enter Tryz.func51, Tryz.ntmps51
  go_wp2_with fail
  refine (unhide H6 _ (unhide HB0)).mono ?_
  rintro e w2 ⟨hb2, op, n, s, a, len, cap, rfl, hL2⟩
  have HB2 := hide (bt (unhide HB0) hb2 (Nat.le_refl _))
  have HX2 := hide ((unhide HX).below hb2)
  have HL2 := hide hL2
  obtain ⟨p0, p1, p2, p3, q0, q1, q2, q3⟩ := (unhide HX2).facts
  have hlX := lt_of_cell p0
  have nX := Nat.ne_of_lt hlX
  have mX := Ne.symm nX
  clear hb2 hL2
  go_wp2_with fail
  have HF := hide ((fill26 (unhide HX2) 0 0 ⟨#[]⟩ none 0 0).below (ab (.cells #[.string h, .int .i64 op, .int .i64 n, .string s, .slice a len cap, .int .i64 v] 57)))
  obtain ⟨f0, f1, f2, f3⟩ := (unhide HF).facts
  refine bodyPost_ret (v := .tuple #[.agg #[.int .i64 0, .int .i64 0, .string ByteArray.empty, .slice none 0 0], .bool false]) (by simp [results, Tryz.results51, go_sem, f0, f1, f2, f3]; try rfl) rfl ⟨rfl, ?_⟩
  exact (set4_below (unhide HB2) (by omega)).alloc (by simp only [set_size]; exact (unhide HB2).size) _

set_option maxRecDepth 100000 in
set_option maxHeartbeats 2000000 in
theorem goodS_no3 (op2 n2 : Int) (s2 : ByteArray) (a2 : Option Addr) (len2 cap2 : Nat) (hs : ByteArray) (m : Int) (w : World) (h : ByteArray) (p : Tm) (v : Int) (hh : h = hs) (hm : v < m) (h6 : ∀ W, Below w.heap.size w W → Calls Tryz.prog 48 #[.agg #[.int .i64 op2, .int .i64 n2, .string s2, .slice a2 len2 cap2]] W fun e w' => Below W.heap.size W w' ∧ ∃ op n s a len cap, e = .returned (.tuple #[.agg #[.string h, .int .i64 op, .int .i64 n, .string s, .slice a len cap, .int .i64 v], .bool true]) ∧ Lies w' W.heap.size p (tmCells op n s a len cap)) :
    Calls Tryz.prog 51 #[.agg #[.int .i64 op2, .int .i64 n2, .string s2, .slice a2 len2 cap2], .string hs, .int .i64 m] w fun e w' => e = .returned (.tuple #[.agg #[.int .i64 0, .int .i64 0, .string ByteArray.empty, .slice none 0 0], .bool false]) ∧ Below w.heap.size w w' := by
  have q9 : (h.toList == hs.toList) = true := by rw [hh]; simp
  clear hh
  have H6 := hide h6
  have hB0 : Below w.heap.size w ((w.alloc (.cells #[.int .i64 op2, .int .i64 n2, .string s2, .slice a2 len2 cap2] 29)).alloc (.cells #[.int .i64 0, .int .i64 0, .string ByteArray.empty, .slice none 0 0] 29)) := bt (ab _) (ab _) (Nat.le_refl _)
  have HX : Hid (ZBox ((w.alloc (.cells #[.int .i64 op2, .int .i64 n2, .string s2, .slice a2 len2 cap2] 29)).alloc (.cells #[.int .i64 0, .int .i64 0, .string ByteArray.empty, .slice none 0 0] 29)) (w.heap.size + 1)) := by
    have := ZBox.new (w.alloc (.cells #[.int .i64 op2, .int .i64 n2, .string s2, .slice a2 len2 cap2] 29))
    rwa [heap_size_alloc] at this
  have HB0 := hide hB0
  have HG0 : Hid (w.heap.size + 2 = ((w.alloc (.cells #[.int .i64 op2, .int .i64 n2, .string s2, .slice a2 len2 cap2] 29)).alloc (.cells #[.int .i64 0, .int .i64 0, .string ByteArray.empty, .slice none 0 0] 29)).heap.size) := by show _ = _; simp
  clear hB0 h6
  go_enter Tryz.func51, Tryz.ntmps51
  go_wp2_with fail
  refine (unhide H6 _ (unhide HB0)).mono ?_
  rintro e w2 ⟨hb2, op, n, s, a, len, cap, rfl, hL2⟩
  have HB2 := hide (bt (unhide HB0) hb2 (Nat.le_refl _))
  have HX2 := hide ((unhide HX).below hb2)
  have HL2 := hide hL2
  obtain ⟨p0, p1, p2, p3, q0, q1, q2, q3⟩ := (unhide HX2).facts
  have hlX := lt_of_cell p0
  have nX := Nat.ne_of_lt hlX
  have mX := Ne.symm nX
  clear hb2 hL2
  go_wp2_with fail
  have HF := hide ((fill26 (unhide HX2) 0 0 ⟨#[]⟩ none 0 0).below (ab (.cells #[.string h, .int .i64 op, .int .i64 n, .string s, .slice a len cap, .int .i64 v] 57)))
  obtain ⟨f0, f1, f2, f3⟩ := (unhide HF).facts
  refine bodyPost_ret (v := .tuple #[.agg #[.int .i64 0, .int .i64 0, .string ByteArray.empty, .slice none 0 0], .bool false]) (by simp [results, Tryz.results51, go_sem, f0, f1, f2, f3]; try rfl) rfl ⟨rfl, ?_⟩
  exact (set4_below (unhide HB2) (by omega)).alloc (by simp only [set_size]; exact (unhide HB2).size) _

set_option maxRecDepth 100000 in
set_option maxHeartbeats 2000000 in
theorem goodS_yes (op2 n2 : Int) (s2 : ByteArray) (a2 : Option Addr) (len2 cap2 : Nat) (hs : ByteArray) (m : Int) (w : World) (h : ByteArray) (p : Tm) (v : Int) (hh : h = hs) (hm : ¬ v < m) (h6 : ∀ W, Below w.heap.size w W → Calls Tryz.prog 48 #[.agg #[.int .i64 op2, .int .i64 n2, .string s2, .slice a2 len2 cap2]] W fun e w' => Below W.heap.size W w' ∧ ∃ op n s a len cap, e = .returned (.tuple #[.agg #[.string h, .int .i64 op, .int .i64 n, .string s, .slice a len cap, .int .i64 v], .bool true]) ∧ Lies w' W.heap.size p (tmCells op n s a len cap)) :
    Calls Tryz.prog 51 #[.agg #[.int .i64 op2, .int .i64 n2, .string s2, .slice a2 len2 cap2], .string hs, .int .i64 m] w fun e w' => ∃ op n s a len cap, e = .returned (.tuple #[.agg #[.int .i64 op, .int .i64 n, .string s, .slice a len cap], .bool true]) ∧ Lies w' w.heap.size p (tmCells op n s a len cap) ∧ Below w.heap.size w w' := by
  have q9 : (h.toList == hs.toList) = true := by rw [hh]; simp
  clear hh
  have H6 := hide h6
  have hB0 : Below w.heap.size w ((w.alloc (.cells #[.int .i64 op2, .int .i64 n2, .string s2, .slice a2 len2 cap2] 29)).alloc (.cells #[.int .i64 0, .int .i64 0, .string ByteArray.empty, .slice none 0 0] 29)) := bt (ab _) (ab _) (Nat.le_refl _)
  have HX : Hid (ZBox ((w.alloc (.cells #[.int .i64 op2, .int .i64 n2, .string s2, .slice a2 len2 cap2] 29)).alloc (.cells #[.int .i64 0, .int .i64 0, .string ByteArray.empty, .slice none 0 0] 29)) (w.heap.size + 1)) := by
    have := ZBox.new (w.alloc (.cells #[.int .i64 op2, .int .i64 n2, .string s2, .slice a2 len2 cap2] 29))
    rwa [heap_size_alloc] at this
  have HB0 := hide hB0
  have HG0 : Hid (w.heap.size + 2 = ((w.alloc (.cells #[.int .i64 op2, .int .i64 n2, .string s2, .slice a2 len2 cap2] 29)).alloc (.cells #[.int .i64 0, .int .i64 0, .string ByteArray.empty, .slice none 0 0] 29)).heap.size) := by show _ = _; simp
  clear hB0 h6
  go_enter Tryz.func51, Tryz.ntmps51
  go_wp2_with fail
  refine (unhide H6 _ (unhide HB0)).mono ?_
  rintro e w2 ⟨hb2, op, n, s, a, len, cap, rfl, hL2⟩
  have HB2 := hide (bt (unhide HB0) hb2 (Nat.le_refl _))
  have HX2 := hide ((unhide HX).below hb2)
  have HL2 := hide hL2
  obtain ⟨p0, p1, p2, p3, q0, q1, q2, q3⟩ := (unhide HX2).facts
  have hlX := lt_of_cell p0
  have nX := Nat.ne_of_lt hlX
  have mX := Ne.symm nX
  clear hb2 hL2
  have hpV := hide (RowC.new 57 w2 h op n s a len cap v)
  go_wp2_with fail
  have HF := hide ((fill26 (unhide HX2) op n s a len cap).below (ab (.cells #[.string h, .int .i64 op, .int .i64 n, .string s, .slice a len cap, .int .i64 v] 57)))
  obtain ⟨f0, f1, f2, f3⟩ := (unhide HF).facts
  refine bodyPost_ret (v := .tuple #[.agg #[.int .i64 op, .int .i64 n, .string s, .slice a len cap], .bool true]) (by simp [results, Tryz.results51, go_sem, f0, f1, f2, f3]; try rfl) rfl ⟨op, n, s, a, len, cap, rfl, ?_, ?_⟩
  · exact (set4_lies (unhide HL2) (by have := unhide HG0; omega) w.heap.size (by have := unhide HG0; omega)).below (ab _)
  · exact (set4_below (unhide HB2) (by omega)).alloc (by simp only [set_size]; exact (unhide HB2).size) _

set_option maxRecDepth 100000 in
set_option maxHeartbeats 8000000 in
theorem lawCertGood (t : Tm) (hs : ByteArray) (P : Tm) (m : Int) (B : Bool) (x : Addr) (hPZ : P.size ≤ 200)
    (hS : ∀ (op n : Int) (s : ByteArray) (a : Option Addr) (len cap : Nat) (w : World), Lies w 0 t (tmCells op n s a len cap) → t.size ≤ 2097152 → Calls Tryz.prog 51 #[.agg #[.int .i64 op, .int .i64 n, .string s, .slice a len cap], .string hs, .int .i64 m] w fun e w' => ∃ opW nW sW aW lenW capW, e = .returned (.tuple #[.agg #[.int .i64 opW, .int .i64 nW, .string sW, .slice aW lenW capW], .bool B]) ∧ Lies w' 0 P (tmCells opW nW sW aW lenW capW) ∧ Below w.heap.size w w')
    (hI : ∀ (op n : Int) (s : ByteArray) (a : Option Addr) (len cap : Nat) (w : World), Lies w 0 t (tmCells op n s a len cap) → t.size ≤ 2097152 → ErrAt x w → Var12 w → Tab w → Calls Tryz.prog 35 #[.agg #[.int .i64 op, .int .i64 n, .string s, .slice a len cap], .string hs, .int .i64 m] w fun e w' => ∃ opG nG sG aG lenG capG fp, e = .returned (.tuple #[.agg #[.int .i64 opG, .int .i64 nG, .string sG, .slice aG lenG capG], .bool B]) ∧ Own w' P (tmCells opG nG sG aG lenG capG) fp ∧ (fp.Nodup ∧ ∀ y ∈ fp, w.heap.size ≤ y) ∧ Below w.heap.size w w')
    (op n : Int) (s : ByteArray) (a : Option Addr) (len cap : Nat) (w : World) (hl : Lies w 0 t (tmCells op n s a len cap)) (hv : Var12 w) (htab : Tab w) (herr : ErrAt x w) :
    Calls Tryz.prog 7 #[.agg #[.int .i64 op, .int .i64 n, .string s, .slice a len cap], .string hs, .int .i64 m] w fun e w' => e = .returned (.bool true) ∧ Below w.heap.size w w' := by
  by_cases hH : (1048576 : Int) < (hs.size : Int)
  · go_enter Tryz.func7, Tryz.ntmps7
    go_wp2_with fail
    go_ret
    exact ⟨rfl, ab _⟩
  have HER := hide herr
  have HTB := hide htab
  have HVR := hide hv
  clear herr htab hv
  have h11 := hide (sz_calls t)
  have h8 := hide eq_calls
  have hZ := t.size_le
  have hB0 : Below w.heap.size w (w.alloc (.cells #[.int .i64 op, .int .i64 n, .string s, .slice a len cap] 24)) := ab _
  have HL := hide (hl.below hB0)
  have HB0 := hide hB0
  have HA := hide (RowT.new 24 w op n s a len cap)
  clear hl hB0
  by_cases hw : (t.wt : Int) ≤ 1048576
  · have hsz : t.size ≤ 1048577 := by omega
    have hsz2 : t.size ≤ 2097152 := by omega
    have h13 := hide (fun a cap v hv => tp_calls t op n s a len cap v hv hsz2)
    have h15 := hide (fun a cap v hv => hS op n s a len cap v hv hsz2)
    have h16 := hide (fun a cap v hv he hr ht => hI op n s a len cap v hv hsz2 he hr ht)
    have h9 := hide (fun op1 n1 s1 a1 len1 cap1 op2 n2 s2 a2 len2 cap2 W hv hv' => eq_calls P op1 n1 s1 a1 len1 cap1 op2 n2 s2 a2 len2 cap2 W hv hv')
    clear hS hI
    have HKP : Hid (Tm.sizes P.kids ≤ P.size) := by have := size_kids P; show _ ≤ _; omega
    have HTZ : Hid (1 + 3 * P.size ≤ 1099511627776) := by show _ ≤ _; omega
    have HXZ : Hid (1 + 3 * t.size ≤ 1099511627776) := by show _ ≤ _; omega
    have h9x : Hid (∀ (a : Option Addr) (w : World) (fp : List Nat), Own w t (tmCells op n s a len len) fp → fp.Nodup →
        Calls Tryz.prog 46 #[.agg #[.int .i64 op, .int .i64 n, .string s, .slice a len len], .int .i64 1] w fun e w' => e = .returned (.int .i64 ((1 + 3 * Tm.sizes t.kids : Nat) : Int)) ∧ Own w' (t.marked 1) (tmCells op n s a len len) fp ∧ Only fp w w') :=
      fun a w fp ho hnd => mark_any t op n s a len len 1 w fp ho hnd (Nat.le_refl _) (unhide HXZ)
    have h9g : Hid (∀ (op n : Int) (s : ByteArray) (a : Option Addr) (len cap : Nat) (w : World) (fp : List Nat), Own w P (tmCells op n s a len cap) fp → fp.Nodup →
        Calls Tryz.prog 46 #[.agg #[.int .i64 op, .int .i64 n, .string s, .slice a len cap], .int .i64 1] w fun e w' => e = .returned (.int .i64 ((1 + 3 * Tm.sizes P.kids : Nat) : Int)) ∧ Own w' (P.marked 1) (tmCells op n s a len cap) fp ∧ Only fp w w') :=
      fun op n s a len cap w fp ho hnd => mark_any P op n s a len cap 1 w fp ho hnd (Nat.le_refl _) (unhide HTZ)
    have h10 : Hid (∀ (op n : Int) (s : ByteArray) (a : Option Addr) (len cap : Nat) (w : World), Lies w 0 (P.marked 1) (tmCells op n s a len cap) →
        Calls Tryz.prog 47 #[.agg #[.int .i64 op, .int .i64 n, .string s, .slice a len cap], .int .i64 1] w fun e w' => e = .returned (.int .i64 ((1 + 3 * Tm.sizes P.kids : Nat) : Int)) ∧ Below w.heap.size w w') :=
      fun op n s a len cap w hl => held_markedC P op n s a len cap 1 w hl (Nat.le_refl _) (unhide HTZ)
    have hmb : (1 + 3 * Tm.sizes P.kids : Nat) ≤ 4194304 := by have := unhide HKP; omega
    have hkb : (1 + 3 * Tm.sizes t.kids : Nat) ≤ 4194304 := by have := size_kids t; omega
    have hBB : (B != B) = false := by simp
    clear hZ hsz hsz2 HKP hPZ
    generalize 1 + 3 * Tm.sizes P.kids = mG at *
    generalize 1 + 3 * Tm.sizes t.kids = mX at *
    obtain ⟨left, hgl⟩ : ∃ left : Int, (1048576 : Int) - t.wt = left := ⟨_, rfl⟩
    have hln : 0 ≤ left := by omega
    go_enter Tryz.func7, Tryz.ntmps7
    go_wp2_with fail
    refine (unhide h11 op n s a len cap _ _ (unhide HL) (by omega) (by omega)).mono ?_
    rintro e w1 ⟨rfl, hb1⟩
    rw [szv_yes hw, hgl]
    have HA1 := hide ((unhide HA).below hb1)
    have HL1 := hide ((unhide HL).below hb1)
    have HB1 := hide (bt (unhide HB0) hb1 (Nat.le_refl _))
    clear hb1 HL HB0 HA hgl hw h11
    obtain ⟨c0, c1, c2, c3⟩ := (unhide HA1).facts
    go_wp2_with fail
    refine (unhide h13 a cap _ (unhide HL1)).mono ?_
    rintro e w2 ⟨a2, f2, rfl, hO2, _, hb2⟩
    have HA2 := hide ((unhide HA1).below hb2)
    have HL2 := hide ((unhide HL1).below hb2)
    have HB2 := hide (bt (unhide HB1) hb2 (Nat.le_refl _))
    have HO2 := hide hO2.lies0
    clear hb2 hO2 HA1 HL1 HB1 c0 c1 c2 c3
    go_wp2_with fail
    refine (unhide h15 a2 len _ (unhide HO2)).mono ?_
    rintro e w3 ⟨opW, nW, sW, aW, lenW, capW, rfl, hL3, hb3⟩
    have HA3 := hide ((unhide HA2).below hb3)
    have HL3 := hide ((unhide HL2).below hb3)
    have HB3 := hide (bt (unhide HB2) hb3 (Nat.le_refl _))
    have HW3 := hide hL3
    clear hb3 hL3 HA2 HL2 HB2 HO2
    have HVB := hide (bt (unhide HB3) (ab (.cells #[.int .i64 opW, .int .i64 nW, .string sW, .slice aW lenW capW] 29)) (Nat.le_refl _))
    have HVA := hide ((unhide HA3).below (ab (.cells #[.int .i64 opW, .int .i64 nW, .string sW, .slice aW lenW capW] 29)))
    have HVW := hide (RowT.new 29 w3 opW nW sW aW lenW capW)
    have HVLA := hide ((unhide HL3).below (ab (.cells #[.int .i64 opW, .int .i64 nW, .string sW, .slice aW lenW capW] 29)))
    have HVLW := hide ((unhide HW3).below (ab (.cells #[.int .i64 opW, .int .i64 nW, .string sW, .slice aW lenW capW] 29)))
    obtain ⟨c0, c1, c2, c3⟩ := (unhide HVA).facts
    clear HA3 HL3 HB3 HW3
    go_wp2_with fail
    generalize hV1 : w3.alloc (.cells #[.int .i64 opW, .int .i64 nW, .string sW, .slice aW lenW capW] 29) = V1 at *
    generalize w3.heap.size = bW at *
    clear hV1
    refine (unhide h13 a cap _ (unhide HVLA)).mono ?_
    rintro e w4 ⟨a4, f4, rfl, hO4, ⟨hnd4, hge4⟩, hb4⟩
    have HND4 := hide hnd4
    have HGE4 := hide hge4
    have HLT4 := hide (Own.lt _ _ _ hO4)
    have hb4' := bt hb4 (ab (.cells #[.int .i64 op, .int .i64 n, .string s, .slice a4 len len] 29)) (Nat.le_refl _)
    have HV2 := hide hb4'
    have HXR := hide (RowT.new 29 w4 op n s a4 len len)
    have HXO := hide (hO4.below (ab (.cells #[.int .i64 op, .int .i64 n, .string s, .slice a4 len len] 29)))
    clear hO4 hnd4 hge4 hb4 hb4' c0 c1 c2 c3
    obtain ⟨c0, c1, c2, c3⟩ := (unhide HXR).facts
    go_wp2_with fail
    generalize hV2 : w4.alloc (.cells #[.int .i64 op, .int .i64 n, .string s, .slice a4 len len] 29) = V2 at *
    have HGX : Hid (w4.heap.size + 1 = V2.heap.size) := by show _ = _; rw [← hV2, heap_size_alloc]
    generalize w4.heap.size = bX at *
    clear hV2
    have hVV := bt (unhide HVB) (unhide HV2) (Nat.le_refl _)
    refine (unhide h16 a4 len _ (unhide HXO).lies0 ((unhide HER).on hVV) ((unhide HVR).on hVV) ((unhide HTB).on hVV)).mono ?_
    rintro e w5 ⟨opG, nG, sG, aG, lenG, capG, f5, rfl, hO5, ⟨hnd5, hge5⟩, hb5⟩
    have HND5 := hide hnd5
    have HGE5 := hide hge5
    have HLT5 := hide (Own.lt _ _ _ hO5)
    have HBG := hide hb5.size
    have hb5' := bt hb5 (ab (.cells #[.int .i64 opG, .int .i64 nG, .string sG, .slice aG lenG capG] 29)) (Nat.le_refl _)
    have HV3 := hide hb5'
    have HV13 := hide (bt (unhide HV2) hb5' (Nat.le_refl _))
    have HGR := hide (RowT.new 29 w5 opG nG sG aG lenG capG)
    have HGO := hide (hO5.below (ab (.cells #[.int .i64 opG, .int .i64 nG, .string sG, .slice aG lenG capG] 29)))
    clear hVV hO5 hnd5 hge5 hb5 hb5' c0 c1 c2 c3
    obtain ⟨c0, c1, c2, c3⟩ := (unhide HGR).facts
    obtain ⟨d0, d1, d2, d3⟩ := ((unhide HVW).below (unhide HV13)).facts
    go_wp2_with fail
    generalize hV3 : w5.alloc (.cells #[.int .i64 opG, .int .i64 nG, .string sG, .slice aG lenG capG] 29) = V3 at *
    have HGG : Hid (w5.heap.size + 1 = V3.heap.size) := by show _ = _; rw [← hV3, heap_size_alloc]
    generalize w5.heap.size = bG at *
    clear hV3
    refine (unhide h9 opG nG sG aG lenG capG opW nW sW aW lenW capW _ (unhide HGO).lies0 ((unhide HVLW).below (unhide HV13))).mono ?_
    rintro e w6 ⟨rfl, hb6⟩
    have HV16 := hide (bt (unhide HV13) hb6 (Nat.le_refl _))
    have HV26 := hide (bt (unhide HV3) hb6 (Nat.le_refl _))
    have HGR6 := hide ((unhide HGR).below hb6)
    have HGO6 := hide ((unhide HGO).below hb6)
    clear hb6 c0 c1 c2 c3 d0 d1 d2 d3 HV13 HV3 HGR HGO
    obtain ⟨c0, c1, c2, c3⟩ := ((unhide HXR).below (unhide HV26)).facts
    obtain ⟨d0, d1, d2, d3⟩ := ((unhide HVA).below (unhide HV16)).facts
    have HLA6 := hide ((unhide HVLA).below (unhide HV16).drew)
    have HXO6 := hide ((unhide HXO).below (unhide HV26).drew)
    go_wp2_with fail
    go_region_held3 (fun x => x.cell? ⟨bX, 0, none⟩ = some (.int .i64 op) ∧ x.cell? ⟨bX, 1, none⟩ = some (.int .i64 n) ∧ x.cell? ⟨bX, 2, none⟩ = some (.string s) ∧ x.cell? ⟨bX, 3, none⟩ = some (.slice a4 len len) ∧
        x.cell? ⟨w.heap.size, 0, none⟩ = some (.int .i64 op) ∧ x.cell? ⟨w.heap.size, 1, none⟩ = some (.int .i64 n) ∧ x.cell? ⟨w.heap.size, 2, none⟩ = some (.string s) ∧ x.cell? ⟨w.heap.size, 3, none⟩ = some (.slice a len cap)) (go_keep)
      (first
        | (go_at_call 11
           refine (unhide h13 a cap _ (unhide HLA6)).mono ?_
           rintro e w7 ⟨a7, f7, rfl, hO7, _, hb7⟩
           have hb7' := hide (below_drew' hb7)
           have HO7 := hide hO7.lies0
           have HX7 := hide ((unhide HXO6).below hb7).lies0
           have f0 := kpc (unhide hb7') c0
           have f1 := kpc (unhide hb7') c1
           have f2 := kpc (unhide hb7') c2
           have f3 := kpc (unhide hb7') c3
           have e0 := kpc (unhide hb7') d0
           have e1 := kpc (unhide hb7') d1
           have e2 := kpc (unhide hb7') d2
           have e3 := kpc (unhide hb7') d3)
        | (go_at_call 13
           refine (unhide h8 t op n s a4 len len op n s a7 len len _ (unhide HX7) (unhide HO7)).mono ?_
           rintro e w8 ⟨rfl, hb8⟩
           have g0 := kpc hb8 f0
           have g1 := kpc hb8 f1
           have g2 := kpc hb8 f2
           have g3 := kpc hb8 f3
           have i0 := kpc hb8 e0
           have i1 := kpc hb8 e1
           have i2 := kpc hb8 e2
           have i3 := kpc hb8 e3
           have hb8' := hide hb8))
    have HV18 := hide (bt (bt (unhide HV16) (unhide hb7') (Nat.le_refl _)) (unhide hb8') (Nat.le_refl _))
    have HGR8 := hide (((unhide HGR6).below (unhide hb7')).below (unhide hb8'))
    have HGO8 := hide (((unhide HGO6).below (unhide hb7')).below (unhide hb8'))
    have HXO8 := hide (((unhide HXO).below (unhide HV26)).below (unhide hb7') |>.below (unhide hb8'))
    clear f0 f1 f2 f3 e0 e1 e2 e3 c0 c1 c2 c3 d0 d1 d2 d3 HV16 HV26 HGR6 HGO6 HXO6 HLA6 hb7' hb8' HO7 HX7
    go_wp2_with fail
    refine (unhide h9x a4 _ _ (unhide HXO8) (unhide HND4)).mono ?_
    rintro e w9 ⟨rfl, _, o9⟩
    have HV19 := hide ((unhide HV18).trans (o9.below (unhide HV18).size (unhide HGE4)))
    have HGR9 := hide ((unhide HGR8).only o9 (fun hx => by have := unhide HLT4 _ hx; have := unhide HBG; have := unhide HGX; omega))
    have HGO9 := hide ((unhide HGO8).only o9 (fun x hx hx4 => by have := unhide HLT4 _ hx4; have := unhide HGE5 _ hx; have := unhide HGX; omega))
    clear o9 HV18 HGR8 HGO8 HXO8 g0 g1 g2 g3 i0 i1 i2 i3
    obtain ⟨c0, c1, c2, c3⟩ := (unhide HGR9).facts
    obtain ⟨d0, d1, d2, d3⟩ := ((unhide HVW).below (unhide HV19)).facts
    go_wp2_with fail
    refine (unhide h9 opG nG sG aG lenG capG opW nW sW aW lenW capW _ (unhide HGO9).lies0 ((unhide HVLW).below (unhide HV19))).mono ?_
    rintro e w10 ⟨rfl, hb10⟩
    have HV20 := hide (bt (unhide HV19) hb10 (Nat.le_refl _))
    have HGR10 := hide ((unhide HGR9).below hb10)
    have HGO10 := hide ((unhide HGO9).below hb10)
    clear hb10 HV19 HGR9 HGO9 c0 c1 c2 c3 d0 d1 d2 d3
    obtain ⟨c0, c1, c2, c3⟩ := (unhide HGR10).facts
    go_wp2_with fail
    refine (unhide h9g opG nG sG aG lenG capG _ _ (unhide HGO10) (unhide HND5)).mono ?_
    rintro e w11 ⟨rfl, k11, o11⟩
    have HV21 := hide ((unhide HV20).trans (o11.below (unhide HV20).size (fun x hx => by have := unhide HGE5 _ hx; have := (unhide HV2).size; omega)))
    have HGR11 := hide ((unhide HGR10).only o11 (fun hx => by have := unhide HLT5 _ hx; omega))
    have HGO11 := hide k11.lies0
    clear o11 k11 HV20 HGR10 HGO10 c0 c1 c2 c3
    obtain ⟨c0, c1, c2, c3⟩ := (unhide HGR11).facts
    go_wp2_with fail
    refine (unhide h10 opG nG sG aG lenG capG _ (unhide HGO11)).mono ?_
    rintro e w12 ⟨rfl, hb12⟩
    have HV22 := hide (bt (unhide HV21) hb12 (Nat.le_refl _))
    have HGR12 := hide ((unhide HGR11).below hb12)
    have HGO12 := hide ((unhide HGO11).below hb12)
    clear hb12 HV21 HGR11 HGO11 c0 c1 c2 c3
    obtain ⟨d0, d1, d2, d3⟩ := ((unhide HVA).below (unhide HV22)).facts
    go_wp2_with fail
    refine (unhide h13 a cap _ ((unhide HVLA).below (unhide HV22))).mono ?_
    rintro e w13 ⟨a13, f13, rfl, hO13, _, hb13⟩
    have HV23 := hide (bt (unhide HV22) hb13 (Nat.le_refl _))
    have HGR13 := hide ((unhide HGR12).below hb13)
    have HGO13 := hide ((unhide HGO12).below hb13)
    have HO13 := hide hO13.lies0
    clear hb13 hO13 HV22 HGR12 HGO12 d0 d1 d2 d3
    have hVV := bt (unhide HVB) (unhide HV23) (Nat.le_refl _)
    have HE13 := hide ((unhide HER).on hVV)
    have HR13 := hide ((unhide HVR).on hVV)
    have HT13 := hide ((unhide HTB).on hVV)
    clear hVV
    go_wp2_with fail
    refine (unhide h16 a13 len _ (unhide HO13) (unhide HE13) (unhide HR13) (unhide HT13)).mono ?_
    rintro e w14 ⟨opH, nH, sH, aH, lenH, capH, f14, rfl, hO14, _, hb14⟩
    have hb14' := bt hb14 (ab (.cells #[.int .i64 opH, .int .i64 nH, .string sH, .slice aH lenH capH] 29)) (Nat.le_refl _)
    have HV24 := hide (bt (unhide HV23) hb14' (Nat.le_refl _))
    have HGR14 := hide ((unhide HGR13).below hb14')
    have HGO14 := hide ((unhide HGO13).below hb14')
    have HHO := hide (hO14.below (ab (.cells #[.int .i64 opH, .int .i64 nH, .string sH, .slice aH lenH capH] 29))).lies0
    clear hb14 hb14' hO14 HV23 HGR13 HGO13 HO13
    obtain ⟨c0, c1, c2, c3⟩ := (RowT.new 29 w14 opH nH sH aH lenH capH).facts
    obtain ⟨d0, d1, d2, d3⟩ := ((unhide HVW).below (unhide HV24)).facts
    go_wp2_with fail
    refine (unhide h9 opH nH sH aH lenH capH opW nW sW aW lenW capW _ (unhide HHO) ((unhide HVLW).below (unhide HV24))).mono ?_
    rintro e w15 ⟨rfl, hb15⟩
    have HV25 := hide (bt (unhide HV24) hb15 (Nat.le_refl _))
    have HGR15 := hide ((unhide HGR14).below hb15)
    have HGO15 := hide ((unhide HGO14).below hb15)
    clear hb15 HV24 HGR14 HGO14 HHO c0 c1 c2 c3 d0 d1 d2 d3
    obtain ⟨c0, c1, c2, c3⟩ := (unhide HGR15).facts
    go_wp2_with fail
    refine (unhide h10 opG nG sG aG lenG capG _ (unhide HGO15)).mono ?_
    rintro e w16 ⟨rfl, hb16⟩
    have HV26 := hide (bt (unhide HV25) hb16 (Nat.le_refl _))
    clear hb16 c0 c1 c2 c3
    go_wp2_with fail
    go_ret
    exact ⟨rfl, (unhide HVB).trans ((unhide HV26).mono (unhide HVB).size)⟩
  · go_enter Tryz.func7, Tryz.ntmps7
    go_wp2_with fail
    refine (unhide h11 op n s a len cap _ _ (unhide HL) (by omega) (by omega)).mono ?_
    rintro e w2 ⟨rfl, hb2⟩
    rw [szv_no (by omega)]
    go_wp2_with fail
    go_ret
    exact ⟨rfl, bt (unhide HB0) hb2 (Nat.le_refl _)⟩

/-- The law at whatever term, text and number. -/
theorem lawCertGood_all (t : Tm) (hs : ByteArray) (m : Int) (op n : Int) (s : ByteArray) (a : Option Addr) (len cap : Nat) (w : World) (hl : Lies w 0 t (tmCells op n s a len cap)) (hv : Var12 w) (htab : Tab w) (herr : Err w) :
    Calls Tryz.prog 7 #[.agg #[.int .i64 op, .int .i64 n, .string s, .slice a len cap], .string hs, .int .i64 m] w fun e w' => e = .returned (.bool true) ∧ Below w.heap.size w w' := by
  obtain ⟨x, hx⟩ := herr
  have no : (∀ (op n : Int) (s : ByteArray) (a : Option Addr) (len cap : Nat) (w : World), Lies w 0 t (tmCells op n s a len cap) → t.size ≤ 2097152 → Calls Tryz.prog 51 #[.agg #[.int .i64 op, .int .i64 n, .string s, .slice a len cap], .string hs, .int .i64 m] w fun e w' => e = .returned (.tuple #[.agg #[.int .i64 0, .int .i64 0, .string ByteArray.empty, .slice none 0 0], .bool false]) ∧ Below w.heap.size w w') →
      (∀ (op n : Int) (s : ByteArray) (a : Option Addr) (len cap : Nat) (w : World), Lies w 0 t (tmCells op n s a len cap) → t.size ≤ 2097152 → ErrAt x w → Var12 w → Tab w → Calls Tryz.prog 97 #[.agg #[.int .i64 op, .int .i64 n, .string s, .slice a len cap], .string hs, .int .i64 m] w fun e w' => e = .returned (.tuple #[.agg #[.int .i64 0, .int .i64 0, .string ByteArray.empty, .slice none 0 0], .iface 202 (.pointer (some x))]) ∧ Below w.heap.size w w') →
      Calls Tryz.prog 7 #[.agg #[.int .i64 op, .int .i64 n, .string s, .slice a len cap], .string hs, .int .i64 m] w fun e w' => e = .returned (.bool true) ∧ Below w.heap.size w w' := fun h14 h30 => by
    refine lawCertGood t hs (.node 0 0 ByteArray.empty []) m false x (by simp [Tm.size, Tm.sizes]) (fun op n s a len cap w hl hz => ?_) (fun op n s a len cap w hl hz he hr ht => ?_) op n s a len cap w hl hv htab hx
    · refine (h14 op n s a len cap w hl hz).mono ?_
      rintro e w' ⟨he, hb⟩
      exact ⟨_, _, _, _, _, _, he, zero_lies _ _, hb⟩
    · refine (goodI_no op n s a len cap hs m x w he fun W hW => h30 op n s a len cap W (hl.below hW) hz (he.on hW) (hr.on hW) (ht.on hW)).mono ?_
      rintro e w' ⟨he', hb⟩
      exact ⟨_, _, _, _, _, _, [], he', zero_own _, ⟨by simp, by simp⟩, hb⟩
  by_cases hc : ∃ h p v, CP t h p v
  · obtain ⟨h, p, v, c⟩ := hc
    have hp := okT_200 (certB_ok c.2.1).2.2.1
    have h6 : ∀ (op n : Int) (s : ByteArray) (a : Option Addr) (len cap : Nat) (w : World), Lies w 0 t (tmCells op n s a len cap) → t.size ≤ 2097152 → ∀ W, Below w.heap.size w W → Calls Tryz.prog 48 #[.agg #[.int .i64 op, .int .i64 n, .string s, .slice a len cap]] W fun e w' => Below W.heap.size W w' ∧ ∃ op n s a len cap, e = .returned (.tuple #[.agg #[.string h, .int .i64 op, .int .i64 n, .string s, .slice a len cap, .int .i64 v], .bool true]) ∧ Lies w' W.heap.size p (tmCells op n s a len cap) := fun op n s a len cap w hl hz W hW => by
      refine (ofS6 t op n s a len cap W (hl.below hW) hz).mono ?_
      rintro e w' ⟨hb, ⟨h1, p1, v1, o1, n1, s1, a1, l1, c1, cc, he, hL⟩ | ⟨hno, _⟩⟩
      · obtain ⟨rfl, rfl, rfl⟩ := c.one cc
        exact ⟨hb, o1, n1, s1, a1, l1, c1, he, hL⟩
      · exact absurd ⟨h, p, v, c⟩ hno
    have h26 : ∀ (op n : Int) (s : ByteArray) (a : Option Addr) (len cap : Nat) (w : World), Lies w 0 t (tmCells op n s a len cap) → t.size ≤ 2097152 → ErrAt x w → Var12 w → Tab w → ∀ W, Below w.heap.size w W → Calls Tryz.prog 108 #[.agg #[.int .i64 op, .int .i64 n, .string s, .slice a len cap]] W fun e w' => Below W.heap.size W w' ∧ ∃ op n s a len cap, e = .returned (.tuple #[.agg #[.string h, .int .i64 op, .int .i64 n, .string s, .slice a len cap, .int .i64 v], .nilIface]) ∧ Lies w 0 p (tmCells op n s a len cap) := fun op n s a len cap w hl hz he hr ht W hW => by
      refine (read26 t op n s a len cap x w W hl hW hz (he.on hW) (hr.on hW) (ht.on hW)).mono ?_
      rintro e w' ⟨hb, ⟨h1, p1, v1, o1, n1, s1, a1, l1, c1, cc, he', hL⟩ | ⟨hno, _⟩⟩
      · obtain ⟨rfl, rfl, rfl⟩ := c.one cc
        exact ⟨hb, o1, n1, s1, a1, l1, c1, he', hL⟩
      · exact absurd ⟨h, p, v, c⟩ hno
    by_cases hh : h = hs
    · by_cases hm : v < m
      · exact no (fun op n s a len cap w hl hz => goodS_no3 op n s a len cap hs m w h p v hh hm (h6 op n s a len cap w hl hz))
          (fun op n s a len cap w hl hz he hr ht => goodP_no3 op n s a len cap hs m x w he h p v hh hm (h26 op n s a len cap w hl hz he hr ht))
      · refine lawCertGood t hs p m true x hp (fun op n s a len cap w hl hz => ?_) (fun op n s a len cap w hl hz he hr ht => ?_) op n s a len cap w hl hv htab hx
        · refine (goodS_yes op n s a len cap hs m w h p v hh hm (h6 op n s a len cap w hl hz)).mono ?_
          rintro e w' ⟨o1, n1, s1, a1, l1, c1, he, hL, hb⟩
          exact ⟨o1, n1, s1, a1, l1, c1, he, hL.any (Nat.zero_le _), hb⟩
        · exact goodI_yes op n s a len cap hs m x w he p (by have := okT_small (certB_ok c.2.1).2.2.1; omega) fun W hW => goodP_yes op n s a len cap hs m x W (he.on hW) h p v hh hm (h26 op n s a len cap W (hl.below hW) hz (he.on hW) (hr.on hW) (ht.on hW))
    · exact no (fun op n s a len cap w hl hz => goodS_no2 op n s a len cap hs m w h p v hh (h6 op n s a len cap w hl hz))
        (fun op n s a len cap w hl hz he hr ht => goodP_no2 op n s a len cap hs m x w he h p v hh (h26 op n s a len cap w hl hz he hr ht))
  · refine no (fun op n s a len cap w hl hz => ?_) (fun op n s a len cap w hl hz he hr ht => ?_)
    · refine goodS_no1 op n s a len cap hs m w fun W hW => ?_
      refine (ofS6 t op n s a len cap W (hl.below hW) hz).mono ?_
      rintro e w' ⟨hb, ⟨h1, p1, v1, o1, n1, s1, a1, l1, c1, cc, he, hL⟩ | ⟨_, he⟩⟩
      · exact absurd ⟨h1, p1, v1, cc⟩ hc
      · exact ⟨hb, he⟩
    · refine goodP_no1 op n s a len cap hs m x w fun W hW => ?_
      refine (read26 t op n s a len cap x w W hl hW hz (he.on hW) (hr.on hW) (ht.on hW)).mono ?_
      rintro e w' ⟨hb, ⟨h1, p1, v1, o1, n1, s1, a1, l1, c1, cc, he', hL⟩ | ⟨_, he'⟩⟩
      · exact absurd ⟨h1, p1, v1, cc⟩ hc
      · exact ⟨hb, he'⟩

/-- The term is that of a certificate for this host, which has not ended. -/
def GoodP (t : Tm) (hs : ByteArray) (m : Int) (p : Tm) : Prop := ∃ v, CP t hs p v ∧ ¬ v < m

theorem six_yes {t : Tm} {h : ByteArray} {p : Tm} {v : Int} (c : CP t h p v) (op n : Int) (s : ByteArray) (a : Option Addr) (len cap : Nat) (w : World) (hl : Lies w 0 t (tmCells op n s a len cap)) (hz : t.size ≤ 2097152) (W : World) (hW : Below w.heap.size w W) :
    Calls Tryz.prog 48 #[.agg #[.int .i64 op, .int .i64 n, .string s, .slice a len cap]] W fun e w' => Below W.heap.size W w' ∧ ∃ op n s a len cap, e = .returned (.tuple #[.agg #[.string h, .int .i64 op, .int .i64 n, .string s, .slice a len cap, .int .i64 v], .bool true]) ∧ Lies w' W.heap.size p (tmCells op n s a len cap) := by
  refine (ofS6 t op n s a len cap W (hl.below hW) hz).mono ?_
  rintro e w' ⟨hb, ⟨h1, p1, v1, o1, n1, s1, a1, l1, c1, cc, he, hL⟩ | ⟨hno, _⟩⟩
  · obtain ⟨rfl, rfl, rfl⟩ := c.one cc
    exact ⟨hb, o1, n1, s1, a1, l1, c1, he, hL⟩
  · exact absurd ⟨h, p, v, c⟩ hno
theorem six_no {t : Tm} (hc : ¬ ∃ h p v, CP t h p v) (op n : Int) (s : ByteArray) (a : Option Addr) (len cap : Nat) (w : World) (hl : Lies w 0 t (tmCells op n s a len cap)) (hz : t.size ≤ 2097152) (W : World) (hW : Below w.heap.size w W) :
    Calls Tryz.prog 48 #[.agg #[.int .i64 op, .int .i64 n, .string s, .slice a len cap]] W fun e w' => Below W.heap.size W w' ∧ e = .returned (.tuple #[zeroC, .bool false]) := by
  refine (ofS6 t op n s a len cap W (hl.below hW) hz).mono ?_
  rintro e w' ⟨hb, ⟨h1, p1, v1, o1, n1, s1, a1, l1, c1, cc, he, hL⟩ | ⟨_, he⟩⟩
  · exact absurd ⟨h1, p1, v1, cc⟩ hc
  · exact ⟨hb, he⟩
theorem read_got {t : Tm} {h : ByteArray} {p : Tm} {v : Int} (c : CP t h p v) (op n : Int) (s : ByteArray) (a : Option Addr) (len cap : Nat) (w : World) (hl : Lies w 0 t (tmCells op n s a len cap)) (hz : t.size ≤ 2097152) (x : Addr) (he : ErrAt x w) (hr : Var12 w) (ht : Tab w) (W : World) (hW : Below w.heap.size w W) :
    Calls Tryz.prog 108 #[.agg #[.int .i64 op, .int .i64 n, .string s, .slice a len cap]] W fun e w' => Below W.heap.size W w' ∧ ∃ op n s a len cap, e = .returned (.tuple #[.agg #[.string h, .int .i64 op, .int .i64 n, .string s, .slice a len cap, .int .i64 v], .nilIface]) ∧ Lies w 0 p (tmCells op n s a len cap) := by
  refine (read26 t op n s a len cap x w W hl hW hz (he.on hW) (hr.on hW) (ht.on hW)).mono ?_
  rintro e w' ⟨hb, ⟨h1, p1, v1, o1, n1, s1, a1, l1, c1, cc, he', hL⟩ | ⟨hno, _⟩⟩
  · obtain ⟨rfl, rfl, rfl⟩ := c.one cc
    exact ⟨hb, o1, n1, s1, a1, l1, c1, he', hL⟩
  · exact absurd ⟨h, p, v, c⟩ hno
theorem read_not {t : Tm} (hc : ¬ ∃ h p v, CP t h p v) (op n : Int) (s : ByteArray) (a : Option Addr) (len cap : Nat) (w : World) (hl : Lies w 0 t (tmCells op n s a len cap)) (hz : t.size ≤ 2097152) (x : Addr) (he : ErrAt x w) (hr : Var12 w) (ht : Tab w) (W : World) (hW : Below w.heap.size w W) :
    Calls Tryz.prog 108 #[.agg #[.int .i64 op, .int .i64 n, .string s, .slice a len cap]] W fun e w' => Below W.heap.size W w' ∧ e = .returned (.tuple #[zeroC, .iface 202 (.pointer (some x))]) := by
  refine (read26 t op n s a len cap x w W hl hW hz (he.on hW) (hr.on hW) (ht.on hW)).mono ?_
  rintro e w' ⟨hb, ⟨h1, p1, v1, o1, n1, s1, a1, l1, c1, cc, he', hL⟩ | ⟨_, he'⟩⟩
  · exact absurd ⟨h1, p1, v1, cc⟩ hc
  · exact ⟨hb, he'⟩

/-- spec.CertGood where it is good. -/
theorem good12_yes (t : Tm) (hs : ByteArray) (m : Int) (op n : Int) (s : ByteArray) (a : Option Addr) (len cap : Nat) (w : World) (hl : Lies w 0 t (tmCells op n s a len cap)) (hz : t.size ≤ 2097152) (p : Tm) (hg : GoodP t hs m p) :
    Calls Tryz.prog 51 #[.agg #[.int .i64 op, .int .i64 n, .string s, .slice a len cap], .string hs, .int .i64 m] w fun e w' => ∃ op n s a len cap, e = .returned (.tuple #[.agg #[.int .i64 op, .int .i64 n, .string s, .slice a len cap], .bool true]) ∧ Lies w' w.heap.size p (tmCells op n s a len cap) ∧ Below w.heap.size w w' := by
  obtain ⟨v, c, hv⟩ := hg
  exact goodS_yes op n s a len cap hs m w hs p v rfl hv (six_yes c op n s a len cap w hl hz)
/-- spec.CertGood where it is not. -/
theorem good12_no (t : Tm) (hs : ByteArray) (m : Int) (op n : Int) (s : ByteArray) (a : Option Addr) (len cap : Nat) (w : World) (hl : Lies w 0 t (tmCells op n s a len cap)) (hz : t.size ≤ 2097152) (hg : ¬ ∃ p, GoodP t hs m p) :
    Calls Tryz.prog 51 #[.agg #[.int .i64 op, .int .i64 n, .string s, .slice a len cap], .string hs, .int .i64 m] w fun e w' => e = .returned (.tuple #[.agg #[.int .i64 0, .int .i64 0, .string ByteArray.empty, .slice none 0 0], .bool false]) ∧ Below w.heap.size w w' := by
  by_cases hc : ∃ h p v, CP t h p v
  · obtain ⟨h, p, v, c⟩ := hc
    by_cases hh : h = hs
    · by_cases hm : v < m
      · exact goodS_no3 op n s a len cap hs m w h p v hh hm (six_yes c op n s a len cap w hl hz)
      · exact absurd ⟨p, v, hh ▸ c, hm⟩ hg
    · exact goodS_no2 op n s a len cap hs m w h p v hh (six_yes c op n s a len cap w hl hz)
  · exact goodS_no1 op n s a len cap hs m w (six_no hc op n s a len cap w hl hz)
/-- impl.CertGood where it is good. -/
theorem good11_yes (t : Tm) (hs : ByteArray) (m : Int) (op n : Int) (s : ByteArray) (a : Option Addr) (len cap : Nat) (w : World) (hl : Lies w 0 t (tmCells op n s a len cap)) (hz : t.size ≤ 2097152) (x : Addr) (he : ErrAt x w) (hr : Var12 w) (ht : Tab w) (p : Tm) (hg : GoodP t hs m p) :
    Calls Tryz.prog 35 #[.agg #[.int .i64 op, .int .i64 n, .string s, .slice a len cap], .string hs, .int .i64 m] w fun e w' => ∃ op n s a len cap fp, e = .returned (.tuple #[.agg #[.int .i64 op, .int .i64 n, .string s, .slice a len cap], .bool true]) ∧ Own w' p (tmCells op n s a len cap) fp ∧ (fp.Nodup ∧ ∀ y ∈ fp, w.heap.size ≤ y) ∧ Below w.heap.size w w' := by
  obtain ⟨v, c, hv⟩ := hg
  have hp := okT_200 (certB_ok c.2.1).2.2.1
  exact goodI_yes op n s a len cap hs m x w he p (by have := okT_small (certB_ok c.2.1).2.2.1; omega) fun W hW => goodP_yes op n s a len cap hs m x W (he.on hW) hs p v rfl hv (read_got c op n s a len cap W (hl.below hW) hz x (he.on hW) (hr.on hW) (ht.on hW))
/-- impl.CertGood where it is not. -/
theorem good11_no (t : Tm) (hs : ByteArray) (m : Int) (op n : Int) (s : ByteArray) (a : Option Addr) (len cap : Nat) (w : World) (hl : Lies w 0 t (tmCells op n s a len cap)) (hz : t.size ≤ 2097152) (x : Addr) (he : ErrAt x w) (hr : Var12 w) (ht : Tab w) (hg : ¬ ∃ p, GoodP t hs m p) :
    Calls Tryz.prog 35 #[.agg #[.int .i64 op, .int .i64 n, .string s, .slice a len cap], .string hs, .int .i64 m] w fun e w' => e = .returned (.tuple #[.agg #[.int .i64 0, .int .i64 0, .string ByteArray.empty, .slice none 0 0], .bool false]) ∧ Below w.heap.size w w' := by
  refine goodI_no op n s a len cap hs m x w he fun W hW => ?_
  by_cases hc : ∃ h p v, CP t h p v
  · obtain ⟨h, p, v, c⟩ := hc
    have h25 := read_got c op n s a len cap W (hl.below hW) hz x (he.on hW) (hr.on hW) (ht.on hW)
    by_cases hh : h = hs
    · by_cases hm : v < m
      · exact goodP_no3 op n s a len cap hs m x W (he.on hW) h p v hh hm h25
      · exact absurd ⟨p, v, hh ▸ c, hm⟩ hg
    · exact goodP_no2 op n s a len cap hs m x W (he.on hW) h p v hh h25
  · exact goodP_no1 op n s a len cap hs m x W (read_not hc op n s a len cap W (hl.below hW) hz x (he.on hW) (hr.on hW) (ht.on hW))

set_option maxRecDepth 100000 in
set_option maxHeartbeats 1000000 in
theorem pubI (t : Tm) (op n : Int) (s : ByteArray) (a : Option Addr) (len cap : Nat) (w : World) (hl : Lies w 0 t (tmCells op n s a len cap)) (hsz : t.size ≤ 2097151) (herr : Err w) :
    Calls Tryz.prog 38 #[.agg #[.int .i64 op, .int .i64 n, .string s, .slice a len cap]] w fun e w' => ∃ op' n' s' a' len' cap' fp, e = .returned (.agg #[.int .i64 op', .int .i64 n', .string s', .slice a' len' cap']) ∧ Own w' (madeT 4 [t]) (tmCells op' n' s' a' len' cap') fp ∧ (fp.Nodup ∧ ∀ x ∈ fp, w.heap.size ≤ x) ∧ Below w.heap.size w w' := by
  have HER := hide herr
  clear herr
  have h18 := hide (new_any (.node 4 0 ByteArray.empty [t]))
  have HZ : Hid ((Tm.node 4 0 ByteArray.empty [t]).size ≤ 2097152) := by show _ ≤ _; simp only [Tm.size, Tm.sizes]; omega
  have hB0 : Below w.heap.size w ((w.alloc (.cells #[.int .i64 op, .int .i64 n, .string s, .slice a len cap] 29)).alloc (.cells #[.int .i64 0, .int .i64 0, .string ByteArray.empty, .slice none 0 0] 29)) := bt (ab _) (ab _) (Nat.le_refl _)
  have hX : ZBox ((w.alloc (.cells #[.int .i64 op, .int .i64 n, .string s, .slice a len cap] 29)).alloc (.cells #[.int .i64 0, .int .i64 0, .string ByteArray.empty, .slice none 0 0] 29)) (w.heap.size + 1) := by
    have := ZBox.new (w.alloc (.cells #[.int .i64 op, .int .i64 n, .string s, .slice a len cap] 29))
    rwa [heap_size_alloc] at this
  have HB3 := hide (bt hB0 (ab (.cells #[.int .i64 op, .int .i64 n, .string s, .slice a len cap] 29)) (Nat.le_refl _))
  have HX3 := hide (hX.below (ab (.cells #[.int .i64 op, .int .i64 n, .string s, .slice a len cap] 29)))
  have HT3 := hide (lies_one (hl.below hB0) (Nat.zero_le _) 4 (by decide))
  simp only [heap_size_alloc] at HT3
  clear hl hB0 hX
  go_enter Tryz.func38, Tryz.ntmps38
  go_wp2_with fail
  refine (unhide h18 _ _ _ _ _ _ _ (unhide HT3) (unhide HZ) ((unhide HER).on (unhide HB3))).mono ?_
  rintro e w4 ⟨op', n', s', a', len', cap', fp, rfl, hO4, ⟨hnd, hge⟩, hb4⟩
  have HB4 := hide (bt (unhide HB3) hb4 (Nat.le_refl _))
  have hX4 := (unhide HX3).below hb4
  have HO4 := hide hO4
  have HND := hide hnd
  simp only [heap_size_alloc] at hge
  have HGE := hide hge
  obtain ⟨d0, d1, d2, d3, e0, e1, e2, e3⟩ := hX4.facts
  clear hb4 hO4 hX4 HB3 HX3 HT3 hnd hge
  go_wp2_with fail
  exact bodyPost_ret (v := .agg #[.int .i64 op', .int .i64 n', .string s', .slice a' len' cap']) (by simp [results, Tryz.results38, go_sem, d0, d1, d2, d3]) rfl ⟨op', n', s', a', len', cap', fp, rfl, Own.keep _ _ _ (unhide HO4) (fun b hb => set4_heap _ _ _ _ _ _ b (by have := unhide HGE b hb; omega)), ⟨unhide HND, fun x hx => by have := unhide HGE x hx; omega⟩, set4_below (unhide HB4) (by omega)⟩


/-- A right open half is that of one term. -/
theorem half_shape {p : Tm} (h4 : opT p = 4) (hok : okT p = true) : ∃ k, p = .node 4 0 ByteArray.empty [k] := by
  obtain ⟨op, n, s, ks⟩ := p
  simp only [opT] at h4
  subst h4
  simp only [okT, rightT, Bool.and_eq_true] at hok
  have hh := hok.2.1.1
  rw [headB_only (by decide) (by decide)] at hh
  simp only [onlyB, decide_eq_true_eq] at hh
  obtain ⟨rfl, h2, h3⟩ := hh
  have hs : s = ByteArray.empty := by simpa using h2
  subst hs
  have h3 : ks.length = 1 := by
    have e : kidsOf 4 = 1 := by decide
    rw [e] at h3; omega
  match ks, h3 with
  | [k], _ => exact ⟨k, rfl⟩

/-- The one kid of a term that lies in memory. -/
theorem lies_kid {w : World} {op n : Int} {s : ByteArray} {k : Tm} {op2 n2 : Int} {s2 : ByteArray} {a2 : Option Addr} {len2 cap2 : Nat} (hl : Lies w 0 (.node op n s [k]) (tmCells op2 n2 s2 a2 len2 cap2)) :
    op2 = op ∧ n2 = n ∧ s2 = s ∧ len2 = 1 ∧ ∃ b q op3 n3 s3 a3 len3 cap3, a2 = some ⟨b, q, none⟩ ∧
      (w.cell? ⟨b, q, none⟩ = some (.int .i64 op3) ∧ w.cell? ⟨b, q + 1, none⟩ = some (.int .i64 n3) ∧ w.cell? ⟨b, q + 2, none⟩ = some (.string s3) ∧ w.cell? ⟨b, q + 3, none⟩ = some (.slice a3 len3 cap3) ∧ Lies w 0 k (tmCells op3 n3 s3 a3 len3 cap3)) := by
  have hx := hl
  simp only [Lies, tmCells, List.cons.injEq, Value.int.injEq, Value.string.injEq, Value.slice.injEq, true_and, and_true] at hx
  obtain ⟨a9, c9, ⟨rfl, rfl, rfl, rfl, rfl, rfl⟩, _, _, hka⟩ := hx
  obtain ⟨b, q, op3, n3, s3, a3, len3, cap3, rfl, _, _, r0, r1, r2, r3, hk0⟩ := hka.elem (k := 0) (by simp)
  simp only [Nat.zero_mul, Nat.add_zero] at r0 r1 r2 r3
  exact ⟨rfl, rfl, rfl, by simp, b, q, op3, n3, s3, a3, len3, cap3, rfl, ⟨r0, r1, r2, r3, hk0⟩⟩

/-- What one answers who is shown this. -/
def sgnT (k t : Tm) : Tm := match behO 8 k t with | none => .node 0 0 ByteArray.empty [] | some u => u
def sgnB (k t : Tm) : Bool := (behO 8 k t).isSome

theorem sgnS (k t : Tm) (op7 n7 : Int) (s7 : ByteArray) (a7 : Option Addr) (len7 cap7 : Nat) (op6 n6 : Int) (s6 : ByteArray) (a6 : Option Addr) (len6 cap6 : Nat) (w : World) (hlf : Lies w 0 (.node 4 0 ByteArray.empty [k]) (tmCells op7 n7 s7 a7 len7 cap7)) (hl : Lies w 0 t (tmCells op6 n6 s6 a6 len6 cap6)) (hsz : t.size ≤ 2097152) :
    Calls Tryz.prog 59 #[.agg #[.int .i64 op7, .int .i64 n7, .string s7, .slice a7 len7 cap7], .agg #[.int .i64 op6, .int .i64 n6, .string s6, .slice a6 len6 cap6]] w fun e w' => ∃ op8 n8 s8 a8 len8 cap8, e = .returned (.tuple #[.agg #[.int .i64 op8, .int .i64 n8, .string s8, .slice a8 len8 cap8], .bool (sgnB k t)]) ∧ Lies w' 0 (sgnT k t) (tmCells op8 n8 s8 a8 len8 cap8) ∧ Below w.heap.size w w' := by
  cases hb : behO 8 k t with
  | none =>
    refine (signedS_none k t op7 n7 s7 a7 len7 cap7 op6 n6 s6 a6 len6 cap6 w hlf hl hsz hb).mono ?_
    rintro e w' ⟨rfl, h⟩
    exact ⟨0, 0, ByteArray.empty, none, 0, 0, by simp only [sgnB, hb, Option.isSome_none], by simp only [sgnT, hb]; exact zero_lies _ 0, h⟩
  | some u =>
    refine (signedS_some k t u op7 n7 s7 a7 len7 cap7 op6 n6 s6 a6 len6 cap6 w hlf hl hsz hb).mono ?_
    rintro e w' ⟨o, n, s, a, l, c, rfl, hL, h⟩
    exact ⟨o, n, s, a, l, c, by simp only [sgnB, hb, Option.isSome_some], by simp only [sgnT, hb]; exact hL, h⟩

theorem sgnI (k t : Tm) (op7 n7 : Int) (s7 : ByteArray) (a7 : Option Addr) (len7 cap7 : Nat) (op6 n6 : Int) (s6 : ByteArray) (a6 : Option Addr) (len6 cap6 : Nat) (x : Addr) (w : World) (he : ErrAt x w) (hlf : Lies w 0 (.node 4 0 ByteArray.empty [k]) (tmCells op7 n7 s7 a7 len7 cap7)) (hl : Lies w 0 t (tmCells op6 n6 s6 a6 len6 cap6)) (hsz : t.size ≤ 2097152) :
    Calls Tryz.prog 63 #[.agg #[.int .i64 op7, .int .i64 n7, .string s7, .slice a7 len7 cap7], .agg #[.int .i64 op6, .int .i64 n6, .string s6, .slice a6 len6 cap6]] w fun e w' => ∃ op8 n8 s8 a8 len8 cap8, e = .returned (.tuple #[.agg #[.int .i64 op8, .int .i64 n8, .string s8, .slice a8 len8 cap8], .bool (sgnB k t)]) ∧ Lies w' 0 (sgnT k t) (tmCells op8 n8 s8 a8 len8 cap8) ∧ Below w.heap.size w w' := by
  obtain ⟨rfl, rfl, rfl, rfl, b, q, op3, n3, s3, a3, len3, cap3, rfl, r0, r1, r2, r3, hk⟩ := lies_kid hlf
  cases hb : behO 8 k t with
  | none =>
    refine (signedI_no _ _ _ _ _ _ op6 n6 s6 a6 len6 cap6 x w he fun V hV => sgnb_no2 k t _ _ b q _ op3 n3 s3 a3 len3 cap3 op6 n6 s6 a6 len6 cap6 x V (he.on hV) (hk.below hV) (hl.below hV) hsz (kpc hV r0) (kpc hV r1) (kpc hV r2) (kpc hV r3) hb).mono ?_
    rintro e w' ⟨rfl, h⟩
    exact ⟨0, 0, ByteArray.empty, none, 0, 0, by simp only [sgnB, hb, Option.isSome_none], by simp only [sgnT, hb]; exact zero_lies _ 0, h⟩
  | some u =>
    have hou : okT u = true := by
      obtain ⟨nt, st, k0, rfl, hok, _⟩ := behO_some hb
      exact okT_kid hok (by simp)
    refine (signedI_yes u _ _ _ _ _ _ op6 n6 s6 a6 len6 cap6 x w he hou fun V hV => sgnb_yes k t _ _ b q _ op3 n3 s3 a3 len3 cap3 op6 n6 s6 a6 len6 cap6 x V (he.on hV) (hk.below hV) (hl.below hV) hsz (kpc hV r0) (kpc hV r1) (kpc hV r2) (kpc hV r3) u hb).mono ?_
    rintro e w' ⟨o, n, s, a, l, c, rfl, hL, h⟩
    exact ⟨o, n, s, a, l, c, by simp only [sgnB, hb, Option.isSome_some], by simp only [sgnT, hb]; exact hL, h⟩

theorem sgnT_ok (k t : Tm) (h : sgnB k t = true) : okT (sgnT k t) = true := by
  unfold sgnB at h
  unfold sgnT
  cases hb : behO 8 k t with
  | none => rw [hb] at h; cases h
  | some u =>
    obtain ⟨nt, st, k0, rfl, hok, _⟩ := behO_some hb
    exact okT_kid hok (by simp)

/-- A right term that is no hash is not what both make. -/
theorem both_not {u e pb : Tm} (hou : okT u = true) (h6 : opT u ≠ 6) : sameB u (bothT e pb) = false := by
  cases h : sameB u (bothT e pb) with
  | false => rfl
  | true =>
    have hu := same_alike.1 h
    subst hu
    unfold bothT madeT at h6 hou
    cases hk : okT (.node 6 0 ByteArray.empty [pickT (okT (.node 3 0 ByteArray.empty [e, pb])) (.node 3 0 ByteArray.empty [e, pb])]) with
    | true => rw [hk] at h6; exact absurd rfl h6
    | false => rw [hk] at hou; simp only [pickT, Bool.false_eq_true, if_false] at hou; exact absurd hou (by decide)

/-- Both Proved at the same arguments. -/
theorem proved_both (e pb ce sg : Tm) (hs : ByteArray) (m : Int) (hz1 : e.size + pb.size ≤ 2096000) (hz2 : ce.size ≤ 2097152) (hz3 : sg.size ≤ 2097152) : ∃ R : Bool,
    Hid (∀ (op n : Int) (s : ByteArray) (a : Option Addr) (len cap : Nat) (op2 n2 : Int) (s2 : ByteArray) (a2 : Option Addr) (len2 cap2 : Nat) (op5 n5 : Int) (s5 : ByteArray) (a5 : Option Addr) (len5 cap5 : Nat) (op6 n6 : Int) (s6 : ByteArray) (a6 : Option Addr) (len6 cap6 : Nat) (w : World), Lies w 0 e (tmCells op n s a len cap) → Lies w 0 pb (tmCells op2 n2 s2 a2 len2 cap2) → Lies w 0 ce (tmCells op5 n5 s5 a5 len5 cap5) → Lies w 0 sg (tmCells op6 n6 s6 a6 len6 cap6) →
      Calls Tryz.prog 10 #[.agg #[.int .i64 op, .int .i64 n, .string s, .slice a len cap], .agg #[.int .i64 op2, .int .i64 n2, .string s2, .slice a2 len2 cap2], .agg #[.int .i64 op5, .int .i64 n5, .string s5, .slice a5 len5 cap5], .agg #[.int .i64 op6, .int .i64 n6, .string s6, .slice a6 len6 cap6], .string hs, .int .i64 m] w fun e w' => e = .returned (.bool R) ∧ Below w.heap.size w w') ∧
    Hid (∀ (op n : Int) (s : ByteArray) (a : Option Addr) (len cap : Nat) (op2 n2 : Int) (s2 : ByteArray) (a2 : Option Addr) (len2 cap2 : Nat) (op5 n5 : Int) (s5 : ByteArray) (a5 : Option Addr) (len5 cap5 : Nat) (op6 n6 : Int) (s6 : ByteArray) (a6 : Option Addr) (len6 cap6 : Nat) (x : Addr) (w : World), ErrAt x w → Var12 w → Tab w → Lies w 0 e (tmCells op n s a len cap) → Lies w 0 pb (tmCells op2 n2 s2 a2 len2 cap2) → Lies w 0 ce (tmCells op5 n5 s5 a5 len5 cap5) → Lies w 0 sg (tmCells op6 n6 s6 a6 len6 cap6) →
      Calls Tryz.prog 12 #[.agg #[.int .i64 op, .int .i64 n, .string s, .slice a len cap], .agg #[.int .i64 op2, .int .i64 n2, .string s2, .slice a2 len2 cap2], .agg #[.int .i64 op5, .int .i64 n5, .string s5, .slice a5 len5 cap5], .agg #[.int .i64 op6, .int .i64 n6, .string s6, .slice a6 len6 cap6], .string hs, .int .i64 m] w fun e w' => e = .returned (.bool R) ∧ Below w.heap.size w w') := by
  have hzp : (madeT 4 [e]).size ≤ 200 := madeT_200 _ _
  by_cases hg : ∃ p, GoodP ce hs m p
  · obtain ⟨p, hg⟩ := hg
    obtain ⟨v, c, hv⟩ := hg
    have hg : GoodP ce hs m p := ⟨v, c, hv⟩
    have hc := certB_ok c.2.1
    obtain ⟨k, rfl⟩ := half_shape hc.2.1 hc.2.2.1
    cases hsb : sgnB k sg with
    | false =>
      refine ⟨false, ?_, ?_⟩
      · intro op n s a len cap op2 n2 s2 a2 len2 cap2 op5 n5 s5 a5 len5 cap5 op6 n6 s6 a6 len6 cap6 w l1 l2 l5 l6
        refine provedS1 (.node 4 0 ByteArray.empty [k]) (sgnT k sg) op n s a len cap op2 n2 s2 a2 len2 cap2 op5 n5 s5 a5 len5 cap5 op6 n6 s6 a6 len6 cap6 hs m w ?_ ?_
        · intro V hV
          refine (good12_yes ce hs m op5 n5 s5 a5 len5 cap5 V (l5.below hV) hz2 _ hg).mono ?_
          rintro e' w' ⟨o, n, s, a, l, c, rfl, hL, h⟩
          exact ⟨o, n, s, a, l, c, rfl, hL.any (Nat.zero_le _), h⟩
        · intro op7 n7 s7 a7 len7 cap7 V hV hL
          have := sgnS k sg op7 n7 s7 a7 len7 cap7 op6 n6 s6 a6 len6 cap6 V hL (l6.below hV) hz3
          rwa [hsb] at this
      · intro op n s a len cap op2 n2 s2 a2 len2 cap2 op5 n5 s5 a5 len5 cap5 op6 n6 s6 a6 len6 cap6 x w he hr ht l1 l2 l5 l6
        refine provedI1 (.node 4 0 ByteArray.empty [k]) (sgnT k sg) op n s a len cap op2 n2 s2 a2 len2 cap2 op5 n5 s5 a5 len5 cap5 op6 n6 s6 a6 len6 cap6 hs m w ?_ ?_
        · intro V hV
          refine (good11_yes ce hs m op5 n5 s5 a5 len5 cap5 V (l5.below hV) hz2 x (he.on hV) (hr.on hV) (ht.on hV) _ hg).mono ?_
          rintro e' w' ⟨o, n, s, a, l, c, fp, rfl, hO, _, h⟩
          exact ⟨o, n, s, a, l, c, rfl, hO.lies0, h⟩
        · intro op7 n7 s7 a7 len7 cap7 V hV hL
          have := sgnI k sg op7 n7 s7 a7 len7 cap7 op6 n6 s6 a6 len6 cap6 x V (he.on hV) hL (l6.below hV) hz3
          rwa [hsb] at this
    | true =>
      have hou := sgnT_ok k sg hsb
      have hzu := okT_200 hou
      refine ⟨sameB (sgnT k sg) (bothT (madeT 4 [e]) pb), ?_, ?_⟩
      · intro op n s a len cap op2 n2 s2 a2 len2 cap2 op5 n5 s5 a5 len5 cap5 op6 n6 s6 a6 len6 cap6 w l1 l2 l5 l6
        have hG : ∀ V, Below w.heap.size w V → Calls Tryz.prog 51 #[.agg #[.int .i64 op5, .int .i64 n5, .string s5, .slice a5 len5 cap5], .string hs, .int .i64 m] V fun e w' => ∃ op7 n7 s7 a7 len7 cap7, e = .returned (.tuple #[.agg #[.int .i64 op7, .int .i64 n7, .string s7, .slice a7 len7 cap7], .bool true]) ∧ Lies w' 0 (.node 4 0 ByteArray.empty [k]) (tmCells op7 n7 s7 a7 len7 cap7) ∧ Below V.heap.size V w' := by
          intro V hV
          refine (good12_yes ce hs m op5 n5 s5 a5 len5 cap5 V (l5.below hV) hz2 _ hg).mono ?_
          rintro e' w' ⟨o, n, s, a, l, c, rfl, hL, h⟩
          exact ⟨o, n, s, a, l, c, rfl, hL.any (Nat.zero_le _), h⟩
        have hS : ∀ (op7 n7 : Int) (s7 : ByteArray) (a7 : Option Addr) (len7 cap7 : Nat) V, Below w.heap.size w V → Lies V 0 (.node 4 0 ByteArray.empty [k]) (tmCells op7 n7 s7 a7 len7 cap7) → Calls Tryz.prog 59 #[.agg #[.int .i64 op7, .int .i64 n7, .string s7, .slice a7 len7 cap7], .agg #[.int .i64 op6, .int .i64 n6, .string s6, .slice a6 len6 cap6]] V fun e w' => ∃ op8 n8 s8 a8 len8 cap8, e = .returned (.tuple #[.agg #[.int .i64 op8, .int .i64 n8, .string s8, .slice a8 len8 cap8], .bool true]) ∧ Lies w' 0 (sgnT k sg) (tmCells op8 n8 s8 a8 len8 cap8) ∧ Below V.heap.size V w' := by
          intro op7 n7 s7 a7 len7 cap7 V hV hL
          have := sgnS k sg op7 n7 s7 a7 len7 cap7 op6 n6 s6 a6 len6 cap6 V hL (l6.below hV) hz3
          rwa [hsb] at this
        by_cases h6 : opT (sgnT k sg) = 6
        · refine provedS3 (.node 4 0 ByteArray.empty [k]) (sgnT k sg) (madeT 4 [e]) (bothT (madeT 4 [e]) pb) _ op n s a len cap op2 n2 s2 a2 len2 cap2 op5 n5 s5 a5 len5 cap5 op6 n6 s6 a6 len6 cap6 hs m w hG hS ?_ ?_ ?_ ?_
          · intro V hV
            refine (pubS e op n s a len cap V (l1.below hV) (by omega)).mono ?_
            rintro e' w' ⟨o, n, s, a, l, c, rfl, hL, h, _⟩
            exact ⟨o, n, s, a, l, c, rfl, hL.any (Nat.zero_le _), h⟩
          · intro op9 n9 s9 a9 len9 cap9 V hV hL
            refine (bothS (madeT 4 [e]) pb op9 n9 s9 a9 len9 cap9 op2 n2 s2 a2 len2 cap2 V hL (l2.below hV) (by omega)).mono ?_
            rintro e' w' ⟨o, n, s, a, l, c, rfl, hL, h⟩
            exact ⟨o, n, s, a, l, c, rfl, hL.any (Nat.zero_le _), h⟩
          · intro op8 n8 s8 a8 len8 cap8 op10 n10 s10 a10 len10 cap10 V hA hB
            exact sa_calls _ _ op8 n8 s8 a8 len8 cap8 op10 n10 s10 a10 len10 cap10 V hA hB
          · intro op8 n8 s8 a8 len8 cap8 V hL
            have := lies_op hL
            rw [h6] at this; subst this; rfl
        · rw [both_not hou h6]
          refine provedS2 (.node 4 0 ByteArray.empty [k]) (sgnT k sg) op n s a len cap op2 n2 s2 a2 len2 cap2 op5 n5 s5 a5 len5 cap5 op6 n6 s6 a6 len6 cap6 hs m w hG hS ?_
          intro op8 n8 s8 a8 len8 cap8 V hL
          have := lies_op hL
          rw [this] at h6
          simpa using h6
      · intro op n s a len cap op2 n2 s2 a2 len2 cap2 op5 n5 s5 a5 len5 cap5 op6 n6 s6 a6 len6 cap6 x w he hr ht l1 l2 l5 l6
        refine provedI3 (.node 4 0 ByteArray.empty [k]) (sgnT k sg) (madeT 4 [e]) (bothT (madeT 4 [e]) pb) _ op n s a len cap op2 n2 s2 a2 len2 cap2 op5 n5 s5 a5 len5 cap5 op6 n6 s6 a6 len6 cap6 hs m w ?_ ?_ ?_ ?_ ?_
        · intro V hV
          refine (good11_yes ce hs m op5 n5 s5 a5 len5 cap5 V (l5.below hV) hz2 x (he.on hV) (hr.on hV) (ht.on hV) _ hg).mono ?_
          rintro e' w' ⟨o, n, s, a, l, c, fp, rfl, hO, _, h⟩
          exact ⟨o, n, s, a, l, c, rfl, hO.lies0, h⟩
        · intro op7 n7 s7 a7 len7 cap7 V hV hL
          have := sgnI k sg op7 n7 s7 a7 len7 cap7 op6 n6 s6 a6 len6 cap6 x V (he.on hV) hL (l6.below hV) hz3
          rwa [hsb] at this
        · intro V hV
          refine (pubI e op n s a len cap V (l1.below hV) (by omega) ⟨x, he.on hV⟩).mono ?_
          rintro e' w' ⟨o, n, s, a, l, c, fp, rfl, hO, _, h⟩
          exact ⟨o, n, s, a, l, c, rfl, hO.lies0, h⟩
        · intro op9 n9 s9 a9 len9 cap9 V hV hL
          refine (bothI (madeT 4 [e]) pb op9 n9 s9 a9 len9 cap9 op2 n2 s2 a2 len2 cap2 V hL (l2.below hV) (by omega) ⟨x, he.on hV⟩).mono ?_
          rintro e' w' ⟨o, n, s, a, l, c, fp, rfl, hO, _, h⟩
          exact ⟨o, n, s, a, l, c, rfl, hO.lies0, h⟩
        · intro op8 n8 s8 a8 len8 cap8 op10 n10 s10 a10 len10 cap10 V hA hB
          exact same15 _ _ op8 n8 s8 a8 len8 cap8 op10 n10 s10 a10 len10 cap10 V hA hB (by omega)
  · refine ⟨false, ?_, ?_⟩
    · intro op n s a len cap op2 n2 s2 a2 len2 cap2 op5 n5 s5 a5 len5 cap5 op6 n6 s6 a6 len6 cap6 w l1 l2 l5 l6
      refine provedS0 (.node 0 0 ByteArray.empty []) op n s a len cap op2 n2 s2 a2 len2 cap2 op5 n5 s5 a5 len5 cap5 op6 n6 s6 a6 len6 cap6 hs m w ?_
      intro V hV
      refine (good12_no ce hs m op5 n5 s5 a5 len5 cap5 V (l5.below hV) hz2 hg).mono ?_
      rintro e' w' ⟨rfl, h⟩
      exact ⟨_, _, _, _, _, _, rfl, zero_lies _ 0, h⟩
    · intro op n s a len cap op2 n2 s2 a2 len2 cap2 op5 n5 s5 a5 len5 cap5 op6 n6 s6 a6 len6 cap6 x w he hr ht l1 l2 l5 l6
      refine provedI0 (.node 0 0 ByteArray.empty []) (.node 0 0 ByteArray.empty []) op n s a len cap op2 n2 s2 a2 len2 cap2 op5 n5 s5 a5 len5 cap5 op6 n6 s6 a6 len6 cap6 hs m w ?_ ?_
      · intro V hV
        refine (good11_no ce hs m op5 n5 s5 a5 len5 cap5 V (l5.below hV) hz2 x (he.on hV) (hr.on hV) (ht.on hV) hg).mono ?_
        rintro e' w' ⟨rfl, h⟩
        exact ⟨_, _, _, _, _, _, rfl, zero_lies _ 0, h⟩
      · intro op7 n7 s7 a7 len7 cap7 V hV hL
        have h0 := lies_op hL
        simp only [opT] at h0
        refine (signedI_no op7 n7 s7 a7 len7 cap7 op6 n6 s6 a6 len6 cap6 x V (he.on hV) fun W hW => sgnb_no1 op7 n7 s7 a7 len7 cap7 op6 n6 s6 a6 len6 cap6 x W ((he.on hV).on hW) (Or.inl (by omega))).mono ?_
        rintro e' w' ⟨rfl, h⟩
        exact ⟨_, _, _, _, _, _, rfl, zero_lies _ 0, h⟩

end Go.Proofs.YtmklgikbajhcpaaGreatDoor
