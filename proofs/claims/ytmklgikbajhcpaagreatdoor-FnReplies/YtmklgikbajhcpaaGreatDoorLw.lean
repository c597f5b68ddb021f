/- The law of FnReplies. -/
import Derived.Test.YtmklgikbajhcpaaGreatDoorLy
import Derived.Test.YtmklgikbajhcpaaGreatDoorOx2
import Derived.Test.YtmklgikbajhcpaaGreatDoorLu
import Derived.Deep.RegionHeld3
namespace Go.Proofs.YtmklgikbajhcpaaGreatDoor
open Go.RowKit Go.Deep

theorem proved_good (e pb ce sg : Tm) (hs : ByteArray) (m : Int) (hz1 : e.size + pb.size ≤ 2096000) (hz2 : ce.size ≤ 2097152) (hz3 : sg.size ≤ 2097152) : ∃ R : Bool, (R = true → ∃ p, GoodP ce hs m p) ∧
    Hid (∀ (op n : Int) (s : ByteArray) (a : Option Addr) (len cap : Nat) (op2 n2 : Int) (s2 : ByteArray) (a2 : Option Addr) (len2 cap2 : Nat) (op5 n5 : Int) (s5 : ByteArray) (a5 : Option Addr) (len5 cap5 : Nat) (op6 n6 : Int) (s6 : ByteArray) (a6 : Option Addr) (len6 cap6 : Nat) (w : World), Lies w 0 e (tmCells op n s a len cap) → Lies w 0 pb (tmCells op2 n2 s2 a2 len2 cap2) → Lies w 0 ce (tmCells op5 n5 s5 a5 len5 cap5) → Lies w 0 sg (tmCells op6 n6 s6 a6 len6 cap6) →
      Calls Tryz.prog 10 #[.agg #[.int .i64 op, .int .i64 n, .string s, .slice a len cap], .agg #[.int .i64 op2, .int .i64 n2, .string s2, .slice a2 len2 cap2], .agg #[.int .i64 op5, .int .i64 n5, .string s5, .slice a5 len5 cap5], .agg #[.int .i64 op6, .int .i64 n6, .string s6, .slice a6 len6 cap6], .string hs, .int .i64 m] w fun e w' => e = .returned (.bool R) ∧ Below w.heap.size w w') ∧
    Hid (∀ (op n : Int) (s : ByteArray) (a : Option Addr) (len cap : Nat) (op2 n2 : Int) (s2 : ByteArray) (a2 : Option Addr) (len2 cap2 : Nat) (op5 n5 : Int) (s5 : ByteArray) (a5 : Option Addr) (len5 cap5 : Nat) (op6 n6 : Int) (s6 : ByteArray) (a6 : Option Addr) (len6 cap6 : Nat) (x : Addr) (w : World), ErrAt x w → Var12 w → Tab w → Lies w 0 e (tmCells op n s a len cap) → Lies w 0 pb (tmCells op2 n2 s2 a2 len2 cap2) → Lies w 0 ce (tmCells op5 n5 s5 a5 len5 cap5) → Lies w 0 sg (tmCells op6 n6 s6 a6 len6 cap6) →
      Calls Tryz.prog 12 #[.agg #[.int .i64 op, .int .i64 n, .string s, .slice a len cap], .agg #[.int .i64 op2, .int .i64 n2, .string s2, .slice a2 len2 cap2], .agg #[.int .i64 op5, .int .i64 n5, .string s5, .slice a5 len5 cap5], .agg #[.int .i64 op6, .int .i64 n6, .string s6, .slice a6 len6 cap6], .string hs, .int .i64 m] w fun e w' => e = .returned (.bool R) ∧ Below w.heap.size w w') := by
  have hzp : (madeT 4 [e]).size ≤ 200 := madeT_200 _ _
  by_cases hg : ∃ p, GoodP ce hs m p
  · obtain ⟨p, hg⟩ := hg
    obtain ⟨v, c, hv⟩ := hg
    have hg : GoodP ce hs m p := ⟨v, c, hv⟩
    have hc := certB_ok c.2.1
    obtain ⟨k, rfl⟩ := half_shape hc.2.1 hc.2.2.1
    cases hsb : sgnB k sg with
    | false =>
      refine ⟨false, (fun h => by cases h), ?_, ?_⟩
      · intro op n s a len cap op2 n2 s2 a2 len2 cap2 op5 n5 s5 a5 len5 cap5 op6 n6 s6 a6 len6 cap6 w l1 l2 l5 l6
        refine provedS1 (.node 4 0 ByteArray.empty [k]) (sgnT k sg) op n s a len cap op2 n2 s2 a2 len2 cap2 op5 n5 s5 a5 len5 cap5 op6 n6 s6 a6 len6 cap6 hs m w ?_ ?_
        · intro V hV
          refine (good12_yes ce hs m op5 n5 s5 a5 len5 cap5 V (l5.below hV) hz2 _ hg).mono ?_
          rintro e' w' ⟨o, n, s, a, l, c, rfl, hL, h⟩
          exact ⟨o, n, s, a, l, c, rfl, hL.any (Nat.zero_le _), h⟩
        · intro op7 n7 s7 a7 len7 cap7 V hV hL
          have := sgnS k sg op7 n7 s7 a7 len7 cap7 op6 n6 s6 a6 len6 cap6 V hL (l6.below hV) hz3
          rwa [hsb] at this
      · intro op n s a len cap op2 n2 s2 a2 len2 cap2 op5 n5 s5 a5 len5 cap5 op6 n6 s6 a6 len6 cap6 x w he hr ht l1 l2 l5 l6
        refine provedI1 (.node 4 0 ByteArray.empty [k]) (sgnT k sg) op n s a len cap op2 n2 s2 a2 len2 cap2 op5 n5 s5 a5 len5 cap5 op6 n6 s6 a6 len6 cap6 hs m w ?_ ?_
        · intro V hV
          refine (good11_yes ce hs m op5 n5 s5 a5 len5 cap5 V (l5.below hV) hz2 x (he.on hV) (hr.on hV) (ht.on hV) _ hg).mono ?_
          rintro e' w' ⟨o, n, s, a, l, c, fp, rfl, hO, _, h⟩
          exact ⟨o, n, s, a, l, c, rfl, hO.lies0, h⟩
        · intro op7 n7 s7 a7 len7 cap7 V hV hL
          have := sgnI k sg op7 n7 s7 a7 len7 cap7 op6 n6 s6 a6 len6 cap6 x V (he.on hV) hL (l6.below hV) hz3
          rwa [hsb] at this
    | true =>
      have hou := sgnT_ok k sg hsb
      have hzu := okT_200 hou
      refine ⟨sameB (sgnT k sg) (bothT (madeT 4 [e]) pb), (fun _ => ⟨_, hg⟩), ?_, ?_⟩
      · intro op n s a len cap op2 n2 s2 a2 len2 cap2 op5 n5 s5 a5 len5 cap5 op6 n6 s6 a6 len6 cap6 w l1 l2 l5 l6
        have hG : ∀ V, Below w.heap.size w V → Calls Tryz.prog 51 #[.agg #[.int .i64 op5, .int .i64 n5, .string s5, .slice a5 len5 cap5], .string hs, .int .i64 m] V fun e w' => ∃ op7 n7 s7 a7 len7 cap7, e = .returned (.tuple #[.agg #[.int .i64 op7, .int .i64 n7, .string s7, .slice a7 len7 cap7], .bool true]) ∧ Lies w' 0 (.node 4 0 ByteArray.empty [k]) (tmCells op7 n7 s7 a7 len7 cap7) ∧ Below V.heap.size V w' := by
          intro V hV
          refine (good12_yes ce hs m op5 n5 s5 a5 len5 cap5 V (l5.below hV) hz2 _ hg).mono ?_
          rintro e' w' ⟨o, n, s, a, l, c, rfl, hL, h⟩
          exact ⟨o, n, s, a, l, c, rfl, hL.any (Nat.zero_le _), h⟩
        have hS : ∀ (op7 n7 : Int) (s7 : ByteArray) (a7 : Option Addr) (len7 cap7 : Nat) V, Below w.heap.size w V → Lies V 0 (.node 4 0 ByteArray.empty [k]) (tmCells op7 n7 s7 a7 len7 cap7) → Calls Tryz.prog 59 #[.agg #[.int .i64 op7, .int .i64 n7, .string s7, .slice a7 len7 cap7], .agg #[.int .i64 op6, .int .i64 n6, .string s6, .slice a6 len6 cap6]] V fun e w' => ∃ op8 n8 s8 a8 len8 cap8, e = .returned (.tuple #[.agg #[.int .i64 op8, .int .i64 n8, .string s8, .slice a8 len8 cap8], .bool true]) ∧ Lies w' 0 (sgnT k sg) (tmCells op8 n8 s8 a8 len8 cap8) ∧ Below V.heap.size V w' := by
          intro op7 n7 s7 a7 len7 cap7 V hV hL
          have := sgnS k sg op7 n7 s7 a7 len7 cap7 op6 n6 s6 a6 len6 cap6 V hL (l6.below hV) hz3
          rwa [hsb] at this
        by_cases h6 : opT (sgnT k sg) = 6
        · refine provedS3 (.node 4 0 ByteArray.empty [k]) (sgnT k sg) (madeT 4 [e]) (bothT (madeT 4 [e]) pb) _ op n s a len cap op2 n2 s2 a2 len2 cap2 op5 n5 s5 a5 len5 cap5 op6 n6 s6 a6 len6 cap6 hs m w hG hS ?_ ?_ ?_ ?_
          · intro V hV
            refine (pubS e op n s a len cap V (l1.below hV) (by omega)).mono ?_
            rintro e' w' ⟨o, n, s, a, l, c, rfl, hL, h, _⟩
            exact ⟨o, n, s, a, l, c, rfl, hL.any (Nat.zero_le _), h⟩
          · intro op9 n9 s9 a9 len9 cap9 V hV hL
            refine (bothS (madeT 4 [e]) pb op9 n9 s9 a9 len9 cap9 op2 n2 s2 a2 len2 cap2 V hL (l2.below hV) (by omega)).mono ?_
            rintro e' w' ⟨o, n, s, a, l, c, rfl, hL, h⟩
            exact ⟨o, n, s, a, l, c, rfl, hL.any (Nat.zero_le _), h⟩
          · intro op8 n8 s8 a8 len8 cap8 op10 n10 s10 a10 len10 cap10 V hA hB
            exact sa_calls _ _ op8 n8 s8 a8 len8 cap8 op10 n10 s10 a10 len10 cap10 V hA hB
          · intro op8 n8 s8 a8 len8 cap8 V hL
            have := lies_op hL
            rw [h6] at this; subst this; rfl
        · rw [both_not hou h6]
          refine provedS2 (.node 4 0 ByteArray.empty [k]) (sgnT k sg) op n s a len cap op2 n2 s2 a2 len2 cap2 op5 n5 s5 a5 len5 cap5 op6 n6 s6 a6 len6 cap6 hs m w hG hS ?_
          intro op8 n8 s8 a8 len8 cap8 V hL
          have := lies_op hL
          rw [this] at h6
          simpa using h6
      · intro op n s a len cap op2 n2 s2 a2 len2 cap2 op5 n5 s5 a5 len5 cap5 op6 n6 s6 a6 len6 cap6 x w he hr ht l1 l2 l5 l6
        refine provedI3 (.node 4 0 ByteArray.empty [k]) (sgnT k sg) (madeT 4 [e]) (bothT (madeT 4 [e]) pb) _ op n s a len cap op2 n2 s2 a2 len2 cap2 op5 n5 s5 a5 len5 cap5 op6 n6 s6 a6 len6 cap6 hs m w ?_ ?_ ?_ ?_ ?_
        · intro V hV
          refine (good11_yes ce hs m op5 n5 s5 a5 len5 cap5 V (l5.below hV) hz2 x (he.on hV) (hr.on hV) (ht.on hV) _ hg).mono ?_
          rintro e' w' ⟨o, n, s, a, l, c, fp, rfl, hO, _, h⟩
          exact ⟨o, n, s, a, l, c, rfl, hO.lies0, h⟩
        · intro op7 n7 s7 a7 len7 cap7 V hV hL
          have := sgnI k sg op7 n7 s7 a7 len7 cap7 op6 n6 s6 a6 len6 cap6 x V (he.on hV) hL (l6.below hV) hz3
          rwa [hsb] at this
        · intro V hV
          refine (pubI e op n s a len cap V (l1.below hV) (by omega) ⟨x, he.on hV⟩).mono ?_
          rintro e' w' ⟨o, n, s, a, l, c, fp, rfl, hO, _, h⟩
          exact ⟨o, n, s, a, l, c, rfl, hO.lies0, h⟩
        · intro op9 n9 s9 a9 len9 cap9 V hV hL
          refine (bothI (madeT 4 [e]) pb op9 n9 s9 a9 len9 cap9 op2 n2 s2 a2 len2 cap2 V hL (l2.below hV) (by omega) ⟨x, he.on hV⟩).mono ?_
          rintro e' w' ⟨o, n, s, a, l, c, fp, rfl, hO, _, h⟩
          exact ⟨o, n, s, a, l, c, rfl, hO.lies0, h⟩
        · intro op8 n8 s8 a8 len8 cap8 op10 n10 s10 a10 len10 cap10 V hA hB
          exact same15 _ _ op8 n8 s8 a8 len8 cap8 op10 n10 s10 a10 len10 cap10 V hA hB (by omega)
  · refine ⟨false, (fun h => by cases h), ?_, ?_⟩
    · intro op n s a len cap op2 n2 s2 a2 len2 cap2 op5 n5 s5 a5 len5 cap5 op6 n6 s6 a6 len6 cap6 w l1 l2 l5 l6
      refine provedS0 (.node 0 0 ByteArray.empty []) op n s a len cap op2 n2 s2 a2 len2 cap2 op5 n5 s5 a5 len5 cap5 op6 n6 s6 a6 len6 cap6 hs m w ?_
      intro V hV
      refine (good12_no ce hs m op5 n5 s5 a5 len5 cap5 V (l5.below hV) hz2 hg).mono ?_
      rintro e' w' ⟨rfl, h⟩
      exact ⟨_, _, _, _, _, _, rfl, zero_lies _ 0, h⟩
    · intro op n s a len cap op2 n2 s2 a2 len2 cap2 op5 n5 s5 a5 len5 cap5 op6 n6 s6 a6 len6 cap6 x w he hr ht l1 l2 l5 l6
      refine provedI0 (.node 0 0 ByteArray.empty []) (.node 0 0 ByteArray.empty []) op n s a len cap op2 n2 s2 a2 len2 cap2 op5 n5 s5 a5 len5 cap5 op6 n6 s6 a6 len6 cap6 hs m w ?_ ?_
      · intro V hV
        refine (good11_no ce hs m op5 n5 s5 a5 len5 cap5 V (l5.below hV) hz2 x (he.on hV) (hr.on hV) (ht.on hV) hg).mono ?_
        rintro e' w' ⟨rfl, h⟩
        exact ⟨_, _, _, _, _, _, rfl, zero_lies _ 0, h⟩
      · intro op7 n7 s7 a7 len7 cap7 V hV hL
        have h0 := lies_op hL
        simp only [opT] at h0
        refine (signedI_no op7 n7 s7 a7 len7 cap7 op6 n6 s6 a6 len6 cap6 x V (he.on hV) fun W hW => sgnb_no1 op7 n7 s7 a7 len7 cap7 op6 n6 s6 a6 len6 cap6 x W ((he.on hV).on hW) (Or.inl (by omega))).mono ?_
        rintro e' w' ⟨rfl, h⟩
        exact ⟨_, _, _, _, _, _, rfl, zero_lies _ 0, h⟩

theorem good_one (t : Tm) (hs : ByteArray) (m : Int) (op0 n0 : Int) (s0 : ByteArray) (a0 : Option Addr) (len0 cap0 : Nat) (x : Addr) (w : World) (hl : Lies w 0 t (tmCells op0 n0 s0 a0 len0 cap0)) (hz : t.size ≤ 2097152) (he : ErrAt x w) (hr : Var12 w) (ht : Tab w) (p : Tm) (hg : GoodP t hs m p) :
    Calls Tryz.prog 35 #[.agg #[.int .i64 op0, .int .i64 n0, .string s0, .slice a0 len0 cap0], .string hs, .int .i64 m] w fun q w' => OneB p true w q w' := by
  refine (good11_yes t hs m op0 n0 s0 a0 len0 cap0 w hl hz x he hr ht p hg).mono ?_
  rintro q w' ⟨op, n, s, a, len, cap, fp, rfl, hO, -, hb⟩
  exact ⟨_, _, _, _, _, _, rfl, hO.lies0, hb⟩
set_option maxRecDepth 100000 in
theorem big_no (a : Option Addr) (len cap : Nat) (w : World) (hb : len ≤ 1048576) :
    Calls Tryz.prog 14 #[.slice a len cap] w fun e w' => e = .returned (.bool false) ∧ w' = w := by
  have c : ¬ (1048576 : Int) < (len : Int) := by omega
  go_enter Tryz.func14, Tryz.ntmps14
  go_wp2_with fail
  go_ret
  exact ⟨rfl, rfl⟩
set_option maxRecDepth 100000 in
theorem big_yes (a : Option Addr) (len cap : Nat) (w : World) (hb : ¬ len ≤ 1048576) :
    Calls Tryz.prog 14 #[.slice a len cap] w fun e w' => e = .returned (.bool true) ∧ w' = w := by
  have c : (1048576 : Int) < (len : Int) := by omega
  go_enter Tryz.func14, Tryz.ntmps14
  go_wp2_with fail
  go_ret
  exact ⟨rfl, rfl⟩
theorem bothT_200 (t u : Tm) : (bothT t u).size ≤ 200 := madeT_200 _ _
theorem OkZ.kids {t : Tm} (h : OkZ t) : KidsOk t := by
  rcases h with h | rfl
  · exact KidsOk.of h
  · exact KidsOk.zero
def PT4 (P S C G : Tm) : Nat → Tm
  | 0 => P | 1 => S | 2 => C | _ => G
theorem four_ans {P S C G : Tm} {ok : Bool} {xs : Array Value} {V : World} (h : Calls Tryz.prog 19 xs V fun q w' => FourB P S C G ok V q w') :
    Calls Tryz.prog 19 xs V fun e w' => ∃ r : Nat → Tc, e = .returned (ansV r ok) ∧ (∀ j, j < 4 → Lies w' 0 (PT4 P S C G j) (r j).cells) ∧ Below V.heap.size V w' := by
  refine h.mono ?_
  rintro q w' ⟨op0, n0, s0, a0, len0, cap0, op1, n1, s1, a1, len1, cap1, op2, n2, s2, a2, len2, cap2, op3, n3, s3, a3, len3, cap3, rfl, h0, h1, h2, h3, hb⟩
  refine ⟨fun j => match j with | 0 => ⟨op0, n0, s0, a0, len0, cap0⟩ | 1 => ⟨op1, n1, s1, a1, len1, cap1⟩ | 2 => ⟨op2, n2, s2, a2, len2, cap2⟩ | _ => ⟨op3, n3, s3, a3, len3, cap3⟩, rfl, fun j hj => ?_, hb⟩
  match j, hj with
  | 0, _ => exact h0
  | 1, _ => exact h1
  | 2, _ => exact h2
  | 3, _ => exact h3
theorem wpAnyH_cast {P : Program} {md : Region.Mode} {ops : Array Oper} {Q : Exit → Act → World → Prop} {S : World → Prop} {n n' : Nat} {l l' : Array Bool} {a : Act} {w : World} (h : l = l') (hn : n = n') (hx : wpAnyH P md ops Q S n' l' a w) : wpAnyH P md ops Q S n l a w := by
  subst h hn; exact hx
theorem take_index1of {ops : Array Oper} {Q : Exit → Act → World → Prop} {S : World → Prop} {md : Region.Mode} {i d t : Nat} {ty : TypeId} {pos : String} {after : Array Edge} {fuel : Nat} {listed : Array Bool} {a : Act} {w : World} {g o cap : Nat}
    (ho : ops[i]? = some { dst := some d, op := .indexAddr 27 (.tmp t) (.const (.int .i64 0)), type := ty, pos := pos, after := after, guard := none })
    (hx : a.eval (.tmp t) = .slice (some ⟨g, o, none⟩) 1 cap)
    (hs : Region.noSelect ops = true) (hf : Region.free md ops listed i = true) (hy : (Region.ready md ops listed).contains i = true) (hQ : ∀ c a w v, Q (.panic c) (a.put (some d) v) w → Q (.panic c) a w) (hS : S w)
    (h : wpAnyH Tryz.prog md ops Q S fuel (listed.setIfInBounds i true) (a.put (some d) (.pointer (some ⟨g, o, none⟩))) w) : wpAnyH Tryz.prog md ops Q S (fuel + 1) listed a w := by
  refine wpAnyH_take (v := .pointer (some ⟨g, o, none⟩)) ho hs hf hy (fun c a w hq => hQ c a w _ hq) (Or.inl ⟨by rfl, ?_⟩) hS h
  intro y hSy
  have hx' : a.tmps[t]?.getD undef = .slice (some ⟨g, o, none⟩) 1 cap := by simpa [Act.eval] using hx
  clear hx ho hf hy hQ hS h hSy
  go_simp
  try with_reducible rfl
theorem agree_of_reply {t u ky ce : Tm} (h : replyB t u ky ce = true) : agreeB t u = true := by
  unfold replyB at h
  rw [Bool.and_eq_true] at h
  exact h.1
/-- What is carried by calls that write new blocks alone. -/
def Up (P : World → Prop) : Prop := ∀ w w', P w → Below w.heap.size w w' → P w'
theorem Up.and {P Q : World → Prop} (h : Up P) (k : Up Q) : Up fun y => P y ∧ Q y := fun w w' x hb => ⟨h w w' x.1 hb, k w w' x.2 hb⟩
theorem Up.row {g : Nat} {op n : Int} {s : ByteArray} {a : Option Addr} {len cap : Nat} : Up fun y => RowT 29 y g op n s a len cap := fun _ _ h hb => h.below hb
theorem Up.lies {L : Nat} {T : Tm} {cs : List Value} : Up fun y => Lies y L T cs := fun _ _ h hb => h.below hb
theorem Up.old {w : World} : Up fun y => Below w.heap.size w y := fun _ _ h hb => bt h hb (Nat.le_refl _)
theorem Up.grow {P Q : World → Prop} {w : World} (hC : Up P) (h : P w) (hQ : Up Q) (q : Q w) : ∃ P' : World → Prop, Up P' ∧ P' w ∧ (∀ y, P' y → P y) ∧ ∀ y, P' y → Q y :=
  ⟨fun y => P y ∧ Q y, hC.and hQ, ⟨h, q⟩, fun _ x => x.1, fun _ x => x.2⟩
theorem Up.start {w : World} : ∃ P : World → Prop, Up P ∧ P w ∧ ∀ y, P y → Below w.heap.size w y := ⟨_, Up.old, Below.refl _ _, fun _ x => x⟩

set_option maxRecDepth 100000 in
set_option maxHeartbeats 40000000 in
theorem lawReplies1 (ad : Option Addr) (ln cp : Nat) (w : World) (hB : Bytes w w.heap.size ad ln) (hl : ln ≤ 1048576) (hlc : ln ≤ cp) (x : Addr) (he : ErrAt x w) (hr : Var12 w) (ht : Tab w) :
    Calls Tryz.prog 4 #[.slice ad ln cp] w fun e w' => e = .returned (.bool true) ∧ Below w.heap.size w w' := by
  obtain ⟨P0, hC0, hP0, hI0⟩ := Up.start (w := w)
  have UP := hide hC0
  have HP := hide hP0
  have IW := hide hI0
  clear hC0 hP0 hI0
  have HBY := hide hB
  have HE := hide he
  have HR := hide hr
  have HT := hide ht
  have hbig := hide (fun v => big_no ad ln cp v hl)
  clear hB he hr ht
  go_enter Tryz.func4, Tryz.ntmps4
  go_wp2_with fail
  refine (unhide hbig _).mono ?_
  rintro q w0 ⟨rfl, rfl⟩
  go_wp2_with fail
  refine (reply_draw ad ln cp _ (bytes_up (unhide HBY) (unhide IW _ (unhide HP)) ((unhide IW _ (unhide HP))).size) hl hlc).mono ?_
  rintro q v1 ⟨TS, TU, TK, TC, op3, n3, s3, a3, len3, cap3, op4, n4, s4, a4, len4, cap4, op5, n5, s5, a5, len5, cap5, op6, n6, s6, a6, len6, cap6, rfl, ⟨hl3, hz3⟩, ⟨hl4, hz4⟩, ⟨hl5, hz5⟩, ⟨hl6, hz6⟩, hb⟩
  replace HP := hide ((unhide UP) _ _ (unhide HP) hb)
  obtain ⟨P1, hC1, hP1, hJ1, hQ1⟩ := Up.grow (unhide UP) (unhide HP) Up.lies (hl3)
  have J1 := hide hJ1
  have QL3 := hide hQ1
  replace UP := hide hC1
  replace HP := hide hP1
  clear hC1 hP1 hJ1 hQ1
  obtain ⟨P2, hC2, hP2, hJ2, hQ2⟩ := Up.grow (unhide UP) (unhide HP) Up.lies (hl4)
  have J2 := hide hJ2
  have QL4 := hide hQ2
  replace UP := hide hC2
  replace HP := hide hP2
  clear hC2 hP2 hJ2 hQ2
  obtain ⟨P3, hC3, hP3, hJ3, hQ3⟩ := Up.grow (unhide UP) (unhide HP) Up.lies (hl5)
  have J3 := hide hJ3
  have QL5 := hide hQ3
  replace UP := hide hC3
  replace HP := hide hP3
  clear hC3 hP3 hJ3 hQ3
  obtain ⟨P4, hC4, hP4, hJ4, hQ4⟩ := Up.grow (unhide UP) (unhide HP) Up.lies (hl6)
  have J4 := hide hJ4
  have QL6 := hide hQ4
  replace UP := hide hC4
  replace HP := hide hP4
  clear hC4 hP4 hJ4 hQ4
  clear hb hl3 hl4 hl5 hl6
  obtain ⟨R, ok, zR, kR, eR, hI16, hS17⟩ := reply_both TS TU TK TC (by omega)
  have hp := ab (w := v1) (.cells #[.int .i64 op3, .int .i64 n3, .string s3, .slice a3 len3 cap3] 29)
  have hrow := RowT.new 29 v1 op3 n3 s3 a3 len3 cap3
  replace HP := hide ((unhide UP) _ _ (unhide HP) hp)
  obtain ⟨P5, hC5, hP5, hJ5, hQ5⟩ := Up.grow (unhide UP) (unhide HP) Up.row (hrow)
  have J5 := hide hJ5
  have Q3 := hide hQ5
  replace UP := hide hC5
  replace HP := hide hP5
  clear hC5 hP5 hJ5 hQ5
  clear hp hrow
  have hp := ab (w := (v1.alloc (.cells #[.int .i64 op3, .int .i64 n3, .string s3, .slice a3 len3 cap3] 29))) (.cells #[.int .i64 op4, .int .i64 n4, .string s4, .slice a4 len4 cap4] 29)
  have hrow := RowT.new 29 (v1.alloc (.cells #[.int .i64 op3, .int .i64 n3, .string s3, .slice a3 len3 cap3] 29)) op4 n4 s4 a4 len4 cap4
  rw [heap_size_alloc] at hrow
  replace HP := hide ((unhide UP) _ _ (unhide HP) hp)
  obtain ⟨P6, hC6, hP6, hJ6, hQ6⟩ := Up.grow (unhide UP) (unhide HP) Up.row (hrow)
  have J6 := hide hJ6
  have Q4 := hide hQ6
  replace UP := hide hC6
  replace HP := hide hP6
  clear hC6 hP6 hJ6 hQ6
  clear hp hrow
  have hp := ab (w := ((v1.alloc (.cells #[.int .i64 op3, .int .i64 n3, .string s3, .slice a3 len3 cap3] 29)).alloc (.cells #[.int .i64 op4, .int .i64 n4, .string s4, .slice a4 len4 cap4] 29))) (.cells #[.int .i64 op5, .int .i64 n5, .string s5, .slice a5 len5 cap5] 29)
  have hrow := RowT.new 29 ((v1.alloc (.cells #[.int .i64 op3, .int .i64 n3, .string s3, .slice a3 len3 cap3] 29)).alloc (.cells #[.int .i64 op4, .int .i64 n4, .string s4, .slice a4 len4 cap4] 29)) op5 n5 s5 a5 len5 cap5
  rw [heap_size_alloc, heap_size_alloc] at hrow
  replace HP := hide ((unhide UP) _ _ (unhide HP) hp)
  obtain ⟨P7, hC7, hP7, hJ7, hQ7⟩ := Up.grow (unhide UP) (unhide HP) Up.row (hrow)
  have J7 := hide hJ7
  have Q5 := hide hQ7
  replace UP := hide hC7
  replace HP := hide hP7
  clear hC7 hP7 hJ7 hQ7
  clear hp hrow
  have hp := ab (w := (((v1.alloc (.cells #[.int .i64 op3, .int .i64 n3, .string s3, .slice a3 len3 cap3] 29)).alloc (.cells #[.int .i64 op4, .int .i64 n4, .string s4, .slice a4 len4 cap4] 29)).alloc (.cells #[.int .i64 op5, .int .i64 n5, .string s5, .slice a5 len5 cap5] 29))) (.cells #[.int .i64 op6, .int .i64 n6, .string s6, .slice a6 len6 cap6] 29)
  have hrow := RowT.new 29 (((v1.alloc (.cells #[.int .i64 op3, .int .i64 n3, .string s3, .slice a3 len3 cap3] 29)).alloc (.cells #[.int .i64 op4, .int .i64 n4, .string s4, .slice a4 len4 cap4] 29)).alloc (.cells #[.int .i64 op5, .int .i64 n5, .string s5, .slice a5 len5 cap5] 29)) op6 n6 s6 a6 len6 cap6
  rw [heap_size_alloc, heap_size_alloc, heap_size_alloc] at hrow
  replace HP := hide ((unhide UP) _ _ (unhide HP) hp)
  obtain ⟨P8, hC8, hP8, hJ8, hQ8⟩ := Up.grow (unhide UP) (unhide HP) Up.row (hrow)
  have J8 := hide hJ8
  have Q6 := hide hQ8
  replace UP := hide hC8
  replace HP := hide hP8
  clear hC8 hP8 hJ8 hQ8
  clear hp hrow
  go_wp2_with fail
  generalize hgw : (((v1.alloc (.cells #[.int .i64 op3, .int .i64 n3, .string s3, .slice a3 len3 cap3] 29)).alloc (.cells #[.int .i64 op4, .int .i64 n4, .string s4, .slice a4 len4 cap4] 29)).alloc (.cells #[.int .i64 op5, .int .i64 n5, .string s5, .slice a5 len5 cap5] 29)).alloc (.cells #[.int .i64 op6, .int .i64 n6, .string s6, .slice a6 len6 cap6] 29) = V1 at *
  clear hgw
  generalize v1.heap.size = bS at *
  refine (unhide hI16 op3 n3 s3 a3 len3 cap3 op4 n4 s4 a4 len4 cap4 op5 n5 s5 a5 len5 cap5 op6 n6 s6 a6 len6 cap6 x _ ((unhide HE).on (unhide IW _ (unhide J1 _ (unhide J2 _ (unhide J3 _ (unhide J4 _ (unhide J5 _ (unhide J6 _ (unhide J7 _ (unhide J8 _ (unhide HP))))))))))) ((unhide HT).on (unhide IW _ (unhide J1 _ (unhide J2 _ (unhide J3 _ (unhide J4 _ (unhide J5 _ (unhide J6 _ (unhide J7 _ (unhide J8 _ (unhide HP))))))))))) (unhide QL3 _ (unhide J2 _ (unhide J3 _ (unhide J4 _ (unhide J5 _ (unhide J6 _ (unhide J7 _ (unhide J8 _ (unhide HP))))))))) (unhide QL4 _ (unhide J3 _ (unhide J4 _ (unhide J5 _ (unhide J6 _ (unhide J7 _ (unhide J8 _ (unhide HP)))))))) (unhide QL5 _ (unhide J4 _ (unhide J5 _ (unhide J6 _ (unhide J7 _ (unhide J8 _ (unhide HP))))))) (unhide QL6 _ (unhide J5 _ (unhide J6 _ (unhide J7 _ (unhide J8 _ (unhide HP))))))).mono ?_
  rintro q v2 ⟨op7, n7, s7, a7, len7, cap7, rfl, hl7, hb⟩
  replace HP := hide ((unhide UP) _ _ (unhide HP) hb)
  obtain ⟨P9, hC9, hP9, hJ9, hQ9⟩ := Up.grow (unhide UP) (unhide HP) Up.lies (hl7)
  have J9 := hide hJ9
  have QL7 := hide hQ9
  replace UP := hide hC9
  replace HP := hide hP9
  clear hC9 hP9 hJ9 hQ9
  clear hb hl7
  have hp := ab (w := v2) (.cells #[.int .i64 op7, .int .i64 n7, .string s7, .slice a7 len7 cap7] 29)
  have hrow := RowT.new 29 v2 op7 n7 s7 a7 len7 cap7
  replace HP := hide ((unhide UP) _ _ (unhide HP) hp)
  obtain ⟨P10, hC10, hP10, hJ10, hQ10⟩ := Up.grow (unhide UP) (unhide HP) Up.row (hrow)
  have J10 := hide hJ10
  have Q7 := hide hQ10
  replace UP := hide hC10
  replace HP := hide hP10
  clear hC10 hP10 hJ10 hQ10
  clear hp hrow
  obtain ⟨z00, z01, z02, z03⟩ := ((unhide Q3 _ (unhide J6 _ (unhide J7 _ (unhide J8 _ (unhide J9 _ (unhide J10 _ (unhide HP)))))))).facts
  obtain ⟨z10, z11, z12, z13⟩ := ((unhide Q4 _ (unhide J7 _ (unhide J8 _ (unhide J9 _ (unhide J10 _ (unhide HP))))))).facts
  obtain ⟨z20, z21, z22, z23⟩ := ((unhide Q5 _ (unhide J8 _ (unhide J9 _ (unhide J10 _ (unhide HP)))))).facts
  obtain ⟨z30, z31, z32, z33⟩ := ((unhide Q6 _ (unhide J9 _ (unhide J10 _ (unhide HP))))).facts
  go_wp2_with fail
  clear z00 z01 z02 z03 z10 z11 z12 z13 z20 z21 z22 z23 z30 z31 z32 z33
  generalize hgw : v2.alloc (.cells #[.int .i64 op7, .int .i64 n7, .string s7, .slice a7 len7 cap7] 29) = V2 at *
  clear hgw
  generalize v2.heap.size = bR at *
  refine (unhide hS17 op3 n3 s3 a3 len3 cap3 op4 n4 s4 a4 len4 cap4 op5 n5 s5 a5 len5 cap5 op6 n6 s6 a6 len6 cap6 _ (unhide QL3 _ (unhide J2 _ (unhide J3 _ (unhide J4 _ (unhide J5 _ (unhide J6 _ (unhide J7 _ (unhide J8 _ (unhide J9 _ (unhide J10 _ (unhide HP))))))))))) (unhide QL4 _ (unhide J3 _ (unhide J4 _ (unhide J5 _ (unhide J6 _ (unhide J7 _ (unhide J8 _ (unhide J9 _ (unhide J10 _ (unhide HP)))))))))) (unhide QL5 _ (unhide J4 _ (unhide J5 _ (unhide J6 _ (unhide J7 _ (unhide J8 _ (unhide J9 _ (unhide J10 _ (unhide HP))))))))) (unhide QL6 _ (unhide J5 _ (unhide J6 _ (unhide J7 _ (unhide J8 _ (unhide J9 _ (unhide J10 _ (unhide HP))))))))).mono ?_
  rintro q v3 ⟨op9, n9, s9, a9, len9, cap9, rfl, hl9, hb⟩
  replace HP := hide ((unhide UP) _ _ (unhide HP) hb)
  obtain ⟨P11, hC11, hP11, hJ11, hQ11⟩ := Up.grow (unhide UP) (unhide HP) Up.lies (hl9)
  have J11 := hide hJ11
  have QL9 := hide hQ11
  replace UP := hide hC11
  replace HP := hide hP11
  clear hC11 hP11 hJ11 hQ11
  clear hb hl9
  have hp := ab (w := v3) (.cells #[.int .i64 op9, .int .i64 n9, .string s9, .slice a9 len9 cap9] 29)
  have hrow := RowT.new 29 v3 op9 n9 s9 a9 len9 cap9
  replace HP := hide ((unhide UP) _ _ (unhide HP) hp)
  obtain ⟨P12, hC12, hP12, hJ12, hQ12⟩ := Up.grow (unhide UP) (unhide HP) Up.row (hrow)
  have J12 := hide hJ12
  have Q9 := hide hQ12
  replace UP := hide hC12
  replace HP := hide hP12
  clear hC12 hP12 hJ12 hQ12
  clear hp hrow
  go_wp2_with fail
  generalize hgw : v3.alloc (.cells #[.int .i64 op9, .int .i64 n9, .string s9, .slice a9 len9 cap9] 29) = V3 at *
  clear hgw
  generalize v3.heap.size = bX at *
  refine (replyOf_draw ad ln cp _ (bytes_up (unhide HBY) (unhide IW _ (unhide J1 _ (unhide J2 _ (unhide J3 _ (unhide J4 _ (unhide J5 _ (unhide J6 _ (unhide J7 _ (unhide J8 _ (unhide J9 _ (unhide J10 _ (unhide J11 _ (unhide J12 _ (unhide HP)))))))))))))) ((unhide IW _ (unhide J1 _ (unhide J2 _ (unhide J3 _ (unhide J4 _ (unhide J5 _ (unhide J6 _ (unhide J7 _ (unhide J8 _ (unhide J9 _ (unhide J10 _ (unhide J11 _ (unhide J12 _ (unhide HP))))))))))))))).size) hl hlc).mono ?_
  rintro q v4 ⟨TE, TT, op11, n11, s11, a11, len11, cap11, op12, n12, s12, a12, len12, cap12, rfl, ⟨hl11, hz11⟩, ⟨hl12, hz12⟩, hb⟩
  replace HP := hide ((unhide UP) _ _ (unhide HP) hb)
  obtain ⟨P13, hC13, hP13, hJ13, hQ13⟩ := Up.grow (unhide UP) (unhide HP) Up.lies (hl11)
  have J13 := hide hJ13
  have QL11 := hide hQ13
  replace UP := hide hC13
  replace HP := hide hP13
  clear hC13 hP13 hJ13 hQ13
  obtain ⟨P14, hC14, hP14, hJ14, hQ14⟩ := Up.grow (unhide UP) (unhide HP) Up.lies (hl12)
  have J14 := hide hJ14
  have QL12 := hide hQ14
  replace UP := hide hC14
  replace HP := hide hP14
  clear hC14 hP14 hJ14 hQ14
  clear hb hl11 hl12
  obtain ⟨P, S, C, G, fine, ⟨zP, zS, zC, zG⟩, -, hI19, hS20⟩ := rof_both TE TT (by omega)
  have hp := ab (w := v4) (.cells #[.int .i64 op11, .int .i64 n11, .string s11, .slice a11 len11 cap11] 29)
  have hrow := RowT.new 29 v4 op11 n11 s11 a11 len11 cap11
  replace HP := hide ((unhide UP) _ _ (unhide HP) hp)
  obtain ⟨P15, hC15, hP15, hJ15, hQ15⟩ := Up.grow (unhide UP) (unhide HP) Up.row (hrow)
  have J15 := hide hJ15
  have Q11 := hide hQ15
  replace UP := hide hC15
  replace HP := hide hP15
  clear hC15 hP15 hJ15 hQ15
  clear hp hrow
  have hp := ab (w := (v4.alloc (.cells #[.int .i64 op11, .int .i64 n11, .string s11, .slice a11 len11 cap11] 29))) (.cells #[.int .i64 op12, .int .i64 n12, .string s12, .slice a12 len12 cap12] 29)
  have hrow := RowT.new 29 (v4.alloc (.cells #[.int .i64 op11, .int .i64 n11, .string s11, .slice a11 len11 cap11] 29)) op12 n12 s12 a12 len12 cap12
  rw [heap_size_alloc] at hrow
  replace HP := hide ((unhide UP) _ _ (unhide HP) hp)
  obtain ⟨P16, hC16, hP16, hJ16, hQ16⟩ := Up.grow (unhide UP) (unhide HP) Up.row (hrow)
  have J16 := hide hJ16
  have Q12 := hide hQ16
  replace UP := hide hC16
  replace HP := hide hP16
  clear hC16 hP16 hJ16 hQ16
  clear hp hrow
  go_wp2_with fail
  generalize hgw : (v4.alloc (.cells #[.int .i64 op11, .int .i64 n11, .string s11, .slice a11 len11 cap11] 29)).alloc (.cells #[.int .i64 op12, .int .i64 n12, .string s12, .slice a12 len12 cap12] 29) = V4 at *
  clear hgw
  generalize v4.heap.size = bE at *
  refine (unhide hI19 op11 n11 s11 a11 len11 cap11 op12 n12 s12 a12 len12 cap12 x _ ((unhide HE).on (unhide IW _ (unhide J1 _ (unhide J2 _ (unhide J3 _ (unhide J4 _ (unhide J5 _ (unhide J6 _ (unhide J7 _ (unhide J8 _ (unhide J9 _ (unhide J10 _ (unhide J11 _ (unhide J12 _ (unhide J13 _ (unhide J14 _ (unhide J15 _ (unhide J16 _ (unhide HP))))))))))))))))))) ((unhide HT).on (unhide IW _ (unhide J1 _ (unhide J2 _ (unhide J3 _ (unhide J4 _ (unhide J5 _ (unhide J6 _ (unhide J7 _ (unhide J8 _ (unhide J9 _ (unhide J10 _ (unhide J11 _ (unhide J12 _ (unhide J13 _ (unhide J14 _ (unhide J15 _ (unhide J16 _ (unhide HP))))))))))))))))))) ((unhide QL11 _ (unhide J14 _ (unhide J15 _ (unhide J16 _ (unhide HP))))).any (Nat.zero_le _)) ((unhide QL12 _ (unhide J15 _ (unhide J16 _ (unhide HP)))).any (Nat.zero_le _))).mono ?_
  rintro q v5 ⟨op13, n13, s13, a13, len13, cap13, op14, n14, s14, a14, len14, cap14, op15, n15, s15, a15, len15, cap15, op16, n16, s16, a16, len16, cap16, rfl, hl13, hl14, hl15, hl16, hb⟩
  replace HP := hide ((unhide UP) _ _ (unhide HP) hb)
  obtain ⟨P17, hC17, hP17, hJ17, hQ17⟩ := Up.grow (unhide UP) (unhide HP) Up.lies (hl13)
  have J17 := hide hJ17
  have QL13 := hide hQ17
  replace UP := hide hC17
  replace HP := hide hP17
  clear hC17 hP17 hJ17 hQ17
  obtain ⟨P18, hC18, hP18, hJ18, hQ18⟩ := Up.grow (unhide UP) (unhide HP) Up.lies (hl14)
  have J18 := hide hJ18
  have QL14 := hide hQ18
  replace UP := hide hC18
  replace HP := hide hP18
  clear hC18 hP18 hJ18 hQ18
  obtain ⟨P19, hC19, hP19, hJ19, hQ19⟩ := Up.grow (unhide UP) (unhide HP) Up.lies (hl15)
  have J19 := hide hJ19
  have QL15 := hide hQ19
  replace UP := hide hC19
  replace HP := hide hP19
  clear hC19 hP19 hJ19 hQ19
  obtain ⟨P20, hC20, hP20, hJ20, hQ20⟩ := Up.grow (unhide UP) (unhide HP) Up.lies (hl16)
  have J20 := hide hJ20
  have QL16 := hide hQ20
  replace UP := hide hC20
  replace HP := hide hP20
  clear hC20 hP20 hJ20 hQ20
  clear hb hl13 hl14 hl15 hl16
  have hp := ab (w := v5) (.cells #[.int .i64 op13, .int .i64 n13, .string s13, .slice a13 len13 cap13] 29)
  have hrow := RowT.new 29 v5 op13 n13 s13 a13 len13 cap13
  replace HP := hide ((unhide UP) _ _ (unhide HP) hp)
  obtain ⟨P21, hC21, hP21, hJ21, hQ21⟩ := Up.grow (unhide UP) (unhide HP) Up.row (hrow)
  have J21 := hide hJ21
  have Q13 := hide hQ21
  replace UP := hide hC21
  replace HP := hide hP21
  clear hC21 hP21 hJ21 hQ21
  clear hp hrow
  have hp := ab (w := (v5.alloc (.cells #[.int .i64 op13, .int .i64 n13, .string s13, .slice a13 len13 cap13] 29))) (.cells #[.int .i64 op14, .int .i64 n14, .string s14, .slice a14 len14 cap14] 29)
  have hrow := RowT.new 29 (v5.alloc (.cells #[.int .i64 op13, .int .i64 n13, .string s13, .slice a13 len13 cap13] 29)) op14 n14 s14 a14 len14 cap14
  rw [heap_size_alloc] at hrow
  replace HP := hide ((unhide UP) _ _ (unhide HP) hp)
  obtain ⟨P22, hC22, hP22, hJ22, hQ22⟩ := Up.grow (unhide UP) (unhide HP) Up.row (hrow)
  have J22 := hide hJ22
  have Q14 := hide hQ22
  replace UP := hide hC22
  replace HP := hide hP22
  clear hC22 hP22 hJ22 hQ22
  clear hp hrow
  have hp := ab (w := ((v5.alloc (.cells #[.int .i64 op13, .int .i64 n13, .string s13, .slice a13 len13 cap13] 29)).alloc (.cells #[.int .i64 op14, .int .i64 n14, .string s14, .slice a14 len14 cap14] 29))) (.cells #[.int .i64 op15, .int .i64 n15, .string s15, .slice a15 len15 cap15] 29)
  have hrow := RowT.new 29 ((v5.alloc (.cells #[.int .i64 op13, .int .i64 n13, .string s13, .slice a13 len13 cap13] 29)).alloc (.cells #[.int .i64 op14, .int .i64 n14, .string s14, .slice a14 len14 cap14] 29)) op15 n15 s15 a15 len15 cap15
  rw [heap_size_alloc, heap_size_alloc] at hrow
  replace HP := hide ((unhide UP) _ _ (unhide HP) hp)
  obtain ⟨P23, hC23, hP23, hJ23, hQ23⟩ := Up.grow (unhide UP) (unhide HP) Up.row (hrow)
  have J23 := hide hJ23
  have Q15 := hide hQ23
  replace UP := hide hC23
  replace HP := hide hP23
  clear hC23 hP23 hJ23 hQ23
  clear hp hrow
  have hp := ab (w := (((v5.alloc (.cells #[.int .i64 op13, .int .i64 n13, .string s13, .slice a13 len13 cap13] 29)).alloc (.cells #[.int .i64 op14, .int .i64 n14, .string s14, .slice a14 len14 cap14] 29)).alloc (.cells #[.int .i64 op15, .int .i64 n15, .string s15, .slice a15 len15 cap15] 29))) (.cells #[.int .i64 op16, .int .i64 n16, .string s16, .slice a16 len16 cap16] 29)
  have hrow := RowT.new 29 (((v5.alloc (.cells #[.int .i64 op13, .int .i64 n13, .string s13, .slice a13 len13 cap13] 29)).alloc (.cells #[.int .i64 op14, .int .i64 n14, .string s14, .slice a14 len14 cap14] 29)).alloc (.cells #[.int .i64 op15, .int .i64 n15, .string s15, .slice a15 len15 cap15] 29)) op16 n16 s16 a16 len16 cap16
  rw [heap_size_alloc, heap_size_alloc, heap_size_alloc] at hrow
  replace HP := hide ((unhide UP) _ _ (unhide HP) hp)
  obtain ⟨P24, hC24, hP24, hJ24, hQ24⟩ := Up.grow (unhide UP) (unhide HP) Up.row (hrow)
  have J24 := hide hJ24
  have Q16 := hide hQ24
  replace UP := hide hC24
  replace HP := hide hP24
  clear hC24 hP24 hJ24 hQ24
  clear hp hrow
  obtain ⟨z00, z01, z02, z03⟩ := ((unhide Q11 _ (unhide J16 _ (unhide J17 _ (unhide J18 _ (unhide J19 _ (unhide J20 _ (unhide J21 _ (unhide J22 _ (unhide J23 _ (unhide J24 _ (unhide HP)))))))))))).facts
  obtain ⟨z10, z11, z12, z13⟩ := ((unhide Q12 _ (unhide J17 _ (unhide J18 _ (unhide J19 _ (unhide J20 _ (unhide J21 _ (unhide J22 _ (unhide J23 _ (unhide J24 _ (unhide HP))))))))))).facts
  go_wp2_with fail
  clear z00 z01 z02 z03 z10 z11 z12 z13
  generalize hgw : (((v5.alloc (.cells #[.int .i64 op13, .int .i64 n13, .string s13, .slice a13 len13 cap13] 29)).alloc (.cells #[.int .i64 op14, .int .i64 n14, .string s14, .slice a14 len14 cap14] 29)).alloc (.cells #[.int .i64 op15, .int .i64 n15, .string s15, .slice a15 len15 cap15] 29)).alloc (.cells #[.int .i64 op16, .int .i64 n16, .string s16, .slice a16 len16 cap16] 29) = V5 at *
  clear hgw
  generalize v5.heap.size = bP at *
  refine (unhide hS20 op11 n11 s11 a11 len11 cap11 op12 n12 s12 a12 len12 cap12 _ ((unhide QL11 _ (unhide J14 _ (unhide J15 _ (unhide J16 _ (unhide J17 _ (unhide J18 _ (unhide J19 _ (unhide J20 _ (unhide J21 _ (unhide J22 _ (unhide J23 _ (unhide J24 _ (unhide HP))))))))))))).any (Nat.zero_le _)) ((unhide QL12 _ (unhide J15 _ (unhide J16 _ (unhide J17 _ (unhide J18 _ (unhide J19 _ (unhide J20 _ (unhide J21 _ (unhide J22 _ (unhide J23 _ (unhide J24 _ (unhide HP)))))))))))).any (Nat.zero_le _))).mono ?_
  rintro q v6 ⟨op18, n18, s18, a18, len18, cap18, op19, n19, s19, a19, len19, cap19, op20, n20, s20, a20, len20, cap20, op21, n21, s21, a21, len21, cap21, rfl, hl18, hl19, hl20, hl21, hb⟩
  replace HP := hide ((unhide UP) _ _ (unhide HP) hb)
  obtain ⟨P25, hC25, hP25, hJ25, hQ25⟩ := Up.grow (unhide UP) (unhide HP) Up.lies (hl18)
  have J25 := hide hJ25
  have QL18 := hide hQ25
  replace UP := hide hC25
  replace HP := hide hP25
  clear hC25 hP25 hJ25 hQ25
  obtain ⟨P26, hC26, hP26, hJ26, hQ26⟩ := Up.grow (unhide UP) (unhide HP) Up.lies (hl19)
  have J26 := hide hJ26
  have QL19 := hide hQ26
  replace UP := hide hC26
  replace HP := hide hP26
  clear hC26 hP26 hJ26 hQ26
  obtain ⟨P27, hC27, hP27, hJ27, hQ27⟩ := Up.grow (unhide UP) (unhide HP) Up.lies (hl20)
  have J27 := hide hJ27
  have QL20 := hide hQ27
  replace UP := hide hC27
  replace HP := hide hP27
  clear hC27 hP27 hJ27 hQ27
  obtain ⟨P28, hC28, hP28, hJ28, hQ28⟩ := Up.grow (unhide UP) (unhide HP) Up.lies (hl21)
  have J28 := hide hJ28
  have QL21 := hide hQ28
  replace UP := hide hC28
  replace HP := hide hP28
  clear hC28 hP28 hJ28 hQ28
  clear hb hl18 hl19 hl20 hl21
  have hp := ab (w := v6) (.cells #[.int .i64 op18, .int .i64 n18, .string s18, .slice a18 len18 cap18] 29)
  have hrow := RowT.new 29 v6 op18 n18 s18 a18 len18 cap18
  replace HP := hide ((unhide UP) _ _ (unhide HP) hp)
  obtain ⟨P29, hC29, hP29, hJ29, hQ29⟩ := Up.grow (unhide UP) (unhide HP) Up.row (hrow)
  have J29 := hide hJ29
  have Q18 := hide hQ29
  replace UP := hide hC29
  replace HP := hide hP29
  clear hC29 hP29 hJ29 hQ29
  clear hp hrow
  have hp := ab (w := (v6.alloc (.cells #[.int .i64 op18, .int .i64 n18, .string s18, .slice a18 len18 cap18] 29))) (.cells #[.int .i64 op19, .int .i64 n19, .string s19, .slice a19 len19 cap19] 29)
  have hrow := RowT.new 29 (v6.alloc (.cells #[.int .i64 op18, .int .i64 n18, .string s18, .slice a18 len18 cap18] 29)) op19 n19 s19 a19 len19 cap19
  rw [heap_size_alloc] at hrow
  replace HP := hide ((unhide UP) _ _ (unhide HP) hp)
  obtain ⟨P30, hC30, hP30, hJ30, hQ30⟩ := Up.grow (unhide UP) (unhide HP) Up.row (hrow)
  have J30 := hide hJ30
  have Q19 := hide hQ30
  replace UP := hide hC30
  replace HP := hide hP30
  clear hC30 hP30 hJ30 hQ30
  clear hp hrow
  have hp := ab (w := ((v6.alloc (.cells #[.int .i64 op18, .int .i64 n18, .string s18, .slice a18 len18 cap18] 29)).alloc (.cells #[.int .i64 op19, .int .i64 n19, .string s19, .slice a19 len19 cap19] 29))) (.cells #[.int .i64 op20, .int .i64 n20, .string s20, .slice a20 len20 cap20] 29)
  have hrow := RowT.new 29 ((v6.alloc (.cells #[.int .i64 op18, .int .i64 n18, .string s18, .slice a18 len18 cap18] 29)).alloc (.cells #[.int .i64 op19, .int .i64 n19, .string s19, .slice a19 len19 cap19] 29)) op20 n20 s20 a20 len20 cap20
  rw [heap_size_alloc, heap_size_alloc] at hrow
  replace HP := hide ((unhide UP) _ _ (unhide HP) hp)
  obtain ⟨P31, hC31, hP31, hJ31, hQ31⟩ := Up.grow (unhide UP) (unhide HP) Up.row (hrow)
  have J31 := hide hJ31
  have Q20 := hide hQ31
  replace UP := hide hC31
  replace HP := hide hP31
  clear hC31 hP31 hJ31 hQ31
  clear hp hrow
  have hp := ab (w := (((v6.alloc (.cells #[.int .i64 op18, .int .i64 n18, .string s18, .slice a18 len18 cap18] 29)).alloc (.cells #[.int .i64 op19, .int .i64 n19, .string s19, .slice a19 len19 cap19] 29)).alloc (.cells #[.int .i64 op20, .int .i64 n20, .string s20, .slice a20 len20 cap20] 29))) (.cells #[.int .i64 op21, .int .i64 n21, .string s21, .slice a21 len21 cap21] 29)
  have hrow := RowT.new 29 (((v6.alloc (.cells #[.int .i64 op18, .int .i64 n18, .string s18, .slice a18 len18 cap18] 29)).alloc (.cells #[.int .i64 op19, .int .i64 n19, .string s19, .slice a19 len19 cap19] 29)).alloc (.cells #[.int .i64 op20, .int .i64 n20, .string s20, .slice a20 len20 cap20] 29)) op21 n21 s21 a21 len21 cap21
  rw [heap_size_alloc, heap_size_alloc, heap_size_alloc] at hrow
  replace HP := hide ((unhide UP) _ _ (unhide HP) hp)
  obtain ⟨P32, hC32, hP32, hJ32, hQ32⟩ := Up.grow (unhide UP) (unhide HP) Up.row (hrow)
  have J32 := hide hJ32
  have Q21 := hide hQ32
  replace UP := hide hC32
  replace HP := hide hP32
  clear hC32 hP32 hJ32 hQ32
  clear hp hrow
  obtain ⟨z00, z01, z02, z03⟩ := ((unhide Q7 _ (unhide J11 _ (unhide J12 _ (unhide J13 _ (unhide J14 _ (unhide J15 _ (unhide J16 _ (unhide J17 _ (unhide J18 _ (unhide J19 _ (unhide J20 _ (unhide J21 _ (unhide J22 _ (unhide J23 _ (unhide J24 _ (unhide J25 _ (unhide J26 _ (unhide J27 _ (unhide J28 _ (unhide J29 _ (unhide J30 _ (unhide J31 _ (unhide J32 _ (unhide HP))))))))))))))))))))))))).facts
  obtain ⟨z10, z11, z12, z13⟩ := ((unhide Q9 _ (unhide J13 _ (unhide J14 _ (unhide J15 _ (unhide J16 _ (unhide J17 _ (unhide J18 _ (unhide J19 _ (unhide J20 _ (unhide J21 _ (unhide J22 _ (unhide J23 _ (unhide J24 _ (unhide J25 _ (unhide J26 _ (unhide J27 _ (unhide J28 _ (unhide J29 _ (unhide J30 _ (unhide J31 _ (unhide J32 _ (unhide HP))))))))))))))))))))))).facts
  go_wp2_with fail
  clear z00 z01 z02 z03 z10 z11 z12 z13
  generalize hgw : (((v6.alloc (.cells #[.int .i64 op18, .int .i64 n18, .string s18, .slice a18 len18 cap18] 29)).alloc (.cells #[.int .i64 op19, .int .i64 n19, .string s19, .slice a19 len19 cap19] 29)).alloc (.cells #[.int .i64 op20, .int .i64 n20, .string s20, .slice a20 len20 cap20] 29)).alloc (.cells #[.int .i64 op21, .int .i64 n21, .string s21, .slice a21 len21 cap21] 29) = V6 at *
  clear hgw
  generalize v6.heap.size = bQ at *
  refine (same_one R op7 n7 s7 a7 len7 cap7 op9 n9 s9 a9 len9 cap9 _ (unhide QL7 _ (unhide J10 _ (unhide J11 _ (unhide J12 _ (unhide J13 _ (unhide J14 _ (unhide J15 _ (unhide J16 _ (unhide J17 _ (unhide J18 _ (unhide J19 _ (unhide J20 _ (unhide J21 _ (unhide J22 _ (unhide J23 _ (unhide J24 _ (unhide J25 _ (unhide J26 _ (unhide J27 _ (unhide J28 _ (unhide J29 _ (unhide J30 _ (unhide J31 _ (unhide J32 _ (unhide HP))))))))))))))))))))))))) (unhide QL9 _ (unhide J12 _ (unhide J13 _ (unhide J14 _ (unhide J15 _ (unhide J16 _ (unhide J17 _ (unhide J18 _ (unhide J19 _ (unhide J20 _ (unhide J21 _ (unhide J22 _ (unhide J23 _ (unhide J24 _ (unhide J25 _ (unhide J26 _ (unhide J27 _ (unhide J28 _ (unhide J29 _ (unhide J30 _ (unhide J31 _ (unhide J32 _ (unhide HP))))))))))))))))))))))) (Nat.le_trans zR.size (by decide))).mono ?_
  rintro q v7 ⟨rfl, hb⟩
  replace HP := hide ((unhide UP) _ _ (unhide HP) hb)
  clear hb 
  obtain ⟨z00, z01, z02, z03⟩ := ((unhide Q13 _ (unhide J22 _ (unhide J23 _ (unhide J24 _ (unhide J25 _ (unhide J26 _ (unhide J27 _ (unhide J28 _ (unhide J29 _ (unhide J30 _ (unhide J31 _ (unhide J32 _ (unhide HP)))))))))))))).facts
  obtain ⟨z10, z11, z12, z13⟩ := ((unhide Q18 _ (unhide J30 _ (unhide J31 _ (unhide J32 _ (unhide HP)))))).facts
  go_wp2_with fail
  clear z00 z01 z02 z03 z10 z11 z12 z13
  refine (same_one P op13 n13 s13 a13 len13 cap13 op18 n18 s18 a18 len18 cap18 _ (unhide QL13 _ (unhide J18 _ (unhide J19 _ (unhide J20 _ (unhide J21 _ (unhide J22 _ (unhide J23 _ (unhide J24 _ (unhide J25 _ (unhide J26 _ (unhide J27 _ (unhide J28 _ (unhide J29 _ (unhide J30 _ (unhide J31 _ (unhide J32 _ (unhide HP))))))))))))))))) (unhide QL18 _ (unhide J26 _ (unhide J27 _ (unhide J28 _ (unhide J29 _ (unhide J30 _ (unhide J31 _ (unhide J32 _ (unhide HP))))))))) (Nat.le_trans zP.size (by decide))).mono ?_
  rintro q v8 ⟨rfl, hb⟩
  replace HP := hide ((unhide UP) _ _ (unhide HP) hb)
  clear hb 
  obtain ⟨z00, z01, z02, z03⟩ := ((unhide Q14 _ (unhide J23 _ (unhide J24 _ (unhide J25 _ (unhide J26 _ (unhide J27 _ (unhide J28 _ (unhide J29 _ (unhide J30 _ (unhide J31 _ (unhide J32 _ (unhide HP))))))))))))).facts
  obtain ⟨z10, z11, z12, z13⟩ := ((unhide Q19 _ (unhide J31 _ (unhide J32 _ (unhide HP))))).facts
  go_wp2_with fail
  clear z00 z01 z02 z03 z10 z11 z12 z13
  refine (same_one S op14 n14 s14 a14 len14 cap14 op19 n19 s19 a19 len19 cap19 _ (unhide QL14 _ (unhide J19 _ (unhide J20 _ (unhide J21 _ (unhide J22 _ (unhide J23 _ (unhide J24 _ (unhide J25 _ (unhide J26 _ (unhide J27 _ (unhide J28 _ (unhide J29 _ (unhide J30 _ (unhide J31 _ (unhide J32 _ (unhide HP)))))))))))))))) (unhide QL19 _ (unhide J27 _ (unhide J28 _ (unhide J29 _ (unhide J30 _ (unhide J31 _ (unhide J32 _ (unhide HP)))))))) (Nat.le_trans zS.size (by decide))).mono ?_
  rintro q v9 ⟨rfl, hb⟩
  replace HP := hide ((unhide UP) _ _ (unhide HP) hb)
  clear hb 
  obtain ⟨z00, z01, z02, z03⟩ := ((unhide Q15 _ (unhide J24 _ (unhide J25 _ (unhide J26 _ (unhide J27 _ (unhide J28 _ (unhide J29 _ (unhide J30 _ (unhide J31 _ (unhide J32 _ (unhide HP)))))))))))).facts
  obtain ⟨z10, z11, z12, z13⟩ := ((unhide Q20 _ (unhide J32 _ (unhide HP)))).facts
  go_wp2_with fail
  clear z00 z01 z02 z03 z10 z11 z12 z13
  refine (same_one C op15 n15 s15 a15 len15 cap15 op20 n20 s20 a20 len20 cap20 _ (unhide QL15 _ (unhide J20 _ (unhide J21 _ (unhide J22 _ (unhide J23 _ (unhide J24 _ (unhide J25 _ (unhide J26 _ (unhide J27 _ (unhide J28 _ (unhide J29 _ (unhide J30 _ (unhide J31 _ (unhide J32 _ (unhide HP))))))))))))))) (unhide QL20 _ (unhide J28 _ (unhide J29 _ (unhide J30 _ (unhide J31 _ (unhide J32 _ (unhide HP))))))) (Nat.le_trans zC.size (by decide))).mono ?_
  rintro q v10 ⟨rfl, hb⟩
  replace HP := hide ((unhide UP) _ _ (unhide HP) hb)
  clear hb 
  obtain ⟨z00, z01, z02, z03⟩ := ((unhide Q16 _ (unhide J25 _ (unhide J26 _ (unhide J27 _ (unhide J28 _ (unhide J29 _ (unhide J30 _ (unhide J31 _ (unhide J32 _ (unhide HP))))))))))).facts
  obtain ⟨z10, z11, z12, z13⟩ := ((unhide Q21 _ (unhide HP))).facts
  go_wp2_with fail
  clear z00 z01 z02 z03 z10 z11 z12 z13
  refine (same_one G op16 n16 s16 a16 len16 cap16 op21 n21 s21 a21 len21 cap21 _ (unhide QL16 _ (unhide J21 _ (unhide J22 _ (unhide J23 _ (unhide J24 _ (unhide J25 _ (unhide J26 _ (unhide J27 _ (unhide J28 _ (unhide J29 _ (unhide J30 _ (unhide J31 _ (unhide J32 _ (unhide HP)))))))))))))) (unhide QL21 _ (unhide J29 _ (unhide J30 _ (unhide J31 _ (unhide J32 _ (unhide HP)))))) (Nat.le_trans zG.size (by decide))).mono ?_
  rintro q v11 ⟨rfl, hb⟩
  replace HP := hide ((unhide UP) _ _ (unhide HP) hb)
  clear hb 
  go_wp2_with fail
  refine (proved_draw ad ln cp _ (bytes_up (unhide HBY) (unhide IW _ (unhide J1 _ (unhide J2 _ (unhide J3 _ (unhide J4 _ (unhide J5 _ (unhide J6 _ (unhide J7 _ (unhide J8 _ (unhide J9 _ (unhide J10 _ (unhide J11 _ (unhide J12 _ (unhide J13 _ (unhide J14 _ (unhide J15 _ (unhide J16 _ (unhide J17 _ (unhide J18 _ (unhide J19 _ (unhide J20 _ (unhide J21 _ (unhide J22 _ (unhide J23 _ (unhide J24 _ (unhide J25 _ (unhide J26 _ (unhide J27 _ (unhide J28 _ (unhide J29 _ (unhide J30 _ (unhide J31 _ (unhide J32 _ (unhide HP)))))))))))))))))))))))))))))))))) ((unhide IW _ (unhide J1 _ (unhide J2 _ (unhide J3 _ (unhide J4 _ (unhide J5 _ (unhide J6 _ (unhide J7 _ (unhide J8 _ (unhide J9 _ (unhide J10 _ (unhide J11 _ (unhide J12 _ (unhide J13 _ (unhide J14 _ (unhide J15 _ (unhide J16 _ (unhide J17 _ (unhide J18 _ (unhide J19 _ (unhide J20 _ (unhide J21 _ (unhide J22 _ (unhide J23 _ (unhide J24 _ (unhide J25 _ (unhide J26 _ (unhide J27 _ (unhide J28 _ (unhide J29 _ (unhide J30 _ (unhide J31 _ (unhide J32 _ (unhide HP))))))))))))))))))))))))))))))))))).size) hl hlc).mono ?_
  rintro q v12 ⟨TJ, TK2, TL, TM, op23, n23, s23, a23, len23, cap23, op24, n24, s24, a24, len24, cap24, op25, n25, s25, a25, len25, cap25, op26, n26, s26, a26, len26, cap26, hs, m, rfl, ⟨hl23, hz23⟩, ⟨hl24, hz24⟩, ⟨hl25, hz25⟩, ⟨hl26, hz26⟩, hb⟩
  replace HP := hide ((unhide UP) _ _ (unhide HP) hb)
  obtain ⟨P33, hC33, hP33, hJ33, hQ33⟩ := Up.grow (unhide UP) (unhide HP) Up.lies (hl23)
  have J33 := hide hJ33
  have QL23 := hide hQ33
  replace UP := hide hC33
  replace HP := hide hP33
  clear hC33 hP33 hJ33 hQ33
  obtain ⟨P34, hC34, hP34, hJ34, hQ34⟩ := Up.grow (unhide UP) (unhide HP) Up.lies (hl24)
  have J34 := hide hJ34
  have QL24 := hide hQ34
  replace UP := hide hC34
  replace HP := hide hP34
  clear hC34 hP34 hJ34 hQ34
  obtain ⟨P35, hC35, hP35, hJ35, hQ35⟩ := Up.grow (unhide UP) (unhide HP) Up.lies (hl25)
  have J35 := hide hJ35
  have QL25 := hide hQ35
  replace UP := hide hC35
  replace HP := hide hP35
  clear hC35 hP35 hJ35 hQ35
  obtain ⟨P36, hC36, hP36, hJ36, hQ36⟩ := Up.grow (unhide UP) (unhide HP) Up.lies (hl26)
  have J36 := hide hJ36
  have QL26 := hide hQ36
  replace UP := hide hC36
  replace HP := hide hP36
  clear hC36 hP36 hJ36 hQ36
  clear hb hl23 hl24 hl25 hl26
  obtain ⟨BP, hgood, hS10, hI12⟩ := proved_good TJ TK2 TL TM hs m (by omega) (by omega) (by omega)
  have hp := ab (w := v12) (.cells #[.int .i64 op23, .int .i64 n23, .string s23, .slice a23 len23 cap23] 29)
  have hrow := RowT.new 29 v12 op23 n23 s23 a23 len23 cap23
  replace HP := hide ((unhide UP) _ _ (unhide HP) hp)
  obtain ⟨P37, hC37, hP37, hJ37, hQ37⟩ := Up.grow (unhide UP) (unhide HP) Up.row (hrow)
  have J37 := hide hJ37
  have Q23 := hide hQ37
  replace UP := hide hC37
  replace HP := hide hP37
  clear hC37 hP37 hJ37 hQ37
  clear hp hrow
  have hp := ab (w := (v12.alloc (.cells #[.int .i64 op23, .int .i64 n23, .string s23, .slice a23 len23 cap23] 29))) (.cells #[.int .i64 op24, .int .i64 n24, .string s24, .slice a24 len24 cap24] 29)
  have hrow := RowT.new 29 (v12.alloc (.cells #[.int .i64 op23, .int .i64 n23, .string s23, .slice a23 len23 cap23] 29)) op24 n24 s24 a24 len24 cap24
  rw [heap_size_alloc] at hrow
  replace HP := hide ((unhide UP) _ _ (unhide HP) hp)
  obtain ⟨P38, hC38, hP38, hJ38, hQ38⟩ := Up.grow (unhide UP) (unhide HP) Up.row (hrow)
  have J38 := hide hJ38
  have Q24 := hide hQ38
  replace UP := hide hC38
  replace HP := hide hP38
  clear hC38 hP38 hJ38 hQ38
  clear hp hrow
  have hp := ab (w := ((v12.alloc (.cells #[.int .i64 op23, .int .i64 n23, .string s23, .slice a23 len23 cap23] 29)).alloc (.cells #[.int .i64 op24, .int .i64 n24, .string s24, .slice a24 len24 cap24] 29))) (.cells #[.int .i64 op25, .int .i64 n25, .string s25, .slice a25 len25 cap25] 29)
  have hrow := RowT.new 29 ((v12.alloc (.cells #[.int .i64 op23, .int .i64 n23, .string s23, .slice a23 len23 cap23] 29)).alloc (.cells #[.int .i64 op24, .int .i64 n24, .string s24, .slice a24 len24 cap24] 29)) op25 n25 s25 a25 len25 cap25
  rw [heap_size_alloc, heap_size_alloc] at hrow
  replace HP := hide ((unhide UP) _ _ (unhide HP) hp)
  obtain ⟨P39, hC39, hP39, hJ39, hQ39⟩ := Up.grow (unhide UP) (unhide HP) Up.row (hrow)
  have J39 := hide hJ39
  have Q25 := hide hQ39
  replace UP := hide hC39
  replace HP := hide hP39
  clear hC39 hP39 hJ39 hQ39
  clear hp hrow
  have hp := ab (w := (((v12.alloc (.cells #[.int .i64 op23, .int .i64 n23, .string s23, .slice a23 len23 cap23] 29)).alloc (.cells #[.int .i64 op24, .int .i64 n24, .string s24, .slice a24 len24 cap24] 29)).alloc (.cells #[.int .i64 op25, .int .i64 n25, .string s25, .slice a25 len25 cap25] 29))) (.cells #[.int .i64 op26, .int .i64 n26, .string s26, .slice a26 len26 cap26] 29)
  have hrow := RowT.new 29 (((v12.alloc (.cells #[.int .i64 op23, .int .i64 n23, .string s23, .slice a23 len23 cap23] 29)).alloc (.cells #[.int .i64 op24, .int .i64 n24, .string s24, .slice a24 len24 cap24] 29)).alloc (.cells #[.int .i64 op25, .int .i64 n25, .string s25, .slice a25 len25 cap25] 29)) op26 n26 s26 a26 len26 cap26
  rw [heap_size_alloc, heap_size_alloc, heap_size_alloc] at hrow
  replace HP := hide ((unhide UP) _ _ (unhide HP) hp)
  obtain ⟨P40, hC40, hP40, hJ40, hQ40⟩ := Up.grow (unhide UP) (unhide HP) Up.row (hrow)
  have J40 := hide hJ40
  have Q26 := hide hQ40
  replace UP := hide hC40
  replace HP := hide hP40
  clear hC40 hP40 hJ40 hQ40
  clear hp hrow
  go_wp2_with fail
  generalize hgw : (((v12.alloc (.cells #[.int .i64 op23, .int .i64 n23, .string s23, .slice a23 len23 cap23] 29)).alloc (.cells #[.int .i64 op24, .int .i64 n24, .string s24, .slice a24 len24 cap24] 29)).alloc (.cells #[.int .i64 op25, .int .i64 n25, .string s25, .slice a25 len25 cap25] 29)).alloc (.cells #[.int .i64 op26, .int .i64 n26, .string s26, .slice a26 len26 cap26] 29) = V12 at *
  clear hgw
  generalize v12.heap.size = bJ at *
  refine (helloOf_draw ad ln cp _ (bytes_up (unhide HBY) (unhide IW _ (unhide J1 _ (unhide J2 _ (unhide J3 _ (unhide J4 _ (unhide J5 _ (unhide J6 _ (unhide J7 _ (unhide J8 _ (unhide J9 _ (unhide J10 _ (unhide J11 _ (unhide J12 _ (unhide J13 _ (unhide J14 _ (unhide J15 _ (unhide J16 _ (unhide J17 _ (unhide J18 _ (unhide J19 _ (unhide J20 _ (unhide J21 _ (unhide J22 _ (unhide J23 _ (unhide J24 _ (unhide J25 _ (unhide J26 _ (unhide J27 _ (unhide J28 _ (unhide J29 _ (unhide J30 _ (unhide J31 _ (unhide J32 _ (unhide J33 _ (unhide J34 _ (unhide J35 _ (unhide J36 _ (unhide J37 _ (unhide J38 _ (unhide J39 _ (unhide J40 _ (unhide HP)))))))))))))))))))))))))))))))))))))))))) ((unhide IW _ (unhide J1 _ (unhide J2 _ (unhide J3 _ (unhide J4 _ (unhide J5 _ (unhide J6 _ (unhide J7 _ (unhide J8 _ (unhide J9 _ (unhide J10 _ (unhide J11 _ (unhide J12 _ (unhide J13 _ (unhide J14 _ (unhide J15 _ (unhide J16 _ (unhide J17 _ (unhide J18 _ (unhide J19 _ (unhide J20 _ (unhide J21 _ (unhide J22 _ (unhide J23 _ (unhide J24 _ (unhide J25 _ (unhide J26 _ (unhide J27 _ (unhide J28 _ (unhide J29 _ (unhide J30 _ (unhide J31 _ (unhide J32 _ (unhide J33 _ (unhide J34 _ (unhide J35 _ (unhide J36 _ (unhide J37 _ (unhide J38 _ (unhide J39 _ (unhide J40 _ (unhide HP))))))))))))))))))))))))))))))))))))))))))).size) hl hlc).mono ?_
  rintro q v13 ⟨TN, op29, n29, s29, a29, len29, cap29, rfl, ⟨hl29, hz29⟩, hb⟩
  replace HP := hide ((unhide UP) _ _ (unhide HP) hb)
  obtain ⟨P41, hC41, hP41, hJ41, hQ41⟩ := Up.grow (unhide UP) (unhide HP) Up.lies (hl29)
  have J41 := hide hJ41
  have QL29 := hide hQ41
  replace UP := hide hC41
  replace HP := hide hP41
  clear hC41 hP41 hJ41 hQ41
  clear hb hl29
  obtain ⟨KH, one, zK, hI24, hS25⟩ := hof_both TN (by omega)
  have hp := ab (w := v13) (.cells #[.int .i64 op29, .int .i64 n29, .string s29, .slice a29 len29 cap29] 29)
  have hrow := RowT.new 29 v13 op29 n29 s29 a29 len29 cap29
  replace HP := hide ((unhide UP) _ _ (unhide HP) hp)
  obtain ⟨P42, hC42, hP42, hJ42, hQ42⟩ := Up.grow (unhide UP) (unhide HP) Up.row (hrow)
  have J42 := hide hJ42
  have Q29 := hide hQ42
  replace UP := hide hC42
  replace HP := hide hP42
  clear hC42 hP42 hJ42 hQ42
  clear hp hrow
  go_wp2_with fail
  generalize hgw : v13.alloc (.cells #[.int .i64 op29, .int .i64 n29, .string s29, .slice a29 len29 cap29] 29) = V13 at *
  clear hgw
  generalize v13.heap.size = bN at *
  refine (unhide hI24 op29 n29 s29 a29 len29 cap29 x _ ((unhide HE).on (unhide IW _ (unhide J1 _ (unhide J2 _ (unhide J3 _ (unhide J4 _ (unhide J5 _ (unhide J6 _ (unhide J7 _ (unhide J8 _ (unhide J9 _ (unhide J10 _ (unhide J11 _ (unhide J12 _ (unhide J13 _ (unhide J14 _ (unhide J15 _ (unhide J16 _ (unhide J17 _ (unhide J18 _ (unhide J19 _ (unhide J20 _ (unhide J21 _ (unhide J22 _ (unhide J23 _ (unhide J24 _ (unhide J25 _ (unhide J26 _ (unhide J27 _ (unhide J28 _ (unhide J29 _ (unhide J30 _ (unhide J31 _ (unhide J32 _ (unhide J33 _ (unhide J34 _ (unhide J35 _ (unhide J36 _ (unhide J37 _ (unhide J38 _ (unhide J39 _ (unhide J40 _ (unhide J41 _ (unhide J42 _ (unhide HP))))))))))))))))))))))))))))))))))))))))))))) ((unhide QL29 _ (unhide J42 _ (unhide HP))).any (Nat.zero_le _))).mono ?_
  rintro q v14 ⟨op30, n30, s30, a30, len30, cap30, rfl, hl30, hb⟩
  replace HP := hide ((unhide UP) _ _ (unhide HP) hb)
  obtain ⟨P43, hC43, hP43, hJ43, hQ43⟩ := Up.grow (unhide UP) (unhide HP) Up.lies (hl30)
  have J43 := hide hJ43
  have QL30 := hide hQ43
  replace UP := hide hC43
  replace HP := hide hP43
  clear hC43 hP43 hJ43 hQ43
  clear hb hl30
  have hp := ab (w := v14) (.cells #[.int .i64 op30, .int .i64 n30, .string s30, .slice a30 len30 cap30] 29)
  have hrow := RowT.new 29 v14 op30 n30 s30 a30 len30 cap30
  replace HP := hide ((unhide UP) _ _ (unhide HP) hp)
  obtain ⟨P44, hC44, hP44, hJ44, hQ44⟩ := Up.grow (unhide UP) (unhide HP) Up.row (hrow)
  have J44 := hide hJ44
  have Q30 := hide hQ44
  replace UP := hide hC44
  replace HP := hide hP44
  clear hC44 hP44 hJ44 hQ44
  clear hp hrow
  obtain ⟨z00, z01, z02, z03⟩ := ((unhide Q29 _ (unhide J43 _ (unhide J44 _ (unhide HP))))).facts
  go_wp2_with fail
  clear z00 z01 z02 z03
  generalize hgw : v14.alloc (.cells #[.int .i64 op30, .int .i64 n30, .string s30, .slice a30 len30 cap30] 29) = V14 at *
  clear hgw
  generalize v14.heap.size = bO at *
  refine (unhide hS25 op29 n29 s29 a29 len29 cap29 _ ((unhide QL29 _ (unhide J42 _ (unhide J43 _ (unhide J44 _ (unhide HP))))).any (Nat.zero_le _))).mono ?_
  rintro q v15 ⟨op32, n32, s32, a32, len32, cap32, rfl, hl32, hb⟩
  replace HP := hide ((unhide UP) _ _ (unhide HP) hb)
  obtain ⟨P45, hC45, hP45, hJ45, hQ45⟩ := Up.grow (unhide UP) (unhide HP) Up.lies (hl32)
  have J45 := hide hJ45
  have QL32 := hide hQ45
  replace UP := hide hC45
  replace HP := hide hP45
  clear hC45 hP45 hJ45 hQ45
  clear hb hl32
  have hp := ab (w := v15) (.cells #[.int .i64 op32, .int .i64 n32, .string s32, .slice a32 len32 cap32] 29)
  have hrow := RowT.new 29 v15 op32 n32 s32 a32 len32 cap32
  replace HP := hide ((unhide UP) _ _ (unhide HP) hp)
  obtain ⟨P46, hC46, hP46, hJ46, hQ46⟩ := Up.grow (unhide UP) (unhide HP) Up.row (hrow)
  have J46 := hide hJ46
  have Q32 := hide hQ46
  replace UP := hide hC46
  replace HP := hide hP46
  clear hC46 hP46 hJ46 hQ46
  clear hp hrow
  go_wp2_with fail
  generalize hgw : v15.alloc (.cells #[.int .i64 op32, .int .i64 n32, .string s32, .slice a32 len32 cap32] 29) = V15 at *
  clear hgw
  generalize v15.heap.size = bW at *
  refine (hello_draw ad ln cp _ (bytes_up (unhide HBY) (unhide IW _ (unhide J1 _ (unhide J2 _ (unhide J3 _ (unhide J4 _ (unhide J5 _ (unhide J6 _ (unhide J7 _ (unhide J8 _ (unhide J9 _ (unhide J10 _ (unhide J11 _ (unhide J12 _ (unhide J13 _ (unhide J14 _ (unhide J15 _ (unhide J16 _ (unhide J17 _ (unhide J18 _ (unhide J19 _ (unhide J20 _ (unhide J21 _ (unhide J22 _ (unhide J23 _ (unhide J24 _ (unhide J25 _ (unhide J26 _ (unhide J27 _ (unhide J28 _ (unhide J29 _ (unhide J30 _ (unhide J31 _ (unhide J32 _ (unhide J33 _ (unhide J34 _ (unhide J35 _ (unhide J36 _ (unhide J37 _ (unhide J38 _ (unhide J39 _ (unhide J40 _ (unhide J41 _ (unhide J42 _ (unhide J43 _ (unhide J44 _ (unhide J45 _ (unhide J46 _ (unhide HP)))))))))))))))))))))))))))))))))))))))))))))))) ((unhide IW _ (unhide J1 _ (unhide J2 _ (unhide J3 _ (unhide J4 _ (unhide J5 _ (unhide J6 _ (unhide J7 _ (unhide J8 _ (unhide J9 _ (unhide J10 _ (unhide J11 _ (unhide J12 _ (unhide J13 _ (unhide J14 _ (unhide J15 _ (unhide J16 _ (unhide J17 _ (unhide J18 _ (unhide J19 _ (unhide J20 _ (unhide J21 _ (unhide J22 _ (unhide J23 _ (unhide J24 _ (unhide J25 _ (unhide J26 _ (unhide J27 _ (unhide J28 _ (unhide J29 _ (unhide J30 _ (unhide J31 _ (unhide J32 _ (unhide J33 _ (unhide J34 _ (unhide J35 _ (unhide J36 _ (unhide J37 _ (unhide J38 _ (unhide J39 _ (unhide J40 _ (unhide J41 _ (unhide J42 _ (unhide J43 _ (unhide J44 _ (unhide J45 _ (unhide J46 _ (unhide HP))))))))))))))))))))))))))))))))))))))))))))))))).size) hl hlc).mono ?_
  rintro q v16 ⟨TH, op34, n34, s34, a34, len34, cap34, rfl, ⟨hl34, hz34⟩, hb⟩
  replace HP := hide ((unhide UP) _ _ (unhide HP) hb)
  obtain ⟨P47, hC47, hP47, hJ47, hQ47⟩ := Up.grow (unhide UP) (unhide HP) Up.lies (hl34)
  have J47 := hide hJ47
  have QL34 := hide hQ47
  replace UP := hide hC47
  replace HP := hide hP47
  clear hC47 hP47 hJ47 hQ47
  clear hb hl34
  go_wp2_with fail
  refine (done_draw ad ln cp _ (bytes_up (unhide HBY) (unhide IW _ (unhide J1 _ (unhide J2 _ (unhide J3 _ (unhide J4 _ (unhide J5 _ (unhide J6 _ (unhide J7 _ (unhide J8 _ (unhide J9 _ (unhide J10 _ (unhide J11 _ (unhide J12 _ (unhide J13 _ (unhide J14 _ (unhide J15 _ (unhide J16 _ (unhide J17 _ (unhide J18 _ (unhide J19 _ (unhide J20 _ (unhide J21 _ (unhide J22 _ (unhide J23 _ (unhide J24 _ (unhide J25 _ (unhide J26 _ (unhide J27 _ (unhide J28 _ (unhide J29 _ (unhide J30 _ (unhide J31 _ (unhide J32 _ (unhide J33 _ (unhide J34 _ (unhide J35 _ (unhide J36 _ (unhide J37 _ (unhide J38 _ (unhide J39 _ (unhide J40 _ (unhide J41 _ (unhide J42 _ (unhide J43 _ (unhide J44 _ (unhide J45 _ (unhide J46 _ (unhide J47 _ (unhide HP))))))))))))))))))))))))))))))))))))))))))))))))) ((unhide IW _ (unhide J1 _ (unhide J2 _ (unhide J3 _ (unhide J4 _ (unhide J5 _ (unhide J6 _ (unhide J7 _ (unhide J8 _ (unhide J9 _ (unhide J10 _ (unhide J11 _ (unhide J12 _ (unhide J13 _ (unhide J14 _ (unhide J15 _ (unhide J16 _ (unhide J17 _ (unhide J18 _ (unhide J19 _ (unhide J20 _ (unhide J21 _ (unhide J22 _ (unhide J23 _ (unhide J24 _ (unhide J25 _ (unhide J26 _ (unhide J27 _ (unhide J28 _ (unhide J29 _ (unhide J30 _ (unhide J31 _ (unhide J32 _ (unhide J33 _ (unhide J34 _ (unhide J35 _ (unhide J36 _ (unhide J37 _ (unhide J38 _ (unhide J39 _ (unhide J40 _ (unhide J41 _ (unhide J42 _ (unhide J43 _ (unhide J44 _ (unhide J45 _ (unhide J46 _ (unhide J47 _ (unhide HP)))))))))))))))))))))))))))))))))))))))))))))))))).size) hl hlc).mono ?_
  rintro q v17 ⟨TD, op35, n35, s35, a35, len35, cap35, rfl, ⟨hl35, hz35⟩, hb⟩
  replace HP := hide ((unhide UP) _ _ (unhide HP) hb)
  obtain ⟨P48, hC48, hP48, hJ48, hQ48⟩ := Up.grow (unhide UP) (unhide HP) Up.lies (hl35)
  have J48 := hide hJ48
  have QL35 := hide hQ48
  replace UP := hide hC48
  replace HP := hide hP48
  clear hC48 hP48 hJ48 hQ48
  clear hb hl35
  have hp := ab (w := v17) (.cells #[.int .i64 op34, .int .i64 n34, .string s34, .slice a34 len34 cap34] 29)
  have hrow := RowT.new 29 v17 op34 n34 s34 a34 len34 cap34
  replace HP := hide ((unhide UP) _ _ (unhide HP) hp)
  obtain ⟨P49, hC49, hP49, hJ49, hQ49⟩ := Up.grow (unhide UP) (unhide HP) Up.row (hrow)
  have J49 := hide hJ49
  have Q34 := hide hQ49
  replace UP := hide hC49
  replace HP := hide hP49
  clear hC49 hP49 hJ49 hQ49
  clear hp hrow
  have hp := ab (w := (v17.alloc (.cells #[.int .i64 op34, .int .i64 n34, .string s34, .slice a34 len34 cap34] 29))) (.cells #[.int .i64 op35, .int .i64 n35, .string s35, .slice a35 len35 cap35] 29)
  have hrow := RowT.new 29 (v17.alloc (.cells #[.int .i64 op34, .int .i64 n34, .string s34, .slice a34 len34 cap34] 29)) op35 n35 s35 a35 len35 cap35
  rw [heap_size_alloc] at hrow
  replace HP := hide ((unhide UP) _ _ (unhide HP) hp)
  obtain ⟨P50, hC50, hP50, hJ50, hQ50⟩ := Up.grow (unhide UP) (unhide HP) Up.row (hrow)
  have J50 := hide hJ50
  have Q35 := hide hQ50
  replace UP := hide hC50
  replace HP := hide hP50
  clear hC50 hP50 hJ50 hQ50
  clear hp hrow
  go_wp2_with fail
  generalize hgw : (v17.alloc (.cells #[.int .i64 op34, .int .i64 n34, .string s34, .slice a34 len34 cap34] 29)).alloc (.cells #[.int .i64 op35, .int .i64 n35, .string s35, .slice a35 len35 cap35] 29) = V17 at *
  clear hgw
  generalize v17.heap.size = bU at *
  refine (both_draw ad ln cp _ (bytes_up (unhide HBY) (unhide IW _ (unhide J1 _ (unhide J2 _ (unhide J3 _ (unhide J4 _ (unhide J5 _ (unhide J6 _ (unhide J7 _ (unhide J8 _ (unhide J9 _ (unhide J10 _ (unhide J11 _ (unhide J12 _ (unhide J13 _ (unhide J14 _ (unhide J15 _ (unhide J16 _ (unhide J17 _ (unhide J18 _ (unhide J19 _ (unhide J20 _ (unhide J21 _ (unhide J22 _ (unhide J23 _ (unhide J24 _ (unhide J25 _ (unhide J26 _ (unhide J27 _ (unhide J28 _ (unhide J29 _ (unhide J30 _ (unhide J31 _ (unhide J32 _ (unhide J33 _ (unhide J34 _ (unhide J35 _ (unhide J36 _ (unhide J37 _ (unhide J38 _ (unhide J39 _ (unhide J40 _ (unhide J41 _ (unhide J42 _ (unhide J43 _ (unhide J44 _ (unhide J45 _ (unhide J46 _ (unhide J47 _ (unhide J48 _ (unhide J49 _ (unhide J50 _ (unhide HP)))))))))))))))))))))))))))))))))))))))))))))))))))) ((unhide IW _ (unhide J1 _ (unhide J2 _ (unhide J3 _ (unhide J4 _ (unhide J5 _ (unhide J6 _ (unhide J7 _ (unhide J8 _ (unhide J9 _ (unhide J10 _ (unhide J11 _ (unhide J12 _ (unhide J13 _ (unhide J14 _ (unhide J15 _ (unhide J16 _ (unhide J17 _ (unhide J18 _ (unhide J19 _ (unhide J20 _ (unhide J21 _ (unhide J22 _ (unhide J23 _ (unhide J24 _ (unhide J25 _ (unhide J26 _ (unhide J27 _ (unhide J28 _ (unhide J29 _ (unhide J30 _ (unhide J31 _ (unhide J32 _ (unhide J33 _ (unhide J34 _ (unhide J35 _ (unhide J36 _ (unhide J37 _ (unhide J38 _ (unhide J39 _ (unhide J40 _ (unhide J41 _ (unhide J42 _ (unhide J43 _ (unhide J44 _ (unhide J45 _ (unhide J46 _ (unhide J47 _ (unhide J48 _ (unhide J49 _ (unhide J50 _ (unhide HP))))))))))))))))))))))))))))))))))))))))))))))))))))).size) hl hlc).mono ?_
  rintro q v18 ⟨TY, TZ, op36, n36, s36, a36, len36, cap36, op37, n37, s37, a37, len37, cap37, rfl, ⟨hl36, hz36⟩, ⟨hl37, hz37⟩, hb⟩
  replace HP := hide ((unhide UP) _ _ (unhide HP) hb)
  obtain ⟨P51, hC51, hP51, hJ51, hQ51⟩ := Up.grow (unhide UP) (unhide HP) Up.lies (hl36)
  have J51 := hide hJ51
  have QL36 := hide hQ51
  replace UP := hide hC51
  replace HP := hide hP51
  clear hC51 hP51 hJ51 hQ51
  obtain ⟨P52, hC52, hP52, hJ52, hQ52⟩ := Up.grow (unhide UP) (unhide HP) Up.lies (hl37)
  have J52 := hide hJ52
  have QL37 := hide hQ52
  replace UP := hide hC52
  replace HP := hide hP52
  clear hC52 hP52 hJ52 hQ52
  clear hb hl36 hl37
  have hp := ab (w := v18) (.cells #[.int .i64 op36, .int .i64 n36, .string s36, .slice a36 len36 cap36] 29)
  have hrow := RowT.new 29 v18 op36 n36 s36 a36 len36 cap36
  replace HP := hide ((unhide UP) _ _ (unhide HP) hp)
  obtain ⟨P53, hC53, hP53, hJ53, hQ53⟩ := Up.grow (unhide UP) (unhide HP) Up.row (hrow)
  have J53 := hide hJ53
  have Q36 := hide hQ53
  replace UP := hide hC53
  replace HP := hide hP53
  clear hC53 hP53 hJ53 hQ53
  clear hp hrow
  have hp := ab (w := (v18.alloc (.cells #[.int .i64 op36, .int .i64 n36, .string s36, .slice a36 len36 cap36] 29))) (.cells #[.int .i64 op37, .int .i64 n37, .string s37, .slice a37 len37 cap37] 29)
  have hrow := RowT.new 29 (v18.alloc (.cells #[.int .i64 op36, .int .i64 n36, .string s36, .slice a36 len36 cap36] 29)) op37 n37 s37 a37 len37 cap37
  rw [heap_size_alloc] at hrow
  replace HP := hide ((unhide UP) _ _ (unhide HP) hp)
  obtain ⟨P54, hC54, hP54, hJ54, hQ54⟩ := Up.grow (unhide UP) (unhide HP) Up.row (hrow)
  have J54 := hide hJ54
  have Q37 := hide hQ54
  replace UP := hide hC54
  replace HP := hide hP54
  clear hC54 hP54 hJ54 hQ54
  clear hp hrow
  go_wp2_with fail
  generalize hgw : (v18.alloc (.cells #[.int .i64 op36, .int .i64 n36, .string s36, .slice a36 len36 cap36] 29)).alloc (.cells #[.int .i64 op37, .int .i64 n37, .string s37, .slice a37 len37 cap37] 29) = V18 at *
  clear hgw
  generalize v18.heap.size = bY at *
  obtain ⟨f23_0, f23_1, f23_2, f23_3⟩ := ((unhide Q23 _ (unhide J38 _ (unhide J39 _ (unhide J40 _ (unhide J41 _ (unhide J42 _ (unhide J43 _ (unhide J44 _ (unhide J45 _ (unhide J46 _ (unhide J47 _ (unhide J48 _ (unhide J49 _ (unhide J50 _ (unhide J51 _ (unhide J52 _ (unhide J53 _ (unhide J54 _ (unhide HP)))))))))))))))))))).facts
  obtain ⟨f24_0, f24_1, f24_2, f24_3⟩ := ((unhide Q24 _ (unhide J39 _ (unhide J40 _ (unhide J41 _ (unhide J42 _ (unhide J43 _ (unhide J44 _ (unhide J45 _ (unhide J46 _ (unhide J47 _ (unhide J48 _ (unhide J49 _ (unhide J50 _ (unhide J51 _ (unhide J52 _ (unhide J53 _ (unhide J54 _ (unhide HP))))))))))))))))))).facts
  obtain ⟨f25_0, f25_1, f25_2, f25_3⟩ := ((unhide Q25 _ (unhide J40 _ (unhide J41 _ (unhide J42 _ (unhide J43 _ (unhide J44 _ (unhide J45 _ (unhide J46 _ (unhide J47 _ (unhide J48 _ (unhide J49 _ (unhide J50 _ (unhide J51 _ (unhide J52 _ (unhide J53 _ (unhide J54 _ (unhide HP)))))))))))))))))).facts
  obtain ⟨f26_0, f26_1, f26_2, f26_3⟩ := ((unhide Q26 _ (unhide J41 _ (unhide J42 _ (unhide J43 _ (unhide J44 _ (unhide J45 _ (unhide J46 _ (unhide J47 _ (unhide J48 _ (unhide J49 _ (unhide J50 _ (unhide J51 _ (unhide J52 _ (unhide J53 _ (unhide J54 _ (unhide HP))))))))))))))))).facts
  obtain ⟨f30_0, f30_1, f30_2, f30_3⟩ := ((unhide Q30 _ (unhide J45 _ (unhide J46 _ (unhide J47 _ (unhide J48 _ (unhide J49 _ (unhide J50 _ (unhide J51 _ (unhide J52 _ (unhide J53 _ (unhide J54 _ (unhide HP))))))))))))).facts
  obtain ⟨f32_0, f32_1, f32_2, f32_3⟩ := ((unhide Q32 _ (unhide J47 _ (unhide J48 _ (unhide J49 _ (unhide J50 _ (unhide J51 _ (unhide J52 _ (unhide J53 _ (unhide J54 _ (unhide HP))))))))))).facts
  obtain ⟨f34_0, f34_1, f34_2, f34_3⟩ := ((unhide Q34 _ (unhide J50 _ (unhide J51 _ (unhide J52 _ (unhide J53 _ (unhide J54 _ (unhide HP)))))))).facts
  obtain ⟨f35_0, f35_1, f35_2, f35_3⟩ := ((unhide Q35 _ (unhide J51 _ (unhide J52 _ (unhide J53 _ (unhide J54 _ (unhide HP))))))).facts
  obtain ⟨f36_0, f36_1, f36_2, f36_3⟩ := ((unhide Q36 _ (unhide J54 _ (unhide HP)))).facts
  obtain ⟨f37_0, f37_1, f37_2, f37_3⟩ := ((unhide Q37 _ (unhide HP))).facts
  replace HP := hide ((unhide UP) _ _ (unhide HP) (Below.refl _ _).drew)
  go_region_held3 (fun x => x.cell? ⟨bJ, 0, none⟩ = some (.int .i64 op23) ∧ x.cell? ⟨bJ, 1, none⟩ = some (.int .i64 n23) ∧ x.cell? ⟨bJ, 2, none⟩ = some (.string s23) ∧ x.cell? ⟨bJ, 3, none⟩ = some (.slice a23 len23 cap23) ∧ x.cell? ⟨bJ + 1, 0, none⟩ = some (.int .i64 op24) ∧ x.cell? ⟨bJ + 1, 1, none⟩ = some (.int .i64 n24) ∧ x.cell? ⟨bJ + 1, 2, none⟩ = some (.string s24) ∧ x.cell? ⟨bJ + 1, 3, none⟩ = some (.slice a24 len24 cap24) ∧ x.cell? ⟨bJ + 1 + 1, 0, none⟩ = some (.int .i64 op25) ∧ x.cell? ⟨bJ + 1 + 1, 1, none⟩ = some (.int .i64 n25) ∧ x.cell? ⟨bJ + 1 + 1, 2, none⟩ = some (.string s25) ∧ x.cell? ⟨bJ + 1 + 1, 3, none⟩ = some (.slice a25 len25 cap25) ∧ x.cell? ⟨bJ + 1 + 1 + 1, 0, none⟩ = some (.int .i64 op26) ∧ x.cell? ⟨bJ + 1 + 1 + 1, 1, none⟩ = some (.int .i64 n26) ∧ x.cell? ⟨bJ + 1 + 1 + 1, 2, none⟩ = some (.string s26) ∧ x.cell? ⟨bJ + 1 + 1 + 1, 3, none⟩ = some (.slice a26 len26 cap26) ∧ x.cell? ⟨bO, 0, none⟩ = some (.int .i64 op30) ∧ x.cell? ⟨bO, 1, none⟩ = some (.int .i64 n30) ∧ x.cell? ⟨bO, 2, none⟩ = some (.string s30) ∧ x.cell? ⟨bO, 3, none⟩ = some (.slice a30 len30 cap30) ∧ x.cell? ⟨bW, 0, none⟩ = some (.int .i64 op32) ∧ x.cell? ⟨bW, 1, none⟩ = some (.int .i64 n32) ∧ x.cell? ⟨bW, 2, none⟩ = some (.string s32) ∧ x.cell? ⟨bW, 3, none⟩ = some (.slice a32 len32 cap32) ∧ x.cell? ⟨bU, 0, none⟩ = some (.int .i64 op34) ∧ x.cell? ⟨bU, 1, none⟩ = some (.int .i64 n34) ∧ x.cell? ⟨bU, 2, none⟩ = some (.string s34) ∧ x.cell? ⟨bU, 3, none⟩ = some (.slice a34 len34 cap34) ∧ x.cell? ⟨bU + 1, 0, none⟩ = some (.int .i64 op35) ∧ x.cell? ⟨bU + 1, 1, none⟩ = some (.int .i64 n35) ∧ x.cell? ⟨bU + 1, 2, none⟩ = some (.string s35) ∧ x.cell? ⟨bU + 1, 3, none⟩ = some (.slice a35 len35 cap35) ∧ x.cell? ⟨bY, 0, none⟩ = some (.int .i64 op36) ∧ x.cell? ⟨bY, 1, none⟩ = some (.int .i64 n36) ∧ x.cell? ⟨bY, 2, none⟩ = some (.string s36) ∧ x.cell? ⟨bY, 3, none⟩ = some (.slice a36 len36 cap36) ∧ x.cell? ⟨bY + 1, 0, none⟩ = some (.int .i64 op37) ∧ x.cell? ⟨bY + 1, 1, none⟩ = some (.int .i64 n37) ∧ x.cell? ⟨bY + 1, 2, none⟩ = some (.string s37) ∧ x.cell? ⟨bY + 1, 3, none⟩ = some (.slice a37 len37 cap37)) (go_keep)
    (first
      | (go_at_call 12
         refine (unhide hI12 op23 n23 s23 a23 len23 cap23 op24 n24 s24 a24 len24 cap24 op25 n25 s25 a25 len25 cap25 op26 n26 s26 a26 len26 cap26 x _ ((unhide HE).on (unhide IW _ (unhide J1 _ (unhide J2 _ (unhide J3 _ (unhide J4 _ (unhide J5 _ (unhide J6 _ (unhide J7 _ (unhide J8 _ (unhide J9 _ (unhide J10 _ (unhide J11 _ (unhide J12 _ (unhide J13 _ (unhide J14 _ (unhide J15 _ (unhide J16 _ (unhide J17 _ (unhide J18 _ (unhide J19 _ (unhide J20 _ (unhide J21 _ (unhide J22 _ (unhide J23 _ (unhide J24 _ (unhide J25 _ (unhide J26 _ (unhide J27 _ (unhide J28 _ (unhide J29 _ (unhide J30 _ (unhide J31 _ (unhide J32 _ (unhide J33 _ (unhide J34 _ (unhide J35 _ (unhide J36 _ (unhide J37 _ (unhide J38 _ (unhide J39 _ (unhide J40 _ (unhide J41 _ (unhide J42 _ (unhide J43 _ (unhide J44 _ (unhide J45 _ (unhide J46 _ (unhide J47 _ (unhide J48 _ (unhide J49 _ (unhide J50 _ (unhide J51 _ (unhide J52 _ (unhide J53 _ (unhide J54 _ (unhide HP))))))))))))))))))))))))))))))))))))))))))))))))))))))))) ((unhide HR).on (unhide IW _ (unhide J1 _ (unhide J2 _ (unhide J3 _ (unhide J4 _ (unhide J5 _ (unhide J6 _ (unhide J7 _ (unhide J8 _ (unhide J9 _ (unhide J10 _ (unhide J11 _ (unhide J12 _ (unhide J13 _ (unhide J14 _ (unhide J15 _ (unhide J16 _ (unhide J17 _ (unhide J18 _ (unhide J19 _ (unhide J20 _ (unhide J21 _ (unhide J22 _ (unhide J23 _ (unhide J24 _ (unhide J25 _ (unhide J26 _ (unhide J27 _ (unhide J28 _ (unhide J29 _ (unhide J30 _ (unhide J31 _ (unhide J32 _ (unhide J33 _ (unhide J34 _ (unhide J35 _ (unhide J36 _ (unhide J37 _ (unhide J38 _ (unhide J39 _ (unhide J40 _ (unhide J41 _ (unhide J42 _ (unhide J43 _ (unhide J44 _ (unhide J45 _ (unhide J46 _ (unhide J47 _ (unhide J48 _ (unhide J49 _ (unhide J50 _ (unhide J51 _ (unhide J52 _ (unhide J53 _ (unhide J54 _ (unhide HP))))))))))))))))))))))))))))))))))))))))))))))))))))))))) ((unhide HT).on (unhide IW _ (unhide J1 _ (unhide J2 _ (unhide J3 _ (unhide J4 _ (unhide J5 _ (unhide J6 _ (unhide J7 _ (unhide J8 _ (unhide J9 _ (unhide J10 _ (unhide J11 _ (unhide J12 _ (unhide J13 _ (unhide J14 _ (unhide J15 _ (unhide J16 _ (unhide J17 _ (unhide J18 _ (unhide J19 _ (unhide J20 _ (unhide J21 _ (unhide J22 _ (unhide J23 _ (unhide J24 _ (unhide J25 _ (unhide J26 _ (unhide J27 _ (unhide J28 _ (unhide J29 _ (unhide J30 _ (unhide J31 _ (unhide J32 _ (unhide J33 _ (unhide J34 _ (unhide J35 _ (unhide J36 _ (unhide J37 _ (unhide J38 _ (unhide J39 _ (unhide J40 _ (unhide J41 _ (unhide J42 _ (unhide J43 _ (unhide J44 _ (unhide J45 _ (unhide J46 _ (unhide J47 _ (unhide J48 _ (unhide J49 _ (unhide J50 _ (unhide J51 _ (unhide J52 _ (unhide J53 _ (unhide J54 _ (unhide HP))))))))))))))))))))))))))))))))))))))))))))))))))))))))) (unhide QL23 _ (unhide J34 _ (unhide J35 _ (unhide J36 _ (unhide J37 _ (unhide J38 _ (unhide J39 _ (unhide J40 _ (unhide J41 _ (unhide J42 _ (unhide J43 _ (unhide J44 _ (unhide J45 _ (unhide J46 _ (unhide J47 _ (unhide J48 _ (unhide J49 _ (unhide J50 _ (unhide J51 _ (unhide J52 _ (unhide J53 _ (unhide J54 _ (unhide HP))))))))))))))))))))))) (unhide QL24 _ (unhide J35 _ (unhide J36 _ (unhide J37 _ (unhide J38 _ (unhide J39 _ (unhide J40 _ (unhide J41 _ (unhide J42 _ (unhide J43 _ (unhide J44 _ (unhide J45 _ (unhide J46 _ (unhide J47 _ (unhide J48 _ (unhide J49 _ (unhide J50 _ (unhide J51 _ (unhide J52 _ (unhide J53 _ (unhide J54 _ (unhide HP)))))))))))))))))))))) (unhide QL25 _ (unhide J36 _ (unhide J37 _ (unhide J38 _ (unhide J39 _ (unhide J40 _ (unhide J41 _ (unhide J42 _ (unhide J43 _ (unhide J44 _ (unhide J45 _ (unhide J46 _ (unhide J47 _ (unhide J48 _ (unhide J49 _ (unhide J50 _ (unhide J51 _ (unhide J52 _ (unhide J53 _ (unhide J54 _ (unhide HP))))))))))))))))))))) (unhide QL26 _ (unhide J37 _ (unhide J38 _ (unhide J39 _ (unhide J40 _ (unhide J41 _ (unhide J42 _ (unhide J43 _ (unhide J44 _ (unhide J45 _ (unhide J46 _ (unhide J47 _ (unhide J48 _ (unhide J49 _ (unhide J50 _ (unhide J51 _ (unhide J52 _ (unhide J53 _ (unhide J54 _ (unhide HP))))))))))))))))))))).mono ?_
         rintro q y1 ⟨rfl, hb⟩
         replace HP := hide ((unhide UP) _ _ (unhide HP) hb)
         clear hb 
         clear f23_0 f23_1 f23_2 f23_3 f24_0 f24_1 f24_2 f24_3 f25_0 f25_1 f25_2 f25_3 f26_0 f26_1 f26_2 f26_3 f30_0 f30_1 f30_2 f30_3 f32_0 f32_1 f32_2 f32_3 f34_0 f34_1 f34_2 f34_3 f35_0 f35_1 f35_2 f35_3 f36_0 f36_1 f36_2 f36_3 f37_0 f37_1 f37_2 f37_3
         obtain ⟨f23_0, f23_1, f23_2, f23_3⟩ := ((unhide Q23 _ (unhide J38 _ (unhide J39 _ (unhide J40 _ (unhide J41 _ (unhide J42 _ (unhide J43 _ (unhide J44 _ (unhide J45 _ (unhide J46 _ (unhide J47 _ (unhide J48 _ (unhide J49 _ (unhide J50 _ (unhide J51 _ (unhide J52 _ (unhide J53 _ (unhide J54 _ (unhide HP)))))))))))))))))))).facts
         obtain ⟨f24_0, f24_1, f24_2, f24_3⟩ := ((unhide Q24 _ (unhide J39 _ (unhide J40 _ (unhide J41 _ (unhide J42 _ (unhide J43 _ (unhide J44 _ (unhide J45 _ (unhide J46 _ (unhide J47 _ (unhide J48 _ (unhide J49 _ (unhide J50 _ (unhide J51 _ (unhide J52 _ (unhide J53 _ (unhide J54 _ (unhide HP))))))))))))))))))).facts
         obtain ⟨f25_0, f25_1, f25_2, f25_3⟩ := ((unhide Q25 _ (unhide J40 _ (unhide J41 _ (unhide J42 _ (unhide J43 _ (unhide J44 _ (unhide J45 _ (unhide J46 _ (unhide J47 _ (unhide J48 _ (unhide J49 _ (unhide J50 _ (unhide J51 _ (unhide J52 _ (unhide J53 _ (unhide J54 _ (unhide HP)))))))))))))))))).facts
         obtain ⟨f26_0, f26_1, f26_2, f26_3⟩ := ((unhide Q26 _ (unhide J41 _ (unhide J42 _ (unhide J43 _ (unhide J44 _ (unhide J45 _ (unhide J46 _ (unhide J47 _ (unhide J48 _ (unhide J49 _ (unhide J50 _ (unhide J51 _ (unhide J52 _ (unhide J53 _ (unhide J54 _ (unhide HP))))))))))))))))).facts
         obtain ⟨f30_0, f30_1, f30_2, f30_3⟩ := ((unhide Q30 _ (unhide J45 _ (unhide J46 _ (unhide J47 _ (unhide J48 _ (unhide J49 _ (unhide J50 _ (unhide J51 _ (unhide J52 _ (unhide J53 _ (unhide J54 _ (unhide HP))))))))))))).facts
         obtain ⟨f32_0, f32_1, f32_2, f32_3⟩ := ((unhide Q32 _ (unhide J47 _ (unhide J48 _ (unhide J49 _ (unhide J50 _ (unhide J51 _ (unhide J52 _ (unhide J53 _ (unhide J54 _ (unhide HP))))))))))).facts
         obtain ⟨f34_0, f34_1, f34_2, f34_3⟩ := ((unhide Q34 _ (unhide J50 _ (unhide J51 _ (unhide J52 _ (unhide J53 _ (unhide J54 _ (unhide HP)))))))).facts
         obtain ⟨f35_0, f35_1, f35_2, f35_3⟩ := ((unhide Q35 _ (unhide J51 _ (unhide J52 _ (unhide J53 _ (unhide J54 _ (unhide HP))))))).facts
         obtain ⟨f36_0, f36_1, f36_2, f36_3⟩ := ((unhide Q36 _ (unhide J54 _ (unhide HP)))).facts
         obtain ⟨f37_0, f37_1, f37_2, f37_3⟩ := ((unhide Q37 _ (unhide HP))).facts)
      | (go_at_call 10
         refine (unhide hS10 op23 n23 s23 a23 len23 cap23 op24 n24 s24 a24 len24 cap24 op25 n25 s25 a25 len25 cap25 op26 n26 s26 a26 len26 cap26 _ (unhide QL23 _ (unhide J34 _ (unhide J35 _ (unhide J36 _ (unhide J37 _ (unhide J38 _ (unhide J39 _ (unhide J40 _ (unhide J41 _ (unhide J42 _ (unhide J43 _ (unhide J44 _ (unhide J45 _ (unhide J46 _ (unhide J47 _ (unhide J48 _ (unhide J49 _ (unhide J50 _ (unhide J51 _ (unhide J52 _ (unhide J53 _ (unhide J54 _ (unhide HP))))))))))))))))))))))) (unhide QL24 _ (unhide J35 _ (unhide J36 _ (unhide J37 _ (unhide J38 _ (unhide J39 _ (unhide J40 _ (unhide J41 _ (unhide J42 _ (unhide J43 _ (unhide J44 _ (unhide J45 _ (unhide J46 _ (unhide J47 _ (unhide J48 _ (unhide J49 _ (unhide J50 _ (unhide J51 _ (unhide J52 _ (unhide J53 _ (unhide J54 _ (unhide HP)))))))))))))))))))))) (unhide QL25 _ (unhide J36 _ (unhide J37 _ (unhide J38 _ (unhide J39 _ (unhide J40 _ (unhide J41 _ (unhide J42 _ (unhide J43 _ (unhide J44 _ (unhide J45 _ (unhide J46 _ (unhide J47 _ (unhide J48 _ (unhide J49 _ (unhide J50 _ (unhide J51 _ (unhide J52 _ (unhide J53 _ (unhide J54 _ (unhide HP))))))))))))))))))))) (unhide QL26 _ (unhide J37 _ (unhide J38 _ (unhide J39 _ (unhide J40 _ (unhide J41 _ (unhide J42 _ (unhide J43 _ (unhide J44 _ (unhide J45 _ (unhide J46 _ (unhide J47 _ (unhide J48 _ (unhide J49 _ (unhide J50 _ (unhide J51 _ (unhide J52 _ (unhide J53 _ (unhide J54 _ (unhide HP))))))))))))))))))))).mono ?_
         rintro q y2 ⟨rfl, hb⟩
         replace HP := hide ((unhide UP) _ _ (unhide HP) hb)
         clear hb 
         clear f23_0 f23_1 f23_2 f23_3 f24_0 f24_1 f24_2 f24_3 f25_0 f25_1 f25_2 f25_3 f26_0 f26_1 f26_2 f26_3 f30_0 f30_1 f30_2 f30_3 f32_0 f32_1 f32_2 f32_3 f34_0 f34_1 f34_2 f34_3 f35_0 f35_1 f35_2 f35_3 f36_0 f36_1 f36_2 f36_3 f37_0 f37_1 f37_2 f37_3
         obtain ⟨f23_0, f23_1, f23_2, f23_3⟩ := ((unhide Q23 _ (unhide J38 _ (unhide J39 _ (unhide J40 _ (unhide J41 _ (unhide J42 _ (unhide J43 _ (unhide J44 _ (unhide J45 _ (unhide J46 _ (unhide J47 _ (unhide J48 _ (unhide J49 _ (unhide J50 _ (unhide J51 _ (unhide J52 _ (unhide J53 _ (unhide J54 _ (unhide HP)))))))))))))))))))).facts
         obtain ⟨f24_0, f24_1, f24_2, f24_3⟩ := ((unhide Q24 _ (unhide J39 _ (unhide J40 _ (unhide J41 _ (unhide J42 _ (unhide J43 _ (unhide J44 _ (unhide J45 _ (unhide J46 _ (unhide J47 _ (unhide J48 _ (unhide J49 _ (unhide J50 _ (unhide J51 _ (unhide J52 _ (unhide J53 _ (unhide J54 _ (unhide HP))))))))))))))))))).facts
         obtain ⟨f25_0, f25_1, f25_2, f25_3⟩ := ((unhide Q25 _ (unhide J40 _ (unhide J41 _ (unhide J42 _ (unhide J43 _ (unhide J44 _ (unhide J45 _ (unhide J46 _ (unhide J47 _ (unhide J48 _ (unhide J49 _ (unhide J50 _ (unhide J51 _ (unhide J52 _ (unhide J53 _ (unhide J54 _ (unhide HP)))))))))))))))))).facts
         obtain ⟨f26_0, f26_1, f26_2, f26_3⟩ := ((unhide Q26 _ (unhide J41 _ (unhide J42 _ (unhide J43 _ (unhide J44 _ (unhide J45 _ (unhide J46 _ (unhide J47 _ (unhide J48 _ (unhide J49 _ (unhide J50 _ (unhide J51 _ (unhide J52 _ (unhide J53 _ (unhide J54 _ (unhide HP))))))))))))))))).facts
         obtain ⟨f30_0, f30_1, f30_2, f30_3⟩ := ((unhide Q30 _ (unhide J45 _ (unhide J46 _ (unhide J47 _ (unhide J48 _ (unhide J49 _ (unhide J50 _ (unhide J51 _ (unhide J52 _ (unhide J53 _ (unhide J54 _ (unhide HP))))))))))))).facts
         obtain ⟨f32_0, f32_1, f32_2, f32_3⟩ := ((unhide Q32 _ (unhide J47 _ (unhide J48 _ (unhide J49 _ (unhide J50 _ (unhide J51 _ (unhide J52 _ (unhide J53 _ (unhide J54 _ (unhide HP))))))))))).facts
         obtain ⟨f34_0, f34_1, f34_2, f34_3⟩ := ((unhide Q34 _ (unhide J50 _ (unhide J51 _ (unhide J52 _ (unhide J53 _ (unhide J54 _ (unhide HP)))))))).facts
         obtain ⟨f35_0, f35_1, f35_2, f35_3⟩ := ((unhide Q35 _ (unhide J51 _ (unhide J52 _ (unhide J53 _ (unhide J54 _ (unhide HP))))))).facts
         obtain ⟨f36_0, f36_1, f36_2, f36_3⟩ := ((unhide Q36 _ (unhide J54 _ (unhide HP)))).facts
         obtain ⟨f37_0, f37_1, f37_2, f37_3⟩ := ((unhide Q37 _ (unhide HP))).facts)
      | (go_at_call 21
         refine (same_one (KH) op30 n30 s30 a30 len30 cap30 op32 n32 s32 a32 len32 cap32 _ ((unhide QL30 _ (unhide J44 _ (unhide J45 _ (unhide J46 _ (unhide J47 _ (unhide J48 _ (unhide J49 _ (unhide J50 _ (unhide J51 _ (unhide J52 _ (unhide J53 _ (unhide J54 _ (unhide HP))))))))))))).any (Nat.zero_le _)) ((unhide QL32 _ (unhide J46 _ (unhide J47 _ (unhide J48 _ (unhide J49 _ (unhide J50 _ (unhide J51 _ (unhide J52 _ (unhide J53 _ (unhide J54 _ (unhide HP))))))))))).any (Nat.zero_le _)) (Nat.le_trans zK.size (by decide))).mono ?_
         rintro q y3 ⟨rfl, hb⟩
         replace HP := hide ((unhide UP) _ _ (unhide HP) hb)
         clear hb 
         clear f23_0 f23_1 f23_2 f23_3 f24_0 f24_1 f24_2 f24_3 f25_0 f25_1 f25_2 f25_3 f26_0 f26_1 f26_2 f26_3 f30_0 f30_1 f30_2 f30_3 f32_0 f32_1 f32_2 f32_3 f34_0 f34_1 f34_2 f34_3 f35_0 f35_1 f35_2 f35_3 f36_0 f36_1 f36_2 f36_3 f37_0 f37_1 f37_2 f37_3
         obtain ⟨f23_0, f23_1, f23_2, f23_3⟩ := ((unhide Q23 _ (unhide J38 _ (unhide J39 _ (unhide J40 _ (unhide J41 _ (unhide J42 _ (unhide J43 _ (unhide J44 _ (unhide J45 _ (unhide J46 _ (unhide J47 _ (unhide J48 _ (unhide J49 _ (unhide J50 _ (unhide J51 _ (unhide J52 _ (unhide J53 _ (unhide J54 _ (unhide HP)))))))))))))))))))).facts
         obtain ⟨f24_0, f24_1, f24_2, f24_3⟩ := ((unhide Q24 _ (unhide J39 _ (unhide J40 _ (unhide J41 _ (unhide J42 _ (unhide J43 _ (unhide J44 _ (unhide J45 _ (unhide J46 _ (unhide J47 _ (unhide J48 _ (unhide J49 _ (unhide J50 _ (unhide J51 _ (unhide J52 _ (unhide J53 _ (unhide J54 _ (unhide HP))))))))))))))))))).facts
         obtain ⟨f25_0, f25_1, f25_2, f25_3⟩ := ((unhide Q25 _ (unhide J40 _ (unhide J41 _ (unhide J42 _ (unhide J43 _ (unhide J44 _ (unhide J45 _ (unhide J46 _ (unhide J47 _ (unhide J48 _ (unhide J49 _ (unhide J50 _ (unhide J51 _ (unhide J52 _ (unhide J53 _ (unhide J54 _ (unhide HP)))))))))))))))))).facts
         obtain ⟨f26_0, f26_1, f26_2, f26_3⟩ := ((unhide Q26 _ (unhide J41 _ (unhide J42 _ (unhide J43 _ (unhide J44 _ (unhide J45 _ (unhide J46 _ (unhide J47 _ (unhide J48 _ (unhide J49 _ (unhide J50 _ (unhide J51 _ (unhide J52 _ (unhide J53 _ (unhide J54 _ (unhide HP))))))))))))))))).facts
         obtain ⟨f30_0, f30_1, f30_2, f30_3⟩ := ((unhide Q30 _ (unhide J45 _ (unhide J46 _ (unhide J47 _ (unhide J48 _ (unhide J49 _ (unhide J50 _ (unhide J51 _ (unhide J52 _ (unhide J53 _ (unhide J54 _ (unhide HP))))))))))))).facts
         obtain ⟨f32_0, f32_1, f32_2, f32_3⟩ := ((unhide Q32 _ (unhide J47 _ (unhide J48 _ (unhide J49 _ (unhide J50 _ (unhide J51 _ (unhide J52 _ (unhide J53 _ (unhide J54 _ (unhide HP))))))))))).facts
         obtain ⟨f34_0, f34_1, f34_2, f34_3⟩ := ((unhide Q34 _ (unhide J50 _ (unhide J51 _ (unhide J52 _ (unhide J53 _ (unhide J54 _ (unhide HP)))))))).facts
         obtain ⟨f35_0, f35_1, f35_2, f35_3⟩ := ((unhide Q35 _ (unhide J51 _ (unhide J52 _ (unhide J53 _ (unhide J54 _ (unhide HP))))))).facts
         obtain ⟨f36_0, f36_1, f36_2, f36_3⟩ := ((unhide Q36 _ (unhide J54 _ (unhide HP)))).facts
         obtain ⟨f37_0, f37_1, f37_2, f37_3⟩ := ((unhide Q37 _ (unhide HP))).facts)
      | (go_at_call 29
         refine (helloI1 TH op34 n34 s34 a34 len34 cap34 _ ((unhide QL34 _ (unhide J48 _ (unhide J49 _ (unhide J50 _ (unhide J51 _ (unhide J52 _ (unhide J53 _ (unhide J54 _ (unhide HP))))))))).any (Nat.zero_le _)) (by omega) ⟨x, ((unhide HE).on (unhide IW _ (unhide J1 _ (unhide J2 _ (unhide J3 _ (unhide J4 _ (unhide J5 _ (unhide J6 _ (unhide J7 _ (unhide J8 _ (unhide J9 _ (unhide J10 _ (unhide J11 _ (unhide J12 _ (unhide J13 _ (unhide J14 _ (unhide J15 _ (unhide J16 _ (unhide J17 _ (unhide J18 _ (unhide J19 _ (unhide J20 _ (unhide J21 _ (unhide J22 _ (unhide J23 _ (unhide J24 _ (unhide J25 _ (unhide J26 _ (unhide J27 _ (unhide J28 _ (unhide J29 _ (unhide J30 _ (unhide J31 _ (unhide J32 _ (unhide J33 _ (unhide J34 _ (unhide J35 _ (unhide J36 _ (unhide J37 _ (unhide J38 _ (unhide J39 _ (unhide J40 _ (unhide J41 _ (unhide J42 _ (unhide J43 _ (unhide J44 _ (unhide J45 _ (unhide J46 _ (unhide J47 _ (unhide J48 _ (unhide J49 _ (unhide J50 _ (unhide J51 _ (unhide J52 _ (unhide J53 _ (unhide J54 _ (unhide HP)))))))))))))))))))))))))))))))))))))))))))))))))))))))))⟩).mono ?_
         rintro q y4 ⟨op40, n40, s40, a40, len40, cap40, rfl, hl40, hb⟩
         replace HP := hide ((unhide UP) _ _ (unhide HP) hb)
         obtain ⟨P55, hC55, hP55, hJ55, hQ55⟩ := Up.grow (unhide UP) (unhide HP) Up.lies (hl40)
         have J55 := hide hJ55
         have QL40 := hide hQ55
         replace UP := hide hC55
         replace HP := hide hP55
         clear hC55 hP55 hJ55 hQ55
         clear hb hl40
         clear f23_0 f23_1 f23_2 f23_3 f24_0 f24_1 f24_2 f24_3 f25_0 f25_1 f25_2 f25_3 f26_0 f26_1 f26_2 f26_3 f30_0 f30_1 f30_2 f30_3 f32_0 f32_1 f32_2 f32_3 f34_0 f34_1 f34_2 f34_3 f35_0 f35_1 f35_2 f35_3 f36_0 f36_1 f36_2 f36_3 f37_0 f37_1 f37_2 f37_3
         obtain ⟨f23_0, f23_1, f23_2, f23_3⟩ := ((unhide Q23 _ (unhide J38 _ (unhide J39 _ (unhide J40 _ (unhide J41 _ (unhide J42 _ (unhide J43 _ (unhide J44 _ (unhide J45 _ (unhide J46 _ (unhide J47 _ (unhide J48 _ (unhide J49 _ (unhide J50 _ (unhide J51 _ (unhide J52 _ (unhide J53 _ (unhide J54 _ (unhide J55 _ (unhide HP))))))))))))))))))))).facts
         obtain ⟨f24_0, f24_1, f24_2, f24_3⟩ := ((unhide Q24 _ (unhide J39 _ (unhide J40 _ (unhide J41 _ (unhide J42 _ (unhide J43 _ (unhide J44 _ (unhide J45 _ (unhide J46 _ (unhide J47 _ (unhide J48 _ (unhide J49 _ (unhide J50 _ (unhide J51 _ (unhide J52 _ (unhide J53 _ (unhide J54 _ (unhide J55 _ (unhide HP)))))))))))))))))))).facts
         obtain ⟨f25_0, f25_1, f25_2, f25_3⟩ := ((unhide Q25 _ (unhide J40 _ (unhide J41 _ (unhide J42 _ (unhide J43 _ (unhide J44 _ (unhide J45 _ (unhide J46 _ (unhide J47 _ (unhide J48 _ (unhide J49 _ (unhide J50 _ (unhide J51 _ (unhide J52 _ (unhide J53 _ (unhide J54 _ (unhide J55 _ (unhide HP))))))))))))))))))).facts
         obtain ⟨f26_0, f26_1, f26_2, f26_3⟩ := ((unhide Q26 _ (unhide J41 _ (unhide J42 _ (unhide J43 _ (unhide J44 _ (unhide J45 _ (unhide J46 _ (unhide J47 _ (unhide J48 _ (unhide J49 _ (unhide J50 _ (unhide J51 _ (unhide J52 _ (unhide J53 _ (unhide J54 _ (unhide J55 _ (unhide HP)))))))))))))))))).facts
         obtain ⟨f30_0, f30_1, f30_2, f30_3⟩ := ((unhide Q30 _ (unhide J45 _ (unhide J46 _ (unhide J47 _ (unhide J48 _ (unhide J49 _ (unhide J50 _ (unhide J51 _ (unhide J52 _ (unhide J53 _ (unhide J54 _ (unhide J55 _ (unhide HP)))))))))))))).facts
         obtain ⟨f32_0, f32_1, f32_2, f32_3⟩ := ((unhide Q32 _ (unhide J47 _ (unhide J48 _ (unhide J49 _ (unhide J50 _ (unhide J51 _ (unhide J52 _ (unhide J53 _ (unhide J54 _ (unhide J55 _ (unhide HP)))))))))))).facts
         obtain ⟨f34_0, f34_1, f34_2, f34_3⟩ := ((unhide Q34 _ (unhide J50 _ (unhide J51 _ (unhide J52 _ (unhide J53 _ (unhide J54 _ (unhide J55 _ (unhide HP))))))))).facts
         obtain ⟨f35_0, f35_1, f35_2, f35_3⟩ := ((unhide Q35 _ (unhide J51 _ (unhide J52 _ (unhide J53 _ (unhide J54 _ (unhide J55 _ (unhide HP)))))))).facts
         obtain ⟨f36_0, f36_1, f36_2, f36_3⟩ := ((unhide Q36 _ (unhide J54 _ (unhide J55 _ (unhide HP))))).facts
         obtain ⟨f37_0, f37_1, f37_2, f37_3⟩ := ((unhide Q37 _ (unhide J55 _ (unhide HP)))).facts)
      | (go_at_call 30
         refine (helloS1 TH op34 n34 s34 a34 len34 cap34 _ ((unhide QL34 _ (unhide J48 _ (unhide J49 _ (unhide J50 _ (unhide J51 _ (unhide J52 _ (unhide J53 _ (unhide J54 _ (unhide J55 _ (unhide HP)))))))))).any (Nat.zero_le _)) (by omega)).mono ?_
         rintro q y5 ⟨op41, n41, s41, a41, len41, cap41, rfl, hl41, hb⟩
         replace HP := hide ((unhide UP) _ _ (unhide HP) hb)
         obtain ⟨P56, hC56, hP56, hJ56, hQ56⟩ := Up.grow (unhide UP) (unhide HP) Up.lies (hl41)
         have J56 := hide hJ56
         have QL41 := hide hQ56
         replace UP := hide hC56
         replace HP := hide hP56
         clear hC56 hP56 hJ56 hQ56
         clear hb hl41
         clear f23_0 f23_1 f23_2 f23_3 f24_0 f24_1 f24_2 f24_3 f25_0 f25_1 f25_2 f25_3 f26_0 f26_1 f26_2 f26_3 f30_0 f30_1 f30_2 f30_3 f32_0 f32_1 f32_2 f32_3 f34_0 f34_1 f34_2 f34_3 f35_0 f35_1 f35_2 f35_3 f36_0 f36_1 f36_2 f36_3 f37_0 f37_1 f37_2 f37_3
         obtain ⟨f23_0, f23_1, f23_2, f23_3⟩ := ((unhide Q23 _ (unhide J38 _ (unhide J39 _ (unhide J40 _ (unhide J41 _ (unhide J42 _ (unhide J43 _ (unhide J44 _ (unhide J45 _ (unhide J46 _ (unhide J47 _ (unhide J48 _ (unhide J49 _ (unhide J50 _ (unhide J51 _ (unhide J52 _ (unhide J53 _ (unhide J54 _ (unhide J55 _ (unhide J56 _ (unhide HP)))))))))))))))))))))).facts
         obtain ⟨f24_0, f24_1, f24_2, f24_3⟩ := ((unhide Q24 _ (unhide J39 _ (unhide J40 _ (unhide J41 _ (unhide J42 _ (unhide J43 _ (unhide J44 _ (unhide J45 _ (unhide J46 _ (unhide J47 _ (unhide J48 _ (unhide J49 _ (unhide J50 _ (unhide J51 _ (unhide J52 _ (unhide J53 _ (unhide J54 _ (unhide J55 _ (unhide J56 _ (unhide HP))))))))))))))))))))).facts
         obtain ⟨f25_0, f25_1, f25_2, f25_3⟩ := ((unhide Q25 _ (unhide J40 _ (unhide J41 _ (unhide J42 _ (unhide J43 _ (unhide J44 _ (unhide J45 _ (unhide J46 _ (unhide J47 _ (unhide J48 _ (unhide J49 _ (unhide J50 _ (unhide J51 _ (unhide J52 _ (unhide J53 _ (unhide J54 _ (unhide J55 _ (unhide J56 _ (unhide HP)))))))))))))))))))).facts
         obtain ⟨f26_0, f26_1, f26_2, f26_3⟩ := ((unhide Q26 _ (unhide J41 _ (unhide J42 _ (unhide J43 _ (unhide J44 _ (unhide J45 _ (unhide J46 _ (unhide J47 _ (unhide J48 _ (unhide J49 _ (unhide J50 _ (unhide J51 _ (unhide J52 _ (unhide J53 _ (unhide J54 _ (unhide J55 _ (unhide J56 _ (unhide HP))))))))))))))))))).facts
         obtain ⟨f30_0, f30_1, f30_2, f30_3⟩ := ((unhide Q30 _ (unhide J45 _ (unhide J46 _ (unhide J47 _ (unhide J48 _ (unhide J49 _ (unhide J50 _ (unhide J51 _ (unhide J52 _ (unhide J53 _ (unhide J54 _ (unhide J55 _ (unhide J56 _ (unhide HP))))))))))))))).facts
         obtain ⟨f32_0, f32_1, f32_2, f32_3⟩ := ((unhide Q32 _ (unhide J47 _ (unhide J48 _ (unhide J49 _ (unhide J50 _ (unhide J51 _ (unhide J52 _ (unhide J53 _ (unhide J54 _ (unhide J55 _ (unhide J56 _ (unhide HP))))))))))))).facts
         obtain ⟨f34_0, f34_1, f34_2, f34_3⟩ := ((unhide Q34 _ (unhide J50 _ (unhide J51 _ (unhide J52 _ (unhide J53 _ (unhide J54 _ (unhide J55 _ (unhide J56 _ (unhide HP)))))))))).facts
         obtain ⟨f35_0, f35_1, f35_2, f35_3⟩ := ((unhide Q35 _ (unhide J51 _ (unhide J52 _ (unhide J53 _ (unhide J54 _ (unhide J55 _ (unhide J56 _ (unhide HP))))))))).facts
         obtain ⟨f36_0, f36_1, f36_2, f36_3⟩ := ((unhide Q36 _ (unhide J54 _ (unhide J55 _ (unhide J56 _ (unhide HP)))))).facts
         obtain ⟨f37_0, f37_1, f37_2, f37_3⟩ := ((unhide Q37 _ (unhide J55 _ (unhide J56 _ (unhide HP))))).facts)
      | (go_at_call 21
         refine (same_one (helloT TH) op40 n40 s40 a40 len40 cap40 op41 n41 s41 a41 len41 cap41 _ ((unhide QL40 _ (unhide J56 _ (unhide HP))).any (Nat.zero_le _)) ((unhide QL41 _ (unhide HP)).any (Nat.zero_le _)) (Nat.le_trans (madeT_200 _ _) (by decide))).mono ?_
         rintro q y6 ⟨rfl, hb⟩
         replace HP := hide ((unhide UP) _ _ (unhide HP) hb)
         clear hb 
         clear f23_0 f23_1 f23_2 f23_3 f24_0 f24_1 f24_2 f24_3 f25_0 f25_1 f25_2 f25_3 f26_0 f26_1 f26_2 f26_3 f30_0 f30_1 f30_2 f30_3 f32_0 f32_1 f32_2 f32_3 f34_0 f34_1 f34_2 f34_3 f35_0 f35_1 f35_2 f35_3 f36_0 f36_1 f36_2 f36_3 f37_0 f37_1 f37_2 f37_3
         obtain ⟨f23_0, f23_1, f23_2, f23_3⟩ := ((unhide Q23 _ (unhide J38 _ (unhide J39 _ (unhide J40 _ (unhide J41 _ (unhide J42 _ (unhide J43 _ (unhide J44 _ (unhide J45 _ (unhide J46 _ (unhide J47 _ (unhide J48 _ (unhide J49 _ (unhide J50 _ (unhide J51 _ (unhide J52 _ (unhide J53 _ (unhide J54 _ (unhide J55 _ (unhide J56 _ (unhide HP)))))))))))))))))))))).facts
         obtain ⟨f24_0, f24_1, f24_2, f24_3⟩ := ((unhide Q24 _ (unhide J39 _ (unhide J40 _ (unhide J41 _ (unhide J42 _ (unhide J43 _ (unhide J44 _ (unhide J45 _ (unhide J46 _ (unhide J47 _ (unhide J48 _ (unhide J49 _ (unhide J50 _ (unhide J51 _ (unhide J52 _ (unhide J53 _ (unhide J54 _ (unhide J55 _ (unhide J56 _ (unhide HP))))))))))))))))))))).facts
         obtain ⟨f25_0, f25_1, f25_2, f25_3⟩ := ((unhide Q25 _ (unhide J40 _ (unhide J41 _ (unhide J42 _ (unhide J43 _ (unhide J44 _ (unhide J45 _ (unhide J46 _ (unhide J47 _ (unhide J48 _ (unhide J49 _ (unhide J50 _ (unhide J51 _ (unhide J52 _ (unhide J53 _ (unhide J54 _ (unhide J55 _ (unhide J56 _ (unhide HP)))))))))))))))))))).facts
         obtain ⟨f26_0, f26_1, f26_2, f26_3⟩ := ((unhide Q26 _ (unhide J41 _ (unhide J42 _ (unhide J43 _ (unhide J44 _ (unhide J45 _ (unhide J46 _ (unhide J47 _ (unhide J48 _ (unhide J49 _ (unhide J50 _ (unhide J51 _ (unhide J52 _ (unhide J53 _ (unhide J54 _ (unhide J55 _ (unhide J56 _ (unhide HP))))))))))))))))))).facts
         obtain ⟨f30_0, f30_1, f30_2, f30_3⟩ := ((unhide Q30 _ (unhide J45 _ (unhide J46 _ (unhide J47 _ (unhide J48 _ (unhide J49 _ (unhide J50 _ (unhide J51 _ (unhide J52 _ (unhide J53 _ (unhide J54 _ (unhide J55 _ (unhide J56 _ (unhide HP))))))))))))))).facts
         obtain ⟨f32_0, f32_1, f32_2, f32_3⟩ := ((unhide Q32 _ (unhide J47 _ (unhide J48 _ (unhide J49 _ (unhide J50 _ (unhide J51 _ (unhide J52 _ (unhide J53 _ (unhide J54 _ (unhide J55 _ (unhide J56 _ (unhide HP))))))))))))).facts
         obtain ⟨f34_0, f34_1, f34_2, f34_3⟩ := ((unhide Q34 _ (unhide J50 _ (unhide J51 _ (unhide J52 _ (unhide J53 _ (unhide J54 _ (unhide J55 _ (unhide J56 _ (unhide HP)))))))))).facts
         obtain ⟨f35_0, f35_1, f35_2, f35_3⟩ := ((unhide Q35 _ (unhide J51 _ (unhide J52 _ (unhide J53 _ (unhide J54 _ (unhide J55 _ (unhide J56 _ (unhide HP))))))))).facts
         obtain ⟨f36_0, f36_1, f36_2, f36_3⟩ := ((unhide Q36 _ (unhide J54 _ (unhide J55 _ (unhide J56 _ (unhide HP)))))).facts
         obtain ⟨f37_0, f37_1, f37_2, f37_3⟩ := ((unhide Q37 _ (unhide J55 _ (unhide J56 _ (unhide HP))))).facts)
      | (go_at_call 31
         refine (doneI1 TD op35 n35 s35 a35 len35 cap35 _ ((unhide QL35 _ (unhide J49 _ (unhide J50 _ (unhide J51 _ (unhide J52 _ (unhide J53 _ (unhide J54 _ (unhide J55 _ (unhide J56 _ (unhide HP)))))))))).any (Nat.zero_le _)) (by omega) ((unhide HT).on (unhide IW _ (unhide J1 _ (unhide J2 _ (unhide J3 _ (unhide J4 _ (unhide J5 _ (unhide J6 _ (unhide J7 _ (unhide J8 _ (unhide J9 _ (unhide J10 _ (unhide J11 _ (unhide J12 _ (unhide J13 _ (unhide J14 _ (unhide J15 _ (unhide J16 _ (unhide J17 _ (unhide J18 _ (unhide J19 _ (unhide J20 _ (unhide J21 _ (unhide J22 _ (unhide J23 _ (unhide J24 _ (unhide J25 _ (unhide J26 _ (unhide J27 _ (unhide J28 _ (unhide J29 _ (unhide J30 _ (unhide J31 _ (unhide J32 _ (unhide J33 _ (unhide J34 _ (unhide J35 _ (unhide J36 _ (unhide J37 _ (unhide J38 _ (unhide J39 _ (unhide J40 _ (unhide J41 _ (unhide J42 _ (unhide J43 _ (unhide J44 _ (unhide J45 _ (unhide J46 _ (unhide J47 _ (unhide J48 _ (unhide J49 _ (unhide J50 _ (unhide J51 _ (unhide J52 _ (unhide J53 _ (unhide J54 _ (unhide J55 _ (unhide J56 _ (unhide HP))))))))))))))))))))))))))))))))))))))))))))))))))))))))))) ⟨x, ((unhide HE).on (unhide IW _ (unhide J1 _ (unhide J2 _ (unhide J3 _ (unhide J4 _ (unhide J5 _ (unhide J6 _ (unhide J7 _ (unhide J8 _ (unhide J9 _ (unhide J10 _ (unhide J11 _ (unhide J12 _ (unhide J13 _ (unhide J14 _ (unhide J15 _ (unhide J16 _ (unhide J17 _ (unhide J18 _ (unhide J19 _ (unhide J20 _ (unhide J21 _ (unhide J22 _ (unhide J23 _ (unhide J24 _ (unhide J25 _ (unhide J26 _ (unhide J27 _ (unhide J28 _ (unhide J29 _ (unhide J30 _ (unhide J31 _ (unhide J32 _ (unhide J33 _ (unhide J34 _ (unhide J35 _ (unhide J36 _ (unhide J37 _ (unhide J38 _ (unhide J39 _ (unhide J40 _ (unhide J41 _ (unhide J42 _ (unhide J43 _ (unhide J44 _ (unhide J45 _ (unhide J46 _ (unhide J47 _ (unhide J48 _ (unhide J49 _ (unhide J50 _ (unhide J51 _ (unhide J52 _ (unhide J53 _ (unhide J54 _ (unhide J55 _ (unhide J56 _ (unhide HP)))))))))))))))))))))))))))))))))))))))))))))))))))))))))))⟩).mono ?_
         rintro q y7 ⟨op42, n42, s42, a42, len42, cap42, rfl, hl42, hb⟩
         replace HP := hide ((unhide UP) _ _ (unhide HP) hb)
         obtain ⟨P57, hC57, hP57, hJ57, hQ57⟩ := Up.grow (unhide UP) (unhide HP) Up.lies (hl42)
         have J57 := hide hJ57
         have QL42 := hide hQ57
         replace UP := hide hC57
         replace HP := hide hP57
         clear hC57 hP57 hJ57 hQ57
         clear hb hl42
         clear f23_0 f23_1 f23_2 f23_3 f24_0 f24_1 f24_2 f24_3 f25_0 f25_1 f25_2 f25_3 f26_0 f26_1 f26_2 f26_3 f30_0 f30_1 f30_2 f30_3 f32_0 f32_1 f32_2 f32_3 f34_0 f34_1 f34_2 f34_3 f35_0 f35_1 f35_2 f35_3 f36_0 f36_1 f36_2 f36_3 f37_0 f37_1 f37_2 f37_3
         obtain ⟨f23_0, f23_1, f23_2, f23_3⟩ := ((unhide Q23 _ (unhide J38 _ (unhide J39 _ (unhide J40 _ (unhide J41 _ (unhide J42 _ (unhide J43 _ (unhide J44 _ (unhide J45 _ (unhide J46 _ (unhide J47 _ (unhide J48 _ (unhide J49 _ (unhide J50 _ (unhide J51 _ (unhide J52 _ (unhide J53 _ (unhide J54 _ (unhide J55 _ (unhide J56 _ (unhide J57 _ (unhide HP))))))))))))))))))))))).facts
         obtain ⟨f24_0, f24_1, f24_2, f24_3⟩ := ((unhide Q24 _ (unhide J39 _ (unhide J40 _ (unhide J41 _ (unhide J42 _ (unhide J43 _ (unhide J44 _ (unhide J45 _ (unhide J46 _ (unhide J47 _ (unhide J48 _ (unhide J49 _ (unhide J50 _ (unhide J51 _ (unhide J52 _ (unhide J53 _ (unhide J54 _ (unhide J55 _ (unhide J56 _ (unhide J57 _ (unhide HP)))))))))))))))))))))).facts
         obtain ⟨f25_0, f25_1, f25_2, f25_3⟩ := ((unhide Q25 _ (unhide J40 _ (unhide J41 _ (unhide J42 _ (unhide J43 _ (unhide J44 _ (unhide J45 _ (unhide J46 _ (unhide J47 _ (unhide J48 _ (unhide J49 _ (unhide J50 _ (unhide J51 _ (unhide J52 _ (unhide J53 _ (unhide J54 _ (unhide J55 _ (unhide J56 _ (unhide J57 _ (unhide HP))))))))))))))))))))).facts
         obtain ⟨f26_0, f26_1, f26_2, f26_3⟩ := ((unhide Q26 _ (unhide J41 _ (unhide J42 _ (unhide J43 _ (unhide J44 _ (unhide J45 _ (unhide J46 _ (unhide J47 _ (unhide J48 _ (unhide J49 _ (unhide J50 _ (unhide J51 _ (unhide J52 _ (unhide J53 _ (unhide J54 _ (unhide J55 _ (unhide J56 _ (unhide J57 _ (unhide HP)))))))))))))))))))).facts
         obtain ⟨f30_0, f30_1, f30_2, f30_3⟩ := ((unhide Q30 _ (unhide J45 _ (unhide J46 _ (unhide J47 _ (unhide J48 _ (unhide J49 _ (unhide J50 _ (unhide J51 _ (unhide J52 _ (unhide J53 _ (unhide J54 _ (unhide J55 _ (unhide J56 _ (unhide J57 _ (unhide HP)))))))))))))))).facts
         obtain ⟨f32_0, f32_1, f32_2, f32_3⟩ := ((unhide Q32 _ (unhide J47 _ (unhide J48 _ (unhide J49 _ (unhide J50 _ (unhide J51 _ (unhide J52 _ (unhide J53 _ (unhide J54 _ (unhide J55 _ (unhide J56 _ (unhide J57 _ (unhide HP)))))))))))))).facts
         obtain ⟨f34_0, f34_1, f34_2, f34_3⟩ := ((unhide Q34 _ (unhide J50 _ (unhide J51 _ (unhide J52 _ (unhide J53 _ (unhide J54 _ (unhide J55 _ (unhide J56 _ (unhide J57 _ (unhide HP))))))))))).facts
         obtain ⟨f35_0, f35_1, f35_2, f35_3⟩ := ((unhide Q35 _ (unhide J51 _ (unhide J52 _ (unhide J53 _ (unhide J54 _ (unhide J55 _ (unhide J56 _ (unhide J57 _ (unhide HP)))))))))).facts
         obtain ⟨f36_0, f36_1, f36_2, f36_3⟩ := ((unhide Q36 _ (unhide J54 _ (unhide J55 _ (unhide J56 _ (unhide J57 _ (unhide HP))))))).facts
         obtain ⟨f37_0, f37_1, f37_2, f37_3⟩ := ((unhide Q37 _ (unhide J55 _ (unhide J56 _ (unhide J57 _ (unhide HP)))))).facts)
      | (go_at_call 32
         refine (doneS1 TD op35 n35 s35 a35 len35 cap35 _ ((unhide QL35 _ (unhide J49 _ (unhide J50 _ (unhide J51 _ (unhide J52 _ (unhide J53 _ (unhide J54 _ (unhide J55 _ (unhide J56 _ (unhide J57 _ (unhide HP))))))))))).any (Nat.zero_le _)) (by omega)).mono ?_
         rintro q y8 ⟨op43, n43, s43, a43, len43, cap43, rfl, hl43, hb⟩
         replace HP := hide ((unhide UP) _ _ (unhide HP) hb)
         obtain ⟨P58, hC58, hP58, hJ58, hQ58⟩ := Up.grow (unhide UP) (unhide HP) Up.lies (hl43)
         have J58 := hide hJ58
         have QL43 := hide hQ58
         replace UP := hide hC58
         replace HP := hide hP58
         clear hC58 hP58 hJ58 hQ58
         clear hb hl43
         clear f23_0 f23_1 f23_2 f23_3 f24_0 f24_1 f24_2 f24_3 f25_0 f25_1 f25_2 f25_3 f26_0 f26_1 f26_2 f26_3 f30_0 f30_1 f30_2 f30_3 f32_0 f32_1 f32_2 f32_3 f34_0 f34_1 f34_2 f34_3 f35_0 f35_1 f35_2 f35_3 f36_0 f36_1 f36_2 f36_3 f37_0 f37_1 f37_2 f37_3
         obtain ⟨f23_0, f23_1, f23_2, f23_3⟩ := ((unhide Q23 _ (unhide J38 _ (unhide J39 _ (unhide J40 _ (unhide J41 _ (unhide J42 _ (unhide J43 _ (unhide J44 _ (unhide J45 _ (unhide J46 _ (unhide J47 _ (unhide J48 _ (unhide J49 _ (unhide J50 _ (unhide J51 _ (unhide J52 _ (unhide J53 _ (unhide J54 _ (unhide J55 _ (unhide J56 _ (unhide J57 _ (unhide J58 _ (unhide HP)))))))))))))))))))))))).facts
         obtain ⟨f24_0, f24_1, f24_2, f24_3⟩ := ((unhide Q24 _ (unhide J39 _ (unhide J40 _ (unhide J41 _ (unhide J42 _ (unhide J43 _ (unhide J44 _ (unhide J45 _ (unhide J46 _ (unhide J47 _ (unhide J48 _ (unhide J49 _ (unhide J50 _ (unhide J51 _ (unhide J52 _ (unhide J53 _ (unhide J54 _ (unhide J55 _ (unhide J56 _ (unhide J57 _ (unhide J58 _ (unhide HP))))))))))))))))))))))).facts
         obtain ⟨f25_0, f25_1, f25_2, f25_3⟩ := ((unhide Q25 _ (unhide J40 _ (unhide J41 _ (unhide J42 _ (unhide J43 _ (unhide J44 _ (unhide J45 _ (unhide J46 _ (unhide J47 _ (unhide J48 _ (unhide J49 _ (unhide J50 _ (unhide J51 _ (unhide J52 _ (unhide J53 _ (unhide J54 _ (unhide J55 _ (unhide J56 _ (unhide J57 _ (unhide J58 _ (unhide HP)))))))))))))))))))))).facts
         obtain ⟨f26_0, f26_1, f26_2, f26_3⟩ := ((unhide Q26 _ (unhide J41 _ (unhide J42 _ (unhide J43 _ (unhide J44 _ (unhide J45 _ (unhide J46 _ (unhide J47 _ (unhide J48 _ (unhide J49 _ (unhide J50 _ (unhide J51 _ (unhide J52 _ (unhide J53 _ (unhide J54 _ (unhide J55 _ (unhide J56 _ (unhide J57 _ (unhide J58 _ (unhide HP))))))))))))))))))))).facts
         obtain ⟨f30_0, f30_1, f30_2, f30_3⟩ := ((unhide Q30 _ (unhide J45 _ (unhide J46 _ (unhide J47 _ (unhide J48 _ (unhide J49 _ (unhide J50 _ (unhide J51 _ (unhide J52 _ (unhide J53 _ (unhide J54 _ (unhide J55 _ (unhide J56 _ (unhide J57 _ (unhide J58 _ (unhide HP))))))))))))))))).facts
         obtain ⟨f32_0, f32_1, f32_2, f32_3⟩ := ((unhide Q32 _ (unhide J47 _ (unhide J48 _ (unhide J49 _ (unhide J50 _ (unhide J51 _ (unhide J52 _ (unhide J53 _ (unhide J54 _ (unhide J55 _ (unhide J56 _ (unhide J57 _ (unhide J58 _ (unhide HP))))))))))))))).facts
         obtain ⟨f34_0, f34_1, f34_2, f34_3⟩ := ((unhide Q34 _ (unhide J50 _ (unhide J51 _ (unhide J52 _ (unhide J53 _ (unhide J54 _ (unhide J55 _ (unhide J56 _ (unhide J57 _ (unhide J58 _ (unhide HP)))))))))))).facts
         obtain ⟨f35_0, f35_1, f35_2, f35_3⟩ := ((unhide Q35 _ (unhide J51 _ (unhide J52 _ (unhide J53 _ (unhide J54 _ (unhide J55 _ (unhide J56 _ (unhide J57 _ (unhide J58 _ (unhide HP))))))))))).facts
         obtain ⟨f36_0, f36_1, f36_2, f36_3⟩ := ((unhide Q36 _ (unhide J54 _ (unhide J55 _ (unhide J56 _ (unhide J57 _ (unhide J58 _ (unhide HP)))))))).facts
         obtain ⟨f37_0, f37_1, f37_2, f37_3⟩ := ((unhide Q37 _ (unhide J55 _ (unhide J56 _ (unhide J57 _ (unhide J58 _ (unhide HP))))))).facts)
      | (go_at_call 21
         refine (same_one (doneT TD) op42 n42 s42 a42 len42 cap42 op43 n43 s43 a43 len43 cap43 _ ((unhide QL42 _ (unhide J58 _ (unhide HP))).any (Nat.zero_le _)) ((unhide QL43 _ (unhide HP)).any (Nat.zero_le _)) (Nat.le_trans (seal_200 _ _ _) (by decide))).mono ?_
         rintro q y9 ⟨rfl, hb⟩
         replace HP := hide ((unhide UP) _ _ (unhide HP) hb)
         clear hb 
         clear f23_0 f23_1 f23_2 f23_3 f24_0 f24_1 f24_2 f24_3 f25_0 f25_1 f25_2 f25_3 f26_0 f26_1 f26_2 f26_3 f30_0 f30_1 f30_2 f30_3 f32_0 f32_1 f32_2 f32_3 f34_0 f34_1 f34_2 f34_3 f35_0 f35_1 f35_2 f35_3 f36_0 f36_1 f36_2 f36_3 f37_0 f37_1 f37_2 f37_3
         obtain ⟨f23_0, f23_1, f23_2, f23_3⟩ := ((unhide Q23 _ (unhide J38 _ (unhide J39 _ (unhide J40 _ (unhide J41 _ (unhide J42 _ (unhide J43 _ (unhide J44 _ (unhide J45 _ (unhide J46 _ (unhide J47 _ (unhide J48 _ (unhide J49 _ (unhide J50 _ (unhide J51 _ (unhide J52 _ (unhide J53 _ (unhide J54 _ (unhide J55 _ (unhide J56 _ (unhide J57 _ (unhide J58 _ (unhide HP)))))))))))))))))))))))).facts
         obtain ⟨f24_0, f24_1, f24_2, f24_3⟩ := ((unhide Q24 _ (unhide J39 _ (unhide J40 _ (unhide J41 _ (unhide J42 _ (unhide J43 _ (unhide J44 _ (unhide J45 _ (unhide J46 _ (unhide J47 _ (unhide J48 _ (unhide J49 _ (unhide J50 _ (unhide J51 _ (unhide J52 _ (unhide J53 _ (unhide J54 _ (unhide J55 _ (unhide J56 _ (unhide J57 _ (unhide J58 _ (unhide HP))))))))))))))))))))))).facts
         obtain ⟨f25_0, f25_1, f25_2, f25_3⟩ := ((unhide Q25 _ (unhide J40 _ (unhide J41 _ (unhide J42 _ (unhide J43 _ (unhide J44 _ (unhide J45 _ (unhide J46 _ (unhide J47 _ (unhide J48 _ (unhide J49 _ (unhide J50 _ (unhide J51 _ (unhide J52 _ (unhide J53 _ (unhide J54 _ (unhide J55 _ (unhide J56 _ (unhide J57 _ (unhide J58 _ (unhide HP)))))))))))))))))))))).facts
         obtain ⟨f26_0, f26_1, f26_2, f26_3⟩ := ((unhide Q26 _ (unhide J41 _ (unhide J42 _ (unhide J43 _ (unhide J44 _ (unhide J45 _ (unhide J46 _ (unhide J47 _ (unhide J48 _ (unhide J49 _ (unhide J50 _ (unhide J51 _ (unhide J52 _ (unhide J53 _ (unhide J54 _ (unhide J55 _ (unhide J56 _ (unhide J57 _ (unhide J58 _ (unhide HP))))))))))))))))))))).facts
         obtain ⟨f30_0, f30_1, f30_2, f30_3⟩ := ((unhide Q30 _ (unhide J45 _ (unhide J46 _ (unhide J47 _ (unhide J48 _ (unhide J49 _ (unhide J50 _ (unhide J51 _ (unhide J52 _ (unhide J53 _ (unhide J54 _ (unhide J55 _ (unhide J56 _ (unhide J57 _ (unhide J58 _ (unhide HP))))))))))))))))).facts
         obtain ⟨f32_0, f32_1, f32_2, f32_3⟩ := ((unhide Q32 _ (unhide J47 _ (unhide J48 _ (unhide J49 _ (unhide J50 _ (unhide J51 _ (unhide J52 _ (unhide J53 _ (unhide J54 _ (unhide J55 _ (unhide J56 _ (unhide J57 _ (unhide J58 _ (unhide HP))))))))))))))).facts
         obtain ⟨f34_0, f34_1, f34_2, f34_3⟩ := ((unhide Q34 _ (unhide J50 _ (unhide J51 _ (unhide J52 _ (unhide J53 _ (unhide J54 _ (unhide J55 _ (unhide J56 _ (unhide J57 _ (unhide J58 _ (unhide HP)))))))))))).facts
         obtain ⟨f35_0, f35_1, f35_2, f35_3⟩ := ((unhide Q35 _ (unhide J51 _ (unhide J52 _ (unhide J53 _ (unhide J54 _ (unhide J55 _ (unhide J56 _ (unhide J57 _ (unhide J58 _ (unhide HP))))))))))).facts
         obtain ⟨f36_0, f36_1, f36_2, f36_3⟩ := ((unhide Q36 _ (unhide J54 _ (unhide J55 _ (unhide J56 _ (unhide J57 _ (unhide J58 _ (unhide HP)))))))).facts
         obtain ⟨f37_0, f37_1, f37_2, f37_3⟩ := ((unhide Q37 _ (unhide J55 _ (unhide J56 _ (unhide J57 _ (unhide J58 _ (unhide HP))))))).facts)
      | (go_at_call 33
         refine (bothI1 TY TZ op36 n36 s36 a36 len36 cap36 op37 n37 s37 a37 len37 cap37 _ ((unhide QL36 _ (unhide J52 _ (unhide J53 _ (unhide J54 _ (unhide J55 _ (unhide J56 _ (unhide J57 _ (unhide J58 _ (unhide HP))))))))).any (Nat.zero_le _)) ((unhide QL37 _ (unhide J53 _ (unhide J54 _ (unhide J55 _ (unhide J56 _ (unhide J57 _ (unhide J58 _ (unhide HP)))))))).any (Nat.zero_le _)) (by omega) ⟨x, ((unhide HE).on (unhide IW _ (unhide J1 _ (unhide J2 _ (unhide J3 _ (unhide J4 _ (unhide J5 _ (unhide J6 _ (unhide J7 _ (unhide J8 _ (unhide J9 _ (unhide J10 _ (unhide J11 _ (unhide J12 _ (unhide J13 _ (unhide J14 _ (unhide J15 _ (unhide J16 _ (unhide J17 _ (unhide J18 _ (unhide J19 _ (unhide J20 _ (unhide J21 _ (unhide J22 _ (unhide J23 _ (unhide J24 _ (unhide J25 _ (unhide J26 _ (unhide J27 _ (unhide J28 _ (unhide J29 _ (unhide J30 _ (unhide J31 _ (unhide J32 _ (unhide J33 _ (unhide J34 _ (unhide J35 _ (unhide J36 _ (unhide J37 _ (unhide J38 _ (unhide J39 _ (unhide J40 _ (unhide J41 _ (unhide J42 _ (unhide J43 _ (unhide J44 _ (unhide J45 _ (unhide J46 _ (unhide J47 _ (unhide J48 _ (unhide J49 _ (unhide J50 _ (unhide J51 _ (unhide J52 _ (unhide J53 _ (unhide J54 _ (unhide J55 _ (unhide J56 _ (unhide J57 _ (unhide J58 _ (unhide HP)))))))))))))))))))))))))))))))))))))))))))))))))))))))))))))⟩).mono ?_
         rintro q y10 ⟨op44, n44, s44, a44, len44, cap44, rfl, hl44, hb⟩
         replace HP := hide ((unhide UP) _ _ (unhide HP) hb)
         obtain ⟨P59, hC59, hP59, hJ59, hQ59⟩ := Up.grow (unhide UP) (unhide HP) Up.lies (hl44)
         have J59 := hide hJ59
         have QL44 := hide hQ59
         replace UP := hide hC59
         replace HP := hide hP59
         clear hC59 hP59 hJ59 hQ59
         clear hb hl44
         clear f23_0 f23_1 f23_2 f23_3 f24_0 f24_1 f24_2 f24_3 f25_0 f25_1 f25_2 f25_3 f26_0 f26_1 f26_2 f26_3 f30_0 f30_1 f30_2 f30_3 f32_0 f32_1 f32_2 f32_3 f34_0 f34_1 f34_2 f34_3 f35_0 f35_1 f35_2 f35_3 f36_0 f36_1 f36_2 f36_3 f37_0 f37_1 f37_2 f37_3
         obtain ⟨f23_0, f23_1, f23_2, f23_3⟩ := ((unhide Q23 _ (unhide J38 _ (unhide J39 _ (unhide J40 _ (unhide J41 _ (unhide J42 _ (unhide J43 _ (unhide J44 _ (unhide J45 _ (unhide J46 _ (unhide J47 _ (unhide J48 _ (unhide J49 _ (unhide J50 _ (unhide J51 _ (unhide J52 _ (unhide J53 _ (unhide J54 _ (unhide J55 _ (unhide J56 _ (unhide J57 _ (unhide J58 _ (unhide J59 _ (unhide HP))))))))))))))))))))))))).facts
         obtain ⟨f24_0, f24_1, f24_2, f24_3⟩ := ((unhide Q24 _ (unhide J39 _ (unhide J40 _ (unhide J41 _ (unhide J42 _ (unhide J43 _ (unhide J44 _ (unhide J45 _ (unhide J46 _ (unhide J47 _ (unhide J48 _ (unhide J49 _ (unhide J50 _ (unhide J51 _ (unhide J52 _ (unhide J53 _ (unhide J54 _ (unhide J55 _ (unhide J56 _ (unhide J57 _ (unhide J58 _ (unhide J59 _ (unhide HP)))))))))))))))))))))))).facts
         obtain ⟨f25_0, f25_1, f25_2, f25_3⟩ := ((unhide Q25 _ (unhide J40 _ (unhide J41 _ (unhide J42 _ (unhide J43 _ (unhide J44 _ (unhide J45 _ (unhide J46 _ (unhide J47 _ (unhide J48 _ (unhide J49 _ (unhide J50 _ (unhide J51 _ (unhide J52 _ (unhide J53 _ (unhide J54 _ (unhide J55 _ (unhide J56 _ (unhide J57 _ (unhide J58 _ (unhide J59 _ (unhide HP))))))))))))))))))))))).facts
         obtain ⟨f26_0, f26_1, f26_2, f26_3⟩ := ((unhide Q26 _ (unhide J41 _ (unhide J42 _ (unhide J43 _ (unhide J44 _ (unhide J45 _ (unhide J46 _ (unhide J47 _ (unhide J48 _ (unhide J49 _ (unhide J50 _ (unhide J51 _ (unhide J52 _ (unhide J53 _ (unhide J54 _ (unhide J55 _ (unhide J56 _ (unhide J57 _ (unhide J58 _ (unhide J59 _ (unhide HP)))))))))))))))))))))).facts
         obtain ⟨f30_0, f30_1, f30_2, f30_3⟩ := ((unhide Q30 _ (unhide J45 _ (unhide J46 _ (unhide J47 _ (unhide J48 _ (unhide J49 _ (unhide J50 _ (unhide J51 _ (unhide J52 _ (unhide J53 _ (unhide J54 _ (unhide J55 _ (unhide J56 _ (unhide J57 _ (unhide J58 _ (unhide J59 _ (unhide HP)))))))))))))))))).facts
         obtain ⟨f32_0, f32_1, f32_2, f32_3⟩ := ((unhide Q32 _ (unhide J47 _ (unhide J48 _ (unhide J49 _ (unhide J50 _ (unhide J51 _ (unhide J52 _ (unhide J53 _ (unhide J54 _ (unhide J55 _ (unhide J56 _ (unhide J57 _ (unhide J58 _ (unhide J59 _ (unhide HP)))))))))))))))).facts
         obtain ⟨f34_0, f34_1, f34_2, f34_3⟩ := ((unhide Q34 _ (unhide J50 _ (unhide J51 _ (unhide J52 _ (unhide J53 _ (unhide J54 _ (unhide J55 _ (unhide J56 _ (unhide J57 _ (unhide J58 _ (unhide J59 _ (unhide HP))))))))))))).facts
         obtain ⟨f35_0, f35_1, f35_2, f35_3⟩ := ((unhide Q35 _ (unhide J51 _ (unhide J52 _ (unhide J53 _ (unhide J54 _ (unhide J55 _ (unhide J56 _ (unhide J57 _ (unhide J58 _ (unhide J59 _ (unhide HP)))))))))))).facts
         obtain ⟨f36_0, f36_1, f36_2, f36_3⟩ := ((unhide Q36 _ (unhide J54 _ (unhide J55 _ (unhide J56 _ (unhide J57 _ (unhide J58 _ (unhide J59 _ (unhide HP))))))))).facts
         obtain ⟨f37_0, f37_1, f37_2, f37_3⟩ := ((unhide Q37 _ (unhide J55 _ (unhide J56 _ (unhide J57 _ (unhide J58 _ (unhide J59 _ (unhide HP)))))))).facts)
      | (go_at_call 34
         refine (bothS1 TY TZ op36 n36 s36 a36 len36 cap36 op37 n37 s37 a37 len37 cap37 _ ((unhide QL36 _ (unhide J52 _ (unhide J53 _ (unhide J54 _ (unhide J55 _ (unhide J56 _ (unhide J57 _ (unhide J58 _ (unhide J59 _ (unhide HP)))))))))).any (Nat.zero_le _)) ((unhide QL37 _ (unhide J53 _ (unhide J54 _ (unhide J55 _ (unhide J56 _ (unhide J57 _ (unhide J58 _ (unhide J59 _ (unhide HP))))))))).any (Nat.zero_le _)) (by omega)).mono ?_
         rintro q y11 ⟨op45, n45, s45, a45, len45, cap45, rfl, hl45, hb⟩
         replace HP := hide ((unhide UP) _ _ (unhide HP) hb)
         obtain ⟨P60, hC60, hP60, hJ60, hQ60⟩ := Up.grow (unhide UP) (unhide HP) Up.lies (hl45)
         have J60 := hide hJ60
         have QL45 := hide hQ60
         replace UP := hide hC60
         replace HP := hide hP60
         clear hC60 hP60 hJ60 hQ60
         clear hb hl45
         clear f23_0 f23_1 f23_2 f23_3 f24_0 f24_1 f24_2 f24_3 f25_0 f25_1 f25_2 f25_3 f26_0 f26_1 f26_2 f26_3 f30_0 f30_1 f30_2 f30_3 f32_0 f32_1 f32_2 f32_3 f34_0 f34_1 f34_2 f34_3 f35_0 f35_1 f35_2 f35_3 f36_0 f36_1 f36_2 f36_3 f37_0 f37_1 f37_2 f37_3
         obtain ⟨f23_0, f23_1, f23_2, f23_3⟩ := ((unhide Q23 _ (unhide J38 _ (unhide J39 _ (unhide J40 _ (unhide J41 _ (unhide J42 _ (unhide J43 _ (unhide J44 _ (unhide J45 _ (unhide J46 _ (unhide J47 _ (unhide J48 _ (unhide J49 _ (unhide J50 _ (unhide J51 _ (unhide J52 _ (unhide J53 _ (unhide J54 _ (unhide J55 _ (unhide J56 _ (unhide J57 _ (unhide J58 _ (unhide J59 _ (unhide J60 _ (unhide HP)))))))))))))))))))))))))).facts
         obtain ⟨f24_0, f24_1, f24_2, f24_3⟩ := ((unhide Q24 _ (unhide J39 _ (unhide J40 _ (unhide J41 _ (unhide J42 _ (unhide J43 _ (unhide J44 _ (unhide J45 _ (unhide J46 _ (unhide J47 _ (unhide J48 _ (unhide J49 _ (unhide J50 _ (unhide J51 _ (unhide J52 _ (unhide J53 _ (unhide J54 _ (unhide J55 _ (unhide J56 _ (unhide J57 _ (unhide J58 _ (unhide J59 _ (unhide J60 _ (unhide HP))))))))))))))))))))))))).facts
         obtain ⟨f25_0, f25_1, f25_2, f25_3⟩ := ((unhide Q25 _ (unhide J40 _ (unhide J41 _ (unhide J42 _ (unhide J43 _ (unhide J44 _ (unhide J45 _ (unhide J46 _ (unhide J47 _ (unhide J48 _ (unhide J49 _ (unhide J50 _ (unhide J51 _ (unhide J52 _ (unhide J53 _ (unhide J54 _ (unhide J55 _ (unhide J56 _ (unhide J57 _ (unhide J58 _ (unhide J59 _ (unhide J60 _ (unhide HP)))))))))))))))))))))))).facts
         obtain ⟨f26_0, f26_1, f26_2, f26_3⟩ := ((unhide Q26 _ (unhide J41 _ (unhide J42 _ (unhide J43 _ (unhide J44 _ (unhide J45 _ (unhide J46 _ (unhide J47 _ (unhide J48 _ (unhide J49 _ (unhide J50 _ (unhide J51 _ (unhide J52 _ (unhide J53 _ (unhide J54 _ (unhide J55 _ (unhide J56 _ (unhide J57 _ (unhide J58 _ (unhide J59 _ (unhide J60 _ (unhide HP))))))))))))))))))))))).facts
         obtain ⟨f30_0, f30_1, f30_2, f30_3⟩ := ((unhide Q30 _ (unhide J45 _ (unhide J46 _ (unhide J47 _ (unhide J48 _ (unhide J49 _ (unhide J50 _ (unhide J51 _ (unhide J52 _ (unhide J53 _ (unhide J54 _ (unhide J55 _ (unhide J56 _ (unhide J57 _ (unhide J58 _ (unhide J59 _ (unhide J60 _ (unhide HP))))))))))))))))))).facts
         obtain ⟨f32_0, f32_1, f32_2, f32_3⟩ := ((unhide Q32 _ (unhide J47 _ (unhide J48 _ (unhide J49 _ (unhide J50 _ (unhide J51 _ (unhide J52 _ (unhide J53 _ (unhide J54 _ (unhide J55 _ (unhide J56 _ (unhide J57 _ (unhide J58 _ (unhide J59 _ (unhide J60 _ (unhide HP))))))))))))))))).facts
         obtain ⟨f34_0, f34_1, f34_2, f34_3⟩ := ((unhide Q34 _ (unhide J50 _ (unhide J51 _ (unhide J52 _ (unhide J53 _ (unhide J54 _ (unhide J55 _ (unhide J56 _ (unhide J57 _ (unhide J58 _ (unhide J59 _ (unhide J60 _ (unhide HP)))))))))))))).facts
         obtain ⟨f35_0, f35_1, f35_2, f35_3⟩ := ((unhide Q35 _ (unhide J51 _ (unhide J52 _ (unhide J53 _ (unhide J54 _ (unhide J55 _ (unhide J56 _ (unhide J57 _ (unhide J58 _ (unhide J59 _ (unhide J60 _ (unhide HP))))))))))))).facts
         obtain ⟨f36_0, f36_1, f36_2, f36_3⟩ := ((unhide Q36 _ (unhide J54 _ (unhide J55 _ (unhide J56 _ (unhide J57 _ (unhide J58 _ (unhide J59 _ (unhide J60 _ (unhide HP)))))))))).facts
         obtain ⟨f37_0, f37_1, f37_2, f37_3⟩ := ((unhide Q37 _ (unhide J55 _ (unhide J56 _ (unhide J57 _ (unhide J58 _ (unhide J59 _ (unhide J60 _ (unhide HP))))))))).facts)
      | (go_at_call 21
         refine (same_one (bothT TY TZ) op44 n44 s44 a44 len44 cap44 op45 n45 s45 a45 len45 cap45 _ ((unhide QL44 _ (unhide J60 _ (unhide HP))).any (Nat.zero_le _)) ((unhide QL45 _ (unhide HP)).any (Nat.zero_le _)) (Nat.le_trans (madeT_200 _ _) (by decide))).mono ?_
         rintro q y12 ⟨rfl, hb⟩
         replace HP := hide ((unhide UP) _ _ (unhide HP) hb)
         clear hb 
         clear f23_0 f23_1 f23_2 f23_3 f24_0 f24_1 f24_2 f24_3 f25_0 f25_1 f25_2 f25_3 f26_0 f26_1 f26_2 f26_3 f30_0 f30_1 f30_2 f30_3 f32_0 f32_1 f32_2 f32_3 f34_0 f34_1 f34_2 f34_3 f35_0 f35_1 f35_2 f35_3 f36_0 f36_1 f36_2 f36_3 f37_0 f37_1 f37_2 f37_3
         obtain ⟨f23_0, f23_1, f23_2, f23_3⟩ := ((unhide Q23 _ (unhide J38 _ (unhide J39 _ (unhide J40 _ (unhide J41 _ (unhide J42 _ (unhide J43 _ (unhide J44 _ (unhide J45 _ (unhide J46 _ (unhide J47 _ (unhide J48 _ (unhide J49 _ (unhide J50 _ (unhide J51 _ (unhide J52 _ (unhide J53 _ (unhide J54 _ (unhide J55 _ (unhide J56 _ (unhide J57 _ (unhide J58 _ (unhide J59 _ (unhide J60 _ (unhide HP)))))))))))))))))))))))))).facts
         obtain ⟨f24_0, f24_1, f24_2, f24_3⟩ := ((unhide Q24 _ (unhide J39 _ (unhide J40 _ (unhide J41 _ (unhide J42 _ (unhide J43 _ (unhide J44 _ (unhide J45 _ (unhide J46 _ (unhide J47 _ (unhide J48 _ (unhide J49 _ (unhide J50 _ (unhide J51 _ (unhide J52 _ (unhide J53 _ (unhide J54 _ (unhide J55 _ (unhide J56 _ (unhide J57 _ (unhide J58 _ (unhide J59 _ (unhide J60 _ (unhide HP))))))))))))))))))))))))).facts
         obtain ⟨f25_0, f25_1, f25_2, f25_3⟩ := ((unhide Q25 _ (unhide J40 _ (unhide J41 _ (unhide J42 _ (unhide J43 _ (unhide J44 _ (unhide J45 _ (unhide J46 _ (unhide J47 _ (unhide J48 _ (unhide J49 _ (unhide J50 _ (unhide J51 _ (unhide J52 _ (unhide J53 _ (unhide J54 _ (unhide J55 _ (unhide J56 _ (unhide J57 _ (unhide J58 _ (unhide J59 _ (unhide J60 _ (unhide HP)))))))))))))))))))))))).facts
         obtain ⟨f26_0, f26_1, f26_2, f26_3⟩ := ((unhide Q26 _ (unhide J41 _ (unhide J42 _ (unhide J43 _ (unhide J44 _ (unhide J45 _ (unhide J46 _ (unhide J47 _ (unhide J48 _ (unhide J49 _ (unhide J50 _ (unhide J51 _ (unhide J52 _ (unhide J53 _ (unhide J54 _ (unhide J55 _ (unhide J56 _ (unhide J57 _ (unhide J58 _ (unhide J59 _ (unhide J60 _ (unhide HP))))))))))))))))))))))).facts
         obtain ⟨f30_0, f30_1, f30_2, f30_3⟩ := ((unhide Q30 _ (unhide J45 _ (unhide J46 _ (unhide J47 _ (unhide J48 _ (unhide J49 _ (unhide J50 _ (unhide J51 _ (unhide J52 _ (unhide J53 _ (unhide J54 _ (unhide J55 _ (unhide J56 _ (unhide J57 _ (unhide J58 _ (unhide J59 _ (unhide J60 _ (unhide HP))))))))))))))))))).facts
         obtain ⟨f32_0, f32_1, f32_2, f32_3⟩ := ((unhide Q32 _ (unhide J47 _ (unhide J48 _ (unhide J49 _ (unhide J50 _ (unhide J51 _ (unhide J52 _ (unhide J53 _ (unhide J54 _ (unhide J55 _ (unhide J56 _ (unhide J57 _ (unhide J58 _ (unhide J59 _ (unhide J60 _ (unhide HP))))))))))))))))).facts
         obtain ⟨f34_0, f34_1, f34_2, f34_3⟩ := ((unhide Q34 _ (unhide J50 _ (unhide J51 _ (unhide J52 _ (unhide J53 _ (unhide J54 _ (unhide J55 _ (unhide J56 _ (unhide J57 _ (unhide J58 _ (unhide J59 _ (unhide J60 _ (unhide HP)))))))))))))).facts
         obtain ⟨f35_0, f35_1, f35_2, f35_3⟩ := ((unhide Q35 _ (unhide J51 _ (unhide J52 _ (unhide J53 _ (unhide J54 _ (unhide J55 _ (unhide J56 _ (unhide J57 _ (unhide J58 _ (unhide J59 _ (unhide J60 _ (unhide HP))))))))))))).facts
         obtain ⟨f36_0, f36_1, f36_2, f36_3⟩ := ((unhide Q36 _ (unhide J54 _ (unhide J55 _ (unhide J56 _ (unhide J57 _ (unhide J58 _ (unhide J59 _ (unhide J60 _ (unhide HP)))))))))).facts
         obtain ⟨f37_0, f37_1, f37_2, f37_3⟩ := ((unhide Q37 _ (unhide J55 _ (unhide J56 _ (unhide J57 _ (unhide J58 _ (unhide J59 _ (unhide J60 _ (unhide HP))))))))).facts))
  clear f23_0 f23_1 f23_2 f23_3 f24_0 f24_1 f24_2 f24_3 f25_0 f25_1 f25_2 f25_3 f26_0 f26_1 f26_2 f26_3 f30_0 f30_1 f30_2 f30_3 f32_0 f32_1 f32_2 f32_3 f34_0 f34_1 f34_2 f34_3 f35_0 f35_1 f35_2 f35_3 f36_0 f36_1 f36_2 f36_3 f37_0 f37_1 f37_2 f37_3
  obtain ⟨z00, z01, z02, z03⟩ := ((unhide Q23 _ (unhide J38 _ (unhide J39 _ (unhide J40 _ (unhide J41 _ (unhide J42 _ (unhide J43 _ (unhide J44 _ (unhide J45 _ (unhide J46 _ (unhide J47 _ (unhide J48 _ (unhide J49 _ (unhide J50 _ (unhide J51 _ (unhide J52 _ (unhide J53 _ (unhide J54 _ (unhide J55 _ (unhide J56 _ (unhide J57 _ (unhide J58 _ (unhide J59 _ (unhide J60 _ (unhide HP)))))))))))))))))))))))))).facts
  obtain ⟨z10, z11, z12, z13⟩ := ((unhide Q24 _ (unhide J39 _ (unhide J40 _ (unhide J41 _ (unhide J42 _ (unhide J43 _ (unhide J44 _ (unhide J45 _ (unhide J46 _ (unhide J47 _ (unhide J48 _ (unhide J49 _ (unhide J50 _ (unhide J51 _ (unhide J52 _ (unhide J53 _ (unhide J54 _ (unhide J55 _ (unhide J56 _ (unhide J57 _ (unhide J58 _ (unhide J59 _ (unhide J60 _ (unhide HP))))))))))))))))))))))))).facts
  obtain ⟨z20, z21, z22, z23⟩ := ((unhide Q25 _ (unhide J40 _ (unhide J41 _ (unhide J42 _ (unhide J43 _ (unhide J44 _ (unhide J45 _ (unhide J46 _ (unhide J47 _ (unhide J48 _ (unhide J49 _ (unhide J50 _ (unhide J51 _ (unhide J52 _ (unhide J53 _ (unhide J54 _ (unhide J55 _ (unhide J56 _ (unhide J57 _ (unhide J58 _ (unhide J59 _ (unhide J60 _ (unhide HP)))))))))))))))))))))))).facts
  obtain ⟨z30, z31, z32, z33⟩ := ((unhide Q26 _ (unhide J41 _ (unhide J42 _ (unhide J43 _ (unhide J44 _ (unhide J45 _ (unhide J46 _ (unhide J47 _ (unhide J48 _ (unhide J49 _ (unhide J50 _ (unhide J51 _ (unhide J52 _ (unhide J53 _ (unhide J54 _ (unhide J55 _ (unhide J56 _ (unhide J57 _ (unhide J58 _ (unhide J59 _ (unhide J60 _ (unhide HP))))))))))))))))))))))).facts
  go_wp2_with fail
  clear z00 z01 z02 z03 z10 z11 z12 z13 z20 z21 z22 z23 z30 z31 z32 z33
  refine (unhide hI12 op23 n23 s23 a23 len23 cap23 op24 n24 s24 a24 len24 cap24 op25 n25 s25 a25 len25 cap25 op26 n26 s26 a26 len26 cap26 x _ ((unhide HE).on (unhide IW _ (unhide J1 _ (unhide J2 _ (unhide J3 _ (unhide J4 _ (unhide J5 _ (unhide J6 _ (unhide J7 _ (unhide J8 _ (unhide J9 _ (unhide J10 _ (unhide J11 _ (unhide J12 _ (unhide J13 _ (unhide J14 _ (unhide J15 _ (unhide J16 _ (unhide J17 _ (unhide J18 _ (unhide J19 _ (unhide J20 _ (unhide J21 _ (unhide J22 _ (unhide J23 _ (unhide J24 _ (unhide J25 _ (unhide J26 _ (unhide J27 _ (unhide J28 _ (unhide J29 _ (unhide J30 _ (unhide J31 _ (unhide J32 _ (unhide J33 _ (unhide J34 _ (unhide J35 _ (unhide J36 _ (unhide J37 _ (unhide J38 _ (unhide J39 _ (unhide J40 _ (unhide J41 _ (unhide J42 _ (unhide J43 _ (unhide J44 _ (unhide J45 _ (unhide J46 _ (unhide J47 _ (unhide J48 _ (unhide J49 _ (unhide J50 _ (unhide J51 _ (unhide J52 _ (unhide J53 _ (unhide J54 _ (unhide J55 _ (unhide J56 _ (unhide J57 _ (unhide J58 _ (unhide J59 _ (unhide J60 _ (unhide HP))))))))))))))))))))))))))))))))))))))))))))))))))))))))))))))) ((unhide HR).on (unhide IW _ (unhide J1 _ (unhide J2 _ (unhide J3 _ (unhide J4 _ (unhide J5 _ (unhide J6 _ (unhide J7 _ (unhide J8 _ (unhide J9 _ (unhide J10 _ (unhide J11 _ (unhide J12 _ (unhide J13 _ (unhide J14 _ (unhide J15 _ (unhide J16 _ (unhide J17 _ (unhide J18 _ (unhide J19 _ (unhide J20 _ (unhide J21 _ (unhide J22 _ (unhide J23 _ (unhide J24 _ (unhide J25 _ (unhide J26 _ (unhide J27 _ (unhide J28 _ (unhide J29 _ (unhide J30 _ (unhide J31 _ (unhide J32 _ (unhide J33 _ (unhide J34 _ (unhide J35 _ (unhide J36 _ (unhide J37 _ (unhide J38 _ (unhide J39 _ (unhide J40 _ (unhide J41 _ (unhide J42 _ (unhide J43 _ (unhide J44 _ (unhide J45 _ (unhide J46 _ (unhide J47 _ (unhide J48 _ (unhide J49 _ (unhide J50 _ (unhide J51 _ (unhide J52 _ (unhide J53 _ (unhide J54 _ (unhide J55 _ (unhide J56 _ (unhide J57 _ (unhide J58 _ (unhide J59 _ (unhide J60 _ (unhide HP))))))))))))))))))))))))))))))))))))))))))))))))))))))))))))))) ((unhide HT).on (unhide IW _ (unhide J1 _ (unhide J2 _ (unhide J3 _ (unhide J4 _ (unhide J5 _ (unhide J6 _ (unhide J7 _ (unhide J8 _ (unhide J9 _ (unhide J10 _ (unhide J11 _ (unhide J12 _ (unhide J13 _ (unhide J14 _ (unhide J15 _ (unhide J16 _ (unhide J17 _ (unhide J18 _ (unhide J19 _ (unhide J20 _ (unhide J21 _ (unhide J22 _ (unhide J23 _ (unhide J24 _ (unhide J25 _ (unhide J26 _ (unhide J27 _ (unhide J28 _ (unhide J29 _ (unhide J30 _ (unhide J31 _ (unhide J32 _ (unhide J33 _ (unhide J34 _ (unhide J35 _ (unhide J36 _ (unhide J37 _ (unhide J38 _ (unhide J39 _ (unhide J40 _ (unhide J41 _ (unhide J42 _ (unhide J43 _ (unhide J44 _ (unhide J45 _ (unhide J46 _ (unhide J47 _ (unhide J48 _ (unhide J49 _ (unhide J50 _ (unhide J51 _ (unhide J52 _ (unhide J53 _ (unhide J54 _ (unhide J55 _ (unhide J56 _ (unhide J57 _ (unhide J58 _ (unhide J59 _ (unhide J60 _ (unhide HP))))))))))))))))))))))))))))))))))))))))))))))))))))))))))))))) (unhide QL23 _ (unhide J34 _ (unhide J35 _ (unhide J36 _ (unhide J37 _ (unhide J38 _ (unhide J39 _ (unhide J40 _ (unhide J41 _ (unhide J42 _ (unhide J43 _ (unhide J44 _ (unhide J45 _ (unhide J46 _ (unhide J47 _ (unhide J48 _ (unhide J49 _ (unhide J50 _ (unhide J51 _ (unhide J52 _ (unhide J53 _ (unhide J54 _ (unhide J55 _ (unhide J56 _ (unhide J57 _ (unhide J58 _ (unhide J59 _ (unhide J60 _ (unhide HP))))))))))))))))))))))))))))) (unhide QL24 _ (unhide J35 _ (unhide J36 _ (unhide J37 _ (unhide J38 _ (unhide J39 _ (unhide J40 _ (unhide J41 _ (unhide J42 _ (unhide J43 _ (unhide J44 _ (unhide J45 _ (unhide J46 _ (unhide J47 _ (unhide J48 _ (unhide J49 _ (unhide J50 _ (unhide J51 _ (unhide J52 _ (unhide J53 _ (unhide J54 _ (unhide J55 _ (unhide J56 _ (unhide J57 _ (unhide J58 _ (unhide J59 _ (unhide J60 _ (unhide HP)))))))))))))))))))))))))))) (unhide QL25 _ (unhide J36 _ (unhide J37 _ (unhide J38 _ (unhide J39 _ (unhide J40 _ (unhide J41 _ (unhide J42 _ (unhide J43 _ (unhide J44 _ (unhide J45 _ (unhide J46 _ (unhide J47 _ (unhide J48 _ (unhide J49 _ (unhide J50 _ (unhide J51 _ (unhide J52 _ (unhide J53 _ (unhide J54 _ (unhide J55 _ (unhide J56 _ (unhide J57 _ (unhide J58 _ (unhide J59 _ (unhide J60 _ (unhide HP))))))))))))))))))))))))))) (unhide QL26 _ (unhide J37 _ (unhide J38 _ (unhide J39 _ (unhide J40 _ (unhide J41 _ (unhide J42 _ (unhide J43 _ (unhide J44 _ (unhide J45 _ (unhide J46 _ (unhide J47 _ (unhide J48 _ (unhide J49 _ (unhide J50 _ (unhide J51 _ (unhide J52 _ (unhide J53 _ (unhide J54 _ (unhide J55 _ (unhide J56 _ (unhide J57 _ (unhide J58 _ (unhide J59 _ (unhide J60 _ (unhide HP))))))))))))))))))))))))))).mono ?_
  rintro q u1 ⟨rfl, hb⟩
  replace HP := hide ((unhide UP) _ _ (unhide HP) hb)
  clear hb 
  cases BP with
  | true =>
    obtain ⟨pg, hpg⟩ := hgood rfl
    obtain ⟨z00, z01, z02, z03⟩ := ((unhide Q25 _ (unhide J40 _ (unhide J41 _ (unhide J42 _ (unhide J43 _ (unhide J44 _ (unhide J45 _ (unhide J46 _ (unhide J47 _ (unhide J48 _ (unhide J49 _ (unhide J50 _ (unhide J51 _ (unhide J52 _ (unhide J53 _ (unhide J54 _ (unhide J55 _ (unhide J56 _ (unhide J57 _ (unhide J58 _ (unhide J59 _ (unhide J60 _ (unhide HP)))))))))))))))))))))))).facts
    go_wp2_with fail
    clear z00 z01 z02 z03
    refine (good_one TL hs m op25 n25 s25 a25 len25 cap25 x _ ((unhide QL25 _ (unhide J36 _ (unhide J37 _ (unhide J38 _ (unhide J39 _ (unhide J40 _ (unhide J41 _ (unhide J42 _ (unhide J43 _ (unhide J44 _ (unhide J45 _ (unhide J46 _ (unhide J47 _ (unhide J48 _ (unhide J49 _ (unhide J50 _ (unhide J51 _ (unhide J52 _ (unhide J53 _ (unhide J54 _ (unhide J55 _ (unhide J56 _ (unhide J57 _ (unhide J58 _ (unhide J59 _ (unhide J60 _ (unhide HP))))))))))))))))))))))))))).any (Nat.zero_le _)) (by omega) ((unhide HE).on (unhide IW _ (unhide J1 _ (unhide J2 _ (unhide J3 _ (unhide J4 _ (unhide J5 _ (unhide J6 _ (unhide J7 _ (unhide J8 _ (unhide J9 _ (unhide J10 _ (unhide J11 _ (unhide J12 _ (unhide J13 _ (unhide J14 _ (unhide J15 _ (unhide J16 _ (unhide J17 _ (unhide J18 _ (unhide J19 _ (unhide J20 _ (unhide J21 _ (unhide J22 _ (unhide J23 _ (unhide J24 _ (unhide J25 _ (unhide J26 _ (unhide J27 _ (unhide J28 _ (unhide J29 _ (unhide J30 _ (unhide J31 _ (unhide J32 _ (unhide J33 _ (unhide J34 _ (unhide J35 _ (unhide J36 _ (unhide J37 _ (unhide J38 _ (unhide J39 _ (unhide J40 _ (unhide J41 _ (unhide J42 _ (unhide J43 _ (unhide J44 _ (unhide J45 _ (unhide J46 _ (unhide J47 _ (unhide J48 _ (unhide J49 _ (unhide J50 _ (unhide J51 _ (unhide J52 _ (unhide J53 _ (unhide J54 _ (unhide J55 _ (unhide J56 _ (unhide J57 _ (unhide J58 _ (unhide J59 _ (unhide J60 _ (unhide HP))))))))))))))))))))))))))))))))))))))))))))))))))))))))))))))) ((unhide HR).on (unhide IW _ (unhide J1 _ (unhide J2 _ (unhide J3 _ (unhide J4 _ (unhide J5 _ (unhide J6 _ (unhide J7 _ (unhide J8 _ (unhide J9 _ (unhide J10 _ (unhide J11 _ (unhide J12 _ (unhide J13 _ (unhide J14 _ (unhide J15 _ (unhide J16 _ (unhide J17 _ (unhide J18 _ (unhide J19 _ (unhide J20 _ (unhide J21 _ (unhide J22 _ (unhide J23 _ (unhide J24 _ (unhide J25 _ (unhide J26 _ (unhide J27 _ (unhide J28 _ (unhide J29 _ (unhide J30 _ (unhide J31 _ (unhide J32 _ (unhide J33 _ (unhide J34 _ (unhide J35 _ (unhide J36 _ (unhide J37 _ (unhide J38 _ (unhide J39 _ (unhide J40 _ (unhide J41 _ (unhide J42 _ (unhide J43 _ (unhide J44 _ (unhide J45 _ (unhide J46 _ (unhide J47 _ (unhide J48 _ (unhide J49 _ (unhide J50 _ (unhide J51 _ (unhide J52 _ (unhide J53 _ (unhide J54 _ (unhide J55 _ (unhide J56 _ (unhide J57 _ (unhide J58 _ (unhide J59 _ (unhide J60 _ (unhide HP))))))))))))))))))))))))))))))))))))))))))))))))))))))))))))))) ((unhide HT).on (unhide IW _ (unhide J1 _ (unhide J2 _ (unhide J3 _ (unhide J4 _ (unhide J5 _ (unhide J6 _ (unhide J7 _ (unhide J8 _ (unhide J9 _ (unhide J10 _ (unhide J11 _ (unhide J12 _ (unhide J13 _ (unhide J14 _ (unhide J15 _ (unhide J16 _ (unhide J17 _ (unhide J18 _ (unhide J19 _ (unhide J20 _ (unhide J21 _ (unhide J22 _ (unhide J23 _ (unhide J24 _ (unhide J25 _ (unhide J26 _ (unhide J27 _ (unhide J28 _ (unhide J29 _ (unhide J30 _ (unhide J31 _ (unhide J32 _ (unhide J33 _ (unhide J34 _ (unhide J35 _ (unhide J36 _ (unhide J37 _ (unhide J38 _ (unhide J39 _ (unhide J40 _ (unhide J41 _ (unhide J42 _ (unhide J43 _ (unhide J44 _ (unhide J45 _ (unhide J46 _ (unhide J47 _ (unhide J48 _ (unhide J49 _ (unhide J50 _ (unhide J51 _ (unhide J52 _ (unhide J53 _ (unhide J54 _ (unhide J55 _ (unhide J56 _ (unhide J57 _ (unhide J58 _ (unhide J59 _ (unhide J60 _ (unhide HP))))))))))))))))))))))))))))))))))))))))))))))))))))))))))))))) pg hpg).mono ?_
    rintro q u2 ⟨op38, n38, s38, a38, len38, cap38, rfl, hl38, hb⟩
    replace HP := hide ((unhide UP) _ _ (unhide HP) hb)
    obtain ⟨P61, hC61, hP61, hJ61, hQ61⟩ := Up.grow (unhide UP) (unhide HP) Up.lies (hl38)
    have J61 := hide hJ61
    have QL38 := hide hQ61
    replace UP := hide hC61
    replace HP := hide hP61
    clear hC61 hP61 hJ61 hQ61
    clear hb hl38
    have hp := ab (w := u2) (.cells #[.int .i64 op38, .int .i64 n38, .string s38, .slice a38 len38 cap38] 29)
    have hrow := RowT.new 29 u2 op38 n38 s38 a38 len38 cap38
    replace HP := hide ((unhide UP) _ _ (unhide HP) hp)
    obtain ⟨P62, hC62, hP62, hJ62, hQ62⟩ := Up.grow (unhide UP) (unhide HP) Up.row (hrow)
    have J62 := hide hJ62
    have Q38 := hide hQ62
    replace UP := hide hC62
    replace HP := hide hP62
    clear hC62 hP62 hJ62 hQ62
    clear hp hrow
    cases ok with
    | false =>
      go_wp2_with fail
      go_ret
      exact ⟨rfl, (unhide IW _ (unhide J1 _ (unhide J2 _ (unhide J3 _ (unhide J4 _ (unhide J5 _ (unhide J6 _ (unhide J7 _ (unhide J8 _ (unhide J9 _ (unhide J10 _ (unhide J11 _ (unhide J12 _ (unhide J13 _ (unhide J14 _ (unhide J15 _ (unhide J16 _ (unhide J17 _ (unhide J18 _ (unhide J19 _ (unhide J20 _ (unhide J21 _ (unhide J22 _ (unhide J23 _ (unhide J24 _ (unhide J25 _ (unhide J26 _ (unhide J27 _ (unhide J28 _ (unhide J29 _ (unhide J30 _ (unhide J31 _ (unhide J32 _ (unhide J33 _ (unhide J34 _ (unhide J35 _ (unhide J36 _ (unhide J37 _ (unhide J38 _ (unhide J39 _ (unhide J40 _ (unhide J41 _ (unhide J42 _ (unhide J43 _ (unhide J44 _ (unhide J45 _ (unhide J46 _ (unhide J47 _ (unhide J48 _ (unhide J49 _ (unhide J50 _ (unhide J51 _ (unhide J52 _ (unhide J53 _ (unhide J54 _ (unhide J55 _ (unhide J56 _ (unhide J57 _ (unhide J58 _ (unhide J59 _ (unhide J60 _ (unhide J61 _ (unhide J62 _ (unhide HP))))))))))))))))))))))))))))))))))))))))))))))))))))))))))))))))⟩
    | true =>
      have hrb := kR rfl
      have hag := agree_of_reply hrb
      obtain ⟨nu, su, ku, rfl, okU, okC, hread⟩ := reply_reads hrb
      rw [← eR] at hread
      obtain ⟨z00, z01, z02, z03⟩ := ((unhide Q6 _ (unhide J9 _ (unhide J10 _ (unhide J11 _ (unhide J12 _ (unhide J13 _ (unhide J14 _ (unhide J15 _ (unhide J16 _ (unhide J17 _ (unhide J18 _ (unhide J19 _ (unhide J20 _ (unhide J21 _ (unhide J22 _ (unhide J23 _ (unhide J24 _ (unhide J25 _ (unhide J26 _ (unhide J27 _ (unhide J28 _ (unhide J29 _ (unhide J30 _ (unhide J31 _ (unhide J32 _ (unhide J33 _ (unhide J34 _ (unhide J35 _ (unhide J36 _ (unhide J37 _ (unhide J38 _ (unhide J39 _ (unhide J40 _ (unhide J41 _ (unhide J42 _ (unhide J43 _ (unhide J44 _ (unhide J45 _ (unhide J46 _ (unhide J47 _ (unhide J48 _ (unhide J49 _ (unhide J50 _ (unhide J51 _ (unhide J52 _ (unhide J53 _ (unhide J54 _ (unhide J55 _ (unhide J56 _ (unhide J57 _ (unhide J58 _ (unhide J59 _ (unhide J60 _ (unhide J61 _ (unhide J62 _ (unhide HP))))))))))))))))))))))))))))))))))))))))))))))))))))))))).facts
      go_wp2_with fail
      clear z00 z01 z02 z03
      generalize hgw : u2.alloc (.cells #[.int .i64 op38, .int .i64 n38, .string s38, .slice a38 len38 cap38] 29) = U2 at *
      clear hgw
      generalize u2.heap.size = bG at *
      refine (ok10 TC op6 n6 s6 a6 len6 cap6 _ ((unhide QL6 _ (unhide J5 _ (unhide J6 _ (unhide J7 _ (unhide J8 _ (unhide J9 _ (unhide J10 _ (unhide J11 _ (unhide J12 _ (unhide J13 _ (unhide J14 _ (unhide J15 _ (unhide J16 _ (unhide J17 _ (unhide J18 _ (unhide J19 _ (unhide J20 _ (unhide J21 _ (unhide J22 _ (unhide J23 _ (unhide J24 _ (unhide J25 _ (unhide J26 _ (unhide J27 _ (unhide J28 _ (unhide J29 _ (unhide J30 _ (unhide J31 _ (unhide J32 _ (unhide J33 _ (unhide J34 _ (unhide J35 _ (unhide J36 _ (unhide J37 _ (unhide J38 _ (unhide J39 _ (unhide J40 _ (unhide J41 _ (unhide J42 _ (unhide J43 _ (unhide J44 _ (unhide J45 _ (unhide J46 _ (unhide J47 _ (unhide J48 _ (unhide J49 _ (unhide J50 _ (unhide J51 _ (unhide J52 _ (unhide J53 _ (unhide J54 _ (unhide J55 _ (unhide J56 _ (unhide J57 _ (unhide J58 _ (unhide J59 _ (unhide J60 _ (unhide J61 _ (unhide J62 _ (unhide HP)))))))))))))))))))))))))))))))))))))))))))))))))))))))))))).any (Nat.zero_le _)) (by omega)).mono ?_
      rintro q u3a ⟨rfl, hb⟩
      replace HP := hide ((unhide UP) _ _ (unhide HP) hb)
      clear hb 
      rw [okC]
      obtain ⟨z00, z01, z02, z03⟩ := ((unhide Q5 _ (unhide J8 _ (unhide J9 _ (unhide J10 _ (unhide J11 _ (unhide J12 _ (unhide J13 _ (unhide J14 _ (unhide J15 _ (unhide J16 _ (unhide J17 _ (unhide J18 _ (unhide J19 _ (unhide J20 _ (unhide J21 _ (unhide J22 _ (unhide J23 _ (unhide J24 _ (unhide J25 _ (unhide J26 _ (unhide J27 _ (unhide J28 _ (unhide J29 _ (unhide J30 _ (unhide J31 _ (unhide J32 _ (unhide J33 _ (unhide J34 _ (unhide J35 _ (unhide J36 _ (unhide J37 _ (unhide J38 _ (unhide J39 _ (unhide J40 _ (unhide J41 _ (unhide J42 _ (unhide J43 _ (unhide J44 _ (unhide J45 _ (unhide J46 _ (unhide J47 _ (unhide J48 _ (unhide J49 _ (unhide J50 _ (unhide J51 _ (unhide J52 _ (unhide J53 _ (unhide J54 _ (unhide J55 _ (unhide J56 _ (unhide J57 _ (unhide J58 _ (unhide J59 _ (unhide J60 _ (unhide J61 _ (unhide J62 _ (unhide HP)))))))))))))))))))))))))))))))))))))))))))))))))))))))))).facts
      go_wp2_with fail
      clear z00 z01 z02 z03
      refine (ok10 TK op5 n5 s5 a5 len5 cap5 _ ((unhide QL5 _ (unhide J4 _ (unhide J5 _ (unhide J6 _ (unhide J7 _ (unhide J8 _ (unhide J9 _ (unhide J10 _ (unhide J11 _ (unhide J12 _ (unhide J13 _ (unhide J14 _ (unhide J15 _ (unhide J16 _ (unhide J17 _ (unhide J18 _ (unhide J19 _ (unhide J20 _ (unhide J21 _ (unhide J22 _ (unhide J23 _ (unhide J24 _ (unhide J25 _ (unhide J26 _ (unhide J27 _ (unhide J28 _ (unhide J29 _ (unhide J30 _ (unhide J31 _ (unhide J32 _ (unhide J33 _ (unhide J34 _ (unhide J35 _ (unhide J36 _ (unhide J37 _ (unhide J38 _ (unhide J39 _ (unhide J40 _ (unhide J41 _ (unhide J42 _ (unhide J43 _ (unhide J44 _ (unhide J45 _ (unhide J46 _ (unhide J47 _ (unhide J48 _ (unhide J49 _ (unhide J50 _ (unhide J51 _ (unhide J52 _ (unhide J53 _ (unhide J54 _ (unhide J55 _ (unhide J56 _ (unhide J57 _ (unhide J58 _ (unhide J59 _ (unhide J60 _ (unhide J61 _ (unhide J62 _ (unhide HP))))))))))))))))))))))))))))))))))))))))))))))))))))))))))))).any (Nat.zero_le _)) (by omega)).mono ?_
      rintro q u3b ⟨rfl, hb⟩
      replace HP := hide ((unhide UP) _ _ (unhide HP) hb)
      clear hb 
      cases hk5 : okT TK with
      | false =>
        go_wp2_with fail
        go_ret
        exact ⟨rfl, (unhide IW _ (unhide J1 _ (unhide J2 _ (unhide J3 _ (unhide J4 _ (unhide J5 _ (unhide J6 _ (unhide J7 _ (unhide J8 _ (unhide J9 _ (unhide J10 _ (unhide J11 _ (unhide J12 _ (unhide J13 _ (unhide J14 _ (unhide J15 _ (unhide J16 _ (unhide J17 _ (unhide J18 _ (unhide J19 _ (unhide J20 _ (unhide J21 _ (unhide J22 _ (unhide J23 _ (unhide J24 _ (unhide J25 _ (unhide J26 _ (unhide J27 _ (unhide J28 _ (unhide J29 _ (unhide J30 _ (unhide J31 _ (unhide J32 _ (unhide J33 _ (unhide J34 _ (unhide J35 _ (unhide J36 _ (unhide J37 _ (unhide J38 _ (unhide J39 _ (unhide J40 _ (unhide J41 _ (unhide J42 _ (unhide J43 _ (unhide J44 _ (unhide J45 _ (unhide J46 _ (unhide J47 _ (unhide J48 _ (unhide J49 _ (unhide J50 _ (unhide J51 _ (unhide J52 _ (unhide J53 _ (unhide J54 _ (unhide J55 _ (unhide J56 _ (unhide J57 _ (unhide J58 _ (unhide J59 _ (unhide J60 _ (unhide J61 _ (unhide J62 _ (unhide HP))))))))))))))))))))))))))))))))))))))))))))))))))))))))))))))))⟩
      | true =>
        go_wp2_with fail
        replace HP := hide ((unhide UP) _ _ (unhide HP) (Below.refl _ u3b).drew)
        have hlu := (unhide QL4 _ (unhide J3 _ (unhide J4 _ (unhide J5 _ (unhide J6 _ (unhide J7 _ (unhide J8 _ (unhide J9 _ (unhide J10 _ (unhide J11 _ (unhide J12 _ (unhide J13 _ (unhide J14 _ (unhide J15 _ (unhide J16 _ (unhide J17 _ (unhide J18 _ (unhide J19 _ (unhide J20 _ (unhide J21 _ (unhide J22 _ (unhide J23 _ (unhide J24 _ (unhide J25 _ (unhide J26 _ (unhide J27 _ (unhide J28 _ (unhide J29 _ (unhide J30 _ (unhide J31 _ (unhide J32 _ (unhide J33 _ (unhide J34 _ (unhide J35 _ (unhide J36 _ (unhide J37 _ (unhide J38 _ (unhide J39 _ (unhide J40 _ (unhide J41 _ (unhide J42 _ (unhide J43 _ (unhide J44 _ (unhide J45 _ (unhide J46 _ (unhide J47 _ (unhide J48 _ (unhide J49 _ (unhide J50 _ (unhide J51 _ (unhide J52 _ (unhide J53 _ (unhide J54 _ (unhide J55 _ (unhide J56 _ (unhide J57 _ (unhide J58 _ (unhide J59 _ (unhide J60 _ (unhide J61 _ (unhide J62 _ (unhide HP))))))))))))))))))))))))))))))))))))))))))))))))))))))))))))))
        obtain ⟨k1, k2, k3, k4, kb, kq, op50, n50, s50, a50, len50, cap50, k5, kc0, kc1, kc2, kc3, hl50⟩ := lies_kid1 hlu
        have Q4c := (unhide Q4 _ (unhide J7 _ (unhide J8 _ (unhide J9 _ (unhide J10 _ (unhide J11 _ (unhide J12 _ (unhide J13 _ (unhide J14 _ (unhide J15 _ (unhide J16 _ (unhide J17 _ (unhide J18 _ (unhide J19 _ (unhide J20 _ (unhide J21 _ (unhide J22 _ (unhide J23 _ (unhide J24 _ (unhide J25 _ (unhide J26 _ (unhide J27 _ (unhide J28 _ (unhide J29 _ (unhide J30 _ (unhide J31 _ (unhide J32 _ (unhide J33 _ (unhide J34 _ (unhide J35 _ (unhide J36 _ (unhide J37 _ (unhide J38 _ (unhide J39 _ (unhide J40 _ (unhide J41 _ (unhide J42 _ (unhide J43 _ (unhide J44 _ (unhide J45 _ (unhide J46 _ (unhide J47 _ (unhide J48 _ (unhide J49 _ (unhide J50 _ (unhide J51 _ (unhide J52 _ (unhide J53 _ (unhide J54 _ (unhide J55 _ (unhide J56 _ (unhide J57 _ (unhide J58 _ (unhide J59 _ (unhide J60 _ (unhide J61 _ (unhide J62 _ (unhide HP)))))))))))))))))))))))))))))))))))))))))))))))))))))))))).facts.2.2.2
        have hr7 := (unhide Q7 _ (unhide J11 _ (unhide J12 _ (unhide J13 _ (unhide J14 _ (unhide J15 _ (unhide J16 _ (unhide J17 _ (unhide J18 _ (unhide J19 _ (unhide J20 _ (unhide J21 _ (unhide J22 _ (unhide J23 _ (unhide J24 _ (unhide J25 _ (unhide J26 _ (unhide J27 _ (unhide J28 _ (unhide J29 _ (unhide J30 _ (unhide J31 _ (unhide J32 _ (unhide J33 _ (unhide J34 _ (unhide J35 _ (unhide J36 _ (unhide J37 _ (unhide J38 _ (unhide J39 _ (unhide J40 _ (unhide J41 _ (unhide J42 _ (unhide J43 _ (unhide J44 _ (unhide J45 _ (unhide J46 _ (unhide J47 _ (unhide J48 _ (unhide J49 _ (unhide J50 _ (unhide J51 _ (unhide J52 _ (unhide J53 _ (unhide J54 _ (unhide J55 _ (unhide J56 _ (unhide J57 _ (unhide J58 _ (unhide J59 _ (unhide J60 _ (unhide J61 _ (unhide J62 _ (unhide HP))))))))))))))))))))))))))))))))))))))))))))))))))))))
        have hl7 := (unhide QL7 _ (unhide J10 _ (unhide J11 _ (unhide J12 _ (unhide J13 _ (unhide J14 _ (unhide J15 _ (unhide J16 _ (unhide J17 _ (unhide J18 _ (unhide J19 _ (unhide J20 _ (unhide J21 _ (unhide J22 _ (unhide J23 _ (unhide J24 _ (unhide J25 _ (unhide J26 _ (unhide J27 _ (unhide J28 _ (unhide J29 _ (unhide J30 _ (unhide J31 _ (unhide J32 _ (unhide J33 _ (unhide J34 _ (unhide J35 _ (unhide J36 _ (unhide J37 _ (unhide J38 _ (unhide J39 _ (unhide J40 _ (unhide J41 _ (unhide J42 _ (unhide J43 _ (unhide J44 _ (unhide J45 _ (unhide J46 _ (unhide J47 _ (unhide J48 _ (unhide J49 _ (unhide J50 _ (unhide J51 _ (unhide J52 _ (unhide J53 _ (unhide J54 _ (unhide J55 _ (unhide J56 _ (unhide J57 _ (unhide J58 _ (unhide J59 _ (unhide J60 _ (unhide J61 _ (unhide J62 _ (unhide HP)))))))))))))))))))))))))))))))))))))))))))))))))))))))
        rw [k4, k5] at Q4c
        obtain ⟨P', S', C', G', ok', ⟨zP', zS', zC', zG'⟩, heq, hI19', -⟩ := rof_both ku R (by have := zR.size; have := okT_200 okU; simp only [Tm.size, Tm.sizes] at this; omega)
        obtain ⟨rfl, rfl, rfl, rfl, rfl⟩ := heq _ _ _ _ hread
        refine wp_region_held (S := fun y => y.cell? ⟨bS + 1, 3, none⟩ = some (.slice (some ⟨kb, kq, none⟩) 1 cap4) ∧ (y.cell? ⟨kb, kq, none⟩ = some (.int .i64 op50) ∧ y.cell? ⟨kb, kq + 1, none⟩ = some (.int .i64 n50) ∧ y.cell? ⟨kb, kq + 2, none⟩ = some (.string s50) ∧ y.cell? ⟨kb, kq + 3, none⟩ = some (.slice a50 len50 cap50)) ∧ RowT 29 y bR op7 n7 s7 a7 len7 cap7) (by kernel_rfl) ?_
        have hS : (fun y : World => y.cell? ⟨bS + 1, 3, none⟩ = some (.slice (some ⟨kb, kq, none⟩) 1 cap4) ∧ (y.cell? ⟨kb, kq, none⟩ = some (.int .i64 op50) ∧ y.cell? ⟨kb, kq + 1, none⟩ = some (.int .i64 n50) ∧ y.cell? ⟨kb, kq + 2, none⟩ = some (.string s50) ∧ y.cell? ⟨kb, kq + 3, none⟩ = some (.slice a50 len50 cap50)) ∧ RowT 29 y bR op7 n7 s7 a7 len7 cap7) u3b.drew := ⟨Q4c, ⟨kc0, kc1, kc2, kc3⟩, hr7⟩
        show wpAnyH _ _ _ _ _ _ _ _ u3b.drew
        refine take_field3 (i := 0) rfl rfl (by kernel_rfl) (by kernel_rfl) (by kernel_rfl) (fun _ _ _ _ h => h) hS ?_
        simp only [Act.put, List.setIfInBounds_toArray, List.set_cons_succ, List.set_cons_zero]
        refine take_load26 (i := 1) rfl rfl (fun y h => h.1) (by kernel_rfl) (by kernel_rfl) (by kernel_rfl) (fun _ _ _ _ h => h) hS ?_
        simp only [Act.put, List.setIfInBounds_toArray, List.set_cons_succ, List.set_cons_zero]
        refine take_index1of (i := 2) rfl rfl (by kernel_rfl) (by kernel_rfl) (by kernel_rfl) (fun _ _ _ _ h => h) hS ?_
        simp only [Act.put, List.setIfInBounds_toArray, List.set_cons_succ, List.set_cons_zero]
        refine take_cells (i := 3) rfl rfl (fun y h => h.2.1.1) (fun y h => h.2.1.2.1) (fun y h => h.2.1.2.2.1) (fun y h => h.2.1.2.2.2) (by kernel_rfl) (by kernel_rfl) (by kernel_rfl) (fun _ _ _ _ h => h) hS ?_
        simp only [Act.put, List.setIfInBounds_toArray, List.set_cons_succ, List.set_cons_zero]
        refine take_load (i := 4) rfl rfl (fun y h => h.2.2) (by kernel_rfl) (by kernel_rfl) (by kernel_rfl) (fun _ _ _ _ h => h) hS ?_
        simp only [Act.put, List.setIfInBounds_toArray, List.set_cons_succ, List.set_cons_zero]
        refine wpAnyH_cast (l' := L21 (bUpd (bUpd (bUpd (bUpd (fun _ => false) 0) 2) 1) 3)) (n' := 16) (by kernel_rfl) (by kernel_rfl) ?_
        have HEw := hide ((unhide HE).on (unhide IW _ (unhide J1 _ (unhide J2 _ (unhide J3 _ (unhide J4 _ (unhide J5 _ (unhide J6 _ (unhide J7 _ (unhide J8 _ (unhide J9 _ (unhide J10 _ (unhide J11 _ (unhide J12 _ (unhide J13 _ (unhide J14 _ (unhide J15 _ (unhide J16 _ (unhide J17 _ (unhide J18 _ (unhide J19 _ (unhide J20 _ (unhide J21 _ (unhide J22 _ (unhide J23 _ (unhide J24 _ (unhide J25 _ (unhide J26 _ (unhide J27 _ (unhide J28 _ (unhide J29 _ (unhide J30 _ (unhide J31 _ (unhide J32 _ (unhide J33 _ (unhide J34 _ (unhide J35 _ (unhide J36 _ (unhide J37 _ (unhide J38 _ (unhide J39 _ (unhide J40 _ (unhide J41 _ (unhide J42 _ (unhide J43 _ (unhide J44 _ (unhide J45 _ (unhide J46 _ (unhide J47 _ (unhide J48 _ (unhide J49 _ (unhide J50 _ (unhide J51 _ (unhide J52 _ (unhide J53 _ (unhide J54 _ (unhide J55 _ (unhide J56 _ (unhide J57 _ (unhide J58 _ (unhide J59 _ (unhide J60 _ (unhide J61 _ (unhide J62 _ (unhide HP)))))))))))))))))))))))))))))))))))))))))))))))))))))))))))))))))
        have HTw := hide ((unhide HT).on (unhide IW _ (unhide J1 _ (unhide J2 _ (unhide J3 _ (unhide J4 _ (unhide J5 _ (unhide J6 _ (unhide J7 _ (unhide J8 _ (unhide J9 _ (unhide J10 _ (unhide J11 _ (unhide J12 _ (unhide J13 _ (unhide J14 _ (unhide J15 _ (unhide J16 _ (unhide J17 _ (unhide J18 _ (unhide J19 _ (unhide J20 _ (unhide J21 _ (unhide J22 _ (unhide J23 _ (unhide J24 _ (unhide J25 _ (unhide J26 _ (unhide J27 _ (unhide J28 _ (unhide J29 _ (unhide J30 _ (unhide J31 _ (unhide J32 _ (unhide J33 _ (unhide J34 _ (unhide J35 _ (unhide J36 _ (unhide J37 _ (unhide J38 _ (unhide J39 _ (unhide J40 _ (unhide J41 _ (unhide J42 _ (unhide J43 _ (unhide J44 _ (unhide J45 _ (unhide J46 _ (unhide J47 _ (unhide J48 _ (unhide J49 _ (unhide J50 _ (unhide J51 _ (unhide J52 _ (unhide J53 _ (unhide J54 _ (unhide J55 _ (unhide J56 _ (unhide J57 _ (unhide J58 _ (unhide J59 _ (unhide J60 _ (unhide J61 _ (unhide J62 _ (unhide HP)))))))))))))))))))))))))))))))))))))))))))))))))))))))))))))))))
        refine row25 (A0 := .slice (some ⟨kb, kq, none⟩) 1 cap4) (A1 := .pointer (some ⟨kb, kq, none⟩)) (q0 := ⟨op50, n50, s50, a50, len50, cap50⟩) (q1 := ⟨op7, n7, s7, a7, len7, cap7⟩) (t0 := ku) (t1 := R) (PT := PT4 _ _ _ _) (B := true) (hsz := by kernel_rfl) (e0 := rfl) (e2 := rfl) (e1 := rfl) (e3 := rfl) (l0 := hl50) (l1 := hl7) (hK := ?_) (hSS := ?_) (hF := fun p q V hV h0 h1 => four_ans (unhide hI19' p.op p.n p.s p.a p.len p.cap q.op q.n q.s q.a q.len q.cap x V ((unhide HEw).on hV) ((unhide HTw).on hV) h0 h1)) (hfin := ?_)
        · intro j hj
          match j, hj with
          | 0, _ => exact zP'.kids
          | 1, _ => exact zS'.kids
          | 2, _ => exact zC'.kids
          | 3, _ => exact zG'.kids
        · intro V hV
          exact ⟨below_some hV hS.1, ⟨below_some hV hS.2.1.1, below_some hV hS.2.1.2.1, below_some hV hS.2.1.2.2.1, below_some hV hS.2.1.2.2.2⟩, hS.2.2.below hV⟩
        intro p0 p1 p2 p3 q0 q1 r u3c R0 R1 R2 R3 hL hY
        have hb := hY
        clear HEw HTw hS kc0 kc1 kc2 kc3 Q4c hr7 hl7 hl50 hlu
        replace HP := hide ((unhide UP) _ _ (unhide HP) hb)
        have hl60 := hL 0 (by omega)
        have hl61 := hL 1 (by omega)
        have hl62 := hL 2 (by omega)
        have hl63 := hL 3 (by omega)
        simp only [Act.put, List.setIfInBounds_toArray, List.set_cons_succ, List.set_cons_zero, ansV, Tc.agg]
        clear hL hb hY
        generalize r 0 = c0 at *
        obtain ⟨op60, n60, s60, a60, len60, cap60⟩ := c0
        generalize r 1 = c1 at *
        obtain ⟨op61, n61, s61, a61, len61, cap61⟩ := c1
        generalize r 2 = c2 at *
        obtain ⟨op62, n62, s62, a62, len62, cap62⟩ := c2
        generalize r 3 = c3 at *
        obtain ⟨op63, n63, s63, a63, len63, cap63⟩ := c3
        obtain ⟨P63, hC63, hP63, hJ63, hQ63⟩ := Up.grow (unhide UP) (unhide HP) Up.row (R0)
        have J63 := hide hJ63
        have Q60 := hide hQ63
        replace UP := hide hC63
        replace HP := hide hP63
        clear hC63 hP63 hJ63 hQ63
        obtain ⟨P64, hC64, hP64, hJ64, hQ64⟩ := Up.grow (unhide UP) (unhide HP) Up.lies (hl60)
        have J64 := hide hJ64
        have QL60 := hide hQ64
        replace UP := hide hC64
        replace HP := hide hP64
        clear hC64 hP64 hJ64 hQ64
        obtain ⟨P65, hC65, hP65, hJ65, hQ65⟩ := Up.grow (unhide UP) (unhide HP) Up.row (R1)
        have J65 := hide hJ65
        have Q61 := hide hQ65
        replace UP := hide hC65
        replace HP := hide hP65
        clear hC65 hP65 hJ65 hQ65
        obtain ⟨P66, hC66, hP66, hJ66, hQ66⟩ := Up.grow (unhide UP) (unhide HP) Up.lies (hl61)
        have J66 := hide hJ66
        have QL61 := hide hQ66
        replace UP := hide hC66
        replace HP := hide hP66
        clear hC66 hP66 hJ66 hQ66
        obtain ⟨P67, hC67, hP67, hJ67, hQ67⟩ := Up.grow (unhide UP) (unhide HP) Up.row (R2)
        have J67 := hide hJ67
        have Q62 := hide hQ67
        replace UP := hide hC67
        replace HP := hide hP67
        clear hC67 hP67 hJ67 hQ67
        obtain ⟨P68, hC68, hP68, hJ68, hQ68⟩ := Up.grow (unhide UP) (unhide HP) Up.lies (hl62)
        have J68 := hide hJ68
        have QL62 := hide hQ68
        replace UP := hide hC68
        replace HP := hide hP68
        clear hC68 hP68 hJ68 hQ68
        obtain ⟨P69, hC69, hP69, hJ69, hQ69⟩ := Up.grow (unhide UP) (unhide HP) Up.row (R3)
        have J69 := hide hJ69
        have Q63 := hide hQ69
        replace UP := hide hC69
        replace HP := hide hP69
        clear hC69 hP69 hJ69 hQ69
        obtain ⟨P70, hC70, hP70, hJ70, hQ70⟩ := Up.grow (unhide UP) (unhide HP) Up.lies (hl63)
        have J70 := hide hJ70
        have QL63 := hide hQ70
        replace UP := hide hC70
        replace HP := hide hP70
        clear hC70 hP70 hJ70 hQ70
        clear R0 R1 R2 R3 hl60 hl61 hl62 hl63
        apply tail26 (TS := TS) (TK := TK) (TC := C') (ku := ku) (nu := nu) (su := su) (u := u3c) (x := x) (r60 := (unhide Q60 _ (unhide J64 _ (unhide J65 _ (unhide J66 _ (unhide J67 _ (unhide J68 _ (unhide J69 _ (unhide J70 _ (unhide HP)))))))))) (r61 := (unhide Q61 _ (unhide J66 _ (unhide J67 _ (unhide J68 _ (unhide J69 _ (unhide J70 _ (unhide HP)))))))) (r62 := (unhide Q62 _ (unhide J68 _ (unhide J69 _ (unhide J70 _ (unhide HP)))))) (r63 := (unhide Q63 _ (unhide J70 _ (unhide HP)))) (r3 := (unhide Q3 _ (unhide J6 _ (unhide J7 _ (unhide J8 _ (unhide J9 _ (unhide J10 _ (unhide J11 _ (unhide J12 _ (unhide J13 _ (unhide J14 _ (unhide J15 _ (unhide J16 _ (unhide J17 _ (unhide J18 _ (unhide J19 _ (unhide J20 _ (unhide J21 _ (unhide J22 _ (unhide J23 _ (unhide J24 _ (unhide J25 _ (unhide J26 _ (unhide J27 _ (unhide J28 _ (unhide J29 _ (unhide J30 _ (unhide J31 _ (unhide J32 _ (unhide J33 _ (unhide J34 _ (unhide J35 _ (unhide J36 _ (unhide J37 _ (unhide J38 _ (unhide J39 _ (unhide J40 _ (unhide J41 _ (unhide J42 _ (unhide J43 _ (unhide J44 _ (unhide J45 _ (unhide J46 _ (unhide J47 _ (unhide J48 _ (unhide J49 _ (unhide J50 _ (unhide J51 _ (unhide J52 _ (unhide J53 _ (unhide J54 _ (unhide J55 _ (unhide J56 _ (unhide J57 _ (unhide J58 _ (unhide J59 _ (unhide J60 _ (unhide J61 _ (unhide J62 _ (unhide J63 _ (unhide J64 _ (unhide J65 _ (unhide J66 _ (unhide J67 _ (unhide J68 _ (unhide J69 _ (unhide J70 _ (unhide HP)))))))))))))))))))))))))))))))))))))))))))))))))))))))))))))))))))) (r4 := (unhide Q4 _ (unhide J7 _ (unhide J8 _ (unhide J9 _ (unhide J10 _ (unhide J11 _ (unhide J12 _ (unhide J13 _ (unhide J14 _ (unhide J15 _ (unhide J16 _ (unhide J17 _ (unhide J18 _ (unhide J19 _ (unhide J20 _ (unhide J21 _ (unhide J22 _ (unhide J23 _ (unhide J24 _ (unhide J25 _ (unhide J26 _ (unhide J27 _ (unhide J28 _ (unhide J29 _ (unhide J30 _ (unhide J31 _ (unhide J32 _ (unhide J33 _ (unhide J34 _ (unhide J35 _ (unhide J36 _ (unhide J37 _ (unhide J38 _ (unhide J39 _ (unhide J40 _ (unhide J41 _ (unhide J42 _ (unhide J43 _ (unhide J44 _ (unhide J45 _ (unhide J46 _ (unhide J47 _ (unhide J48 _ (unhide J49 _ (unhide J50 _ (unhide J51 _ (unhide J52 _ (unhide J53 _ (unhide J54 _ (unhide J55 _ (unhide J56 _ (unhide J57 _ (unhide J58 _ (unhide J59 _ (unhide J60 _ (unhide J61 _ (unhide J62 _ (unhide J63 _ (unhide J64 _ (unhide J65 _ (unhide J66 _ (unhide J67 _ (unhide J68 _ (unhide J69 _ (unhide J70 _ (unhide HP))))))))))))))))))))))))))))))))))))))))))))))))))))))))))))))))))) (r5 := (unhide Q5 _ (unhide J8 _ (unhide J9 _ (unhide J10 _ (unhide J11 _ (unhide J12 _ (unhide J13 _ (unhide J14 _ (unhide J15 _ (unhide J16 _ (unhide J17 _ (unhide J18 _ (unhide J19 _ (unhide J20 _ (unhide J21 _ (unhide J22 _ (unhide J23 _ (unhide J24 _ (unhide J25 _ (unhide J26 _ (unhide J27 _ (unhide J28 _ (unhide J29 _ (unhide J30 _ (unhide J31 _ (unhide J32 _ (unhide J33 _ (unhide J34 _ (unhide J35 _ (unhide J36 _ (unhide J37 _ (unhide J38 _ (unhide J39 _ (unhide J40 _ (unhide J41 _ (unhide J42 _ (unhide J43 _ (unhide J44 _ (unhide J45 _ (unhide J46 _ (unhide J47 _ (unhide J48 _ (unhide J49 _ (unhide J50 _ (unhide J51 _ (unhide J52 _ (unhide J53 _ (unhide J54 _ (unhide J55 _ (unhide J56 _ (unhide J57 _ (unhide J58 _ (unhide J59 _ (unhide J60 _ (unhide J61 _ (unhide J62 _ (unhide J63 _ (unhide J64 _ (unhide J65 _ (unhide J66 _ (unhide J67 _ (unhide J68 _ (unhide J69 _ (unhide J70 _ (unhide HP)))))))))))))))))))))))))))))))))))))))))))))))))))))))))))))))))) (r6 := (unhide Q6 _ (unhide J9 _ (unhide J10 _ (unhide J11 _ (unhide J12 _ (unhide J13 _ (unhide J14 _ (unhide J15 _ (unhide J16 _ (unhide J17 _ (unhide J18 _ (unhide J19 _ (unhide J20 _ (unhide J21 _ (unhide J22 _ (unhide J23 _ (unhide J24 _ (unhide J25 _ (unhide J26 _ (unhide J27 _ (unhide J28 _ (unhide J29 _ (unhide J30 _ (unhide J31 _ (unhide J32 _ (unhide J33 _ (unhide J34 _ (unhide J35 _ (unhide J36 _ (unhide J37 _ (unhide J38 _ (unhide J39 _ (unhide J40 _ (unhide J41 _ (unhide J42 _ (unhide J43 _ (unhide J44 _ (unhide J45 _ (unhide J46 _ (unhide J47 _ (unhide J48 _ (unhide J49 _ (unhide J50 _ (unhide J51 _ (unhide J52 _ (unhide J53 _ (unhide J54 _ (unhide J55 _ (unhide J56 _ (unhide J57 _ (unhide J58 _ (unhide J59 _ (unhide J60 _ (unhide J61 _ (unhide J62 _ (unhide J63 _ (unhide J64 _ (unhide J65 _ (unhide J66 _ (unhide J67 _ (unhide J68 _ (unhide J69 _ (unhide J70 _ (unhide HP))))))))))))))))))))))))))))))))))))))))))))))))))))))))))))))))) (l60 := ((unhide QL60 _ (unhide J65 _ (unhide J66 _ (unhide J67 _ (unhide J68 _ (unhide J69 _ (unhide J70 _ (unhide HP)))))))).any (Nat.zero_le _))) (l61 := ((unhide QL61 _ (unhide J67 _ (unhide J68 _ (unhide J69 _ (unhide J70 _ (unhide HP)))))).any (Nat.zero_le _))) (l62 := ((unhide QL62 _ (unhide J69 _ (unhide J70 _ (unhide HP)))).any (Nat.zero_le _))) (l63 := ((unhide QL63 _ (unhide HP)).any (Nat.zero_le _))) (l3 := ((unhide QL3 _ (unhide J2 _ (unhide J3 _ (unhide J4 _ (unhide J5 _ (unhide J6 _ (unhide J7 _ (unhide J8 _ (unhide J9 _ (unhide J10 _ (unhide J11 _ (unhide J12 _ (unhide J13 _ (unhide J14 _ (unhide J15 _ (unhide J16 _ (unhide J17 _ (unhide J18 _ (unhide J19 _ (unhide J20 _ (unhide J21 _ (unhide J22 _ (unhide J23 _ (unhide J24 _ (unhide J25 _ (unhide J26 _ (unhide J27 _ (unhide J28 _ (unhide J29 _ (unhide J30 _ (unhide J31 _ (unhide J32 _ (unhide J33 _ (unhide J34 _ (unhide J35 _ (unhide J36 _ (unhide J37 _ (unhide J38 _ (unhide J39 _ (unhide J40 _ (unhide J41 _ (unhide J42 _ (unhide J43 _ (unhide J44 _ (unhide J45 _ (unhide J46 _ (unhide J47 _ (unhide J48 _ (unhide J49 _ (unhide J50 _ (unhide J51 _ (unhide J52 _ (unhide J53 _ (unhide J54 _ (unhide J55 _ (unhide J56 _ (unhide J57 _ (unhide J58 _ (unhide J59 _ (unhide J60 _ (unhide J61 _ (unhide J62 _ (unhide J63 _ (unhide J64 _ (unhide J65 _ (unhide J66 _ (unhide J67 _ (unhide J68 _ (unhide J69 _ (unhide J70 _ (unhide HP))))))))))))))))))))))))))))))))))))))))))))))))))))))))))))))))))))))).any (Nat.zero_le _))) (l4 := ((unhide QL4 _ (unhide J3 _ (unhide J4 _ (unhide J5 _ (unhide J6 _ (unhide J7 _ (unhide J8 _ (unhide J9 _ (unhide J10 _ (unhide J11 _ (unhide J12 _ (unhide J13 _ (unhide J14 _ (unhide J15 _ (unhide J16 _ (unhide J17 _ (unhide J18 _ (unhide J19 _ (unhide J20 _ (unhide J21 _ (unhide J22 _ (unhide J23 _ (unhide J24 _ (unhide J25 _ (unhide J26 _ (unhide J27 _ (unhide J28 _ (unhide J29 _ (unhide J30 _ (unhide J31 _ (unhide J32 _ (unhide J33 _ (unhide J34 _ (unhide J35 _ (unhide J36 _ (unhide J37 _ (unhide J38 _ (unhide J39 _ (unhide J40 _ (unhide J41 _ (unhide J42 _ (unhide J43 _ (unhide J44 _ (unhide J45 _ (unhide J46 _ (unhide J47 _ (unhide J48 _ (unhide J49 _ (unhide J50 _ (unhide J51 _ (unhide J52 _ (unhide J53 _ (unhide J54 _ (unhide J55 _ (unhide J56 _ (unhide J57 _ (unhide J58 _ (unhide J59 _ (unhide J60 _ (unhide J61 _ (unhide J62 _ (unhide J63 _ (unhide J64 _ (unhide J65 _ (unhide J66 _ (unhide J67 _ (unhide J68 _ (unhide J69 _ (unhide J70 _ (unhide HP)))))))))))))))))))))))))))))))))))))))))))))))))))))))))))))))))))))).any (Nat.zero_le _))) (l5 := ((unhide QL5 _ (unhide J4 _ (unhide J5 _ (unhide J6 _ (unhide J7 _ (unhide J8 _ (unhide J9 _ (unhide J10 _ (unhide J11 _ (unhide J12 _ (unhide J13 _ (unhide J14 _ (unhide J15 _ (unhide J16 _ (unhide J17 _ (unhide J18 _ (unhide J19 _ (unhide J20 _ (unhide J21 _ (unhide J22 _ (unhide J23 _ (unhide J24 _ (unhide J25 _ (unhide J26 _ (unhide J27 _ (unhide J28 _ (unhide J29 _ (unhide J30 _ (unhide J31 _ (unhide J32 _ (unhide J33 _ (unhide J34 _ (unhide J35 _ (unhide J36 _ (unhide J37 _ (unhide J38 _ (unhide J39 _ (unhide J40 _ (unhide J41 _ (unhide J42 _ (unhide J43 _ (unhide J44 _ (unhide J45 _ (unhide J46 _ (unhide J47 _ (unhide J48 _ (unhide J49 _ (unhide J50 _ (unhide J51 _ (unhide J52 _ (unhide J53 _ (unhide J54 _ (unhide J55 _ (unhide J56 _ (unhide J57 _ (unhide J58 _ (unhide J59 _ (unhide J60 _ (unhide J61 _ (unhide J62 _ (unhide J63 _ (unhide J64 _ (unhide J65 _ (unhide J66 _ (unhide J67 _ (unhide J68 _ (unhide J69 _ (unhide J70 _ (unhide HP))))))))))))))))))))))))))))))))))))))))))))))))))))))))))))))))))))).any (Nat.zero_le _))) (l6 := ((unhide QL6 _ (unhide J5 _ (unhide J6 _ (unhide J7 _ (unhide J8 _ (unhide J9 _ (unhide J10 _ (unhide J11 _ (unhide J12 _ (unhide J13 _ (unhide J14 _ (unhide J15 _ (unhide J16 _ (unhide J17 _ (unhide J18 _ (unhide J19 _ (unhide J20 _ (unhide J21 _ (unhide J22 _ (unhide J23 _ (unhide J24 _ (unhide J25 _ (unhide J26 _ (unhide J27 _ (unhide J28 _ (unhide J29 _ (unhide J30 _ (unhide J31 _ (unhide J32 _ (unhide J33 _ (unhide J34 _ (unhide J35 _ (unhide J36 _ (unhide J37 _ (unhide J38 _ (unhide J39 _ (unhide J40 _ (unhide J41 _ (unhide J42 _ (unhide J43 _ (unhide J44 _ (unhide J45 _ (unhide J46 _ (unhide J47 _ (unhide J48 _ (unhide J49 _ (unhide J50 _ (unhide J51 _ (unhide J52 _ (unhide J53 _ (unhide J54 _ (unhide J55 _ (unhide J56 _ (unhide J57 _ (unhide J58 _ (unhide J59 _ (unhide J60 _ (unhide J61 _ (unhide J62 _ (unhide J63 _ (unhide J64 _ (unhide J65 _ (unhide J66 _ (unhide J67 _ (unhide J68 _ (unhide J69 _ (unhide J70 _ (unhide HP)))))))))))))))))))))))))))))))))))))))))))))))))))))))))))))))))))).any (Nat.zero_le _))) (he := ((unhide HE).on (unhide IW _ (unhide J1 _ (unhide J2 _ (unhide J3 _ (unhide J4 _ (unhide J5 _ (unhide J6 _ (unhide J7 _ (unhide J8 _ (unhide J9 _ (unhide J10 _ (unhide J11 _ (unhide J12 _ (unhide J13 _ (unhide J14 _ (unhide J15 _ (unhide J16 _ (unhide J17 _ (unhide J18 _ (unhide J19 _ (unhide J20 _ (unhide J21 _ (unhide J22 _ (unhide J23 _ (unhide J24 _ (unhide J25 _ (unhide J26 _ (unhide J27 _ (unhide J28 _ (unhide J29 _ (unhide J30 _ (unhide J31 _ (unhide J32 _ (unhide J33 _ (unhide J34 _ (unhide J35 _ (unhide J36 _ (unhide J37 _ (unhide J38 _ (unhide J39 _ (unhide J40 _ (unhide J41 _ (unhide J42 _ (unhide J43 _ (unhide J44 _ (unhide J45 _ (unhide J46 _ (unhide J47 _ (unhide J48 _ (unhide J49 _ (unhide J50 _ (unhide J51 _ (unhide J52 _ (unhide J53 _ (unhide J54 _ (unhide J55 _ (unhide J56 _ (unhide J57 _ (unhide J58 _ (unhide J59 _ (unhide J60 _ (unhide J61 _ (unhide J62 _ (unhide J63 _ (unhide J64 _ (unhide J65 _ (unhide J66 _ (unhide J67 _ (unhide J68 _ (unhide J69 _ (unhide J70 _ (unhide HP)))))))))))))))))))))))))))))))))))))))))))))))))))))))))))))))))))))))))) (hb0 := (unhide IW _ (unhide J1 _ (unhide J2 _ (unhide J3 _ (unhide J4 _ (unhide J5 _ (unhide J6 _ (unhide J7 _ (unhide J8 _ (unhide J9 _ (unhide J10 _ (unhide J11 _ (unhide J12 _ (unhide J13 _ (unhide J14 _ (unhide J15 _ (unhide J16 _ (unhide J17 _ (unhide J18 _ (unhide J19 _ (unhide J20 _ (unhide J21 _ (unhide J22 _ (unhide J23 _ (unhide J24 _ (unhide J25 _ (unhide J26 _ (unhide J27 _ (unhide J28 _ (unhide J29 _ (unhide J30 _ (unhide J31 _ (unhide J32 _ (unhide J33 _ (unhide J34 _ (unhide J35 _ (unhide J36 _ (unhide J37 _ (unhide J38 _ (unhide J39 _ (unhide J40 _ (unhide J41 _ (unhide J42 _ (unhide J43 _ (unhide J44 _ (unhide J45 _ (unhide J46 _ (unhide J47 _ (unhide J48 _ (unhide J49 _ (unhide J50 _ (unhide J51 _ (unhide J52 _ (unhide J53 _ (unhide J54 _ (unhide J55 _ (unhide J56 _ (unhide J57 _ (unhide J58 _ (unhide J59 _ (unhide J60 _ (unhide J61 _ (unhide J62 _ (unhide J63 _ (unhide J64 _ (unhide J65 _ (unhide J66 _ (unhide J67 _ (unhide J68 _ (unhide J69 _ (unhide J70 _ (unhide HP))))))))))))))))))))))))))))))))))))))))))))))))))))))))))))))))))))))))) (hz3 := hz3) (hz5 := hz5) (hz6 := by omega) (hz4 := by have := okT_200 okU; omega) (hz := Nat.le_trans zS'.size (by decide)) (hag := hag)
        assumption
  | false =>
    cases ok with
    | false =>
      go_wp2_with fail
      go_ret
      exact ⟨rfl, (unhide IW _ (unhide J1 _ (unhide J2 _ (unhide J3 _ (unhide J4 _ (unhide J5 _ (unhide J6 _ (unhide J7 _ (unhide J8 _ (unhide J9 _ (unhide J10 _ (unhide J11 _ (unhide J12 _ (unhide J13 _ (unhide J14 _ (unhide J15 _ (unhide J16 _ (unhide J17 _ (unhide J18 _ (unhide J19 _ (unhide J20 _ (unhide J21 _ (unhide J22 _ (unhide J23 _ (unhide J24 _ (unhide J25 _ (unhide J26 _ (unhide J27 _ (unhide J28 _ (unhide J29 _ (unhide J30 _ (unhide J31 _ (unhide J32 _ (unhide J33 _ (unhide J34 _ (unhide J35 _ (unhide J36 _ (unhide J37 _ (unhide J38 _ (unhide J39 _ (unhide J40 _ (unhide J41 _ (unhide J42 _ (unhide J43 _ (unhide J44 _ (unhide J45 _ (unhide J46 _ (unhide J47 _ (unhide J48 _ (unhide J49 _ (unhide J50 _ (unhide J51 _ (unhide J52 _ (unhide J53 _ (unhide J54 _ (unhide J55 _ (unhide J56 _ (unhide J57 _ (unhide J58 _ (unhide J59 _ (unhide J60 _ (unhide HP))))))))))))))))))))))))))))))))))))))))))))))))))))))))))))))⟩
    | true =>
      have hrb := kR rfl
      have hag := agree_of_reply hrb
      obtain ⟨nu, su, ku, rfl, okU, okC, hread⟩ := reply_reads hrb
      rw [← eR] at hread
      obtain ⟨z00, z01, z02, z03⟩ := ((unhide Q6 _ (unhide J9 _ (unhide J10 _ (unhide J11 _ (unhide J12 _ (unhide J13 _ (unhide J14 _ (unhide J15 _ (unhide J16 _ (unhide J17 _ (unhide J18 _ (unhide J19 _ (unhide J20 _ (unhide J21 _ (unhide J22 _ (unhide J23 _ (unhide J24 _ (unhide J25 _ (unhide J26 _ (unhide J27 _ (unhide J28 _ (unhide J29 _ (unhide J30 _ (unhide J31 _ (unhide J32 _ (unhide J33 _ (unhide J34 _ (unhide J35 _ (unhide J36 _ (unhide J37 _ (unhide J38 _ (unhide J39 _ (unhide J40 _ (unhide J41 _ (unhide J42 _ (unhide J43 _ (unhide J44 _ (unhide J45 _ (unhide J46 _ (unhide J47 _ (unhide J48 _ (unhide J49 _ (unhide J50 _ (unhide J51 _ (unhide J52 _ (unhide J53 _ (unhide J54 _ (unhide J55 _ (unhide J56 _ (unhide J57 _ (unhide J58 _ (unhide J59 _ (unhide J60 _ (unhide HP))))))))))))))))))))))))))))))))))))))))))))))))))))))).facts
      go_wp2_with fail
      clear z00 z01 z02 z03
      refine (ok10 TC op6 n6 s6 a6 len6 cap6 _ ((unhide QL6 _ (unhide J5 _ (unhide J6 _ (unhide J7 _ (unhide J8 _ (unhide J9 _ (unhide J10 _ (unhide J11 _ (unhide J12 _ (unhide J13 _ (unhide J14 _ (unhide J15 _ (unhide J16 _ (unhide J17 _ (unhide J18 _ (unhide J19 _ (unhide J20 _ (unhide J21 _ (unhide J22 _ (unhide J23 _ (unhide J24 _ (unhide J25 _ (unhide J26 _ (unhide J27 _ (unhide J28 _ (unhide J29 _ (unhide J30 _ (unhide J31 _ (unhide J32 _ (unhide J33 _ (unhide J34 _ (unhide J35 _ (unhide J36 _ (unhide J37 _ (unhide J38 _ (unhide J39 _ (unhide J40 _ (unhide J41 _ (unhide J42 _ (unhide J43 _ (unhide J44 _ (unhide J45 _ (unhide J46 _ (unhide J47 _ (unhide J48 _ (unhide J49 _ (unhide J50 _ (unhide J51 _ (unhide J52 _ (unhide J53 _ (unhide J54 _ (unhide J55 _ (unhide J56 _ (unhide J57 _ (unhide J58 _ (unhide J59 _ (unhide J60 _ (unhide HP)))))))))))))))))))))))))))))))))))))))))))))))))))))))))).any (Nat.zero_le _)) (by omega)).mono ?_
      rintro q u3a ⟨rfl, hb⟩
      replace HP := hide ((unhide UP) _ _ (unhide HP) hb)
      clear hb 
      rw [okC]
      obtain ⟨z00, z01, z02, z03⟩ := ((unhide Q5 _ (unhide J8 _ (unhide J9 _ (unhide J10 _ (unhide J11 _ (unhide J12 _ (unhide J13 _ (unhide J14 _ (unhide J15 _ (unhide J16 _ (unhide J17 _ (unhide J18 _ (unhide J19 _ (unhide J20 _ (unhide J21 _ (unhide J22 _ (unhide J23 _ (unhide J24 _ (unhide J25 _ (unhide J26 _ (unhide J27 _ (unhide J28 _ (unhide J29 _ (unhide J30 _ (unhide J31 _ (unhide J32 _ (unhide J33 _ (unhide J34 _ (unhide J35 _ (unhide J36 _ (unhide J37 _ (unhide J38 _ (unhide J39 _ (unhide J40 _ (unhide J41 _ (unhide J42 _ (unhide J43 _ (unhide J44 _ (unhide J45 _ (unhide J46 _ (unhide J47 _ (unhide J48 _ (unhide J49 _ (unhide J50 _ (unhide J51 _ (unhide J52 _ (unhide J53 _ (unhide J54 _ (unhide J55 _ (unhide J56 _ (unhide J57 _ (unhide J58 _ (unhide J59 _ (unhide J60 _ (unhide HP)))))))))))))))))))))))))))))))))))))))))))))))))))))))).facts
      go_wp2_with fail
      clear z00 z01 z02 z03
      refine (ok10 TK op5 n5 s5 a5 len5 cap5 _ ((unhide QL5 _ (unhide J4 _ (unhide J5 _ (unhide J6 _ (unhide J7 _ (unhide J8 _ (unhide J9 _ (unhide J10 _ (unhide J11 _ (unhide J12 _ (unhide J13 _ (unhide J14 _ (unhide J15 _ (unhide J16 _ (unhide J17 _ (unhide J18 _ (unhide J19 _ (unhide J20 _ (unhide J21 _ (unhide J22 _ (unhide J23 _ (unhide J24 _ (unhide J25 _ (unhide J26 _ (unhide J27 _ (unhide J28 _ (unhide J29 _ (unhide J30 _ (unhide J31 _ (unhide J32 _ (unhide J33 _ (unhide J34 _ (unhide J35 _ (unhide J36 _ (unhide J37 _ (unhide J38 _ (unhide J39 _ (unhide J40 _ (unhide J41 _ (unhide J42 _ (unhide J43 _ (unhide J44 _ (unhide J45 _ (unhide J46 _ (unhide J47 _ (unhide J48 _ (unhide J49 _ (unhide J50 _ (unhide J51 _ (unhide J52 _ (unhide J53 _ (unhide J54 _ (unhide J55 _ (unhide J56 _ (unhide J57 _ (unhide J58 _ (unhide J59 _ (unhide J60 _ (unhide HP))))))))))))))))))))))))))))))))))))))))))))))))))))))))))).any (Nat.zero_le _)) (by omega)).mono ?_
      rintro q u3b ⟨rfl, hb⟩
      replace HP := hide ((unhide UP) _ _ (unhide HP) hb)
      clear hb 
      cases hk5 : okT TK with
      | false =>
        go_wp2_with fail
        go_ret
        exact ⟨rfl, (unhide IW _ (unhide J1 _ (unhide J2 _ (unhide J3 _ (unhide J4 _ (unhide J5 _ (unhide J6 _ (unhide J7 _ (unhide J8 _ (unhide J9 _ (unhide J10 _ (unhide J11 _ (unhide J12 _ (unhide J13 _ (unhide J14 _ (unhide J15 _ (unhide J16 _ (unhide J17 _ (unhide J18 _ (unhide J19 _ (unhide J20 _ (unhide J21 _ (unhide J22 _ (unhide J23 _ (unhide J24 _ (unhide J25 _ (unhide J26 _ (unhide J27 _ (unhide J28 _ (unhide J29 _ (unhide J30 _ (unhide J31 _ (unhide J32 _ (unhide J33 _ (unhide J34 _ (unhide J35 _ (unhide J36 _ (unhide J37 _ (unhide J38 _ (unhide J39 _ (unhide J40 _ (unhide J41 _ (unhide J42 _ (unhide J43 _ (unhide J44 _ (unhide J45 _ (unhide J46 _ (unhide J47 _ (unhide J48 _ (unhide J49 _ (unhide J50 _ (unhide J51 _ (unhide J52 _ (unhide J53 _ (unhide J54 _ (unhide J55 _ (unhide J56 _ (unhide J57 _ (unhide J58 _ (unhide J59 _ (unhide J60 _ (unhide HP))))))))))))))))))))))))))))))))))))))))))))))))))))))))))))))⟩
      | true =>
        go_wp2_with fail
        replace HP := hide ((unhide UP) _ _ (unhide HP) (Below.refl _ u3b).drew)
        have hlu := (unhide QL4 _ (unhide J3 _ (unhide J4 _ (unhide J5 _ (unhide J6 _ (unhide J7 _ (unhide J8 _ (unhide J9 _ (unhide J10 _ (unhide J11 _ (unhide J12 _ (unhide J13 _ (unhide J14 _ (unhide J15 _ (unhide J16 _ (unhide J17 _ (unhide J18 _ (unhide J19 _ (unhide J20 _ (unhide J21 _ (unhide J22 _ (unhide J23 _ (unhide J24 _ (unhide J25 _ (unhide J26 _ (unhide J27 _ (unhide J28 _ (unhide J29 _ (unhide J30 _ (unhide J31 _ (unhide J32 _ (unhide J33 _ (unhide J34 _ (unhide J35 _ (unhide J36 _ (unhide J37 _ (unhide J38 _ (unhide J39 _ (unhide J40 _ (unhide J41 _ (unhide J42 _ (unhide J43 _ (unhide J44 _ (unhide J45 _ (unhide J46 _ (unhide J47 _ (unhide J48 _ (unhide J49 _ (unhide J50 _ (unhide J51 _ (unhide J52 _ (unhide J53 _ (unhide J54 _ (unhide J55 _ (unhide J56 _ (unhide J57 _ (unhide J58 _ (unhide J59 _ (unhide J60 _ (unhide HP))))))))))))))))))))))))))))))))))))))))))))))))))))))))))))
        obtain ⟨k1, k2, k3, k4, kb, kq, op50, n50, s50, a50, len50, cap50, k5, kc0, kc1, kc2, kc3, hl50⟩ := lies_kid1 hlu
        have Q4c := (unhide Q4 _ (unhide J7 _ (unhide J8 _ (unhide J9 _ (unhide J10 _ (unhide J11 _ (unhide J12 _ (unhide J13 _ (unhide J14 _ (unhide J15 _ (unhide J16 _ (unhide J17 _ (unhide J18 _ (unhide J19 _ (unhide J20 _ (unhide J21 _ (unhide J22 _ (unhide J23 _ (unhide J24 _ (unhide J25 _ (unhide J26 _ (unhide J27 _ (unhide J28 _ (unhide J29 _ (unhide J30 _ (unhide J31 _ (unhide J32 _ (unhide J33 _ (unhide J34 _ (unhide J35 _ (unhide J36 _ (unhide J37 _ (unhide J38 _ (unhide J39 _ (unhide J40 _ (unhide J41 _ (unhide J42 _ (unhide J43 _ (unhide J44 _ (unhide J45 _ (unhide J46 _ (unhide J47 _ (unhide J48 _ (unhide J49 _ (unhide J50 _ (unhide J51 _ (unhide J52 _ (unhide J53 _ (unhide J54 _ (unhide J55 _ (unhide J56 _ (unhide J57 _ (unhide J58 _ (unhide J59 _ (unhide J60 _ (unhide HP)))))))))))))))))))))))))))))))))))))))))))))))))))))))).facts.2.2.2
        have hr7 := (unhide Q7 _ (unhide J11 _ (unhide J12 _ (unhide J13 _ (unhide J14 _ (unhide J15 _ (unhide J16 _ (unhide J17 _ (unhide J18 _ (unhide J19 _ (unhide J20 _ (unhide J21 _ (unhide J22 _ (unhide J23 _ (unhide J24 _ (unhide J25 _ (unhide J26 _ (unhide J27 _ (unhide J28 _ (unhide J29 _ (unhide J30 _ (unhide J31 _ (unhide J32 _ (unhide J33 _ (unhide J34 _ (unhide J35 _ (unhide J36 _ (unhide J37 _ (unhide J38 _ (unhide J39 _ (unhide J40 _ (unhide J41 _ (unhide J42 _ (unhide J43 _ (unhide J44 _ (unhide J45 _ (unhide J46 _ (unhide J47 _ (unhide J48 _ (unhide J49 _ (unhide J50 _ (unhide J51 _ (unhide J52 _ (unhide J53 _ (unhide J54 _ (unhide J55 _ (unhide J56 _ (unhide J57 _ (unhide J58 _ (unhide J59 _ (unhide J60 _ (unhide HP))))))))))))))))))))))))))))))))))))))))))))))))))))
        have hl7 := (unhide QL7 _ (unhide J10 _ (unhide J11 _ (unhide J12 _ (unhide J13 _ (unhide J14 _ (unhide J15 _ (unhide J16 _ (unhide J17 _ (unhide J18 _ (unhide J19 _ (unhide J20 _ (unhide J21 _ (unhide J22 _ (unhide J23 _ (unhide J24 _ (unhide J25 _ (unhide J26 _ (unhide J27 _ (unhide J28 _ (unhide J29 _ (unhide J30 _ (unhide J31 _ (unhide J32 _ (unhide J33 _ (unhide J34 _ (unhide J35 _ (unhide J36 _ (unhide J37 _ (unhide J38 _ (unhide J39 _ (unhide J40 _ (unhide J41 _ (unhide J42 _ (unhide J43 _ (unhide J44 _ (unhide J45 _ (unhide J46 _ (unhide J47 _ (unhide J48 _ (unhide J49 _ (unhide J50 _ (unhide J51 _ (unhide J52 _ (unhide J53 _ (unhide J54 _ (unhide J55 _ (unhide J56 _ (unhide J57 _ (unhide J58 _ (unhide J59 _ (unhide J60 _ (unhide HP)))))))))))))))))))))))))))))))))))))))))))))))))))))
        rw [k4, k5] at Q4c
        obtain ⟨P', S', C', G', ok', ⟨zP', zS', zC', zG'⟩, heq, hI19', -⟩ := rof_both ku R (by have := zR.size; have := okT_200 okU; simp only [Tm.size, Tm.sizes] at this; omega)
        obtain ⟨rfl, rfl, rfl, rfl, rfl⟩ := heq _ _ _ _ hread
        refine wp_region_held (S := fun y => y.cell? ⟨bS + 1, 3, none⟩ = some (.slice (some ⟨kb, kq, none⟩) 1 cap4) ∧ (y.cell? ⟨kb, kq, none⟩ = some (.int .i64 op50) ∧ y.cell? ⟨kb, kq + 1, none⟩ = some (.int .i64 n50) ∧ y.cell? ⟨kb, kq + 2, none⟩ = some (.string s50) ∧ y.cell? ⟨kb, kq + 3, none⟩ = some (.slice a50 len50 cap50)) ∧ RowT 29 y bR op7 n7 s7 a7 len7 cap7) (by kernel_rfl) ?_
        have hS : (fun y : World => y.cell? ⟨bS + 1, 3, none⟩ = some (.slice (some ⟨kb, kq, none⟩) 1 cap4) ∧ (y.cell? ⟨kb, kq, none⟩ = some (.int .i64 op50) ∧ y.cell? ⟨kb, kq + 1, none⟩ = some (.int .i64 n50) ∧ y.cell? ⟨kb, kq + 2, none⟩ = some (.string s50) ∧ y.cell? ⟨kb, kq + 3, none⟩ = some (.slice a50 len50 cap50)) ∧ RowT 29 y bR op7 n7 s7 a7 len7 cap7) u3b.drew := ⟨Q4c, ⟨kc0, kc1, kc2, kc3⟩, hr7⟩
        show wpAnyH _ _ _ _ _ _ _ _ u3b.drew
        refine take_field3 (i := 0) rfl rfl (by kernel_rfl) (by kernel_rfl) (by kernel_rfl) (fun _ _ _ _ h => h) hS ?_
        simp only [Act.put, List.setIfInBounds_toArray, List.set_cons_succ, List.set_cons_zero]
        refine take_load26 (i := 1) rfl rfl (fun y h => h.1) (by kernel_rfl) (by kernel_rfl) (by kernel_rfl) (fun _ _ _ _ h => h) hS ?_
        simp only [Act.put, List.setIfInBounds_toArray, List.set_cons_succ, List.set_cons_zero]
        refine take_index1of (i := 2) rfl rfl (by kernel_rfl) (by kernel_rfl) (by kernel_rfl) (fun _ _ _ _ h => h) hS ?_
        simp only [Act.put, List.setIfInBounds_toArray, List.set_cons_succ, List.set_cons_zero]
        refine take_cells (i := 3) rfl rfl (fun y h => h.2.1.1) (fun y h => h.2.1.2.1) (fun y h => h.2.1.2.2.1) (fun y h => h.2.1.2.2.2) (by kernel_rfl) (by kernel_rfl) (by kernel_rfl) (fun _ _ _ _ h => h) hS ?_
        simp only [Act.put, List.setIfInBounds_toArray, List.set_cons_succ, List.set_cons_zero]
        refine take_load (i := 4) rfl rfl (fun y h => h.2.2) (by kernel_rfl) (by kernel_rfl) (by kernel_rfl) (fun _ _ _ _ h => h) hS ?_
        simp only [Act.put, List.setIfInBounds_toArray, List.set_cons_succ, List.set_cons_zero]
        refine wpAnyH_cast (l' := L21 (bUpd (bUpd (bUpd (bUpd (fun _ => false) 0) 2) 1) 3)) (n' := 16) (by kernel_rfl) (by kernel_rfl) ?_
        have HEw := hide ((unhide HE).on (unhide IW _ (unhide J1 _ (unhide J2 _ (unhide J3 _ (unhide J4 _ (unhide J5 _ (unhide J6 _ (unhide J7 _ (unhide J8 _ (unhide J9 _ (unhide J10 _ (unhide J11 _ (unhide J12 _ (unhide J13 _ (unhide J14 _ (unhide J15 _ (unhide J16 _ (unhide J17 _ (unhide J18 _ (unhide J19 _ (unhide J20 _ (unhide J21 _ (unhide J22 _ (unhide J23 _ (unhide J24 _ (unhide J25 _ (unhide J26 _ (unhide J27 _ (unhide J28 _ (unhide J29 _ (unhide J30 _ (unhide J31 _ (unhide J32 _ (unhide J33 _ (unhide J34 _ (unhide J35 _ (unhide J36 _ (unhide J37 _ (unhide J38 _ (unhide J39 _ (unhide J40 _ (unhide J41 _ (unhide J42 _ (unhide J43 _ (unhide J44 _ (unhide J45 _ (unhide J46 _ (unhide J47 _ (unhide J48 _ (unhide J49 _ (unhide J50 _ (unhide J51 _ (unhide J52 _ (unhide J53 _ (unhide J54 _ (unhide J55 _ (unhide J56 _ (unhide J57 _ (unhide J58 _ (unhide J59 _ (unhide J60 _ (unhide HP)))))))))))))))))))))))))))))))))))))))))))))))))))))))))))))))
        have HTw := hide ((unhide HT).on (unhide IW _ (unhide J1 _ (unhide J2 _ (unhide J3 _ (unhide J4 _ (unhide J5 _ (unhide J6 _ (unhide J7 _ (unhide J8 _ (unhide J9 _ (unhide J10 _ (unhide J11 _ (unhide J12 _ (unhide J13 _ (unhide J14 _ (unhide J15 _ (unhide J16 _ (unhide J17 _ (unhide J18 _ (unhide J19 _ (unhide J20 _ (unhide J21 _ (unhide J22 _ (unhide J23 _ (unhide J24 _ (unhide J25 _ (unhide J26 _ (unhide J27 _ (unhide J28 _ (unhide J29 _ (unhide J30 _ (unhide J31 _ (unhide J32 _ (unhide J33 _ (unhide J34 _ (unhide J35 _ (unhide J36 _ (unhide J37 _ (unhide J38 _ (unhide J39 _ (unhide J40 _ (unhide J41 _ (unhide J42 _ (unhide J43 _ (unhide J44 _ (unhide J45 _ (unhide J46 _ (unhide J47 _ (unhide J48 _ (unhide J49 _ (unhide J50 _ (unhide J51 _ (unhide J52 _ (unhide J53 _ (unhide J54 _ (unhide J55 _ (unhide J56 _ (unhide J57 _ (unhide J58 _ (unhide J59 _ (unhide J60 _ (unhide HP)))))))))))))))))))))))))))))))))))))))))))))))))))))))))))))))
        refine row25 (A0 := .slice (some ⟨kb, kq, none⟩) 1 cap4) (A1 := .pointer (some ⟨kb, kq, none⟩)) (q0 := ⟨op50, n50, s50, a50, len50, cap50⟩) (q1 := ⟨op7, n7, s7, a7, len7, cap7⟩) (t0 := ku) (t1 := R) (PT := PT4 _ _ _ _) (B := true) (hsz := by kernel_rfl) (e0 := rfl) (e2 := rfl) (e1 := rfl) (e3 := rfl) (l0 := hl50) (l1 := hl7) (hK := ?_) (hSS := ?_) (hF := fun p q V hV h0 h1 => four_ans (unhide hI19' p.op p.n p.s p.a p.len p.cap q.op q.n q.s q.a q.len q.cap x V ((unhide HEw).on hV) ((unhide HTw).on hV) h0 h1)) (hfin := ?_)
        · intro j hj
          match j, hj with
          | 0, _ => exact zP'.kids
          | 1, _ => exact zS'.kids
          | 2, _ => exact zC'.kids
          | 3, _ => exact zG'.kids
        · intro V hV
          exact ⟨below_some hV hS.1, ⟨below_some hV hS.2.1.1, below_some hV hS.2.1.2.1, below_some hV hS.2.1.2.2.1, below_some hV hS.2.1.2.2.2⟩, hS.2.2.below hV⟩
        intro p0 p1 p2 p3 q0 q1 r u3c R0 R1 R2 R3 hL hY
        have hb := hY
        clear HEw HTw hS kc0 kc1 kc2 kc3 Q4c hr7 hl7 hl50 hlu
        replace HP := hide ((unhide UP) _ _ (unhide HP) hb)
        have hl60 := hL 0 (by omega)
        have hl61 := hL 1 (by omega)
        have hl62 := hL 2 (by omega)
        have hl63 := hL 3 (by omega)
        simp only [Act.put, List.setIfInBounds_toArray, List.set_cons_succ, List.set_cons_zero, ansV, Tc.agg]
        clear hL hb hY
        generalize r 0 = c0 at *
        obtain ⟨op60, n60, s60, a60, len60, cap60⟩ := c0
        generalize r 1 = c1 at *
        obtain ⟨op61, n61, s61, a61, len61, cap61⟩ := c1
        generalize r 2 = c2 at *
        obtain ⟨op62, n62, s62, a62, len62, cap62⟩ := c2
        generalize r 3 = c3 at *
        obtain ⟨op63, n63, s63, a63, len63, cap63⟩ := c3
        obtain ⟨P61, hC61, hP61, hJ61, hQ61⟩ := Up.grow (unhide UP) (unhide HP) Up.row (R0)
        have J61 := hide hJ61
        have Q60 := hide hQ61
        replace UP := hide hC61
        replace HP := hide hP61
        clear hC61 hP61 hJ61 hQ61
        obtain ⟨P62, hC62, hP62, hJ62, hQ62⟩ := Up.grow (unhide UP) (unhide HP) Up.lies (hl60)
        have J62 := hide hJ62
        have QL60 := hide hQ62
        replace UP := hide hC62
        replace HP := hide hP62
        clear hC62 hP62 hJ62 hQ62
        obtain ⟨P63, hC63, hP63, hJ63, hQ63⟩ := Up.grow (unhide UP) (unhide HP) Up.row (R1)
        have J63 := hide hJ63
        have Q61 := hide hQ63
        replace UP := hide hC63
        replace HP := hide hP63
        clear hC63 hP63 hJ63 hQ63
        obtain ⟨P64, hC64, hP64, hJ64, hQ64⟩ := Up.grow (unhide UP) (unhide HP) Up.lies (hl61)
        have J64 := hide hJ64
        have QL61 := hide hQ64
        replace UP := hide hC64
        replace HP := hide hP64
        clear hC64 hP64 hJ64 hQ64
        obtain ⟨P65, hC65, hP65, hJ65, hQ65⟩ := Up.grow (unhide UP) (unhide HP) Up.row (R2)
        have J65 := hide hJ65
        have Q62 := hide hQ65
        replace UP := hide hC65
        replace HP := hide hP65
        clear hC65 hP65 hJ65 hQ65
        obtain ⟨P66, hC66, hP66, hJ66, hQ66⟩ := Up.grow (unhide UP) (unhide HP) Up.lies (hl62)
        have J66 := hide hJ66
        have QL62 := hide hQ66
        replace UP := hide hC66
        replace HP := hide hP66
        clear hC66 hP66 hJ66 hQ66
        obtain ⟨P67, hC67, hP67, hJ67, hQ67⟩ := Up.grow (unhide UP) (unhide HP) Up.row (R3)
        have J67 := hide hJ67
        have Q63 := hide hQ67
        replace UP := hide hC67
        replace HP := hide hP67
        clear hC67 hP67 hJ67 hQ67
        obtain ⟨P68, hC68, hP68, hJ68, hQ68⟩ := Up.grow (unhide UP) (unhide HP) Up.lies (hl63)
        have J68 := hide hJ68
        have QL63 := hide hQ68
        replace UP := hide hC68
        replace HP := hide hP68
        clear hC68 hP68 hJ68 hQ68
        clear R0 R1 R2 R3 hl60 hl61 hl62 hl63
        apply tail26 (TS := TS) (TK := TK) (TC := C') (ku := ku) (nu := nu) (su := su) (u := u3c) (x := x) (r60 := (unhide Q60 _ (unhide J62 _ (unhide J63 _ (unhide J64 _ (unhide J65 _ (unhide J66 _ (unhide J67 _ (unhide J68 _ (unhide HP)))))))))) (r61 := (unhide Q61 _ (unhide J64 _ (unhide J65 _ (unhide J66 _ (unhide J67 _ (unhide J68 _ (unhide HP)))))))) (r62 := (unhide Q62 _ (unhide J66 _ (unhide J67 _ (unhide J68 _ (unhide HP)))))) (r63 := (unhide Q63 _ (unhide J68 _ (unhide HP)))) (r3 := (unhide Q3 _ (unhide J6 _ (unhide J7 _ (unhide J8 _ (unhide J9 _ (unhide J10 _ (unhide J11 _ (unhide J12 _ (unhide J13 _ (unhide J14 _ (unhide J15 _ (unhide J16 _ (unhide J17 _ (unhide J18 _ (unhide J19 _ (unhide J20 _ (unhide J21 _ (unhide J22 _ (unhide J23 _ (unhide J24 _ (unhide J25 _ (unhide J26 _ (unhide J27 _ (unhide J28 _ (unhide J29 _ (unhide J30 _ (unhide J31 _ (unhide J32 _ (unhide J33 _ (unhide J34 _ (unhide J35 _ (unhide J36 _ (unhide J37 _ (unhide J38 _ (unhide J39 _ (unhide J40 _ (unhide J41 _ (unhide J42 _ (unhide J43 _ (unhide J44 _ (unhide J45 _ (unhide J46 _ (unhide J47 _ (unhide J48 _ (unhide J49 _ (unhide J50 _ (unhide J51 _ (unhide J52 _ (unhide J53 _ (unhide J54 _ (unhide J55 _ (unhide J56 _ (unhide J57 _ (unhide J58 _ (unhide J59 _ (unhide J60 _ (unhide J61 _ (unhide J62 _ (unhide J63 _ (unhide J64 _ (unhide J65 _ (unhide J66 _ (unhide J67 _ (unhide J68 _ (unhide HP)))))))))))))))))))))))))))))))))))))))))))))))))))))))))))))))))) (r4 := (unhide Q4 _ (unhide J7 _ (unhide J8 _ (unhide J9 _ (unhide J10 _ (unhide J11 _ (unhide J12 _ (unhide J13 _ (unhide J14 _ (unhide J15 _ (unhide J16 _ (unhide J17 _ (unhide J18 _ (unhide J19 _ (unhide J20 _ (unhide J21 _ (unhide J22 _ (unhide J23 _ (unhide J24 _ (unhide J25 _ (unhide J26 _ (unhide J27 _ (unhide J28 _ (unhide J29 _ (unhide J30 _ (unhide J31 _ (unhide J32 _ (unhide J33 _ (unhide J34 _ (unhide J35 _ (unhide J36 _ (unhide J37 _ (unhide J38 _ (unhide J39 _ (unhide J40 _ (unhide J41 _ (unhide J42 _ (unhide J43 _ (unhide J44 _ (unhide J45 _ (unhide J46 _ (unhide J47 _ (unhide J48 _ (unhide J49 _ (unhide J50 _ (unhide J51 _ (unhide J52 _ (unhide J53 _ (unhide J54 _ (unhide J55 _ (unhide J56 _ (unhide J57 _ (unhide J58 _ (unhide J59 _ (unhide J60 _ (unhide J61 _ (unhide J62 _ (unhide J63 _ (unhide J64 _ (unhide J65 _ (unhide J66 _ (unhide J67 _ (unhide J68 _ (unhide HP))))))))))))))))))))))))))))))))))))))))))))))))))))))))))))))))) (r5 := (unhide Q5 _ (unhide J8 _ (unhide J9 _ (unhide J10 _ (unhide J11 _ (unhide J12 _ (unhide J13 _ (unhide J14 _ (unhide J15 _ (unhide J16 _ (unhide J17 _ (unhide J18 _ (unhide J19 _ (unhide J20 _ (unhide J21 _ (unhide J22 _ (unhide J23 _ (unhide J24 _ (unhide J25 _ (unhide J26 _ (unhide J27 _ (unhide J28 _ (unhide J29 _ (unhide J30 _ (unhide J31 _ (unhide J32 _ (unhide J33 _ (unhide J34 _ (unhide J35 _ (unhide J36 _ (unhide J37 _ (unhide J38 _ (unhide J39 _ (unhide J40 _ (unhide J41 _ (unhide J42 _ (unhide J43 _ (unhide J44 _ (unhide J45 _ (unhide J46 _ (unhide J47 _ (unhide J48 _ (unhide J49 _ (unhide J50 _ (unhide J51 _ (unhide J52 _ (unhide J53 _ (unhide J54 _ (unhide J55 _ (unhide J56 _ (unhide J57 _ (unhide J58 _ (unhide J59 _ (unhide J60 _ (unhide J61 _ (unhide J62 _ (unhide J63 _ (unhide J64 _ (unhide J65 _ (unhide J66 _ (unhide J67 _ (unhide J68 _ (unhide HP)))))))))))))))))))))))))))))))))))))))))))))))))))))))))))))))) (r6 := (unhide Q6 _ (unhide J9 _ (unhide J10 _ (unhide J11 _ (unhide J12 _ (unhide J13 _ (unhide J14 _ (unhide J15 _ (unhide J16 _ (unhide J17 _ (unhide J18 _ (unhide J19 _ (unhide J20 _ (unhide J21 _ (unhide J22 _ (unhide J23 _ (unhide J24 _ (unhide J25 _ (unhide J26 _ (unhide J27 _ (unhide J28 _ (unhide J29 _ (unhide J30 _ (unhide J31 _ (unhide J32 _ (unhide J33 _ (unhide J34 _ (unhide J35 _ (unhide J36 _ (unhide J37 _ (unhide J38 _ (unhide J39 _ (unhide J40 _ (unhide J41 _ (unhide J42 _ (unhide J43 _ (unhide J44 _ (unhide J45 _ (unhide J46 _ (unhide J47 _ (unhide J48 _ (unhide J49 _ (unhide J50 _ (unhide J51 _ (unhide J52 _ (unhide J53 _ (unhide J54 _ (unhide J55 _ (unhide J56 _ (unhide J57 _ (unhide J58 _ (unhide J59 _ (unhide J60 _ (unhide J61 _ (unhide J62 _ (unhide J63 _ (unhide J64 _ (unhide J65 _ (unhide J66 _ (unhide J67 _ (unhide J68 _ (unhide HP))))))))))))))))))))))))))))))))))))))))))))))))))))))))))))))) (l60 := ((unhide QL60 _ (unhide J63 _ (unhide J64 _ (unhide J65 _ (unhide J66 _ (unhide J67 _ (unhide J68 _ (unhide HP)))))))).any (Nat.zero_le _))) (l61 := ((unhide QL61 _ (unhide J65 _ (unhide J66 _ (unhide J67 _ (unhide J68 _ (unhide HP)))))).any (Nat.zero_le _))) (l62 := ((unhide QL62 _ (unhide J67 _ (unhide J68 _ (unhide HP)))).any (Nat.zero_le _))) (l63 := ((unhide QL63 _ (unhide HP)).any (Nat.zero_le _))) (l3 := ((unhide QL3 _ (unhide J2 _ (unhide J3 _ (unhide J4 _ (unhide J5 _ (unhide J6 _ (unhide J7 _ (unhide J8 _ (unhide J9 _ (unhide J10 _ (unhide J11 _ (unhide J12 _ (unhide J13 _ (unhide J14 _ (unhide J15 _ (unhide J16 _ (unhide J17 _ (unhide J18 _ (unhide J19 _ (unhide J20 _ (unhide J21 _ (unhide J22 _ (unhide J23 _ (unhide J24 _ (unhide J25 _ (unhide J26 _ (unhide J27 _ (unhide J28 _ (unhide J29 _ (unhide J30 _ (unhide J31 _ (unhide J32 _ (unhide J33 _ (unhide J34 _ (unhide J35 _ (unhide J36 _ (unhide J37 _ (unhide J38 _ (unhide J39 _ (unhide J40 _ (unhide J41 _ (unhide J42 _ (unhide J43 _ (unhide J44 _ (unhide J45 _ (unhide J46 _ (unhide J47 _ (unhide J48 _ (unhide J49 _ (unhide J50 _ (unhide J51 _ (unhide J52 _ (unhide J53 _ (unhide J54 _ (unhide J55 _ (unhide J56 _ (unhide J57 _ (unhide J58 _ (unhide J59 _ (unhide J60 _ (unhide J61 _ (unhide J62 _ (unhide J63 _ (unhide J64 _ (unhide J65 _ (unhide J66 _ (unhide J67 _ (unhide J68 _ (unhide HP))))))))))))))))))))))))))))))))))))))))))))))))))))))))))))))))))))).any (Nat.zero_le _))) (l4 := ((unhide QL4 _ (unhide J3 _ (unhide J4 _ (unhide J5 _ (unhide J6 _ (unhide J7 _ (unhide J8 _ (unhide J9 _ (unhide J10 _ (unhide J11 _ (unhide J12 _ (unhide J13 _ (unhide J14 _ (unhide J15 _ (unhide J16 _ (unhide J17 _ (unhide J18 _ (unhide J19 _ (unhide J20 _ (unhide J21 _ (unhide J22 _ (unhide J23 _ (unhide J24 _ (unhide J25 _ (unhide J26 _ (unhide J27 _ (unhide J28 _ (unhide J29 _ (unhide J30 _ (unhide J31 _ (unhide J32 _ (unhide J33 _ (unhide J34 _ (unhide J35 _ (unhide J36 _ (unhide J37 _ (unhide J38 _ (unhide J39 _ (unhide J40 _ (unhide J41 _ (unhide J42 _ (unhide J43 _ (unhide J44 _ (unhide J45 _ (unhide J46 _ (unhide J47 _ (unhide J48 _ (unhide J49 _ (unhide J50 _ (unhide J51 _ (unhide J52 _ (unhide J53 _ (unhide J54 _ (unhide J55 _ (unhide J56 _ (unhide J57 _ (unhide J58 _ (unhide J59 _ (unhide J60 _ (unhide J61 _ (unhide J62 _ (unhide J63 _ (unhide J64 _ (unhide J65 _ (unhide J66 _ (unhide J67 _ (unhide J68 _ (unhide HP)))))))))))))))))))))))))))))))))))))))))))))))))))))))))))))))))))).any (Nat.zero_le _))) (l5 := ((unhide QL5 _ (unhide J4 _ (unhide J5 _ (unhide J6 _ (unhide J7 _ (unhide J8 _ (unhide J9 _ (unhide J10 _ (unhide J11 _ (unhide J12 _ (unhide J13 _ (unhide J14 _ (unhide J15 _ (unhide J16 _ (unhide J17 _ (unhide J18 _ (unhide J19 _ (unhide J20 _ (unhide J21 _ (unhide J22 _ (unhide J23 _ (unhide J24 _ (unhide J25 _ (unhide J26 _ (unhide J27 _ (unhide J28 _ (unhide J29 _ (unhide J30 _ (unhide J31 _ (unhide J32 _ (unhide J33 _ (unhide J34 _ (unhide J35 _ (unhide J36 _ (unhide J37 _ (unhide J38 _ (unhide J39 _ (unhide J40 _ (unhide J41 _ (unhide J42 _ (unhide J43 _ (unhide J44 _ (unhide J45 _ (unhide J46 _ (unhide J47 _ (unhide J48 _ (unhide J49 _ (unhide J50 _ (unhide J51 _ (unhide J52 _ (unhide J53 _ (unhide J54 _ (unhide J55 _ (unhide J56 _ (unhide J57 _ (unhide J58 _ (unhide J59 _ (unhide J60 _ (unhide J61 _ (unhide J62 _ (unhide J63 _ (unhide J64 _ (unhide J65 _ (unhide J66 _ (unhide J67 _ (unhide J68 _ (unhide HP))))))))))))))))))))))))))))))))))))))))))))))))))))))))))))))))))).any (Nat.zero_le _))) (l6 := ((unhide QL6 _ (unhide J5 _ (unhide J6 _ (unhide J7 _ (unhide J8 _ (unhide J9 _ (unhide J10 _ (unhide J11 _ (unhide J12 _ (unhide J13 _ (unhide J14 _ (unhide J15 _ (unhide J16 _ (unhide J17 _ (unhide J18 _ (unhide J19 _ (unhide J20 _ (unhide J21 _ (unhide J22 _ (unhide J23 _ (unhide J24 _ (unhide J25 _ (unhide J26 _ (unhide J27 _ (unhide J28 _ (unhide J29 _ (unhide J30 _ (unhide J31 _ (unhide J32 _ (unhide J33 _ (unhide J34 _ (unhide J35 _ (unhide J36 _ (unhide J37 _ (unhide J38 _ (unhide J39 _ (unhide J40 _ (unhide J41 _ (unhide J42 _ (unhide J43 _ (unhide J44 _ (unhide J45 _ (unhide J46 _ (unhide J47 _ (unhide J48 _ (unhide J49 _ (unhide J50 _ (unhide J51 _ (unhide J52 _ (unhide J53 _ (unhide J54 _ (unhide J55 _ (unhide J56 _ (unhide J57 _ (unhide J58 _ (unhide J59 _ (unhide J60 _ (unhide J61 _ (unhide J62 _ (unhide J63 _ (unhide J64 _ (unhide J65 _ (unhide J66 _ (unhide J67 _ (unhide J68 _ (unhide HP)))))))))))))))))))))))))))))))))))))))))))))))))))))))))))))))))).any (Nat.zero_le _))) (he := ((unhide HE).on (unhide IW _ (unhide J1 _ (unhide J2 _ (unhide J3 _ (unhide J4 _ (unhide J5 _ (unhide J6 _ (unhide J7 _ (unhide J8 _ (unhide J9 _ (unhide J10 _ (unhide J11 _ (unhide J12 _ (unhide J13 _ (unhide J14 _ (unhide J15 _ (unhide J16 _ (unhide J17 _ (unhide J18 _ (unhide J19 _ (unhide J20 _ (unhide J21 _ (unhide J22 _ (unhide J23 _ (unhide J24 _ (unhide J25 _ (unhide J26 _ (unhide J27 _ (unhide J28 _ (unhide J29 _ (unhide J30 _ (unhide J31 _ (unhide J32 _ (unhide J33 _ (unhide J34 _ (unhide J35 _ (unhide J36 _ (unhide J37 _ (unhide J38 _ (unhide J39 _ (unhide J40 _ (unhide J41 _ (unhide J42 _ (unhide J43 _ (unhide J44 _ (unhide J45 _ (unhide J46 _ (unhide J47 _ (unhide J48 _ (unhide J49 _ (unhide J50 _ (unhide J51 _ (unhide J52 _ (unhide J53 _ (unhide J54 _ (unhide J55 _ (unhide J56 _ (unhide J57 _ (unhide J58 _ (unhide J59 _ (unhide J60 _ (unhide J61 _ (unhide J62 _ (unhide J63 _ (unhide J64 _ (unhide J65 _ (unhide J66 _ (unhide J67 _ (unhide J68 _ (unhide HP)))))))))))))))))))))))))))))))))))))))))))))))))))))))))))))))))))))))) (hb0 := (unhide IW _ (unhide J1 _ (unhide J2 _ (unhide J3 _ (unhide J4 _ (unhide J5 _ (unhide J6 _ (unhide J7 _ (unhide J8 _ (unhide J9 _ (unhide J10 _ (unhide J11 _ (unhide J12 _ (unhide J13 _ (unhide J14 _ (unhide J15 _ (unhide J16 _ (unhide J17 _ (unhide J18 _ (unhide J19 _ (unhide J20 _ (unhide J21 _ (unhide J22 _ (unhide J23 _ (unhide J24 _ (unhide J25 _ (unhide J26 _ (unhide J27 _ (unhide J28 _ (unhide J29 _ (unhide J30 _ (unhide J31 _ (unhide J32 _ (unhide J33 _ (unhide J34 _ (unhide J35 _ (unhide J36 _ (unhide J37 _ (unhide J38 _ (unhide J39 _ (unhide J40 _ (unhide J41 _ (unhide J42 _ (unhide J43 _ (unhide J44 _ (unhide J45 _ (unhide J46 _ (unhide J47 _ (unhide J48 _ (unhide J49 _ (unhide J50 _ (unhide J51 _ (unhide J52 _ (unhide J53 _ (unhide J54 _ (unhide J55 _ (unhide J56 _ (unhide J57 _ (unhide J58 _ (unhide J59 _ (unhide J60 _ (unhide J61 _ (unhide J62 _ (unhide J63 _ (unhide J64 _ (unhide J65 _ (unhide J66 _ (unhide J67 _ (unhide J68 _ (unhide HP))))))))))))))))))))))))))))))))))))))))))))))))))))))))))))))))))))))) (hz3 := hz3) (hz5 := hz5) (hz6 := by omega) (hz4 := by have := okT_200 okU; omega) (hz := Nat.le_trans zS'.size (by decide)) (hag := hag)
        assumption

set_option maxRecDepth 100000 in
theorem lawReplies (ad : Option Addr) (ln cp : Nat) (w : World) (hB : Bytes w w.heap.size ad ln) (hlc : ln ≤ cp) (hr : Var12 w) (ht : Tab w) (he : Err w) :
    Calls Tryz.prog 4 #[.slice ad ln cp] w fun e w' => e = .returned (.bool true) ∧ Below w.heap.size w w' := by
  by_cases hl : ln ≤ 1048576
  · obtain ⟨x, hx⟩ := he
    exact lawReplies1 ad ln cp w hB hl hlc x hx hr ht
  · have hbig := hide (fun v => big_yes ad ln cp v hl)
    clear hB hr ht he
    go_enter Tryz.func4, Tryz.ntmps4
    go_wp2_with fail
    refine (unhide hbig _).mono ?_
    rintro e w0 ⟨rfl, rfl⟩
    go_wp2_with fail
    go_ret
    exact ⟨rfl, Below.refl _ _⟩

end Go.Proofs.YtmklgikbajhcpaaGreatDoor
