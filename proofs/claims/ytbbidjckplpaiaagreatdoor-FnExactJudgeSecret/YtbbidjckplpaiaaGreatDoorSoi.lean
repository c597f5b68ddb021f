
/- spec.ServerOk: what its loop needs. spec.ServerOk with Tls, walked. spec.ServerOk at the step SvDone, walked. spec.ServerOk elsewhere, walked. spec.ServerOk, walked. impl.ServerOk, walked. -/
import Derived.Test.YtbbidjckplpaiaaGreatDoorSp
namespace Go.Proofs.YtbbidjckplpaiaaGreatDoor
open Go.RowKit Go.Deep

theorem round_facts {l : List Int} {k : Nat} (hp : k < l.length) (hl : l.length ≤ 2097152) : (k : Int) < (l.length : Int) ∧ (0 : Int) ≤ (k : Int) ∧ wrap64 ((k : Int) + 1) = ((k + 1 : Nat) : Int) := by
  refine ⟨by omega, by omega, ?_⟩
  unfold wrap64; omega
theorem round_more {l : List Int} {k : Nat} {x : Int} (hk : l[k]? = some x) (hB : inB x 0 1000000 = true) (hd : ∀ j x, j < k → l[j]? = some x → inB x 0 1000000 = true) : ∀ j x, j < k + 1 → l[j]? = some x → inB x 0 1000000 = true := fun j y hj hy => by
  by_cases hjk : j = k
  · subst hjk; rw [hk] at hy; cases hy; exact hB
  · exact hd j y (by omega) hy
theorem round_meas {L k : Nat} (w1 : wrap64 ((k : Int) + 1) = ((k + 1 : Nat) : Int)) (hp : k < L) : L - (intOf (.int .i64 (wrap64 ((k : Int) + 1)))).toNat < L - (intOf (.int .i64 (k : Int))).toNat := by
  rw [w1]; simp only [intOf]; omega
theorem len20 (l : List Int) : decide ((l.length : Int) ≤ 20) = decide (l.length ≤ 20) := decide_eq_decide.2 (by omega)
theorem round_end {l : List Int} {k : Nat} (hp : ¬ k < l.length) (hk : k ≤ l.length) (hd : ∀ j x, j < k → l[j]? = some x → inB x 0 1000000 = true) : (¬ (k : Int) < (l.length : Int)) ∧ gotB l = true := by
  refine ⟨by omega, gotB_yes fun j x hj hx => hd j x (by omega) hx⟩

set_option maxRecDepth 100000 in
set_option maxHeartbeats 4000000 in
theorem serverS_t (t u : Tm) (l : List Int) (st : Int) (h : ByteArray) (ke : Int) (ep : Int) (op : Int) (n : Int) (s : ByteArray) (a : Option Addr) (len : Nat) (cap : Nat) (oq : Int) (m : Int) (r : ByteArray) (c : Option Addr) (lem : Nat) (cat : Nat) (i : Int) (o : Int) (g : Option Addr) (gc : Nat) (w : World) (hl : Lies w 0 t (tmCells op n s a len cap)) (hu : Lies w 0 u (tmCells oq m r c lem cat)) (hi : Ints w 0 g l) (hst : t.size ≤ 2097152) (hsu : u.size ≤ 2097152) (hsl : l.length ≤ 2097152) (hh : h.size ≤ 2097152) :
    Calls Tryz.prog 79 #[.agg #[.int .i64 st, .string h, .int .i64 ke, .int .i64 ep, .int .i64 op, .int .i64 n, .string s, .slice a len cap, .int .i64 oq, .int .i64 m, .string r, .slice c lem cat, .int .i64 i, .int .i64 o, .bool true, .slice g l.length gc]] w fun e w' => e = .returned (.bool (serverB st h ke ep t u i o true l)) ∧ Below w.heap.size w w' := by
  have gh := hide (fun v => hostS h v hh)
  have gs := hide (fun v hv hz => sa_calls u zeroT oq m r c lem cat 0 0 ByteArray.empty none 0 0 v hv hz)
  have gk := hide (fun v hv => ok8 u oq m r c lem cat v hv hsu)
  have gc_ := hide (fun v hv => ok8 t op n s a len cap v hv hst)
  have hb0 := abC (w := w) (.cells #[.int .i64 st, .string h, .int .i64 ke, .int .i64 ep, .int .i64 op, .int .i64 n, .string s, .slice a len cap, .int .i64 oq, .int .i64 m, .string r, .slice c lem cat, .int .i64 i, .int .i64 o, .bool true, .slice g l.length gc] 115)
  have HB0 := hide hb0
  have HL := hide (hl.below hb0)
  have HU := hide (hu.below hb0)
  have HI := hide (hi.on hb0)
  have HX := hide (RowS.new 115 w st h ke ep op n s a len cap oq m r c lem cat i o true g l.length gc)
  have HLEN : Hid (l.length ≤ 2097152) := hsl
  clear hl hu hi hb0 hst hsu hsl hh
  go_enter Tryz.func79, Tryz.ntmps79
  go_wp2_with fail
  go_loopw [3] (fun nn wr => ∃ k : Nat, nn = .int .i64 k ∧ k ≤ l.length ∧ (∀ j x, j < k → l[j]? = some x → inB x 0 1000000 = true) ∧ wr = (w.alloc (.cells #[.int .i64 st, .string h, .int .i64 ke, .int .i64 ep, .int .i64 op, .int .i64 n, .string s, .slice a len cap, .int .i64 oq, .int .i64 m, .string r, .slice c lem cat, .int .i64 i, .int .i64 o, .bool true, .slice g l.length gc] 115))) (fun nn _ => l.length - (intOf nn).toNat)
  case atStart => exact ⟨0, rfl, Nat.zero_le _, fun j x hj => absurd hj (Nat.not_lt_zero _), rfl⟩
  case round =>
    obtain ⟨k, rfl, hk, hd, rfl⟩ := hrel
    have HD := hide hd
    clear hd
    by_cases hp : k < l.length
    · obtain ⟨x, hx⟩ : ∃ x, l[k]? = some x := ⟨_, List.getElem?_eq_getElem hp⟩
      obtain ⟨b, o2, rfl, -, c0⟩ := unhide HI k x hx
      have HK := hide hx
      obtain ⟨c2, c3, w1⟩ := round_facts hp (unhide HLEN)
      have HE : Hid (inB x 0 1000000 = false → serverB st h ke ep t u i o true l = false) := fun hB => by simp [serverB, gotB_no (unhide HK) hB]
      have HP : Hid (k < l.length) := hp
      clear hx hp hk
      generalize hL : l.length = L at *
      clear hL
      go_wp2_with fail
      refine (in26 x 0 1000000 _).mono ?_
      rintro e w2 ⟨rfl, rfl⟩
      cases hB : inB x 0 1000000 with
      | true =>
        go_wp2_with fail
        go_roundw
        case rel => exact ⟨k + 1, by rw [w1], unhide HP, round_more (unhide HK) hB (unhide HD), trivial⟩
        case measure => exact round_meas w1 (unhide HP)
      | false =>
        go_wp2_with fail
        go_ret
        exact ⟨retB (unhide HE hB), unhide HB0⟩
    · obtain ⟨c2, HG⟩ := round_end hp hk (unhide HD)
      have HE20 : Hid (decide ((l.length : Int) ≤ 20) = decide (l.length ≤ 20)) := len20 l
      clear HD HI hp hk HLEN
      obtain ⟨c0, c1, c2, c3, c4, c5, c6, c7, c8, c9, c10, c11, c12, c13, c14, c15⟩ := (unhide HX).facts
      have HG := hide HG
      go_wp2_with fail
      refine (unhide gk _ (unhide HU)).mono ?_
      rintro e wx1 ⟨rfl, hbq⟩
      have HB1 := hide hbq
      clear hbq c0 c1 c2 c3 c4 c5 c6 c7 c8 c9 c10 c11 c12 c13 c14 c15
      obtain ⟨c0, c1, c2, c3, c4, c5, c6, c7, c8, c9, c10, c11, c12, c13, c14, c15⟩ := ((unhide HX).below (unhide HB1)).facts
      cases hS : okT u with
      | false =>
        go_wp2_with fail
        go_ret
        exact ⟨retB (by simp [serverB, svB, hS]), btC (unhide HB0) (unhide HB1)⟩
      | true =>
        go_wp2_with fail
        refine (in26 st 1 5 _).mono ?_
        rintro e wz0 ⟨rfl, rfl⟩
        cases hB0 : inB st 1 5 with
        | false =>
          go_wp2_with fail
          go_ret
          exact ⟨retB (by simp [serverB, hB0]), btC (unhide HB0) (unhide HB1)⟩
        | true =>
          go_wp2_with fail
          refine (unhide gh _).mono ?_
          rintro e wx2 ⟨rfl, hbq⟩
          have HB2 := hide (btC (unhide HB1) hbq)
          clear hbq c0 c1 c2 c3 c4 c5 c6 c7 c8 c9 c10 c11 c12 c13 c14 c15
          obtain ⟨c0, c1, c2, c3, c4, c5, c6, c7, c8, c9, c10, c11, c12, c13, c14, c15⟩ := ((unhide HX).below (unhide HB2)).facts
          cases hB1 : hostB h with
          | false =>
            go_wp2_with fail
            go_ret
            exact ⟨retB (by simp [serverB, hB1]), btC (unhide HB0) (unhide HB2)⟩
          | true =>
            go_wp2_with fail
            refine (in26 ke 0 1000000 _).mono ?_
            rintro e wz2 ⟨rfl, rfl⟩
            cases hB2 : inB ke 0 1000000 with
            | false =>
              go_wp2_with fail
              go_ret
              exact ⟨retB (by simp [serverB, hB2]), btC (unhide HB0) (unhide HB2)⟩
            | true =>
              go_wp2_with fail
              refine (in26 ep 0 1000000 _).mono ?_
              rintro e wz3 ⟨rfl, rfl⟩
              cases hB3 : inB ep 0 1000000 with
              | false =>
                go_wp2_with fail
                go_ret
                exact ⟨retB (by simp [serverB, hB3]), btC (unhide HB0) (unhide HB2)⟩
              | true =>
                go_wp2_with fail
                refine (unhide gc_ _ ((unhide HL).below (unhide HB2))).mono ?_
                rintro e wx3 ⟨rfl, hbq⟩
                have HB3 := hide (btC (unhide HB2) hbq)
                clear hbq c0 c1 c2 c3 c4 c5 c6 c7 c8 c9 c10 c11 c12 c13 c14 c15
                obtain ⟨c0, c1, c2, c3, c4, c5, c6, c7, c8, c9, c10, c11, c12, c13, c14, c15⟩ := ((unhide HX).below (unhide HB3)).facts
                cases hB4 : okT t with
                | false =>
                  go_wp2_with fail
                  go_ret
                  exact ⟨retB (by simp [serverB, hB4]), btC (unhide HB0) (unhide HB3)⟩
                | true =>
                  go_wp2_with fail
                  refine (in26 i 0 100 _).mono ?_
                  rintro e wz5 ⟨rfl, rfl⟩
                  cases hB5 : inB i 0 100 with
                  | false =>
                    go_wp2_with fail
                    go_ret
                    exact ⟨retB (by simp [serverB, hB5]), btC (unhide HB0) (unhide HB3)⟩
                  | true =>
                    go_wp2_with fail
                    refine (in26 o 0 100 _).mono ?_
                    rintro e wz6 ⟨rfl, rfl⟩
                    cases hB6 : inB o 0 100 with
                    | false =>
                      go_wp2_with fail
                      go_ret
                      exact ⟨retB (by simp [serverB, hB6]), btC (unhide HB0) (unhide HB3)⟩
                    | true =>
                      go_wp2_with fail
                      go_ret
                      exact ⟨retB (by simp [serverB, hB0, hB1, hB2, hB3, hB4, hB5, hB6, svB, hS, unhide HG, unhide HE20]), btC (unhide HB0) (unhide HB3)⟩

set_option maxRecDepth 100000 in
set_option maxHeartbeats 4000000 in
theorem serverS_3 (t u : Tm) (l : List Int) (st : Int) (h : ByteArray) (ke : Int) (ep : Int) (op : Int) (n : Int) (s : ByteArray) (a : Option Addr) (len : Nat) (cap : Nat) (oq : Int) (m : Int) (r : ByteArray) (c : Option Addr) (lem : Nat) (cat : Nat) (i : Int) (o : Int) (g : Option Addr) (gc : Nat) (w : World) (hl : Lies w 0 t (tmCells op n s a len cap)) (hu : Lies w 0 u (tmCells oq m r c lem cat)) (hi : Ints w 0 g l) (hst : t.size ≤ 2097152) (hsu : u.size ≤ 2097152) (hsl : l.length ≤ 2097152) (hh : h.size ≤ 2097152) (h3b : (st == 3) = true) :
    Calls Tryz.prog 79 #[.agg #[.int .i64 st, .string h, .int .i64 ke, .int .i64 ep, .int .i64 op, .int .i64 n, .string s, .slice a len cap, .int .i64 oq, .int .i64 m, .string r, .slice c lem cat, .int .i64 i, .int .i64 o, .bool false, .slice g l.length gc]] w fun e w' => e = .returned (.bool (serverB st h ke ep t u i o false l)) ∧ Below w.heap.size w w' := by
  have gh := hide (fun v => hostS h v hh)
  have gs := hide (fun v hv hz => sa_calls u zeroT oq m r c lem cat 0 0 ByteArray.empty none 0 0 v hv hz)
  have gk := hide (fun v hv => ok8 u oq m r c lem cat v hv hsu)
  have gc_ := hide (fun v hv => ok8 t op n s a len cap v hv hst)
  have hb0 := abC (w := w) (.cells #[.int .i64 st, .string h, .int .i64 ke, .int .i64 ep, .int .i64 op, .int .i64 n, .string s, .slice a len cap, .int .i64 oq, .int .i64 m, .string r, .slice c lem cat, .int .i64 i, .int .i64 o, .bool false, .slice g l.length gc] 115)
  have HB0 := hide hb0
  have HL := hide (hl.below hb0)
  have HU := hide (hu.below hb0)
  have HI := hide (hi.on hb0)
  have HX := hide (RowS.new 115 w st h ke ep op n s a len cap oq m r c lem cat i o false g l.length gc)
  have HLEN : Hid (l.length ≤ 2097152) := hsl
  clear hl hu hi hb0 hst hsu hsl hh
  go_enter Tryz.func79, Tryz.ntmps79
  go_wp2_with fail
  go_loopw [3] (fun nn wr => ∃ k : Nat, nn = .int .i64 k ∧ k ≤ l.length ∧ (∀ j x, j < k → l[j]? = some x → inB x 0 1000000 = true) ∧ wr = (w.alloc (.cells #[.int .i64 st, .string h, .int .i64 ke, .int .i64 ep, .int .i64 op, .int .i64 n, .string s, .slice a len cap, .int .i64 oq, .int .i64 m, .string r, .slice c lem cat, .int .i64 i, .int .i64 o, .bool false, .slice g l.length gc] 115))) (fun nn _ => l.length - (intOf nn).toNat)
  case atStart => exact ⟨0, rfl, Nat.zero_le _, fun j x hj => absurd hj (Nat.not_lt_zero _), rfl⟩
  case round =>
    obtain ⟨k, rfl, hk, hd, rfl⟩ := hrel
    have HD := hide hd
    clear hd
    by_cases hp : k < l.length
    · obtain ⟨x, hx⟩ : ∃ x, l[k]? = some x := ⟨_, List.getElem?_eq_getElem hp⟩
      obtain ⟨b, o2, rfl, -, c0⟩ := unhide HI k x hx
      have HK := hide hx
      obtain ⟨c2, c3, w1⟩ := round_facts hp (unhide HLEN)
      have HE : Hid (inB x 0 1000000 = false → serverB st h ke ep t u i o false l = false) := fun hB => by simp [serverB, gotB_no (unhide HK) hB]
      have HP : Hid (k < l.length) := hp
      clear hx hp hk
      generalize hL : l.length = L at *
      clear hL
      go_wp2_with fail
      refine (in26 x 0 1000000 _).mono ?_
      rintro e w2 ⟨rfl, rfl⟩
      cases hB : inB x 0 1000000 with
      | true =>
        go_wp2_with fail
        go_roundw
        case rel => exact ⟨k + 1, by rw [w1], unhide HP, round_more (unhide HK) hB (unhide HD), trivial⟩
        case measure => exact round_meas w1 (unhide HP)
      | false =>
        go_wp2_with fail
        go_ret
        exact ⟨retB (unhide HE hB), unhide HB0⟩
    · obtain ⟨c2, HG⟩ := round_end hp hk (unhide HD)
      have HE20 : Hid (decide ((l.length : Int) ≤ 20) = decide (l.length ≤ 20)) := len20 l
      clear HD HI hp hk HLEN
      obtain ⟨c0, c1, c2, c3, c4, c5, c6, c7, c8, c9, c10, c11, c12, c13, c14, c15⟩ := (unhide HX).facts
      have HG := hide HG
      go_wp2_with fail
      refine (unhide gk _ (unhide HU)).mono ?_
      rintro e wx1 ⟨rfl, hbq⟩
      have HB1 := hide hbq
      clear hbq c0 c1 c2 c3 c4 c5 c6 c7 c8 c9 c10 c11 c12 c13 c14 c15
      obtain ⟨c0, c1, c2, c3, c4, c5, c6, c7, c8, c9, c10, c11, c12, c13, c14, c15⟩ := ((unhide HX).below (unhide HB1)).facts
      cases hS : okT u with
      | false =>
        go_wp2_with fail
        go_ret
        exact ⟨retB (by simp [serverB, svB, hS, h3b]), btC (unhide HB0) (unhide HB1)⟩
      | true =>
        go_wp2_with fail
        refine (in26 st 1 5 _).mono ?_
        rintro e wz0 ⟨rfl, rfl⟩
        cases hB0 : inB st 1 5 with
        | false =>
          go_wp2_with fail
          go_ret
          exact ⟨retB (by simp [serverB, hB0]), btC (unhide HB0) (unhide HB1)⟩
        | true =>
          go_wp2_with fail
          refine (unhide gh _).mono ?_
          rintro e wx2 ⟨rfl, hbq⟩
          have HB2 := hide (btC (unhide HB1) hbq)
          clear hbq c0 c1 c2 c3 c4 c5 c6 c7 c8 c9 c10 c11 c12 c13 c14 c15
          obtain ⟨c0, c1, c2, c3, c4, c5, c6, c7, c8, c9, c10, c11, c12, c13, c14, c15⟩ := ((unhide HX).below (unhide HB2)).facts
          cases hB1 : hostB h with
          | false =>
            go_wp2_with fail
            go_ret
            exact ⟨retB (by simp [serverB, hB1]), btC (unhide HB0) (unhide HB2)⟩
          | true =>
            go_wp2_with fail
            refine (in26 ke 0 1000000 _).mono ?_
            rintro e wz2 ⟨rfl, rfl⟩
            cases hB2 : inB ke 0 1000000 with
            | false =>
              go_wp2_with fail
              go_ret
              exact ⟨retB (by simp [serverB, hB2]), btC (unhide HB0) (unhide HB2)⟩
            | true =>
              go_wp2_with fail
              refine (in26 ep 0 1000000 _).mono ?_
              rintro e wz3 ⟨rfl, rfl⟩
              cases hB3 : inB ep 0 1000000 with
              | false =>
                go_wp2_with fail
                go_ret
                exact ⟨retB (by simp [serverB, hB3]), btC (unhide HB0) (unhide HB2)⟩
              | true =>
                go_wp2_with fail
                refine (unhide gc_ _ ((unhide HL).below (unhide HB2))).mono ?_
                rintro e wx3 ⟨rfl, hbq⟩
                have HB3 := hide (btC (unhide HB2) hbq)
                clear hbq c0 c1 c2 c3 c4 c5 c6 c7 c8 c9 c10 c11 c12 c13 c14 c15
                obtain ⟨c0, c1, c2, c3, c4, c5, c6, c7, c8, c9, c10, c11, c12, c13, c14, c15⟩ := ((unhide HX).below (unhide HB3)).facts
                cases hB4 : okT t with
                | false =>
                  go_wp2_with fail
                  go_ret
                  exact ⟨retB (by simp [serverB, hB4]), btC (unhide HB0) (unhide HB3)⟩
                | true =>
                  go_wp2_with fail
                  refine (in26 i 0 100 _).mono ?_
                  rintro e wz5 ⟨rfl, rfl⟩
                  cases hB5 : inB i 0 100 with
                  | false =>
                    go_wp2_with fail
                    go_ret
                    exact ⟨retB (by simp [serverB, hB5]), btC (unhide HB0) (unhide HB3)⟩
                  | true =>
                    go_wp2_with fail
                    refine (in26 o 0 100 _).mono ?_
                    rintro e wz6 ⟨rfl, rfl⟩
                    cases hB6 : inB o 0 100 with
                    | false =>
                      go_wp2_with fail
                      go_ret
                      exact ⟨retB (by simp [serverB, hB6]), btC (unhide HB0) (unhide HB3)⟩
                    | true =>
                      go_wp2_with fail
                      go_ret
                      exact ⟨retB (by simp [serverB, hB0, hB1, hB2, hB3, hB4, hB5, hB6, svB, hS, h3b, unhide HG, unhide HE20]), btC (unhide HB0) (unhide HB3)⟩

set_option maxRecDepth 100000 in
set_option maxHeartbeats 4000000 in
theorem serverS_n (t u : Tm) (l : List Int) (st : Int) (h : ByteArray) (ke : Int) (ep : Int) (op : Int) (n : Int) (s : ByteArray) (a : Option Addr) (len : Nat) (cap : Nat) (oq : Int) (m : Int) (r : ByteArray) (c : Option Addr) (lem : Nat) (cat : Nat) (i : Int) (o : Int) (g : Option Addr) (gc : Nat) (w : World) (hl : Lies w 0 t (tmCells op n s a len cap)) (hu : Lies w 0 u (tmCells oq m r c lem cat)) (hi : Ints w 0 g l) (hst : t.size ≤ 2097152) (hsu : u.size ≤ 2097152) (hsl : l.length ≤ 2097152) (hh : h.size ≤ 2097152) (h3b : (st == 3) = false) :
    Calls Tryz.prog 79 #[.agg #[.int .i64 st, .string h, .int .i64 ke, .int .i64 ep, .int .i64 op, .int .i64 n, .string s, .slice a len cap, .int .i64 oq, .int .i64 m, .string r, .slice c lem cat, .int .i64 i, .int .i64 o, .bool false, .slice g l.length gc]] w fun e w' => e = .returned (.bool (serverB st h ke ep t u i o false l)) ∧ Below w.heap.size w w' := by
  have gh := hide (fun v => hostS h v hh)
  have gs := hide (fun v hv hz => sa_calls u zeroT oq m r c lem cat 0 0 ByteArray.empty none 0 0 v hv hz)
  have gk := hide (fun v hv => ok8 u oq m r c lem cat v hv hsu)
  have gc_ := hide (fun v hv => ok8 t op n s a len cap v hv hst)
  have hb0 := abC (w := w) (.cells #[.int .i64 st, .string h, .int .i64 ke, .int .i64 ep, .int .i64 op, .int .i64 n, .string s, .slice a len cap, .int .i64 oq, .int .i64 m, .string r, .slice c lem cat, .int .i64 i, .int .i64 o, .bool false, .slice g l.length gc] 115)
  have HB0 := hide hb0
  have HL := hide (hl.below hb0)
  have HU := hide (hu.below hb0)
  have HI := hide (hi.on hb0)
  have HX := hide (RowS.new 115 w st h ke ep op n s a len cap oq m r c lem cat i o false g l.length gc)
  have HLEN : Hid (l.length ≤ 2097152) := hsl
  clear hl hu hi hb0 hst hsu hsl hh
  go_enter Tryz.func79, Tryz.ntmps79
  go_wp2_with fail
  go_loopw [3] (fun nn wr => ∃ k : Nat, nn = .int .i64 k ∧ k ≤ l.length ∧ (∀ j x, j < k → l[j]? = some x → inB x 0 1000000 = true) ∧ wr = (w.alloc (.cells #[.int .i64 st, .string h, .int .i64 ke, .int .i64 ep, .int .i64 op, .int .i64 n, .string s, .slice a len cap, .int .i64 oq, .int .i64 m, .string r, .slice c lem cat, .int .i64 i, .int .i64 o, .bool false, .slice g l.length gc] 115))) (fun nn _ => l.length - (intOf nn).toNat)
  case atStart => exact ⟨0, rfl, Nat.zero_le _, fun j x hj => absurd hj (Nat.not_lt_zero _), rfl⟩
  case round =>
    obtain ⟨k, rfl, hk, hd, rfl⟩ := hrel
    have HD := hide hd
    clear hd
    by_cases hp : k < l.length
    · obtain ⟨x, hx⟩ : ∃ x, l[k]? = some x := ⟨_, List.getElem?_eq_getElem hp⟩
      obtain ⟨b, o2, rfl, -, c0⟩ := unhide HI k x hx
      have HK := hide hx
      obtain ⟨c2, c3, w1⟩ := round_facts hp (unhide HLEN)
      have HE : Hid (inB x 0 1000000 = false → serverB st h ke ep t u i o false l = false) := fun hB => by simp [serverB, gotB_no (unhide HK) hB]
      have HP : Hid (k < l.length) := hp
      clear hx hp hk
      generalize hL : l.length = L at *
      clear hL
      go_wp2_with fail
      refine (in26 x 0 1000000 _).mono ?_
      rintro e w2 ⟨rfl, rfl⟩
      cases hB : inB x 0 1000000 with
      | true =>
        go_wp2_with fail
        go_roundw
        case rel => exact ⟨k + 1, by rw [w1], unhide HP, round_more (unhide HK) hB (unhide HD), trivial⟩
        case measure => exact round_meas w1 (unhide HP)
      | false =>
        go_wp2_with fail
        go_ret
        exact ⟨retB (unhide HE hB), unhide HB0⟩
    · obtain ⟨c2, HG⟩ := round_end hp hk (unhide HD)
      have HE20 : Hid (decide ((l.length : Int) ≤ 20) = decide (l.length ≤ 20)) := len20 l
      clear HD HI hp hk HLEN
      obtain ⟨c0, c1, c2, c3, c4, c5, c6, c7, c8, c9, c10, c11, c12, c13, c14, c15⟩ := (unhide HX).facts
      have HG := hide HG
      go_wp2_with fail
      refine (unhide gs _ (unhide HU) (lies_leaf _ 0 0 ByteArray.empty (by simp) rfl rfl)).mono ?_
      rintro e wx1 ⟨rfl, hbq⟩
      have HB1 := hide hbq
      clear hbq c0 c1 c2 c3 c4 c5 c6 c7 c8 c9 c10 c11 c12 c13 c14 c15
      obtain ⟨c0, c1, c2, c3, c4, c5, c6, c7, c8, c9, c10, c11, c12, c13, c14, c15⟩ := ((unhide HX).below (unhide HB1)).facts
      cases hS : sameB u zeroT with
      | false =>
        go_wp2_with fail
        go_ret
        exact ⟨retB (by simp [serverB, svB, hS, h3b]), btC (unhide HB0) (unhide HB1)⟩
      | true =>
        go_wp2_with fail
        refine (in26 st 1 5 _).mono ?_
        rintro e wz0 ⟨rfl, rfl⟩
        cases hB0 : inB st 1 5 with
        | false =>
          go_wp2_with fail
          go_ret
          exact ⟨retB (by simp [serverB, hB0]), btC (unhide HB0) (unhide HB1)⟩
        | true =>
          go_wp2_with fail
          refine (unhide gh _).mono ?_
          rintro e wx2 ⟨rfl, hbq⟩
          have HB2 := hide (btC (unhide HB1) hbq)
          clear hbq c0 c1 c2 c3 c4 c5 c6 c7 c8 c9 c10 c11 c12 c13 c14 c15
          obtain ⟨c0, c1, c2, c3, c4, c5, c6, c7, c8, c9, c10, c11, c12, c13, c14, c15⟩ := ((unhide HX).below (unhide HB2)).facts
          cases hB1 : hostB h with
          | false =>
            go_wp2_with fail
            go_ret
            exact ⟨retB (by simp [serverB, hB1]), btC (unhide HB0) (unhide HB2)⟩
          | true =>
            go_wp2_with fail
            refine (in26 ke 0 1000000 _).mono ?_
            rintro e wz2 ⟨rfl, rfl⟩
            cases hB2 : inB ke 0 1000000 with
            | false =>
              go_wp2_with fail
              go_ret
              exact ⟨retB (by simp [serverB, hB2]), btC (unhide HB0) (unhide HB2)⟩
            | true =>
              go_wp2_with fail
              refine (in26 ep 0 1000000 _).mono ?_
              rintro e wz3 ⟨rfl, rfl⟩
              cases hB3 : inB ep 0 1000000 with
              | false =>
                go_wp2_with fail
                go_ret
                exact ⟨retB (by simp [serverB, hB3]), btC (unhide HB0) (unhide HB2)⟩
              | true =>
                go_wp2_with fail
                refine (unhide gc_ _ ((unhide HL).below (unhide HB2))).mono ?_
                rintro e wx3 ⟨rfl, hbq⟩
                have HB3 := hide (btC (unhide HB2) hbq)
                clear hbq c0 c1 c2 c3 c4 c5 c6 c7 c8 c9 c10 c11 c12 c13 c14 c15
                obtain ⟨c0, c1, c2, c3, c4, c5, c6, c7, c8, c9, c10, c11, c12, c13, c14, c15⟩ := ((unhide HX).below (unhide HB3)).facts
                cases hB4 : okT t with
                | false =>
                  go_wp2_with fail
                  go_ret
                  exact ⟨retB (by simp [serverB, hB4]), btC (unhide HB0) (unhide HB3)⟩
                | true =>
                  go_wp2_with fail
                  refine (in26 i 0 100 _).mono ?_
                  rintro e wz5 ⟨rfl, rfl⟩
                  cases hB5 : inB i 0 100 with
                  | false =>
                    go_wp2_with fail
                    go_ret
                    exact ⟨retB (by simp [serverB, hB5]), btC (unhide HB0) (unhide HB3)⟩
                  | true =>
                    go_wp2_with fail
                    refine (in26 o 0 100 _).mono ?_
                    rintro e wz6 ⟨rfl, rfl⟩
                    cases hB6 : inB o 0 100 with
                    | false =>
                      go_wp2_with fail
                      go_ret
                      exact ⟨retB (by simp [serverB, hB6]), btC (unhide HB0) (unhide HB3)⟩
                    | true =>
                      go_wp2_with fail
                      go_ret
                      exact ⟨retB (by simp [serverB, hB0, hB1, hB2, hB3, hB4, hB5, hB6, svB, hS, h3b, unhide HG, unhide HE20]), btC (unhide HB0) (unhide HB3)⟩

theorem serverS (t u : Tm) (l : List Int) (st : Int) (h : ByteArray) (ke : Int) (ep : Int) (op : Int) (n : Int) (s : ByteArray) (a : Option Addr) (len : Nat) (cap : Nat) (oq : Int) (m : Int) (r : ByteArray) (c : Option Addr) (lem : Nat) (cat : Nat) (i : Int) (o : Int) (tl : Bool) (g : Option Addr) (gc : Nat) (w : World) (hl : Lies w 0 t (tmCells op n s a len cap)) (hu : Lies w 0 u (tmCells oq m r c lem cat)) (hi : Ints w 0 g l) (hst : t.size ≤ 2097152) (hsu : u.size ≤ 2097152) (hsl : l.length ≤ 2097152) (hh : h.size ≤ 2097152) :
    Calls Tryz.prog 79 #[.agg #[.int .i64 st, .string h, .int .i64 ke, .int .i64 ep, .int .i64 op, .int .i64 n, .string s, .slice a len cap, .int .i64 oq, .int .i64 m, .string r, .slice c lem cat, .int .i64 i, .int .i64 o, .bool tl, .slice g l.length gc]] w fun e w' => e = .returned (.bool (serverB st h ke ep t u i o tl l)) ∧ Below w.heap.size w w' := by
  cases tl with
  | true => exact serverS_t t u l st h ke ep op n s a len cap oq m r c lem cat i o g gc w hl hu hi hst hsu hsl hh
  | false =>
    cases h3b : st == 3 with
    | true => exact serverS_3 t u l st h ke ep op n s a len cap oq m r c lem cat i o g gc w hl hu hi hst hsu hsl hh h3b
    | false => exact serverS_n t u l st h ke ep op n s a len cap oq m r c lem cat i o g gc w hl hu hi hst hsu hsl hh h3b

theorem serverB_impl (st : Int) (h : ByteArray) (ke ep : Int) (t u : Tm) (i o : Int) (tl : Bool) (l : List Int) :
    serverB st h ke ep t u i o tl l = (inB st 1 5 && (hostB h && (inB ke 0 1000000 && (inB ep 0 1000000 && ((gotB l && decide (l.length ≤ 20)) && (okT t && (svB st tl u && (inB i 0 100 && inB o 0 100)))))))) := by
  unfold serverB
  simp only [Bool.and_assoc]

set_option maxRecDepth 100000 in
set_option maxHeartbeats 4000000 in
theorem serverI (t u : Tm) (l : List Int) (st : Int) (h : ByteArray) (ke : Int) (ep : Int) (op : Int) (n : Int) (s : ByteArray) (a : Option Addr) (len : Nat) (cap : Nat) (oq : Int) (m : Int) (r : ByteArray) (c : Option Addr) (lem : Nat) (cat : Nat) (i : Int) (o : Int) (tl : Bool) (g : Option Addr) (gc : Nat) (w : World) (hl : Lies w 0 t (tmCells op n s a len cap)) (hu : Lies w 0 u (tmCells oq m r c lem cat)) (hi : Ints w 0 g l) (hst : t.size ≤ 2097152) (hsu : u.size ≤ 2097152) (hsl : l.length ≤ 2097152) (hh : h.size ≤ 2097152) :
    Calls Tryz.prog 138 #[.agg #[.int .i64 st, .string h, .int .i64 ke, .int .i64 ep, .int .i64 op, .int .i64 n, .string s, .slice a len cap, .int .i64 oq, .int .i64 m, .string r, .slice c lem cat, .int .i64 i, .int .i64 o, .bool tl, .slice g l.length gc]] w fun e w' => e = .returned (.bool (serverB st h ke ep t u i o tl l)) ∧ Below w.heap.size w w' := by
  have gh := hide (fun v => hostI h v hh)
  have gg := hide (fun v hv => gotI l g gc v hv hsl)
  have gk := hide (fun v hv => shareI u st h ke ep op n s a len cap oq m r c lem cat i o tl g l.length gc v hv hsu)
  have gc_ := hide (fun v hv => ok10 t op n s a len cap v hv hst)
  have hb0 := abC (w := w) (.cells #[.int .i64 st, .string h, .int .i64 ke, .int .i64 ep, .int .i64 op, .int .i64 n, .string s, .slice a len cap, .int .i64 oq, .int .i64 m, .string r, .slice c lem cat, .int .i64 i, .int .i64 o, .bool tl, .slice g l.length gc] 115)
  have HB0 := hide hb0
  have HL := hide (hl.below hb0)
  have HU := hide (hu.below hb0)
  have HI := hide (hi.on hb0)
  have HX := hide (RowS.new 115 w st h ke ep op n s a len cap oq m r c lem cat i o tl g l.length gc)
  clear hl hu hi hb0 hst hsu hsl hh
  by_cases h1 : 1 ≤ st
  · by_cases h5 : st ≤ 5
    · have hS : inB st 1 5 = true := decide_eq_true ⟨h1, h5⟩
      go_enter Tryz.func138, Tryz.ntmps138
      go_wp2_with fail
      refine (unhide gh _).mono ?_
      rintro e wx1 ⟨rfl, hbq⟩
      have HB1 := hide hbq
      clear hbq
      obtain ⟨c0, c1, c2, c3, c4, c5, c6, c7, c8, c9, c10, c11, c12, c13, c14, c15⟩ := ((unhide HX).below (unhide HB1)).facts
      cases hB0 : hostB h with
      | false =>
        go_wp2_with fail
        go_ret
        exact ⟨retB (by rw [serverB_impl]; simp [hB0]), btC (unhide HB0) (unhide HB1)⟩
      | true =>
        go_wp2_with fail
        refine (atomI ke _).mono ?_
        rintro e wz1 ⟨rfl, rfl⟩
        cases hB1 : inB ke 0 1000000 with
        | false =>
          go_wp2_with fail
          go_ret
          exact ⟨retB (by rw [serverB_impl]; simp [hB1]), btC (unhide HB0) (unhide HB1)⟩
        | true =>
          go_wp2_with fail
          refine (atomI ep _).mono ?_
          rintro e wz2 ⟨rfl, rfl⟩
          cases hB2 : inB ep 0 1000000 with
          | false =>
            go_wp2_with fail
            go_ret
            exact ⟨retB (by rw [serverB_impl]; simp [hB2]), btC (unhide HB0) (unhide HB1)⟩
          | true =>
            go_wp2_with fail
            refine (unhide gg _ ((unhide HI).on (unhide HB1))).mono ?_
            rintro e wz3 ⟨rfl, rfl⟩
            cases hB3 : (gotB l && decide (l.length ≤ 20)) with
            | false =>
              go_wp2_with fail
              go_ret
              exact ⟨retB (by rw [serverB_impl]; simp [hB3]), btC (unhide HB0) (unhide HB1)⟩
            | true =>
              go_wp2_with fail
              refine (unhide gc_ _ ((unhide HL).below (unhide HB1))).mono ?_
              rintro e wx2 ⟨rfl, hbq⟩
              have HB2 := hide (btC (unhide HB1) hbq)
              clear hbq c0 c1 c2 c3 c4 c5 c6 c7 c8 c9 c10 c11 c12 c13 c14 c15
              obtain ⟨c0, c1, c2, c3, c4, c5, c6, c7, c8, c9, c10, c11, c12, c13, c14, c15⟩ := ((unhide HX).below (unhide HB2)).facts
              cases hB4 : okT t with
              | false =>
                go_wp2_with fail
                go_ret
                exact ⟨retB (by rw [serverB_impl]; simp [hB4]), btC (unhide HB0) (unhide HB2)⟩
              | true =>
                go_wp2_with fail
                refine (unhide gk _ ((unhide HU).below (unhide HB2))).mono ?_
                rintro e wx3 ⟨rfl, hbq⟩
                have HB3 := hide (btC (unhide HB2) hbq)
                clear hbq c0 c1 c2 c3 c4 c5 c6 c7 c8 c9 c10 c11 c12 c13 c14 c15
                obtain ⟨c0, c1, c2, c3, c4, c5, c6, c7, c8, c9, c10, c11, c12, c13, c14, c15⟩ := ((unhide HX).below (unhide HB3)).facts
                cases hB5 : svB st tl u with
                | false =>
                  go_wp2_with fail
                  go_ret
                  exact ⟨retB (by rw [serverB_impl]; simp [hB5]), btC (unhide HB0) (unhide HB3)⟩
                | true =>
                  go_wp2_with fail
                  refine (cntI i _).mono ?_
                  rintro e wz6 ⟨rfl, rfl⟩
                  cases hB6 : inB i 0 100 with
                  | false =>
                    go_wp2_with fail
                    go_ret
                    exact ⟨retB (by rw [serverB_impl]; simp [hB6]), btC (unhide HB0) (unhide HB3)⟩
                  | true =>
                    go_wp2_with fail
                    refine (cntI o _).mono ?_
                    rintro e wz7 ⟨rfl, rfl⟩
                    cases hB7 : inB o 0 100 with
                    | false =>
                      go_wp2_with fail
                      go_ret
                      exact ⟨retB (by rw [serverB_impl]; simp [hB7]), btC (unhide HB0) (unhide HB3)⟩
                    | true =>
                      go_wp2_with fail
                      go_ret
                      exact ⟨retB (by rw [serverB_impl]; simp only [hB0, hB1, hB2, hB3, hB4, hB5, hB6, hB7, hS]; rfl), btC (unhide HB0) (unhide HB3)⟩
    · have HE : Hid (serverB st h ke ep t u i o tl l = false) := by
        show _ = _
        simp [serverB, show inB st 1 5 = false from decide_eq_false (by omega)]
      go_enter Tryz.func138, Tryz.ntmps138
      go_wp2_with fail
      go_ret
      exact ⟨retB (unhide HE), unhide HB0⟩
  · have HE : Hid (serverB st h ke ep t u i o tl l = false) := by
      show _ = _
      simp [serverB, show inB st 1 5 = false from decide_eq_false (by omega)]
    go_enter Tryz.func138, Tryz.ntmps138
    go_wp2_with fail
    go_ret
    exact ⟨retB (unhide HE), unhide HB0⟩

end Go.Proofs.YtbbidjckplpaiaaGreatDoor
