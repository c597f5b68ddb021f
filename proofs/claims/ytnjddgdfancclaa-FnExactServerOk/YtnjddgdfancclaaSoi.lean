/- impl.ServerOk, walked. -/
import Derived.Test.YtnjddgdfancclaaSp
namespace Go.Proofs.Ytnjddgdfancclaa
open Go.RowKit Go.Deep

theorem serverB_impl (st : Int) (h : ByteArray) (ke ep : Int) (t u : Tm) (i o : Int) (tl : Bool) (l : List Int) :
    serverB st h ke ep t u i o tl l = (inB st 1 5 && (hostB h && (inB ke 0 1000000 && (inB ep 0 1000000 && ((gotB l && decide (l.length ≤ 20)) && (okT t && (svB st tl u && (inB i 0 100 && inB o 0 100)))))))) := by
  unfold serverB
  simp only [Bool.and_assoc]

set_option maxRecDepth 100000 in
set_option maxHeartbeats 4000000 in
theorem serverI (t u : Tm) (l : List Int) (st : Int) (h : ByteArray) (ke : Int) (ep : Int) (op : Int) (n : Int) (s : ByteArray) (a : Option Addr) (len : Nat) (cap : Nat) (oq : Int) (m : Int) (r : ByteArray) (c : Option Addr) (lem : Nat) (cat : Nat) (i : Int) (o : Int) (tl : Bool) (g : Option Addr) (gc : Nat) (w : World) (hl : Lies w 0 t (tmCells op n s a len cap)) (hu : Lies w 0 u (tmCells oq m r c lem cat)) (hi : Ints w 0 g l) (hst : t.size ≤ 2097152) (hsu : u.size ≤ 2097152) (hsl : l.length ≤ 2097152) (hh : h.size ≤ 2097152) :
    Calls Try.prog 7 #[.agg #[.int .i64 st, .string h, .int .i64 ke, .int .i64 ep, .int .i64 op, .int .i64 n, .string s, .slice a len cap, .int .i64 oq, .int .i64 m, .string r, .slice c lem cat, .int .i64 i, .int .i64 o, .bool tl, .slice g l.length gc]] w fun e w' => e = .returned (.bool (serverB st h ke ep t u i o tl l)) ∧ Below w.heap.size w w' := by
  have gh := hide (fun v => hostI h v hh)
  have gg := hide (fun v hv => gotI l g gc v hv hsl)
  have gk := hide (fun v hv => shareI u st h ke ep op n s a len cap oq m r c lem cat i o tl g l.length gc v hv hsu)
  have gc_ := hide (fun v hv => ok10 t op n s a len cap v hv hst)
  have hb0 := abC (w := w) (.cells #[.int .i64 st, .string h, .int .i64 ke, .int .i64 ep, .int .i64 op, .int .i64 n, .string s, .slice a len cap, .int .i64 oq, .int .i64 m, .string r, .slice c lem cat, .int .i64 i, .int .i64 o, .bool tl, .slice g l.length gc] 34)
  have HB0 := hide hb0
  have HL := hide (hl.below hb0)
  have HU := hide (hu.below hb0)
  have HI := hide (hi.on hb0)
  have HX := hide (RowS.new 34 w st h ke ep op n s a len cap oq m r c lem cat i o tl g l.length gc)
  clear hl hu hi hb0 hst hsu hsl hh
  by_cases h1 : 1 ≤ st
  · by_cases h5 : st ≤ 5
    · have hS : inB st 1 5 = true := decide_eq_true ⟨h1, h5⟩
      go_enter Try.func7, Try.ntmps7
      go_wp2_with fail
      refine (unhide gh _).mono ?_
      rintro e wx1 ⟨rfl, hbq⟩
      have HB1 := hide hbq
      clear hbq
      obtain ⟨c0, c1, c2, c3, c4, c5, c6, c7, c8, c9, c10, c11, c12, c13, c14, c15⟩ := ((unhide HX).below (unhide HB1)).facts
      cases hB0 : hostB h with
      | false =>
        go_wp2_with fail
        go_ret
        exact ⟨retB (by rw [serverB_impl]; simp [hB0]), btC (unhide HB0) (unhide HB1)⟩
      | true =>
        go_wp2_with fail
        refine (atomI ke _).mono ?_
        rintro e wz1 ⟨rfl, rfl⟩
        cases hB1 : inB ke 0 1000000 with
        | false =>
          go_wp2_with fail
          go_ret
          exact ⟨retB (by rw [serverB_impl]; simp [hB1]), btC (unhide HB0) (unhide HB1)⟩
        | true =>
          go_wp2_with fail
          refine (atomI ep _).mono ?_
          rintro e wz2 ⟨rfl, rfl⟩
          cases hB2 : inB ep 0 1000000 with
          | false =>
            go_wp2_with fail
            go_ret
            exact ⟨retB (by rw [serverB_impl]; simp [hB2]), btC (unhide HB0) (unhide HB1)⟩
          | true =>
            go_wp2_with fail
            refine (unhide gg _ ((unhide HI).on (unhide HB1))).mono ?_
            rintro e wz3 ⟨rfl, rfl⟩
            cases hB3 : (gotB l && decide (l.length ≤ 20)) with
            | false =>
              go_wp2_with fail
              go_ret
              exact ⟨retB (by rw [serverB_impl]; simp [hB3]), btC (unhide HB0) (unhide HB1)⟩
            | true =>
              go_wp2_with fail
              refine (unhide gc_ _ ((unhide HL).below (unhide HB1))).mono ?_
              rintro e wx2 ⟨rfl, hbq⟩
              have HB2 := hide (btC (unhide HB1) hbq)
              clear hbq c0 c1 c2 c3 c4 c5 c6 c7 c8 c9 c10 c11 c12 c13 c14 c15
              obtain ⟨c0, c1, c2, c3, c4, c5, c6, c7, c8, c9, c10, c11, c12, c13, c14, c15⟩ := ((unhide HX).below (unhide HB2)).facts
              cases hB4 : okT t with
              | false =>
                go_wp2_with fail
                go_ret
                exact ⟨retB (by rw [serverB_impl]; simp [hB4]), btC (unhide HB0) (unhide HB2)⟩
              | true =>
                go_wp2_with fail
                refine (unhide gk _ ((unhide HU).below (unhide HB2))).mono ?_
                rintro e wx3 ⟨rfl, hbq⟩
                have HB3 := hide (btC (unhide HB2) hbq)
                clear hbq c0 c1 c2 c3 c4 c5 c6 c7 c8 c9 c10 c11 c12 c13 c14 c15
                obtain ⟨c0, c1, c2, c3, c4, c5, c6, c7, c8, c9, c10, c11, c12, c13, c14, c15⟩ := ((unhide HX).below (unhide HB3)).facts
                cases hB5 : svB st tl u with
                | false =>
                  go_wp2_with fail
                  go_ret
                  exact ⟨retB (by rw [serverB_impl]; simp [hB5]), btC (unhide HB0) (unhide HB3)⟩
                | true =>
                  go_wp2_with fail
                  refine (cntI i _).mono ?_
                  rintro e wz6 ⟨rfl, rfl⟩
                  cases hB6 : inB i 0 100 with
                  | false =>
                    go_wp2_with fail
                    go_ret
                    exact ⟨retB (by rw [serverB_impl]; simp [hB6]), btC (unhide HB0) (unhide HB3)⟩
                  | true =>
                    go_wp2_with fail
                    refine (cntI o _).mono ?_
                    rintro e wz7 ⟨rfl, rfl⟩
                    cases hB7 : inB o 0 100 with
                    | false =>
                      go_wp2_with fail
                      go_ret
                      exact ⟨retB (by rw [serverB_impl]; simp [hB7]), btC (unhide HB0) (unhide HB3)⟩
                    | true =>
                      go_wp2_with fail
                      go_ret
                      exact ⟨retB (by rw [serverB_impl]; simp only [hB0, hB1, hB2, hB3, hB4, hB5, hB6, hB7, hS]; rfl), btC (unhide HB0) (unhide HB3)⟩
    · have HE : Hid (serverB st h ke ep t u i o tl l = false) := by
        show _ = _
        simp [serverB, show inB st 1 5 = false from decide_eq_false (by omega)]
      go_enter Try.func7, Try.ntmps7
      go_wp2_with fail
      go_ret
      exact ⟨retB (unhide HE), unhide HB0⟩
  · have HE : Hid (serverB st h ke ep t u i o tl l = false) := by
      show _ = _
      simp [serverB, show inB st 1 5 = false from decide_eq_false (by omega)]
    go_enter Try.func7, Try.ntmps7
    go_wp2_with fail
    go_ret
    exact ⟨retB (unhide HE), unhide HB0⟩

end Go.Proofs.Ytnjddgdfancclaa
