
/- spec.ClientOk, walked. impl.standingOk, walked. -/
import Derived.Test.YtbbidjckplpaiaaGreatDoorCl
namespace Go.Proofs.YtbbidjckplpaiaaGreatDoor
open Go.RowKit Go.Deep

set_option maxRecDepth 100000 in
set_option maxHeartbeats 2000000 in
theorem clientS (t : Tm) (st : Int) (h : ByteArray) (mu : Bool) (ep bo op n : Int) (s : ByteArray) (a : Option Addr) (len cap : Nat) (i o : Int) (tl pr : Bool) (w : World) (hl : Lies w 0 t (tmCells op n s a len cap)) (hsz : t.size ≤ 2097152) (hh : h.size ≤ 2097152) :
    Calls Tryz.prog 78 #[.agg #[.int .i64 st, .string h, .bool mu, .int .i64 ep, .int .i64 bo, .int .i64 op, .int .i64 n, .string s, .slice a len cap, .int .i64 i, .int .i64 o, .bool tl, .bool pr]] w fun e w' => e = .returned (.bool (clientB st h mu ep bo t i o tl pr)) ∧ Below w.heap.size w w' := by
  have g0 := hide (fun v => in26 st 1 10 v)
  have g1 := hide (fun v => hostS h v hh)
  have g2 := hide (fun v => in26 ep 0 1000000 v)
  have g3 := hide (fun v => in26 bo 0 1000000 v)
  have g4 := hide (fun v => in26 i 0 100 v)
  have g5 := hide (fun v => in26 o 0 100 v)
  have gm := hide (fun v => in26 st 5 9 v)
  have gs := hide (fun v hv hz => sa_calls t zeroT op n s a len cap 0 0 ByteArray.empty none 0 0 v hv hz)
  have gk := hide (fun v hv => ok8 t op n s a len cap v hv hsz)
  have hb0 := abC (w := w) (.cells #[.int .i64 st, .string h, .bool mu, .int .i64 ep, .int .i64 bo, .int .i64 op, .int .i64 n, .string s, .slice a len cap, .int .i64 i, .int .i64 o, .bool tl, .bool pr] 110)
  have HB0 := hide hb0
  have HL := hide (hl.below hb0)
  have HX := hide (RowK.new 110 w st h mu ep bo op n s a len cap i o tl pr)
  clear hl hb0
  cases hB0 : inB st 1 10 with
  | false =>
    have HE : Hid (clientB st h mu ep bo t i o tl pr = false) := by show _ = _; simp [clientB, hB0]
    rw [hB0] at g0
    clear hB0
    go_enter Tryz.func78, Tryz.ntmps78
    go_wp2_with fail
    refine (unhide g0 _).mono ?_
    rintro e wz0 ⟨rfl, rfl⟩
    go_wp2_with fail
    go_ret
    exact ⟨retB (unhide HE), unhide HB0⟩
  | true =>
    rw [hB0] at g0
    cases hB1 : hostB h with
    | false =>
      have HE : Hid (clientB st h mu ep bo t i o tl pr = false) := by show _ = _; simp [clientB, hB1]
      rw [hB1] at g1
      clear hB0 hB1
      go_enter Tryz.func78, Tryz.ntmps78
      go_wp2_with fail
      refine (unhide g0 _).mono ?_
      rintro e wz0 ⟨rfl, rfl⟩
      go_wp2_with fail
      refine (unhide g1 _).mono ?_
      rintro e w2 ⟨rfl, hb2⟩
      obtain ⟨c0, c1, c2, c3, c4, c5, c6, c7, c8, c9, c10, c11, c12⟩ := ((unhide HX).below hb2).facts
      have HB2 := hide hb2
      clear hb2
      go_wp2_with fail
      go_ret
      exact ⟨retB (unhide HE), btC (unhide HB0) (unhide HB2)⟩
    | true =>
      rw [hB1] at g1
      cases hB2 : inB ep 0 1000000 with
      | false =>
        have HE : Hid (clientB st h mu ep bo t i o tl pr = false) := by show _ = _; simp [clientB, hB2]
        rw [hB2] at g2
        clear hB0 hB1 hB2
        go_enter Tryz.func78, Tryz.ntmps78
        go_wp2_with fail
        refine (unhide g0 _).mono ?_
        rintro e wz0 ⟨rfl, rfl⟩
        go_wp2_with fail
        refine (unhide g1 _).mono ?_
        rintro e w2 ⟨rfl, hb2⟩
        obtain ⟨c0, c1, c2, c3, c4, c5, c6, c7, c8, c9, c10, c11, c12⟩ := ((unhide HX).below hb2).facts
        have HB2 := hide hb2
        clear hb2
        go_wp2_with fail
        refine (unhide g2 _).mono ?_
        rintro e wz2 ⟨rfl, rfl⟩
        go_wp2_with fail
        go_ret
        exact ⟨retB (unhide HE), btC (unhide HB0) (unhide HB2)⟩
      | true =>
        rw [hB2] at g2
        cases hB3 : inB bo 0 1000000 with
        | false =>
          have HE : Hid (clientB st h mu ep bo t i o tl pr = false) := by show _ = _; simp [clientB, hB3]
          rw [hB3] at g3
          clear hB0 hB1 hB2 hB3
          go_enter Tryz.func78, Tryz.ntmps78
          go_wp2_with fail
          refine (unhide g0 _).mono ?_
          rintro e wz0 ⟨rfl, rfl⟩
          go_wp2_with fail
          refine (unhide g1 _).mono ?_
          rintro e w2 ⟨rfl, hb2⟩
          obtain ⟨c0, c1, c2, c3, c4, c5, c6, c7, c8, c9, c10, c11, c12⟩ := ((unhide HX).below hb2).facts
          have HB2 := hide hb2
          clear hb2
          go_wp2_with fail
          refine (unhide g2 _).mono ?_
          rintro e wz2 ⟨rfl, rfl⟩
          go_wp2_with fail
          refine (unhide g3 _).mono ?_
          rintro e wz3 ⟨rfl, rfl⟩
          go_wp2_with fail
          go_ret
          exact ⟨retB (unhide HE), btC (unhide HB0) (unhide HB2)⟩
        | true =>
          rw [hB3] at g3
          cases hB4 : inB i 0 100 with
          | false =>
            have HE : Hid (clientB st h mu ep bo t i o tl pr = false) := by show _ = _; simp [clientB, hB4]
            rw [hB4] at g4
            clear hB0 hB1 hB2 hB3 hB4
            go_enter Tryz.func78, Tryz.ntmps78
            go_wp2_with fail
            refine (unhide g0 _).mono ?_
            rintro e wz0 ⟨rfl, rfl⟩
            go_wp2_with fail
            refine (unhide g1 _).mono ?_
            rintro e w2 ⟨rfl, hb2⟩
            obtain ⟨c0, c1, c2, c3, c4, c5, c6, c7, c8, c9, c10, c11, c12⟩ := ((unhide HX).below hb2).facts
            have HB2 := hide hb2
            clear hb2
            go_wp2_with fail
            refine (unhide g2 _).mono ?_
            rintro e wz2 ⟨rfl, rfl⟩
            go_wp2_with fail
            refine (unhide g3 _).mono ?_
            rintro e wz3 ⟨rfl, rfl⟩
            go_wp2_with fail
            refine (unhide g4 _).mono ?_
            rintro e wz4 ⟨rfl, rfl⟩
            go_wp2_with fail
            go_ret
            exact ⟨retB (unhide HE), btC (unhide HB0) (unhide HB2)⟩
          | true =>
            rw [hB4] at g4
            cases hB5 : inB o 0 100 with
            | false =>
              have HE : Hid (clientB st h mu ep bo t i o tl pr = false) := by show _ = _; simp [clientB, hB5]
              rw [hB5] at g5
              clear hB0 hB1 hB2 hB3 hB4 hB5
              go_enter Tryz.func78, Tryz.ntmps78
              go_wp2_with fail
              refine (unhide g0 _).mono ?_
              rintro e wz0 ⟨rfl, rfl⟩
              go_wp2_with fail
              refine (unhide g1 _).mono ?_
              rintro e w2 ⟨rfl, hb2⟩
              obtain ⟨c0, c1, c2, c3, c4, c5, c6, c7, c8, c9, c10, c11, c12⟩ := ((unhide HX).below hb2).facts
              have HB2 := hide hb2
              clear hb2
              go_wp2_with fail
              refine (unhide g2 _).mono ?_
              rintro e wz2 ⟨rfl, rfl⟩
              go_wp2_with fail
              refine (unhide g3 _).mono ?_
              rintro e wz3 ⟨rfl, rfl⟩
              go_wp2_with fail
              refine (unhide g4 _).mono ?_
              rintro e wz4 ⟨rfl, rfl⟩
              go_wp2_with fail
              refine (unhide g5 _).mono ?_
              rintro e wz5 ⟨rfl, rfl⟩
              go_wp2_with fail
              go_ret
              exact ⟨retB (unhide HE), btC (unhide HB0) (unhide HB2)⟩
            | true =>
              rw [hB5] at g5
              have HE : Hid (∀ mu tl pr, clientB st h mu ep bo t i o tl pr = ((if tl then okT t else sameB t zeroT && !pr) && (!mu || (!inB st 5 9 || (tl && pr))))) := by intro mu tl pr; simp [clientB, hB0, hB1, hB2, hB3, hB4, hB5]
              clear hB0 hB1 hB2 hB3 hB4 hB5
              go_enter Tryz.func78, Tryz.ntmps78
              go_wp2_with fail
              refine (unhide g0 _).mono ?_
              rintro e wz0 ⟨rfl, rfl⟩
              go_wp2_with fail
              refine (unhide g1 _).mono ?_
              rintro e w2 ⟨rfl, hb2⟩
              obtain ⟨c0, c1, c2, c3, c4, c5, c6, c7, c8, c9, c10, c11, c12⟩ := ((unhide HX).below hb2).facts
              have HB2 := hide hb2
              clear hb2
              go_wp2_with fail
              refine (unhide g2 _).mono ?_
              rintro e wz2 ⟨rfl, rfl⟩
              go_wp2_with fail
              refine (unhide g3 _).mono ?_
              rintro e wz3 ⟨rfl, rfl⟩
              go_wp2_with fail
              refine (unhide g4 _).mono ?_
              rintro e wz4 ⟨rfl, rfl⟩
              go_wp2_with fail
              refine (unhide g5 _).mono ?_
              rintro e wz5 ⟨rfl, rfl⟩
              go_wp2_with fail
              refine (unhide gs _ ((unhide HL).below (unhide HB2)) (lies_leaf _ 0 0 ByteArray.empty (by simp) rfl rfl)).mono ?_
              rintro e w3 ⟨rfl, hb3⟩
              have HB3 := hide (btC (unhide HB2) hb3)
              clear hb3 c0 c1 c2 c3 c4 c5 c6 c7 c8 c9 c10 c11 c12
              obtain ⟨c0, c1, c2, c3, c4, c5, c6, c7, c8, c9, c10, c11, c12⟩ := ((unhide HX).below (unhide HB3)).facts
              generalize sameB t zeroT = Z at *
              cases tl with
              | false =>
                cases Z with
                | false =>
                  go_wp2_with fail
                  go_ret
                  exact ⟨retB (by rw [unhide HE]; simp), btC (unhide HB0) (unhide HB3)⟩
                | true =>
                  cases pr with
                  | true =>
                    go_wp2_with fail
                    go_ret
                    exact ⟨retB (by rw [unhide HE]; simp), btC (unhide HB0) (unhide HB3)⟩
                  | false =>
                    cases mu with
                    | false =>
                      go_wp2_with fail
                      go_ret
                      exact ⟨retB (by rw [unhide HE]; simp), btC (unhide HB0) (unhide HB3)⟩
                    | true =>
                      cases hI : inB st 5 9 with
                      | false =>
                        rw [hI] at gm
                        go_wp2_with fail
                        refine (unhide gm _).mono ?_
                        rintro e wm ⟨rfl, rfl⟩
                        go_wp2_with fail
                        go_ret
                        exact ⟨retB (by rw [unhide HE]; simp [hI]), btC (unhide HB0) (unhide HB3)⟩
                      | true =>
                        rw [hI] at gm
                        go_wp2_with fail
                        refine (unhide gm _).mono ?_
                        rintro e wm ⟨rfl, rfl⟩
                        go_wp2_with fail
                        go_ret
                        exact ⟨retB (by rw [unhide HE]; simp [hI]), btC (unhide HB0) (unhide HB3)⟩
              | true =>
                cases hK : okT t with
                | false =>
                  rw [hK] at gk
                  go_wp2_with fail
                  refine (unhide gk _ ((unhide HL).below (unhide HB3))).mono ?_
                  rintro e w4 ⟨rfl, hb4⟩
                  have HB4 := hide (btC (unhide HB3) hb4)
                  clear hb4 c0 c1 c2 c3 c4 c5 c6 c7 c8 c9 c10 c11 c12
                  obtain ⟨c0, c1, c2, c3, c4, c5, c6, c7, c8, c9, c10, c11, c12⟩ := ((unhide HX).below (unhide HB4)).facts
                  go_wp2_with fail
                  go_ret
                  exact ⟨retB (by rw [unhide HE]; simp [hK]), btC (unhide HB0) (unhide HB4)⟩
                | true =>
                  rw [hK] at gk
                  cases pr with
                  | false =>
                    go_wp2_with fail
                    refine (unhide gk _ ((unhide HL).below (unhide HB3))).mono ?_
                    rintro e w4 ⟨rfl, hb4⟩
                    have HB4 := hide (btC (unhide HB3) hb4)
                    clear hb4 c0 c1 c2 c3 c4 c5 c6 c7 c8 c9 c10 c11 c12
                    obtain ⟨c0, c1, c2, c3, c4, c5, c6, c7, c8, c9, c10, c11, c12⟩ := ((unhide HX).below (unhide HB4)).facts
                    cases mu with
                    | false =>
                      go_wp2_with fail
                      go_ret
                      exact ⟨retB (by rw [unhide HE]; simp [hK]), btC (unhide HB0) (unhide HB4)⟩
                    | true =>
                      cases hI : inB st 5 9 with
                      | false =>
                        rw [hI] at gm
                        go_wp2_with fail
                        refine (unhide gm _).mono ?_
                        rintro e wm ⟨rfl, rfl⟩
                        go_wp2_with fail
                        go_ret
                        exact ⟨retB (by rw [unhide HE]; simp [hI, hK]), btC (unhide HB0) (unhide HB4)⟩
                      | true =>
                        rw [hI] at gm
                        go_wp2_with fail
                        refine (unhide gm _).mono ?_
                        rintro e wm ⟨rfl, rfl⟩
                        go_wp2_with fail
                        go_ret
                        exact ⟨retB (by rw [unhide HE]; simp [hI, hK]), btC (unhide HB0) (unhide HB4)⟩
                  | true =>
                    go_wp2_with fail
                    refine (unhide gk _ ((unhide HL).below (unhide HB3))).mono ?_
                    rintro e w4 ⟨rfl, hb4⟩
                    have HB4 := hide (btC (unhide HB3) hb4)
                    clear hb4 c0 c1 c2 c3 c4 c5 c6 c7 c8 c9 c10 c11 c12
                    obtain ⟨c0, c1, c2, c3, c4, c5, c6, c7, c8, c9, c10, c11, c12⟩ := ((unhide HX).below (unhide HB4)).facts
                    cases mu with
                    | false =>
                      go_wp2_with fail
                      go_ret
                      exact ⟨retB (by rw [unhide HE]; simp [hK]), btC (unhide HB0) (unhide HB4)⟩
                    | true =>
                      cases hI : inB st 5 9 with
                      | false =>
                        rw [hI] at gm
                        go_wp2_with fail
                        refine (unhide gm _).mono ?_
                        rintro e wm ⟨rfl, rfl⟩
                        go_wp2_with fail
                        go_ret
                        exact ⟨retB (by rw [unhide HE]; simp [hI, hK]), btC (unhide HB0) (unhide HB4)⟩
                      | true =>
                        rw [hI] at gm
                        go_wp2_with fail
                        refine (unhide gm _).mono ?_
                        rintro e wm ⟨rfl, rfl⟩
                        go_wp2_with fail
                        go_ret
                        exact ⟨retB (by rw [unhide HE]; simp [hI, hK]), btC (unhide HB0) (unhide HB4)⟩

set_option maxRecDepth 100000 in
set_option maxHeartbeats 2000000 in
theorem standOkI (t : Tm) (st : Int) (h : ByteArray) (mu : Bool) (ep bo op n : Int) (s : ByteArray) (a : Option Addr) (len cap : Nat) (i o : Int) (tl pr : Bool) (w : World) (hl : Lies w 0 t (tmCells op n s a len cap)) (hsz : t.size ≤ 2097152) :
    Calls Tryz.prog 151 #[.agg #[.int .i64 st, .string h, .bool mu, .int .i64 ep, .int .i64 bo, .int .i64 op, .int .i64 n, .string s, .slice a len cap, .int .i64 i, .int .i64 o, .bool tl, .bool pr]] w fun e w' => e = .returned (.bool (standB t tl pr)) ∧ Below w.heap.size w w' := by
  have gof := hide (fun v => standing v st h mu ep bo op n s a len cap i o tl pr)
  have gs := hide (fun v hv hz => same15 t zeroT op n s a len cap 0 0 ByteArray.empty none 0 0 v hv hz hsz)
  have gk := hide (fun v hv => ok10 t op n s a len cap v hv hsz)
  have hb0 : Below w.heap.size w ((w.alloc (.cells #[.int .i64 st, .string h, .bool mu, .int .i64 ep, .int .i64 bo, .int .i64 op, .int .i64 n, .string s, .slice a len cap, .int .i64 i, .int .i64 o, .bool tl, .bool pr] 110)).alloc (.cells #[.bool false, .bool false] 224)) := btC (abC _) (abC _)
  have HB0 := hide hb0
  have HL := hide (hl.below hb0)
  have HX := hide ((RowK.new 110 w st h mu ep bo op n s a len cap i o tl pr).below (abC (.cells #[.bool false, .bool false] 224)))
  have HF : Hid (RowF ((w.alloc (.cells #[.int .i64 st, .string h, .bool mu, .int .i64 ep, .int .i64 bo, .int .i64 op, .int .i64 n, .string s, .slice a len cap, .int .i64 i, .int .i64 o, .bool tl, .bool pr] 110)).alloc (.cells #[.bool false, .bool false] 224)) (w.heap.size + 1) false false) := by
    have := heap_alloc_new (w.alloc (.cells #[.int .i64 st, .string h, .bool mu, .int .i64 ep, .int .i64 bo, .int .i64 op, .int .i64 n, .string s, .slice a len cap, .int .i64 i, .int .i64 o, .bool tl, .bool pr] 110)) (.cells #[.bool false, .bool false] 224)
    rwa [heap_size_alloc] at this
  clear hb0 hl
  have HQ := hide (eql55 tl pr)
  cases tl with
  | false =>
    cases pr with
    | false =>
      have HE : Hid (standB t false false = sameB t zeroT) := by show _ = _; simp [standB]
      generalize sameB t zeroT = Z at *
      have hq : ∀ z, (binOp BinOp.eql 224 (.agg #[.bool false, .bool false]) (.agg #[.bool false, .bool false])).run Tryz.prog z = .ok (.bool true) z := fun z => unhide HQ z
      go_enter Tryz.func151, Tryz.ntmps151
      go_wp2_with fail
      first | go_region_with (first
        | (go_at_call 161
           refine (unhide gof _).mono ?_
           rintro e w2 ⟨rfl, hb2⟩
           have hb2' := hide (below_drewC hb2)
           clear hb2
           obtain ⟨c0, c1, c2, c3, c4, c5, c6, c7, c8, c9, c10, c11, c12⟩ := ((unhide HX).below (unhide hb2')).facts
           obtain ⟨q0, q1⟩ := (unhide HF).facts (unhide hb2'))) | fail
      all_goals
        go_wp2_with fail
        refine (unhide gs _ ((unhide HL).below (unhide hb2')) (lies_leaf _ 0 0 ByteArray.empty (by simp) rfl rfl)).mono ?_
        rintro e w3 ⟨rfl, hb3⟩
        have HB3 := hide (btC (unhide hb2') hb3)
        clear hb3
        go_wp2_with fail
        go_ret
        exact ⟨retB (unhide HE), btC (unhide HB0) (unhide HB3)⟩
    | true =>
      have hq : ∀ z, (binOp BinOp.eql 224 (.agg #[.bool false, .bool true]) (.agg #[.bool false, .bool false])).run Tryz.prog z = .ok (.bool false) z := fun z => unhide HQ z
      go_enter Tryz.func151, Tryz.ntmps151
      go_wp2_with fail
      first | go_region_with (first
        | (go_at_call 161
           refine (unhide gof _).mono ?_
           rintro e w2 ⟨rfl, hb2⟩
           have hb2' := hide (below_drewC hb2)
           clear hb2
           obtain ⟨c0, c1, c2, c3, c4, c5, c6, c7, c8, c9, c10, c11, c12⟩ := ((unhide HX).below (unhide hb2')).facts
           obtain ⟨q0, q1⟩ := (unhide HF).facts (unhide hb2'))) | fail
      all_goals
        go_wp2_with fail
        go_ret
        exact ⟨retB (by simp [standB]), btC (unhide HB0) (unhide hb2')⟩
  | true =>
    have HE : Hid (standB t true pr = okT t) := by show _ = _; simp [standB]
    generalize okT t = Z at *
    cases pr
    · have hq : ∀ z, (binOp BinOp.eql 224 (.agg #[.bool true, .bool false]) (.agg #[.bool false, .bool false])).run Tryz.prog z = .ok (.bool false) z := fun z => unhide HQ z
      go_enter Tryz.func151, Tryz.ntmps151
      go_wp2_with fail
      first | go_region_with (first
        | (go_at_call 161
           refine (unhide gof _).mono ?_
           rintro e w2 ⟨rfl, hb2⟩
           have hb2' := hide (below_drewC hb2)
           clear hb2
           obtain ⟨c0, c1, c2, c3, c4, c5, c6, c7, c8, c9, c10, c11, c12⟩ := ((unhide HX).below (unhide hb2')).facts
           obtain ⟨q0, q1⟩ := (unhide HF).facts (unhide hb2'))) | fail
      all_goals
        go_wp2_with fail
        refine (unhide gk _ ((unhide HL).below (unhide hb2'))).mono ?_
        rintro e w3 ⟨rfl, hb3⟩
        have HB3 := hide (btC (unhide hb2') hb3)
        clear hb3 c0 c1 c2 c3 c4 c5 c6 c7 c8 c9 c10 c11 c12
        obtain ⟨c0, c1, c2, c3, c4, c5, c6, c7, c8, c9, c10, c11, c12⟩ := ((unhide HX).below (unhide HB3)).facts
        go_wp2_with fail
        go_ret
        exact ⟨retB (unhide HE), btC (unhide HB0) (unhide HB3)⟩
    · have hq : ∀ z, (binOp BinOp.eql 224 (.agg #[.bool true, .bool true]) (.agg #[.bool false, .bool false])).run Tryz.prog z = .ok (.bool false) z := fun z => unhide HQ z
      go_enter Tryz.func151, Tryz.ntmps151
      go_wp2_with fail
      first | go_region_with (first
        | (go_at_call 161
           refine (unhide gof _).mono ?_
           rintro e w2 ⟨rfl, hb2⟩
           have hb2' := hide (below_drewC hb2)
           clear hb2
           obtain ⟨c0, c1, c2, c3, c4, c5, c6, c7, c8, c9, c10, c11, c12⟩ := ((unhide HX).below (unhide hb2')).facts
           obtain ⟨q0, q1⟩ := (unhide HF).facts (unhide hb2'))) | fail
      all_goals
        go_wp2_with fail
        refine (unhide gk _ ((unhide HL).below (unhide hb2'))).mono ?_
        rintro e w3 ⟨rfl, hb3⟩
        have HB3 := hide (btC (unhide hb2') hb3)
        clear hb3 c0 c1 c2 c3 c4 c5 c6 c7 c8 c9 c10 c11 c12
        obtain ⟨c0, c1, c2, c3, c4, c5, c6, c7, c8, c9, c10, c11, c12⟩ := ((unhide HX).below (unhide HB3)).facts
        go_wp2_with fail
        go_ret
        exact ⟨retB (unhide HE), btC (unhide HB0) (unhide HB3)⟩

end Go.Proofs.YtbbidjckplpaiaaGreatDoor
