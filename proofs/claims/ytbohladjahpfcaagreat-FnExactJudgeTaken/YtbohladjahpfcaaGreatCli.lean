
/- impl.ClientOk, walked. -/
import Derived.Test.YtbohladjahpfcaaGreatClt
import Derived.Test.YtbohladjahpfcaaGreatClu
namespace Go.Proofs.YtbohladjahpfcaaGreat
open Go.RowKit Go.Deep

set_option maxRecDepth 100000 in
set_option maxHeartbeats 2000000 in
theorem clientI (t : Tm) (st : Int) (h : ByteArray) (mu : Bool) (ep bo op n : Int) (s : ByteArray) (a : Option Addr) (len cap : Nat) (i o : Int) (tl pr : Bool) (w : World) (hl : Lies w 0 t (tmCells op n s a len cap)) (hsz : t.size ≤ 2097152) (hh : h.size ≤ 2097152) :
    Calls Tryz.prog 131 #[.agg #[.int .i64 st, .string h, .bool mu, .int .i64 ep, .int .i64 bo, .int .i64 op, .int .i64 n, .string s, .slice a len cap, .int .i64 i, .int .i64 o, .bool tl, .bool pr]] w fun e w' => e = .returned (.bool (clientB st h mu ep bo t i o tl pr)) ∧ Below w.heap.size w w' := by
  have g0 := hide (fun v => stepOkI st h mu ep bo op n s a len cap i o tl pr v)
  have g1 := hide (fun v => hostI h v hh)
  have g2 := hide (fun v => atomI ep v)
  have g3 := hide (fun v => atomI bo v)
  have g4 := hide (fun v => cntI i v)
  have g5 := hide (fun v => cntI o v)
  have gd := hide (fun v hv => standOkI t st h mu ep bo op n s a len cap i o tl pr v hv hsz)
  have hb0 := abC (w := w) (.cells #[.int .i64 st, .string h, .bool mu, .int .i64 ep, .int .i64 bo, .int .i64 op, .int .i64 n, .string s, .slice a len cap, .int .i64 i, .int .i64 o, .bool tl, .bool pr] 54)
  have HB0 := hide hb0
  have HL := hide (hl.below hb0)
  have HX := hide (RowK.new 54 w st h mu ep bo op n s a len cap i o tl pr)
  clear hl hb0
  cases hB0 : stepB st mu tl pr with
  | false =>
    have HE : Hid (clientB st h mu ep bo t i o tl pr = false) := by show _ = _; rw [clientB_impl]; simp [hB0]
    rw [hB0] at g0
    clear hB0
    go_enter Tryz.func131, Tryz.ntmps131
    go_wp2_with fail
    refine (unhide g0 _).mono ?_
    rintro e w1 ⟨rfl, hb1⟩
    obtain ⟨c0, c1, c2, c3, c4, c5, c6, c7, c8, c9, c10, c11, c12⟩ := ((unhide HX).below hb1).facts
    have HB1 := hide hb1
    clear hb1
    go_wp2_with fail
    go_ret
    exact ⟨retB (unhide HE), btC (unhide HB0) (unhide HB1)⟩
  | true =>
    rw [hB0] at g0
    cases hB1 : hostB h with
    | false =>
      have HE : Hid (clientB st h mu ep bo t i o tl pr = false) := by show _ = _; rw [clientB_impl]; simp [hB1]
      rw [hB1] at g1
      clear hB0 hB1
      go_enter Tryz.func131, Tryz.ntmps131
      go_wp2_with fail
      refine (unhide g0 _).mono ?_
      rintro e w1 ⟨rfl, hb1⟩
      obtain ⟨c0, c1, c2, c3, c4, c5, c6, c7, c8, c9, c10, c11, c12⟩ := ((unhide HX).below hb1).facts
      have HB1 := hide hb1
      clear hb1
      go_wp2_with fail
      refine (unhide g1 _).mono ?_
      rintro e w2 ⟨rfl, hb2⟩
      have HB2 := hide (btC (unhide HB1) hb2)
      clear hb2 c0 c1 c2 c3 c4 c5 c6 c7 c8 c9 c10 c11 c12
      obtain ⟨c0, c1, c2, c3, c4, c5, c6, c7, c8, c9, c10, c11, c12⟩ := ((unhide HX).below (unhide HB2)).facts
      go_wp2_with fail
      go_ret
      exact ⟨retB (unhide HE), btC (unhide HB0) (unhide HB2)⟩
    | true =>
      rw [hB1] at g1
      cases hB2 : inB ep 0 1000000 with
      | false =>
        have HE : Hid (clientB st h mu ep bo t i o tl pr = false) := by show _ = _; rw [clientB_impl]; simp [hB2]
        rw [hB2] at g2
        clear hB0 hB1 hB2
        go_enter Tryz.func131, Tryz.ntmps131
        go_wp2_with fail
        refine (unhide g0 _).mono ?_
        rintro e w1 ⟨rfl, hb1⟩
        obtain ⟨c0, c1, c2, c3, c4, c5, c6, c7, c8, c9, c10, c11, c12⟩ := ((unhide HX).below hb1).facts
        have HB1 := hide hb1
        clear hb1
        go_wp2_with fail
        refine (unhide g1 _).mono ?_
        rintro e w2 ⟨rfl, hb2⟩
        have HB2 := hide (btC (unhide HB1) hb2)
        clear hb2 c0 c1 c2 c3 c4 c5 c6 c7 c8 c9 c10 c11 c12
        obtain ⟨c0, c1, c2, c3, c4, c5, c6, c7, c8, c9, c10, c11, c12⟩ := ((unhide HX).below (unhide HB2)).facts
        go_wp2_with fail
        refine (unhide g2 _).mono ?_
        rintro e wz2 ⟨rfl, rfl⟩
        go_wp2_with fail
        go_ret
        exact ⟨retB (unhide HE), btC (unhide HB0) (unhide HB2)⟩
      | true =>
        rw [hB2] at g2
        cases hB3 : inB bo 0 1000000 with
        | false =>
          have HE : Hid (clientB st h mu ep bo t i o tl pr = false) := by show _ = _; rw [clientB_impl]; simp [hB3]
          rw [hB3] at g3
          clear hB0 hB1 hB2 hB3
          go_enter Tryz.func131, Tryz.ntmps131
          go_wp2_with fail
          refine (unhide g0 _).mono ?_
          rintro e w1 ⟨rfl, hb1⟩
          obtain ⟨c0, c1, c2, c3, c4, c5, c6, c7, c8, c9, c10, c11, c12⟩ := ((unhide HX).below hb1).facts
          have HB1 := hide hb1
          clear hb1
          go_wp2_with fail
          refine (unhide g1 _).mono ?_
          rintro e w2 ⟨rfl, hb2⟩
          have HB2 := hide (btC (unhide HB1) hb2)
          clear hb2 c0 c1 c2 c3 c4 c5 c6 c7 c8 c9 c10 c11 c12
          obtain ⟨c0, c1, c2, c3, c4, c5, c6, c7, c8, c9, c10, c11, c12⟩ := ((unhide HX).below (unhide HB2)).facts
          go_wp2_with fail
          refine (unhide g2 _).mono ?_
          rintro e wz2 ⟨rfl, rfl⟩
          go_wp2_with fail
          refine (unhide g3 _).mono ?_
          rintro e wz3 ⟨rfl, rfl⟩
          go_wp2_with fail
          go_ret
          exact ⟨retB (unhide HE), btC (unhide HB0) (unhide HB2)⟩
        | true =>
          rw [hB3] at g3
          cases hB4 : inB i 0 100 with
          | false =>
            have HE : Hid (clientB st h mu ep bo t i o tl pr = false) := by show _ = _; rw [clientB_impl]; simp [hB4]
            rw [hB4] at g4
            clear hB0 hB1 hB2 hB3 hB4
            go_enter Tryz.func131, Tryz.ntmps131
            go_wp2_with fail
            refine (unhide g0 _).mono ?_
            rintro e w1 ⟨rfl, hb1⟩
            obtain ⟨c0, c1, c2, c3, c4, c5, c6, c7, c8, c9, c10, c11, c12⟩ := ((unhide HX).below hb1).facts
            have HB1 := hide hb1
            clear hb1
            go_wp2_with fail
            refine (unhide g1 _).mono ?_
            rintro e w2 ⟨rfl, hb2⟩
            have HB2 := hide (btC (unhide HB1) hb2)
            clear hb2 c0 c1 c2 c3 c4 c5 c6 c7 c8 c9 c10 c11 c12
            obtain ⟨c0, c1, c2, c3, c4, c5, c6, c7, c8, c9, c10, c11, c12⟩ := ((unhide HX).below (unhide HB2)).facts
            go_wp2_with fail
            refine (unhide g2 _).mono ?_
            rintro e wz2 ⟨rfl, rfl⟩
            go_wp2_with fail
            refine (unhide g3 _).mono ?_
            rintro e wz3 ⟨rfl, rfl⟩
            go_wp2_with fail
            refine (unhide g4 _).mono ?_
            rintro e wz4 ⟨rfl, rfl⟩
            go_wp2_with fail
            go_ret
            exact ⟨retB (unhide HE), btC (unhide HB0) (unhide HB2)⟩
          | true =>
            rw [hB4] at g4
            cases hB5 : inB o 0 100 with
            | false =>
              have HE : Hid (clientB st h mu ep bo t i o tl pr = false) := by show _ = _; rw [clientB_impl]; simp [hB5]
              rw [hB5] at g5
              clear hB0 hB1 hB2 hB3 hB4 hB5
              go_enter Tryz.func131, Tryz.ntmps131
              go_wp2_with fail
              refine (unhide g0 _).mono ?_
              rintro e w1 ⟨rfl, hb1⟩
              obtain ⟨c0, c1, c2, c3, c4, c5, c6, c7, c8, c9, c10, c11, c12⟩ := ((unhide HX).below hb1).facts
              have HB1 := hide hb1
              clear hb1
              go_wp2_with fail
              refine (unhide g1 _).mono ?_
              rintro e w2 ⟨rfl, hb2⟩
              have HB2 := hide (btC (unhide HB1) hb2)
              clear hb2 c0 c1 c2 c3 c4 c5 c6 c7 c8 c9 c10 c11 c12
              obtain ⟨c0, c1, c2, c3, c4, c5, c6, c7, c8, c9, c10, c11, c12⟩ := ((unhide HX).below (unhide HB2)).facts
              go_wp2_with fail
              refine (unhide g2 _).mono ?_
              rintro e wz2 ⟨rfl, rfl⟩
              go_wp2_with fail
              refine (unhide g3 _).mono ?_
              rintro e wz3 ⟨rfl, rfl⟩
              go_wp2_with fail
              refine (unhide g4 _).mono ?_
              rintro e wz4 ⟨rfl, rfl⟩
              go_wp2_with fail
              refine (unhide g5 _).mono ?_
              rintro e wz5 ⟨rfl, rfl⟩
              go_wp2_with fail
              go_ret
              exact ⟨retB (unhide HE), btC (unhide HB0) (unhide HB2)⟩
            | true =>
              rw [hB5] at g5
              have HE : Hid (clientB st h mu ep bo t i o tl pr = standB t tl pr) := by show _ = _; rw [clientB_impl]; simp [hB0, hB1, hB2, hB3, hB4, hB5]
              clear hB0 hB1 hB2 hB3 hB4 hB5
              generalize standB t tl pr = Z at *
              go_enter Tryz.func131, Tryz.ntmps131
              go_wp2_with fail
              refine (unhide g0 _).mono ?_
              rintro e w1 ⟨rfl, hb1⟩
              obtain ⟨c0, c1, c2, c3, c4, c5, c6, c7, c8, c9, c10, c11, c12⟩ := ((unhide HX).below hb1).facts
              have HB1 := hide hb1
              clear hb1
              go_wp2_with fail
              refine (unhide g1 _).mono ?_
              rintro e w2 ⟨rfl, hb2⟩
              have HB2 := hide (btC (unhide HB1) hb2)
              clear hb2 c0 c1 c2 c3 c4 c5 c6 c7 c8 c9 c10 c11 c12
              obtain ⟨c0, c1, c2, c3, c4, c5, c6, c7, c8, c9, c10, c11, c12⟩ := ((unhide HX).below (unhide HB2)).facts
              go_wp2_with fail
              refine (unhide g2 _).mono ?_
              rintro e wz2 ⟨rfl, rfl⟩
              go_wp2_with fail
              refine (unhide g3 _).mono ?_
              rintro e wz3 ⟨rfl, rfl⟩
              go_wp2_with fail
              refine (unhide g4 _).mono ?_
              rintro e wz4 ⟨rfl, rfl⟩
              go_wp2_with fail
              refine (unhide g5 _).mono ?_
              rintro e wz5 ⟨rfl, rfl⟩
              go_wp2_with fail
              refine (unhide gd _ ((unhide HL).below (unhide HB2))).mono ?_
              rintro e w3 ⟨rfl, hb3⟩
              have HB3 := hide (btC (unhide HB2) hb3)
              clear hb3 c0 c1 c2 c3 c4 c5 c6 c7 c8 c9 c10 c11 c12
              go_wp2_with fail
              go_ret
              exact ⟨retB (unhide HE), btC (unhide HB0) (unhide HB3)⟩

end Go.Proofs.YtbohladjahpfcaaGreat
