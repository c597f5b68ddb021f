/- impl.standingOk, walked. -/
import Derived.Test.YtfeolcefgciflaaCl
namespace Go.Proofs.Ytfeolcefgciflaa
open Go.RowKit Go.Deep

set_option maxRecDepth 100000 in
set_option maxHeartbeats 2000000 in
theorem standOkI (t : Tm) (st : Int) (h : ByteArray) (mu : Bool) (ep bo op n : Int) (s : ByteArray) (a : Option Addr) (len cap : Nat) (i o : Int) (tl pr : Bool) (w : World) (hl : Lies w 0 t (tmCells op n s a len cap)) (hsz : t.size ≤ 2097152) :
    Calls Try.prog 24 #[.agg #[.int .i64 st, .string h, .bool mu, .int .i64 ep, .int .i64 bo, .int .i64 op, .int .i64 n, .string s, .slice a len cap, .int .i64 i, .int .i64 o, .bool tl, .bool pr]] w fun e w' => e = .returned (.bool (standB t tl pr)) ∧ Below w.heap.size w w' := by
  have gof := hide (fun v => standing v st h mu ep bo op n s a len cap i o tl pr)
  have gs := hide (fun v hv hz => same15 t zeroT op n s a len cap 0 0 ByteArray.empty none 0 0 v hv hz hsz)
  have gk := hide (fun v hv => ok10 t op n s a len cap v hv hsz)
  have hb0 : Below w.heap.size w ((w.alloc (.cells #[.int .i64 st, .string h, .bool mu, .int .i64 ep, .int .i64 bo, .int .i64 op, .int .i64 n, .string s, .slice a len cap, .int .i64 i, .int .i64 o, .bool tl, .bool pr] 33)).alloc (.cells #[.bool false, .bool false] 55)) := btC (abC _) (abC _)
  have HB0 := hide hb0
  have HL := hide (hl.below hb0)
  have HX := hide ((RowK.new 33 w st h mu ep bo op n s a len cap i o tl pr).below (abC (.cells #[.bool false, .bool false] 55)))
  have HF : Hid (RowF ((w.alloc (.cells #[.int .i64 st, .string h, .bool mu, .int .i64 ep, .int .i64 bo, .int .i64 op, .int .i64 n, .string s, .slice a len cap, .int .i64 i, .int .i64 o, .bool tl, .bool pr] 33)).alloc (.cells #[.bool false, .bool false] 55)) (w.heap.size + 1) false false) := by
    have := heap_alloc_new (w.alloc (.cells #[.int .i64 st, .string h, .bool mu, .int .i64 ep, .int .i64 bo, .int .i64 op, .int .i64 n, .string s, .slice a len cap, .int .i64 i, .int .i64 o, .bool tl, .bool pr] 33)) (.cells #[.bool false, .bool false] 55)
    rwa [heap_size_alloc] at this
  clear hb0 hl
  have HQ := hide (eql55 tl pr)
  cases tl with
  | false =>
    cases pr with
    | false =>
      have HE : Hid (standB t false false = sameB t zeroT) := by show _ = _; simp [standB]
      generalize sameB t zeroT = Z at *
      have hq : ∀ z, (binOp BinOp.eql 55 (.agg #[.bool false, .bool false]) (.agg #[.bool false, .bool false])).run Try.prog z = .ok (.bool true) z := fun z => unhide HQ z
      go_enter Try.func24, Try.ntmps24
      go_wp2_with fail
      first | go_region_with (first
        | (go_at_call 34
           refine (unhide gof _).mono ?_
           rintro e w2 ⟨rfl, hb2⟩
           have hb2' := hide (below_drewC hb2)
           clear hb2
           obtain ⟨c0, c1, c2, c3, c4, c5, c6, c7, c8, c9, c10, c11, c12⟩ := ((unhide HX).below (unhide hb2')).facts
           obtain ⟨q0, q1⟩ := (unhide HF).facts (unhide hb2'))) | fail
      all_goals
        go_wp2_with fail
        refine (unhide gs _ ((unhide HL).below (unhide hb2')) (lies_leaf _ 0 0 ByteArray.empty (by simp) rfl rfl)).mono ?_
        rintro e w3 ⟨rfl, hb3⟩
        have HB3 := hide (btC (unhide hb2') hb3)
        clear hb3
        go_wp2_with fail
        go_ret
        exact ⟨retB (unhide HE), btC (unhide HB0) (unhide HB3)⟩
    | true =>
      have hq : ∀ z, (binOp BinOp.eql 55 (.agg #[.bool false, .bool true]) (.agg #[.bool false, .bool false])).run Try.prog z = .ok (.bool false) z := fun z => unhide HQ z
      go_enter Try.func24, Try.ntmps24
      go_wp2_with fail
      first | go_region_with (first
        | (go_at_call 34
           refine (unhide gof _).mono ?_
           rintro e w2 ⟨rfl, hb2⟩
           have hb2' := hide (below_drewC hb2)
           clear hb2
           obtain ⟨c0, c1, c2, c3, c4, c5, c6, c7, c8, c9, c10, c11, c12⟩ := ((unhide HX).below (unhide hb2')).facts
           obtain ⟨q0, q1⟩ := (unhide HF).facts (unhide hb2'))) | fail
      all_goals
        go_wp2_with fail
        go_ret
        exact ⟨retB (by simp [standB]), btC (unhide HB0) (unhide hb2')⟩
  | true =>
    have HE : Hid (standB t true pr = okT t) := by show _ = _; simp [standB]
    generalize okT t = Z at *
    cases pr
    · have hq : ∀ z, (binOp BinOp.eql 55 (.agg #[.bool true, .bool false]) (.agg #[.bool false, .bool false])).run Try.prog z = .ok (.bool false) z := fun z => unhide HQ z
      go_enter Try.func24, Try.ntmps24
      go_wp2_with fail
      first | go_region_with (first
        | (go_at_call 34
           refine (unhide gof _).mono ?_
           rintro e w2 ⟨rfl, hb2⟩
           have hb2' := hide (below_drewC hb2)
           clear hb2
           obtain ⟨c0, c1, c2, c3, c4, c5, c6, c7, c8, c9, c10, c11, c12⟩ := ((unhide HX).below (unhide hb2')).facts
           obtain ⟨q0, q1⟩ := (unhide HF).facts (unhide hb2'))) | fail
      all_goals
        go_wp2_with fail
        refine (unhide gk _ ((unhide HL).below (unhide hb2'))).mono ?_
        rintro e w3 ⟨rfl, hb3⟩
        have HB3 := hide (btC (unhide hb2') hb3)
        clear hb3 c0 c1 c2 c3 c4 c5 c6 c7 c8 c9 c10 c11 c12
        obtain ⟨c0, c1, c2, c3, c4, c5, c6, c7, c8, c9, c10, c11, c12⟩ := ((unhide HX).below (unhide HB3)).facts
        go_wp2_with fail
        go_ret
        exact ⟨retB (unhide HE), btC (unhide HB0) (unhide HB3)⟩
    · have hq : ∀ z, (binOp BinOp.eql 55 (.agg #[.bool true, .bool true]) (.agg #[.bool false, .bool false])).run Try.prog z = .ok (.bool false) z := fun z => unhide HQ z
      go_enter Try.func24, Try.ntmps24
      go_wp2_with fail
      first | go_region_with (first
        | (go_at_call 34
           refine (unhide gof _).mono ?_
           rintro e w2 ⟨rfl, hb2⟩
           have hb2' := hide (below_drewC hb2)
           clear hb2
           obtain ⟨c0, c1, c2, c3, c4, c5, c6, c7, c8, c9, c10, c11, c12⟩ := ((unhide HX).below (unhide hb2')).facts
           obtain ⟨q0, q1⟩ := (unhide HF).facts (unhide hb2'))) | fail
      all_goals
        go_wp2_with fail
        refine (unhide gk _ ((unhide HL).below (unhide hb2'))).mono ?_
        rintro e w3 ⟨rfl, hb3⟩
        have HB3 := hide (btC (unhide hb2') hb3)
        clear hb3 c0 c1 c2 c3 c4 c5 c6 c7 c8 c9 c10 c11 c12
        obtain ⟨c0, c1, c2, c3, c4, c5, c6, c7, c8, c9, c10, c11, c12⟩ := ((unhide HX).below (unhide HB3)).facts
        go_wp2_with fail
        go_ret
        exact ⟨retB (unhide HE), btC (unhide HB0) (unhide HB3)⟩


end Go.Proofs.Ytfeolcefgciflaa
