
/- impl.stepOk, walked. -/
import Derived.Test.YtbbidjckplpaiaaGreatDoorCl
namespace Go.Proofs.YtbbidjckplpaiaaGreatDoor
open Go.RowKit Go.Deep

set_option maxRecDepth 100000 in
set_option maxHeartbeats 2000000 in
theorem stepI5 (h : ByteArray) (mu : Bool) (ep bo op n : Int) (s : ByteArray) (a : Option Addr) (len cap : Nat) (i o : Int) (tl pr : Bool) (w : World) :
    Calls Tryz.prog 149 #[.agg #[.int .i64 5, .string h, .bool mu, .int .i64 ep, .int .i64 bo, .int .i64 op, .int .i64 n, .string s, .slice a len cap, .int .i64 i, .int .i64 o, .bool tl, .bool pr]] w fun e w' => e = .returned (.bool (stepB 5 mu tl pr)) ∧ Below w.heap.size w w' := by
  have gof := hide (fun v => standing v 5 h mu ep bo op n s a len cap i o tl pr)
  have hb0 : Below w.heap.size w ((w.alloc (.cells #[.int .i64 5, .string h, .bool mu, .int .i64 ep, .int .i64 bo, .int .i64 op, .int .i64 n, .string s, .slice a len cap, .int .i64 i, .int .i64 o, .bool tl, .bool pr] 110)).alloc (.cells #[.bool true, .bool true] 224)) := btC (abC _) (abC _)
  have HB0 := hide hb0
  have HX := hide ((RowK.new 110 w 5 h mu ep bo op n s a len cap i o tl pr).below (abC (.cells #[.bool true, .bool true] 224)))
  have HF : Hid (RowF ((w.alloc (.cells #[.int .i64 5, .string h, .bool mu, .int .i64 ep, .int .i64 bo, .int .i64 op, .int .i64 n, .string s, .slice a len cap, .int .i64 i, .int .i64 o, .bool tl, .bool pr] 110)).alloc (.cells #[.bool true, .bool true] 224)) (w.heap.size + 1) true true) := by
    have := heap_alloc_new (w.alloc (.cells #[.int .i64 5, .string h, .bool mu, .int .i64 ep, .int .i64 bo, .int .i64 op, .int .i64 n, .string s, .slice a len cap, .int .i64 i, .int .i64 o, .bool tl, .bool pr] 110)) (.cells #[.bool true, .bool true] 224)
    rwa [heap_size_alloc] at this
  clear hb0
  cases mu with
  | false =>
    go_enter Tryz.func149, Tryz.ntmps149
    go_wp2_with fail
    first | go_region_with (fail) | fail
    all_goals
      go_wp2_with fail
      go_ret
      exact ⟨retB rfl, (unhide HB0).drew⟩
  | true =>
    have HQ := hide (neq55 tl pr)
    cases tl <;> cases pr
    · have hq : ∀ z, (binOp BinOp.neq 224 (.agg #[.bool false, .bool false]) (.agg #[.bool true, .bool true])).run Tryz.prog z = .ok (.bool true) z := fun z => unhide HQ z
      go_enter Tryz.func149, Tryz.ntmps149
      go_wp2_with fail
      first | go_region_with (first
        | (go_at_call 161
           refine (unhide gof _).mono ?_
           rintro e w2 ⟨rfl, hb2⟩
           have hb2' := hide (below_drewC hb2)
           clear hb2
           obtain ⟨c0, c1, c2, c3, c4, c5, c6, c7, c8, c9, c10, c11, c12⟩ := ((unhide HX).below (unhide hb2')).facts
           obtain ⟨q0, q1⟩ := (unhide HF).facts (unhide hb2'))) | fail
      all_goals
        go_wp2_with fail
        go_ret
        exact ⟨retB rfl, btC (unhide HB0) (unhide hb2')⟩
    · have hq : ∀ z, (binOp BinOp.neq 224 (.agg #[.bool false, .bool true]) (.agg #[.bool true, .bool true])).run Tryz.prog z = .ok (.bool true) z := fun z => unhide HQ z
      go_enter Tryz.func149, Tryz.ntmps149
      go_wp2_with fail
      first | go_region_with (first
        | (go_at_call 161
           refine (unhide gof _).mono ?_
           rintro e w2 ⟨rfl, hb2⟩
           have hb2' := hide (below_drewC hb2)
           clear hb2
           obtain ⟨c0, c1, c2, c3, c4, c5, c6, c7, c8, c9, c10, c11, c12⟩ := ((unhide HX).below (unhide hb2')).facts
           obtain ⟨q0, q1⟩ := (unhide HF).facts (unhide hb2'))) | fail
      all_goals
        go_wp2_with fail
        go_ret
        exact ⟨retB rfl, btC (unhide HB0) (unhide hb2')⟩
    · have hq : ∀ z, (binOp BinOp.neq 224 (.agg #[.bool true, .bool false]) (.agg #[.bool true, .bool true])).run Tryz.prog z = .ok (.bool true) z := fun z => unhide HQ z
      go_enter Tryz.func149, Tryz.ntmps149
      go_wp2_with fail
      first | go_region_with (first
        | (go_at_call 161
           refine (unhide gof _).mono ?_
           rintro e w2 ⟨rfl, hb2⟩
           have hb2' := hide (below_drewC hb2)
           clear hb2
           obtain ⟨c0, c1, c2, c3, c4, c5, c6, c7, c8, c9, c10, c11, c12⟩ := ((unhide HX).below (unhide hb2')).facts
           obtain ⟨q0, q1⟩ := (unhide HF).facts (unhide hb2'))) | fail
      all_goals
        go_wp2_with fail
        go_ret
        exact ⟨retB rfl, btC (unhide HB0) (unhide hb2')⟩
    · have hq : ∀ z, (binOp BinOp.neq 224 (.agg #[.bool true, .bool true]) (.agg #[.bool true, .bool true])).run Tryz.prog z = .ok (.bool false) z := fun z => unhide HQ z
      go_enter Tryz.func149, Tryz.ntmps149
      go_wp2_with fail
      first | go_region_with (first
        | (go_at_call 161
           refine (unhide gof _).mono ?_
           rintro e w2 ⟨rfl, hb2⟩
           have hb2' := hide (below_drewC hb2)
           clear hb2
           obtain ⟨c0, c1, c2, c3, c4, c5, c6, c7, c8, c9, c10, c11, c12⟩ := ((unhide HX).below (unhide hb2')).facts
           obtain ⟨q0, q1⟩ := (unhide HF).facts (unhide hb2'))) | fail
      all_goals
        go_wp2_with fail
        go_ret
        exact ⟨retB rfl, btC (unhide HB0) (unhide hb2')⟩

set_option maxRecDepth 100000 in
set_option maxHeartbeats 2000000 in
theorem stepI6 (h : ByteArray) (mu : Bool) (ep bo op n : Int) (s : ByteArray) (a : Option Addr) (len cap : Nat) (i o : Int) (tl pr : Bool) (w : World) :
    Calls Tryz.prog 149 #[.agg #[.int .i64 6, .string h, .bool mu, .int .i64 ep, .int .i64 bo, .int .i64 op, .int .i64 n, .string s, .slice a len cap, .int .i64 i, .int .i64 o, .bool tl, .bool pr]] w fun e w' => e = .returned (.bool (stepB 6 mu tl pr)) ∧ Below w.heap.size w w' := by
  have gof := hide (fun v => standing v 6 h mu ep bo op n s a len cap i o tl pr)
  have hb0 : Below w.heap.size w ((w.alloc (.cells #[.int .i64 6, .string h, .bool mu, .int .i64 ep, .int .i64 bo, .int .i64 op, .int .i64 n, .string s, .slice a len cap, .int .i64 i, .int .i64 o, .bool tl, .bool pr] 110)).alloc (.cells #[.bool true, .bool true] 224)) := btC (abC _) (abC _)
  have HB0 := hide hb0
  have HX := hide ((RowK.new 110 w 6 h mu ep bo op n s a len cap i o tl pr).below (abC (.cells #[.bool true, .bool true] 224)))
  have HF : Hid (RowF ((w.alloc (.cells #[.int .i64 6, .string h, .bool mu, .int .i64 ep, .int .i64 bo, .int .i64 op, .int .i64 n, .string s, .slice a len cap, .int .i64 i, .int .i64 o, .bool tl, .bool pr] 110)).alloc (.cells #[.bool true, .bool true] 224)) (w.heap.size + 1) true true) := by
    have := heap_alloc_new (w.alloc (.cells #[.int .i64 6, .string h, .bool mu, .int .i64 ep, .int .i64 bo, .int .i64 op, .int .i64 n, .string s, .slice a len cap, .int .i64 i, .int .i64 o, .bool tl, .bool pr] 110)) (.cells #[.bool true, .bool true] 224)
    rwa [heap_size_alloc] at this
  clear hb0
  cases mu with
  | false =>
    go_enter Tryz.func149, Tryz.ntmps149
    go_wp2_with fail
    first | go_region_with (fail) | fail
    all_goals
      go_wp2_with fail
      go_ret
      exact ⟨retB rfl, (unhide HB0).drew⟩
  | true =>
    have HQ := hide (neq55 tl pr)
    cases tl <;> cases pr
    · have hq : ∀ z, (binOp BinOp.neq 224 (.agg #[.bool false, .bool false]) (.agg #[.bool true, .bool true])).run Tryz.prog z = .ok (.bool true) z := fun z => unhide HQ z
      go_enter Tryz.func149, Tryz.ntmps149
      go_wp2_with fail
      first | go_region_with (first
        | (go_at_call 161
           refine (unhide gof _).mono ?_
           rintro e w2 ⟨rfl, hb2⟩
           have hb2' := hide (below_drewC hb2)
           clear hb2
           obtain ⟨c0, c1, c2, c3, c4, c5, c6, c7, c8, c9, c10, c11, c12⟩ := ((unhide HX).below (unhide hb2')).facts
           obtain ⟨q0, q1⟩ := (unhide HF).facts (unhide hb2'))) | fail
      all_goals
        go_wp2_with fail
        go_ret
        exact ⟨retB rfl, btC (unhide HB0) (unhide hb2')⟩
    · have hq : ∀ z, (binOp BinOp.neq 224 (.agg #[.bool false, .bool true]) (.agg #[.bool true, .bool true])).run Tryz.prog z = .ok (.bool true) z := fun z => unhide HQ z
      go_enter Tryz.func149, Tryz.ntmps149
      go_wp2_with fail
      first | go_region_with (first
        | (go_at_call 161
           refine (unhide gof _).mono ?_
           rintro e w2 ⟨rfl, hb2⟩
           have hb2' := hide (below_drewC hb2)
           clear hb2
           obtain ⟨c0, c1, c2, c3, c4, c5, c6, c7, c8, c9, c10, c11, c12⟩ := ((unhide HX).below (unhide hb2')).facts
           obtain ⟨q0, q1⟩ := (unhide HF).facts (unhide hb2'))) | fail
      all_goals
        go_wp2_with fail
        go_ret
        exact ⟨retB rfl, btC (unhide HB0) (unhide hb2')⟩
    · have hq : ∀ z, (binOp BinOp.neq 224 (.agg #[.bool true, .bool false]) (.agg #[.bool true, .bool true])).run Tryz.prog z = .ok (.bool true) z := fun z => unhide HQ z
      go_enter Tryz.func149, Tryz.ntmps149
      go_wp2_with fail
      first | go_region_with (first
        | (go_at_call 161
           refine (unhide gof _).mono ?_
           rintro e w2 ⟨rfl, hb2⟩
           have hb2' := hide (below_drewC hb2)
           clear hb2
           obtain ⟨c0, c1, c2, c3, c4, c5, c6, c7, c8, c9, c10, c11, c12⟩ := ((unhide HX).below (unhide hb2')).facts
           obtain ⟨q0, q1⟩ := (unhide HF).facts (unhide hb2'))) | fail
      all_goals
        go_wp2_with fail
        go_ret
        exact ⟨retB rfl, btC (unhide HB0) (unhide hb2')⟩
    · have hq : ∀ z, (binOp BinOp.neq 224 (.agg #[.bool true, .bool true]) (.agg #[.bool true, .bool true])).run Tryz.prog z = .ok (.bool false) z := fun z => unhide HQ z
      go_enter Tryz.func149, Tryz.ntmps149
      go_wp2_with fail
      first | go_region_with (first
        | (go_at_call 161
           refine (unhide gof _).mono ?_
           rintro e w2 ⟨rfl, hb2⟩
           have hb2' := hide (below_drewC hb2)
           clear hb2
           obtain ⟨c0, c1, c2, c3, c4, c5, c6, c7, c8, c9, c10, c11, c12⟩ := ((unhide HX).below (unhide hb2')).facts
           obtain ⟨q0, q1⟩ := (unhide HF).facts (unhide hb2'))) | fail
      all_goals
        go_wp2_with fail
        go_ret
        exact ⟨retB rfl, btC (unhide HB0) (unhide hb2')⟩

set_option maxRecDepth 100000 in
set_option maxHeartbeats 2000000 in
theorem stepI7 (h : ByteArray) (mu : Bool) (ep bo op n : Int) (s : ByteArray) (a : Option Addr) (len cap : Nat) (i o : Int) (tl pr : Bool) (w : World) :
    Calls Tryz.prog 149 #[.agg #[.int .i64 7, .string h, .bool mu, .int .i64 ep, .int .i64 bo, .int .i64 op, .int .i64 n, .string s, .slice a len cap, .int .i64 i, .int .i64 o, .bool tl, .bool pr]] w fun e w' => e = .returned (.bool (stepB 7 mu tl pr)) ∧ Below w.heap.size w w' := by
  have gof := hide (fun v => standing v 7 h mu ep bo op n s a len cap i o tl pr)
  have hb0 : Below w.heap.size w ((w.alloc (.cells #[.int .i64 7, .string h, .bool mu, .int .i64 ep, .int .i64 bo, .int .i64 op, .int .i64 n, .string s, .slice a len cap, .int .i64 i, .int .i64 o, .bool tl, .bool pr] 110)).alloc (.cells #[.bool true, .bool true] 224)) := btC (abC _) (abC _)
  have HB0 := hide hb0
  have HX := hide ((RowK.new 110 w 7 h mu ep bo op n s a len cap i o tl pr).below (abC (.cells #[.bool true, .bool true] 224)))
  have HF : Hid (RowF ((w.alloc (.cells #[.int .i64 7, .string h, .bool mu, .int .i64 ep, .int .i64 bo, .int .i64 op, .int .i64 n, .string s, .slice a len cap, .int .i64 i, .int .i64 o, .bool tl, .bool pr] 110)).alloc (.cells #[.bool true, .bool true] 224)) (w.heap.size + 1) true true) := by
    have := heap_alloc_new (w.alloc (.cells #[.int .i64 7, .string h, .bool mu, .int .i64 ep, .int .i64 bo, .int .i64 op, .int .i64 n, .string s, .slice a len cap, .int .i64 i, .int .i64 o, .bool tl, .bool pr] 110)) (.cells #[.bool true, .bool true] 224)
    rwa [heap_size_alloc] at this
  clear hb0
  cases mu with
  | false =>
    go_enter Tryz.func149, Tryz.ntmps149
    go_wp2_with fail
    first | go_region_with (fail) | fail
    all_goals
      go_wp2_with fail
      go_ret
      exact ⟨retB rfl, (unhide HB0).drew⟩
  | true =>
    have HQ := hide (neq55 tl pr)
    cases tl <;> cases pr
    · have hq : ∀ z, (binOp BinOp.neq 224 (.agg #[.bool false, .bool false]) (.agg #[.bool true, .bool true])).run Tryz.prog z = .ok (.bool true) z := fun z => unhide HQ z
      go_enter Tryz.func149, Tryz.ntmps149
      go_wp2_with fail
      first | go_region_with (first
        | (go_at_call 161
           refine (unhide gof _).mono ?_
           rintro e w2 ⟨rfl, hb2⟩
           have hb2' := hide (below_drewC hb2)
           clear hb2
           obtain ⟨c0, c1, c2, c3, c4, c5, c6, c7, c8, c9, c10, c11, c12⟩ := ((unhide HX).below (unhide hb2')).facts
           obtain ⟨q0, q1⟩ := (unhide HF).facts (unhide hb2'))) | fail
      all_goals
        go_wp2_with fail
        go_ret
        exact ⟨retB rfl, btC (unhide HB0) (unhide hb2')⟩
    · have hq : ∀ z, (binOp BinOp.neq 224 (.agg #[.bool false, .bool true]) (.agg #[.bool true, .bool true])).run Tryz.prog z = .ok (.bool true) z := fun z => unhide HQ z
      go_enter Tryz.func149, Tryz.ntmps149
      go_wp2_with fail
      first | go_region_with (first
        | (go_at_call 161
           refine (unhide gof _).mono ?_
           rintro e w2 ⟨rfl, hb2⟩
           have hb2' := hide (below_drewC hb2)
           clear hb2
           obtain ⟨c0, c1, c2, c3, c4, c5, c6, c7, c8, c9, c10, c11, c12⟩ := ((unhide HX).below (unhide hb2')).facts
           obtain ⟨q0, q1⟩ := (unhide HF).facts (unhide hb2'))) | fail
      all_goals
        go_wp2_with fail
        go_ret
        exact ⟨retB rfl, btC (unhide HB0) (unhide hb2')⟩
    · have hq : ∀ z, (binOp BinOp.neq 224 (.agg #[.bool true, .bool false]) (.agg #[.bool true, .bool true])).run Tryz.prog z = .ok (.bool true) z := fun z => unhide HQ z
      go_enter Tryz.func149, Tryz.ntmps149
      go_wp2_with fail
      first | go_region_with (first
        | (go_at_call 161
           refine (unhide gof _).mono ?_
           rintro e w2 ⟨rfl, hb2⟩
           have hb2' := hide (below_drewC hb2)
           clear hb2
           obtain ⟨c0, c1, c2, c3, c4, c5, c6, c7, c8, c9, c10, c11, c12⟩ := ((unhide HX).below (unhide hb2')).facts
           obtain ⟨q0, q1⟩ := (unhide HF).facts (unhide hb2'))) | fail
      all_goals
        go_wp2_with fail
        go_ret
        exact ⟨retB rfl, btC (unhide HB0) (unhide hb2')⟩
    · have hq : ∀ z, (binOp BinOp.neq 224 (.agg #[.bool true, .bool true]) (.agg #[.bool true, .bool true])).run Tryz.prog z = .ok (.bool false) z := fun z => unhide HQ z
      go_enter Tryz.func149, Tryz.ntmps149
      go_wp2_with fail
      first | go_region_with (first
        | (go_at_call 161
           refine (unhide gof _).mono ?_
           rintro e w2 ⟨rfl, hb2⟩
           have hb2' := hide (below_drewC hb2)
           clear hb2
           obtain ⟨c0, c1, c2, c3, c4, c5, c6, c7, c8, c9, c10, c11, c12⟩ := ((unhide HX).below (unhide hb2')).facts
           obtain ⟨q0, q1⟩ := (unhide HF).facts (unhide hb2'))) | fail
      all_goals
        go_wp2_with fail
        go_ret
        exact ⟨retB rfl, btC (unhide HB0) (unhide hb2')⟩

set_option maxRecDepth 100000 in
set_option maxHeartbeats 2000000 in
theorem stepI8 (h : ByteArray) (mu : Bool) (ep bo op n : Int) (s : ByteArray) (a : Option Addr) (len cap : Nat) (i o : Int) (tl pr : Bool) (w : World) :
    Calls Tryz.prog 149 #[.agg #[.int .i64 8, .string h, .bool mu, .int .i64 ep, .int .i64 bo, .int .i64 op, .int .i64 n, .string s, .slice a len cap, .int .i64 i, .int .i64 o, .bool tl, .bool pr]] w fun e w' => e = .returned (.bool (stepB 8 mu tl pr)) ∧ Below w.heap.size w w' := by
  have gof := hide (fun v => standing v 8 h mu ep bo op n s a len cap i o tl pr)
  have hb0 : Below w.heap.size w ((w.alloc (.cells #[.int .i64 8, .string h, .bool mu, .int .i64 ep, .int .i64 bo, .int .i64 op, .int .i64 n, .string s, .slice a len cap, .int .i64 i, .int .i64 o, .bool tl, .bool pr] 110)).alloc (.cells #[.bool true, .bool true] 224)) := btC (abC _) (abC _)
  have HB0 := hide hb0
  have HX := hide ((RowK.new 110 w 8 h mu ep bo op n s a len cap i o tl pr).below (abC (.cells #[.bool true, .bool true] 224)))
  have HF : Hid (RowF ((w.alloc (.cells #[.int .i64 8, .string h, .bool mu, .int .i64 ep, .int .i64 bo, .int .i64 op, .int .i64 n, .string s, .slice a len cap, .int .i64 i, .int .i64 o, .bool tl, .bool pr] 110)).alloc (.cells #[.bool true, .bool true] 224)) (w.heap.size + 1) true true) := by
    have := heap_alloc_new (w.alloc (.cells #[.int .i64 8, .string h, .bool mu, .int .i64 ep, .int .i64 bo, .int .i64 op, .int .i64 n, .string s, .slice a len cap, .int .i64 i, .int .i64 o, .bool tl, .bool pr] 110)) (.cells #[.bool true, .bool true] 224)
    rwa [heap_size_alloc] at this
  clear hb0
  cases mu with
  | false =>
    go_enter Tryz.func149, Tryz.ntmps149
    go_wp2_with fail
    first | go_region_with (fail) | fail
    all_goals
      go_wp2_with fail
      go_ret
      exact ⟨retB rfl, (unhide HB0).drew⟩
  | true =>
    have HQ := hide (neq55 tl pr)
    cases tl <;> cases pr
    · have hq : ∀ z, (binOp BinOp.neq 224 (.agg #[.bool false, .bool false]) (.agg #[.bool true, .bool true])).run Tryz.prog z = .ok (.bool true) z := fun z => unhide HQ z
      go_enter Tryz.func149, Tryz.ntmps149
      go_wp2_with fail
      first | go_region_with (first
        | (go_at_call 161
           refine (unhide gof _).mono ?_
           rintro e w2 ⟨rfl, hb2⟩
           have hb2' := hide (below_drewC hb2)
           clear hb2
           obtain ⟨c0, c1, c2, c3, c4, c5, c6, c7, c8, c9, c10, c11, c12⟩ := ((unhide HX).below (unhide hb2')).facts
           obtain ⟨q0, q1⟩ := (unhide HF).facts (unhide hb2'))) | fail
      all_goals
        go_wp2_with fail
        go_ret
        exact ⟨retB rfl, btC (unhide HB0) (unhide hb2')⟩
    · have hq : ∀ z, (binOp BinOp.neq 224 (.agg #[.bool false, .bool true]) (.agg #[.bool true, .bool true])).run Tryz.prog z = .ok (.bool true) z := fun z => unhide HQ z
      go_enter Tryz.func149, Tryz.ntmps149
      go_wp2_with fail
      first | go_region_with (first
        | (go_at_call 161
           refine (unhide gof _).mono ?_
           rintro e w2 ⟨rfl, hb2⟩
           have hb2' := hide (below_drewC hb2)
           clear hb2
           obtain ⟨c0, c1, c2, c3, c4, c5, c6, c7, c8, c9, c10, c11, c12⟩ := ((unhide HX).below (unhide hb2')).facts
           obtain ⟨q0, q1⟩ := (unhide HF).facts (unhide hb2'))) | fail
      all_goals
        go_wp2_with fail
        go_ret
        exact ⟨retB rfl, btC (unhide HB0) (unhide hb2')⟩
    · have hq : ∀ z, (binOp BinOp.neq 224 (.agg #[.bool true, .bool false]) (.agg #[.bool true, .bool true])).run Tryz.prog z = .ok (.bool true) z := fun z => unhide HQ z
      go_enter Tryz.func149, Tryz.ntmps149
      go_wp2_with fail
      first | go_region_with (first
        | (go_at_call 161
           refine (unhide gof _).mono ?_
           rintro e w2 ⟨rfl, hb2⟩
           have hb2' := hide (below_drewC hb2)
           clear hb2
           obtain ⟨c0, c1, c2, c3, c4, c5, c6, c7, c8, c9, c10, c11, c12⟩ := ((unhide HX).below (unhide hb2')).facts
           obtain ⟨q0, q1⟩ := (unhide HF).facts (unhide hb2'))) | fail
      all_goals
        go_wp2_with fail
        go_ret
        exact ⟨retB rfl, btC (unhide HB0) (unhide hb2')⟩
    · have hq : ∀ z, (binOp BinOp.neq 224 (.agg #[.bool true, .bool true]) (.agg #[.bool true, .bool true])).run Tryz.prog z = .ok (.bool false) z := fun z => unhide HQ z
      go_enter Tryz.func149, Tryz.ntmps149
      go_wp2_with fail
      first | go_region_with (first
        | (go_at_call 161
           refine (unhide gof _).mono ?_
           rintro e w2 ⟨rfl, hb2⟩
           have hb2' := hide (below_drewC hb2)
           clear hb2
           obtain ⟨c0, c1, c2, c3, c4, c5, c6, c7, c8, c9, c10, c11, c12⟩ := ((unhide HX).below (unhide hb2')).facts
           obtain ⟨q0, q1⟩ := (unhide HF).facts (unhide hb2'))) | fail
      all_goals
        go_wp2_with fail
        go_ret
        exact ⟨retB rfl, btC (unhide HB0) (unhide hb2')⟩

set_option maxRecDepth 100000 in
set_option maxHeartbeats 2000000 in
theorem stepI9 (h : ByteArray) (mu : Bool) (ep bo op n : Int) (s : ByteArray) (a : Option Addr) (len cap : Nat) (i o : Int) (tl pr : Bool) (w : World) :
    Calls Tryz.prog 149 #[.agg #[.int .i64 9, .string h, .bool mu, .int .i64 ep, .int .i64 bo, .int .i64 op, .int .i64 n, .string s, .slice a len cap, .int .i64 i, .int .i64 o, .bool tl, .bool pr]] w fun e w' => e = .returned (.bool (stepB 9 mu tl pr)) ∧ Below w.heap.size w w' := by
  have gof := hide (fun v => standing v 9 h mu ep bo op n s a len cap i o tl pr)
  have hb0 : Below w.heap.size w ((w.alloc (.cells #[.int .i64 9, .string h, .bool mu, .int .i64 ep, .int .i64 bo, .int .i64 op, .int .i64 n, .string s, .slice a len cap, .int .i64 i, .int .i64 o, .bool tl, .bool pr] 110)).alloc (.cells #[.bool true, .bool true] 224)) := btC (abC _) (abC _)
  have HB0 := hide hb0
  have HX := hide ((RowK.new 110 w 9 h mu ep bo op n s a len cap i o tl pr).below (abC (.cells #[.bool true, .bool true] 224)))
  have HF : Hid (RowF ((w.alloc (.cells #[.int .i64 9, .string h, .bool mu, .int .i64 ep, .int .i64 bo, .int .i64 op, .int .i64 n, .string s, .slice a len cap, .int .i64 i, .int .i64 o, .bool tl, .bool pr] 110)).alloc (.cells #[.bool true, .bool true] 224)) (w.heap.size + 1) true true) := by
    have := heap_alloc_new (w.alloc (.cells #[.int .i64 9, .string h, .bool mu, .int .i64 ep, .int .i64 bo, .int .i64 op, .int .i64 n, .string s, .slice a len cap, .int .i64 i, .int .i64 o, .bool tl, .bool pr] 110)) (.cells #[.bool true, .bool true] 224)
    rwa [heap_size_alloc] at this
  clear hb0
  cases mu with
  | false =>
    go_enter Tryz.func149, Tryz.ntmps149
    go_wp2_with fail
    first | go_region_with (fail) | fail
    all_goals
      go_wp2_with fail
      go_ret
      exact ⟨retB rfl, (unhide HB0).drew⟩
  | true =>
    have HQ := hide (neq55 tl pr)
    cases tl <;> cases pr
    · have hq : ∀ z, (binOp BinOp.neq 224 (.agg #[.bool false, .bool false]) (.agg #[.bool true, .bool true])).run Tryz.prog z = .ok (.bool true) z := fun z => unhide HQ z
      go_enter Tryz.func149, Tryz.ntmps149
      go_wp2_with fail
      first | go_region_with (first
        | (go_at_call 161
           refine (unhide gof _).mono ?_
           rintro e w2 ⟨rfl, hb2⟩
           have hb2' := hide (below_drewC hb2)
           clear hb2
           obtain ⟨c0, c1, c2, c3, c4, c5, c6, c7, c8, c9, c10, c11, c12⟩ := ((unhide HX).below (unhide hb2')).facts
           obtain ⟨q0, q1⟩ := (unhide HF).facts (unhide hb2'))) | fail
      all_goals
        go_wp2_with fail
        go_ret
        exact ⟨retB rfl, btC (unhide HB0) (unhide hb2')⟩
    · have hq : ∀ z, (binOp BinOp.neq 224 (.agg #[.bool false, .bool true]) (.agg #[.bool true, .bool true])).run Tryz.prog z = .ok (.bool true) z := fun z => unhide HQ z
      go_enter Tryz.func149, Tryz.ntmps149
      go_wp2_with fail
      first | go_region_with (first
        | (go_at_call 161
           refine (unhide gof _).mono ?_
           rintro e w2 ⟨rfl, hb2⟩
           have hb2' := hide (below_drewC hb2)
           clear hb2
           obtain ⟨c0, c1, c2, c3, c4, c5, c6, c7, c8, c9, c10, c11, c12⟩ := ((unhide HX).below (unhide hb2')).facts
           obtain ⟨q0, q1⟩ := (unhide HF).facts (unhide hb2'))) | fail
      all_goals
        go_wp2_with fail
        go_ret
        exact ⟨retB rfl, btC (unhide HB0) (unhide hb2')⟩
    · have hq : ∀ z, (binOp BinOp.neq 224 (.agg #[.bool true, .bool false]) (.agg #[.bool true, .bool true])).run Tryz.prog z = .ok (.bool true) z := fun z => unhide HQ z
      go_enter Tryz.func149, Tryz.ntmps149
      go_wp2_with fail
      first | go_region_with (first
        | (go_at_call 161
           refine (unhide gof _).mono ?_
           rintro e w2 ⟨rfl, hb2⟩
           have hb2' := hide (below_drewC hb2)
           clear hb2
           obtain ⟨c0, c1, c2, c3, c4, c5, c6, c7, c8, c9, c10, c11, c12⟩ := ((unhide HX).below (unhide hb2')).facts
           obtain ⟨q0, q1⟩ := (unhide HF).facts (unhide hb2'))) | fail
      all_goals
        go_wp2_with fail
        go_ret
        exact ⟨retB rfl, btC (unhide HB0) (unhide hb2')⟩
    · have hq : ∀ z, (binOp BinOp.neq 224 (.agg #[.bool true, .bool true]) (.agg #[.bool true, .bool true])).run Tryz.prog z = .ok (.bool false) z := fun z => unhide HQ z
      go_enter Tryz.func149, Tryz.ntmps149
      go_wp2_with fail
      first | go_region_with (first
        | (go_at_call 161
           refine (unhide gof _).mono ?_
           rintro e w2 ⟨rfl, hb2⟩
           have hb2' := hide (below_drewC hb2)
           clear hb2
           obtain ⟨c0, c1, c2, c3, c4, c5, c6, c7, c8, c9, c10, c11, c12⟩ := ((unhide HX).below (unhide hb2')).facts
           obtain ⟨q0, q1⟩ := (unhide HF).facts (unhide hb2'))) | fail
      all_goals
        go_wp2_with fail
        go_ret
        exact ⟨retB rfl, btC (unhide HB0) (unhide hb2')⟩

set_option maxRecDepth 100000 in
set_option maxHeartbeats 2000000 in
theorem stepOkI (st : Int) (h : ByteArray) (mu : Bool) (ep bo op n : Int) (s : ByteArray) (a : Option Addr) (len cap : Nat) (i o : Int) (tl pr : Bool) (w : World) :
    Calls Tryz.prog 149 #[.agg #[.int .i64 st, .string h, .bool mu, .int .i64 ep, .int .i64 bo, .int .i64 op, .int .i64 n, .string s, .slice a len cap, .int .i64 i, .int .i64 o, .bool tl, .bool pr]] w fun e w' => e = .returned (.bool (stepB st mu tl pr)) ∧ Below w.heap.size w w' := by
  have hb0 : Below w.heap.size w ((w.alloc (.cells #[.int .i64 st, .string h, .bool mu, .int .i64 ep, .int .i64 bo, .int .i64 op, .int .i64 n, .string s, .slice a len cap, .int .i64 i, .int .i64 o, .bool tl, .bool pr] 110)).alloc (.cells #[.bool true, .bool true] 224)) := btC (abC _) (abC _)
  have HB0 := hide hb0
  clear hb0
  by_cases e1 : st = 1
  · subst e1
    go_enter Tryz.func149, Tryz.ntmps149
    go_wp2_with fail
    go_ret
    exact ⟨retB (by cases mu <;> rfl), unhide HB0⟩
  by_cases e2 : st = 2
  · subst e2
    go_enter Tryz.func149, Tryz.ntmps149
    go_wp2_with fail
    go_ret
    exact ⟨retB (by cases mu <;> rfl), unhide HB0⟩
  by_cases e3 : st = 3
  · subst e3
    go_enter Tryz.func149, Tryz.ntmps149
    go_wp2_with fail
    go_ret
    exact ⟨retB (by cases mu <;> rfl), unhide HB0⟩
  by_cases e4 : st = 4
  · subst e4
    go_enter Tryz.func149, Tryz.ntmps149
    go_wp2_with fail
    go_ret
    exact ⟨retB (by cases mu <;> rfl), unhide HB0⟩
  by_cases e5 : st = 5
  · subst e5
    exact stepI5 h mu ep bo op n s a len cap i o tl pr w
  by_cases e6 : st = 6
  · subst e6
    exact stepI6 h mu ep bo op n s a len cap i o tl pr w
  by_cases e7 : st = 7
  · subst e7
    exact stepI7 h mu ep bo op n s a len cap i o tl pr w
  by_cases e8 : st = 8
  · subst e8
    exact stepI8 h mu ep bo op n s a len cap i o tl pr w
  by_cases e9 : st = 9
  · subst e9
    exact stepI9 h mu ep bo op n s a len cap i o tl pr w
  by_cases e10 : st = 10
  · subst e10
    go_enter Tryz.func149, Tryz.ntmps149
    go_wp2_with fail
    go_ret
    exact ⟨retB (by cases mu <;> rfl), unhide HB0⟩
  have HE : Hid (stepB st mu tl pr = false) := by
    show _ = _
    have : inB st 1 10 = false := decide_eq_false (by omega)
    simp [stepB, this]
  have f1 : (st == 1) = false := by simpa using e1
  have f2 : (st == 2) = false := by simpa using e2
  have f3 : (st == 3) = false := by simpa using e3
  have f4 : (st == 4) = false := by simpa using e4
  have f5 : (st == 5) = false := by simpa using e5
  have f6 : (st == 6) = false := by simpa using e6
  have f7 : (st == 7) = false := by simpa using e7
  have f8 : (st == 8) = false := by simpa using e8
  have f9 : (st == 9) = false := by simpa using e9
  have f10 : (st == 10) = false := by simpa using e10
  clear e1 e2 e3 e4 e5 e6 e7 e8 e9 e10
  go_enter Tryz.func149, Tryz.ntmps149
  go_wp2_with fail
  go_ret
  exact ⟨retB (unhide HE), unhide HB0⟩


end Go.Proofs.YtbbidjckplpaiaaGreatDoor
