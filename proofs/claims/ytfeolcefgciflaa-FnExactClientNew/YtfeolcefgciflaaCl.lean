/- Both ClientOk, walked: what a client that is right is. -/
import Derived.Test.YtfeolcefgciflaaCk
import Derived.Test.YtfeolcefgciflaaOw
namespace Go.Proofs.Ytfeolcefgciflaa
open Go.RowKit Go.Deep

theorem same15 (t t' : Tm) (op n : Int) (s : ByteArray) (a : Option Addr) (len cap : Nat) (op' n' : Int) (s' : ByteArray) (a' : Option Addr) (len' cap' : Nat) (w : World) (hl : Lies w 0 t (tmCells op n s a len cap)) (hl' : Lies w 0 t' (tmCells op' n' s' a' len' cap'))
    (hsz : t.size ≤ 2097152) :
    Calls Try.prog 36 #[.agg #[.int .i64 op, .int .i64 n, .string s, .slice a len cap], .agg #[.int .i64 op', .int .i64 n', .string s', .slice a' len' cap']] w fun e w' => e = .returned (.bool (sameB t t')) ∧ Below w.heap.size w w' := by
  have h24 := hide (cmp24 t t' op n s a len cap op' n' s' a' len' cap')
  have HL := hide hl
  have HL' := hide hl'
  have HB : Hid (∀ c : Int, c = cmpT t t' → sameB t t' = (c == 0)) := fun c hc => by rw [hc]; unfold sameB; rw [Bool.eq_iff_iff]; simp
  generalize cmpT t t' = C at *
  clear hl hl'
  go_enter Try.func36, Try.ntmps36
  go_wp2_with fail
  refine (unhide h24 _ ((unhide HL).below (((Below.refl _ _).alloc (Nat.le_refl _) _).alloc (by simp) _)) ((unhide HL').below (((Below.refl _ _).alloc (Nat.le_refl _) _).alloc (by simp) _)) hsz).mono ?_
  rintro e w2 ⟨rfl, hb2⟩
  go_wp2_with fail
  go_ret
  exact ⟨ret_bool (unhide HB _ rfl).symm, (((Below.refl _ _).alloc (Nat.le_refl _) _).alloc (by simp) _).trans (hb2.mono (by simp; omega))⟩


theorem below_drewC {w v : World} (h : Below w.drew.heap.size w.drew v) : Below w.heap.size w v := ((Below.refl _ _).drew).trans h

def zeroT : Tm := .node 0 0 ByteArray.empty []
/-- A client that is right. -/
noncomputable def clientB (st : Int) (h : ByteArray) (mu : Bool) (ep bo : Int) (t : Tm) (i o : Int) (tl pr : Bool) : Bool :=
  inB st 1 10 && (hostB h && (inB ep 0 1000000 && (inB bo 0 1000000 && (inB i 0 100 && (inB o 0 100 && ((if tl then okT t else sameB t zeroT && !pr) && (!mu || (!inB st 5 9 || (tl && pr)))))))))
/-- Its step, as the program asks it. -/
def stepB (st : Int) (mu tl pr : Bool) : Bool := inB st 1 10 && (!mu || (!inB st 5 9 || (tl && pr)))
/-- Its share, as the program asks it. -/
noncomputable def standB (t : Tm) (tl pr : Bool) : Bool := if tl then okT t else sameB t zeroT && !pr
theorem clientB_impl (st : Int) (h : ByteArray) (mu : Bool) (ep bo : Int) (t : Tm) (i o : Int) (tl pr : Bool) :
    clientB st h mu ep bo t i o tl pr = (stepB st mu tl pr && (hostB h && (inB ep 0 1000000 && (inB bo 0 1000000 && (inB i 0 100 && (inB o 0 100 && standB t tl pr)))))) := by
  unfold clientB stepB standB
  generalize inB st 1 10 = b1, hostB h = b2, inB ep 0 1000000 = b3, inB bo 0 1000000 = b4, inB i 0 100 = b5, inB o 0 100 = b6, (if tl then okT t else sameB t zeroT && !pr) = b7, (!mu || (!inB st 5 9 || (tl && pr))) = b8
  cases b1 <;> cases b2 <;> cases b3 <;> cases b4 <;> cases b5 <;> cases b6 <;> cases b7 <;> cases b8 <;> rfl

theorem atomI (x : Int) (w : World) : Calls Try.prog 22 #[.int .i64 x] w fun e w' => e = .returned (.bool (inB x 0 1000000)) ∧ w' = w := by
  by_cases h1 : 0 ≤ x
  · by_cases h2 : x ≤ 1000000
    · rw [show inB x 0 1000000 = true from decide_eq_true ⟨h1, h2⟩]
      go_enter Try.func22, Try.ntmps22
      go_wp2_with fail
      go_ret
      exact ⟨retB (by simp), rfl⟩
    · rw [show inB x 0 1000000 = false from decide_eq_false (by omega)]
      go_enter Try.func22, Try.ntmps22
      go_wp2_with fail
      go_ret
      exact ⟨retB (by simp), rfl⟩
  · rw [show inB x 0 1000000 = false from decide_eq_false (by omega)]
    go_enter Try.func22, Try.ntmps22
    go_wp2_with fail
    go_ret
    exact ⟨rfl, rfl⟩

theorem cntI (x : Int) (w : World) : Calls Try.prog 23 #[.int .i64 x] w fun e w' => e = .returned (.bool (inB x 0 100)) ∧ w' = w := by
  by_cases h1 : 0 ≤ x
  · by_cases h2 : x ≤ 100
    · rw [show inB x 0 100 = true from decide_eq_true ⟨h1, h2⟩]
      go_enter Try.func23, Try.ntmps23
      go_wp2_with fail
      go_ret
      exact ⟨retB (by simp), rfl⟩
    · rw [show inB x 0 100 = false from decide_eq_false (by omega)]
      go_enter Try.func23, Try.ntmps23
      go_wp2_with fail
      go_ret
      exact ⟨retB (by simp), rfl⟩
  · rw [show inB x 0 100 = false from decide_eq_false (by omega)]
    go_enter Try.func23, Try.ntmps23
    go_wp2_with fail
    go_ret
    exact ⟨rfl, rfl⟩

set_option maxRecDepth 100000 in
set_option maxHeartbeats 2000000 in
theorem standing (w : World) (st : Int) (h : ByteArray) (mu : Bool) (ep bo op n : Int) (s : ByteArray) (a : Option Addr) (len cap : Nat) (i o : Int) (tl pr : Bool) :
    Calls Try.prog 34 #[.agg #[.int .i64 st, .string h, .bool mu, .int .i64 ep, .int .i64 bo, .int .i64 op, .int .i64 n, .string s, .slice a len cap, .int .i64 i, .int .i64 o, .bool tl, .bool pr]] w fun e w' => e = .returned (.agg #[.bool tl, .bool pr]) ∧ Below w.heap.size w w' := by
  have hb0 : Below w.heap.size w ((w.alloc (.cells #[.int .i64 st, .string h, .bool mu, .int .i64 ep, .int .i64 bo, .int .i64 op, .int .i64 n, .string s, .slice a len cap, .int .i64 i, .int .i64 o, .bool tl, .bool pr] 33)).alloc (.cells #[.bool false, .bool false] 55)) := btC (abC _) (abC _)
  have HB0 := hide hb0
  clear hb0
  go_enter Try.func34, Try.ntmps34
  go_wp2_with fail
  refine bodyPost_ret (v := .agg #[.bool tl, .bool pr]) (by simp [results, Try.results34, go_sem]) rfl ⟨rfl, ?_⟩
  repeat refine Below.setCell ?_ (by simp <;> omega) _
  exact btC (abC _) (abC _)

theorem neq55 (x y : Bool) (z : World) : (binOp BinOp.neq 55 (.agg #[.bool x, .bool y]) (.agg #[.bool true, .bool true])).run Try.prog z = .ok (.bool (!(x && y))) z := by
  cases x <;> cases y <;> kernel_rfl
theorem eql55 (x y : Bool) (z : World) : (binOp BinOp.eql 55 (.agg #[.bool x, .bool y]) (.agg #[.bool false, .bool false])).run Try.prog z = .ok (.bool (!(x || y))) z := by
  cases x <;> cases y <;> kernel_rfl

/-- Two flags in a block of their own. -/
def RowF (w : World) (b : Nat) (x y : Bool) : Prop := w.heap[b]? = some (.cells #[.bool x, .bool y] 55 (0, 0))
theorem RowF.facts {w w' : World} {b : Nat} {x y : Bool} (hr : RowF w b x y) (hb : Below w.heap.size w w') : w'.cell? ⟨b, 0, none⟩ = some (.bool x) ∧ w'.cell? ⟨b, 1, none⟩ = some (.bool y) := by
  have h : w'.heap[b]? = some (.cells #[.bool x, .bool y] 55 (0, 0)) := (hb.block b (Array.getElem?_eq_some_iff.1 hr).1).trans hr
  exact ⟨cell_of_row h (by simp), cell_of_row h (by simp)⟩


end Go.Proofs.Ytfeolcefgciflaa
