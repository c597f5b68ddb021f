
/- Both ClientOk, walked: what a client that is right is. -/
import Derived.Test.YtbbidjckplpaiaaGreatDoorCk
import Derived.Test.YtbbidjckplpaiaaGreatDoorSp
namespace Go.Proofs.YtbbidjckplpaiaaGreatDoor
open Go.RowKit Go.Deep




/-- A client that is right. -/
noncomputable def clientB (st : Int) (h : ByteArray) (mu : Bool) (ep bo : Int) (t : Tm) (i o : Int) (tl pr : Bool) : Bool :=
  inB st 1 10 && (hostB h && (inB ep 0 1000000 && (inB bo 0 1000000 && (inB i 0 100 && (inB o 0 100 && ((if tl then okT t else sameB t zeroT && !pr) && (!mu || (!inB st 5 9 || (tl && pr)))))))))
/-- Its step, as the program asks it. -/
def stepB (st : Int) (mu tl pr : Bool) : Bool := inB st 1 10 && (!mu || (!inB st 5 9 || (tl && pr)))
/-- Its share, as the program asks it. -/
noncomputable def standB (t : Tm) (tl pr : Bool) : Bool := if tl then okT t else sameB t zeroT && !pr
theorem clientB_impl (st : Int) (h : ByteArray) (mu : Bool) (ep bo : Int) (t : Tm) (i o : Int) (tl pr : Bool) :
    clientB st h mu ep bo t i o tl pr = (stepB st mu tl pr && (hostB h && (inB ep 0 1000000 && (inB bo 0 1000000 && (inB i 0 100 && (inB o 0 100 && standB t tl pr)))))) := by
  unfold clientB stepB standB
  generalize inB st 1 10 = b1, hostB h = b2, inB ep 0 1000000 = b3, inB bo 0 1000000 = b4, inB i 0 100 = b5, inB o 0 100 = b6, (if tl then okT t else sameB t zeroT && !pr) = b7, (!mu || (!inB st 5 9 || (tl && pr))) = b8
  cases b1 <;> cases b2 <;> cases b3 <;> cases b4 <;> cases b5 <;> cases b6 <;> cases b7 <;> cases b8 <;> rfl



set_option maxRecDepth 100000 in
set_option maxHeartbeats 2000000 in
theorem standing (w : World) (st : Int) (h : ByteArray) (mu : Bool) (ep bo op n : Int) (s : ByteArray) (a : Option Addr) (len cap : Nat) (i o : Int) (tl pr : Bool) :
    Calls Tryz.prog 161 #[.agg #[.int .i64 st, .string h, .bool mu, .int .i64 ep, .int .i64 bo, .int .i64 op, .int .i64 n, .string s, .slice a len cap, .int .i64 i, .int .i64 o, .bool tl, .bool pr]] w fun e w' => e = .returned (.agg #[.bool tl, .bool pr]) ∧ Below w.heap.size w w' := by
  have hb0 : Below w.heap.size w ((w.alloc (.cells #[.int .i64 st, .string h, .bool mu, .int .i64 ep, .int .i64 bo, .int .i64 op, .int .i64 n, .string s, .slice a len cap, .int .i64 i, .int .i64 o, .bool tl, .bool pr] 110)).alloc (.cells #[.bool false, .bool false] 224)) := btC (abC _) (abC _)
  have HB0 := hide hb0
  clear hb0
  go_enter Tryz.func161, Tryz.ntmps161
  go_wp2_with fail
  refine bodyPost_ret (v := .agg #[.bool tl, .bool pr]) (by simp [results, Tryz.results161, go_sem]) rfl ⟨rfl, ?_⟩
  repeat refine Below.setCell ?_ (by simp <;> omega) _
  exact btC (abC _) (abC _)

theorem neq55 (x y : Bool) (z : World) : (binOp BinOp.neq 224 (.agg #[.bool x, .bool y]) (.agg #[.bool true, .bool true])).run Tryz.prog z = .ok (.bool (!(x && y))) z := by
  cases x <;> cases y <;> kernel_rfl
theorem eql55 (x y : Bool) (z : World) : (binOp BinOp.eql 224 (.agg #[.bool x, .bool y]) (.agg #[.bool false, .bool false])).run Tryz.prog z = .ok (.bool (!(x || y))) z := by
  cases x <;> cases y <;> kernel_rfl

/-- Two flags in a block of their own. -/
def RowF (w : World) (b : Nat) (x y : Bool) : Prop := w.heap[b]? = some (.cells #[.bool x, .bool y] 224 (0, 0))
theorem RowF.facts {w w' : World} {b : Nat} {x y : Bool} (hr : RowF w b x y) (hb : Below w.heap.size w w') : w'.cell? ⟨b, 0, none⟩ = some (.bool x) ∧ w'.cell? ⟨b, 1, none⟩ = some (.bool y) := by
  have h : w'.heap[b]? = some (.cells #[.bool x, .bool y] 224 (0, 0)) := (hb.block b (Array.getElem?_eq_some_iff.1 hr).1).trans hr
  exact ⟨cell_of_row h (by simp), cell_of_row h (by simp)⟩


end Go.Proofs.YtbbidjckplpaiaaGreatDoor
