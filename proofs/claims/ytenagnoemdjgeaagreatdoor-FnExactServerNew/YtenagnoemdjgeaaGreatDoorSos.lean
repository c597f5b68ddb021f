/- Rows of ints in memory, and the walks of laws.szIntS, toIntS, eqIntS. A server as plain data: its sixteen cells in a block of their own. A server that is loaded or stored whole. The walks of laws.szServer, laws.toServer and laws.eqServer. What a server that is right is; impl.gotOk and impl.shareOk, walked. spec.ServerOk: what its loop needs. spec.ServerOk with Tls, walked. spec.ServerOk at the step SvDone, walked. spec.ServerOk elsewhere, walked. impl.ServerOk, walked. spec.ServerOk, walked. -/
import Derived.Test.YtenagnoemdjgeaaGreatDoorHj
import Derived.Test.YtenagnoemdjgeaaGreatDoorTo
import Derived.Deep.RegionHeld3
import Derived.Test.YtenagnoemdjgeaaGreatDoorAv
import Derived.Test.YtenagnoemdjgeaaGreatDoorEq
import Derived.Test.YtenagnoemdjgeaaGreatDoorCa
import Derived.Deep.MidRow
import Derived.Test.YtenagnoemdjgeaaGreatDoorOw
namespace Go.Proofs.YtenagnoemdjgeaaGreatDoor
open Go.RowKit Go.Deep

/-- The ints lie in the world, one behind the other, in a block from L on. -/
def Ints (w : World) (L : Nat) (a : Option Addr) (l : List Int) : Prop := ∀ k t, l[k]? = some t → ∃ b o, a = some ⟨b, o, none⟩ ∧ L ≤ b ∧ w.cell? ⟨b, o + k, none⟩ = some (.int .i64 t)
theorem Ints.on {w w' : World} {L : Nat} {a : Option Addr} {l : List Int} (h : Ints w L a l) (hb : Below w.heap.size w w') : Ints w' L a l := fun k t hk => by
  obtain ⟨b, o, h1, h2, h3⟩ := h k t hk
  exact ⟨b, o, h1, h2, below_some hb h3⟩
theorem Ints.low {w : World} {L L' : Nat} {a : Option Addr} {l : List Int} (h : Ints w L a l) (hL : L' ≤ L) : Ints w L' a l := fun k t hk => by
  obtain ⟨b, o, h1, h2, h3⟩ := h k t hk
  exact ⟨b, o, h1, by omega, h3⟩
theorem Ints.nil (w : World) (L : Nat) (a : Option Addr) : Ints w L a [] := fun k t hk => by simp at hk

set_option maxRecDepth 100000 in
set_option maxHeartbeats 1000000 in
theorem eqI (l : List Int) (a a' : Option Addr) (c c' : Nat) (w : World) (hl : l.length ≤ 2097153) (h : Ints w 0 a l) (h' : Ints w 0 a' l) :
    Calls Tryz.prog 59 #[.slice a l.length c, .slice a' l.length c'] w fun e w' => e = .returned (.bool true) ∧ Below w.heap.size w w' := by
  have H := hide h
  have H' := hide h'
  clear h h'
  go_enter Tryz.func59, Tryz.ntmps59
  go_wp2_with fail
  go_loopw [5] (fun n wr => ∃ k : Nat, n = .int .i64 k ∧ Below w.heap.size w wr ∧ k ≤ l.length) (fun n _ => l.length - (intOf n).toNat)
  case atStart => exact ⟨0, rfl, Below.refl _ _, by omega⟩
  case round =>
    obtain ⟨k, rfl, hb, hk⟩ := hrel
    have HB := hide hb
    by_cases hp : k < l.length
    · obtain ⟨t, ht⟩ : ∃ t, l[k]? = some t := ⟨_, List.getElem?_eq_getElem hp⟩
      obtain ⟨b, o, rfl, -, d0⟩ := unhide H k t ht
      obtain ⟨b', o', rfl, -, d1⟩ := unhide H' k t ht
      have c0 := below_some hb d0
      have c1 := below_some hb d1
      have c2 : (k : Int) < (l.length : Int) := by omega
      have c3 : (0 : Int) ≤ (k : Int) := by omega
      have w1 : wrap64 ((k : Int) + 1) = ((k + 1 : Nat) : Int) := by unfold wrap64; omega
      clear hb ht d0 d1
      generalize hL : l.length = L at *
      go_wp2_with fail
      go_region
      go_wp2_with fail
      go_roundw
      case rel => exact ⟨k + 1, rfl, (unhide HB).drew, by omega⟩
      case measure => simp only [intOf]; omega
    · have c2 : ¬ (k : Int) < (l.length : Int) := by omega
      clear hb
      generalize hL : l.length = L at *
      go_wp2_with fail
      go_ret
      exact ⟨rfl, unhide HB⟩

/-- The cells of a server in a block of its own. -/
def RowS (ty : TypeId) (w : World) (b : Nat) (st : Int) (h : ByteArray) (ke : Int) (ep : Int) (op : Int) (n : Int) (s : ByteArray) (a : Option Addr) (len : Nat) (cap : Nat) (oq : Int) (m : Int) (r : ByteArray) (c : Option Addr) (lem : Nat) (cat : Nat) (i : Int) (o : Int) (tl : Bool) (g : Option Addr) (gl : Nat) (gc : Nat) : Prop := w.heap[b]? = some (.cells #[.int .i64 st, .string h, .int .i64 ke, .int .i64 ep, .int .i64 op, .int .i64 n, .string s, .slice a len cap, .int .i64 oq, .int .i64 m, .string r, .slice c lem cat, .int .i64 i, .int .i64 o, .bool tl, .slice g gl gc] ty (0, 0))
theorem RowS.new (ty : TypeId) (w : World) (st : Int) (h : ByteArray) (ke : Int) (ep : Int) (op : Int) (n : Int) (s : ByteArray) (a : Option Addr) (len : Nat) (cap : Nat) (oq : Int) (m : Int) (r : ByteArray) (c : Option Addr) (lem : Nat) (cat : Nat) (i : Int) (o : Int) (tl : Bool) (g : Option Addr) (gl : Nat) (gc : Nat) : RowS ty (w.alloc (.cells #[.int .i64 st, .string h, .int .i64 ke, .int .i64 ep, .int .i64 op, .int .i64 n, .string s, .slice a len cap, .int .i64 oq, .int .i64 m, .string r, .slice c lem cat, .int .i64 i, .int .i64 o, .bool tl, .slice g gl gc] ty)) w.heap.size st h ke ep op n s a len cap oq m r c lem cat i o tl g gl gc := heap_alloc_new w _
theorem RowS.lt {ty : TypeId} {w : World} {b : Nat} {st : Int} {h : ByteArray} {ke : Int} {ep : Int} {op : Int} {n : Int} {s : ByteArray} {a : Option Addr} {len : Nat} {cap : Nat} {oq : Int} {m : Int} {r : ByteArray} {c : Option Addr} {lem : Nat} {cat : Nat} {i : Int} {o : Int} {tl : Bool} {g : Option Addr} {gl : Nat} {gc : Nat} (hr : RowS ty w b st h ke ep op n s a len cap oq m r c lem cat i o tl g gl gc) : b < w.heap.size := (Array.getElem?_eq_some_iff.1 hr).1
theorem RowS.below {ty : TypeId} {w w' : World} {b : Nat} {st : Int} {h : ByteArray} {ke : Int} {ep : Int} {op : Int} {n : Int} {s : ByteArray} {a : Option Addr} {len : Nat} {cap : Nat} {oq : Int} {m : Int} {r : ByteArray} {c : Option Addr} {lem : Nat} {cat : Nat} {i : Int} {o : Int} {tl : Bool} {g : Option Addr} {gl : Nat} {gc : Nat} (hr : RowS ty w b st h ke ep op n s a len cap oq m r c lem cat i o tl g gl gc) (hb : Below w.heap.size w w') : RowS ty w' b st h ke ep op n s a len cap oq m r c lem cat i o tl g gl gc := (hb.block b hr.lt).trans hr
theorem RowS.facts {ty : TypeId} {w : World} {b : Nat} {st : Int} {h : ByteArray} {ke : Int} {ep : Int} {op : Int} {n : Int} {s : ByteArray} {a : Option Addr} {len : Nat} {cap : Nat} {oq : Int} {m : Int} {r : ByteArray} {c : Option Addr} {lem : Nat} {cat : Nat} {i : Int} {o : Int} {tl : Bool} {g : Option Addr} {gl : Nat} {gc : Nat} (hr : RowS ty w b st h ke ep op n s a len cap oq m r c lem cat i o tl g gl gc) :
    w.cell? ⟨b, 0, none⟩ = some (.int .i64 st) ∧ w.cell? ⟨b, 1, none⟩ = some (.string h) ∧ w.cell? ⟨b, 2, none⟩ = some (.int .i64 ke) ∧ w.cell? ⟨b, 3, none⟩ = some (.int .i64 ep) ∧ w.cell? ⟨b, 4, none⟩ = some (.int .i64 op) ∧ w.cell? ⟨b, 5, none⟩ = some (.int .i64 n) ∧ w.cell? ⟨b, 6, none⟩ = some (.string s) ∧ w.cell? ⟨b, 7, none⟩ = some (.slice a len cap) ∧ w.cell? ⟨b, 8, none⟩ = some (.int .i64 oq) ∧ w.cell? ⟨b, 9, none⟩ = some (.int .i64 m) ∧ w.cell? ⟨b, 10, none⟩ = some (.string r) ∧ w.cell? ⟨b, 11, none⟩ = some (.slice c lem cat) ∧ w.cell? ⟨b, 12, none⟩ = some (.int .i64 i) ∧ w.cell? ⟨b, 13, none⟩ = some (.int .i64 o) ∧ w.cell? ⟨b, 14, none⟩ = some (.bool tl) ∧ w.cell? ⟨b, 15, none⟩ = some (.slice g gl gc) :=
  ⟨cell_of_row hr (by simp), cell_of_row hr (by simp), cell_of_row hr (by simp), cell_of_row hr (by simp), cell_of_row hr (by simp), cell_of_row hr (by simp), cell_of_row hr (by simp), cell_of_row hr (by simp), cell_of_row hr (by simp), cell_of_row hr (by simp), cell_of_row hr (by simp), cell_of_row hr (by simp), cell_of_row hr (by simp), cell_of_row hr (by simp), cell_of_row hr (by simp), cell_of_row hr (by simp)⟩
theorem RowS.free {ty : TypeId} {w : World} {b : Nat} {st : Int} {h : ByteArray} {ke : Int} {ep : Int} {op : Int} {n : Int} {s : ByteArray} {a : Option Addr} {len : Nat} {cap : Nat} {oq : Int} {m : Int} {r : ByteArray} {c : Option Addr} {lem : Nat} {cat : Nat} {i : Int} {o : Int} {tl : Bool} {g : Option Addr} {gl : Nat} {gc : Nat} (hr : RowS ty w b st h ke ep op n s a len cap oq m r c lem cat i o tl g gl gc) (j : Nat) : w.frozen? ⟨b, j, none⟩ = false := frozen_of_row hr

theorem row_set {w : World} {b j : Nat} {C : Array Value} {ty : TypeId} (h : w.heap[b]? = some (.cells C ty (0, 0))) (v : Value) : (w.setCell ⟨b, j, none⟩ v).heap[b]? = some (.cells (C.setIfInBounds j v) ty (0, 0)) := by
  simp only [World.setCell, Array.getElem?_modify]
  simp [h]
theorem row_other {w : World} {b b' j : Nat} {x : Obj} (h : w.heap[b]? = some x) (hn : b ≠ b') (v : Value) : (w.setCell ⟨b', j, none⟩ v).heap[b]? = some x := by
  rw [Below.heap_setCell _ _ _ _ hn]; exact h
theorem size_set (w : World) (p : Addr) (v : Value) : (w.setCell p v).heap.size = w.heap.size := by simp [World.setCell]

theorem setB {w v : World} {b j : Nat} {x : Value} (h : Below w.heap.size w v) (hb : w.heap.size ≤ b) : Below w.heap.size w (v.setCell ⟨b, j, none⟩ x) := h.setCell hb _

theorem RowS.load {ty : TypeId} {w : World} {b : Nat} {st : Int} {h : ByteArray} {ke : Int} {ep : Int} {op : Int} {n : Int} {s : ByteArray} {a : Option Addr} {len : Nat} {cap : Nat} {oq : Int} {m : Int} {r : ByteArray} {c : Option Addr} {lem : Nat} {cat : Nat} {i : Int} {o : Int} {tl : Bool} {g : Option Addr} {gl : Nat} {gc : Nat} (hr : RowS ty w b st h ke ep op n s a len cap oq m r c lem cat i o tl g gl gc) (d : TypeDesc) (hu : Tryz.prog.underlying ty = some d) (hd : d.isRow = true) (hi : (Tryz.prog.info? ty).map (·.size) = some 16) :
    (Instr.loadAt ty (.pointer (some ⟨b, 0, none⟩))).run Tryz.prog w = .ok (.agg #[.int .i64 st, .string h, .int .i64 ke, .int .i64 ep, .int .i64 op, .int .i64 n, .string s, .slice a len cap, .int .i64 oq, .int .i64 m, .string r, .slice c lem cat, .int .i64 i, .int .i64 o, .bool tl, .slice g gl gc]) w := by
  refine run_loadAt_mid w b 0 ty [.int .i64 st, .string h, .int .i64 ke, .int .i64 ep, .int .i64 op, .int .i64 n, .string s, .slice a len cap, .int .i64 oq, .int .i64 m, .string r, .slice c lem cat, .int .i64 i, .int .i64 o, .bool tl, .slice g gl gc] d (fun j v hj => ?_) hu hd (by rw [hi]; rfl)
  have hj' := (List.getElem?_eq_some_iff.1 hj).1
  rw [Nat.zero_add, cell_of_row hr (by simpa using hj')]
  rw [← hj]
  simp [List.getElem?_eq_getElem hj']
theorem info16 : (Tryz.prog.info? 27).map (·.size) = some 16 := by kernel_rfl

theorem loadTI {w : World} {b : Nat} {st : Int} {h : ByteArray} {ke : Int} {ep : Int} {op : Int} {n : Int} {s : ByteArray} {a : Option Addr} {len : Nat} {cap : Nat} {oq : Int} {m : Int} {r : ByteArray} {c : Option Addr} {lem : Nat} {cat : Nat} {i : Int} {o : Int} {tl : Bool} {g : Option Addr} {gl : Nat} {gc : Nat} (hr : RowS 27 w b st h ke ep op n s a len cap oq m r c lem cat i o tl g gl gc) : (Instr.loadAt 27 (.pointer (some ⟨b, 0, none⟩))).run Tryz.prog w = .ok (.agg #[.int .i64 st, .string h, .int .i64 ke, .int .i64 ep, .int .i64 op, .int .i64 n, .string s, .slice a len cap, .int .i64 oq, .int .i64 m, .string r, .slice c lem cat, .int .i64 i, .int .i64 o, .bool tl, .slice g gl gc]) w := hr.load _ Tryz.underlying27 rfl info16
def putA (C : Array Value) : Nat → List Value → Array Value
  | _, [] => C
  | o, v :: r => putA (C.setIfInBounds o v) (o + 1) r
theorem setCells_alloc (w : World) (ty : TypeId) : ∀ (vs : List Value) (o : Nat) (C : Array Value), (w.alloc (.cells C ty)).setCells w.heap.size o vs = w.alloc (.cells (putA C o vs) ty)
  | [], _, _ => rfl
  | v :: r, o, C => by
    rw [World.setCells, World.setCell_alloc_at _ _ _ _ _ rfl]
    exact setCells_alloc w ty r (o + 1) _
set_option maxRecDepth 100000 in
set_option maxHeartbeats 1000000 in
theorem storeNew (w : World) (st : Int) (h : ByteArray) (ke : Int) (ep : Int) (op : Int) (n : Int) (s : ByteArray) (a : Option Addr) (len : Nat) (cap : Nat) (oq : Int) (m : Int) (r : ByteArray) (c : Option Addr) (lem : Nat) (cat : Nat) (i : Int) (o : Int) (tl : Bool) (g : Option Addr) (gl : Nat) (gc : Nat) : (Instr.storeAt 27 (.pointer (some ⟨w.heap.size, 0, none⟩)) (.agg #[.int .i64 st, .string h, .int .i64 ke, .int .i64 ep, .int .i64 op, .int .i64 n, .string s, .slice a len cap, .int .i64 oq, .int .i64 m, .string r, .slice c lem cat, .int .i64 i, .int .i64 o, .bool tl, .slice g gl gc])).run Tryz.prog (w.alloc (.cells #[.int .i64 0, .string ⟨#[]⟩, .int .i64 0, .int .i64 0, .int .i64 0, .int .i64 0, .string ⟨#[]⟩, .slice none 0 0, .int .i64 0, .int .i64 0, .string ⟨#[]⟩, .slice none 0 0, .int .i64 0, .int .i64 0, .bool false, .slice none 0 0] 27)) = .ok () (w.alloc (.cells #[.int .i64 st, .string h, .int .i64 ke, .int .i64 ep, .int .i64 op, .int .i64 n, .string s, .slice a len cap, .int .i64 oq, .int .i64 m, .string r, .slice c lem cat, .int .i64 i, .int .i64 o, .bool tl, .slice g gl gc] 27)) := by
  have h1 := RowS.new 27 w 0 ⟨#[]⟩ 0 0 0 0 ⟨#[]⟩ none 0 0 0 0 ⟨#[]⟩ none 0 0 0 0 false none 0 0
  have hr := run_storeAt_mid (P := Tryz.prog) (w.alloc (.cells #[.int .i64 0, .string ⟨#[]⟩, .int .i64 0, .int .i64 0, .int .i64 0, .int .i64 0, .string ⟨#[]⟩, .slice none 0 0, .int .i64 0, .int .i64 0, .string ⟨#[]⟩, .slice none 0 0, .int .i64 0, .int .i64 0, .bool false, .slice none 0 0] 27)) w.heap.size 0 27 #[.int .i64 st, .string h, .int .i64 ke, .int .i64 ep, .int .i64 op, .int .i64 n, .string s, .slice a len cap, .int .i64 oq, .int .i64 m, .string r, .slice c lem cat, .int .i64 i, .int .i64 o, .bool tl, .slice g gl gc] (fun j hj => ⟨by rw [Nat.zero_add, cell_of_row h1 (by simpa using hj)]; rfl, frozen_of_row h1⟩) (by rw [info16]; rfl) (by simp [Value.oneCell'])
  rw [hr, setCells_alloc]
  exact congrArg (fun x => Result.ok () (w.alloc (.cells x 27))) (by simp [putA])

theorem RowS.range {ty : TypeId} {w : World} {b : Nat} {st : Int} {h : ByteArray} {ke : Int} {ep : Int} {op : Int} {n : Int} {s : ByteArray} {a : Option Addr} {len : Nat} {cap : Nat} {oq : Int} {m : Int} {r : ByteArray} {c : Option Addr} {lem : Nat} {cat : Nat} {i : Int} {o : Int} {tl : Bool} {g : Option Addr} {gl : Nat} {gc : Nat} (hr : RowS ty w b st h ke ep op n s a len cap oq m r c lem cat i o tl g gl gc) : w.rangeAt b 0 [.int .i64 st, .string h, .int .i64 ke, .int .i64 ep, .int .i64 op, .int .i64 n, .string s, .slice a len cap, .int .i64 oq, .int .i64 m, .string r, .slice c lem cat, .int .i64 i, .int .i64 o, .bool tl, .slice g gl gc] := fun j v hj => by
  have hj' := (List.getElem?_eq_some_iff.1 hj).1
  rw [Nat.zero_add, cell_of_row hr (by simpa using hj')]
  rw [← hj]
  simp [List.getElem?_eq_getElem hj']
theorem wpList_store_new {ops : Array Oper} {rest : List Oper} {oo : Oper} {aa : Act} {w : World} {Q : Exit → Act → World → Prop} (hgd : oo.guard = none) (x y : Operand) (ho : oo.op = .store 27 x y)
    (st : Int) (h : ByteArray) (ke : Int) (ep : Int) (op : Int) (n : Int) (s : ByteArray) (a : Option Addr) (len : Nat) (cap : Nat) (oq : Int) (m : Int) (r : ByteArray) (c : Option Addr) (lem : Nat) (cat : Nat) (i : Int) (o : Int) (tl : Bool) (g : Option Addr) (gl : Nat) (gc : Nat) (hx : aa.eval x = .pointer (some ⟨w.heap.size, 0, none⟩)) (hy : aa.eval y = .agg #[.int .i64 st, .string h, .int .i64 ke, .int .i64 ep, .int .i64 op, .int .i64 n, .string s, .slice a len cap, .int .i64 oq, .int .i64 m, .string r, .slice c lem cat, .int .i64 i, .int .i64 o, .bool tl, .slice g gl gc])
    (hq : wpList Tryz.prog ops Q rest (aa.put oo.dst undef) (w.alloc (.cells #[.int .i64 st, .string h, .int .i64 ke, .int .i64 ep, .int .i64 op, .int .i64 n, .string s, .slice a len cap, .int .i64 oq, .int .i64 m, .string r, .slice c lem cat, .int .i64 i, .int .i64 o, .bool tl, .slice g gl gc] 27))) : wpList Tryz.prog ops Q (oo :: rest) aa (w.alloc (.cells #[.int .i64 0, .string ⟨#[]⟩, .int .i64 0, .int .i64 0, .int .i64 0, .int .i64 0, .string ⟨#[]⟩, .slice none 0 0, .int .i64 0, .int .i64 0, .string ⟨#[]⟩, .slice none 0 0, .int .i64 0, .int .i64 0, .bool false, .slice none 0 0] 27)) := by
  refine wpList_plain hgd fun _ hK => ?_
  unfold Oper.wp execOp
  simp only [ho, hx, hy, Sem.run_bind, storeNew, Result.andThen_ok, Sem.run_pure]
  exact hK _ _ hq

set_option maxRecDepth 100000 in
set_option maxHeartbeats 4000000 in
theorem eqS (t u : Tm) (l : List Int) (st : Int) (h : ByteArray) (ke : Int) (ep : Int) (op : Int) (n : Int) (s : ByteArray) (a : Option Addr) (len : Nat) (cap : Nat) (oq : Int) (m : Int) (r : ByteArray) (c : Option Addr) (lem : Nat) (cat : Nat) (i : Int) (o : Int) (tl : Bool) (g : Option Addr) (gc : Nat) (op' n' : Int) (s' : ByteArray) (a' : Option Addr) (len' cap' : Nat) (oq' m' : Int) (r' : ByteArray) (c' : Option Addr) (lem' cat' : Nat) (g' : Option Addr) (gc' : Nat) (w : World) (hl : Lies w 0 t (tmCells op n s a len cap)) (hu : Lies w 0 u (tmCells oq m r c lem cat)) (hi : Ints w 0 g l) (hl' : Lies w 0 t (tmCells op' n' s' a' len' cap')) (hu' : Lies w 0 u (tmCells oq' m' r' c' lem' cat')) (hi' : Ints w 0 g' l) (hsl : l.length ≤ 2097153) :
    Calls Tryz.prog 11 #[.agg #[.int .i64 st, .string h, .int .i64 ke, .int .i64 ep, .int .i64 op, .int .i64 n, .string s, .slice a len cap, .int .i64 oq, .int .i64 m, .string r, .slice c lem cat, .int .i64 i, .int .i64 o, .bool tl, .slice g l.length gc], .agg #[.int .i64 st, .string h, .int .i64 ke, .int .i64 ep, .int .i64 op', .int .i64 n', .string s', .slice a' len' cap', .int .i64 oq', .int .i64 m', .string r', .slice c' lem' cat', .int .i64 i, .int .i64 o, .bool tl, .slice g' l.length gc']] w fun e w' => e = .returned (.bool true) ∧ Below w.heap.size w w' := by
  have g1 := hide (fun v hv hv' => eq_calls t op n s a len cap op' n' s' a' len' cap' v hv hv')
  have g2 := hide (fun v hv hv' => eq_calls u oq m r c lem cat oq' m' r' c' lem' cat' v hv hv')
  have g3 := hide (fun v hv hv' => eqI l g g' gc gc' v hsl hv hv')
  have hb0 : Below w.heap.size w ((w.alloc (.cells #[.int .i64 st, .string h, .int .i64 ke, .int .i64 ep, .int .i64 op, .int .i64 n, .string s, .slice a len cap, .int .i64 oq, .int .i64 m, .string r, .slice c lem cat, .int .i64 i, .int .i64 o, .bool tl, .slice g l.length gc] 27)).alloc (.cells #[.int .i64 st, .string h, .int .i64 ke, .int .i64 ep, .int .i64 op', .int .i64 n', .string s', .slice a' len' cap', .int .i64 oq', .int .i64 m', .string r', .slice c' lem' cat', .int .i64 i, .int .i64 o, .bool tl, .slice g' l.length gc'] 27)) := btC (abC _) (abC _)
  have HL := hide (hl.below hb0)
  have HL' := hide (hl'.below hb0)
  have HU := hide (hu.below hb0)
  have HU' := hide (hu'.below hb0)
  have HI := hide (hi.on hb0)
  have HI' := hide (hi'.on hb0)
  have HB0 := hide hb0
  have HX := hide ((RowS.new 27 w st h ke ep op n s a len cap oq m r c lem cat i o tl g l.length gc).below (abC (.cells #[.int .i64 st, .string h, .int .i64 ke, .int .i64 ep, .int .i64 op', .int .i64 n', .string s', .slice a' len' cap', .int .i64 oq', .int .i64 m', .string r', .slice c' lem' cat', .int .i64 i, .int .i64 o, .bool tl, .slice g' l.length gc'] 27)))
  have HY : Hid (RowS 27 ((w.alloc (.cells #[.int .i64 st, .string h, .int .i64 ke, .int .i64 ep, .int .i64 op, .int .i64 n, .string s, .slice a len cap, .int .i64 oq, .int .i64 m, .string r, .slice c lem cat, .int .i64 i, .int .i64 o, .bool tl, .slice g l.length gc] 27)).alloc (.cells #[.int .i64 st, .string h, .int .i64 ke, .int .i64 ep, .int .i64 op', .int .i64 n', .string s', .slice a' len' cap', .int .i64 oq', .int .i64 m', .string r', .slice c' lem' cat', .int .i64 i, .int .i64 o, .bool tl, .slice g' l.length gc'] 27)) (w.heap.size + 1) st h ke ep op' n' s' a' len' cap' oq' m' r' c' lem' cat' i o tl g' l.length gc') := by
    have := RowS.new 27 (w.alloc (.cells #[.int .i64 st, .string h, .int .i64 ke, .int .i64 ep, .int .i64 op, .int .i64 n, .string s, .slice a len cap, .int .i64 oq, .int .i64 m, .string r, .slice c lem cat, .int .i64 i, .int .i64 o, .bool tl, .slice g l.length gc] 27)) st h ke ep op' n' s' a' len' cap' oq' m' r' c' lem' cat' i o tl g' l.length gc'
    rwa [heap_size_alloc] at this
  clear hl hl' hu hu' hi hi' hb0 hsl
  go_enter Tryz.func11, Tryz.ntmps11
  cases tl
  all_goals
    go_wp2_with fail
    refine (unhide g1 _ (unhide HL) (unhide HL')).mono ?_
    rintro e w2 ⟨rfl, hb2⟩
    obtain ⟨c0, c1, c2, c3, c4, c5, c6, c7, c8, c9, c10, c11, c12, c13, c14, c15⟩ := ((unhide HX).below hb2).facts
    obtain ⟨d0, d1, d2, d3, d4, d5, d6, d7, d8, d9, d10, d11, d12, d13, d14, d15⟩ := ((unhide HY).below hb2).facts
    have HB2 := hide hb2
    clear hb2
    go_wp2_with fail
    refine (unhide g2 _ ((unhide HU).below (unhide HB2)) ((unhide HU').below (unhide HB2))).mono ?_
    rintro e w3 ⟨rfl, hb3⟩
    have HB3 := hide (btC (unhide HB2) hb3)
    clear hb3 c0 c1 c2 c3 c4 c5 c6 c7 c8 c9 c10 c11 c12 c13 c14 c15 d0 d1 d2 d3 d4 d5 d6 d7 d8 d9 d10 d11 d12 d13 d14 d15
    obtain ⟨c0, c1, c2, c3, c4, c5, c6, c7, c8, c9, c10, c11, c12, c13, c14, c15⟩ := ((unhide HX).below (unhide HB3)).facts
    obtain ⟨d0, d1, d2, d3, d4, d5, d6, d7, d8, d9, d10, d11, d12, d13, d14, d15⟩ := ((unhide HY).below (unhide HB3)).facts
    go_wp2_with fail
    refine (unhide g3 _ ((unhide HI).on (unhide HB3)) ((unhide HI').on (unhide HB3))).mono ?_
    rintro e w4 ⟨rfl, hb4⟩
    have HB4 := hide (btC (unhide HB3) hb4)
    clear hb4 c0 c1 c2 c3 c4 c5 c6 c7 c8 c9 c10 c11 c12 c13 c14 c15 d0 d1 d2 d3 d4 d5 d6 d7 d8 d9 d10 d11 d12 d13 d14 d15
    go_wp2_with fail
    go_ret
    exact ⟨rfl, btC (unhide HB0) (unhide HB4)⟩

theorem same15 (t t' : Tm) (op n : Int) (s : ByteArray) (a : Option Addr) (len cap : Nat) (op' n' : Int) (s' : ByteArray) (a' : Option Addr) (len' cap' : Nat) (w : World) (hl : Lies w 0 t (tmCells op n s a len cap)) (hl' : Lies w 0 t' (tmCells op' n' s' a' len' cap'))
    (hsz : t.size ≤ 2097152) :
    Calls Tryz.prog 34 #[.agg #[.int .i64 op, .int .i64 n, .string s, .slice a len cap], .agg #[.int .i64 op', .int .i64 n', .string s', .slice a' len' cap']] w fun e w' => e = .returned (.bool (sameB t t')) ∧ Below w.heap.size w w' := by
  have h24 := hide (cmp24 t t' op n s a len cap op' n' s' a' len' cap')
  have HL := hide hl
  have HL' := hide hl'
  have HB : Hid (∀ c : Int, c = cmpT t t' → sameB t t' = (c == 0)) := fun c hc => by rw [hc]; unfold sameB; rw [Bool.eq_iff_iff]; simp
  generalize cmpT t t' = C at *
  clear hl hl'
  go_enter Tryz.func34, Tryz.ntmps34
  go_wp2_with fail
  refine (unhide h24 _ ((unhide HL).below (((Below.refl _ _).alloc (Nat.le_refl _) _).alloc (by simp) _)) ((unhide HL').below (((Below.refl _ _).alloc (Nat.le_refl _) _).alloc (by simp) _)) hsz).mono ?_
  rintro e w2 ⟨rfl, hb2⟩
  go_wp2_with fail
  go_ret
  exact ⟨ret_bool (unhide HB _ rfl).symm, (((Below.refl _ _).alloc (Nat.le_refl _) _).alloc (by simp) _).trans (hb2.mono (by simp; omega))⟩


theorem below_drewC {w v : World} (h : Below w.drew.heap.size w.drew v) : Below w.heap.size w v := ((Below.refl _ _).drew).trans h

def zeroT : Tm := .node 0 0 ByteArray.empty []
/-- Each of them is an atom's number. -/
def gotB (l : List Int) : Bool := l.all fun x => inB x 0 1000000
theorem gotB_no {l : List Int} {k : Nat} {x : Int} (h : l[k]? = some x) (hx : inB x 0 1000000 = false) : gotB l = false := by
  unfold gotB
  rw [List.all_eq_false]
  exact ⟨x, List.mem_of_getElem? h, by simp [hx]⟩
theorem gotB_yes {l : List Int} (h : ∀ k x, k < l.length → l[k]? = some x → inB x 0 1000000 = true) : gotB l = true := by
  unfold gotB
  rw [List.all_eq_true]
  intro x hx
  obtain ⟨k, hk⟩ := List.mem_iff_getElem?.1 hx
  exact h k x (List.getElem?_eq_some_iff.1 hk).1 hk
/-- Its share: a right term where it has one, zero else. -/
noncomputable def svB (st : Int) (tl : Bool) (u : Tm) : Bool := if tl || st == 3 then okT u else sameB u zeroT
/-- A server that is right. -/
noncomputable def serverB (st : Int) (h : ByteArray) (ke ep : Int) (t u : Tm) (i o : Int) (tl : Bool) (l : List Int) : Bool :=
  inB st 1 5 && (hostB h && (inB ke 0 1000000 && (inB ep 0 1000000 && (gotB l && (decide (l.length ≤ 20) && (okT t && (svB st tl u && (inB i 0 100 && inB o 0 100))))))))

theorem atomI (x : Int) (w : World) : Calls Tryz.prog 118 #[.int .i64 x] w fun e w' => e = .returned (.bool (inB x 0 1000000)) ∧ w' = w := by
  by_cases h1 : 0 ≤ x
  · by_cases h2 : x ≤ 1000000
    · rw [show inB x 0 1000000 = true from decide_eq_true ⟨h1, h2⟩]
      go_enter Tryz.func118, Tryz.ntmps118
      go_wp2_with fail
      go_ret
      exact ⟨retB (by simp), rfl⟩
    · rw [show inB x 0 1000000 = false from decide_eq_false (by omega)]
      go_enter Tryz.func118, Tryz.ntmps118
      go_wp2_with fail
      go_ret
      exact ⟨retB (by simp), rfl⟩
  · rw [show inB x 0 1000000 = false from decide_eq_false (by omega)]
    go_enter Tryz.func118, Tryz.ntmps118
    go_wp2_with fail
    go_ret
    exact ⟨rfl, rfl⟩

theorem cntI (x : Int) (w : World) : Calls Tryz.prog 121 #[.int .i64 x] w fun e w' => e = .returned (.bool (inB x 0 100)) ∧ w' = w := by
  by_cases h1 : 0 ≤ x
  · by_cases h2 : x ≤ 100
    · rw [show inB x 0 100 = true from decide_eq_true ⟨h1, h2⟩]
      go_enter Tryz.func121, Tryz.ntmps121
      go_wp2_with fail
      go_ret
      exact ⟨retB (by simp), rfl⟩
    · rw [show inB x 0 100 = false from decide_eq_false (by omega)]
      go_enter Tryz.func121, Tryz.ntmps121
      go_wp2_with fail
      go_ret
      exact ⟨retB (by simp), rfl⟩
  · rw [show inB x 0 100 = false from decide_eq_false (by omega)]
    go_enter Tryz.func121, Tryz.ntmps121
    go_wp2_with fail
    go_ret
    exact ⟨rfl, rfl⟩

set_option maxRecDepth 100000 in
set_option maxHeartbeats 4000000 in
theorem gotI (l : List Int) (g : Option Addr) (gc : Nat) (w : World) (hi : Ints w 0 g l) (hsl : l.length ≤ 2097152) :
    Calls Tryz.prog 119 #[.slice g l.length gc] w fun e w' => e = .returned (.bool (gotB l && decide (l.length ≤ 20))) ∧ w' = w := by
  by_cases h20 : (20 : Int) < (l.length : Int)
  · have HE : Hid ((gotB l && decide (l.length ≤ 20)) = false) := by
      show _ = _
      rw [decide_eq_false (show ¬ l.length ≤ 20 by omega)]; simp
    generalize hL : l.length = L at *
    go_enter Tryz.func119, Tryz.ntmps119
    go_wp2_with fail
    go_ret
    exact ⟨retB (unhide HE), rfl⟩
  · have HE : Hid ((gotB l && decide (l.length ≤ 20)) = gotB l) := by
      show _ = _
      rw [decide_eq_true (show l.length ≤ 20 by omega)]; simp
    have HI := hide hi
    clear hi
    generalize hL : l.length = L at *
    have HL : Hid (l.length = L) := hL
    clear hL
    go_enter Tryz.func119, Tryz.ntmps119
    go_wp2_with fail
    go_loopw [10] (fun n wr => ∃ k : Nat, n = .int .i64 k ∧ k ≤ L ∧ (∀ j x, j < k → l[j]? = some x → inB x 0 1000000 = true) ∧ wr = w) (fun n _ => L - (intOf n).toNat)
    case atStart => exact ⟨0, rfl, by omega, fun j x hj => by omega, rfl⟩
    case round =>
      obtain ⟨k, rfl, hk, hd, rfl⟩ := hrel
      have HD := hide hd
      clear hd
      by_cases hp : k < L
      · have hp' : k < l.length := by have := HL.out; omega
        obtain ⟨x, hx⟩ : ∃ x, l[k]? = some x := ⟨_, List.getElem?_eq_getElem hp'⟩
        obtain ⟨b, o, rfl, -, c0⟩ := unhide HI k x hx
        have HK := hide hx
        have c2 : (k : Int) < (L : Int) := by omega
        have c3 : (0 : Int) ≤ (k : Int) := by omega
        have w1 : wrap64 ((k : Int) + 1) = ((k + 1 : Nat) : Int) := by unfold wrap64; omega
        clear hx hp'
        go_wp2_with fail
        refine (atomI x _).mono ?_
        rintro e w2 ⟨rfl, rfl⟩
        cases hB : inB x 0 1000000 with
        | true =>
          go_wp2_with fail
          go_roundw
          case rel => exact ⟨k + 1, rfl, by omega, fun j y hj hy => by
            by_cases hjk : j = k
            · subst hjk; rw [unhide HK] at hy; cases hy; exact hB
            · exact unhide HD j y (by omega) hy, trivial⟩
          case measure => simp only [intOf]; omega
        | false =>
          go_wp2_with fail
          go_ret
          exact ⟨retB (by rw [unhide HE]; exact gotB_no (unhide HK) hB), rfl⟩
      · have c2 : ¬ (k : Int) < (L : Int) := by omega
        go_wp2_with fail
        go_ret
        exact ⟨retB (by rw [unhide HE]; exact gotB_yes fun j x hj hx => unhide HD j x (by have := HL.out; omega) hx), rfl⟩

set_option maxRecDepth 100000 in
set_option maxHeartbeats 4000000 in
theorem shareI (u : Tm) (st : Int) (h : ByteArray) (ke : Int) (ep : Int) (op : Int) (n : Int) (s : ByteArray) (a : Option Addr) (len : Nat) (cap : Nat) (oq : Int) (m : Int) (r : ByteArray) (c : Option Addr) (lem : Nat) (cat : Nat) (i : Int) (o : Int) (tl : Bool) (g : Option Addr) (gl : Nat) (gc : Nat) (w : World) (hu : Lies w 0 u (tmCells oq m r c lem cat)) (hsu : u.size ≤ 2097152) :
    Calls Tryz.prog 120 #[.agg #[.int .i64 st, .string h, .int .i64 ke, .int .i64 ep, .int .i64 op, .int .i64 n, .string s, .slice a len cap, .int .i64 oq, .int .i64 m, .string r, .slice c lem cat, .int .i64 i, .int .i64 o, .bool tl, .slice g gl gc]] w fun e w' => e = .returned (.bool (svB st tl u)) ∧ Below w.heap.size w w' := by
  have gs := hide (fun v hv hz => same15 u zeroT oq m r c lem cat 0 0 ByteArray.empty none 0 0 v hv hz hsu)
  have gk := hide (fun v hv => ok10 u oq m r c lem cat v hv hsu)
  have hb0 := abC (w := w) (.cells #[.int .i64 st, .string h, .int .i64 ke, .int .i64 ep, .int .i64 op, .int .i64 n, .string s, .slice a len cap, .int .i64 oq, .int .i64 m, .string r, .slice c lem cat, .int .i64 i, .int .i64 o, .bool tl, .slice g gl gc] 27)
  have HB0 := hide hb0
  have HU := hide (hu.below hb0)
  clear hu hb0 hsu
  cases tl with
  | true =>
    have HE : Hid (svB st true u = okT u) := by show _ = _; simp [svB]
    generalize okT u = Z at *
    go_enter Tryz.func120, Tryz.ntmps120
    go_wp2_with fail
    refine (unhide gk _ (unhide HU)).mono ?_
    rintro e w2 ⟨rfl, hb2⟩
    have HB2 := hide hb2
    clear hb2
    go_wp2_with fail
    go_ret
    exact ⟨retB (unhide HE), btC (unhide HB0) (unhide HB2)⟩
  | false =>
    by_cases h3 : st = 3
    · subst h3
      have HE : Hid (svB 3 false u = okT u) := by show _ = _; simp [svB]
      generalize okT u = Z at *
      go_enter Tryz.func120, Tryz.ntmps120
      go_wp2_with fail
      refine (unhide gk _ (unhide HU)).mono ?_
      rintro e w2 ⟨rfl, hb2⟩
      have HB2 := hide hb2
      clear hb2
      go_wp2_with fail
      go_ret
      exact ⟨retB (unhide HE), btC (unhide HB0) (unhide HB2)⟩
    · have HE : Hid (svB st false u = sameB u zeroT) := by show _ = _; simp [svB, h3]
      have h3b : (st == 3) = false := by simpa using h3
      generalize sameB u zeroT = Z at *
      go_enter Tryz.func120, Tryz.ntmps120
      go_wp2_with fail
      refine (unhide gs _ (unhide HU) (lies_leaf _ 0 0 ByteArray.empty (by simp) rfl rfl)).mono ?_
      rintro e w2 ⟨rfl, hb2⟩
      have HB2 := hide hb2
      clear hb2
      go_wp2_with fail
      go_ret
      exact ⟨retB (unhide HE), btC (unhide HB0) (unhide HB2)⟩

theorem round_facts {l : List Int} {k : Nat} (hp : k < l.length) (hl : l.length ≤ 2097152) : (k : Int) < (l.length : Int) ∧ (0 : Int) ≤ (k : Int) ∧ wrap64 ((k : Int) + 1) = ((k + 1 : Nat) : Int) := by
  refine ⟨by omega, by omega, ?_⟩
  unfold wrap64; omega
theorem round_more {l : List Int} {k : Nat} {x : Int} (hk : l[k]? = some x) (hB : inB x 0 1000000 = true) (hd : ∀ j x, j < k → l[j]? = some x → inB x 0 1000000 = true) : ∀ j x, j < k + 1 → l[j]? = some x → inB x 0 1000000 = true := fun j y hj hy => by
  by_cases hjk : j = k
  · subst hjk; rw [hk] at hy; cases hy; exact hB
  · exact hd j y (by omega) hy
theorem round_meas {L k : Nat} (w1 : wrap64 ((k : Int) + 1) = ((k + 1 : Nat) : Int)) (hp : k < L) : L - (intOf (.int .i64 (wrap64 ((k : Int) + 1)))).toNat < L - (intOf (.int .i64 (k : Int))).toNat := by
  rw [w1]; simp only [intOf]; omega
theorem len20 (l : List Int) : decide ((l.length : Int) ≤ 20) = decide (l.length ≤ 20) := decide_eq_decide.2 (by omega)
theorem round_end {l : List Int} {k : Nat} (hp : ¬ k < l.length) (hk : k ≤ l.length) (hd : ∀ j x, j < k → l[j]? = some x → inB x 0 1000000 = true) : (¬ (k : Int) < (l.length : Int)) ∧ gotB l = true := by
  refine ⟨by omega, gotB_yes fun j x hj hx => hd j x (by omega) hx⟩

set_option maxRecDepth 100000 in
set_option maxHeartbeats 4000000 in
theorem serverS_t (t u : Tm) (l : List Int) (st : Int) (h : ByteArray) (ke : Int) (ep : Int) (op : Int) (n : Int) (s : ByteArray) (a : Option Addr) (len : Nat) (cap : Nat) (oq : Int) (m : Int) (r : ByteArray) (c : Option Addr) (lem : Nat) (cat : Nat) (i : Int) (o : Int) (g : Option Addr) (gc : Nat) (w : World) (hl : Lies w 0 t (tmCells op n s a len cap)) (hu : Lies w 0 u (tmCells oq m r c lem cat)) (hi : Ints w 0 g l) (hst : t.size ≤ 2097152) (hsu : u.size ≤ 2097152) (hsl : l.length ≤ 2097152) (hh : h.size ≤ 2097152) :
    Calls Tryz.prog 55 #[.agg #[.int .i64 st, .string h, .int .i64 ke, .int .i64 ep, .int .i64 op, .int .i64 n, .string s, .slice a len cap, .int .i64 oq, .int .i64 m, .string r, .slice c lem cat, .int .i64 i, .int .i64 o, .bool true, .slice g l.length gc]] w fun e w' => e = .returned (.bool (serverB st h ke ep t u i o true l)) ∧ Below w.heap.size w w' := by
  have gh := hide (fun v => hostS h v hh)
  have gs := hide (fun v hv hz => sa_calls u zeroT oq m r c lem cat 0 0 ByteArray.empty none 0 0 v hv hz)
  have gk := hide (fun v hv => ok8 u oq m r c lem cat v hv hsu)
  have gc_ := hide (fun v hv => ok8 t op n s a len cap v hv hst)
  have hb0 := abC (w := w) (.cells #[.int .i64 st, .string h, .int .i64 ke, .int .i64 ep, .int .i64 op, .int .i64 n, .string s, .slice a len cap, .int .i64 oq, .int .i64 m, .string r, .slice c lem cat, .int .i64 i, .int .i64 o, .bool true, .slice g l.length gc] 27)
  have HB0 := hide hb0
  have HL := hide (hl.below hb0)
  have HU := hide (hu.below hb0)
  have HI := hide (hi.on hb0)
  have HX := hide (RowS.new 27 w st h ke ep op n s a len cap oq m r c lem cat i o true g l.length gc)
  have HLEN : Hid (l.length ≤ 2097152) := hsl
  clear hl hu hi hb0 hst hsu hsl hh
  go_enter Tryz.func55, Tryz.ntmps55
  go_wp2_with fail
  go_loopw [3] (fun nn wr => ∃ k : Nat, nn = .int .i64 k ∧ k ≤ l.length ∧ (∀ j x, j < k → l[j]? = some x → inB x 0 1000000 = true) ∧ wr = (w.alloc (.cells #[.int .i64 st, .string h, .int .i64 ke, .int .i64 ep, .int .i64 op, .int .i64 n, .string s, .slice a len cap, .int .i64 oq, .int .i64 m, .string r, .slice c lem cat, .int .i64 i, .int .i64 o, .bool true, .slice g l.length gc] 27))) (fun nn _ => l.length - (intOf nn).toNat)
  case atStart => exact ⟨0, rfl, Nat.zero_le _, fun j x hj => absurd hj (Nat.not_lt_zero _), rfl⟩
  case round =>
    obtain ⟨k, rfl, hk, hd, rfl⟩ := hrel
    have HD := hide hd
    clear hd
    by_cases hp : k < l.length
    · obtain ⟨x, hx⟩ : ∃ x, l[k]? = some x := ⟨_, List.getElem?_eq_getElem hp⟩
      obtain ⟨b, o2, rfl, -, c0⟩ := unhide HI k x hx
      have HK := hide hx
      obtain ⟨c2, c3, w1⟩ := round_facts hp (unhide HLEN)
      have HE : Hid (inB x 0 1000000 = false → serverB st h ke ep t u i o true l = false) := fun hB => by simp [serverB, gotB_no (unhide HK) hB]
      have HP : Hid (k < l.length) := hp
      clear hx hp hk
      generalize hL : l.length = L at *
      clear hL
      go_wp2_with fail
      refine (in26 x 0 1000000 _).mono ?_
      rintro e w2 ⟨rfl, rfl⟩
      cases hB : inB x 0 1000000 with
      | true =>
        go_wp2_with fail
        go_roundw
        case rel => exact ⟨k + 1, by rw [w1], unhide HP, round_more (unhide HK) hB (unhide HD), trivial⟩
        case measure => exact round_meas w1 (unhide HP)
      | false =>
        go_wp2_with fail
        go_ret
        exact ⟨retB (unhide HE hB), unhide HB0⟩
    · obtain ⟨c2, HG⟩ := round_end hp hk (unhide HD)
      have HE20 : Hid (decide ((l.length : Int) ≤ 20) = decide (l.length ≤ 20)) := len20 l
      clear HD HI hp hk HLEN
      obtain ⟨c0, c1, c2, c3, c4, c5, c6, c7, c8, c9, c10, c11, c12, c13, c14, c15⟩ := (unhide HX).facts
      have HG := hide HG
      go_wp2_with fail
      refine (unhide gk _ (unhide HU)).mono ?_
      rintro e wx1 ⟨rfl, hbq⟩
      have HB1 := hide hbq
      clear hbq c0 c1 c2 c3 c4 c5 c6 c7 c8 c9 c10 c11 c12 c13 c14 c15
      obtain ⟨c0, c1, c2, c3, c4, c5, c6, c7, c8, c9, c10, c11, c12, c13, c14, c15⟩ := ((unhide HX).below (unhide HB1)).facts
      cases hS : okT u with
      | false =>
        go_wp2_with fail
        go_ret
        exact ⟨retB (by simp [serverB, svB, hS]), btC (unhide HB0) (unhide HB1)⟩
      | true =>
        go_wp2_with fail
        refine (in26 st 1 5 _).mono ?_
        rintro e wz0 ⟨rfl, rfl⟩
        cases hB0 : inB st 1 5 with
        | false =>
          go_wp2_with fail
          go_ret
          exact ⟨retB (by simp [serverB, hB0]), btC (unhide HB0) (unhide HB1)⟩
        | true =>
          go_wp2_with fail
          refine (unhide gh _).mono ?_
          rintro e wx2 ⟨rfl, hbq⟩
          have HB2 := hide (btC (unhide HB1) hbq)
          clear hbq c0 c1 c2 c3 c4 c5 c6 c7 c8 c9 c10 c11 c12 c13 c14 c15
          obtain ⟨c0, c1, c2, c3, c4, c5, c6, c7, c8, c9, c10, c11, c12, c13, c14, c15⟩ := ((unhide HX).below (unhide HB2)).facts
          cases hB1 : hostB h with
          | false =>
            go_wp2_with fail
            go_ret
            exact ⟨retB (by simp [serverB, hB1]), btC (unhide HB0) (unhide HB2)⟩
          | true =>
            go_wp2_with fail
            refine (in26 ke 0 1000000 _).mono ?_
            rintro e wz2 ⟨rfl, rfl⟩
            cases hB2 : inB ke 0 1000000 with
            | false =>
              go_wp2_with fail
              go_ret
              exact ⟨retB (by simp [serverB, hB2]), btC (unhide HB0) (unhide HB2)⟩
            | true =>
              go_wp2_with fail
              refine (in26 ep 0 1000000 _).mono ?_
              rintro e wz3 ⟨rfl, rfl⟩
              cases hB3 : inB ep 0 1000000 with
              | false =>
                go_wp2_with fail
                go_ret
                exact ⟨retB (by simp [serverB, hB3]), btC (unhide HB0) (unhide HB2)⟩
              | true =>
                go_wp2_with fail
                refine (unhide gc_ _ ((unhide HL).below (unhide HB2))).mono ?_
                rintro e wx3 ⟨rfl, hbq⟩
                have HB3 := hide (btC (unhide HB2) hbq)
                clear hbq c0 c1 c2 c3 c4 c5 c6 c7 c8 c9 c10 c11 c12 c13 c14 c15
                obtain ⟨c0, c1, c2, c3, c4, c5, c6, c7, c8, c9, c10, c11, c12, c13, c14, c15⟩ := ((unhide HX).below (unhide HB3)).facts
                cases hB4 : okT t with
                | false =>
                  go_wp2_with fail
                  go_ret
                  exact ⟨retB (by simp [serverB, hB4]), btC (unhide HB0) (unhide HB3)⟩
                | true =>
                  go_wp2_with fail
                  refine (in26 i 0 100 _).mono ?_
                  rintro e wz5 ⟨rfl, rfl⟩
                  cases hB5 : inB i 0 100 with
                  | false =>
                    go_wp2_with fail
                    go_ret
                    exact ⟨retB (by simp [serverB, hB5]), btC (unhide HB0) (unhide HB3)⟩
                  | true =>
                    go_wp2_with fail
                    refine (in26 o 0 100 _).mono ?_
                    rintro e wz6 ⟨rfl, rfl⟩
                    cases hB6 : inB o 0 100 with
                    | false =>
                      go_wp2_with fail
                      go_ret
                      exact ⟨retB (by simp [serverB, hB6]), btC (unhide HB0) (unhide HB3)⟩
                    | true =>
                      go_wp2_with fail
                      go_ret
                      exact ⟨retB (by simp [serverB, hB0, hB1, hB2, hB3, hB4, hB5, hB6, svB, hS, unhide HG, unhide HE20]), btC (unhide HB0) (unhide HB3)⟩

set_option maxRecDepth 100000 in
set_option maxHeartbeats 4000000 in
theorem serverS_3 (t u : Tm) (l : List Int) (st : Int) (h : ByteArray) (ke : Int) (ep : Int) (op : Int) (n : Int) (s : ByteArray) (a : Option Addr) (len : Nat) (cap : Nat) (oq : Int) (m : Int) (r : ByteArray) (c : Option Addr) (lem : Nat) (cat : Nat) (i : Int) (o : Int) (g : Option Addr) (gc : Nat) (w : World) (hl : Lies w 0 t (tmCells op n s a len cap)) (hu : Lies w 0 u (tmCells oq m r c lem cat)) (hi : Ints w 0 g l) (hst : t.size ≤ 2097152) (hsu : u.size ≤ 2097152) (hsl : l.length ≤ 2097152) (hh : h.size ≤ 2097152) (h3b : (st == 3) = true) :
    Calls Tryz.prog 55 #[.agg #[.int .i64 st, .string h, .int .i64 ke, .int .i64 ep, .int .i64 op, .int .i64 n, .string s, .slice a len cap, .int .i64 oq, .int .i64 m, .string r, .slice c lem cat, .int .i64 i, .int .i64 o, .bool false, .slice g l.length gc]] w fun e w' => e = .returned (.bool (serverB st h ke ep t u i o false l)) ∧ Below w.heap.size w w' := by
  have gh := hide (fun v => hostS h v hh)
  have gs := hide (fun v hv hz => sa_calls u zeroT oq m r c lem cat 0 0 ByteArray.empty none 0 0 v hv hz)
  have gk := hide (fun v hv => ok8 u oq m r c lem cat v hv hsu)
  have gc_ := hide (fun v hv => ok8 t op n s a len cap v hv hst)
  have hb0 := abC (w := w) (.cells #[.int .i64 st, .string h, .int .i64 ke, .int .i64 ep, .int .i64 op, .int .i64 n, .string s, .slice a len cap, .int .i64 oq, .int .i64 m, .string r, .slice c lem cat, .int .i64 i, .int .i64 o, .bool false, .slice g l.length gc] 27)
  have HB0 := hide hb0
  have HL := hide (hl.below hb0)
  have HU := hide (hu.below hb0)
  have HI := hide (hi.on hb0)
  have HX := hide (RowS.new 27 w st h ke ep op n s a len cap oq m r c lem cat i o false g l.length gc)
  have HLEN : Hid (l.length ≤ 2097152) := hsl
  clear hl hu hi hb0 hst hsu hsl hh
  go_enter Tryz.func55, Tryz.ntmps55
  go_wp2_with fail
  go_loopw [3] (fun nn wr => ∃ k : Nat, nn = .int .i64 k ∧ k ≤ l.length ∧ (∀ j x, j < k → l[j]? = some x → inB x 0 1000000 = true) ∧ wr = (w.alloc (.cells #[.int .i64 st, .string h, .int .i64 ke, .int .i64 ep, .int .i64 op, .int .i64 n, .string s, .slice a len cap, .int .i64 oq, .int .i64 m, .string r, .slice c lem cat, .int .i64 i, .int .i64 o, .bool false, .slice g l.length gc] 27))) (fun nn _ => l.length - (intOf nn).toNat)
  case atStart => exact ⟨0, rfl, Nat.zero_le _, fun j x hj => absurd hj (Nat.not_lt_zero _), rfl⟩
  case round =>
    obtain ⟨k, rfl, hk, hd, rfl⟩ := hrel
    have HD := hide hd
    clear hd
    by_cases hp : k < l.length
    · obtain ⟨x, hx⟩ : ∃ x, l[k]? = some x := ⟨_, List.getElem?_eq_getElem hp⟩
      obtain ⟨b, o2, rfl, -, c0⟩ := unhide HI k x hx
      have HK := hide hx
      obtain ⟨c2, c3, w1⟩ := round_facts hp (unhide HLEN)
      have HE : Hid (inB x 0 1000000 = false → serverB st h ke ep t u i o false l = false) := fun hB => by simp [serverB, gotB_no (unhide HK) hB]
      have HP : Hid (k < l.length) := hp
      clear hx hp hk
      generalize hL : l.length = L at *
      clear hL
      go_wp2_with fail
      refine (in26 x 0 1000000 _).mono ?_
      rintro e w2 ⟨rfl, rfl⟩
      cases hB : inB x 0 1000000 with
      | true =>
        go_wp2_with fail
        go_roundw
        case rel => exact ⟨k + 1, by rw [w1], unhide HP, round_more (unhide HK) hB (unhide HD), trivial⟩
        case measure => exact round_meas w1 (unhide HP)
      | false =>
        go_wp2_with fail
        go_ret
        exact ⟨retB (unhide HE hB), unhide HB0⟩
    · obtain ⟨c2, HG⟩ := round_end hp hk (unhide HD)
      have HE20 : Hid (decide ((l.length : Int) ≤ 20) = decide (l.length ≤ 20)) := len20 l
      clear HD HI hp hk HLEN
      obtain ⟨c0, c1, c2, c3, c4, c5, c6, c7, c8, c9, c10, c11, c12, c13, c14, c15⟩ := (unhide HX).facts
      have HG := hide HG
      go_wp2_with fail
      refine (unhide gk _ (unhide HU)).mono ?_
      rintro e wx1 ⟨rfl, hbq⟩
      have HB1 := hide hbq
      clear hbq c0 c1 c2 c3 c4 c5 c6 c7 c8 c9 c10 c11 c12 c13 c14 c15
      obtain ⟨c0, c1, c2, c3, c4, c5, c6, c7, c8, c9, c10, c11, c12, c13, c14, c15⟩ := ((unhide HX).below (unhide HB1)).facts
      cases hS : okT u with
      | false =>
        go_wp2_with fail
        go_ret
        exact ⟨retB (by simp [serverB, svB, hS, h3b]), btC (unhide HB0) (unhide HB1)⟩
      | true =>
        go_wp2_with fail
        refine (in26 st 1 5 _).mono ?_
        rintro e wz0 ⟨rfl, rfl⟩
        cases hB0 : inB st 1 5 with
        | false =>
          go_wp2_with fail
          go_ret
          exact ⟨retB (by simp [serverB, hB0]), btC (unhide HB0) (unhide HB1)⟩
        | true =>
          go_wp2_with fail
          refine (unhide gh _).mono ?_
          rintro e wx2 ⟨rfl, hbq⟩
          have HB2 := hide (btC (unhide HB1) hbq)
          clear hbq c0 c1 c2 c3 c4 c5 c6 c7 c8 c9 c10 c11 c12 c13 c14 c15
          obtain ⟨c0, c1, c2, c3, c4, c5, c6, c7, c8, c9, c10, c11, c12, c13, c14, c15⟩ := ((unhide HX).below (unhide HB2)).facts
          cases hB1 : hostB h with
          | false =>
            go_wp2_with fail
            go_ret
            exact ⟨retB (by simp [serverB, hB1]), btC (unhide HB0) (unhide HB2)⟩
          | true =>
            go_wp2_with fail
            refine (in26 ke 0 1000000 _).mono ?_
            rintro e wz2 ⟨rfl, rfl⟩
            cases hB2 : inB ke 0 1000000 with
            | false =>
              go_wp2_with fail
              go_ret
              exact ⟨retB (by simp [serverB, hB2]), btC (unhide HB0) (unhide HB2)⟩
            | true =>
              go_wp2_with fail
              refine (in26 ep 0 1000000 _).mono ?_
              rintro e wz3 ⟨rfl, rfl⟩
              cases hB3 : inB ep 0 1000000 with
              | false =>
                go_wp2_with fail
                go_ret
                exact ⟨retB (by simp [serverB, hB3]), btC (unhide HB0) (unhide HB2)⟩
              | true =>
                go_wp2_with fail
                refine (unhide gc_ _ ((unhide HL).below (unhide HB2))).mono ?_
                rintro e wx3 ⟨rfl, hbq⟩
                have HB3 := hide (btC (unhide HB2) hbq)
                clear hbq c0 c1 c2 c3 c4 c5 c6 c7 c8 c9 c10 c11 c12 c13 c14 c15
                obtain ⟨c0, c1, c2, c3, c4, c5, c6, c7, c8, c9, c10, c11, c12, c13, c14, c15⟩ := ((unhide HX).below (unhide HB3)).facts
                cases hB4 : okT t with
                | false =>
                  go_wp2_with fail
                  go_ret
                  exact ⟨retB (by simp [serverB, hB4]), btC (unhide HB0) (unhide HB3)⟩
                | true =>
                  go_wp2_with fail
                  refine (in26 i 0 100 _).mono ?_
                  rintro e wz5 ⟨rfl, rfl⟩
                  cases hB5 : inB i 0 100 with
                  | false =>
                    go_wp2_with fail
                    go_ret
                    exact ⟨retB (by simp [serverB, hB5]), btC (unhide HB0) (unhide HB3)⟩
                  | true =>
                    go_wp2_with fail
                    refine (in26 o 0 100 _).mono ?_
                    rintro e wz6 ⟨rfl, rfl⟩
                    cases hB6 : inB o 0 100 with
                    | false =>
                      go_wp2_with fail
                      go_ret
                      exact ⟨retB (by simp [serverB, hB6]), btC (unhide HB0) (unhide HB3)⟩
                    | true =>
                      go_wp2_with fail
                      go_ret
                      exact ⟨retB (by simp [serverB, hB0, hB1, hB2, hB3, hB4, hB5, hB6, svB, hS, h3b, unhide HG, unhide HE20]), btC (unhide HB0) (unhide HB3)⟩

set_option maxRecDepth 100000 in
set_option maxHeartbeats 4000000 in
theorem serverS_n (t u : Tm) (l : List Int) (st : Int) (h : ByteArray) (ke : Int) (ep : Int) (op : Int) (n : Int) (s : ByteArray) (a : Option Addr) (len : Nat) (cap : Nat) (oq : Int) (m : Int) (r : ByteArray) (c : Option Addr) (lem : Nat) (cat : Nat) (i : Int) (o : Int) (g : Option Addr) (gc : Nat) (w : World) (hl : Lies w 0 t (tmCells op n s a len cap)) (hu : Lies w 0 u (tmCells oq m r c lem cat)) (hi : Ints w 0 g l) (hst : t.size ≤ 2097152) (hsu : u.size ≤ 2097152) (hsl : l.length ≤ 2097152) (hh : h.size ≤ 2097152) (h3b : (st == 3) = false) :
    Calls Tryz.prog 55 #[.agg #[.int .i64 st, .string h, .int .i64 ke, .int .i64 ep, .int .i64 op, .int .i64 n, .string s, .slice a len cap, .int .i64 oq, .int .i64 m, .string r, .slice c lem cat, .int .i64 i, .int .i64 o, .bool false, .slice g l.length gc]] w fun e w' => e = .returned (.bool (serverB st h ke ep t u i o false l)) ∧ Below w.heap.size w w' := by
  have gh := hide (fun v => hostS h v hh)
  have gs := hide (fun v hv hz => sa_calls u zeroT oq m r c lem cat 0 0 ByteArray.empty none 0 0 v hv hz)
  have gk := hide (fun v hv => ok8 u oq m r c lem cat v hv hsu)
  have gc_ := hide (fun v hv => ok8 t op n s a len cap v hv hst)
  have hb0 := abC (w := w) (.cells #[.int .i64 st, .string h, .int .i64 ke, .int .i64 ep, .int .i64 op, .int .i64 n, .string s, .slice a len cap, .int .i64 oq, .int .i64 m, .string r, .slice c lem cat, .int .i64 i, .int .i64 o, .bool false, .slice g l.length gc] 27)
  have HB0 := hide hb0
  have HL := hide (hl.below hb0)
  have HU := hide (hu.below hb0)
  have HI := hide (hi.on hb0)
  have HX := hide (RowS.new 27 w st h ke ep op n s a len cap oq m r c lem cat i o false g l.length gc)
  have HLEN : Hid (l.length ≤ 2097152) := hsl
  clear hl hu hi hb0 hst hsu hsl hh
  go_enter Tryz.func55, Tryz.ntmps55
  go_wp2_with fail
  go_loopw [3] (fun nn wr => ∃ k : Nat, nn = .int .i64 k ∧ k ≤ l.length ∧ (∀ j x, j < k → l[j]? = some x → inB x 0 1000000 = true) ∧ wr = (w.alloc (.cells #[.int .i64 st, .string h, .int .i64 ke, .int .i64 ep, .int .i64 op, .int .i64 n, .string s, .slice a len cap, .int .i64 oq, .int .i64 m, .string r, .slice c lem cat, .int .i64 i, .int .i64 o, .bool false, .slice g l.length gc] 27))) (fun nn _ => l.length - (intOf nn).toNat)
  case atStart => exact ⟨0, rfl, Nat.zero_le _, fun j x hj => absurd hj (Nat.not_lt_zero _), rfl⟩
  case round =>
    obtain ⟨k, rfl, hk, hd, rfl⟩ := hrel
    have HD := hide hd
    clear hd
    by_cases hp : k < l.length
    · obtain ⟨x, hx⟩ : ∃ x, l[k]? = some x := ⟨_, List.getElem?_eq_getElem hp⟩
      obtain ⟨b, o2, rfl, -, c0⟩ := unhide HI k x hx
      have HK := hide hx
      obtain ⟨c2, c3, w1⟩ := round_facts hp (unhide HLEN)
      have HE : Hid (inB x 0 1000000 = false → serverB st h ke ep t u i o false l = false) := fun hB => by simp [serverB, gotB_no (unhide HK) hB]
      have HP : Hid (k < l.length) := hp
      clear hx hp hk
      generalize hL : l.length = L at *
      clear hL
      go_wp2_with fail
      refine (in26 x 0 1000000 _).mono ?_
      rintro e w2 ⟨rfl, rfl⟩
      cases hB : inB x 0 1000000 with
      | true =>
        go_wp2_with fail
        go_roundw
        case rel => exact ⟨k + 1, by rw [w1], unhide HP, round_more (unhide HK) hB (unhide HD), trivial⟩
        case measure => exact round_meas w1 (unhide HP)
      | false =>
        go_wp2_with fail
        go_ret
        exact ⟨retB (unhide HE hB), unhide HB0⟩
    · obtain ⟨c2, HG⟩ := round_end hp hk (unhide HD)
      have HE20 : Hid (decide ((l.length : Int) ≤ 20) = decide (l.length ≤ 20)) := len20 l
      clear HD HI hp hk HLEN
      obtain ⟨c0, c1, c2, c3, c4, c5, c6, c7, c8, c9, c10, c11, c12, c13, c14, c15⟩ := (unhide HX).facts
      have HG := hide HG
      go_wp2_with fail
      refine (unhide gs _ (unhide HU) (lies_leaf _ 0 0 ByteArray.empty (by simp) rfl rfl)).mono ?_
      rintro e wx1 ⟨rfl, hbq⟩
      have HB1 := hide hbq
      clear hbq c0 c1 c2 c3 c4 c5 c6 c7 c8 c9 c10 c11 c12 c13 c14 c15
      obtain ⟨c0, c1, c2, c3, c4, c5, c6, c7, c8, c9, c10, c11, c12, c13, c14, c15⟩ := ((unhide HX).below (unhide HB1)).facts
      cases hS : sameB u zeroT with
      | false =>
        go_wp2_with fail
        go_ret
        exact ⟨retB (by simp [serverB, svB, hS, h3b]), btC (unhide HB0) (unhide HB1)⟩
      | true =>
        go_wp2_with fail
        refine (in26 st 1 5 _).mono ?_
        rintro e wz0 ⟨rfl, rfl⟩
        cases hB0 : inB st 1 5 with
        | false =>
          go_wp2_with fail
          go_ret
          exact ⟨retB (by simp [serverB, hB0]), btC (unhide HB0) (unhide HB1)⟩
        | true =>
          go_wp2_with fail
          refine (unhide gh _).mono ?_
          rintro e wx2 ⟨rfl, hbq⟩
          have HB2 := hide (btC (unhide HB1) hbq)
          clear hbq c0 c1 c2 c3 c4 c5 c6 c7 c8 c9 c10 c11 c12 c13 c14 c15
          obtain ⟨c0, c1, c2, c3, c4, c5, c6, c7, c8, c9, c10, c11, c12, c13, c14, c15⟩ := ((unhide HX).below (unhide HB2)).facts
          cases hB1 : hostB h with
          | false =>
            go_wp2_with fail
            go_ret
            exact ⟨retB (by simp [serverB, hB1]), btC (unhide HB0) (unhide HB2)⟩
          | true =>
            go_wp2_with fail
            refine (in26 ke 0 1000000 _).mono ?_
            rintro e wz2 ⟨rfl, rfl⟩
            cases hB2 : inB ke 0 1000000 with
            | false =>
              go_wp2_with fail
              go_ret
              exact ⟨retB (by simp [serverB, hB2]), btC (unhide HB0) (unhide HB2)⟩
            | true =>
              go_wp2_with fail
              refine (in26 ep 0 1000000 _).mono ?_
              rintro e wz3 ⟨rfl, rfl⟩
              cases hB3 : inB ep 0 1000000 with
              | false =>
                go_wp2_with fail
                go_ret
                exact ⟨retB (by simp [serverB, hB3]), btC (unhide HB0) (unhide HB2)⟩
              | true =>
                go_wp2_with fail
                refine (unhide gc_ _ ((unhide HL).below (unhide HB2))).mono ?_
                rintro e wx3 ⟨rfl, hbq⟩
                have HB3 := hide (btC (unhide HB2) hbq)
                clear hbq c0 c1 c2 c3 c4 c5 c6 c7 c8 c9 c10 c11 c12 c13 c14 c15
                obtain ⟨c0, c1, c2, c3, c4, c5, c6, c7, c8, c9, c10, c11, c12, c13, c14, c15⟩ := ((unhide HX).below (unhide HB3)).facts
                cases hB4 : okT t with
                | false =>
                  go_wp2_with fail
                  go_ret
                  exact ⟨retB (by simp [serverB, hB4]), btC (unhide HB0) (unhide HB3)⟩
                | true =>
                  go_wp2_with fail
                  refine (in26 i 0 100 _).mono ?_
                  rintro e wz5 ⟨rfl, rfl⟩
                  cases hB5 : inB i 0 100 with
                  | false =>
                    go_wp2_with fail
                    go_ret
                    exact ⟨retB (by simp [serverB, hB5]), btC (unhide HB0) (unhide HB3)⟩
                  | true =>
                    go_wp2_with fail
                    refine (in26 o 0 100 _).mono ?_
                    rintro e wz6 ⟨rfl, rfl⟩
                    cases hB6 : inB o 0 100 with
                    | false =>
                      go_wp2_with fail
                      go_ret
                      exact ⟨retB (by simp [serverB, hB6]), btC (unhide HB0) (unhide HB3)⟩
                    | true =>
                      go_wp2_with fail
                      go_ret
                      exact ⟨retB (by simp [serverB, hB0, hB1, hB2, hB3, hB4, hB5, hB6, svB, hS, h3b, unhide HG, unhide HE20]), btC (unhide HB0) (unhide HB3)⟩

theorem serverB_impl (st : Int) (h : ByteArray) (ke ep : Int) (t u : Tm) (i o : Int) (tl : Bool) (l : List Int) :
    serverB st h ke ep t u i o tl l = (inB st 1 5 && (hostB h && (inB ke 0 1000000 && (inB ep 0 1000000 && ((gotB l && decide (l.length ≤ 20)) && (okT t && (svB st tl u && (inB i 0 100 && inB o 0 100)))))))) := by
  unfold serverB
  simp only [Bool.and_assoc]

set_option maxRecDepth 100000 in
set_option maxHeartbeats 4000000 in
theorem serverI (t u : Tm) (l : List Int) (st : Int) (h : ByteArray) (ke : Int) (ep : Int) (op : Int) (n : Int) (s : ByteArray) (a : Option Addr) (len : Nat) (cap : Nat) (oq : Int) (m : Int) (r : ByteArray) (c : Option Addr) (lem : Nat) (cat : Nat) (i : Int) (o : Int) (tl : Bool) (g : Option Addr) (gc : Nat) (w : World) (hl : Lies w 0 t (tmCells op n s a len cap)) (hu : Lies w 0 u (tmCells oq m r c lem cat)) (hi : Ints w 0 g l) (hst : t.size ≤ 2097152) (hsu : u.size ≤ 2097152) (hsl : l.length ≤ 2097152) (hh : h.size ≤ 2097152) :
    Calls Tryz.prog 58 #[.agg #[.int .i64 st, .string h, .int .i64 ke, .int .i64 ep, .int .i64 op, .int .i64 n, .string s, .slice a len cap, .int .i64 oq, .int .i64 m, .string r, .slice c lem cat, .int .i64 i, .int .i64 o, .bool tl, .slice g l.length gc]] w fun e w' => e = .returned (.bool (serverB st h ke ep t u i o tl l)) ∧ Below w.heap.size w w' := by
  have gh := hide (fun v => hostI h v hh)
  have gg := hide (fun v hv => gotI l g gc v hv hsl)
  have gk := hide (fun v hv => shareI u st h ke ep op n s a len cap oq m r c lem cat i o tl g l.length gc v hv hsu)
  have gc_ := hide (fun v hv => ok10 t op n s a len cap v hv hst)
  have hb0 := abC (w := w) (.cells #[.int .i64 st, .string h, .int .i64 ke, .int .i64 ep, .int .i64 op, .int .i64 n, .string s, .slice a len cap, .int .i64 oq, .int .i64 m, .string r, .slice c lem cat, .int .i64 i, .int .i64 o, .bool tl, .slice g l.length gc] 27)
  have HB0 := hide hb0
  have HL := hide (hl.below hb0)
  have HU := hide (hu.below hb0)
  have HI := hide (hi.on hb0)
  have HX := hide (RowS.new 27 w st h ke ep op n s a len cap oq m r c lem cat i o tl g l.length gc)
  clear hl hu hi hb0 hst hsu hsl hh
  by_cases h1 : 1 ≤ st
  · by_cases h5 : st ≤ 5
    · have hS : inB st 1 5 = true := decide_eq_true ⟨h1, h5⟩
      go_enter Tryz.func58, Tryz.ntmps58
      go_wp2_with fail
      refine (unhide gh _).mono ?_
      rintro e wx1 ⟨rfl, hbq⟩
      have HB1 := hide hbq
      clear hbq
      obtain ⟨c0, c1, c2, c3, c4, c5, c6, c7, c8, c9, c10, c11, c12, c13, c14, c15⟩ := ((unhide HX).below (unhide HB1)).facts
      cases hB0 : hostB h with
      | false =>
        go_wp2_with fail
        go_ret
        exact ⟨retB (by rw [serverB_impl]; simp [hB0]), btC (unhide HB0) (unhide HB1)⟩
      | true =>
        go_wp2_with fail
        refine (atomI ke _).mono ?_
        rintro e wz1 ⟨rfl, rfl⟩
        cases hB1 : inB ke 0 1000000 with
        | false =>
          go_wp2_with fail
          go_ret
          exact ⟨retB (by rw [serverB_impl]; simp [hB1]), btC (unhide HB0) (unhide HB1)⟩
        | true =>
          go_wp2_with fail
          refine (atomI ep _).mono ?_
          rintro e wz2 ⟨rfl, rfl⟩
          cases hB2 : inB ep 0 1000000 with
          | false =>
            go_wp2_with fail
            go_ret
            exact ⟨retB (by rw [serverB_impl]; simp [hB2]), btC (unhide HB0) (unhide HB1)⟩
          | true =>
            go_wp2_with fail
            refine (unhide gg _ ((unhide HI).on (unhide HB1))).mono ?_
            rintro e wz3 ⟨rfl, rfl⟩
            cases hB3 : (gotB l && decide (l.length ≤ 20)) with
            | false =>
              go_wp2_with fail
              go_ret
              exact ⟨retB (by rw [serverB_impl]; simp [hB3]), btC (unhide HB0) (unhide HB1)⟩
            | true =>
              go_wp2_with fail
              refine (unhide gc_ _ ((unhide HL).below (unhide HB1))).mono ?_
              rintro e wx2 ⟨rfl, hbq⟩
              have HB2 := hide (btC (unhide HB1) hbq)
              clear hbq c0 c1 c2 c3 c4 c5 c6 c7 c8 c9 c10 c11 c12 c13 c14 c15
              obtain ⟨c0, c1, c2, c3, c4, c5, c6, c7, c8, c9, c10, c11, c12, c13, c14, c15⟩ := ((unhide HX).below (unhide HB2)).facts
              cases hB4 : okT t with
              | false =>
                go_wp2_with fail
                go_ret
                exact ⟨retB (by rw [serverB_impl]; simp [hB4]), btC (unhide HB0) (unhide HB2)⟩
              | true =>
                go_wp2_with fail
                refine (unhide gk _ ((unhide HU).below (unhide HB2))).mono ?_
                rintro e wx3 ⟨rfl, hbq⟩
                have HB3 := hide (btC (unhide HB2) hbq)
                clear hbq c0 c1 c2 c3 c4 c5 c6 c7 c8 c9 c10 c11 c12 c13 c14 c15
                obtain ⟨c0, c1, c2, c3, c4, c5, c6, c7, c8, c9, c10, c11, c12, c13, c14, c15⟩ := ((unhide HX).below (unhide HB3)).facts
                cases hB5 : svB st tl u with
                | false =>
                  go_wp2_with fail
                  go_ret
                  exact ⟨retB (by rw [serverB_impl]; simp [hB5]), btC (unhide HB0) (unhide HB3)⟩
                | true =>
                  go_wp2_with fail
                  refine (cntI i _).mono ?_
                  rintro e wz6 ⟨rfl, rfl⟩
                  cases hB6 : inB i 0 100 with
                  | false =>
                    go_wp2_with fail
                    go_ret
                    exact ⟨retB (by rw [serverB_impl]; simp [hB6]), btC (unhide HB0) (unhide HB3)⟩
                  | true =>
                    go_wp2_with fail
                    refine (cntI o _).mono ?_
                    rintro e wz7 ⟨rfl, rfl⟩
                    cases hB7 : inB o 0 100 with
                    | false =>
                      go_wp2_with fail
                      go_ret
                      exact ⟨retB (by rw [serverB_impl]; simp [hB7]), btC (unhide HB0) (unhide HB3)⟩
                    | true =>
                      go_wp2_with fail
                      go_ret
                      exact ⟨retB (by rw [serverB_impl]; simp only [hB0, hB1, hB2, hB3, hB4, hB5, hB6, hB7, hS]; rfl), btC (unhide HB0) (unhide HB3)⟩
    · have HE : Hid (serverB st h ke ep t u i o tl l = false) := by
        show _ = _
        simp [serverB, show inB st 1 5 = false from decide_eq_false (by omega)]
      go_enter Tryz.func58, Tryz.ntmps58
      go_wp2_with fail
      go_ret
      exact ⟨retB (unhide HE), unhide HB0⟩
  · have HE : Hid (serverB st h ke ep t u i o tl l = false) := by
      show _ = _
      simp [serverB, show inB st 1 5 = false from decide_eq_false (by omega)]
    go_enter Tryz.func58, Tryz.ntmps58
    go_wp2_with fail
    go_ret
    exact ⟨retB (unhide HE), unhide HB0⟩

theorem serverS (t u : Tm) (l : List Int) (st : Int) (h : ByteArray) (ke : Int) (ep : Int) (op : Int) (n : Int) (s : ByteArray) (a : Option Addr) (len : Nat) (cap : Nat) (oq : Int) (m : Int) (r : ByteArray) (c : Option Addr) (lem : Nat) (cat : Nat) (i : Int) (o : Int) (tl : Bool) (g : Option Addr) (gc : Nat) (w : World) (hl : Lies w 0 t (tmCells op n s a len cap)) (hu : Lies w 0 u (tmCells oq m r c lem cat)) (hi : Ints w 0 g l) (hst : t.size ≤ 2097152) (hsu : u.size ≤ 2097152) (hsl : l.length ≤ 2097152) (hh : h.size ≤ 2097152) :
    Calls Tryz.prog 55 #[.agg #[.int .i64 st, .string h, .int .i64 ke, .int .i64 ep, .int .i64 op, .int .i64 n, .string s, .slice a len cap, .int .i64 oq, .int .i64 m, .string r, .slice c lem cat, .int .i64 i, .int .i64 o, .bool tl, .slice g l.length gc]] w fun e w' => e = .returned (.bool (serverB st h ke ep t u i o tl l)) ∧ Below w.heap.size w w' := by
  cases tl with
  | true => exact serverS_t t u l st h ke ep op n s a len cap oq m r c lem cat i o g gc w hl hu hi hst hsu hsl hh
  | false =>
    cases h3b : st == 3 with
    | true => exact serverS_3 t u l st h ke ep op n s a len cap oq m r c lem cat i o g gc w hl hu hi hst hsu hsl hh h3b
    | false => exact serverS_n t u l st h ke ep op n s a len cap oq m r c lem cat i o g gc w hl hu hi hst hsu hsl hh h3b

end Go.Proofs.YtenagnoemdjgeaaGreatDoor
