/- A server that is loaded or stored whole. -/
import Derived.Test.YtnjddgdfancclaaSo0
import Derived.Deep.MidRow
namespace Go.Proofs.Ytnjddgdfancclaa
open Go.RowKit Go.Deep

theorem RowS.load {ty : TypeId} {w : World} {b : Nat} {st : Int} {h : ByteArray} {ke : Int} {ep : Int} {op : Int} {n : Int} {s : ByteArray} {a : Option Addr} {len : Nat} {cap : Nat} {oq : Int} {m : Int} {r : ByteArray} {c : Option Addr} {lem : Nat} {cat : Nat} {i : Int} {o : Int} {tl : Bool} {g : Option Addr} {gl : Nat} {gc : Nat} (hr : RowS ty w b st h ke ep op n s a len cap oq m r c lem cat i o tl g gl gc) (d : TypeDesc) (hu : Try.prog.underlying ty = some d) (hd : d.isRow = true) (hi : (Try.prog.info? ty).map (·.size) = some 16) :
    (Instr.loadAt ty (.pointer (some ⟨b, 0, none⟩))).run Try.prog w = .ok (.agg #[.int .i64 st, .string h, .int .i64 ke, .int .i64 ep, .int .i64 op, .int .i64 n, .string s, .slice a len cap, .int .i64 oq, .int .i64 m, .string r, .slice c lem cat, .int .i64 i, .int .i64 o, .bool tl, .slice g gl gc]) w := by
  refine run_loadAt_mid w b 0 ty [.int .i64 st, .string h, .int .i64 ke, .int .i64 ep, .int .i64 op, .int .i64 n, .string s, .slice a len cap, .int .i64 oq, .int .i64 m, .string r, .slice c lem cat, .int .i64 i, .int .i64 o, .bool tl, .slice g gl gc] d (fun j v hj => ?_) hu hd (by rw [hi]; rfl)
  have hj' := (List.getElem?_eq_some_iff.1 hj).1
  rw [Nat.zero_add, cell_of_row hr (by simpa using hj')]
  rw [← hj]
  simp [List.getElem?_eq_getElem hj']
theorem info16 : (Try.prog.info? 34).map (·.size) = some 16 := by kernel_rfl
theorem info16l : (Try.prog.info? 27).map (·.size) = some 16 := by kernel_rfl
theorem loadTL {w : World} {b : Nat} {st : Int} {h : ByteArray} {ke : Int} {ep : Int} {op : Int} {n : Int} {s : ByteArray} {a : Option Addr} {len : Nat} {cap : Nat} {oq : Int} {m : Int} {r : ByteArray} {c : Option Addr} {lem : Nat} {cat : Nat} {i : Int} {o : Int} {tl : Bool} {g : Option Addr} {gl : Nat} {gc : Nat} (hr : RowS 27 w b st h ke ep op n s a len cap oq m r c lem cat i o tl g gl gc) : (Instr.loadAt 27 (.pointer (some ⟨b, 0, none⟩))).run Try.prog w = .ok (.agg #[.int .i64 st, .string h, .int .i64 ke, .int .i64 ep, .int .i64 op, .int .i64 n, .string s, .slice a len cap, .int .i64 oq, .int .i64 m, .string r, .slice c lem cat, .int .i64 i, .int .i64 o, .bool tl, .slice g gl gc]) w := hr.load _ Try.underlying27 rfl info16l
theorem loadTI {w : World} {b : Nat} {st : Int} {h : ByteArray} {ke : Int} {ep : Int} {op : Int} {n : Int} {s : ByteArray} {a : Option Addr} {len : Nat} {cap : Nat} {oq : Int} {m : Int} {r : ByteArray} {c : Option Addr} {lem : Nat} {cat : Nat} {i : Int} {o : Int} {tl : Bool} {g : Option Addr} {gl : Nat} {gc : Nat} (hr : RowS 34 w b st h ke ep op n s a len cap oq m r c lem cat i o tl g gl gc) : (Instr.loadAt 34 (.pointer (some ⟨b, 0, none⟩))).run Try.prog w = .ok (.agg #[.int .i64 st, .string h, .int .i64 ke, .int .i64 ep, .int .i64 op, .int .i64 n, .string s, .slice a len cap, .int .i64 oq, .int .i64 m, .string r, .slice c lem cat, .int .i64 i, .int .i64 o, .bool tl, .slice g gl gc]) w := hr.load _ Try.underlying34 rfl info16
def putA (C : Array Value) : Nat → List Value → Array Value
  | _, [] => C
  | o, v :: r => putA (C.setIfInBounds o v) (o + 1) r
theorem setCells_alloc (w : World) (ty : TypeId) : ∀ (vs : List Value) (o : Nat) (C : Array Value), (w.alloc (.cells C ty)).setCells w.heap.size o vs = w.alloc (.cells (putA C o vs) ty)
  | [], _, _ => rfl
  | v :: r, o, C => by
    rw [World.setCells, World.setCell_alloc_at _ _ _ _ _ rfl]
    exact setCells_alloc w ty r (o + 1) _
set_option maxRecDepth 100000 in
set_option maxHeartbeats 1000000 in
theorem storeNew (w : World) (st : Int) (h : ByteArray) (ke : Int) (ep : Int) (op : Int) (n : Int) (s : ByteArray) (a : Option Addr) (len : Nat) (cap : Nat) (oq : Int) (m : Int) (r : ByteArray) (c : Option Addr) (lem : Nat) (cat : Nat) (i : Int) (o : Int) (tl : Bool) (g : Option Addr) (gl : Nat) (gc : Nat) : (Instr.storeAt 34 (.pointer (some ⟨w.heap.size, 0, none⟩)) (.agg #[.int .i64 st, .string h, .int .i64 ke, .int .i64 ep, .int .i64 op, .int .i64 n, .string s, .slice a len cap, .int .i64 oq, .int .i64 m, .string r, .slice c lem cat, .int .i64 i, .int .i64 o, .bool tl, .slice g gl gc])).run Try.prog (w.alloc (.cells #[.int .i64 0, .string ⟨#[]⟩, .int .i64 0, .int .i64 0, .int .i64 0, .int .i64 0, .string ⟨#[]⟩, .slice none 0 0, .int .i64 0, .int .i64 0, .string ⟨#[]⟩, .slice none 0 0, .int .i64 0, .int .i64 0, .bool false, .slice none 0 0] 34)) = .ok () (w.alloc (.cells #[.int .i64 st, .string h, .int .i64 ke, .int .i64 ep, .int .i64 op, .int .i64 n, .string s, .slice a len cap, .int .i64 oq, .int .i64 m, .string r, .slice c lem cat, .int .i64 i, .int .i64 o, .bool tl, .slice g gl gc] 34)) := by
  have h1 := RowS.new 34 w 0 ⟨#[]⟩ 0 0 0 0 ⟨#[]⟩ none 0 0 0 0 ⟨#[]⟩ none 0 0 0 0 false none 0 0
  have hr := run_storeAt_mid (P := Try.prog) (w.alloc (.cells #[.int .i64 0, .string ⟨#[]⟩, .int .i64 0, .int .i64 0, .int .i64 0, .int .i64 0, .string ⟨#[]⟩, .slice none 0 0, .int .i64 0, .int .i64 0, .string ⟨#[]⟩, .slice none 0 0, .int .i64 0, .int .i64 0, .bool false, .slice none 0 0] 34)) w.heap.size 0 34 #[.int .i64 st, .string h, .int .i64 ke, .int .i64 ep, .int .i64 op, .int .i64 n, .string s, .slice a len cap, .int .i64 oq, .int .i64 m, .string r, .slice c lem cat, .int .i64 i, .int .i64 o, .bool tl, .slice g gl gc] (fun j hj => ⟨by rw [Nat.zero_add, cell_of_row h1 (by simpa using hj)]; rfl, frozen_of_row h1⟩) (by rw [info16]; rfl) (by simp [Value.oneCell'])
  rw [hr, setCells_alloc]
  exact congrArg (fun x => Result.ok () (w.alloc (.cells x 34))) (by simp [putA])

theorem RowS.range {ty : TypeId} {w : World} {b : Nat} {st : Int} {h : ByteArray} {ke : Int} {ep : Int} {op : Int} {n : Int} {s : ByteArray} {a : Option Addr} {len : Nat} {cap : Nat} {oq : Int} {m : Int} {r : ByteArray} {c : Option Addr} {lem : Nat} {cat : Nat} {i : Int} {o : Int} {tl : Bool} {g : Option Addr} {gl : Nat} {gc : Nat} (hr : RowS ty w b st h ke ep op n s a len cap oq m r c lem cat i o tl g gl gc) : w.rangeAt b 0 [.int .i64 st, .string h, .int .i64 ke, .int .i64 ep, .int .i64 op, .int .i64 n, .string s, .slice a len cap, .int .i64 oq, .int .i64 m, .string r, .slice c lem cat, .int .i64 i, .int .i64 o, .bool tl, .slice g gl gc] := fun j v hj => by
  have hj' := (List.getElem?_eq_some_iff.1 hj).1
  rw [Nat.zero_add, cell_of_row hr (by simpa using hj')]
  rw [← hj]
  simp [List.getElem?_eq_getElem hj']
theorem wpList_store_new {ops : Array Oper} {rest : List Oper} {oo : Oper} {aa : Act} {w : World} {Q : Exit → Act → World → Prop} (hgd : oo.guard = none) (x y : Operand) (ho : oo.op = .store 34 x y)
    (st : Int) (h : ByteArray) (ke : Int) (ep : Int) (op : Int) (n : Int) (s : ByteArray) (a : Option Addr) (len : Nat) (cap : Nat) (oq : Int) (m : Int) (r : ByteArray) (c : Option Addr) (lem : Nat) (cat : Nat) (i : Int) (o : Int) (tl : Bool) (g : Option Addr) (gl : Nat) (gc : Nat) (hx : aa.eval x = .pointer (some ⟨w.heap.size, 0, none⟩)) (hy : aa.eval y = .agg #[.int .i64 st, .string h, .int .i64 ke, .int .i64 ep, .int .i64 op, .int .i64 n, .string s, .slice a len cap, .int .i64 oq, .int .i64 m, .string r, .slice c lem cat, .int .i64 i, .int .i64 o, .bool tl, .slice g gl gc])
    (hq : wpList Try.prog ops Q rest (aa.put oo.dst undef) (w.alloc (.cells #[.int .i64 st, .string h, .int .i64 ke, .int .i64 ep, .int .i64 op, .int .i64 n, .string s, .slice a len cap, .int .i64 oq, .int .i64 m, .string r, .slice c lem cat, .int .i64 i, .int .i64 o, .bool tl, .slice g gl gc] 34))) : wpList Try.prog ops Q (oo :: rest) aa (w.alloc (.cells #[.int .i64 0, .string ⟨#[]⟩, .int .i64 0, .int .i64 0, .int .i64 0, .int .i64 0, .string ⟨#[]⟩, .slice none 0 0, .int .i64 0, .int .i64 0, .string ⟨#[]⟩, .slice none 0 0, .int .i64 0, .int .i64 0, .bool false, .slice none 0 0] 34)) := by
  refine wpList_plain hgd fun _ hK => ?_
  unfold Oper.wp execOp
  simp only [ho, hx, hy, Sem.run_bind, storeNew, Result.andThen_ok, Sem.run_pure]
  exact hK _ _ hq

end Go.Proofs.Ytnjddgdfancclaa
