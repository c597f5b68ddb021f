
/- errors.Is, asked of the program's one named error: of that error itself true, of none false; nothing in memory turns. And the tables of strconv, and the variable that holds the error, carried from world to world. -/
import Derived.Test.YteminklafghgpaaGreatDoorSa
import Derived.Test.YteminklafghgpaaGreatDoorShelf
import Derived.LaidEql
import Derived.Lib.AppendIntMem
import Derived.Stop.Asserts
import Derived.RowKitTokens
namespace Go.Proofs.YteminklafghgpaaGreatDoor
open Go.RowKit Go.Deep

def Tab (w : World) : Prop := Lib.TabIs Tryz.prog w "internal/strconv.uint64pow10" .u64 Lib.pow10Tab
theorem Tab.on {w w' : World} (h : Tab w) (hb : Below w.heap.size w w') : Tab w' := Lib.tabBelow_of_tabIs h w' hb

/-- The variable of the named error holds a pointer that is not nil, to a block that was made ahead of all else. -/
def ErrAt (a : Addr) (w : World) : Prop := w.cell? ⟨0, 0, none⟩ = some (.iface 149 (.pointer (some a)))
theorem ErrAt.on {a : Addr} {w w' : World} (h : ErrAt a w) (hb : Below w.heap.size w w') : ErrAt a w' := keepc hb h
theorem ErrAt.cell {a : Addr} {w : World} (h : ErrAt a w) : w.cell? ⟨0, 0, none⟩ = some (.iface 149 (.pointer (some a))) := h
/-- The same, the pointer not named. -/
def Err (w : World) : Prop := ∃ a, ErrAt a w
theorem Err.on {w w' : World} (h : Err w) (hb : Below w.heap.size w w') : Err w' := let ⟨a, ha⟩ := h; ⟨a, ha.on hb⟩

theorem isTypeOf (v : Value) (w : World) : (callFunc 91 #[.iface 149 v]).run Tryz.prog w = .ok (.value (.iface 137 (.agg #[.pointer (some ⟨4, 149, none⟩)]))) w := by kernel_rfl
theorem isComparable (w : World) : (callFunc 129 #[.agg #[.pointer (some ⟨4, 149, none⟩)]]).run Tryz.prog w = .ok (.value (.bool true)) w := by kernel_rfl
theorem isMethodComparable (v : Value) (w : World) : (Go.method 294 137 v "Comparable").run Tryz.prog w = .ok (129, v) w := by kernel_rfl
theorem isComp : (Tryz.prog.info? 149).map (·.comparable) = some true := by kernel_rfl
theorem isSize : (Tryz.prog.info? 182).map (·.size) = some 1 := by kernel_rfl

set_option maxRecDepth 100000 in
/-- Of the error itself. -/
theorem is_same (a : Addr) (w : World) :
    Calls Tryz.prog 86 #[.iface 149 (.pointer (some a)), .iface 149 (.pointer (some a))] w fun e w' => e = .returned (.bool true) ∧ w' = w := by
  obtain ⟨i, hi, hcmp⟩ := Option.map_eq_some_iff.1 isComp
  obtain ⟨j, hj, hjs⟩ := Option.map_eq_some_iff.1 isSize
  have tT := isTypeOf
  have cT := isComparable
  have mR := isMethodComparable
  have heq := run_eql_iface_ptr_same (P := Tryz.prog) w a Tryz.underlying121 Tryz.underlying149 hi hcmp hj
  go_enter Tryz.func86, Tryz.ntmps86
  go_wp2
  refine wp_loop_rounds 1 ?_
  rw [rounds_succ]
  go_wp2
  go_ret
  exact ⟨rfl, rfl⟩

set_option maxRecDepth 100000 in
/-- Of none. -/
theorem is_nil (b : Addr) (w : World) :
    Calls Tryz.prog 86 #[.nilIface, .iface 149 (.pointer (some b))] w fun e w' => e = .returned (.bool false) ∧ w' = w := by
  have hn := run_eql_iface_nil_left (P := Tryz.prog) w 149 (.pointer (some b)) Tryz.underlying121
  go_enter Tryz.func86, Tryz.ntmps86
  go_wp2
  go_ret
  exact ⟨rfl, rfl⟩

end Go.Proofs.YteminklafghgpaaGreatDoor
