
/- errors.Is, asked of the program's one named error: of that error itself true, of none false; nothing in memory turns. And the tables of strconv, and the variable that holds the error, carried from world to world. -/
import Derived.Test.YtafoonabmijcdaaGreatDoorSa
import Derived.Test.YtafoonabmijcdaaGreatDoorShelf
import Derived.LaidEql
import Derived.Lib.AppendIntMem
import Derived.Stop.Asserts
import Derived.RowKitTokens
namespace Go.Proofs.YtafoonabmijcdaaGreatDoor
open Go.RowKit Go.Deep

def Tab (w : World) : Prop := Lib.TabIs Tryz.prog w "internal/strconv.uint64pow10" .u64 Lib.pow10Tab
theorem Tab.on {w w' : World} (h : Tab w) (hb : Below w.heap.size w w') : Tab w' := Lib.tabBelow_of_tabIs h w' hb

theorem itoa46 (n : Int) (w : World) (h0 : -9223372036854775808 ≤ n) (h1 : n ≤ 9223372036854775807) (ht : Tab w) :
    Calls Tryz.prog 59 #[.int .i64 n] w fun e w' => e = .returned (.string ⟨(Lib.itoa n).toArray⟩) ∧ Below w.heap.size w w' :=
  (Tryz.strconv_Itoa n h0 h1 w ht).mono fun _ _ ⟨he, k, os, hw⟩ => ⟨he, by rw [hw]; exact Lib.below_grow _ w (Nat.le_refl _) k os⟩

/-- The variable of the named error holds a pointer that is not nil, to a block that was made ahead of all else. -/
def ErrAt (a : Addr) (w : World) : Prop := w.cell? ⟨0, 0, none⟩ = some (.iface 128 (.pointer (some a)))
theorem ErrAt.on {a : Addr} {w w' : World} (h : ErrAt a w) (hb : Below w.heap.size w w') : ErrAt a w' := keepc hb h
theorem ErrAt.cell {a : Addr} {w : World} (h : ErrAt a w) : w.cell? ⟨0, 0, none⟩ = some (.iface 128 (.pointer (some a))) := h
/-- The same, the pointer not named. -/
def Err (w : World) : Prop := ∃ a, ErrAt a w
theorem Err.on {w w' : World} (h : Err w) (hb : Below w.heap.size w w') : Err w' := let ⟨a, ha⟩ := h; ⟨a, ha.on hb⟩

theorem isTypeOf (v : Value) (w : World) : (callFunc 52 #[.iface 128 v]).run Tryz.prog w = .ok (.value (.iface 83 (.agg #[.pointer (some ⟨4, 128, none⟩)]))) w := by kernel_rfl
theorem isComparable (w : World) : (callFunc 101 #[.agg #[.pointer (some ⟨4, 128, none⟩)]]).run Tryz.prog w = .ok (.value (.bool true)) w := by kernel_rfl
theorem isMethodComparable (v : Value) (w : World) : (Go.method 265 83 v "Comparable").run Tryz.prog w = .ok (101, v) w := by kernel_rfl
theorem isComp : (Tryz.prog.info? 128).map (·.comparable) = some true := by kernel_rfl
theorem isSize : (Tryz.prog.info? 153).map (·.size) = some 1 := by kernel_rfl

set_option maxRecDepth 100000 in
/-- Of the error itself. -/
theorem is_same (a : Addr) (w : World) :
    Calls Tryz.prog 37 #[.iface 128 (.pointer (some a)), .iface 128 (.pointer (some a))] w fun e w' => e = .returned (.bool true) ∧ w' = w := by
  obtain ⟨i, hi, hcmp⟩ := Option.map_eq_some_iff.1 isComp
  obtain ⟨j, hj, hjs⟩ := Option.map_eq_some_iff.1 isSize
  have tT := isTypeOf
  have cT := isComparable
  have mR := isMethodComparable
  have heq := run_eql_iface_ptr_same (P := Tryz.prog) w a Tryz.underlying46 Tryz.underlying128 hi hcmp hj
  go_enter Tryz.func37, Tryz.ntmps37
  go_wp2
  refine wp_loop_rounds 1 ?_
  rw [rounds_succ]
  go_wp2
  go_ret
  exact ⟨rfl, rfl⟩

set_option maxRecDepth 100000 in
/-- Of none. -/
theorem is_nil (b : Addr) (w : World) :
    Calls Tryz.prog 37 #[.nilIface, .iface 128 (.pointer (some b))] w fun e w' => e = .returned (.bool false) ∧ w' = w := by
  have hn := run_eql_iface_nil_left (P := Tryz.prog) w 128 (.pointer (some b)) Tryz.underlying46
  go_enter Tryz.func37, Tryz.ntmps37
  go_wp2
  go_ret
  exact ⟨rfl, rfl⟩

end Go.Proofs.YtafoonabmijcdaaGreatDoor
