/- A line of words: the walk of impl.noteLine, whose deferred closure ends it. -/
import Derived.Test.YtjckdepcgjfomaaDoorNn
import Derived.Test.YtjckdepcgjfomaaDoorTx
import Derived.Test.YtjckdepcgjfomaaDoorShelf
import Derived.Lib.AppendIntMem
import Derived.Defers
import Derived.Recover
import Derived.Laws.Concat
namespace Go.Proofs.YtjckdepcgjfomaaDoor
open Go.RowKit Go.Deep

def Tab (w : World) : Prop := Lib.TabIs Tryd.prog w "internal/strconv.uint64pow10" .u64 Lib.pow10Tab
theorem Tab.on {w w' : World} (h : Tab w) (hb : Below w.heap.size w w') : Tab w' := Lib.tabBelow_of_tabIs h w' hb
def dig (n : Int) : ByteArray := ⟨(Lib.itoa n).toArray⟩
theorem itoaP (n : Int) (w : World) (h0 : 0 ≤ n) (h1 : n ≤ 1000000) (ht : Tab w) :
    Calls Tryd.prog 21 #[.int .i64 n] w fun e w' => e = .returned (.string (dig n)) ∧ Below w.heap.size w w' :=
  (Tryd.strconv_Itoa n (by omega) (by omega) w ht).mono fun _ _ ⟨he, k, os, hw⟩ => ⟨he, by rw [hw]; exact Lib.below_grow _ w (Nat.le_refl _) k os⟩
theorem digS (n : Int) (w : World) (h0 : 0 ≤ n) (h1 : n ≤ 1000000) : Calls Tryd.prog 19 #[.int .i64 n] w fun e w' => e = .returned (.string (dig n)) ∧ Below w.heap.size w w' := digits_any n w (by omega) (by omega)
theorem dig_size {n : Int} (h0 : 0 ≤ n) (h1 : n ≤ 1000000) : (dig n).size ≤ 21 := by
  have := Lib.itoa_length_le n (by omega) (by omega)
  simp [dig, ByteArray.size]
  exact this
/-- Words joined by blanks. -/
def joinW (xs : List ByteArray) : List UInt8 := Lib.join (xs.map (·.data.toList)) [32]
def joinT (xs : List ByteArray) : ByteArray := ⟨(joinW xs).toArray⟩
/-- A line: words joined by blanks, and its end. -/
def lineT (xs : List ByteArray) : ByteArray := joinT xs ++ ⟨#[10]⟩
theorem joinT_size (xs : List ByteArray) : (joinT xs).size = (joinW xs).length := by simp [joinT, ByteArray.size]
theorem line_add {xs : List ByteArray} (h : (joinW xs).length ≤ 4096) (w : World) : (Op.stringOp .add (joinT xs) ⟨#[10]⟩).run Tryd.prog w = .ok (.string (lineT xs)) w :=
  run_string_add_sum _ _ _ (by
    rw [joinT_size]
    have e2 : (⟨#[10]⟩ : ByteArray).size = 1 := rfl
    rw [e2]
    omega)

set_option maxRecDepth 100000 in
theorem line1 (p : Addr) (s S : ByteArray) (u : FrameMode) (w : World) (hc : w.cell? p = some (.string s)) (hz : w.frozen? p = false) (hadd : ∀ v, (Op.stringOp .add s ⟨#[10]⟩).run Tryd.prog v = .ok (.string S) v) :
    CallsD Tryd.prog 33 #[.pointer (some p)] u w fun e u' w' => u' = u ∧ (e = .returned (.tuple #[]) ∧ w' = w.setCell p (.string S)) := by
  go_enter_d Tryd.func33, Tryd.ntmps33
  go_wp2_with fail
  go_end0
  exact ⟨rfl, rfl⟩

set_option maxRecDepth 100000 in
set_option maxHeartbeats 2000000 in
theorem lineI (xs : List ByteArray) (g n c : Nat) (w : World) (hn : n = xs.length) (hcells : ∀ (j : Nat) x, xs[j]? = some x → w.cell? ⟨g, j, none⟩ = some (.string x)) (hg : g < w.heap.size) (hc : xs.length ≤ c) (hx : xs.length ≤ 4) (hl : (joinW xs).length ≤ 4096) :
    Calls Tryd.prog 22 #[.slice (some ⟨g, 0, none⟩) n c] w fun e w' => e = .returned (.string (lineT xs)) ∧ Below w.heap.size w w' := by
  have hmf : ∀ (fn : Fn) (first cap : Array Value) (w : World), (Instr.makeFunc fn first cap).run Tryd.prog w = .ok (.func fn first cap) w := fun _ _ _ _ => rfl
  have hJ : Hid (∀ W, Below w.heap.size w W → Calls Tryd.prog 34 #[.slice (some ⟨g, 0, none⟩) n c, .string ⟨#[32]⟩] W fun e w' => e = .returned (.string (joinT xs)) ∧ Below W.heap.size W w') := fun W hW => by
    subst hn
    exact Tryd.strings_Join g 0 c xs ⟨#[32]⟩ W (fun j x hj => by rw [Nat.zero_add]; exact below_some hW (hcells j x hj)) (Nat.lt_of_lt_of_le hg hW.size) (by omega) hc (Nat.le_trans hl (by omega))
  have hA := hide (fun v => line_add hl v)
  have HB0 := hide (abP (w := w) (.cells #[.string ⟨#[]⟩] 9))
  have HX := hide (heap_alloc_new w (.cells #[.string ⟨#[]⟩] 9))
  clear hn hcells hg hc hl hx
  generalize joinT xs = J at *
  generalize lineT xs = L at *
  go_enter_defers Tryd.func22, Tryd.ntmps22
  go_wp2_with fail
  refine (unhide hJ _ (unhide HB0)).mono ?_
  rintro e w2 ⟨rfl, hb2⟩
  have HB2 := hide (btP (unhide HB0) hb2)
  have hX2 := (hb2.block _ (by simp)).trans (unhide HX)
  have c0 : w2.cell? ⟨w.heap.size, 0, none⟩ = some (.string ⟨#[]⟩) := cell_of_row hX2 (by simp)
  have f0 : w2.frozen? ⟨w.heap.size, 0, none⟩ = false := frozen_of_row hX2
  have HX2 := hide hX2
  clear hb2 hX2
  go_wp2_with fail
  refine leaves_cons (f := 33) (args := #[.pointer (some ⟨w.heap.size, 0, none⟩)]) (by simp) (by simp [go_sem]) ?_
  refine (line1 ⟨w.heap.size, 0, none⟩ J L .returning _ ?_ ?_ (unhide hA)).mono ?_
  · simp [go_sem, c0]
  · simp [go_sem, f0]
  rintro e u' w'' ⟨rfl, rfl, rfl⟩
  have e3 := row_setL (row_setL (unhide HX2) (j := 0) (.string J)) (j := 0) (.string L)
  have c3 : ((w2.setCell ⟨w.heap.size, 0, none⟩ (.string J)).setCell ⟨w.heap.size, 0, none⟩ (.string L)).cell? ⟨w.heap.size, 0, none⟩ = some (.string L) := by
    rw [cell_of_row e3 (by simp)]
    simp
  simp [Leaves, settle, results, Tryd.results22, go_sem, c3]
  exact setB (setB (unhide HB2) (Nat.le_refl _)) (Nat.le_refl _)

end Go.Proofs.YtjckdepcgjfomaaDoor
