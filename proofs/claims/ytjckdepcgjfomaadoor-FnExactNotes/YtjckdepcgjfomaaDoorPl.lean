
/- Rows of texts and policies in memory, and the walks of laws.szStringS, toStringS, eqStringS, szPolicy, toPolicy, eqPolicy. -/
import Derived.Test.YtjckdepcgjfomaaDoorHj
import Derived.Test.YtjckdepcgjfomaaDoorTo
import Derived.Deep.RegionHeld3
namespace Go.Proofs.YtjckdepcgjfomaaDoor
open Go.RowKit Go.Deep

/-- The texts lie in the world, one behind the other, in a block from L on. -/
def Txt (w : World) (L : Nat) (a : Option Addr) (l : List ByteArray) : Prop := ∀ k t, l[k]? = some t → ∃ b o, a = some ⟨b, o, none⟩ ∧ L ≤ b ∧ w.cell? ⟨b, o + k, none⟩ = some (.string t)
theorem Txt.on {w w' : World} {L : Nat} {a : Option Addr} {l : List ByteArray} (h : Txt w L a l) (hb : Below w.heap.size w w') : Txt w' L a l := fun k t hk => by
  obtain ⟨b, o, h1, h2, h3⟩ := h k t hk
  exact ⟨b, o, h1, h2, below_some hb h3⟩
theorem Txt.low {w : World} {L L' : Nat} {a : Option Addr} {l : List ByteArray} (h : Txt w L a l) (hL : L' ≤ L) : Txt w L' a l := fun k t hk => by
  obtain ⟨b, o, h1, h2, h3⟩ := h k t hk
  exact ⟨b, o, h1, by omega, h3⟩

def txw : List ByteArray → Nat
  | [] => 0
  | t :: r => t.size + txw r
theorem txw_append (a b : List ByteArray) : txw (a ++ b) = txw a + txw b := by
  induction a with
  | nil => simp [txw]
  | cons t r ih => simp only [List.cons_append, txw, ih]; omega
theorem txw_take (l : List ByteArray) {k : Nat} {t : ByteArray} (h : l[k]? = some t) : txw (l.take (k + 1)) = txw (l.take k) + t.size := by
  rw [List.take_add_one, h, txw_append]; simp [txw]
theorem txw_take_le (l : List ByteArray) (k : Nat) : txw (l.take k) ≤ txw l := by
  have := txw_append (l.take k) (l.drop k)
  rw [List.take_append_drop] at this
  omega
theorem txw_get {l : List ByteArray} {k : Nat} {t : ByteArray} (h : l[k]? = some t) : t.size ≤ txw l := by
  have h1 := txw_take l h
  have h2 := txw_take_le l (k + 1)
  omega

theorem infoStr : (Tryd.prog.info? 9).map (fun i => (i.zero, i.size, i.bytes)) = some (some (.string ByteArray.empty), 1, 16) := by kernel_rfl

theorem make_tx (n : Nat) (hn : n ≤ 2097152) (w : World) :
    (Instr.makeSlice 39 (.int .i64 (n : Int)) (.int .i64 (n : Int))).run Tryd.prog w = .ok (.slice (some ⟨w.heap.size, 0, none⟩) n n) (w.alloc (.cells (madeCells #[.string ByteArray.empty] n) 9)) := by
  obtain ⟨i, hi, hzz⟩ := Option.map_eq_some_iff.1 infoStr
  simp only [Prod.mk.injEq] at hzz
  obtain ⟨hz, hs, hb⟩ := hzz
  have hr := run_make (P := Tryd.prog) w 39 9 i _ Tryd.underlying39 hi hz .i64 .i64 n n (by omega) (Int.le_refl _) (by rw [hb]; omega) (by omega)
  simp only [Int.toNat_natCast, hs, Nat.mul_one] at hr
  exact hr

/-- In the middle of the copy: k of the texts are there. -/
structure TxMid (w : World) (l : List ByteArray) (k : Nat) (wr : World) : Prop where
  below : Below w.heap.size w wr
  row : ∃ C, wr.heap[w.heap.size]? = some (.cells C 9 (0, 0)) ∧ C.size = l.length
  done : ∀ j t, j < k → l[j]? = some t → wr.cell? ⟨w.heap.size, j, none⟩ = some (.string t)

theorem TxMid.start (w : World) (l : List ByteArray) : TxMid w l 0 (w.alloc (.cells (madeCells #[.string ByteArray.empty] l.length) 9)) :=
  ⟨(Below.refl _ _).alloc (Nat.le_refl _) _, ⟨_, heap_alloc_new w _, size_madeCells _ _⟩, fun _ _ hj => absurd hj (Nat.not_lt_zero _)⟩

theorem TxMid.step {w wr : World} {l : List ByteArray} {k : Nat} {t : ByteArray} (h : TxMid w l k wr) (hk : l[k]? = some t) : TxMid w l (k + 1) (wr.setCell ⟨w.heap.size, k, none⟩ (.string t)) := by
  obtain ⟨C, h1, h2⟩ := h.row
  have hlt : k < l.length := by
    by_cases hq : k < l.length
    · exact hq
    · rw [List.getElem?_eq_none (by omega)] at hk; cases hk
  have h3 : (wr.setCell ⟨w.heap.size, k, none⟩ (.string t)).heap[w.heap.size]? = some (.cells (C.setIfInBounds k (.string t)) 9 (0, 0)) := by
    simp only [World.setCell, Array.getElem?_modify]
    simp [h1]
  refine ⟨h.below.setCell (Nat.le_refl _) _, ⟨_, h3, by simpa using h2⟩, fun j x hj hx => ?_⟩
  show (wr.setCell ⟨w.heap.size, k, none⟩ (.string t)).cell? ⟨w.heap.size, j, none⟩ = _
  by_cases hjk : j = k
  · subst hjk
    rw [hk] at hx
    cases hx
    exact (cell_of_row h3 (by simp; omega)).trans (by simp)
  · rw [World.cell?_setCell_other _ _ _ _ (fun e => hjk (by cases e; rfl))]
    exact h.done j x (by omega) hx

theorem TxMid.at {w wr : World} {l : List ByteArray} {k : Nat} (h : TxMid w l k wr) (hk : k < l.length) : (∃ v, wr.cell? ⟨w.heap.size, k, none⟩ = some v) ∧ wr.frozen? ⟨w.heap.size, k, none⟩ = false := by
  obtain ⟨C, h1, h2⟩ := h.row
  exact ⟨⟨_, cell_of_row h1 (by omega)⟩, frozen_of_row h1⟩

theorem TxMid.txt {w wr : World} {l : List ByteArray} (h : TxMid w l l.length wr) : Txt wr w.heap.size (some ⟨w.heap.size, 0, none⟩) l := fun k t hk => by
  have hkl : k < l.length := by
    by_cases hq : k < l.length
    · exact hq
    · rw [List.getElem?_eq_none (by omega)] at hk; cases hk
  exact ⟨_, _, rfl, Nat.le_refl _, by rw [Nat.zero_add]; exact h.done k t hkl hk⟩

/-- The four cells of a policy in a block of its own. -/
def RowP (ty : TypeId) (w : World) (b : Nat) (d : ByteArray) (m : Int) (a : Option Addr) (len cap : Nat) (u : Int) : Prop := w.heap[b]? = some (.cells #[.string d, .int .i64 m, .slice a len cap, .int .i64 u] ty (0, 0))
theorem RowP.new (ty : TypeId) (w : World) (d : ByteArray) (m : Int) (a : Option Addr) (len cap : Nat) (u : Int) : RowP ty (w.alloc (.cells #[.string d, .int .i64 m, .slice a len cap, .int .i64 u] ty)) w.heap.size d m a len cap u := heap_alloc_new w _
theorem RowP.lt {ty : TypeId} {w : World} {b : Nat} {d : ByteArray} {m : Int} {a : Option Addr} {len cap : Nat} {u : Int} (hr : RowP ty w b d m a len cap u) : b < w.heap.size := (Array.getElem?_eq_some_iff.1 hr).1
theorem RowP.below {ty : TypeId} {w w' : World} {b : Nat} {d : ByteArray} {m : Int} {a : Option Addr} {len cap : Nat} {u : Int} (hr : RowP ty w b d m a len cap u) (hb : Below w.heap.size w w') : RowP ty w' b d m a len cap u := (hb.block b hr.lt).trans hr
theorem RowP.facts {ty : TypeId} {w : World} {b : Nat} {d : ByteArray} {m : Int} {a : Option Addr} {len cap : Nat} {u : Int} (hr : RowP ty w b d m a len cap u) :
    w.cell? ⟨b, 0, none⟩ = some (.string d) ∧ w.cell? ⟨b, 1, none⟩ = some (.int .i64 m) ∧ w.cell? ⟨b, 2, none⟩ = some (.slice a len cap) ∧ w.cell? ⟨b, 3, none⟩ = some (.int .i64 u) :=
  ⟨cell_of_row hr (by simp), cell_of_row hr (by simp), cell_of_row hr (by simp), cell_of_row hr (by simp)⟩

theorem abP {w : World} (x : Obj) : Below w.heap.size w (w.alloc x) := (Below.refl _ _).alloc (Nat.le_refl _) _
theorem btP {w v x : World} (h : Below w.heap.size w v) (h2 : Below v.heap.size v x) : Below w.heap.size w x := h.trans (h2.mono h.size)

end Go.Proofs.YtjckdepcgjfomaaDoor
