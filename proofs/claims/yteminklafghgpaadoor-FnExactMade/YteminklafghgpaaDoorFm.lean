
/- The map of what is known: how its entries read; the walks of its methods has and add. -/
import Derived.Test.YteminklafghgpaaDoorAx
import Derived.Test.YteminklafghgpaaDoorPb
import Derived.Maps.Own
import Derived.Maps.OwnOps
import Derived.Maps.OwnSet
namespace Go.Proofs.YteminklafghgpaaDoor
open Go.RowKit Go.Deep Go.Maps Go.MapKept

set_option maxRecDepth 100000 in
theorem law : Keyed Tryd.prog 9 := string_keyed Tryd.underlying9
/-- An entry reads as a fact: a text, a term, a number. -/
def factCells : List Value → Bool
  | [.string _, .int .i64 _, .int .i64 _, .string _, .slice _ _ _, .int .i64 _] => true
  | _ => false
def factElem : Value → Option (DataW Unit × List MemPlace)
  | .agg cs => if factCells cs.toList = true then some (.lit (.bool true), []) else none
  | _ => none
set_option maxRecDepth 100000 in
theorem factElem_mk (s : ByteArray) (o n : Int) (s' : ByteArray) (a : Option Addr) (l c : Nat) (p : Int) : factElem (.agg #[.string s, .int .i64 o, .int .i64 n, .string s', .slice a l c, .int .i64 p]) = some (.lit (.bool true), []) := rfl
set_option maxRecDepth 100000 in
theorem factElem_inv {v : Value} {z : DataW Unit × List MemPlace} (h : factElem v = some z) : ∃ s o n s' a l c p, v = .agg #[.string s, .int .i64 o, .int .i64 n, .string s', .slice a l c, .int .i64 p] := by
  cases v with
  | agg cs =>
    simp only [factElem] at h
    split at h
    · rename_i hc
      unfold factCells at hc
      split at hc
      · rename_i hl
        exact ⟨_, _, _, _, _, _, _, _, congrArg Value.agg (Array.toList_inj.1 hl)⟩
      · cases hc
    · cases h
  | _ => simp [factElem] at h
set_option maxRecDepth 100000 in
theorem zero40 (w : World) : (zeroValue 44).run Tryd.prog w = .ok (.agg #[.string ByteArray.empty, .int .i64 0, .int .i64 0, .string ByteArray.empty, .slice none 0 0, .int .i64 0]) w := by kernel_rfl

/-- Block b is a map of at most n facts, whose texts are those that f tells. -/
def Facts (w : World) (b n : Nat) (f : List UInt8 → Bool) : Prop := ∃ D : DataW Unit, w.ownsMap Tryd.prog 9 factElem b n D ∧ ∀ l, Maps.has D (.string l) = f l
set_option maxRecDepth 100000 in
theorem Facts.low {w w' : World} {b n : Nat} {f : List UInt8 → Bool} (h : Facts w b n f) (hb : Below w.heap.size w w') : Facts w' b n f := by
  obtain ⟨D, hD, hf⟩ := h
  exact ⟨D, hD.kept (row := none) ⟨hb.os, hb.tape, hb.output, hb.size, fun k hk _ => hb.block k hk⟩ (by simp), hf⟩
set_option maxRecDepth 100000 in
theorem Facts.oth {w w' : World} {b n : Nat} {f : List UInt8 → Bool} (h : Facts w b n f) (ho : Oth w w') : Facts w' b n f := by
  obtain ⟨D, ⟨es, cl, hb, r⟩, hf⟩ := h
  exact ⟨D, ⟨es, cl, ho _ _ hb (by simp) (by simp), r⟩, hf⟩
set_option maxRecDepth 100000 in
theorem Facts.new (w : World) : Facts (w.alloc (.map #[] 0)) w.heap.size 0 (fun _ => false) := ⟨_, World.ownsMap_made w _ _ _, fun _ => rfl⟩

set_option maxRecDepth 100000 in
theorem key_mk (l : List UInt8) (hl : l.length ≤ 1000000) : keyOf Tryd.prog 9 (.string ⟨l.toArray⟩) = some (.string l) := by
  have := WideMaps.keyOf_string_mk (P := Tryd.prog) (k := 9) Tryd.underlying9 (s := ⟨l.toArray⟩) (by show l.toArray.size ≤ _; simp [maxLen]; omega)
  simpa using this

set_option maxRecDepth 100000 in
set_option maxHeartbeats 1000000 in
theorem hasI_calls (b n0 : Nat) (f : List UInt8 → Bool) (t : Tm) (op n : Int) (s : ByteArray) (a : Option Addr) (len cap : Nat) (w : World) (hf : Facts w b n0 f) (hl : Lies w 0 t (tmCells op n s a len cap)) (hr : rightT t = true) (hz : t.size ≤ 400) (ht : Tab w) :
    Calls Tryd.prog 36 #[.map (some b), .agg #[.int .i64 op, .int .i64 n, .string s, .slice a len cap]] w fun e w' => e = .returned (.bool (f (exT t))) ∧ Below w.heap.size w w' := by
  have h23 := hide (ext_calls t op n s a len cap)
  have hx := exT_le t hr
  have hb0 := abD (w := w) (.cells #[.int .i64 op, .int .i64 n, .string s, .slice a len cap] 31)
  have HL := hide (hl.below hb0)
  have HR := hide hr
  have HT := hide (Lib.tabBelow_of_tabIs (ht.on hb0))
  have HF := hide (hf.low hb0)
  have HB := hide hb0
  have HK := hide (key_mk (exT t) (by omega))
  have HG : Hid (∀ D : DataW Unit, (∀ l, Maps.has D (.string l) = f l) → Maps.has D (.string (exT t)) = f (exT t)) := fun D h => h _
  generalize exT t = x at *
  clear hf hl hr ht hx hb0
  go_enter Tryd.func36, Tryd.ntmps36
  go_wp2_with fail
  refine (unhide h23 _ (unhide HL) (unhide HR) hz (unhide HT)).mono ?_
  rintro e w2 ⟨rfl, hb2⟩
  obtain ⟨D, hD, hDf⟩ := (unhide HF).low hb2
  have HDF := hide (unhide HG D hDf)
  have HB2 := hide ((unhide HB).trans (hb2.mono (unhide HB).size))
  have HD := hide hD
  clear hb2 hDf hD HF HG
  go_wp2_with (at_lookup; refine wpList_lookup_own_ok _ rfl _ _ 38 rfl 9 44 law Tryd.underlying38 factElem (zero40 _) (.lit (.bool true)) [] rfl b n0 D rfl (unhide HD) _ _ rfl (unhide HK) ?_; intro v ps hv; obtain ⟨y1, y2, y3, y4, y5, y6, y7, y8, rfl⟩ := factElem_inv hv)
  go_ret
  rw [unhide HDF]
  exact ⟨rfl, (unhide HB2).alloc (unhide HB2).size _⟩

end Go.Proofs.YteminklafghgpaaDoor
