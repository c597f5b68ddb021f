
/- How a term reads, as plain functions; and the walk of spec.l1Digits. The walk of laws.markText: the text of a mark; nothing that was there is written. The walks of laws.eqStringS, laws.markStringS and laws.heldStringS over rows of texts. Texts in blocks of their own, marks of texts; the walks of impl's each over texts, impl.ownPolicy and spec.l7Copy: the policy with its texts in memory of its own. The walks of impl's each over texts, impl.ownPolicy and spec.l7Copy: the policy with its texts in memory of its own. The walks of spec.CacheGet and impl.CacheGet: the first policy of that domain that is not over, in memory of its own; nothing that was there is written. Right caches, and the walk of spec.CacheOk. The walk of impl.CacheOk. -/
import Derived.Test.YtbohladjahpfcaaGreatEq
import Derived.Lib.ItoaLen
import Derived.Lib.AppendIntMem
import Derived.Test.YtbohladjahpfcaaGreatStk
import Derived.Test.YtbohladjahpfcaaGreatHj
import Derived.Deep.RegionHeld3
import Derived.Test.YtbohladjahpfcaaGreatQl
import Derived.Deep.Upon
import Derived.Deep.AppendSrc
import Derived.BigCall
import Derived.OrdersHeld
namespace Go.Proofs.YtbohladjahpfcaaGreat
open Go.RowKit Go.Deep

theorem conv1 (x : Int) (v : World) : (convert 197 9 (.slice (some ⟨v.heap.size, 0, none⟩) 1 1)).run Tryz.prog (v.alloc (.cells #[.int .u8 x] 5)) = .ok (.string ⟨[UInt8.ofNat x.toNat].toArray⟩) (v.alloc (.cells #[.int .u8 x] 5)) :=
  run_convert_bytes_arg _ 197 5 Tryz.underlying197 Tryz.underlying5 v.heap.size 0 1 1 [x] rfl (fun i hi => by
    obtain rfl : i = 0 := by omega
    exact box_cell v _ 5 0 _ rfl) 9 Tryz.underlying9

theorem cat_list (a b : List UInt8) : (⟨a.toArray⟩ ++ ⟨b.toArray⟩ : ByteArray) = ⟨(a ++ b).toArray⟩ := by
  apply Go.WideShapes.bytes_inj
  simp

/-- The digits ahead of those that are there. -/
def upper (m : Nat) : List UInt8 := if m = 0 then [] else Lib.decDigits m
theorem upper_step {m : Nat} (h : m ≠ 0) : upper m = upper (m / 10) ++ [48 + UInt8.ofNat (m % 10)] := by
  have e : (48 : UInt8) + UInt8.ofNat (m % 10) = UInt8.ofNat (48 + m % 10) := by rw [UInt8.ofNat_add]; rfl
  rw [e]
  unfold upper
  rw [if_neg h]
  by_cases hs : m < 10
  · rw [if_pos (by omega), Lib.decDigits_one hs, show m % 10 = m by omega]
    rfl
  · rw [if_neg (by omega), Lib.decDigits, dif_neg hs]

theorem ret_str {a b : ByteArray} (h : a = b) : Ending.returned (.string a) = .returned (.string b) := by rw [h]

theorem upper_pos {m : Nat} (h : m ≠ 0) : upper m = Lib.decDigits m := by unfold upper; rw [if_neg h]

/-- The text of the mark u, of one above 0. -/
def mtx (u : Nat) : ByteArray := ⟨(109 :: Lib.decDigits u).toArray⟩

theorem mtx_size {u : Nat} (h : (u : Int) ≤ 9223372036854775807) : (mtx u).size ≤ 22 := by
  have := Lib.itoa_length_le (u : Int) (by omega) h
  rw [Lib.itoa_nonneg] at this
  simp [mtx, ByteArray.size]
  exact this

/-- The texts stand in the places of a row. -/
def Stand (w : World) (g : Nat) (l : List ByteArray) : Prop := ∀ k t, l[k]? = some t → w.cell? ⟨g, k, none⟩ = some (.string t)
theorem Stand.on {w w' : World} {g : Nat} {l : List ByteArray} (h : Stand w g l) (hb : Below w.heap.size w w') : Stand w' g l := fun k t hk => below_some hb (h k t hk)

theorem below_drewX {w v : World} (h : Below w.drew.heap.size w.drew v) : Below w.heap.size w v := ((Below.refl _ _).drew).trans h

set_option maxRecDepth 100000 in
set_option maxHeartbeats 1000000 in
theorem eqS_yes (l : List ByteArray) (g g' c c' : Nat) (w : World) (hl : l.length ≤ 2097153) (h : Stand w g l) (h' : Stand w g' l) :
    Calls Tryz.prog 97 #[.slice (some ⟨g, 0, none⟩) l.length c, .slice (some ⟨g', 0, none⟩) l.length c'] w fun e w' => e = .returned (.bool true) ∧ Below w.heap.size w w' := by
  have H := hide h
  have H' := hide h'
  clear h h'
  go_enter Tryz.func97, Tryz.ntmps97
  go_wp2_with fail
  go_loopw [5] (fun n wr => ∃ k : Nat, n = .int .i64 k ∧ Below w.heap.size w wr ∧ k ≤ l.length) (fun n _ => l.length - (intOf n).toNat)
  case atStart => exact ⟨0, rfl, Below.refl _ _, by omega⟩
  case round =>
    obtain ⟨k, rfl, hb, hk⟩ := hrel
    have HB := hide hb
    by_cases hp : k < l.length
    · obtain ⟨t, ht⟩ : ∃ t, l[k]? = some t := ⟨_, List.getElem?_eq_getElem hp⟩
      have c0 := (unhide H).on hb k t ht
      have c1 := (unhide H').on hb k t ht
      have c2 : (k : Int) < (l.length : Int) := by omega
      have c3 : (0 : Int) ≤ (k : Int) := by omega
      have w1 : wrap64 ((k : Int) + 1) = ((k + 1 : Nat) : Int) := by unfold wrap64; omega
      clear hb ht
      generalize hL : l.length = L at *
      go_wp2_with fail
      go_region
      go_wp2_with fail
      go_roundw
      case rel => exact ⟨k + 1, rfl, (unhide HB).drew, by omega⟩
      case measure => simp only [intOf]; omega
    · have c2 : ¬ (k : Int) < (l.length : Int) := by omega
      clear hb
      generalize hL : l.length = L at *
      go_wp2_with fail
      go_ret
      exact ⟨rfl, unhide HB⟩

/-- A row of texts of its own, marked up to a place. -/
def Marked (w : World) (g L i : Nat) : Prop := ∃ cur : Array Value, w.heap[g]? = some (.cells cur 9 (0, 0)) ∧ L ≤ cur.size ∧ ∀ j, j < i → cur[j]? = some (.string (mtx (j + 1)))
theorem Marked.on {w w' : World} {g L i : Nat} (h : Marked w g L i) (hb : Below w.heap.size w w') : Marked w' g L i := by
  obtain ⟨cur, h1, h2, h3⟩ := h
  exact ⟨cur, by rw [hb.block g (Array.getElem?_eq_some_iff.1 h1).1, h1], h2, h3⟩
theorem Marked.next {w : World} {g L i : Nat} (h : Marked w g L i) (hi : i < L) : Marked (w.setCell ⟨g, i, none⟩ (.string (mtx (i + 1)))) g L (i + 1) := by
  obtain ⟨cur, h1, h2, h3⟩ := h
  have e := heap_setCell_same w g i cur 9 (.string (mtx (i + 1))) h1
  refine ⟨_, e, by simpa using h2, fun j hj => ?_⟩
  rcases Nat.lt_or_ge j i with hl | hl
  · rw [Array.getElem?_setIfInBounds_ne (by omega)]
    exact h3 j hl
  · obtain rfl : j = i := by omega
    rw [Array.getElem?_setIfInBounds_self_of_lt (by omega)]
theorem Marked.cell {w : World} {g L i j : Nat} (h : Marked w g L i) (hj : j < i) : w.cell? ⟨g, j, none⟩ = some (.string (mtx (j + 1))) := by
  obtain ⟨cur, h1, h2, h3⟩ := h
  have hc : j < cur.size := (Array.getElem?_eq_some_iff.1 (h3 j hj)).1
  rw [cell_of_row h1 hc, ← h3 j hj, Array.getElem?_eq_getElem hc]
theorem Marked.some {w : World} {g L i j : Nat} (h : Marked w g L i) (hj : j < L) : ∃ v, w.cell? ⟨g, j, none⟩ = Option.some v := by
  obtain ⟨cur, h1, h2, h3⟩ := h
  exact ⟨_, cell_of_row h1 (show j < cur.size by omega)⟩
theorem Marked.free {w : World} {g L i j : Nat} (h : Marked w g L i) : w.frozen? ⟨g, j, none⟩ = false := by
  obtain ⟨cur, h1, h2, h3⟩ := h
  simp [World.frozen?, h1]

/-- Nothing is written but blocks of S. -/
structure Chg (S : Nat → Prop) (w w' : World) : Prop where
  os : w'.os = w.os
  tape : w'.tape = w.tape
  output : w'.output = w.output
  size : w.heap.size ≤ w'.heap.size
  block : ∀ k, k < w.heap.size → ¬ S k → w'.heap[k]? = w.heap[k]?
theorem Chg.refl (S : Nat → Prop) (w : World) : Chg S w w := ⟨rfl, rfl, rfl, Nat.le_refl _, fun _ _ _ => rfl⟩
theorem Chg.trans {S : Nat → Prop} {a b c : World} (h : Chg S a b) (k : Chg S b c) : Chg S a c :=
  ⟨k.os.trans h.os, k.tape.trans h.tape, k.output.trans h.output, Nat.le_trans h.size k.size, fun i hi hf => (k.block i (Nat.lt_of_lt_of_le hi h.size) hf).trans (h.block i hi hf)⟩
theorem Chg.mono {S S' : Nat → Prop} {a b : World} (h : Chg S a b) (hs : ∀ x, S x → S' x) : Chg S' a b := ⟨h.os, h.tape, h.output, h.size, fun k hk hf => h.block k hk fun hx => hf (hs k hx)⟩
theorem Chg.of_below {S : Nat → Prop} {a b : World} (h : Below a.heap.size a b) : Chg S a b := ⟨h.os, h.tape, h.output, h.size, fun k hk _ => h.block k hk⟩
theorem Chg.below {S : Nat → Prop} {a b : World} {B : Nat} (h : Chg S a b) (hB : B ≤ a.heap.size) (hf : ∀ x, S x → B ≤ x) : Below B a b :=
  ⟨h.os, h.tape, h.output, h.size, fun k hk => h.block k (by omega) fun hx => absurd (hf k hx) (by omega)⟩
theorem Chg.set {S : Nat → Prop} {a b : World} (h : Chg S a b) {p : Addr} (hp : S p.block) (u : Value) : Chg S a (b.setCell p u) :=
  ⟨h.os, h.tape, h.output, by simpa using h.size, fun k hk hf => by rw [Below.heap_setCell b p u k (fun e => hf (by rw [e]; exact hp))]; exact h.block k hk hf⟩
theorem Chg.on {S : Nat → Prop} {a b c : World} (h : Chg S a b) (hb : Below b.heap.size b c) : Chg S a c := h.trans (Chg.of_below hb)

/-- Texts in a block of their own. -/
def TxOwn (w : World) (x : Option Addr) (l : List ByteArray) (f : Option Nat) : Prop :=
  l = [] ∨ ∃ (b : Nat) (C : Array Value), x = some ⟨b, 0, none⟩ ∧ f = some b ∧ w.heap[b]? = some (.cells C 9 (0, 0)) ∧ l.length ≤ C.size ∧ ∀ (j : Nat) (t : ByteArray), l[j]? = some t → C[j]? = some (Value.string t)
theorem TxOwn.keep {w w' : World} {x : Option Addr} {l : List ByteArray} {f : Option Nat} (h : TxOwn w x l f) (hf : ∀ b, f = some b → w'.heap[b]? = w.heap[b]?) : TxOwn w' x l f := by
  rcases h with h | ⟨b, C, h1, h2, h3, h4⟩
  · exact Or.inl h
  · exact Or.inr ⟨b, C, h1, h2, by rw [hf b h2, h3], h4⟩
theorem TxOwn.on {w w' : World} {x : Option Addr} {l : List ByteArray} {f : Option Nat} (h : TxOwn w x l f) (hb : Below w.heap.size w w') : TxOwn w' x l f := by
  rcases h with h | ⟨b, C, h1, h2, h3, h4⟩
  · exact Or.inl h
  · exact Or.inr ⟨b, C, h1, h2, by rw [hb.block b (Array.getElem?_eq_some_iff.1 h3).1, h3], h4⟩
theorem TxOwn.chg {w w' : World} {x : Option Addr} {l : List ByteArray} {f : Option Nat} {S : Nat → Prop} (h : TxOwn w x l f) (hc : Chg S w w') (hf : ∀ b, f = some b → ¬ S b) : TxOwn w' x l f := by
  rcases h with h | ⟨b, C, h1, h2, h3, h4⟩
  · exact Or.inl h
  · exact Or.inr ⟨b, C, h1, h2, by rw [hc.block b (Array.getElem?_eq_some_iff.1 h3).1 (hf b h2), h3], h4⟩
theorem TxOwn.txt {w : World} {x : Option Addr} {l : List ByteArray} {f : Option Nat} (h : TxOwn w x l f) : Txt w 0 x l := fun k t hk => by
  rcases h with rfl | ⟨b, C, h1, h2, h3, h4, h5⟩
  · simp at hk
  · have hc := h5 k t hk
    have hks : k < C.size := (Array.getElem?_eq_some_iff.1 hc).1
    refine ⟨b, 0, h1, Nat.zero_le _, ?_⟩
    rw [Nat.zero_add, cell_of_row h3 hks, ← Array.getElem?_eq_getElem hks, hc]
theorem Txs.own {w wr : World} {l : List ByteArray} {v : Value} (h : Txs w l v wr) : ∃ x c f, v = .slice x l.length c ∧ TxOwn wr x l f ∧ ∀ b, f = some b → w.heap.size ≤ b ∧ b < wr.heap.size := by
  rcases h.2 with ⟨h1, h2⟩ | ⟨g, cap, cur, h1, h2, h3, h4, h5, h6, h7⟩
  · exact ⟨none, 0, none, by rw [h1, h2], Or.inl (List.length_eq_zero_iff.1 h2), fun b hb => by cases hb⟩
  · refine ⟨some ⟨g, 0, none⟩, cap, some g, h1, Or.inr ⟨g, cur, rfl, rfl, h3, by omega, fun k t hk => ?_⟩, fun b hb => ?_⟩
    · have hk' : k < l.length := (List.getElem?_eq_some_iff.1 hk).1
      have e : (cur.toList.take (l.length * 1))[k]? = some (.string t) := by rw [h7]; simp [hk]
      rwa [List.getElem?_take, if_pos (by omega), Array.getElem?_toList] at e
    · simp only [Option.some.injEq] at hb
      subst hb
      exact ⟨h2, (Array.getElem?_eq_some_iff.1 h3).1⟩

/-- The marks from k on. -/
def markTx (n k : Nat) : List ByteArray := (List.range n).map fun j => mtx (k + j)
theorem markTx_length (n k : Nat) : (markTx n k).length = n := by simp [markTx]
theorem markTx_get {n k j : Nat} (h : j < n) : (markTx n k)[j]? = some (mtx (k + j)) := by simp [markTx, h]
theorem markTx_of {n k j : Nat} {t : ByteArray} (h : (markTx n k)[j]? = some t) : t = mtx (k + j) := by
  have hj : j < n := by have := (List.getElem?_eq_some_iff.1 h).1; rwa [markTx_length] at this
  rw [markTx_get hj] at h
  exact (Option.some.inj h).symm

/-- A row of texts of its own, marked from k on up to a place. -/
def MkdK (w : World) (g L k i : Nat) : Prop := ∃ cur : Array Value, w.heap[g]? = some (.cells cur 9 (0, 0)) ∧ L ≤ cur.size ∧ ∀ j, j < i → cur[j]? = some (.string (mtx (k + j)))
theorem MkdK.on {w w' : World} {g L k i : Nat} (h : MkdK w g L k i) (hb : Below w.heap.size w w') : MkdK w' g L k i := by
  obtain ⟨cur, h1, h2, h3⟩ := h
  exact ⟨cur, by rw [hb.block g (Array.getElem?_eq_some_iff.1 h1).1, h1], h2, h3⟩
theorem MkdK.next {w : World} {g L k i : Nat} (h : MkdK w g L k i) (hi : i < L) : MkdK (w.setCell ⟨g, i, none⟩ (.string (mtx (k + i)))) g L k (i + 1) := by
  obtain ⟨cur, h1, h2, h3⟩ := h
  have e := heap_setCell_same w g i cur 9 (.string (mtx (k + i))) h1
  refine ⟨_, e, by simpa using h2, fun j hj => ?_⟩
  rcases Nat.lt_or_ge j i with hl | hl
  · rw [Array.getElem?_setIfInBounds_ne (by omega)]
    exact h3 j hl
  · obtain rfl : j = i := by omega
    rw [Array.getElem?_setIfInBounds_self_of_lt (by omega)]
theorem MkdK.has {w : World} {g L k i j : Nat} (h : MkdK w g L k i) (hj : j < L) : ∃ v, w.cell? ⟨g, j, none⟩ = some v := by
  obtain ⟨cur, h1, h2, h3⟩ := h
  exact ⟨_, cell_of_row h1 (show j < cur.size by omega)⟩
theorem MkdK.free {w : World} {g L k i j : Nat} (h : MkdK w g L k i) : w.frozen? ⟨g, j, none⟩ = false := by
  obtain ⟨cur, h1, h2, h3⟩ := h
  simp [World.frozen?, h1]
theorem MkdK.own {w : World} {g L k : Nat} (h : MkdK w g L k L) : TxOwn w (some ⟨g, 0, none⟩) (markTx L k) (some g) := by
  obtain ⟨cur, h1, h2, h3⟩ := h
  refine Or.inr ⟨g, cur, rfl, rfl, h1, by rw [markTx_length]; exact h2, fun j t hj => ?_⟩
  have hjL : j < L := by have := (List.getElem?_eq_some_iff.1 hj).1; rwa [markTx_length] at this
  rw [markTx_of hj]
  exact h3 j hjL

theorem Txs.empty (w : World) : Txs w [] (.slice none 0 0) w := ⟨rfl, Or.inl ⟨rfl, rfl⟩⟩

theorem Txs.base {w v0 wr : World} {l : List ByteArray} {v : Value} (h : Txs v0 l v wr) (hs : w.heap.size ≤ v0.heap.size) : Txs w l v wr := by
  refine ⟨h.1, ?_⟩
  rcases h.2 with h2 | ⟨g, cap, cur, h1, h2, h3⟩
  · exact Or.inl h2
  · exact Or.inr ⟨g, cap, cur, h1, by omega, h3⟩
theorem Txs.set {w0 wr : World} {l : List ByteArray} {v : Value} (h : Txs w0 l v wr) {p : Addr} (hp : p.block < w0.heap.size) (u : Value) : Txs w0 l v (wr.setCell p u) := by
  refine ⟨h.1, ?_⟩
  rcases h.2 with h2 | ⟨g, cap, cur, h1, h2, h3, h4⟩
  · exact Or.inl h2
  · exact Or.inr ⟨g, cap, cur, h1, h2, by rw [Below.heap_setCell wr p u g (by omega)]; exact h3, h4⟩
theorem RowP.set0 {ty : TypeId} {w : World} {b : Nat} {d : ByteArray} {m : Int} {a : Option Addr} {len cap : Nat} {u : Int} (hr : RowP ty w b d m a len cap u) (d' : ByteArray) : RowP ty (w.setCell ⟨b, 0, none⟩ (.string d')) b d' m a len cap u := by
  unfold RowP at hr ⊢
  rw [heap_setCell_same w b 0 _ ty _ hr]
  rfl
theorem RowP.set2 {ty : TypeId} {w : World} {b : Nat} {d : ByteArray} {m : Int} {a : Option Addr} {len cap : Nat} {u : Int} (hr : RowP ty w b d m a len cap u) (a' : Option Addr) (len' cap' : Nat) : RowP ty (w.setCell ⟨b, 2, none⟩ (.slice a' len' cap')) b d m a' len' cap' u := by
  unfold RowP at hr ⊢
  rw [heap_setCell_same w b 2 _ ty _ hr]
  rfl
theorem RowP.far {ty : TypeId} {w : World} {b : Nat} {d : ByteArray} {m : Int} {a : Option Addr} {len cap : Nat} {u : Int} (hr : RowP ty w b d m a len cap u) {p : Addr} (hp : b ≠ p.block) (v : Value) : RowP ty (w.setCell p v) b d m a len cap u := by
  unfold RowP at hr ⊢
  rw [Below.heap_setCell w p v b hp]
  exact hr
theorem RowP.froz {ty : TypeId} {w : World} {b : Nat} {d : ByteArray} {m : Int} {a : Option Addr} {len cap : Nat} {u : Int} (hr : RowP ty w b d m a len cap u) (j : Nat) : w.frozen? ⟨b, j, none⟩ = false := frozen_of_row hr
theorem setBelow {w v : World} (h : Below w.heap.size w v) {p : Addr} (hp : w.heap.size ≤ p.block) (u : Value) : Below w.heap.size w (v.setCell p u) := h.setCell hp u

/-- All of a list, behind nothing. -/
theorem Txs.many {w wr : World} {g : Nat} (h : Txs w [] (.slice (some ⟨g, 0, none⟩) 0 0) wr) (hbw : Below w.heap.size w wr) {l : List ByteArray} {x : Option Addr} (hx : Txt wr 0 x l) (hn : l.length ≤ 2097152) (c : Nat) (ty : TypeId) :
    ∃ v' w', (Builtin.append_ #[80, 80] ty #[.slice (some ⟨g, 0, none⟩) 0 0, .slice x l.length c]).run Tryz.prog wr = .ok v' w' ∧ (Txs w l v' w' ∧ Below w.heap.size w w') := by
  obtain ⟨i, hi, hzz⟩ := Option.map_eq_some_iff.1 infoS
  simp only [Prod.mk.injEq] at hzz
  obtain ⟨hz, hs, hby⟩ := hzz
  cases x with
  | none =>
    have hl : l = [] := by
      cases l with
      | nil => rfl
      | cons t r => obtain ⟨b, o, h1, _⟩ := hx 0 t rfl; cases h1
    subst hl
    exact ⟨_, _, run_append_nothing (P := Tryz.prog) wr 80 80 ty 9 i Tryz.underlying80 hi _ 0 0 (Nat.le_refl _) _ (Src.ofNil wr Tryz.underlying80 c), h, hbw⟩
  | some a =>
    obtain ⟨v', w', g1, g2, g3, _⟩ := run_append_own_wide (P := Tryz.prog) wr w.heap.size 80 ty 9 i _ 1 16 Tryz.underlying80 hi hz hs hby rfl (by omega) _ 0 _ h a l.length c (l.map fun b => Value.string b)
      (by simp) (fun j u hj => by
        simp only [List.getElem?_map, Option.map_eq_some_iff] at hj
        obtain ⟨t, ht, rfl⟩ := hj
        obtain ⟨b, o, h1, _, h3⟩ := hx j t ht
        simp only [Option.some.injEq] at h1
        subst h1
        rw [Addr.add_mid]
        exact h3) (fun u hu => by simp at hu; obtain ⟨t, _, rfl⟩ := hu; rfl) (by unfold maxLen; omega) (by omega) hbw.size
    refine ⟨v', w', g1, ?_, hbw.grown g3 hbw.size (fun k hk => (World.ownsRow.lt h k hk).1)⟩
    unfold Txs
    simpa using g2

open Classical in
noncomputable def gotQ (P : List Pol) (d : ByteArray) (now : Int) : Option Pol := P.find? fun p => decide (p.d = d) && decide (now ≤ p.u)
/-- What is asked of the sizes of policies. -/
def polZ (p : Pol) : Prop := p.l.length ≤ 2097152 ∧ (∀ t ∈ p.l, t.size ≤ 2097152) ∧ p.d.size ≤ 2097152
def zeroP : Pol := ⟨⟨#[]⟩, 0, [], 0⟩
theorem gotQ_none {P : List Pol} {d : ByteArray} {now : Int} {k : Nat} (hk : ¬ k < P.length) (h : ∀ j p, j < k → P[j]? = some p → ¬ (p.d = d ∧ now ≤ p.u)) : gotQ P d now = none := by
  unfold gotQ
  rw [List.find?_eq_none]
  intro p hp
  obtain ⟨j, hj, e⟩ := List.getElem_of_mem hp
  have := h j p (by omega) (by rw [List.getElem?_eq_getElem hj, e])
  simp only [Bool.and_eq_true, decide_eq_true_eq]
  exact this
theorem gotQ_some {P : List Pol} {d : ByteArray} {now : Int} {k : Nat} {p : Pol} (hk : P[k]? = some p) (h : ∀ j p, j < k → P[j]? = some p → ¬ (p.d = d ∧ now ≤ p.u)) (hp : p.d = d ∧ now ≤ p.u) : gotQ P d now = some p := by
  unfold gotQ
  rw [List.find?_eq_some_iff_getElem]
  obtain ⟨hkl, hke⟩ := List.getElem?_eq_some_iff.1 hk
  refine ⟨by simp [hp.1, hp.2], k, hkl, hke, fun j hj => ?_⟩
  have hjl : j < P.length := by omega
  have := h j P[j] hj (List.getElem?_eq_getElem hjl)
  simp only [Bool.not_eq_true', Bool.and_eq_false_iff, decide_eq_false_iff_not]
  by_cases e : (P[j]).d = d
  · exact Or.inr fun h2 => this ⟨e, h2⟩
  · exact Or.inl e
theorem eq_toList {a b : ByteArray} (h : a = b) : (a.toList == b.toList) = true := by rw [h]; simp
theorem ne_toList {a b : ByteArray} (h : ¬ a = b) : (a.toList == b.toList) = false := by
  simp only [beq_eq_false_iff_ne, ne_eq]
  intro e
  exact h (Go.WideShapes.bytes_inj (by rwa [Lib.toList_data, Lib.toList_data] at e))

theorem Tryz.mixedO : Tryz.prog.follows .mixedOrders = true := by kernel_rfl

theorem run_geqS (a b : ByteArray) (y : World) : (binOp BinOp.geq 9 (.string a) (.string b)).run Tryz.prog y = .ok (.bool (!Op.bytesLess a.toList b.toList)) y := by
  simp [binOp, go_sem, Op.stringOp]
theorem callFunc_enter {P : Program} {f : Nat} {fn : Func} {args : Array Value} {w : World} (hf : P.funcs[f]? = some fn) (hn : (fn.name == "runtime.NumGoroutine") = false) (hb : fn.body.isNone = false) :
    (callFunc f args).run P w = .ok (.enter f args) w := by
  simp [callFunc, go_sem, hf]
  rw [if_neg (by simpa using hn), if_neg (by intro h; rw [h] at hb; cases hb)]
theorem step_call {P : Program} {ops : Array Oper} {Q : Exit → Act → World → Prop} {i d f : Nat} {fn : Func} {xs : Array Operand} {ats : Array TypeId} {ty : TypeId} {pos : String} {after : Array Edge} {K : Act → World → Prop} {a : Act} {w : World}
    (ho : ops[i]? = some { dst := some d, op := .call { callee := .value (.func f), args := xs, argTypes := ats }, type := ty, pos := pos, after := after, guard := none })
    (hf : P.funcs[f]? = some fn) (hn : (fn.name == "runtime.NumGoroutine") = false) (hb : fn.body.isNone = false)
    {args : Array Value} (hx : xs.map a.eval = args) (h : Calls P f args w fun e w' => ∃ v, e = .returned v ∧ K (a.put (some d) v) w') :
    wpOp P ops Q i K a w := by
  refine wpOp_step ho fun K' hK => ?_
  rw [if_pos (by rfl)]
  unfold Oper.wp
  rw [execOp_call_go, callFunc_enter hf hn hb]
  have he : (#[] ++ xs.map a.eval ++ #[] : Array Value) = xs.map a.eval := by simp
  rw [he, hx]
  refine Calls.mono h ?_
  rintro e w' ⟨v, rfl, hv⟩
  exact hK _ _ hv

noncomputable def okP (p : Pol) : Bool := polB p.l p.d p.m p.u
def ltD (p q : Pol) : Bool := Go.Op.bytesLess p.d.toList q.d.toList
/-- So far right: each policy, and the domains ascending. -/
def upTo (P : List Pol) (k : Nat) : Prop := (∀ j p, j < k → P[j]? = some p → okP p = true) ∧ ∀ j p q, j + 1 < k → P[j]? = some p → P[j + 1]? = some q → ltD p q = true
theorem upTo.zero (P : List Pol) : upTo P 0 := ⟨fun j p h => by omega, fun j p q h => by omega⟩
theorem upTo.one {P : List Pol} {p : Pol} (h0 : P[0]? = some p) (h : okP p = true) : upTo P 1 := ⟨fun j q hj hq => by
  obtain rfl : j = 0 := by omega
  rw [h0] at hq; cases hq; exact h, fun j p q h => by omega⟩
theorem upTo.next {P : List Pol} {j : Nat} {q p : Pol} (hu : upTo P (j + 1)) (hq : P[j]? = some q) (hp : P[j + 1]? = some p) (h : okP p = true) (hl : ltD q p = true) : upTo P (j + 1 + 1) :=
  ⟨fun i x hi hx => by
    rcases Nat.lt_or_ge i (j + 1) with h1 | h1
    · exact hu.1 i x h1 hx
    · obtain rfl : i = j + 1 := by omega
      rw [hp] at hx; cases hx; exact h,
   fun i x y hi hx hy => by
    rcases Nat.lt_or_ge (i + 1) (j + 1) with h1 | h1
    · exact hu.2 i x y h1 hx hy
    · obtain rfl : i = j := by omega
      rw [hq] at hx; rw [hp] at hy; cases hx; cases hy; exact hl⟩
open Classical in
noncomputable def cacheB (P : List Pol) : Bool := decide (P.length ≤ 10 ∧ upTo P P.length)
open Classical in
theorem cacheB_no {P : List Pol} (h : ¬ (P.length ≤ 10 ∧ upTo P P.length)) : cacheB P = false := by
  simp only [cacheB, h, decide_false]
theorem cacheB_bad {P : List Pol} {k : Nat} {p : Pol} (hk : P[k]? = some p) (h : okP p = false) : cacheB P = false := by
  refine cacheB_no (fun hh => ?_)
  have := hh.2.1 k p (List.getElem?_eq_some_iff.1 hk).1 hk
  rw [h] at this
  cases this
theorem cacheB_order {P : List Pol} {j : Nat} {q p : Pol} (hq : P[j]? = some q) (hp : P[j + 1]? = some p) (h : ltD q p = false) : cacheB P = false := by
  refine cacheB_no (fun hh => ?_)
  have := hh.2.2 j q p (List.getElem?_eq_some_iff.1 hp).1 hq hp
  rw [h] at this
  cases this
theorem cacheB_end {P : List Pol} {k : Nat} (hk : ¬ k < P.length) (hu : upTo P k) : cacheB P = decide (P.length ≤ 10) := by
  have : upTo P P.length := ⟨fun j p hj => hu.1 j p (by omega), fun j p q hj => hu.2 j p q (by omega)⟩
  unfold cacheB
  by_cases h : P.length ≤ 10 <;> simp [h, this]


set_option maxRecDepth 100000 in
set_option maxHeartbeats 1000000 in
theorem cacheS (P : List Pol) (a : Option Addr) (cap : Nat) (w : World) (hl : Pols w 0 a P) (hm : P.length ≤ 2097152) (hz : ∀ p ∈ P, polZ p) :
    Calls Tryz.prog 45 #[.slice a P.length cap] w fun e w' => e = .returned (.bool (cacheB P)) ∧ Below w.heap.size w w' := by
  have H := hide hl
  have HZ := hide hz
  clear hl hz
  generalize hlen : P.length = len at *
  have HL : Hid (P.length = len) := hlen
  clear hlen
  go_enter Tryz.func45, Tryz.ntmps45
  go_wp2_with fail
  go_loopw [3] (fun n wr => ∃ k : Nat, n = .int .i64 k ∧ Below w.heap.size w wr ∧ k ≤ len ∧ upTo P k) (fun n _ => len - (intOf n).toNat)
  case atStart => exact ⟨0, rfl, Below.refl _ _, by omega, upTo.zero P⟩
  case round =>
    obtain ⟨k, rfl, hb, hk, hu⟩ := hrel
    have HB := hide hb
    have HU := hide hu
    by_cases hp : k < len
    · have hp' : k < P.length := by have := HL.out; omega
      obtain ⟨p, hkp⟩ : ∃ p, P[k]? = some p := ⟨_, List.getElem?_eq_getElem hp'⟩
      obtain ⟨b, o, x, xc, rfl, -, -, c0, c1, c2, c3, hT⟩ := ((unhide H).on hb).elem hkp
      have HT := hide (hT.on (Below.refl _ _).drew)
      have hpz := unhide HZ p (List.mem_of_getElem? hkp)
      have hct := hide (fun v hv => polS p.l p.d p.m x xc p.u v hv hpz.1 hpz.2.1 hpz.2.2)
      have q2 : (k : Int) < (len : Int) := by omega
      have q3 : (0 : Int) ≤ (k : Int) := by omega
      have w1 : wrap64 ((k : Int) + 1) = ((k + 1 : Nat) : Int) := by unfold wrap64; omega
      have HK : Hid (P[k]? = some p) := hkp
      have hO : polB p.l p.d p.m p.u = okP p := rfl
      rw [hO] at hct
      clear hb hT hu hpz hO hkp
      cases hO : okP p with
      | false =>
        have HE := hide (cacheB_bad (unhide HK) hO)
        rw [hO] at hct
        clear hO
        go_wp2_with fail
        refine wp_region_held (S := fun y => y.cell? ⟨b, o + k * 4, none⟩ = some (.string p.d) ∧ y.cell? ⟨b, o + k * 4 + 1, none⟩ = some (.int .i64 p.m) ∧ y.cell? ⟨b, o + k * 4 + 2, none⟩ = some (.slice x p.l.length xc) ∧ y.cell? ⟨b, o + k * 4 + 3, none⟩ = some (.int .i64 p.u)) Tryz.mixedO ?_
        have hS : (fun y : World => y.cell? ⟨b, o + k * 4, none⟩ = some (.string p.d) ∧ y.cell? ⟨b, o + k * 4 + 1, none⟩ = some (.int .i64 p.m) ∧ y.cell? ⟨b, o + k * 4 + 2, none⟩ = some (.slice x p.l.length xc) ∧ y.cell? ⟨b, o + k * 4 + 3, none⟩ = some (.int .i64 p.u)) wr.drew := ⟨c0, c1, c2, c3⟩
        show wpAnyH _ _ _ _ _ _ _ _ wr.drew
        refine wpAnyH_take (i := 0) (oi := { dst := some 10, op := Op.move (Operand.tmp 0), type := 34, pos := "l07_cache.go:20", after := #[], guard := none }) (v := ?_) rfl (by kernel_rfl) (by kernel_rfl) (by kernel_rfl) (fun _ _ _ h => h) (Or.inl ⟨by rfl, ?_⟩) hS ?_
        rotate_left
        · intro y hSy; obtain ⟨y0, y1, y2, y3⟩ := hSy; go_simp; try with_reducible rfl
        simp only [Act.put, List.setIfInBounds_toArray, List.set_cons_succ, List.set_cons_zero]
        refine wpAnyH_take (i := 1) (oi := { dst := some 11, op := Op.move (Operand.tmp 3), type := 3, pos := "l07_cache.go:20", after := #[], guard := none }) (v := ?_) rfl (by kernel_rfl) (by kernel_rfl) (by kernel_rfl) (fun _ _ _ h => h) (Or.inl ⟨by rfl, ?_⟩) hS ?_
        rotate_left
        · intro y hSy; obtain ⟨y0, y1, y2, y3⟩ := hSy; go_simp; try with_reducible rfl
        simp only [Act.put, List.setIfInBounds_toArray, List.set_cons_succ, List.set_cons_zero]
        refine wpAnyH_take (i := 2) (oi := { dst := some 12, op := Op.indexAddr 34 (Operand.tmp 10) (Operand.tmp 11), type := 0, pos := "l07_cache.go:20", after := #[{ on := 0, ground := Ground.data }, { on := 1, ground := Ground.data }], guard := none }) (v := ?_) rfl (by kernel_rfl) (by kernel_rfl) (by kernel_rfl) (fun _ _ _ h => h) (Or.inl ⟨by rfl, ?_⟩) hS ?_
        rotate_left
        · intro y hSy; obtain ⟨y0, y1, y2, y3⟩ := hSy; go_simp; try with_reducible rfl
        simp only [Act.put, List.setIfInBounds_toArray, List.set_cons_succ, List.set_cons_zero]
        refine wpAnyH_take (i := 3) (oi := { dst := some 13, op := Op.load 105 (Operand.tmp 12), type := 105, pos := "l07_cache.go:20", after := #[{ on := 2, ground := Ground.data }], guard := none }) (v := ?_) rfl (by kernel_rfl) (by kernel_rfl) (by kernel_rfl) (fun _ _ _ h => h) (Or.inl ⟨by rfl, ?_⟩) hS ?_
        rotate_left
        · intro y hSy; obtain ⟨y0, y1, y2, y3⟩ := hSy; go_simp; try with_reducible rfl
        simp only [Act.put, List.setIfInBounds_toArray, List.set_cons_succ, List.set_cons_zero]
        refine wpAnyH_all (rs := [4]) (by kernel_rfl) (by simp) ?_
        intro i hi
        simp only [List.mem_singleton] at hi
        subst hi
        refine step_call (f := 73) (fn := Tryz.f73) (d := 14) (args := #[.agg #[.string p.d, .int .i64 p.m, .slice x p.l.length xc, .int .i64 p.u]]) rfl Tryz.func73 (by kernel_rfl) (by kernel_rfl) (by simp [Act.eval]) ?_
        refine (unhide hct _ (unhide HT)).mono ?_
        rintro e w2 ⟨rfl, hb2⟩
        refine ⟨_, rfl, ?_⟩
        have hS2 : (fun y : World => y.cell? ⟨b, o + k * 4, none⟩ = some (.string p.d) ∧ y.cell? ⟨b, o + k * 4 + 1, none⟩ = some (.int .i64 p.m) ∧ y.cell? ⟨b, o + k * 4 + 2, none⟩ = some (.slice x p.l.length xc) ∧ y.cell? ⟨b, o + k * 4 + 3, none⟩ = some (.int .i64 p.u)) w2 := ⟨below_some (below_drewQ hb2) c0, below_some (below_drewQ hb2) c1, below_some (below_drewQ hb2) c2, below_some (below_drewQ hb2) c3⟩
        have HB2 := hide (btP (unhide HB) (below_drewQ hb2))
        clear hb2 hS
        refine ⟨hS2, ?_⟩
        simp only [Act.put, List.setIfInBounds_toArray, List.set_cons_succ, List.set_cons_zero]
        refine wpAnyH_take (i := 5) (oi := { dst := some 15, op := Op.unOp UnOp.not 4 (Operand.tmp 14), type := 4, pos := "l07_cache.go:20", after := #[{ on := 4, ground := Ground.data }], guard := none }) (v := ?_) rfl (by kernel_rfl) (by kernel_rfl) (by kernel_rfl) (fun _ _ _ h => h) (Or.inl ⟨by rfl, ?_⟩) hS2 ?_
        rotate_left
        · intro y hSy; obtain ⟨y0, y1, y2, y3⟩ := hSy; go_simp; try with_reducible rfl
        simp only [Act.put, List.setIfInBounds_toArray, List.set_cons_succ, List.set_cons_zero]
        refine wpAnyH_take (i := 6) (oi := { dst := some 16, op := Op.move (Operand.tmp 15), type := 4, pos := "l07_cache.go:20", after := #[{ on := 5, ground := Ground.data }, { on := 4, ground := Ground.chain }], guard := none }) (v := ?_) rfl (by kernel_rfl) (by kernel_rfl) (by kernel_rfl) (fun _ _ _ h => h) (Or.inl ⟨by rfl, ?_⟩) hS2 ?_
        rotate_left
        · intro y hSy; obtain ⟨y0, y1, y2, y3⟩ := hSy; go_simp; try with_reducible rfl
        simp only [Act.put, List.setIfInBounds_toArray, List.set_cons_succ, List.set_cons_zero]
        refine wpAnyH_take (i := 7) (oi := { dst := some 17, op := Op.move (Operand.tmp 3), type := 3, pos := "l07_cache.go:20", after := #[{ on := 6, ground := Ground.guard }], guard := some (6, false) }) (v := undef) rfl (by kernel_rfl) (by kernel_rfl) (by kernel_rfl) (fun _ _ _ h => h) (Or.inr ⟨by rfl, rfl⟩) hS2 ?_
        simp only [Act.put, List.setIfInBounds_toArray, List.set_cons_succ, List.set_cons_zero]
        refine wpAnyH_take (i := 8) (oi := { dst := some 18, op := Op.binOp BinOp.gtr 3 (Operand.tmp 17) (Operand.const (Value.int IntKind.i64 0)) 3, type := 4, pos := "l07_cache.go:20", after := #[{ on := 7, ground := Ground.data }, { on := 6, ground := Ground.guard }], guard := some (6, false) }) (v := undef) rfl (by kernel_rfl) (by kernel_rfl) (by kernel_rfl) (fun _ _ _ h => h) (Or.inr ⟨by rfl, rfl⟩) hS2 ?_
        simp only [Act.put, List.setIfInBounds_toArray, List.set_cons_succ, List.set_cons_zero]
        refine wpAnyH_take (i := 9) (oi := { dst := some 19, op := Op.move (Operand.tmp 18), type := 4, pos := "l07_cache.go:20", after := #[{ on := 8, ground := Ground.data }, { on := 6, ground := Ground.chain }, { on := 6, ground := Ground.guard }], guard := some (6, false) }) (v := undef) rfl (by kernel_rfl) (by kernel_rfl) (by kernel_rfl) (fun _ _ _ h => h) (Or.inr ⟨by rfl, rfl⟩) hS2 ?_
        simp only [Act.put, List.setIfInBounds_toArray, List.set_cons_succ, List.set_cons_zero]
        refine wpAnyH_take (i := 10) (oi := { dst := some 20, op := Op.move (Operand.tmp 0), type := 34, pos := "l07_cache.go:20", after := #[{ on := 9, ground := Ground.guard }], guard := some (9, true) }) (v := undef) rfl (by kernel_rfl) (by kernel_rfl) (by kernel_rfl) (fun _ _ _ h => h) (Or.inr ⟨by rfl, rfl⟩) hS2 ?_
        simp only [Act.put, List.setIfInBounds_toArray, List.set_cons_succ, List.set_cons_zero]
        refine wpAnyH_take (i := 11) (oi := { dst := some 21, op := Op.move (Operand.tmp 3), type := 3, pos := "l07_cache.go:20", after := #[{ on := 9, ground := Ground.guard }], guard := some (9, true) }) (v := undef) rfl (by kernel_rfl) (by kernel_rfl) (by kernel_rfl) (fun _ _ _ h => h) (Or.inr ⟨by rfl, rfl⟩) hS2 ?_
        simp only [Act.put, List.setIfInBounds_toArray, List.set_cons_succ, List.set_cons_zero]
        refine wpAnyH_take (i := 12) (oi := { dst := some 22, op := Op.binOp BinOp.sub 3 (Operand.tmp 21) (Operand.const (Value.int IntKind.i64 1)) 3, type := 3, pos := "l07_cache.go:20", after := #[{ on := 11, ground := Ground.data }, { on := 9, ground := Ground.guard }], guard := some (9, true) }) (v := undef) rfl (by kernel_rfl) (by kernel_rfl) (by kernel_rfl) (fun _ _ _ h => h) (Or.inr ⟨by rfl, rfl⟩) hS2 ?_
        simp only [Act.put, List.setIfInBounds_toArray, List.set_cons_succ, List.set_cons_zero]
        refine wpAnyH_take (i := 13) (oi := { dst := some 23, op := Op.indexAddr 34 (Operand.tmp 20) (Operand.tmp 22), type := 0, pos := "l07_cache.go:20", after := #[{ on := 10, ground := Ground.data }, { on := 12, ground := Ground.data }, { on := 9, ground := Ground.guard }], guard := some (9, true) }) (v := undef) rfl (by kernel_rfl) (by kernel_rfl) (by kernel_rfl) (fun _ _ _ h => h) (Or.inr ⟨by rfl, rfl⟩) hS2 ?_
        simp only [Act.put, List.setIfInBounds_toArray, List.set_cons_succ, List.set_cons_zero]
        refine wpAnyH_take (i := 14) (oi := { dst := some 24, op := Op.fieldAddr 105 (Operand.tmp 23) 0, type := 0, pos := "l07_cache.go:20", after := #[{ on := 13, ground := Ground.data }, { on := 9, ground := Ground.guard }], guard := some (9, true) }) (v := undef) rfl (by kernel_rfl) (by kernel_rfl) (by kernel_rfl) (fun _ _ _ h => h) (Or.inr ⟨by rfl, rfl⟩) hS2 ?_
        simp only [Act.put, List.setIfInBounds_toArray, List.set_cons_succ, List.set_cons_zero]
        refine wpAnyH_take (i := 15) (oi := { dst := some 25, op := Op.load 9 (Operand.tmp 24), type := 9, pos := "l07_cache.go:20", after := #[{ on := 14, ground := Ground.data }, { on := 9, ground := Ground.guard }], guard := some (9, true) }) (v := undef) rfl (by kernel_rfl) (by kernel_rfl) (by kernel_rfl) (fun _ _ _ h => h) (Or.inr ⟨by rfl, rfl⟩) hS2 ?_
        simp only [Act.put, List.setIfInBounds_toArray, List.set_cons_succ, List.set_cons_zero]
        refine wpAnyH_take (i := 16) (oi := { dst := some 26, op := Op.move (Operand.tmp 0), type := 34, pos := "l07_cache.go:20", after := #[{ on := 9, ground := Ground.guard }], guard := some (9, true) }) (v := undef) rfl (by kernel_rfl) (by kernel_rfl) (by kernel_rfl) (fun _ _ _ h => h) (Or.inr ⟨by rfl, rfl⟩) hS2 ?_
        simp only [Act.put, List.setIfInBounds_toArray, List.set_cons_succ, List.set_cons_zero]
        refine wpAnyH_take (i := 17) (oi := { dst := some 27, op := Op.move (Operand.tmp 3), type := 3, pos := "l07_cache.go:20", after := #[{ on := 9, ground := Ground.guard }], guard := some (9, true) }) (v := undef) rfl (by kernel_rfl) (by kernel_rfl) (by kernel_rfl) (fun _ _ _ h => h) (Or.inr ⟨by rfl, rfl⟩) hS2 ?_
        simp only [Act.put, List.setIfInBounds_toArray, List.set_cons_succ, List.set_cons_zero]
        refine wpAnyH_take (i := 18) (oi := { dst := some 28, op := Op.indexAddr 34 (Operand.tmp 26) (Operand.tmp 27), type := 0, pos := "l07_cache.go:20", after := #[{ on := 16, ground := Ground.data }, { on := 17, ground := Ground.data }, { on := 9, ground := Ground.guard }], guard := some (9, true) }) (v := undef) rfl (by kernel_rfl) (by kernel_rfl) (by kernel_rfl) (fun _ _ _ h => h) (Or.inr ⟨by rfl, rfl⟩) hS2 ?_
        simp only [Act.put, List.setIfInBounds_toArray, List.set_cons_succ, List.set_cons_zero]
        refine wpAnyH_take (i := 19) (oi := { dst := some 29, op := Op.fieldAddr 105 (Operand.tmp 28) 0, type := 0, pos := "l07_cache.go:20", after := #[{ on := 18, ground := Ground.data }, { on := 9, ground := Ground.guard }], guard := some (9, true) }) (v := undef) rfl (by kernel_rfl) (by kernel_rfl) (by kernel_rfl) (fun _ _ _ h => h) (Or.inr ⟨by rfl, rfl⟩) hS2 ?_
        simp only [Act.put, List.setIfInBounds_toArray, List.set_cons_succ, List.set_cons_zero]
        refine wpAnyH_take (i := 20) (oi := { dst := some 30, op := Op.load 9 (Operand.tmp 29), type := 9, pos := "l07_cache.go:20", after := #[{ on := 19, ground := Ground.data }, { on := 9, ground := Ground.guard }], guard := some (9, true) }) (v := undef) rfl (by kernel_rfl) (by kernel_rfl) (by kernel_rfl) (fun _ _ _ h => h) (Or.inr ⟨by rfl, rfl⟩) hS2 ?_
        simp only [Act.put, List.setIfInBounds_toArray, List.set_cons_succ, List.set_cons_zero]
        refine wpAnyH_take (i := 21) (oi := { dst := some 31, op := Op.binOp BinOp.geq 9 (Operand.tmp 25) (Operand.tmp 30) 9, type := 4, pos := "l07_cache.go:20", after := #[{ on := 15, ground := Ground.data }, { on := 20, ground := Ground.data }, { on := 9, ground := Ground.guard }], guard := some (9, true) }) (v := undef) rfl (by kernel_rfl) (by kernel_rfl) (by kernel_rfl) (fun _ _ _ h => h) (Or.inr ⟨by rfl, rfl⟩) hS2 ?_
        simp only [Act.put, List.setIfInBounds_toArray, List.set_cons_succ, List.set_cons_zero]
        refine wpAnyH_take (i := 22) (oi := { dst := some 32, op := Op.pick (Operand.tmp 19) (Operand.tmp 31) (Operand.const (Value.bool false)), type := 4, pos := "l07_cache.go:20", after := #[{ on := 9, ground := Ground.data }, { on := 21, ground := Ground.data }, { on := 6, ground := Ground.guard }], guard := some (6, false) }) (v := undef) rfl (by kernel_rfl) (by kernel_rfl) (by kernel_rfl) (fun _ _ _ h => h) (Or.inr ⟨by rfl, rfl⟩) hS2 ?_
        simp only [Act.put, List.setIfInBounds_toArray, List.set_cons_succ, List.set_cons_zero]
        refine wpAnyH_take (i := 23) (oi := { dst := some 33, op := Op.pick (Operand.tmp 16) (Operand.const (Value.bool true)) (Operand.tmp 32), type := 4, pos := "l07_cache.go:20", after := #[{ on := 6, ground := Ground.data }, { on := 22, ground := Ground.data }], guard := none }) (v := ?_) rfl (by kernel_rfl) (by kernel_rfl) (by kernel_rfl) (fun _ _ _ h => h) (Or.inl ⟨by rfl, ?_⟩) hS2 ?_
        rotate_left
        · intro y hSy; obtain ⟨y0, y1, y2, y3⟩ := hSy; go_simp; try with_reducible rfl
        simp only [Act.put, List.setIfInBounds_toArray, List.set_cons_succ, List.set_cons_zero]
        refine wpAnyH_done (by kernel_rfl) ?_ _
        all_goals
          go_wp2_with fail
          go_ret
          exact ⟨retB (unhide HE), unhide HB2⟩
      | true =>
        rw [hO] at hct
        rcases Nat.eq_zero_or_pos k with rfl | hkp
        · have HN := hide (upTo.one (unhide HK) hO)
          clear hO
          go_wp2_with fail
          rw [Nat.zero_mul, Nat.add_zero] at c0 c1 c2 c3
          refine wp_region_held (S := fun y => y.cell? ⟨b, o, none⟩ = some (.string p.d) ∧ y.cell? ⟨b, o + 1, none⟩ = some (.int .i64 p.m) ∧ y.cell? ⟨b, o + 2, none⟩ = some (.slice x p.l.length xc) ∧ y.cell? ⟨b, o + 3, none⟩ = some (.int .i64 p.u)) Tryz.mixedO ?_
          have hS : (fun y : World => y.cell? ⟨b, o, none⟩ = some (.string p.d) ∧ y.cell? ⟨b, o + 1, none⟩ = some (.int .i64 p.m) ∧ y.cell? ⟨b, o + 2, none⟩ = some (.slice x p.l.length xc) ∧ y.cell? ⟨b, o + 3, none⟩ = some (.int .i64 p.u)) wr.drew := ⟨c0, c1, c2, c3⟩
          show wpAnyH _ _ _ _ _ _ _ _ wr.drew
          refine wpAnyH_take (i := 0) (oi := { dst := some 10, op := Op.move (Operand.tmp 0), type := 34, pos := "l07_cache.go:20", after := #[], guard := none }) (v := ?_) rfl (by kernel_rfl) (by kernel_rfl) (by kernel_rfl) (fun _ _ _ h => h) (Or.inl ⟨by rfl, ?_⟩) hS ?_
          rotate_left
          · intro y hSy; obtain ⟨y0, y1, y2, y3⟩ := hSy; go_simp; try with_reducible rfl
          simp only [Act.put, List.setIfInBounds_toArray, List.set_cons_succ, List.set_cons_zero]
          refine wpAnyH_take (i := 1) (oi := { dst := some 11, op := Op.move (Operand.tmp 3), type := 3, pos := "l07_cache.go:20", after := #[], guard := none }) (v := ?_) rfl (by kernel_rfl) (by kernel_rfl) (by kernel_rfl) (fun _ _ _ h => h) (Or.inl ⟨by rfl, ?_⟩) hS ?_
          rotate_left
          · intro y hSy; obtain ⟨y0, y1, y2, y3⟩ := hSy; go_simp; try with_reducible rfl
          simp only [Act.put, List.setIfInBounds_toArray, List.set_cons_succ, List.set_cons_zero]
          refine wpAnyH_take (i := 2) (oi := { dst := some 12, op := Op.indexAddr 34 (Operand.tmp 10) (Operand.tmp 11), type := 0, pos := "l07_cache.go:20", after := #[{ on := 0, ground := Ground.data }, { on := 1, ground := Ground.data }], guard := none }) (v := ?_) rfl (by kernel_rfl) (by kernel_rfl) (by kernel_rfl) (fun _ _ _ h => h) (Or.inl ⟨by rfl, ?_⟩) hS ?_
          rotate_left
          · intro y hSy; obtain ⟨y0, y1, y2, y3⟩ := hSy; go_simp; try with_reducible rfl
          simp only [Act.put, List.setIfInBounds_toArray, List.set_cons_succ, List.set_cons_zero]
          refine wpAnyH_take (i := 3) (oi := { dst := some 13, op := Op.load 105 (Operand.tmp 12), type := 105, pos := "l07_cache.go:20", after := #[{ on := 2, ground := Ground.data }], guard := none }) (v := ?_) rfl (by kernel_rfl) (by kernel_rfl) (by kernel_rfl) (fun _ _ _ h => h) (Or.inl ⟨by rfl, ?_⟩) hS ?_
          rotate_left
          · intro y hSy; obtain ⟨y0, y1, y2, y3⟩ := hSy; go_simp; try with_reducible rfl
          simp only [Act.put, List.setIfInBounds_toArray, List.set_cons_succ, List.set_cons_zero]
          refine wpAnyH_all (rs := [4]) (by kernel_rfl) (by simp) ?_
          intro i hi
          simp only [List.mem_singleton] at hi
          subst hi
          refine step_call (f := 73) (fn := Tryz.f73) (d := 14) (args := #[.agg #[.string p.d, .int .i64 p.m, .slice x p.l.length xc, .int .i64 p.u]]) rfl Tryz.func73 (by kernel_rfl) (by kernel_rfl) (by simp [Act.eval]) ?_
          refine (unhide hct _ (unhide HT)).mono ?_
          rintro e w2 ⟨rfl, hb2⟩
          refine ⟨_, rfl, ?_⟩
          have hS2 : (fun y : World => y.cell? ⟨b, o, none⟩ = some (.string p.d) ∧ y.cell? ⟨b, o + 1, none⟩ = some (.int .i64 p.m) ∧ y.cell? ⟨b, o + 2, none⟩ = some (.slice x p.l.length xc) ∧ y.cell? ⟨b, o + 3, none⟩ = some (.int .i64 p.u)) w2 := ⟨below_some (below_drewQ hb2) c0, below_some (below_drewQ hb2) c1, below_some (below_drewQ hb2) c2, below_some (below_drewQ hb2) c3⟩
          have HB2 := hide (btP (unhide HB) (below_drewQ hb2))
          clear hb2 hS
          refine ⟨hS2, ?_⟩
          simp only [Act.put, List.setIfInBounds_toArray, List.set_cons_succ, List.set_cons_zero]
          refine wpAnyH_take (i := 5) (oi := { dst := some 15, op := Op.unOp UnOp.not 4 (Operand.tmp 14), type := 4, pos := "l07_cache.go:20", after := #[{ on := 4, ground := Ground.data }], guard := none }) (v := ?_) rfl (by kernel_rfl) (by kernel_rfl) (by kernel_rfl) (fun _ _ _ h => h) (Or.inl ⟨by rfl, ?_⟩) hS2 ?_
          rotate_left
          · intro y hSy; obtain ⟨y0, y1, y2, y3⟩ := hSy; go_simp; try with_reducible rfl
          simp only [Act.put, List.setIfInBounds_toArray, List.set_cons_succ, List.set_cons_zero]
          refine wpAnyH_take (i := 6) (oi := { dst := some 16, op := Op.move (Operand.tmp 15), type := 4, pos := "l07_cache.go:20", after := #[{ on := 5, ground := Ground.data }, { on := 4, ground := Ground.chain }], guard := none }) (v := ?_) rfl (by kernel_rfl) (by kernel_rfl) (by kernel_rfl) (fun _ _ _ h => h) (Or.inl ⟨by rfl, ?_⟩) hS2 ?_
          rotate_left
          · intro y hSy; obtain ⟨y0, y1, y2, y3⟩ := hSy; go_simp; try with_reducible rfl
          simp only [Act.put, List.setIfInBounds_toArray, List.set_cons_succ, List.set_cons_zero]
          refine wpAnyH_take (i := 7) (oi := { dst := some 17, op := Op.move (Operand.tmp 3), type := 3, pos := "l07_cache.go:20", after := #[{ on := 6, ground := Ground.guard }], guard := some (6, false) }) (v := ?_) rfl (by kernel_rfl) (by kernel_rfl) (by kernel_rfl) (fun _ _ _ h => h) (Or.inl ⟨by rfl, ?_⟩) hS2 ?_
          rotate_left
          · intro y hSy; obtain ⟨y0, y1, y2, y3⟩ := hSy; go_simp; try with_reducible rfl
          simp only [Act.put, List.setIfInBounds_toArray, List.set_cons_succ, List.set_cons_zero]
          refine wpAnyH_take (i := 8) (oi := { dst := some 18, op := Op.binOp BinOp.gtr 3 (Operand.tmp 17) (Operand.const (Value.int IntKind.i64 0)) 3, type := 4, pos := "l07_cache.go:20", after := #[{ on := 7, ground := Ground.data }, { on := 6, ground := Ground.guard }], guard := some (6, false) }) (v := ?_) rfl (by kernel_rfl) (by kernel_rfl) (by kernel_rfl) (fun _ _ _ h => h) (Or.inl ⟨by rfl, ?_⟩) hS2 ?_
          rotate_left
          · intro y hSy; obtain ⟨y0, y1, y2, y3⟩ := hSy; go_simp; try with_reducible rfl
          simp only [Act.put, List.setIfInBounds_toArray, List.set_cons_succ, List.set_cons_zero]
          refine wpAnyH_take (i := 9) (oi := { dst := some 19, op := Op.move (Operand.tmp 18), type := 4, pos := "l07_cache.go:20", after := #[{ on := 8, ground := Ground.data }, { on := 6, ground := Ground.chain }, { on := 6, ground := Ground.guard }], guard := some (6, false) }) (v := ?_) rfl (by kernel_rfl) (by kernel_rfl) (by kernel_rfl) (fun _ _ _ h => h) (Or.inl ⟨by rfl, ?_⟩) hS2 ?_
          rotate_left
          · intro y hSy; obtain ⟨y0, y1, y2, y3⟩ := hSy; go_simp; try with_reducible rfl
          simp only [Act.put, List.setIfInBounds_toArray, List.set_cons_succ, List.set_cons_zero]
          refine wpAnyH_take (i := 10) (oi := { dst := some 20, op := Op.move (Operand.tmp 0), type := 34, pos := "l07_cache.go:20", after := #[{ on := 9, ground := Ground.guard }], guard := some (9, true) }) (v := undef) rfl (by kernel_rfl) (by kernel_rfl) (by kernel_rfl) (fun _ _ _ h => h) (Or.inr ⟨by rfl, rfl⟩) hS2 ?_
          simp only [Act.put, List.setIfInBounds_toArray, List.set_cons_succ, List.set_cons_zero]
          refine wpAnyH_take (i := 11) (oi := { dst := some 21, op := Op.move (Operand.tmp 3), type := 3, pos := "l07_cache.go:20", after := #[{ on := 9, ground := Ground.guard }], guard := some (9, true) }) (v := undef) rfl (by kernel_rfl) (by kernel_rfl) (by kernel_rfl) (fun _ _ _ h => h) (Or.inr ⟨by rfl, rfl⟩) hS2 ?_
          simp only [Act.put, List.setIfInBounds_toArray, List.set_cons_succ, List.set_cons_zero]
          refine wpAnyH_take (i := 12) (oi := { dst := some 22, op := Op.binOp BinOp.sub 3 (Operand.tmp 21) (Operand.const (Value.int IntKind.i64 1)) 3, type := 3, pos := "l07_cache.go:20", after := #[{ on := 11, ground := Ground.data }, { on := 9, ground := Ground.guard }], guard := some (9, true) }) (v := undef) rfl (by kernel_rfl) (by kernel_rfl) (by kernel_rfl) (fun _ _ _ h => h) (Or.inr ⟨by rfl, rfl⟩) hS2 ?_
          simp only [Act.put, List.setIfInBounds_toArray, List.set_cons_succ, List.set_cons_zero]
          refine wpAnyH_take (i := 13) (oi := { dst := some 23, op := Op.indexAddr 34 (Operand.tmp 20) (Operand.tmp 22), type := 0, pos := "l07_cache.go:20", after := #[{ on := 10, ground := Ground.data }, { on := 12, ground := Ground.data }, { on := 9, ground := Ground.guard }], guard := some (9, true) }) (v := undef) rfl (by kernel_rfl) (by kernel_rfl) (by kernel_rfl) (fun _ _ _ h => h) (Or.inr ⟨by rfl, rfl⟩) hS2 ?_
          simp only [Act.put, List.setIfInBounds_toArray, List.set_cons_succ, List.set_cons_zero]
          refine wpAnyH_take (i := 14) (oi := { dst := some 24, op := Op.fieldAddr 105 (Operand.tmp 23) 0, type := 0, pos := "l07_cache.go:20", after := #[{ on := 13, ground := Ground.data }, { on := 9, ground := Ground.guard }], guard := some (9, true) }) (v := undef) rfl (by kernel_rfl) (by kernel_rfl) (by kernel_rfl) (fun _ _ _ h => h) (Or.inr ⟨by rfl, rfl⟩) hS2 ?_
          simp only [Act.put, List.setIfInBounds_toArray, List.set_cons_succ, List.set_cons_zero]
          refine wpAnyH_take (i := 15) (oi := { dst := some 25, op := Op.load 9 (Operand.tmp 24), type := 9, pos := "l07_cache.go:20", after := #[{ on := 14, ground := Ground.data }, { on := 9, ground := Ground.guard }], guard := some (9, true) }) (v := undef) rfl (by kernel_rfl) (by kernel_rfl) (by kernel_rfl) (fun _ _ _ h => h) (Or.inr ⟨by rfl, rfl⟩) hS2 ?_
          simp only [Act.put, List.setIfInBounds_toArray, List.set_cons_succ, List.set_cons_zero]
          refine wpAnyH_take (i := 16) (oi := { dst := some 26, op := Op.move (Operand.tmp 0), type := 34, pos := "l07_cache.go:20", after := #[{ on := 9, ground := Ground.guard }], guard := some (9, true) }) (v := undef) rfl (by kernel_rfl) (by kernel_rfl) (by kernel_rfl) (fun _ _ _ h => h) (Or.inr ⟨by rfl, rfl⟩) hS2 ?_
          simp only [Act.put, List.setIfInBounds_toArray, List.set_cons_succ, List.set_cons_zero]
          refine wpAnyH_take (i := 17) (oi := { dst := some 27, op := Op.move (Operand.tmp 3), type := 3, pos := "l07_cache.go:20", after := #[{ on := 9, ground := Ground.guard }], guard := some (9, true) }) (v := undef) rfl (by kernel_rfl) (by kernel_rfl) (by kernel_rfl) (fun _ _ _ h => h) (Or.inr ⟨by rfl, rfl⟩) hS2 ?_
          simp only [Act.put, List.setIfInBounds_toArray, List.set_cons_succ, List.set_cons_zero]
          refine wpAnyH_take (i := 18) (oi := { dst := some 28, op := Op.indexAddr 34 (Operand.tmp 26) (Operand.tmp 27), type := 0, pos := "l07_cache.go:20", after := #[{ on := 16, ground := Ground.data }, { on := 17, ground := Ground.data }, { on := 9, ground := Ground.guard }], guard := some (9, true) }) (v := undef) rfl (by kernel_rfl) (by kernel_rfl) (by kernel_rfl) (fun _ _ _ h => h) (Or.inr ⟨by rfl, rfl⟩) hS2 ?_
          simp only [Act.put, List.setIfInBounds_toArray, List.set_cons_succ, List.set_cons_zero]
          refine wpAnyH_take (i := 19) (oi := { dst := some 29, op := Op.fieldAddr 105 (Operand.tmp 28) 0, type := 0, pos := "l07_cache.go:20", after := #[{ on := 18, ground := Ground.data }, { on := 9, ground := Ground.guard }], guard := some (9, true) }) (v := undef) rfl (by kernel_rfl) (by kernel_rfl) (by kernel_rfl) (fun _ _ _ h => h) (Or.inr ⟨by rfl, rfl⟩) hS2 ?_
          simp only [Act.put, List.setIfInBounds_toArray, List.set_cons_succ, List.set_cons_zero]
          refine wpAnyH_take (i := 20) (oi := { dst := some 30, op := Op.load 9 (Operand.tmp 29), type := 9, pos := "l07_cache.go:20", after := #[{ on := 19, ground := Ground.data }, { on := 9, ground := Ground.guard }], guard := some (9, true) }) (v := undef) rfl (by kernel_rfl) (by kernel_rfl) (by kernel_rfl) (fun _ _ _ h => h) (Or.inr ⟨by rfl, rfl⟩) hS2 ?_
          simp only [Act.put, List.setIfInBounds_toArray, List.set_cons_succ, List.set_cons_zero]
          refine wpAnyH_take (i := 21) (oi := { dst := some 31, op := Op.binOp BinOp.geq 9 (Operand.tmp 25) (Operand.tmp 30) 9, type := 4, pos := "l07_cache.go:20", after := #[{ on := 15, ground := Ground.data }, { on := 20, ground := Ground.data }, { on := 9, ground := Ground.guard }], guard := some (9, true) }) (v := undef) rfl (by kernel_rfl) (by kernel_rfl) (by kernel_rfl) (fun _ _ _ h => h) (Or.inr ⟨by rfl, rfl⟩) hS2 ?_
          simp only [Act.put, List.setIfInBounds_toArray, List.set_cons_succ, List.set_cons_zero]
          refine wpAnyH_take (i := 22) (oi := { dst := some 32, op := Op.pick (Operand.tmp 19) (Operand.tmp 31) (Operand.const (Value.bool false)), type := 4, pos := "l07_cache.go:20", after := #[{ on := 9, ground := Ground.data }, { on := 21, ground := Ground.data }, { on := 6, ground := Ground.guard }], guard := some (6, false) }) (v := ?_) rfl (by kernel_rfl) (by kernel_rfl) (by kernel_rfl) (fun _ _ _ h => h) (Or.inl ⟨by rfl, ?_⟩) hS2 ?_
          rotate_left
          · intro y hSy; obtain ⟨y0, y1, y2, y3⟩ := hSy; go_simp; try with_reducible rfl
          simp only [Act.put, List.setIfInBounds_toArray, List.set_cons_succ, List.set_cons_zero]
          refine wpAnyH_take (i := 23) (oi := { dst := some 33, op := Op.pick (Operand.tmp 16) (Operand.const (Value.bool true)) (Operand.tmp 32), type := 4, pos := "l07_cache.go:20", after := #[{ on := 6, ground := Ground.data }, { on := 22, ground := Ground.data }], guard := none }) (v := ?_) rfl (by kernel_rfl) (by kernel_rfl) (by kernel_rfl) (fun _ _ _ h => h) (Or.inl ⟨by rfl, ?_⟩) hS2 ?_
          rotate_left
          · intro y hSy; obtain ⟨y0, y1, y2, y3⟩ := hSy; go_simp; try with_reducible rfl
          simp only [Act.put, List.setIfInBounds_toArray, List.set_cons_succ, List.set_cons_zero]
          refine wpAnyH_done (by kernel_rfl) ?_ _
          all_goals
            go_wp2_with fail
            go_roundw
            case rel => exact ⟨0 + 1, rfl, unhide HB2, by omega, unhide HN⟩
            case measure => simp only [intOf]; omega
        · obtain ⟨j, hkj⟩ : ∃ j, k = j + 1 := ⟨k - 1, by omega⟩
          have HKJ := hide hkj
          obtain ⟨q, hjq⟩ : ∃ q, P[j]? = some q := ⟨_, List.getElem?_eq_getElem (by omega)⟩
          obtain ⟨b', o', x', xc', e', -, -, g0, g1, g2, g3, -⟩ := ((unhide H).on (unhide HB)).elem hjq
          simp only [Option.some.injEq, Addr.mk.injEq, and_true] at e'
          obtain ⟨rfl, rfl⟩ := e'
          have w3 : wrap64 ((k : Int) - 1) = (j : Int) := by unfold wrap64; omega
          have w4 : IntKind.i64.wrap ((k : Int) - 1) = (j : Int) := (IntWalk.i64_in _ ⟨by omega, by omega⟩).trans (by omega)
          have q4 : (0 : Int) < (k : Int) := by omega
          have q5 : (0 : Int) ≤ (j : Int) := by omega
          have q6 : (j : Int) < (len : Int) := by omega
          clear g1 g2 g3
          cases hLT : ltD q p with
          | true =>
            have HN : Hid (upTo P (k + 1)) := by
              have hu := unhide HU
              have hkk := unhide HK
              rw [hkj] at hu hkk
              show upTo P (k + 1)
              rw [hkj]
              exact hu.next hjq hkk hO hLT
            unfold ltD at hLT
            have hgq : ∀ y, (binOp BinOp.geq 9 (.string q.d) (.string p.d)).run Tryz.prog y = .ok (.bool false) y := fun y => by rw [run_geqS, hLT]; rfl
            clear hO hjq hkj
            go_wp2_with fail
            refine wp_region_held (S := fun y => y.cell? ⟨b, o + k * 4, none⟩ = some (.string p.d) ∧ y.cell? ⟨b, o + k * 4 + 1, none⟩ = some (.int .i64 p.m) ∧ y.cell? ⟨b, o + k * 4 + 2, none⟩ = some (.slice x p.l.length xc) ∧ y.cell? ⟨b, o + k * 4 + 3, none⟩ = some (.int .i64 p.u) ∧ y.cell? ⟨b, o + j * 4, none⟩ = some (.string q.d)) Tryz.mixedO ?_
            have hS : (fun y : World => y.cell? ⟨b, o + k * 4, none⟩ = some (.string p.d) ∧ y.cell? ⟨b, o + k * 4 + 1, none⟩ = some (.int .i64 p.m) ∧ y.cell? ⟨b, o + k * 4 + 2, none⟩ = some (.slice x p.l.length xc) ∧ y.cell? ⟨b, o + k * 4 + 3, none⟩ = some (.int .i64 p.u) ∧ y.cell? ⟨b, o + j * 4, none⟩ = some (.string q.d)) wr.drew := ⟨c0, c1, c2, c3, g0⟩
            show wpAnyH _ _ _ _ _ _ _ _ wr.drew
            refine wpAnyH_take (i := 0) (oi := { dst := some 10, op := Op.move (Operand.tmp 0), type := 34, pos := "l07_cache.go:20", after := #[], guard := none }) (v := ?_) rfl (by kernel_rfl) (by kernel_rfl) (by kernel_rfl) (fun _ _ _ h => h) (Or.inl ⟨by rfl, ?_⟩) hS ?_
            rotate_left
            · intro y hSy; obtain ⟨y0, y1, y2, y3, y4⟩ := hSy; go_simp; try with_reducible rfl
            simp only [Act.put, List.setIfInBounds_toArray, List.set_cons_succ, List.set_cons_zero]
            refine wpAnyH_take (i := 1) (oi := { dst := some 11, op := Op.move (Operand.tmp 3), type := 3, pos := "l07_cache.go:20", after := #[], guard := none }) (v := ?_) rfl (by kernel_rfl) (by kernel_rfl) (by kernel_rfl) (fun _ _ _ h => h) (Or.inl ⟨by rfl, ?_⟩) hS ?_
            rotate_left
            · intro y hSy; obtain ⟨y0, y1, y2, y3, y4⟩ := hSy; go_simp; try with_reducible rfl
            simp only [Act.put, List.setIfInBounds_toArray, List.set_cons_succ, List.set_cons_zero]
            refine wpAnyH_take (i := 2) (oi := { dst := some 12, op := Op.indexAddr 34 (Operand.tmp 10) (Operand.tmp 11), type := 0, pos := "l07_cache.go:20", after := #[{ on := 0, ground := Ground.data }, { on := 1, ground := Ground.data }], guard := none }) (v := ?_) rfl (by kernel_rfl) (by kernel_rfl) (by kernel_rfl) (fun _ _ _ h => h) (Or.inl ⟨by rfl, ?_⟩) hS ?_
            rotate_left
            · intro y hSy; obtain ⟨y0, y1, y2, y3, y4⟩ := hSy; go_simp; try with_reducible rfl
            simp only [Act.put, List.setIfInBounds_toArray, List.set_cons_succ, List.set_cons_zero]
            refine wpAnyH_take (i := 3) (oi := { dst := some 13, op := Op.load 105 (Operand.tmp 12), type := 105, pos := "l07_cache.go:20", after := #[{ on := 2, ground := Ground.data }], guard := none }) (v := ?_) rfl (by kernel_rfl) (by kernel_rfl) (by kernel_rfl) (fun _ _ _ h => h) (Or.inl ⟨by rfl, ?_⟩) hS ?_
            rotate_left
            · intro y hSy; obtain ⟨y0, y1, y2, y3, y4⟩ := hSy; go_simp; try with_reducible rfl
            simp only [Act.put, List.setIfInBounds_toArray, List.set_cons_succ, List.set_cons_zero]
            refine wpAnyH_all (rs := [4]) (by kernel_rfl) (by simp) ?_
            intro i hi
            simp only [List.mem_singleton] at hi
            subst hi
            refine step_call (f := 73) (fn := Tryz.f73) (d := 14) (args := #[.agg #[.string p.d, .int .i64 p.m, .slice x p.l.length xc, .int .i64 p.u]]) rfl Tryz.func73 (by kernel_rfl) (by kernel_rfl) (by simp [Act.eval]) ?_
            refine (unhide hct _ (unhide HT)).mono ?_
            rintro e w2 ⟨rfl, hb2⟩
            refine ⟨_, rfl, ?_⟩
            have hS2 : (fun y : World => y.cell? ⟨b, o + k * 4, none⟩ = some (.string p.d) ∧ y.cell? ⟨b, o + k * 4 + 1, none⟩ = some (.int .i64 p.m) ∧ y.cell? ⟨b, o + k * 4 + 2, none⟩ = some (.slice x p.l.length xc) ∧ y.cell? ⟨b, o + k * 4 + 3, none⟩ = some (.int .i64 p.u) ∧ y.cell? ⟨b, o + j * 4, none⟩ = some (.string q.d)) w2 := ⟨below_some (below_drewQ hb2) c0, below_some (below_drewQ hb2) c1, below_some (below_drewQ hb2) c2, below_some (below_drewQ hb2) c3, below_some (below_drewQ hb2) g0⟩
            have HB2 := hide (btP (unhide HB) (below_drewQ hb2))
            clear hb2 hS
            refine ⟨hS2, ?_⟩
            simp only [Act.put, List.setIfInBounds_toArray, List.set_cons_succ, List.set_cons_zero]
            refine wpAnyH_take (i := 5) (oi := { dst := some 15, op := Op.unOp UnOp.not 4 (Operand.tmp 14), type := 4, pos := "l07_cache.go:20", after := #[{ on := 4, ground := Ground.data }], guard := none }) (v := ?_) rfl (by kernel_rfl) (by kernel_rfl) (by kernel_rfl) (fun _ _ _ h => h) (Or.inl ⟨by rfl, ?_⟩) hS2 ?_
            rotate_left
            · intro y hSy; obtain ⟨y0, y1, y2, y3, y4⟩ := hSy; go_simp; try with_reducible rfl
            simp only [Act.put, List.setIfInBounds_toArray, List.set_cons_succ, List.set_cons_zero]
            refine wpAnyH_take (i := 6) (oi := { dst := some 16, op := Op.move (Operand.tmp 15), type := 4, pos := "l07_cache.go:20", after := #[{ on := 5, ground := Ground.data }, { on := 4, ground := Ground.chain }], guard := none }) (v := ?_) rfl (by kernel_rfl) (by kernel_rfl) (by kernel_rfl) (fun _ _ _ h => h) (Or.inl ⟨by rfl, ?_⟩) hS2 ?_
            rotate_left
            · intro y hSy; obtain ⟨y0, y1, y2, y3, y4⟩ := hSy; go_simp; try with_reducible rfl
            simp only [Act.put, List.setIfInBounds_toArray, List.set_cons_succ, List.set_cons_zero]
            refine wpAnyH_take (i := 7) (oi := { dst := some 17, op := Op.move (Operand.tmp 3), type := 3, pos := "l07_cache.go:20", after := #[{ on := 6, ground := Ground.guard }], guard := some (6, false) }) (v := ?_) rfl (by kernel_rfl) (by kernel_rfl) (by kernel_rfl) (fun _ _ _ h => h) (Or.inl ⟨by rfl, ?_⟩) hS2 ?_
            rotate_left
            · intro y hSy; obtain ⟨y0, y1, y2, y3, y4⟩ := hSy; go_simp; try with_reducible rfl
            simp only [Act.put, List.setIfInBounds_toArray, List.set_cons_succ, List.set_cons_zero]
            refine wpAnyH_take (i := 8) (oi := { dst := some 18, op := Op.binOp BinOp.gtr 3 (Operand.tmp 17) (Operand.const (Value.int IntKind.i64 0)) 3, type := 4, pos := "l07_cache.go:20", after := #[{ on := 7, ground := Ground.data }, { on := 6, ground := Ground.guard }], guard := some (6, false) }) (v := ?_) rfl (by kernel_rfl) (by kernel_rfl) (by kernel_rfl) (fun _ _ _ h => h) (Or.inl ⟨by rfl, ?_⟩) hS2 ?_
            rotate_left
            · intro y hSy; obtain ⟨y0, y1, y2, y3, y4⟩ := hSy; go_simp; try with_reducible rfl
            simp only [Act.put, List.setIfInBounds_toArray, List.set_cons_succ, List.set_cons_zero]
            refine wpAnyH_take (i := 9) (oi := { dst := some 19, op := Op.move (Operand.tmp 18), type := 4, pos := "l07_cache.go:20", after := #[{ on := 8, ground := Ground.data }, { on := 6, ground := Ground.chain }, { on := 6, ground := Ground.guard }], guard := some (6, false) }) (v := ?_) rfl (by kernel_rfl) (by kernel_rfl) (by kernel_rfl) (fun _ _ _ h => h) (Or.inl ⟨by rfl, ?_⟩) hS2 ?_
            rotate_left
            · intro y hSy; obtain ⟨y0, y1, y2, y3, y4⟩ := hSy; go_simp; try with_reducible rfl
            simp only [Act.put, List.setIfInBounds_toArray, List.set_cons_succ, List.set_cons_zero]
            refine wpAnyH_take (i := 10) (oi := { dst := some 20, op := Op.move (Operand.tmp 0), type := 34, pos := "l07_cache.go:20", after := #[{ on := 9, ground := Ground.guard }], guard := some (9, true) }) (v := ?_) rfl (by kernel_rfl) (by kernel_rfl) (by kernel_rfl) (fun _ _ _ h => h) (Or.inl ⟨by rfl, ?_⟩) hS2 ?_
            rotate_left
            · intro y hSy; obtain ⟨y0, y1, y2, y3, y4⟩ := hSy; go_simp; try with_reducible rfl
            simp only [Act.put, List.setIfInBounds_toArray, List.set_cons_succ, List.set_cons_zero]
            refine wpAnyH_take (i := 11) (oi := { dst := some 21, op := Op.move (Operand.tmp 3), type := 3, pos := "l07_cache.go:20", after := #[{ on := 9, ground := Ground.guard }], guard := some (9, true) }) (v := ?_) rfl (by kernel_rfl) (by kernel_rfl) (by kernel_rfl) (fun _ _ _ h => h) (Or.inl ⟨by rfl, ?_⟩) hS2 ?_
            rotate_left
            · intro y hSy; obtain ⟨y0, y1, y2, y3, y4⟩ := hSy; go_simp; try with_reducible rfl
            simp only [Act.put, List.setIfInBounds_toArray, List.set_cons_succ, List.set_cons_zero]
            refine wpAnyH_take (i := 12) (oi := { dst := some 22, op := Op.binOp BinOp.sub 3 (Operand.tmp 21) (Operand.const (Value.int IntKind.i64 1)) 3, type := 3, pos := "l07_cache.go:20", after := #[{ on := 11, ground := Ground.data }, { on := 9, ground := Ground.guard }], guard := some (9, true) }) (v := ?_) rfl (by kernel_rfl) (by kernel_rfl) (by kernel_rfl) (fun _ _ _ h => h) (Or.inl ⟨by rfl, ?_⟩) hS2 ?_
            rotate_left
            · intro y hSy; obtain ⟨y0, y1, y2, y3, y4⟩ := hSy; go_simp; try with_reducible rfl
            simp only [Act.put, List.setIfInBounds_toArray, List.set_cons_succ, List.set_cons_zero]
            refine wpAnyH_take (i := 13) (oi := { dst := some 23, op := Op.indexAddr 34 (Operand.tmp 20) (Operand.tmp 22), type := 0, pos := "l07_cache.go:20", after := #[{ on := 10, ground := Ground.data }, { on := 12, ground := Ground.data }, { on := 9, ground := Ground.guard }], guard := some (9, true) }) (v := ?_) rfl (by kernel_rfl) (by kernel_rfl) (by kernel_rfl) (fun _ _ _ h => h) (Or.inl ⟨by rfl, ?_⟩) hS2 ?_
            rotate_left
            · intro y hSy; obtain ⟨y0, y1, y2, y3, y4⟩ := hSy; go_simp; try with_reducible rfl
            simp only [Act.put, List.setIfInBounds_toArray, List.set_cons_succ, List.set_cons_zero]
            refine wpAnyH_take (i := 14) (oi := { dst := some 24, op := Op.fieldAddr 105 (Operand.tmp 23) 0, type := 0, pos := "l07_cache.go:20", after := #[{ on := 13, ground := Ground.data }, { on := 9, ground := Ground.guard }], guard := some (9, true) }) (v := ?_) rfl (by kernel_rfl) (by kernel_rfl) (by kernel_rfl) (fun _ _ _ h => h) (Or.inl ⟨by rfl, ?_⟩) hS2 ?_
            rotate_left
            · intro y hSy; obtain ⟨y0, y1, y2, y3, y4⟩ := hSy; go_simp; try with_reducible rfl
            simp only [Act.put, List.setIfInBounds_toArray, List.set_cons_succ, List.set_cons_zero]
            refine wpAnyH_take (i := 15) (oi := { dst := some 25, op := Op.load 9 (Operand.tmp 24), type := 9, pos := "l07_cache.go:20", after := #[{ on := 14, ground := Ground.data }, { on := 9, ground := Ground.guard }], guard := some (9, true) }) (v := ?_) rfl (by kernel_rfl) (by kernel_rfl) (by kernel_rfl) (fun _ _ _ h => h) (Or.inl ⟨by rfl, ?_⟩) hS2 ?_
            rotate_left
            · intro y hSy; obtain ⟨y0, y1, y2, y3, y4⟩ := hSy; go_simp; try with_reducible rfl
            simp only [Act.put, List.setIfInBounds_toArray, List.set_cons_succ, List.set_cons_zero]
            refine wpAnyH_take (i := 16) (oi := { dst := some 26, op := Op.move (Operand.tmp 0), type := 34, pos := "l07_cache.go:20", after := #[{ on := 9, ground := Ground.guard }], guard := some (9, true) }) (v := ?_) rfl (by kernel_rfl) (by kernel_rfl) (by kernel_rfl) (fun _ _ _ h => h) (Or.inl ⟨by rfl, ?_⟩) hS2 ?_
            rotate_left
            · intro y hSy; obtain ⟨y0, y1, y2, y3, y4⟩ := hSy; go_simp; try with_reducible rfl
            simp only [Act.put, List.setIfInBounds_toArray, List.set_cons_succ, List.set_cons_zero]
            refine wpAnyH_take (i := 17) (oi := { dst := some 27, op := Op.move (Operand.tmp 3), type := 3, pos := "l07_cache.go:20", after := #[{ on := 9, ground := Ground.guard }], guard := some (9, true) }) (v := ?_) rfl (by kernel_rfl) (by kernel_rfl) (by kernel_rfl) (fun _ _ _ h => h) (Or.inl ⟨by rfl, ?_⟩) hS2 ?_
            rotate_left
            · intro y hSy; obtain ⟨y0, y1, y2, y3, y4⟩ := hSy; go_simp; try with_reducible rfl
            simp only [Act.put, List.setIfInBounds_toArray, List.set_cons_succ, List.set_cons_zero]
            refine wpAnyH_take (i := 18) (oi := { dst := some 28, op := Op.indexAddr 34 (Operand.tmp 26) (Operand.tmp 27), type := 0, pos := "l07_cache.go:20", after := #[{ on := 16, ground := Ground.data }, { on := 17, ground := Ground.data }, { on := 9, ground := Ground.guard }], guard := some (9, true) }) (v := ?_) rfl (by kernel_rfl) (by kernel_rfl) (by kernel_rfl) (fun _ _ _ h => h) (Or.inl ⟨by rfl, ?_⟩) hS2 ?_
            rotate_left
            · intro y hSy; obtain ⟨y0, y1, y2, y3, y4⟩ := hSy; go_simp; try with_reducible rfl
            simp only [Act.put, List.setIfInBounds_toArray, List.set_cons_succ, List.set_cons_zero]
            refine wpAnyH_take (i := 19) (oi := { dst := some 29, op := Op.fieldAddr 105 (Operand.tmp 28) 0, type := 0, pos := "l07_cache.go:20", after := #[{ on := 18, ground := Ground.data }, { on := 9, ground := Ground.guard }], guard := some (9, true) }) (v := ?_) rfl (by kernel_rfl) (by kernel_rfl) (by kernel_rfl) (fun _ _ _ h => h) (Or.inl ⟨by rfl, ?_⟩) hS2 ?_
            rotate_left
            · intro y hSy; obtain ⟨y0, y1, y2, y3, y4⟩ := hSy; go_simp; try with_reducible rfl
            simp only [Act.put, List.setIfInBounds_toArray, List.set_cons_succ, List.set_cons_zero]
            refine wpAnyH_take (i := 20) (oi := { dst := some 30, op := Op.load 9 (Operand.tmp 29), type := 9, pos := "l07_cache.go:20", after := #[{ on := 19, ground := Ground.data }, { on := 9, ground := Ground.guard }], guard := some (9, true) }) (v := ?_) rfl (by kernel_rfl) (by kernel_rfl) (by kernel_rfl) (fun _ _ _ h => h) (Or.inl ⟨by rfl, ?_⟩) hS2 ?_
            rotate_left
            · intro y hSy; obtain ⟨y0, y1, y2, y3, y4⟩ := hSy; go_simp; try with_reducible rfl
            simp only [Act.put, List.setIfInBounds_toArray, List.set_cons_succ, List.set_cons_zero]
            refine wpAnyH_take (i := 21) (oi := { dst := some 31, op := Op.binOp BinOp.geq 9 (Operand.tmp 25) (Operand.tmp 30) 9, type := 4, pos := "l07_cache.go:20", after := #[{ on := 15, ground := Ground.data }, { on := 20, ground := Ground.data }, { on := 9, ground := Ground.guard }], guard := some (9, true) }) (v := ?_) rfl (by kernel_rfl) (by kernel_rfl) (by kernel_rfl) (fun _ _ _ h => h) (Or.inl ⟨by rfl, ?_⟩) hS2 ?_
            rotate_left
            · intro y hSy; obtain ⟨y0, y1, y2, y3, y4⟩ := hSy; go_simp; try with_reducible rfl
            simp only [Act.put, List.setIfInBounds_toArray, List.set_cons_succ, List.set_cons_zero]
            refine wpAnyH_take (i := 22) (oi := { dst := some 32, op := Op.pick (Operand.tmp 19) (Operand.tmp 31) (Operand.const (Value.bool false)), type := 4, pos := "l07_cache.go:20", after := #[{ on := 9, ground := Ground.data }, { on := 21, ground := Ground.data }, { on := 6, ground := Ground.guard }], guard := some (6, false) }) (v := ?_) rfl (by kernel_rfl) (by kernel_rfl) (by kernel_rfl) (fun _ _ _ h => h) (Or.inl ⟨by rfl, ?_⟩) hS2 ?_
            rotate_left
            · intro y hSy; obtain ⟨y0, y1, y2, y3, y4⟩ := hSy; go_simp; try with_reducible rfl
            simp only [Act.put, List.setIfInBounds_toArray, List.set_cons_succ, List.set_cons_zero]
            refine wpAnyH_take (i := 23) (oi := { dst := some 33, op := Op.pick (Operand.tmp 16) (Operand.const (Value.bool true)) (Operand.tmp 32), type := 4, pos := "l07_cache.go:20", after := #[{ on := 6, ground := Ground.data }, { on := 22, ground := Ground.data }], guard := none }) (v := ?_) rfl (by kernel_rfl) (by kernel_rfl) (by kernel_rfl) (fun _ _ _ h => h) (Or.inl ⟨by rfl, ?_⟩) hS2 ?_
            rotate_left
            · intro y hSy; obtain ⟨y0, y1, y2, y3, y4⟩ := hSy; go_simp; try with_reducible rfl
            simp only [Act.put, List.setIfInBounds_toArray, List.set_cons_succ, List.set_cons_zero]
            refine wpAnyH_done (by kernel_rfl) ?_ _
            all_goals
              go_wp2_with fail
              go_roundw
              case rel => exact ⟨k + 1, rfl, unhide HB2, by omega, unhide HN⟩
              case measure => simp only [intOf]; omega
          | false =>
            have HE : Hid (cacheB P = false) := by
              have hkk := unhide HK
              rw [hkj] at hkk
              exact cacheB_order hjq hkk hLT
            unfold ltD at hLT
            have hgq : ∀ y, (binOp BinOp.geq 9 (.string q.d) (.string p.d)).run Tryz.prog y = .ok (.bool true) y := fun y => by rw [run_geqS, hLT]; rfl
            clear hO hjq hkj
            go_wp2_with fail
            refine wp_region_held (S := fun y => y.cell? ⟨b, o + k * 4, none⟩ = some (.string p.d) ∧ y.cell? ⟨b, o + k * 4 + 1, none⟩ = some (.int .i64 p.m) ∧ y.cell? ⟨b, o + k * 4 + 2, none⟩ = some (.slice x p.l.length xc) ∧ y.cell? ⟨b, o + k * 4 + 3, none⟩ = some (.int .i64 p.u) ∧ y.cell? ⟨b, o + j * 4, none⟩ = some (.string q.d)) Tryz.mixedO ?_
            have hS : (fun y : World => y.cell? ⟨b, o + k * 4, none⟩ = some (.string p.d) ∧ y.cell? ⟨b, o + k * 4 + 1, none⟩ = some (.int .i64 p.m) ∧ y.cell? ⟨b, o + k * 4 + 2, none⟩ = some (.slice x p.l.length xc) ∧ y.cell? ⟨b, o + k * 4 + 3, none⟩ = some (.int .i64 p.u) ∧ y.cell? ⟨b, o + j * 4, none⟩ = some (.string q.d)) wr.drew := ⟨c0, c1, c2, c3, g0⟩
            show wpAnyH _ _ _ _ _ _ _ _ wr.drew
            refine wpAnyH_take (i := 0) (oi := { dst := some 10, op := Op.move (Operand.tmp 0), type := 34, pos := "l07_cache.go:20", after := #[], guard := none }) (v := ?_) rfl (by kernel_rfl) (by kernel_rfl) (by kernel_rfl) (fun _ _ _ h => h) (Or.inl ⟨by rfl, ?_⟩) hS ?_
            rotate_left
            · intro y hSy; obtain ⟨y0, y1, y2, y3, y4⟩ := hSy; go_simp; try with_reducible rfl
            simp only [Act.put, List.setIfInBounds_toArray, List.set_cons_succ, List.set_cons_zero]
            refine wpAnyH_take (i := 1) (oi := { dst := some 11, op := Op.move (Operand.tmp 3), type := 3, pos := "l07_cache.go:20", after := #[], guard := none }) (v := ?_) rfl (by kernel_rfl) (by kernel_rfl) (by kernel_rfl) (fun _ _ _ h => h) (Or.inl ⟨by rfl, ?_⟩) hS ?_
            rotate_left
            · intro y hSy; obtain ⟨y0, y1, y2, y3, y4⟩ := hSy; go_simp; try with_reducible rfl
            simp only [Act.put, List.setIfInBounds_toArray, List.set_cons_succ, List.set_cons_zero]
            refine wpAnyH_take (i := 2) (oi := { dst := some 12, op := Op.indexAddr 34 (Operand.tmp 10) (Operand.tmp 11), type := 0, pos := "l07_cache.go:20", after := #[{ on := 0, ground := Ground.data }, { on := 1, ground := Ground.data }], guard := none }) (v := ?_) rfl (by kernel_rfl) (by kernel_rfl) (by kernel_rfl) (fun _ _ _ h => h) (Or.inl ⟨by rfl, ?_⟩) hS ?_
            rotate_left
            · intro y hSy; obtain ⟨y0, y1, y2, y3, y4⟩ := hSy; go_simp; try with_reducible rfl
            simp only [Act.put, List.setIfInBounds_toArray, List.set_cons_succ, List.set_cons_zero]
            refine wpAnyH_take (i := 3) (oi := { dst := some 13, op := Op.load 105 (Operand.tmp 12), type := 105, pos := "l07_cache.go:20", after := #[{ on := 2, ground := Ground.data }], guard := none }) (v := ?_) rfl (by kernel_rfl) (by kernel_rfl) (by kernel_rfl) (fun _ _ _ h => h) (Or.inl ⟨by rfl, ?_⟩) hS ?_
            rotate_left
            · intro y hSy; obtain ⟨y0, y1, y2, y3, y4⟩ := hSy; go_simp; try with_reducible rfl
            simp only [Act.put, List.setIfInBounds_toArray, List.set_cons_succ, List.set_cons_zero]
            refine wpAnyH_all (rs := [4]) (by kernel_rfl) (by simp) ?_
            intro i hi
            simp only [List.mem_singleton] at hi
            subst hi
            refine step_call (f := 73) (fn := Tryz.f73) (d := 14) (args := #[.agg #[.string p.d, .int .i64 p.m, .slice x p.l.length xc, .int .i64 p.u]]) rfl Tryz.func73 (by kernel_rfl) (by kernel_rfl) (by simp [Act.eval]) ?_
            refine (unhide hct _ (unhide HT)).mono ?_
            rintro e w2 ⟨rfl, hb2⟩
            refine ⟨_, rfl, ?_⟩
            have hS2 : (fun y : World => y.cell? ⟨b, o + k * 4, none⟩ = some (.string p.d) ∧ y.cell? ⟨b, o + k * 4 + 1, none⟩ = some (.int .i64 p.m) ∧ y.cell? ⟨b, o + k * 4 + 2, none⟩ = some (.slice x p.l.length xc) ∧ y.cell? ⟨b, o + k * 4 + 3, none⟩ = some (.int .i64 p.u) ∧ y.cell? ⟨b, o + j * 4, none⟩ = some (.string q.d)) w2 := ⟨below_some (below_drewQ hb2) c0, below_some (below_drewQ hb2) c1, below_some (below_drewQ hb2) c2, below_some (below_drewQ hb2) c3, below_some (below_drewQ hb2) g0⟩
            have HB2 := hide (btP (unhide HB) (below_drewQ hb2))
            clear hb2 hS
            refine ⟨hS2, ?_⟩
            simp only [Act.put, List.setIfInBounds_toArray, List.set_cons_succ, List.set_cons_zero]
            refine wpAnyH_take (i := 5) (oi := { dst := some 15, op := Op.unOp UnOp.not 4 (Operand.tmp 14), type := 4, pos := "l07_cache.go:20", after := #[{ on := 4, ground := Ground.data }], guard := none }) (v := ?_) rfl (by kernel_rfl) (by kernel_rfl) (by kernel_rfl) (fun _ _ _ h => h) (Or.inl ⟨by rfl, ?_⟩) hS2 ?_
            rotate_left
            · intro y hSy; obtain ⟨y0, y1, y2, y3, y4⟩ := hSy; go_simp; try with_reducible rfl
            simp only [Act.put, List.setIfInBounds_toArray, List.set_cons_succ, List.set_cons_zero]
            refine wpAnyH_take (i := 6) (oi := { dst := some 16, op := Op.move (Operand.tmp 15), type := 4, pos := "l07_cache.go:20", after := #[{ on := 5, ground := Ground.data }, { on := 4, ground := Ground.chain }], guard := none }) (v := ?_) rfl (by kernel_rfl) (by kernel_rfl) (by kernel_rfl) (fun _ _ _ h => h) (Or.inl ⟨by rfl, ?_⟩) hS2 ?_
            rotate_left
            · intro y hSy; obtain ⟨y0, y1, y2, y3, y4⟩ := hSy; go_simp; try with_reducible rfl
            simp only [Act.put, List.setIfInBounds_toArray, List.set_cons_succ, List.set_cons_zero]
            refine wpAnyH_take (i := 7) (oi := { dst := some 17, op := Op.move (Operand.tmp 3), type := 3, pos := "l07_cache.go:20", after := #[{ on := 6, ground := Ground.guard }], guard := some (6, false) }) (v := ?_) rfl (by kernel_rfl) (by kernel_rfl) (by kernel_rfl) (fun _ _ _ h => h) (Or.inl ⟨by rfl, ?_⟩) hS2 ?_
            rotate_left
            · intro y hSy; obtain ⟨y0, y1, y2, y3, y4⟩ := hSy; go_simp; try with_reducible rfl
            simp only [Act.put, List.setIfInBounds_toArray, List.set_cons_succ, List.set_cons_zero]
            refine wpAnyH_take (i := 8) (oi := { dst := some 18, op := Op.binOp BinOp.gtr 3 (Operand.tmp 17) (Operand.const (Value.int IntKind.i64 0)) 3, type := 4, pos := "l07_cache.go:20", after := #[{ on := 7, ground := Ground.data }, { on := 6, ground := Ground.guard }], guard := some (6, false) }) (v := ?_) rfl (by kernel_rfl) (by kernel_rfl) (by kernel_rfl) (fun _ _ _ h => h) (Or.inl ⟨by rfl, ?_⟩) hS2 ?_
            rotate_left
            · intro y hSy; obtain ⟨y0, y1, y2, y3, y4⟩ := hSy; go_simp; try with_reducible rfl
            simp only [Act.put, List.setIfInBounds_toArray, List.set_cons_succ, List.set_cons_zero]
            refine wpAnyH_take (i := 9) (oi := { dst := some 19, op := Op.move (Operand.tmp 18), type := 4, pos := "l07_cache.go:20", after := #[{ on := 8, ground := Ground.data }, { on := 6, ground := Ground.chain }, { on := 6, ground := Ground.guard }], guard := some (6, false) }) (v := ?_) rfl (by kernel_rfl) (by kernel_rfl) (by kernel_rfl) (fun _ _ _ h => h) (Or.inl ⟨by rfl, ?_⟩) hS2 ?_
            rotate_left
            · intro y hSy; obtain ⟨y0, y1, y2, y3, y4⟩ := hSy; go_simp; try with_reducible rfl
            simp only [Act.put, List.setIfInBounds_toArray, List.set_cons_succ, List.set_cons_zero]
            refine wpAnyH_take (i := 10) (oi := { dst := some 20, op := Op.move (Operand.tmp 0), type := 34, pos := "l07_cache.go:20", after := #[{ on := 9, ground := Ground.guard }], guard := some (9, true) }) (v := ?_) rfl (by kernel_rfl) (by kernel_rfl) (by kernel_rfl) (fun _ _ _ h => h) (Or.inl ⟨by rfl, ?_⟩) hS2 ?_
            rotate_left
            · intro y hSy; obtain ⟨y0, y1, y2, y3, y4⟩ := hSy; go_simp; try with_reducible rfl
            simp only [Act.put, List.setIfInBounds_toArray, List.set_cons_succ, List.set_cons_zero]
            refine wpAnyH_take (i := 11) (oi := { dst := some 21, op := Op.move (Operand.tmp 3), type := 3, pos := "l07_cache.go:20", after := #[{ on := 9, ground := Ground.guard }], guard := some (9, true) }) (v := ?_) rfl (by kernel_rfl) (by kernel_rfl) (by kernel_rfl) (fun _ _ _ h => h) (Or.inl ⟨by rfl, ?_⟩) hS2 ?_
            rotate_left
            · intro y hSy; obtain ⟨y0, y1, y2, y3, y4⟩ := hSy; go_simp; try with_reducible rfl
            simp only [Act.put, List.setIfInBounds_toArray, List.set_cons_succ, List.set_cons_zero]
            refine wpAnyH_take (i := 12) (oi := { dst := some 22, op := Op.binOp BinOp.sub 3 (Operand.tmp 21) (Operand.const (Value.int IntKind.i64 1)) 3, type := 3, pos := "l07_cache.go:20", after := #[{ on := 11, ground := Ground.data }, { on := 9, ground := Ground.guard }], guard := some (9, true) }) (v := ?_) rfl (by kernel_rfl) (by kernel_rfl) (by kernel_rfl) (fun _ _ _ h => h) (Or.inl ⟨by rfl, ?_⟩) hS2 ?_
            rotate_left
            · intro y hSy; obtain ⟨y0, y1, y2, y3, y4⟩ := hSy; go_simp; try with_reducible rfl
            simp only [Act.put, List.setIfInBounds_toArray, List.set_cons_succ, List.set_cons_zero]
            refine wpAnyH_take (i := 13) (oi := { dst := some 23, op := Op.indexAddr 34 (Operand.tmp 20) (Operand.tmp 22), type := 0, pos := "l07_cache.go:20", after := #[{ on := 10, ground := Ground.data }, { on := 12, ground := Ground.data }, { on := 9, ground := Ground.guard }], guard := some (9, true) }) (v := ?_) rfl (by kernel_rfl) (by kernel_rfl) (by kernel_rfl) (fun _ _ _ h => h) (Or.inl ⟨by rfl, ?_⟩) hS2 ?_
            rotate_left
            · intro y hSy; obtain ⟨y0, y1, y2, y3, y4⟩ := hSy; go_simp; try with_reducible rfl
            simp only [Act.put, List.setIfInBounds_toArray, List.set_cons_succ, List.set_cons_zero]
            refine wpAnyH_take (i := 14) (oi := { dst := some 24, op := Op.fieldAddr 105 (Operand.tmp 23) 0, type := 0, pos := "l07_cache.go:20", after := #[{ on := 13, ground := Ground.data }, { on := 9, ground := Ground.guard }], guard := some (9, true) }) (v := ?_) rfl (by kernel_rfl) (by kernel_rfl) (by kernel_rfl) (fun _ _ _ h => h) (Or.inl ⟨by rfl, ?_⟩) hS2 ?_
            rotate_left
            · intro y hSy; obtain ⟨y0, y1, y2, y3, y4⟩ := hSy; go_simp; try with_reducible rfl
            simp only [Act.put, List.setIfInBounds_toArray, List.set_cons_succ, List.set_cons_zero]
            refine wpAnyH_take (i := 15) (oi := { dst := some 25, op := Op.load 9 (Operand.tmp 24), type := 9, pos := "l07_cache.go:20", after := #[{ on := 14, ground := Ground.data }, { on := 9, ground := Ground.guard }], guard := some (9, true) }) (v := ?_) rfl (by kernel_rfl) (by kernel_rfl) (by kernel_rfl) (fun _ _ _ h => h) (Or.inl ⟨by rfl, ?_⟩) hS2 ?_
            rotate_left
            · intro y hSy; obtain ⟨y0, y1, y2, y3, y4⟩ := hSy; go_simp; try with_reducible rfl
            simp only [Act.put, List.setIfInBounds_toArray, List.set_cons_succ, List.set_cons_zero]
            refine wpAnyH_take (i := 16) (oi := { dst := some 26, op := Op.move (Operand.tmp 0), type := 34, pos := "l07_cache.go:20", after := #[{ on := 9, ground := Ground.guard }], guard := some (9, true) }) (v := ?_) rfl (by kernel_rfl) (by kernel_rfl) (by kernel_rfl) (fun _ _ _ h => h) (Or.inl ⟨by rfl, ?_⟩) hS2 ?_
            rotate_left
            · intro y hSy; obtain ⟨y0, y1, y2, y3, y4⟩ := hSy; go_simp; try with_reducible rfl
            simp only [Act.put, List.setIfInBounds_toArray, List.set_cons_succ, List.set_cons_zero]
            refine wpAnyH_take (i := 17) (oi := { dst := some 27, op := Op.move (Operand.tmp 3), type := 3, pos := "l07_cache.go:20", after := #[{ on := 9, ground := Ground.guard }], guard := some (9, true) }) (v := ?_) rfl (by kernel_rfl) (by kernel_rfl) (by kernel_rfl) (fun _ _ _ h => h) (Or.inl ⟨by rfl, ?_⟩) hS2 ?_
            rotate_left
            · intro y hSy; obtain ⟨y0, y1, y2, y3, y4⟩ := hSy; go_simp; try with_reducible rfl
            simp only [Act.put, List.setIfInBounds_toArray, List.set_cons_succ, List.set_cons_zero]
            refine wpAnyH_take (i := 18) (oi := { dst := some 28, op := Op.indexAddr 34 (Operand.tmp 26) (Operand.tmp 27), type := 0, pos := "l07_cache.go:20", after := #[{ on := 16, ground := Ground.data }, { on := 17, ground := Ground.data }, { on := 9, ground := Ground.guard }], guard := some (9, true) }) (v := ?_) rfl (by kernel_rfl) (by kernel_rfl) (by kernel_rfl) (fun _ _ _ h => h) (Or.inl ⟨by rfl, ?_⟩) hS2 ?_
            rotate_left
            · intro y hSy; obtain ⟨y0, y1, y2, y3, y4⟩ := hSy; go_simp; try with_reducible rfl
            simp only [Act.put, List.setIfInBounds_toArray, List.set_cons_succ, List.set_cons_zero]
            refine wpAnyH_take (i := 19) (oi := { dst := some 29, op := Op.fieldAddr 105 (Operand.tmp 28) 0, type := 0, pos := "l07_cache.go:20", after := #[{ on := 18, ground := Ground.data }, { on := 9, ground := Ground.guard }], guard := some (9, true) }) (v := ?_) rfl (by kernel_rfl) (by kernel_rfl) (by kernel_rfl) (fun _ _ _ h => h) (Or.inl ⟨by rfl, ?_⟩) hS2 ?_
            rotate_left
            · intro y hSy; obtain ⟨y0, y1, y2, y3, y4⟩ := hSy; go_simp; try with_reducible rfl
            simp only [Act.put, List.setIfInBounds_toArray, List.set_cons_succ, List.set_cons_zero]
            refine wpAnyH_take (i := 20) (oi := { dst := some 30, op := Op.load 9 (Operand.tmp 29), type := 9, pos := "l07_cache.go:20", after := #[{ on := 19, ground := Ground.data }, { on := 9, ground := Ground.guard }], guard := some (9, true) }) (v := ?_) rfl (by kernel_rfl) (by kernel_rfl) (by kernel_rfl) (fun _ _ _ h => h) (Or.inl ⟨by rfl, ?_⟩) hS2 ?_
            rotate_left
            · intro y hSy; obtain ⟨y0, y1, y2, y3, y4⟩ := hSy; go_simp; try with_reducible rfl
            simp only [Act.put, List.setIfInBounds_toArray, List.set_cons_succ, List.set_cons_zero]
            refine wpAnyH_take (i := 21) (oi := { dst := some 31, op := Op.binOp BinOp.geq 9 (Operand.tmp 25) (Operand.tmp 30) 9, type := 4, pos := "l07_cache.go:20", after := #[{ on := 15, ground := Ground.data }, { on := 20, ground := Ground.data }, { on := 9, ground := Ground.guard }], guard := some (9, true) }) (v := ?_) rfl (by kernel_rfl) (by kernel_rfl) (by kernel_rfl) (fun _ _ _ h => h) (Or.inl ⟨by rfl, ?_⟩) hS2 ?_
            rotate_left
            · intro y hSy; obtain ⟨y0, y1, y2, y3, y4⟩ := hSy; go_simp; try with_reducible rfl
            simp only [Act.put, List.setIfInBounds_toArray, List.set_cons_succ, List.set_cons_zero]
            refine wpAnyH_take (i := 22) (oi := { dst := some 32, op := Op.pick (Operand.tmp 19) (Operand.tmp 31) (Operand.const (Value.bool false)), type := 4, pos := "l07_cache.go:20", after := #[{ on := 9, ground := Ground.data }, { on := 21, ground := Ground.data }, { on := 6, ground := Ground.guard }], guard := some (6, false) }) (v := ?_) rfl (by kernel_rfl) (by kernel_rfl) (by kernel_rfl) (fun _ _ _ h => h) (Or.inl ⟨by rfl, ?_⟩) hS2 ?_
            rotate_left
            · intro y hSy; obtain ⟨y0, y1, y2, y3, y4⟩ := hSy; go_simp; try with_reducible rfl
            simp only [Act.put, List.setIfInBounds_toArray, List.set_cons_succ, List.set_cons_zero]
            refine wpAnyH_take (i := 23) (oi := { dst := some 33, op := Op.pick (Operand.tmp 16) (Operand.const (Value.bool true)) (Operand.tmp 32), type := 4, pos := "l07_cache.go:20", after := #[{ on := 6, ground := Ground.data }, { on := 22, ground := Ground.data }], guard := none }) (v := ?_) rfl (by kernel_rfl) (by kernel_rfl) (by kernel_rfl) (fun _ _ _ h => h) (Or.inl ⟨by rfl, ?_⟩) hS2 ?_
            rotate_left
            · intro y hSy; obtain ⟨y0, y1, y2, y3, y4⟩ := hSy; go_simp; try with_reducible rfl
            simp only [Act.put, List.setIfInBounds_toArray, List.set_cons_succ, List.set_cons_zero]
            refine wpAnyH_done (by kernel_rfl) ?_ _
            all_goals
              go_wp2_with fail
              go_ret
              exact ⟨retB (unhide HE), unhide HB2⟩
    · have c2 : ¬ (k : Int) < (len : Int) := by omega
      have HE : Hid (cacheB P = decide ((len : Int) ≤ 10)) := by
        show _ = _
        rw [cacheB_end (by have := HL.out; omega) hu, HL.out]
        by_cases h : len ≤ 10 <;> simp [h] <;> omega
      clear hb hu
      by_cases h10 : (len : Int) ≤ 10
      · rw [show decide ((len : Int) ≤ 10) = true from decide_eq_true h10] at HE
        go_wp2_with fail
        go_ret
        exact ⟨retB (unhide HE), unhide HB⟩
      · rw [show decide ((len : Int) ≤ 10) = false from decide_eq_false h10] at HE
        go_wp2_with fail
        go_ret
        exact ⟨retB (unhide HE), unhide HB⟩

theorem cacheB_many {P : List Pol} (h : 10 < P.length) : cacheB P = false := cacheB_no fun hh => by have := hh.1; omega

set_option maxRecDepth 100000 in
set_option maxHeartbeats 1000000 in
theorem cacheI (P : List Pol) (a : Option Addr) (cap : Nat) (w : World) (hl : Pols w 0 a P) (hm : P.length ≤ 2097152) (hz : ∀ p ∈ P, polZ p) :
    Calls Tryz.prog 86 #[.slice a P.length cap] w fun e w' => e = .returned (.bool (cacheB P)) ∧ Below w.heap.size w w' := by
  by_cases h10 : 10 < P.length
  · have c10 : (10 : Int) < (P.length : Int) := by omega
    have HE := hide (cacheB_many h10)
    clear hl hz h10
    generalize P.length = len at *
    go_enter Tryz.func86, Tryz.ntmps86
    go_wp2_with fail
    go_ret
    exact ⟨retB (unhide HE), Below.refl _ _⟩
  have H := hide hl
  have HZ := hide hz
  have HT10 : Hid (P.length ≤ 10) := by show _ ≤ _; omega
  have c10 : ¬ (10 : Int) < (P.length : Int) := by omega
  clear hl hz h10
  generalize hlen : P.length = len at *
  have HL : Hid (P.length = len) := hlen
  clear hlen
  go_enter Tryz.func86, Tryz.ntmps86
  go_wp2_with fail
  go_loopw [10] (fun n wr => ∃ k : Nat, n = .int .i64 (k : Int) ∧ Below w.heap.size w wr ∧ k ≤ len ∧ upTo P k) (fun n _ => len - (intOf n).toNat)
  case atStart => exact ⟨0, rfl, Below.refl _ _, by omega, upTo.zero P⟩
  case round =>
    obtain ⟨k, rfl, hb, hk, hu⟩ := hrel
    have HB := hide hb
    have HU := hide hu
    by_cases hp : k < len
    · have hp' : k < P.length := by have := HL.out; omega
      obtain ⟨p, hkp⟩ : ∃ p, P[k]? = some p := ⟨_, List.getElem?_eq_getElem hp'⟩
      obtain ⟨b, o, x, xc, rfl, -, -, c0, c1, c2, c3, hT⟩ := ((unhide H).on hb).elem hkp
      have hbx : Below wr.heap.size wr (wr.alloc (.cells #[.string p.d, .int .i64 p.m, .slice x p.l.length xc, .int .i64 p.u] 105)) := abP _
      have HBX := hide hbx
      have HT := hide ((hT.on hbx).on (Below.refl _ _).drew)
      obtain ⟨r0, r1, r2, r3⟩ := (RowP.new 105 wr p.d p.m x p.l.length xc p.u).facts
      have hpz := unhide HZ p (List.mem_of_getElem? hkp)
      have hct := hide (fun v hv => polI p.l p.d p.m x xc p.u v hv hpz.1 hpz.2.1 hpz.2.2)
      have q2 : (k : Int) < (len : Int) := by omega
      have q3 : (0 : Int) ≤ (k : Int) := by omega
      have w1 : wrap64 ((k : Int) + 1) = ((k + 1 : Nat) : Int) := by unfold wrap64; omega
      have HK : Hid (P[k]? = some p) := hkp
      have hO : polB p.l p.d p.m p.u = okP p := rfl
      rw [hO] at hct
      clear hb hT hu hpz hO hkp
      cases hO : okP p with
      | false =>
        have HE := hide (cacheB_bad (unhide HK) hO)
        rw [hO] at hct
        clear hO hbx
        go_wp2_with fail
        generalize hVV : wr.alloc (.cells #[.string p.d, .int .i64 p.m, .slice x p.l.length xc, .int .i64 p.u] 105) = V at *
        refine wp_region_held (S := fun y => y.cell? ⟨wr.heap.size, 0, none⟩ = some (.string p.d) ∧ y.cell? ⟨wr.heap.size, 1, none⟩ = some (.int .i64 p.m) ∧ y.cell? ⟨wr.heap.size, 2, none⟩ = some (.slice x p.l.length xc) ∧ y.cell? ⟨wr.heap.size, 3, none⟩ = some (.int .i64 p.u)) Tryz.mixedO ?_
        have hS : (fun y : World => y.cell? ⟨wr.heap.size, 0, none⟩ = some (.string p.d) ∧ y.cell? ⟨wr.heap.size, 1, none⟩ = some (.int .i64 p.m) ∧ y.cell? ⟨wr.heap.size, 2, none⟩ = some (.slice x p.l.length xc) ∧ y.cell? ⟨wr.heap.size, 3, none⟩ = some (.int .i64 p.u)) V.drew := ⟨r0, r1, r2, r3⟩
        show wpAnyH _ _ _ _ _ _ _ _ V.drew
        refine wpAnyH_take (i := 0) (oi := { dst := some 15, op := Op.load 105 (Operand.tmp 4), type := 105, pos := "l07_cache.go:44", after := #[], guard := none }) (v := ?_) rfl (by kernel_rfl) (by kernel_rfl) (by kernel_rfl) (fun _ _ _ h => h) (Or.inl ⟨by rfl, ?_⟩) hS ?_
        rotate_left
        · intro y hSy; obtain ⟨y0, y1, y2, y3⟩ := hSy; go_simp; try with_reducible rfl
        simp only [Act.put, List.setIfInBounds_toArray, List.set_cons_succ, List.set_cons_zero]
        refine wpAnyH_all (rs := [1]) (by kernel_rfl) (by simp) ?_
        intro i hi
        simp only [List.mem_singleton] at hi
        subst hi
        refine step_call (f := 110) (fn := Tryz.f110) (d := 16) (args := #[.agg #[.string p.d, .int .i64 p.m, .slice x p.l.length xc, .int .i64 p.u]]) rfl Tryz.func110 (by kernel_rfl) (by kernel_rfl) (by simp [Act.eval]) ?_
        refine (unhide hct _ (unhide HT)).mono ?_
        rintro e w2 ⟨rfl, hb2⟩
        refine ⟨_, rfl, ?_⟩
        have hS2 : (fun y : World => y.cell? ⟨wr.heap.size, 0, none⟩ = some (.string p.d) ∧ y.cell? ⟨wr.heap.size, 1, none⟩ = some (.int .i64 p.m) ∧ y.cell? ⟨wr.heap.size, 2, none⟩ = some (.slice x p.l.length xc) ∧ y.cell? ⟨wr.heap.size, 3, none⟩ = some (.int .i64 p.u)) w2 := ⟨below_some (below_drewQ hb2) r0, below_some (below_drewQ hb2) r1, below_some (below_drewQ hb2) r2, below_some (below_drewQ hb2) r3⟩
        have HB2 := hide (btP (btP (unhide HB) (unhide HBX)) (below_drewQ hb2))
        clear hb2 hS
        refine ⟨hS2, ?_⟩
        simp only [Act.put, List.setIfInBounds_toArray, List.set_cons_succ, List.set_cons_zero]
        refine wpAnyH_take (i := 2) (oi := { dst := some 17, op := Op.unOp UnOp.not 4 (Operand.tmp 16), type := 4, pos := "l07_cache.go:44", after := #[{ on := 1, ground := Ground.data }], guard := none }) (v := ?_) rfl (by kernel_rfl) (by kernel_rfl) (by kernel_rfl) (fun _ _ _ h => h) (Or.inl ⟨by rfl, ?_⟩) hS2 ?_
        rotate_left
        · intro y hSy; obtain ⟨y0, y1, y2, y3⟩ := hSy; go_simp; try with_reducible rfl
        simp only [Act.put, List.setIfInBounds_toArray, List.set_cons_succ, List.set_cons_zero]
        refine wpAnyH_take (i := 3) (oi := { dst := some 18, op := Op.move (Operand.tmp 17), type := 4, pos := "l07_cache.go:44", after := #[{ on := 2, ground := Ground.data }, { on := 1, ground := Ground.chain }], guard := none }) (v := ?_) rfl (by kernel_rfl) (by kernel_rfl) (by kernel_rfl) (fun _ _ _ h => h) (Or.inl ⟨by rfl, ?_⟩) hS2 ?_
        rotate_left
        · intro y hSy; obtain ⟨y0, y1, y2, y3⟩ := hSy; go_simp; try with_reducible rfl
        simp only [Act.put, List.setIfInBounds_toArray, List.set_cons_succ, List.set_cons_zero]
        refine wpAnyH_take (i := 4) (oi := { dst := some 19, op := Op.move (Operand.tmp 3), type := 3, pos := "l07_cache.go:44", after := #[{ on := 3, ground := Ground.guard }], guard := some (3, false) }) (v := undef) rfl (by kernel_rfl) (by kernel_rfl) (by kernel_rfl) (fun _ _ _ h => h) (Or.inr ⟨by rfl, rfl⟩) hS2 ?_
        simp only [Act.put, List.setIfInBounds_toArray, List.set_cons_succ, List.set_cons_zero]
        refine wpAnyH_take (i := 5) (oi := { dst := some 20, op := Op.binOp BinOp.gtr 3 (Operand.tmp 19) (Operand.const (Value.int IntKind.i64 0)) 3, type := 4, pos := "l07_cache.go:44", after := #[{ on := 4, ground := Ground.data }, { on := 3, ground := Ground.guard }], guard := some (3, false) }) (v := undef) rfl (by kernel_rfl) (by kernel_rfl) (by kernel_rfl) (fun _ _ _ h => h) (Or.inr ⟨by rfl, rfl⟩) hS2 ?_
        simp only [Act.put, List.setIfInBounds_toArray, List.set_cons_succ, List.set_cons_zero]
        refine wpAnyH_take (i := 6) (oi := { dst := some 21, op := Op.move (Operand.tmp 20), type := 4, pos := "l07_cache.go:44", after := #[{ on := 5, ground := Ground.data }, { on := 3, ground := Ground.chain }, { on := 3, ground := Ground.guard }], guard := some (3, false) }) (v := undef) rfl (by kernel_rfl) (by kernel_rfl) (by kernel_rfl) (fun _ _ _ h => h) (Or.inr ⟨by rfl, rfl⟩) hS2 ?_
        simp only [Act.put, List.setIfInBounds_toArray, List.set_cons_succ, List.set_cons_zero]
        refine wpAnyH_take (i := 7) (oi := { dst := some 22, op := Op.move (Operand.tmp 0), type := 34, pos := "l07_cache.go:44", after := #[{ on := 6, ground := Ground.guard }], guard := some (6, true) }) (v := undef) rfl (by kernel_rfl) (by kernel_rfl) (by kernel_rfl) (fun _ _ _ h => h) (Or.inr ⟨by rfl, rfl⟩) hS2 ?_
        simp only [Act.put, List.setIfInBounds_toArray, List.set_cons_succ, List.set_cons_zero]
        refine wpAnyH_take (i := 8) (oi := { dst := some 23, op := Op.move (Operand.tmp 3), type := 3, pos := "l07_cache.go:44", after := #[{ on := 6, ground := Ground.guard }], guard := some (6, true) }) (v := undef) rfl (by kernel_rfl) (by kernel_rfl) (by kernel_rfl) (fun _ _ _ h => h) (Or.inr ⟨by rfl, rfl⟩) hS2 ?_
        simp only [Act.put, List.setIfInBounds_toArray, List.set_cons_succ, List.set_cons_zero]
        refine wpAnyH_take (i := 9) (oi := { dst := some 24, op := Op.binOp BinOp.sub 3 (Operand.tmp 23) (Operand.const (Value.int IntKind.i64 1)) 3, type := 3, pos := "l07_cache.go:44", after := #[{ on := 8, ground := Ground.data }, { on := 6, ground := Ground.guard }], guard := some (6, true) }) (v := undef) rfl (by kernel_rfl) (by kernel_rfl) (by kernel_rfl) (fun _ _ _ h => h) (Or.inr ⟨by rfl, rfl⟩) hS2 ?_
        simp only [Act.put, List.setIfInBounds_toArray, List.set_cons_succ, List.set_cons_zero]
        refine wpAnyH_take (i := 10) (oi := { dst := some 25, op := Op.indexAddr 34 (Operand.tmp 22) (Operand.tmp 24), type := 0, pos := "l07_cache.go:44", after := #[{ on := 7, ground := Ground.data }, { on := 9, ground := Ground.data }, { on := 6, ground := Ground.guard }], guard := some (6, true) }) (v := undef) rfl (by kernel_rfl) (by kernel_rfl) (by kernel_rfl) (fun _ _ _ h => h) (Or.inr ⟨by rfl, rfl⟩) hS2 ?_
        simp only [Act.put, List.setIfInBounds_toArray, List.set_cons_succ, List.set_cons_zero]
        refine wpAnyH_take (i := 11) (oi := { dst := some 26, op := Op.fieldAddr 105 (Operand.tmp 25) 0, type := 0, pos := "l07_cache.go:44", after := #[{ on := 10, ground := Ground.data }, { on := 6, ground := Ground.guard }], guard := some (6, true) }) (v := undef) rfl (by kernel_rfl) (by kernel_rfl) (by kernel_rfl) (fun _ _ _ h => h) (Or.inr ⟨by rfl, rfl⟩) hS2 ?_
        simp only [Act.put, List.setIfInBounds_toArray, List.set_cons_succ, List.set_cons_zero]
        refine wpAnyH_take (i := 12) (oi := { dst := some 27, op := Op.load 9 (Operand.tmp 26), type := 9, pos := "l07_cache.go:44", after := #[{ on := 11, ground := Ground.data }, { on := 6, ground := Ground.guard }], guard := some (6, true) }) (v := undef) rfl (by kernel_rfl) (by kernel_rfl) (by kernel_rfl) (fun _ _ _ h => h) (Or.inr ⟨by rfl, rfl⟩) hS2 ?_
        simp only [Act.put, List.setIfInBounds_toArray, List.set_cons_succ, List.set_cons_zero]
        refine wpAnyH_take (i := 13) (oi := { dst := some 28, op := Op.fieldAddr 105 (Operand.tmp 4) 0, type := 0, pos := "l07_cache.go:44", after := #[{ on := 6, ground := Ground.guard }], guard := some (6, true) }) (v := undef) rfl (by kernel_rfl) (by kernel_rfl) (by kernel_rfl) (fun _ _ _ h => h) (Or.inr ⟨by rfl, rfl⟩) hS2 ?_
        simp only [Act.put, List.setIfInBounds_toArray, List.set_cons_succ, List.set_cons_zero]
        refine wpAnyH_take (i := 14) (oi := { dst := some 29, op := Op.load 9 (Operand.tmp 28), type := 9, pos := "l07_cache.go:44", after := #[{ on := 13, ground := Ground.data }, { on := 6, ground := Ground.guard }], guard := some (6, true) }) (v := undef) rfl (by kernel_rfl) (by kernel_rfl) (by kernel_rfl) (fun _ _ _ h => h) (Or.inr ⟨by rfl, rfl⟩) hS2 ?_
        simp only [Act.put, List.setIfInBounds_toArray, List.set_cons_succ, List.set_cons_zero]
        refine wpAnyH_take (i := 15) (oi := { dst := some 30, op := Op.binOp BinOp.geq 9 (Operand.tmp 27) (Operand.tmp 29) 9, type := 4, pos := "l07_cache.go:44", after := #[{ on := 12, ground := Ground.data }, { on := 14, ground := Ground.data }, { on := 6, ground := Ground.guard }], guard := some (6, true) }) (v := undef) rfl (by kernel_rfl) (by kernel_rfl) (by kernel_rfl) (fun _ _ _ h => h) (Or.inr ⟨by rfl, rfl⟩) hS2 ?_
        simp only [Act.put, List.setIfInBounds_toArray, List.set_cons_succ, List.set_cons_zero]
        refine wpAnyH_take (i := 16) (oi := { dst := some 31, op := Op.pick (Operand.tmp 21) (Operand.tmp 30) (Operand.const (Value.bool false)), type := 4, pos := "l07_cache.go:44", after := #[{ on := 6, ground := Ground.data }, { on := 15, ground := Ground.data }, { on := 3, ground := Ground.guard }], guard := some (3, false) }) (v := undef) rfl (by kernel_rfl) (by kernel_rfl) (by kernel_rfl) (fun _ _ _ h => h) (Or.inr ⟨by rfl, rfl⟩) hS2 ?_
        simp only [Act.put, List.setIfInBounds_toArray, List.set_cons_succ, List.set_cons_zero]
        refine wpAnyH_take (i := 17) (oi := { dst := some 32, op := Op.pick (Operand.tmp 18) (Operand.const (Value.bool true)) (Operand.tmp 31), type := 4, pos := "l07_cache.go:44", after := #[{ on := 3, ground := Ground.data }, { on := 16, ground := Ground.data }], guard := none }) (v := ?_) rfl (by kernel_rfl) (by kernel_rfl) (by kernel_rfl) (fun _ _ _ h => h) (Or.inl ⟨by rfl, ?_⟩) hS2 ?_
        rotate_left
        · intro y hSy; obtain ⟨y0, y1, y2, y3⟩ := hSy; go_simp; try with_reducible rfl
        simp only [Act.put, List.setIfInBounds_toArray, List.set_cons_succ, List.set_cons_zero]
        refine wpAnyH_done (by kernel_rfl) ?_ _
        go_wp2_with fail
        go_ret
        exact ⟨retB (unhide HE), unhide HB2⟩
      | true =>
        rw [hO] at hct
        rcases Nat.eq_zero_or_pos k with rfl | hkp
        · have HN := hide (upTo.one (unhide HK) hO)
          rw [Nat.zero_mul, Nat.add_zero] at c0 c1 c2 c3
          clear hO hbx
          go_wp2_with fail
          generalize hVV : wr.alloc (.cells #[.string p.d, .int .i64 p.m, .slice x p.l.length xc, .int .i64 p.u] 105) = V at *
          refine wp_region_held (S := fun y => y.cell? ⟨wr.heap.size, 0, none⟩ = some (.string p.d) ∧ y.cell? ⟨wr.heap.size, 1, none⟩ = some (.int .i64 p.m) ∧ y.cell? ⟨wr.heap.size, 2, none⟩ = some (.slice x p.l.length xc) ∧ y.cell? ⟨wr.heap.size, 3, none⟩ = some (.int .i64 p.u)) Tryz.mixedO ?_
          have hS : (fun y : World => y.cell? ⟨wr.heap.size, 0, none⟩ = some (.string p.d) ∧ y.cell? ⟨wr.heap.size, 1, none⟩ = some (.int .i64 p.m) ∧ y.cell? ⟨wr.heap.size, 2, none⟩ = some (.slice x p.l.length xc) ∧ y.cell? ⟨wr.heap.size, 3, none⟩ = some (.int .i64 p.u)) V.drew := ⟨r0, r1, r2, r3⟩
          show wpAnyH _ _ _ _ _ _ _ _ V.drew
          refine wpAnyH_take (i := 0) (oi := { dst := some 15, op := Op.load 105 (Operand.tmp 4), type := 105, pos := "l07_cache.go:44", after := #[], guard := none }) (v := ?_) rfl (by kernel_rfl) (by kernel_rfl) (by kernel_rfl) (fun _ _ _ h => h) (Or.inl ⟨by rfl, ?_⟩) hS ?_
          rotate_left
          · intro y hSy; obtain ⟨y0, y1, y2, y3⟩ := hSy; go_simp; try with_reducible rfl
          simp only [Act.put, List.setIfInBounds_toArray, List.set_cons_succ, List.set_cons_zero]
          refine wpAnyH_all (rs := [1]) (by kernel_rfl) (by simp) ?_
          intro i hi
          simp only [List.mem_singleton] at hi
          subst hi
          refine step_call (f := 110) (fn := Tryz.f110) (d := 16) (args := #[.agg #[.string p.d, .int .i64 p.m, .slice x p.l.length xc, .int .i64 p.u]]) rfl Tryz.func110 (by kernel_rfl) (by kernel_rfl) (by simp [Act.eval]) ?_
          refine (unhide hct _ (unhide HT)).mono ?_
          rintro e w2 ⟨rfl, hb2⟩
          refine ⟨_, rfl, ?_⟩
          have hS2 : (fun y : World => y.cell? ⟨wr.heap.size, 0, none⟩ = some (.string p.d) ∧ y.cell? ⟨wr.heap.size, 1, none⟩ = some (.int .i64 p.m) ∧ y.cell? ⟨wr.heap.size, 2, none⟩ = some (.slice x p.l.length xc) ∧ y.cell? ⟨wr.heap.size, 3, none⟩ = some (.int .i64 p.u)) w2 := ⟨below_some (below_drewQ hb2) r0, below_some (below_drewQ hb2) r1, below_some (below_drewQ hb2) r2, below_some (below_drewQ hb2) r3⟩
          have HB2 := hide (btP (btP (unhide HB) (unhide HBX)) (below_drewQ hb2))
          clear hb2 hS
          refine ⟨hS2, ?_⟩
          simp only [Act.put, List.setIfInBounds_toArray, List.set_cons_succ, List.set_cons_zero]
          refine wpAnyH_take (i := 2) (oi := { dst := some 17, op := Op.unOp UnOp.not 4 (Operand.tmp 16), type := 4, pos := "l07_cache.go:44", after := #[{ on := 1, ground := Ground.data }], guard := none }) (v := ?_) rfl (by kernel_rfl) (by kernel_rfl) (by kernel_rfl) (fun _ _ _ h => h) (Or.inl ⟨by rfl, ?_⟩) hS2 ?_
          rotate_left
          · intro y hSy; obtain ⟨y0, y1, y2, y3⟩ := hSy; go_simp; try with_reducible rfl
          simp only [Act.put, List.setIfInBounds_toArray, List.set_cons_succ, List.set_cons_zero]
          refine wpAnyH_take (i := 3) (oi := { dst := some 18, op := Op.move (Operand.tmp 17), type := 4, pos := "l07_cache.go:44", after := #[{ on := 2, ground := Ground.data }, { on := 1, ground := Ground.chain }], guard := none }) (v := ?_) rfl (by kernel_rfl) (by kernel_rfl) (by kernel_rfl) (fun _ _ _ h => h) (Or.inl ⟨by rfl, ?_⟩) hS2 ?_
          rotate_left
          · intro y hSy; obtain ⟨y0, y1, y2, y3⟩ := hSy; go_simp; try with_reducible rfl
          simp only [Act.put, List.setIfInBounds_toArray, List.set_cons_succ, List.set_cons_zero]
          refine wpAnyH_take (i := 4) (oi := { dst := some 19, op := Op.move (Operand.tmp 3), type := 3, pos := "l07_cache.go:44", after := #[{ on := 3, ground := Ground.guard }], guard := some (3, false) }) (v := ?_) rfl (by kernel_rfl) (by kernel_rfl) (by kernel_rfl) (fun _ _ _ h => h) (Or.inl ⟨by rfl, ?_⟩) hS2 ?_
          rotate_left
          · intro y hSy; obtain ⟨y0, y1, y2, y3⟩ := hSy; go_simp; try with_reducible rfl
          simp only [Act.put, List.setIfInBounds_toArray, List.set_cons_succ, List.set_cons_zero]
          refine wpAnyH_take (i := 5) (oi := { dst := some 20, op := Op.binOp BinOp.gtr 3 (Operand.tmp 19) (Operand.const (Value.int IntKind.i64 0)) 3, type := 4, pos := "l07_cache.go:44", after := #[{ on := 4, ground := Ground.data }, { on := 3, ground := Ground.guard }], guard := some (3, false) }) (v := ?_) rfl (by kernel_rfl) (by kernel_rfl) (by kernel_rfl) (fun _ _ _ h => h) (Or.inl ⟨by rfl, ?_⟩) hS2 ?_
          rotate_left
          · intro y hSy; obtain ⟨y0, y1, y2, y3⟩ := hSy; go_simp; try with_reducible rfl
          simp only [Act.put, List.setIfInBounds_toArray, List.set_cons_succ, List.set_cons_zero]
          refine wpAnyH_take (i := 6) (oi := { dst := some 21, op := Op.move (Operand.tmp 20), type := 4, pos := "l07_cache.go:44", after := #[{ on := 5, ground := Ground.data }, { on := 3, ground := Ground.chain }, { on := 3, ground := Ground.guard }], guard := some (3, false) }) (v := ?_) rfl (by kernel_rfl) (by kernel_rfl) (by kernel_rfl) (fun _ _ _ h => h) (Or.inl ⟨by rfl, ?_⟩) hS2 ?_
          rotate_left
          · intro y hSy; obtain ⟨y0, y1, y2, y3⟩ := hSy; go_simp; try with_reducible rfl
          simp only [Act.put, List.setIfInBounds_toArray, List.set_cons_succ, List.set_cons_zero]
          refine wpAnyH_take (i := 7) (oi := { dst := some 22, op := Op.move (Operand.tmp 0), type := 34, pos := "l07_cache.go:44", after := #[{ on := 6, ground := Ground.guard }], guard := some (6, true) }) (v := undef) rfl (by kernel_rfl) (by kernel_rfl) (by kernel_rfl) (fun _ _ _ h => h) (Or.inr ⟨by rfl, rfl⟩) hS2 ?_
          simp only [Act.put, List.setIfInBounds_toArray, List.set_cons_succ, List.set_cons_zero]
          refine wpAnyH_take (i := 8) (oi := { dst := some 23, op := Op.move (Operand.tmp 3), type := 3, pos := "l07_cache.go:44", after := #[{ on := 6, ground := Ground.guard }], guard := some (6, true) }) (v := undef) rfl (by kernel_rfl) (by kernel_rfl) (by kernel_rfl) (fun _ _ _ h => h) (Or.inr ⟨by rfl, rfl⟩) hS2 ?_
          simp only [Act.put, List.setIfInBounds_toArray, List.set_cons_succ, List.set_cons_zero]
          refine wpAnyH_take (i := 9) (oi := { dst := some 24, op := Op.binOp BinOp.sub 3 (Operand.tmp 23) (Operand.const (Value.int IntKind.i64 1)) 3, type := 3, pos := "l07_cache.go:44", after := #[{ on := 8, ground := Ground.data }, { on := 6, ground := Ground.guard }], guard := some (6, true) }) (v := undef) rfl (by kernel_rfl) (by kernel_rfl) (by kernel_rfl) (fun _ _ _ h => h) (Or.inr ⟨by rfl, rfl⟩) hS2 ?_
          simp only [Act.put, List.setIfInBounds_toArray, List.set_cons_succ, List.set_cons_zero]
          refine wpAnyH_take (i := 10) (oi := { dst := some 25, op := Op.indexAddr 34 (Operand.tmp 22) (Operand.tmp 24), type := 0, pos := "l07_cache.go:44", after := #[{ on := 7, ground := Ground.data }, { on := 9, ground := Ground.data }, { on := 6, ground := Ground.guard }], guard := some (6, true) }) (v := undef) rfl (by kernel_rfl) (by kernel_rfl) (by kernel_rfl) (fun _ _ _ h => h) (Or.inr ⟨by rfl, rfl⟩) hS2 ?_
          simp only [Act.put, List.setIfInBounds_toArray, List.set_cons_succ, List.set_cons_zero]
          refine wpAnyH_take (i := 11) (oi := { dst := some 26, op := Op.fieldAddr 105 (Operand.tmp 25) 0, type := 0, pos := "l07_cache.go:44", after := #[{ on := 10, ground := Ground.data }, { on := 6, ground := Ground.guard }], guard := some (6, true) }) (v := undef) rfl (by kernel_rfl) (by kernel_rfl) (by kernel_rfl) (fun _ _ _ h => h) (Or.inr ⟨by rfl, rfl⟩) hS2 ?_
          simp only [Act.put, List.setIfInBounds_toArray, List.set_cons_succ, List.set_cons_zero]
          refine wpAnyH_take (i := 12) (oi := { dst := some 27, op := Op.load 9 (Operand.tmp 26), type := 9, pos := "l07_cache.go:44", after := #[{ on := 11, ground := Ground.data }, { on := 6, ground := Ground.guard }], guard := some (6, true) }) (v := undef) rfl (by kernel_rfl) (by kernel_rfl) (by kernel_rfl) (fun _ _ _ h => h) (Or.inr ⟨by rfl, rfl⟩) hS2 ?_
          simp only [Act.put, List.setIfInBounds_toArray, List.set_cons_succ, List.set_cons_zero]
          refine wpAnyH_take (i := 13) (oi := { dst := some 28, op := Op.fieldAddr 105 (Operand.tmp 4) 0, type := 0, pos := "l07_cache.go:44", after := #[{ on := 6, ground := Ground.guard }], guard := some (6, true) }) (v := undef) rfl (by kernel_rfl) (by kernel_rfl) (by kernel_rfl) (fun _ _ _ h => h) (Or.inr ⟨by rfl, rfl⟩) hS2 ?_
          simp only [Act.put, List.setIfInBounds_toArray, List.set_cons_succ, List.set_cons_zero]
          refine wpAnyH_take (i := 14) (oi := { dst := some 29, op := Op.load 9 (Operand.tmp 28), type := 9, pos := "l07_cache.go:44", after := #[{ on := 13, ground := Ground.data }, { on := 6, ground := Ground.guard }], guard := some (6, true) }) (v := undef) rfl (by kernel_rfl) (by kernel_rfl) (by kernel_rfl) (fun _ _ _ h => h) (Or.inr ⟨by rfl, rfl⟩) hS2 ?_
          simp only [Act.put, List.setIfInBounds_toArray, List.set_cons_succ, List.set_cons_zero]
          refine wpAnyH_take (i := 15) (oi := { dst := some 30, op := Op.binOp BinOp.geq 9 (Operand.tmp 27) (Operand.tmp 29) 9, type := 4, pos := "l07_cache.go:44", after := #[{ on := 12, ground := Ground.data }, { on := 14, ground := Ground.data }, { on := 6, ground := Ground.guard }], guard := some (6, true) }) (v := undef) rfl (by kernel_rfl) (by kernel_rfl) (by kernel_rfl) (fun _ _ _ h => h) (Or.inr ⟨by rfl, rfl⟩) hS2 ?_
          simp only [Act.put, List.setIfInBounds_toArray, List.set_cons_succ, List.set_cons_zero]
          refine wpAnyH_take (i := 16) (oi := { dst := some 31, op := Op.pick (Operand.tmp 21) (Operand.tmp 30) (Operand.const (Value.bool false)), type := 4, pos := "l07_cache.go:44", after := #[{ on := 6, ground := Ground.data }, { on := 15, ground := Ground.data }, { on := 3, ground := Ground.guard }], guard := some (3, false) }) (v := ?_) rfl (by kernel_rfl) (by kernel_rfl) (by kernel_rfl) (fun _ _ _ h => h) (Or.inl ⟨by rfl, ?_⟩) hS2 ?_
          rotate_left
          · intro y hSy; obtain ⟨y0, y1, y2, y3⟩ := hSy; go_simp; try with_reducible rfl
          simp only [Act.put, List.setIfInBounds_toArray, List.set_cons_succ, List.set_cons_zero]
          refine wpAnyH_take (i := 17) (oi := { dst := some 32, op := Op.pick (Operand.tmp 18) (Operand.const (Value.bool true)) (Operand.tmp 31), type := 4, pos := "l07_cache.go:44", after := #[{ on := 3, ground := Ground.data }, { on := 16, ground := Ground.data }], guard := none }) (v := ?_) rfl (by kernel_rfl) (by kernel_rfl) (by kernel_rfl) (fun _ _ _ h => h) (Or.inl ⟨by rfl, ?_⟩) hS2 ?_
          rotate_left
          · intro y hSy; obtain ⟨y0, y1, y2, y3⟩ := hSy; go_simp; try with_reducible rfl
          simp only [Act.put, List.setIfInBounds_toArray, List.set_cons_succ, List.set_cons_zero]
          refine wpAnyH_done (by kernel_rfl) ?_ _
          go_wp2_with fail
          go_roundw
          case rel => exact ⟨0 + 1, rfl, unhide HB2, by omega, unhide HN⟩
          case measure => simp only [intOf]; omega
        · obtain ⟨j, hkj⟩ : ∃ j, k = j + 1 := ⟨k - 1, by omega⟩
          obtain ⟨q, hjq⟩ : ∃ q, P[j]? = some q := ⟨_, List.getElem?_eq_getElem (by omega)⟩
          obtain ⟨b', o', x', xc', e', -, -, g0', g1, g2, g3, -⟩ := ((unhide H).on (unhide HB)).elem hjq
          simp only [Option.some.injEq, Addr.mk.injEq, and_true] at e'
          obtain ⟨rfl, rfl⟩ := e'
          have g0 := below_some hbx g0'
          have w3 : wrap64 ((k : Int) - 1) = (j : Int) := by unfold wrap64; omega
          have w4 : IntKind.i64.wrap ((k : Int) - 1) = (j : Int) := (IntWalk.i64_in _ ⟨by omega, by omega⟩).trans (by omega)
          have q4 : (0 : Int) < (k : Int) := by omega
          have q5 : (0 : Int) ≤ (j : Int) := by omega
          have q6 : (j : Int) < (len : Int) := by omega
          clear g1 g2 g3 g0' hbx
          cases hLT : ltD q p with
          | true =>
            have HN : Hid (upTo P (k + 1)) := by
              have hu := unhide HU
              have hkk := unhide HK
              rw [hkj] at hu hkk
              show upTo P (k + 1)
              rw [hkj]
              exact hu.next hjq hkk hO hLT
            unfold ltD at hLT
            have hgq : ∀ y, (binOp BinOp.geq 9 (.string q.d) (.string p.d)).run Tryz.prog y = .ok (.bool false) y := fun y => by rw [run_geqS, hLT]; rfl
            clear hO hjq hkj
            go_wp2_with fail
            generalize hVV : wr.alloc (.cells #[.string p.d, .int .i64 p.m, .slice x p.l.length xc, .int .i64 p.u] 105) = V at *
            refine wp_region_held (S := fun y => y.cell? ⟨wr.heap.size, 0, none⟩ = some (.string p.d) ∧ y.cell? ⟨wr.heap.size, 1, none⟩ = some (.int .i64 p.m) ∧ y.cell? ⟨wr.heap.size, 2, none⟩ = some (.slice x p.l.length xc) ∧ y.cell? ⟨wr.heap.size, 3, none⟩ = some (.int .i64 p.u) ∧ y.cell? ⟨b, o + j * 4, none⟩ = some (.string q.d)) Tryz.mixedO ?_
            have hS : (fun y : World => y.cell? ⟨wr.heap.size, 0, none⟩ = some (.string p.d) ∧ y.cell? ⟨wr.heap.size, 1, none⟩ = some (.int .i64 p.m) ∧ y.cell? ⟨wr.heap.size, 2, none⟩ = some (.slice x p.l.length xc) ∧ y.cell? ⟨wr.heap.size, 3, none⟩ = some (.int .i64 p.u) ∧ y.cell? ⟨b, o + j * 4, none⟩ = some (.string q.d)) V.drew := ⟨r0, r1, r2, r3, g0⟩
            show wpAnyH _ _ _ _ _ _ _ _ V.drew
            refine wpAnyH_take (i := 0) (oi := { dst := some 15, op := Op.load 105 (Operand.tmp 4), type := 105, pos := "l07_cache.go:44", after := #[], guard := none }) (v := ?_) rfl (by kernel_rfl) (by kernel_rfl) (by kernel_rfl) (fun _ _ _ h => h) (Or.inl ⟨by rfl, ?_⟩) hS ?_
            rotate_left
            · intro y hSy; obtain ⟨y0, y1, y2, y3, y4⟩ := hSy; go_simp; try with_reducible rfl
            simp only [Act.put, List.setIfInBounds_toArray, List.set_cons_succ, List.set_cons_zero]
            refine wpAnyH_all (rs := [1]) (by kernel_rfl) (by simp) ?_
            intro i hi
            simp only [List.mem_singleton] at hi
            subst hi
            refine step_call (f := 110) (fn := Tryz.f110) (d := 16) (args := #[.agg #[.string p.d, .int .i64 p.m, .slice x p.l.length xc, .int .i64 p.u]]) rfl Tryz.func110 (by kernel_rfl) (by kernel_rfl) (by simp [Act.eval]) ?_
            refine (unhide hct _ (unhide HT)).mono ?_
            rintro e w2 ⟨rfl, hb2⟩
            refine ⟨_, rfl, ?_⟩
            have hS2 : (fun y : World => y.cell? ⟨wr.heap.size, 0, none⟩ = some (.string p.d) ∧ y.cell? ⟨wr.heap.size, 1, none⟩ = some (.int .i64 p.m) ∧ y.cell? ⟨wr.heap.size, 2, none⟩ = some (.slice x p.l.length xc) ∧ y.cell? ⟨wr.heap.size, 3, none⟩ = some (.int .i64 p.u) ∧ y.cell? ⟨b, o + j * 4, none⟩ = some (.string q.d)) w2 := ⟨below_some (below_drewQ hb2) r0, below_some (below_drewQ hb2) r1, below_some (below_drewQ hb2) r2, below_some (below_drewQ hb2) r3, below_some (below_drewQ hb2) g0⟩
            have HB2 := hide (btP (btP (unhide HB) (unhide HBX)) (below_drewQ hb2))
            clear hb2 hS
            refine ⟨hS2, ?_⟩
            simp only [Act.put, List.setIfInBounds_toArray, List.set_cons_succ, List.set_cons_zero]
            refine wpAnyH_take (i := 2) (oi := { dst := some 17, op := Op.unOp UnOp.not 4 (Operand.tmp 16), type := 4, pos := "l07_cache.go:44", after := #[{ on := 1, ground := Ground.data }], guard := none }) (v := ?_) rfl (by kernel_rfl) (by kernel_rfl) (by kernel_rfl) (fun _ _ _ h => h) (Or.inl ⟨by rfl, ?_⟩) hS2 ?_
            rotate_left
            · intro y hSy; obtain ⟨y0, y1, y2, y3, y4⟩ := hSy; go_simp; try with_reducible rfl
            simp only [Act.put, List.setIfInBounds_toArray, List.set_cons_succ, List.set_cons_zero]
            refine wpAnyH_take (i := 3) (oi := { dst := some 18, op := Op.move (Operand.tmp 17), type := 4, pos := "l07_cache.go:44", after := #[{ on := 2, ground := Ground.data }, { on := 1, ground := Ground.chain }], guard := none }) (v := ?_) rfl (by kernel_rfl) (by kernel_rfl) (by kernel_rfl) (fun _ _ _ h => h) (Or.inl ⟨by rfl, ?_⟩) hS2 ?_
            rotate_left
            · intro y hSy; obtain ⟨y0, y1, y2, y3, y4⟩ := hSy; go_simp; try with_reducible rfl
            simp only [Act.put, List.setIfInBounds_toArray, List.set_cons_succ, List.set_cons_zero]
            refine wpAnyH_take (i := 4) (oi := { dst := some 19, op := Op.move (Operand.tmp 3), type := 3, pos := "l07_cache.go:44", after := #[{ on := 3, ground := Ground.guard }], guard := some (3, false) }) (v := ?_) rfl (by kernel_rfl) (by kernel_rfl) (by kernel_rfl) (fun _ _ _ h => h) (Or.inl ⟨by rfl, ?_⟩) hS2 ?_
            rotate_left
            · intro y hSy; obtain ⟨y0, y1, y2, y3, y4⟩ := hSy; go_simp; try with_reducible rfl
            simp only [Act.put, List.setIfInBounds_toArray, List.set_cons_succ, List.set_cons_zero]
            refine wpAnyH_take (i := 5) (oi := { dst := some 20, op := Op.binOp BinOp.gtr 3 (Operand.tmp 19) (Operand.const (Value.int IntKind.i64 0)) 3, type := 4, pos := "l07_cache.go:44", after := #[{ on := 4, ground := Ground.data }, { on := 3, ground := Ground.guard }], guard := some (3, false) }) (v := ?_) rfl (by kernel_rfl) (by kernel_rfl) (by kernel_rfl) (fun _ _ _ h => h) (Or.inl ⟨by rfl, ?_⟩) hS2 ?_
            rotate_left
            · intro y hSy; obtain ⟨y0, y1, y2, y3, y4⟩ := hSy; go_simp; try with_reducible rfl
            simp only [Act.put, List.setIfInBounds_toArray, List.set_cons_succ, List.set_cons_zero]
            refine wpAnyH_take (i := 6) (oi := { dst := some 21, op := Op.move (Operand.tmp 20), type := 4, pos := "l07_cache.go:44", after := #[{ on := 5, ground := Ground.data }, { on := 3, ground := Ground.chain }, { on := 3, ground := Ground.guard }], guard := some (3, false) }) (v := ?_) rfl (by kernel_rfl) (by kernel_rfl) (by kernel_rfl) (fun _ _ _ h => h) (Or.inl ⟨by rfl, ?_⟩) hS2 ?_
            rotate_left
            · intro y hSy; obtain ⟨y0, y1, y2, y3, y4⟩ := hSy; go_simp; try with_reducible rfl
            simp only [Act.put, List.setIfInBounds_toArray, List.set_cons_succ, List.set_cons_zero]
            refine wpAnyH_take (i := 7) (oi := { dst := some 22, op := Op.move (Operand.tmp 0), type := 34, pos := "l07_cache.go:44", after := #[{ on := 6, ground := Ground.guard }], guard := some (6, true) }) (v := ?_) rfl (by kernel_rfl) (by kernel_rfl) (by kernel_rfl) (fun _ _ _ h => h) (Or.inl ⟨by rfl, ?_⟩) hS2 ?_
            rotate_left
            · intro y hSy; obtain ⟨y0, y1, y2, y3, y4⟩ := hSy; go_simp; try with_reducible rfl
            simp only [Act.put, List.setIfInBounds_toArray, List.set_cons_succ, List.set_cons_zero]
            refine wpAnyH_take (i := 8) (oi := { dst := some 23, op := Op.move (Operand.tmp 3), type := 3, pos := "l07_cache.go:44", after := #[{ on := 6, ground := Ground.guard }], guard := some (6, true) }) (v := ?_) rfl (by kernel_rfl) (by kernel_rfl) (by kernel_rfl) (fun _ _ _ h => h) (Or.inl ⟨by rfl, ?_⟩) hS2 ?_
            rotate_left
            · intro y hSy; obtain ⟨y0, y1, y2, y3, y4⟩ := hSy; go_simp; try with_reducible rfl
            simp only [Act.put, List.setIfInBounds_toArray, List.set_cons_succ, List.set_cons_zero]
            refine wpAnyH_take (i := 9) (oi := { dst := some 24, op := Op.binOp BinOp.sub 3 (Operand.tmp 23) (Operand.const (Value.int IntKind.i64 1)) 3, type := 3, pos := "l07_cache.go:44", after := #[{ on := 8, ground := Ground.data }, { on := 6, ground := Ground.guard }], guard := some (6, true) }) (v := ?_) rfl (by kernel_rfl) (by kernel_rfl) (by kernel_rfl) (fun _ _ _ h => h) (Or.inl ⟨by rfl, ?_⟩) hS2 ?_
            rotate_left
            · intro y hSy; obtain ⟨y0, y1, y2, y3, y4⟩ := hSy; go_simp; try with_reducible rfl
            simp only [Act.put, List.setIfInBounds_toArray, List.set_cons_succ, List.set_cons_zero]
            refine wpAnyH_take (i := 10) (oi := { dst := some 25, op := Op.indexAddr 34 (Operand.tmp 22) (Operand.tmp 24), type := 0, pos := "l07_cache.go:44", after := #[{ on := 7, ground := Ground.data }, { on := 9, ground := Ground.data }, { on := 6, ground := Ground.guard }], guard := some (6, true) }) (v := ?_) rfl (by kernel_rfl) (by kernel_rfl) (by kernel_rfl) (fun _ _ _ h => h) (Or.inl ⟨by rfl, ?_⟩) hS2 ?_
            rotate_left
            · intro y hSy; obtain ⟨y0, y1, y2, y3, y4⟩ := hSy; go_simp; try with_reducible rfl
            simp only [Act.put, List.setIfInBounds_toArray, List.set_cons_succ, List.set_cons_zero]
            refine wpAnyH_take (i := 11) (oi := { dst := some 26, op := Op.fieldAddr 105 (Operand.tmp 25) 0, type := 0, pos := "l07_cache.go:44", after := #[{ on := 10, ground := Ground.data }, { on := 6, ground := Ground.guard }], guard := some (6, true) }) (v := ?_) rfl (by kernel_rfl) (by kernel_rfl) (by kernel_rfl) (fun _ _ _ h => h) (Or.inl ⟨by rfl, ?_⟩) hS2 ?_
            rotate_left
            · intro y hSy; obtain ⟨y0, y1, y2, y3, y4⟩ := hSy; go_simp; try with_reducible rfl
            simp only [Act.put, List.setIfInBounds_toArray, List.set_cons_succ, List.set_cons_zero]
            refine wpAnyH_take (i := 12) (oi := { dst := some 27, op := Op.load 9 (Operand.tmp 26), type := 9, pos := "l07_cache.go:44", after := #[{ on := 11, ground := Ground.data }, { on := 6, ground := Ground.guard }], guard := some (6, true) }) (v := ?_) rfl (by kernel_rfl) (by kernel_rfl) (by kernel_rfl) (fun _ _ _ h => h) (Or.inl ⟨by rfl, ?_⟩) hS2 ?_
            rotate_left
            · intro y hSy; obtain ⟨y0, y1, y2, y3, y4⟩ := hSy; go_simp; try with_reducible rfl
            simp only [Act.put, List.setIfInBounds_toArray, List.set_cons_succ, List.set_cons_zero]
            refine wpAnyH_take (i := 13) (oi := { dst := some 28, op := Op.fieldAddr 105 (Operand.tmp 4) 0, type := 0, pos := "l07_cache.go:44", after := #[{ on := 6, ground := Ground.guard }], guard := some (6, true) }) (v := ?_) rfl (by kernel_rfl) (by kernel_rfl) (by kernel_rfl) (fun _ _ _ h => h) (Or.inl ⟨by rfl, ?_⟩) hS2 ?_
            rotate_left
            · intro y hSy; obtain ⟨y0, y1, y2, y3, y4⟩ := hSy; go_simp; try with_reducible rfl
            simp only [Act.put, List.setIfInBounds_toArray, List.set_cons_succ, List.set_cons_zero]
            refine wpAnyH_take (i := 14) (oi := { dst := some 29, op := Op.load 9 (Operand.tmp 28), type := 9, pos := "l07_cache.go:44", after := #[{ on := 13, ground := Ground.data }, { on := 6, ground := Ground.guard }], guard := some (6, true) }) (v := ?_) rfl (by kernel_rfl) (by kernel_rfl) (by kernel_rfl) (fun _ _ _ h => h) (Or.inl ⟨by rfl, ?_⟩) hS2 ?_
            rotate_left
            · intro y hSy; obtain ⟨y0, y1, y2, y3, y4⟩ := hSy; go_simp; try with_reducible rfl
            simp only [Act.put, List.setIfInBounds_toArray, List.set_cons_succ, List.set_cons_zero]
            refine wpAnyH_take (i := 15) (oi := { dst := some 30, op := Op.binOp BinOp.geq 9 (Operand.tmp 27) (Operand.tmp 29) 9, type := 4, pos := "l07_cache.go:44", after := #[{ on := 12, ground := Ground.data }, { on := 14, ground := Ground.data }, { on := 6, ground := Ground.guard }], guard := some (6, true) }) (v := ?_) rfl (by kernel_rfl) (by kernel_rfl) (by kernel_rfl) (fun _ _ _ h => h) (Or.inl ⟨by rfl, ?_⟩) hS2 ?_
            rotate_left
            · intro y hSy; obtain ⟨y0, y1, y2, y3, y4⟩ := hSy; go_simp; try with_reducible rfl
            simp only [Act.put, List.setIfInBounds_toArray, List.set_cons_succ, List.set_cons_zero]
            refine wpAnyH_take (i := 16) (oi := { dst := some 31, op := Op.pick (Operand.tmp 21) (Operand.tmp 30) (Operand.const (Value.bool false)), type := 4, pos := "l07_cache.go:44", after := #[{ on := 6, ground := Ground.data }, { on := 15, ground := Ground.data }, { on := 3, ground := Ground.guard }], guard := some (3, false) }) (v := ?_) rfl (by kernel_rfl) (by kernel_rfl) (by kernel_rfl) (fun _ _ _ h => h) (Or.inl ⟨by rfl, ?_⟩) hS2 ?_
            rotate_left
            · intro y hSy; obtain ⟨y0, y1, y2, y3, y4⟩ := hSy; go_simp; try with_reducible rfl
            simp only [Act.put, List.setIfInBounds_toArray, List.set_cons_succ, List.set_cons_zero]
            refine wpAnyH_take (i := 17) (oi := { dst := some 32, op := Op.pick (Operand.tmp 18) (Operand.const (Value.bool true)) (Operand.tmp 31), type := 4, pos := "l07_cache.go:44", after := #[{ on := 3, ground := Ground.data }, { on := 16, ground := Ground.data }], guard := none }) (v := ?_) rfl (by kernel_rfl) (by kernel_rfl) (by kernel_rfl) (fun _ _ _ h => h) (Or.inl ⟨by rfl, ?_⟩) hS2 ?_
            rotate_left
            · intro y hSy; obtain ⟨y0, y1, y2, y3, y4⟩ := hSy; go_simp; try with_reducible rfl
            simp only [Act.put, List.setIfInBounds_toArray, List.set_cons_succ, List.set_cons_zero]
            refine wpAnyH_done (by kernel_rfl) ?_ _
            go_wp2_with fail
            go_roundw
            case rel => exact ⟨k + 1, rfl, unhide HB2, by omega, unhide HN⟩
            case measure => simp only [intOf]; omega
          | false =>
            have HE : Hid (cacheB P = false) := by
              have hkk := unhide HK
              rw [hkj] at hkk
              exact cacheB_order hjq hkk hLT
            unfold ltD at hLT
            have hgq : ∀ y, (binOp BinOp.geq 9 (.string q.d) (.string p.d)).run Tryz.prog y = .ok (.bool true) y := fun y => by rw [run_geqS, hLT]; rfl
            clear hO hjq hkj
            go_wp2_with fail
            generalize hVV : wr.alloc (.cells #[.string p.d, .int .i64 p.m, .slice x p.l.length xc, .int .i64 p.u] 105) = V at *
            refine wp_region_held (S := fun y => y.cell? ⟨wr.heap.size, 0, none⟩ = some (.string p.d) ∧ y.cell? ⟨wr.heap.size, 1, none⟩ = some (.int .i64 p.m) ∧ y.cell? ⟨wr.heap.size, 2, none⟩ = some (.slice x p.l.length xc) ∧ y.cell? ⟨wr.heap.size, 3, none⟩ = some (.int .i64 p.u) ∧ y.cell? ⟨b, o + j * 4, none⟩ = some (.string q.d)) Tryz.mixedO ?_
            have hS : (fun y : World => y.cell? ⟨wr.heap.size, 0, none⟩ = some (.string p.d) ∧ y.cell? ⟨wr.heap.size, 1, none⟩ = some (.int .i64 p.m) ∧ y.cell? ⟨wr.heap.size, 2, none⟩ = some (.slice x p.l.length xc) ∧ y.cell? ⟨wr.heap.size, 3, none⟩ = some (.int .i64 p.u) ∧ y.cell? ⟨b, o + j * 4, none⟩ = some (.string q.d)) V.drew := ⟨r0, r1, r2, r3, g0⟩
            show wpAnyH _ _ _ _ _ _ _ _ V.drew
            refine wpAnyH_take (i := 0) (oi := { dst := some 15, op := Op.load 105 (Operand.tmp 4), type := 105, pos := "l07_cache.go:44", after := #[], guard := none }) (v := ?_) rfl (by kernel_rfl) (by kernel_rfl) (by kernel_rfl) (fun _ _ _ h => h) (Or.inl ⟨by rfl, ?_⟩) hS ?_
            rotate_left
            · intro y hSy; obtain ⟨y0, y1, y2, y3, y4⟩ := hSy; go_simp; try with_reducible rfl
            simp only [Act.put, List.setIfInBounds_toArray, List.set_cons_succ, List.set_cons_zero]
            refine wpAnyH_all (rs := [1]) (by kernel_rfl) (by simp) ?_
            intro i hi
            simp only [List.mem_singleton] at hi
            subst hi
            refine step_call (f := 110) (fn := Tryz.f110) (d := 16) (args := #[.agg #[.string p.d, .int .i64 p.m, .slice x p.l.length xc, .int .i64 p.u]]) rfl Tryz.func110 (by kernel_rfl) (by kernel_rfl) (by simp [Act.eval]) ?_
            refine (unhide hct _ (unhide HT)).mono ?_
            rintro e w2 ⟨rfl, hb2⟩
            refine ⟨_, rfl, ?_⟩
            have hS2 : (fun y : World => y.cell? ⟨wr.heap.size, 0, none⟩ = some (.string p.d) ∧ y.cell? ⟨wr.heap.size, 1, none⟩ = some (.int .i64 p.m) ∧ y.cell? ⟨wr.heap.size, 2, none⟩ = some (.slice x p.l.length xc) ∧ y.cell? ⟨wr.heap.size, 3, none⟩ = some (.int .i64 p.u) ∧ y.cell? ⟨b, o + j * 4, none⟩ = some (.string q.d)) w2 := ⟨below_some (below_drewQ hb2) r0, below_some (below_drewQ hb2) r1, below_some (below_drewQ hb2) r2, below_some (below_drewQ hb2) r3, below_some (below_drewQ hb2) g0⟩
            have HB2 := hide (btP (btP (unhide HB) (unhide HBX)) (below_drewQ hb2))
            clear hb2 hS
            refine ⟨hS2, ?_⟩
            simp only [Act.put, List.setIfInBounds_toArray, List.set_cons_succ, List.set_cons_zero]
            refine wpAnyH_take (i := 2) (oi := { dst := some 17, op := Op.unOp UnOp.not 4 (Operand.tmp 16), type := 4, pos := "l07_cache.go:44", after := #[{ on := 1, ground := Ground.data }], guard := none }) (v := ?_) rfl (by kernel_rfl) (by kernel_rfl) (by kernel_rfl) (fun _ _ _ h => h) (Or.inl ⟨by rfl, ?_⟩) hS2 ?_
            rotate_left
            · intro y hSy; obtain ⟨y0, y1, y2, y3, y4⟩ := hSy; go_simp; try with_reducible rfl
            simp only [Act.put, List.setIfInBounds_toArray, List.set_cons_succ, List.set_cons_zero]
            refine wpAnyH_take (i := 3) (oi := { dst := some 18, op := Op.move (Operand.tmp 17), type := 4, pos := "l07_cache.go:44", after := #[{ on := 2, ground := Ground.data }, { on := 1, ground := Ground.chain }], guard := none }) (v := ?_) rfl (by kernel_rfl) (by kernel_rfl) (by kernel_rfl) (fun _ _ _ h => h) (Or.inl ⟨by rfl, ?_⟩) hS2 ?_
            rotate_left
            · intro y hSy; obtain ⟨y0, y1, y2, y3, y4⟩ := hSy; go_simp; try with_reducible rfl
            simp only [Act.put, List.setIfInBounds_toArray, List.set_cons_succ, List.set_cons_zero]
            refine wpAnyH_take (i := 4) (oi := { dst := some 19, op := Op.move (Operand.tmp 3), type := 3, pos := "l07_cache.go:44", after := #[{ on := 3, ground := Ground.guard }], guard := some (3, false) }) (v := ?_) rfl (by kernel_rfl) (by kernel_rfl) (by kernel_rfl) (fun _ _ _ h => h) (Or.inl ⟨by rfl, ?_⟩) hS2 ?_
            rotate_left
            · intro y hSy; obtain ⟨y0, y1, y2, y3, y4⟩ := hSy; go_simp; try with_reducible rfl
            simp only [Act.put, List.setIfInBounds_toArray, List.set_cons_succ, List.set_cons_zero]
            refine wpAnyH_take (i := 5) (oi := { dst := some 20, op := Op.binOp BinOp.gtr 3 (Operand.tmp 19) (Operand.const (Value.int IntKind.i64 0)) 3, type := 4, pos := "l07_cache.go:44", after := #[{ on := 4, ground := Ground.data }, { on := 3, ground := Ground.guard }], guard := some (3, false) }) (v := ?_) rfl (by kernel_rfl) (by kernel_rfl) (by kernel_rfl) (fun _ _ _ h => h) (Or.inl ⟨by rfl, ?_⟩) hS2 ?_
            rotate_left
            · intro y hSy; obtain ⟨y0, y1, y2, y3, y4⟩ := hSy; go_simp; try with_reducible rfl
            simp only [Act.put, List.setIfInBounds_toArray, List.set_cons_succ, List.set_cons_zero]
            refine wpAnyH_take (i := 6) (oi := { dst := some 21, op := Op.move (Operand.tmp 20), type := 4, pos := "l07_cache.go:44", after := #[{ on := 5, ground := Ground.data }, { on := 3, ground := Ground.chain }, { on := 3, ground := Ground.guard }], guard := some (3, false) }) (v := ?_) rfl (by kernel_rfl) (by kernel_rfl) (by kernel_rfl) (fun _ _ _ h => h) (Or.inl ⟨by rfl, ?_⟩) hS2 ?_
            rotate_left
            · intro y hSy; obtain ⟨y0, y1, y2, y3, y4⟩ := hSy; go_simp; try with_reducible rfl
            simp only [Act.put, List.setIfInBounds_toArray, List.set_cons_succ, List.set_cons_zero]
            refine wpAnyH_take (i := 7) (oi := { dst := some 22, op := Op.move (Operand.tmp 0), type := 34, pos := "l07_cache.go:44", after := #[{ on := 6, ground := Ground.guard }], guard := some (6, true) }) (v := ?_) rfl (by kernel_rfl) (by kernel_rfl) (by kernel_rfl) (fun _ _ _ h => h) (Or.inl ⟨by rfl, ?_⟩) hS2 ?_
            rotate_left
            · intro y hSy; obtain ⟨y0, y1, y2, y3, y4⟩ := hSy; go_simp; try with_reducible rfl
            simp only [Act.put, List.setIfInBounds_toArray, List.set_cons_succ, List.set_cons_zero]
            refine wpAnyH_take (i := 8) (oi := { dst := some 23, op := Op.move (Operand.tmp 3), type := 3, pos := "l07_cache.go:44", after := #[{ on := 6, ground := Ground.guard }], guard := some (6, true) }) (v := ?_) rfl (by kernel_rfl) (by kernel_rfl) (by kernel_rfl) (fun _ _ _ h => h) (Or.inl ⟨by rfl, ?_⟩) hS2 ?_
            rotate_left
            · intro y hSy; obtain ⟨y0, y1, y2, y3, y4⟩ := hSy; go_simp; try with_reducible rfl
            simp only [Act.put, List.setIfInBounds_toArray, List.set_cons_succ, List.set_cons_zero]
            refine wpAnyH_take (i := 9) (oi := { dst := some 24, op := Op.binOp BinOp.sub 3 (Operand.tmp 23) (Operand.const (Value.int IntKind.i64 1)) 3, type := 3, pos := "l07_cache.go:44", after := #[{ on := 8, ground := Ground.data }, { on := 6, ground := Ground.guard }], guard := some (6, true) }) (v := ?_) rfl (by kernel_rfl) (by kernel_rfl) (by kernel_rfl) (fun _ _ _ h => h) (Or.inl ⟨by rfl, ?_⟩) hS2 ?_
            rotate_left
            · intro y hSy; obtain ⟨y0, y1, y2, y3, y4⟩ := hSy; go_simp; try with_reducible rfl
            simp only [Act.put, List.setIfInBounds_toArray, List.set_cons_succ, List.set_cons_zero]
            refine wpAnyH_take (i := 10) (oi := { dst := some 25, op := Op.indexAddr 34 (Operand.tmp 22) (Operand.tmp 24), type := 0, pos := "l07_cache.go:44", after := #[{ on := 7, ground := Ground.data }, { on := 9, ground := Ground.data }, { on := 6, ground := Ground.guard }], guard := some (6, true) }) (v := ?_) rfl (by kernel_rfl) (by kernel_rfl) (by kernel_rfl) (fun _ _ _ h => h) (Or.inl ⟨by rfl, ?_⟩) hS2 ?_
            rotate_left
            · intro y hSy; obtain ⟨y0, y1, y2, y3, y4⟩ := hSy; go_simp; try with_reducible rfl
            simp only [Act.put, List.setIfInBounds_toArray, List.set_cons_succ, List.set_cons_zero]
            refine wpAnyH_take (i := 11) (oi := { dst := some 26, op := Op.fieldAddr 105 (Operand.tmp 25) 0, type := 0, pos := "l07_cache.go:44", after := #[{ on := 10, ground := Ground.data }, { on := 6, ground := Ground.guard }], guard := some (6, true) }) (v := ?_) rfl (by kernel_rfl) (by kernel_rfl) (by kernel_rfl) (fun _ _ _ h => h) (Or.inl ⟨by rfl, ?_⟩) hS2 ?_
            rotate_left
            · intro y hSy; obtain ⟨y0, y1, y2, y3, y4⟩ := hSy; go_simp; try with_reducible rfl
            simp only [Act.put, List.setIfInBounds_toArray, List.set_cons_succ, List.set_cons_zero]
            refine wpAnyH_take (i := 12) (oi := { dst := some 27, op := Op.load 9 (Operand.tmp 26), type := 9, pos := "l07_cache.go:44", after := #[{ on := 11, ground := Ground.data }, { on := 6, ground := Ground.guard }], guard := some (6, true) }) (v := ?_) rfl (by kernel_rfl) (by kernel_rfl) (by kernel_rfl) (fun _ _ _ h => h) (Or.inl ⟨by rfl, ?_⟩) hS2 ?_
            rotate_left
            · intro y hSy; obtain ⟨y0, y1, y2, y3, y4⟩ := hSy; go_simp; try with_reducible rfl
            simp only [Act.put, List.setIfInBounds_toArray, List.set_cons_succ, List.set_cons_zero]
            refine wpAnyH_take (i := 13) (oi := { dst := some 28, op := Op.fieldAddr 105 (Operand.tmp 4) 0, type := 0, pos := "l07_cache.go:44", after := #[{ on := 6, ground := Ground.guard }], guard := some (6, true) }) (v := ?_) rfl (by kernel_rfl) (by kernel_rfl) (by kernel_rfl) (fun _ _ _ h => h) (Or.inl ⟨by rfl, ?_⟩) hS2 ?_
            rotate_left
            · intro y hSy; obtain ⟨y0, y1, y2, y3, y4⟩ := hSy; go_simp; try with_reducible rfl
            simp only [Act.put, List.setIfInBounds_toArray, List.set_cons_succ, List.set_cons_zero]
            refine wpAnyH_take (i := 14) (oi := { dst := some 29, op := Op.load 9 (Operand.tmp 28), type := 9, pos := "l07_cache.go:44", after := #[{ on := 13, ground := Ground.data }, { on := 6, ground := Ground.guard }], guard := some (6, true) }) (v := ?_) rfl (by kernel_rfl) (by kernel_rfl) (by kernel_rfl) (fun _ _ _ h => h) (Or.inl ⟨by rfl, ?_⟩) hS2 ?_
            rotate_left
            · intro y hSy; obtain ⟨y0, y1, y2, y3, y4⟩ := hSy; go_simp; try with_reducible rfl
            simp only [Act.put, List.setIfInBounds_toArray, List.set_cons_succ, List.set_cons_zero]
            refine wpAnyH_take (i := 15) (oi := { dst := some 30, op := Op.binOp BinOp.geq 9 (Operand.tmp 27) (Operand.tmp 29) 9, type := 4, pos := "l07_cache.go:44", after := #[{ on := 12, ground := Ground.data }, { on := 14, ground := Ground.data }, { on := 6, ground := Ground.guard }], guard := some (6, true) }) (v := ?_) rfl (by kernel_rfl) (by kernel_rfl) (by kernel_rfl) (fun _ _ _ h => h) (Or.inl ⟨by rfl, ?_⟩) hS2 ?_
            rotate_left
            · intro y hSy; obtain ⟨y0, y1, y2, y3, y4⟩ := hSy; go_simp; try with_reducible rfl
            simp only [Act.put, List.setIfInBounds_toArray, List.set_cons_succ, List.set_cons_zero]
            refine wpAnyH_take (i := 16) (oi := { dst := some 31, op := Op.pick (Operand.tmp 21) (Operand.tmp 30) (Operand.const (Value.bool false)), type := 4, pos := "l07_cache.go:44", after := #[{ on := 6, ground := Ground.data }, { on := 15, ground := Ground.data }, { on := 3, ground := Ground.guard }], guard := some (3, false) }) (v := ?_) rfl (by kernel_rfl) (by kernel_rfl) (by kernel_rfl) (fun _ _ _ h => h) (Or.inl ⟨by rfl, ?_⟩) hS2 ?_
            rotate_left
            · intro y hSy; obtain ⟨y0, y1, y2, y3, y4⟩ := hSy; go_simp; try with_reducible rfl
            simp only [Act.put, List.setIfInBounds_toArray, List.set_cons_succ, List.set_cons_zero]
            refine wpAnyH_take (i := 17) (oi := { dst := some 32, op := Op.pick (Operand.tmp 18) (Operand.const (Value.bool true)) (Operand.tmp 31), type := 4, pos := "l07_cache.go:44", after := #[{ on := 3, ground := Ground.data }, { on := 16, ground := Ground.data }], guard := none }) (v := ?_) rfl (by kernel_rfl) (by kernel_rfl) (by kernel_rfl) (fun _ _ _ h => h) (Or.inl ⟨by rfl, ?_⟩) hS2 ?_
            rotate_left
            · intro y hSy; obtain ⟨y0, y1, y2, y3, y4⟩ := hSy; go_simp; try with_reducible rfl
            simp only [Act.put, List.setIfInBounds_toArray, List.set_cons_succ, List.set_cons_zero]
            refine wpAnyH_done (by kernel_rfl) ?_ _
            go_wp2_with fail
            go_ret
            exact ⟨retB (unhide HE), unhide HB2⟩
    · have q2 : ¬ (k : Int) < (len : Int) := by omega
      have HE : Hid (cacheB P = true) := by
        show _ = _
        have := unhide HT10
        rw [cacheB_end (by have := HL.out; omega) hu, HL.out]
        simpa using this
      clear hb hu
      go_wp2_with fail
      go_ret
      exact ⟨retB (unhide HE), unhide HB⟩

end Go.Proofs.YtbohladjahpfcaaGreat
