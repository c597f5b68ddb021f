/- How a term reads, as plain functions; and the walk of spec.l1Digits. The walk of laws.markText: the text of a mark; nothing that was there is written. The walks of laws.eqStringS, laws.markStringS and laws.heldStringS over rows of texts. Texts in blocks of their own, marks of texts; the walks of impl's each over texts, impl.ownPolicy and spec.l7Copy: the policy with its texts in memory of its own. The walks of impl's each over texts, impl.ownPolicy and spec.l7Copy: the policy with its texts in memory of its own. The walks of spec.CacheGet and impl.CacheGet: the first policy of that domain that is not over, in memory of its own; nothing that was there is written. Right caches, and the walk of spec.CacheOk. The walk of impl.CacheOk. A letter as plain data: its five cells in a block of their own; the walks of laws.szLetter, toLetter, eqLetter. Right letters, and the walks of spec.LetterOk, impl.LetterOk and its small pieces; nothing that was there is written. impl.ClientOk, walked. What a right world is; both sides' answers on its parts, told by a part's cells. The number of the host of a name: the walks of spec.HostNamed, impl.hostNamed and impl.HostNamed; nothing that was there is written. impl.eachOk at terms, hosts and letters: it answers whether there are so many at most, each of them right by the function that is handed in. impl.eachOk at calls and talks: the function that is handed in is a method with its world bound. The parts of impl.WorldOk: hostOk, there, the two sides that embed it, and the methods that make them; nothing that was there is written. impl.namedOnce and impl.toldOk; nothing that was there is written. -/
import Derived.Test.YtbbidjckplpaiaaGreatDoorEq
import Derived.Lib.ItoaLen
import Derived.Lib.AppendIntMem
import Derived.Test.YtbbidjckplpaiaaGreatDoorStk
import Derived.Test.YtbbidjckplpaiaaGreatDoorHj
import Derived.Deep.RegionHeld3
import Derived.Test.YtbbidjckplpaiaaGreatDoorQl
import Derived.Deep.Upon
import Derived.Deep.AppendSrc
import Derived.BigCall
import Derived.OrdersHeld
import Derived.Test.YtbbidjckplpaiaaGreatDoorClt
import Derived.Test.YtbbidjckplpaiaaGreatDoorClu
import Derived.Test.YtbbidjckplpaiaaGreatDoorWwd
import Derived.Test.YtbbidjckplpaiaaGreatDoorSoi
import Derived.Deep.MidRow
import Derived.Deep.RegionWith
namespace Go.Proofs.YtbbidjckplpaiaaGreatDoor
open Go.RowKit Go.Deep

theorem conv1 (x : Int) (v : World) : (convert 164 9 (.slice (some ⟨v.heap.size, 0, none⟩) 1 1)).run Tryz.prog (v.alloc (.cells #[.int .u8 x] 5)) = .ok (.string ⟨[UInt8.ofNat x.toNat].toArray⟩) (v.alloc (.cells #[.int .u8 x] 5)) :=
  run_convert_bytes_arg _ 164 5 Tryz.underlying164 Tryz.underlying5 v.heap.size 0 1 1 [x] rfl (fun i hi => by
    obtain rfl : i = 0 := by omega
    exact box_cell v _ 5 0 _ rfl) 9 Tryz.underlying9

theorem cat_list (a b : List UInt8) : (⟨a.toArray⟩ ++ ⟨b.toArray⟩ : ByteArray) = ⟨(a ++ b).toArray⟩ := by
  apply Go.WideShapes.bytes_inj
  simp

/-- The digits ahead of those that are there. -/
def upper (m : Nat) : List UInt8 := if m = 0 then [] else Lib.decDigits m
theorem upper_step {m : Nat} (h : m ≠ 0) : upper m = upper (m / 10) ++ [48 + UInt8.ofNat (m % 10)] := by
  have e : (48 : UInt8) + UInt8.ofNat (m % 10) = UInt8.ofNat (48 + m % 10) := by rw [UInt8.ofNat_add]; rfl
  rw [e]
  unfold upper
  rw [if_neg h]
  by_cases hs : m < 10
  · rw [if_pos (by omega), Lib.decDigits_one hs, show m % 10 = m by omega]
    rfl
  · rw [if_neg (by omega), Lib.decDigits, dif_neg hs]

theorem ret_str {a b : ByteArray} (h : a = b) : Ending.returned (.string a) = .returned (.string b) := by rw [h]

theorem upper_pos {m : Nat} (h : m ≠ 0) : upper m = Lib.decDigits m := by unfold upper; rw [if_neg h]

/-- The text of the mark u, of one above 0. -/
def mtx (u : Nat) : ByteArray := ⟨(109 :: Lib.decDigits u).toArray⟩

theorem mtx_size {u : Nat} (h : (u : Int) ≤ 9223372036854775807) : (mtx u).size ≤ 22 := by
  have := Lib.itoa_length_le (u : Int) (by omega) h
  rw [Lib.itoa_nonneg] at this
  simp [mtx, ByteArray.size]
  exact this

/-- The texts stand in the places of a row. -/
def Stand (w : World) (g : Nat) (l : List ByteArray) : Prop := ∀ k t, l[k]? = some t → w.cell? ⟨g, k, none⟩ = some (.string t)
theorem Stand.on {w w' : World} {g : Nat} {l : List ByteArray} (h : Stand w g l) (hb : Below w.heap.size w w') : Stand w' g l := fun k t hk => below_some hb (h k t hk)

theorem below_drewX {w v : World} (h : Below w.drew.heap.size w.drew v) : Below w.heap.size w v := ((Below.refl _ _).drew).trans h

set_option maxRecDepth 100000 in
set_option maxHeartbeats 1000000 in
theorem eqS_yes (l : List ByteArray) (g g' c c' : Nat) (w : World) (hl : l.length ≤ 2097153) (h : Stand w g l) (h' : Stand w g' l) :
    Calls Tryz.prog 103 #[.slice (some ⟨g, 0, none⟩) l.length c, .slice (some ⟨g', 0, none⟩) l.length c'] w fun e w' => e = .returned (.bool true) ∧ Below w.heap.size w w' := by
  have H := hide h
  have H' := hide h'
  clear h h'
  go_enter Tryz.func103, Tryz.ntmps103
  go_wp2_with fail
  go_loopw [5] (fun n wr => ∃ k : Nat, n = .int .i64 k ∧ Below w.heap.size w wr ∧ k ≤ l.length) (fun n _ => l.length - (intOf n).toNat)
  case atStart => exact ⟨0, rfl, Below.refl _ _, by omega⟩
  case round =>
    obtain ⟨k, rfl, hb, hk⟩ := hrel
    have HB := hide hb
    by_cases hp : k < l.length
    · obtain ⟨t, ht⟩ : ∃ t, l[k]? = some t := ⟨_, List.getElem?_eq_getElem hp⟩
      have c0 := (unhide H).on hb k t ht
      have c1 := (unhide H').on hb k t ht
      have c2 : (k : Int) < (l.length : Int) := by omega
      have c3 : (0 : Int) ≤ (k : Int) := by omega
      have w1 : wrap64 ((k : Int) + 1) = ((k + 1 : Nat) : Int) := by unfold wrap64; omega
      clear hb ht
      generalize hL : l.length = L at *
      go_wp2_with fail
      go_region
      go_wp2_with fail
      go_roundw
      case rel => exact ⟨k + 1, rfl, (unhide HB).drew, by omega⟩
      case measure => simp only [intOf]; omega
    · have c2 : ¬ (k : Int) < (l.length : Int) := by omega
      clear hb
      generalize hL : l.length = L at *
      go_wp2_with fail
      go_ret
      exact ⟨rfl, unhide HB⟩

/-- A row of texts of its own, marked up to a place. -/
def Marked (w : World) (g L i : Nat) : Prop := ∃ cur : Array Value, w.heap[g]? = some (.cells cur 9 (0, 0)) ∧ L ≤ cur.size ∧ ∀ j, j < i → cur[j]? = some (.string (mtx (j + 1)))
theorem Marked.on {w w' : World} {g L i : Nat} (h : Marked w g L i) (hb : Below w.heap.size w w') : Marked w' g L i := by
  obtain ⟨cur, h1, h2, h3⟩ := h
  exact ⟨cur, by rw [hb.block g (Array.getElem?_eq_some_iff.1 h1).1, h1], h2, h3⟩
theorem Marked.next {w : World} {g L i : Nat} (h : Marked w g L i) (hi : i < L) : Marked (w.setCell ⟨g, i, none⟩ (.string (mtx (i + 1)))) g L (i + 1) := by
  obtain ⟨cur, h1, h2, h3⟩ := h
  have e := heap_setCell_same w g i cur 9 (.string (mtx (i + 1))) h1
  refine ⟨_, e, by simpa using h2, fun j hj => ?_⟩
  rcases Nat.lt_or_ge j i with hl | hl
  · rw [Array.getElem?_setIfInBounds_ne (by omega)]
    exact h3 j hl
  · obtain rfl : j = i := by omega
    rw [Array.getElem?_setIfInBounds_self_of_lt (by omega)]
theorem Marked.cell {w : World} {g L i j : Nat} (h : Marked w g L i) (hj : j < i) : w.cell? ⟨g, j, none⟩ = some (.string (mtx (j + 1))) := by
  obtain ⟨cur, h1, h2, h3⟩ := h
  have hc : j < cur.size := (Array.getElem?_eq_some_iff.1 (h3 j hj)).1
  rw [cell_of_row h1 hc, ← h3 j hj, Array.getElem?_eq_getElem hc]
theorem Marked.some {w : World} {g L i j : Nat} (h : Marked w g L i) (hj : j < L) : ∃ v, w.cell? ⟨g, j, none⟩ = Option.some v := by
  obtain ⟨cur, h1, h2, h3⟩ := h
  exact ⟨_, cell_of_row h1 (show j < cur.size by omega)⟩
theorem Marked.free {w : World} {g L i j : Nat} (h : Marked w g L i) : w.frozen? ⟨g, j, none⟩ = false := by
  obtain ⟨cur, h1, h2, h3⟩ := h
  simp [World.frozen?, h1]

/-- Nothing is written but blocks of S. -/
structure Chg (S : Nat → Prop) (w w' : World) : Prop where
  os : w'.os = w.os
  tape : w'.tape = w.tape
  output : w'.output = w.output
  size : w.heap.size ≤ w'.heap.size
  block : ∀ k, k < w.heap.size → ¬ S k → w'.heap[k]? = w.heap[k]?
theorem Chg.refl (S : Nat → Prop) (w : World) : Chg S w w := ⟨rfl, rfl, rfl, Nat.le_refl _, fun _ _ _ => rfl⟩
theorem Chg.trans {S : Nat → Prop} {a b c : World} (h : Chg S a b) (k : Chg S b c) : Chg S a c :=
  ⟨k.os.trans h.os, k.tape.trans h.tape, k.output.trans h.output, Nat.le_trans h.size k.size, fun i hi hf => (k.block i (Nat.lt_of_lt_of_le hi h.size) hf).trans (h.block i hi hf)⟩
theorem Chg.mono {S S' : Nat → Prop} {a b : World} (h : Chg S a b) (hs : ∀ x, S x → S' x) : Chg S' a b := ⟨h.os, h.tape, h.output, h.size, fun k hk hf => h.block k hk fun hx => hf (hs k hx)⟩
theorem Chg.of_below {S : Nat → Prop} {a b : World} (h : Below a.heap.size a b) : Chg S a b := ⟨h.os, h.tape, h.output, h.size, fun k hk _ => h.block k hk⟩
theorem Chg.below {S : Nat → Prop} {a b : World} {B : Nat} (h : Chg S a b) (hB : B ≤ a.heap.size) (hf : ∀ x, S x → B ≤ x) : Below B a b :=
  ⟨h.os, h.tape, h.output, h.size, fun k hk => h.block k (by omega) fun hx => absurd (hf k hx) (by omega)⟩
theorem Chg.set {S : Nat → Prop} {a b : World} (h : Chg S a b) {p : Addr} (hp : S p.block) (u : Value) : Chg S a (b.setCell p u) :=
  ⟨h.os, h.tape, h.output, by simpa using h.size, fun k hk hf => by rw [Below.heap_setCell b p u k (fun e => hf (by rw [e]; exact hp))]; exact h.block k hk hf⟩
theorem Chg.on {S : Nat → Prop} {a b c : World} (h : Chg S a b) (hb : Below b.heap.size b c) : Chg S a c := h.trans (Chg.of_below hb)

/-- Texts in a block of their own. -/
def TxOwn (w : World) (x : Option Addr) (l : List ByteArray) (f : Option Nat) : Prop :=
  l = [] ∨ ∃ (b : Nat) (C : Array Value), x = some ⟨b, 0, none⟩ ∧ f = some b ∧ w.heap[b]? = some (.cells C 9 (0, 0)) ∧ l.length ≤ C.size ∧ ∀ (j : Nat) (t : ByteArray), l[j]? = some t → C[j]? = some (Value.string t)
theorem TxOwn.keep {w w' : World} {x : Option Addr} {l : List ByteArray} {f : Option Nat} (h : TxOwn w x l f) (hf : ∀ b, f = some b → w'.heap[b]? = w.heap[b]?) : TxOwn w' x l f := by
  rcases h with h | ⟨b, C, h1, h2, h3, h4⟩
  · exact Or.inl h
  · exact Or.inr ⟨b, C, h1, h2, by rw [hf b h2, h3], h4⟩
theorem TxOwn.on {w w' : World} {x : Option Addr} {l : List ByteArray} {f : Option Nat} (h : TxOwn w x l f) (hb : Below w.heap.size w w') : TxOwn w' x l f := by
  rcases h with h | ⟨b, C, h1, h2, h3, h4⟩
  · exact Or.inl h
  · exact Or.inr ⟨b, C, h1, h2, by rw [hb.block b (Array.getElem?_eq_some_iff.1 h3).1, h3], h4⟩
theorem TxOwn.chg {w w' : World} {x : Option Addr} {l : List ByteArray} {f : Option Nat} {S : Nat → Prop} (h : TxOwn w x l f) (hc : Chg S w w') (hf : ∀ b, f = some b → ¬ S b) : TxOwn w' x l f := by
  rcases h with h | ⟨b, C, h1, h2, h3, h4⟩
  · exact Or.inl h
  · exact Or.inr ⟨b, C, h1, h2, by rw [hc.block b (Array.getElem?_eq_some_iff.1 h3).1 (hf b h2), h3], h4⟩
theorem TxOwn.txt {w : World} {x : Option Addr} {l : List ByteArray} {f : Option Nat} (h : TxOwn w x l f) : Txt w 0 x l := fun k t hk => by
  rcases h with rfl | ⟨b, C, h1, h2, h3, h4, h5⟩
  · simp at hk
  · have hc := h5 k t hk
    have hks : k < C.size := (Array.getElem?_eq_some_iff.1 hc).1
    refine ⟨b, 0, h1, Nat.zero_le _, ?_⟩
    rw [Nat.zero_add, cell_of_row h3 hks, ← Array.getElem?_eq_getElem hks, hc]
theorem Txs.own {w wr : World} {l : List ByteArray} {v : Value} (h : Txs w l v wr) : ∃ x c f, v = .slice x l.length c ∧ TxOwn wr x l f ∧ ∀ b, f = some b → w.heap.size ≤ b ∧ b < wr.heap.size := by
  rcases h.2 with ⟨h1, h2⟩ | ⟨g, cap, cur, h1, h2, h3, h4, h5, h6, h7⟩
  · exact ⟨none, 0, none, by rw [h1, h2], Or.inl (List.length_eq_zero_iff.1 h2), fun b hb => by cases hb⟩
  · refine ⟨some ⟨g, 0, none⟩, cap, some g, h1, Or.inr ⟨g, cur, rfl, rfl, h3, by omega, fun k t hk => ?_⟩, fun b hb => ?_⟩
    · have hk' : k < l.length := (List.getElem?_eq_some_iff.1 hk).1
      have e : (cur.toList.take (l.length * 1))[k]? = some (.string t) := by rw [h7]; simp [hk]
      rwa [List.getElem?_take, if_pos (by omega), Array.getElem?_toList] at e
    · simp only [Option.some.injEq] at hb
      subst hb
      exact ⟨h2, (Array.getElem?_eq_some_iff.1 h3).1⟩

/-- The marks from k on. -/
def markTx (n k : Nat) : List ByteArray := (List.range n).map fun j => mtx (k + j)
theorem markTx_length (n k : Nat) : (markTx n k).length = n := by simp [markTx]
theorem markTx_get {n k j : Nat} (h : j < n) : (markTx n k)[j]? = some (mtx (k + j)) := by simp [markTx, h]
theorem markTx_of {n k j : Nat} {t : ByteArray} (h : (markTx n k)[j]? = some t) : t = mtx (k + j) := by
  have hj : j < n := by have := (List.getElem?_eq_some_iff.1 h).1; rwa [markTx_length] at this
  rw [markTx_get hj] at h
  exact (Option.some.inj h).symm

/-- A row of texts of its own, marked from k on up to a place. -/
def MkdK (w : World) (g L k i : Nat) : Prop := ∃ cur : Array Value, w.heap[g]? = some (.cells cur 9 (0, 0)) ∧ L ≤ cur.size ∧ ∀ j, j < i → cur[j]? = some (.string (mtx (k + j)))
theorem MkdK.on {w w' : World} {g L k i : Nat} (h : MkdK w g L k i) (hb : Below w.heap.size w w') : MkdK w' g L k i := by
  obtain ⟨cur, h1, h2, h3⟩ := h
  exact ⟨cur, by rw [hb.block g (Array.getElem?_eq_some_iff.1 h1).1, h1], h2, h3⟩
theorem MkdK.next {w : World} {g L k i : Nat} (h : MkdK w g L k i) (hi : i < L) : MkdK (w.setCell ⟨g, i, none⟩ (.string (mtx (k + i)))) g L k (i + 1) := by
  obtain ⟨cur, h1, h2, h3⟩ := h
  have e := heap_setCell_same w g i cur 9 (.string (mtx (k + i))) h1
  refine ⟨_, e, by simpa using h2, fun j hj => ?_⟩
  rcases Nat.lt_or_ge j i with hl | hl
  · rw [Array.getElem?_setIfInBounds_ne (by omega)]
    exact h3 j hl
  · obtain rfl : j = i := by omega
    rw [Array.getElem?_setIfInBounds_self_of_lt (by omega)]
theorem MkdK.has {w : World} {g L k i j : Nat} (h : MkdK w g L k i) (hj : j < L) : ∃ v, w.cell? ⟨g, j, none⟩ = some v := by
  obtain ⟨cur, h1, h2, h3⟩ := h
  exact ⟨_, cell_of_row h1 (show j < cur.size by omega)⟩
theorem MkdK.free {w : World} {g L k i j : Nat} (h : MkdK w g L k i) : w.frozen? ⟨g, j, none⟩ = false := by
  obtain ⟨cur, h1, h2, h3⟩ := h
  simp [World.frozen?, h1]
theorem MkdK.own {w : World} {g L k : Nat} (h : MkdK w g L k L) : TxOwn w (some ⟨g, 0, none⟩) (markTx L k) (some g) := by
  obtain ⟨cur, h1, h2, h3⟩ := h
  refine Or.inr ⟨g, cur, rfl, rfl, h1, by rw [markTx_length]; exact h2, fun j t hj => ?_⟩
  have hjL : j < L := by have := (List.getElem?_eq_some_iff.1 hj).1; rwa [markTx_length] at this
  rw [markTx_of hj]
  exact h3 j hjL

theorem Txs.empty (w : World) : Txs w [] (.slice none 0 0) w := ⟨rfl, Or.inl ⟨rfl, rfl⟩⟩

theorem Txs.base {w v0 wr : World} {l : List ByteArray} {v : Value} (h : Txs v0 l v wr) (hs : w.heap.size ≤ v0.heap.size) : Txs w l v wr := by
  refine ⟨h.1, ?_⟩
  rcases h.2 with h2 | ⟨g, cap, cur, h1, h2, h3⟩
  · exact Or.inl h2
  · exact Or.inr ⟨g, cap, cur, h1, by omega, h3⟩
theorem Txs.set {w0 wr : World} {l : List ByteArray} {v : Value} (h : Txs w0 l v wr) {p : Addr} (hp : p.block < w0.heap.size) (u : Value) : Txs w0 l v (wr.setCell p u) := by
  refine ⟨h.1, ?_⟩
  rcases h.2 with h2 | ⟨g, cap, cur, h1, h2, h3, h4⟩
  · exact Or.inl h2
  · exact Or.inr ⟨g, cap, cur, h1, h2, by rw [Below.heap_setCell wr p u g (by omega)]; exact h3, h4⟩
theorem RowP.set0 {ty : TypeId} {w : World} {b : Nat} {d : ByteArray} {m : Int} {a : Option Addr} {len cap : Nat} {u : Int} (hr : RowP ty w b d m a len cap u) (d' : ByteArray) : RowP ty (w.setCell ⟨b, 0, none⟩ (.string d')) b d' m a len cap u := by
  unfold RowP at hr ⊢
  rw [heap_setCell_same w b 0 _ ty _ hr]
  rfl
theorem RowP.set2 {ty : TypeId} {w : World} {b : Nat} {d : ByteArray} {m : Int} {a : Option Addr} {len cap : Nat} {u : Int} (hr : RowP ty w b d m a len cap u) (a' : Option Addr) (len' cap' : Nat) : RowP ty (w.setCell ⟨b, 2, none⟩ (.slice a' len' cap')) b d m a' len' cap' u := by
  unfold RowP at hr ⊢
  rw [heap_setCell_same w b 2 _ ty _ hr]
  rfl
theorem RowP.far {ty : TypeId} {w : World} {b : Nat} {d : ByteArray} {m : Int} {a : Option Addr} {len cap : Nat} {u : Int} (hr : RowP ty w b d m a len cap u) {p : Addr} (hp : b ≠ p.block) (v : Value) : RowP ty (w.setCell p v) b d m a len cap u := by
  unfold RowP at hr ⊢
  rw [Below.heap_setCell w p v b hp]
  exact hr
theorem RowP.froz {ty : TypeId} {w : World} {b : Nat} {d : ByteArray} {m : Int} {a : Option Addr} {len cap : Nat} {u : Int} (hr : RowP ty w b d m a len cap u) (j : Nat) : w.frozen? ⟨b, j, none⟩ = false := frozen_of_row hr
theorem setBelow {w v : World} (h : Below w.heap.size w v) {p : Addr} (hp : w.heap.size ≤ p.block) (u : Value) : Below w.heap.size w (v.setCell p u) := h.setCell hp u

/-- All of a list, behind nothing. -/
theorem Txs.many {w wr : World} {g : Nat} (h : Txs w [] (.slice (some ⟨g, 0, none⟩) 0 0) wr) (hbw : Below w.heap.size w wr) {l : List ByteArray} {x : Option Addr} (hx : Txt wr 0 x l) (hn : l.length ≤ 2097152) (c : Nat) (ty : TypeId) :
    ∃ v' w', (Builtin.append_ #[79, 79] ty #[.slice (some ⟨g, 0, none⟩) 0 0, .slice x l.length c]).run Tryz.prog wr = .ok v' w' ∧ (Txs w l v' w' ∧ Below w.heap.size w w') := by
  obtain ⟨i, hi, hzz⟩ := Option.map_eq_some_iff.1 infoS
  simp only [Prod.mk.injEq] at hzz
  obtain ⟨hz, hs, hby⟩ := hzz
  cases x with
  | none =>
    have hl : l = [] := by
      cases l with
      | nil => rfl
      | cons t r => obtain ⟨b, o, h1, _⟩ := hx 0 t rfl; cases h1
    subst hl
    exact ⟨_, _, run_append_nothing (P := Tryz.prog) wr 79 79 ty 9 i Tryz.underlying79 hi _ 0 0 (Nat.le_refl _) _ (Src.ofNil wr Tryz.underlying79 c), h, hbw⟩
  | some a =>
    obtain ⟨v', w', g1, g2, g3, _⟩ := run_append_own_wide (P := Tryz.prog) wr w.heap.size 79 ty 9 i _ 1 16 Tryz.underlying79 hi hz hs hby rfl (by omega) _ 0 _ h a l.length c (l.map fun b => Value.string b)
      (by simp) (fun j u hj => by
        simp only [List.getElem?_map, Option.map_eq_some_iff] at hj
        obtain ⟨t, ht, rfl⟩ := hj
        obtain ⟨b, o, h1, _, h3⟩ := hx j t ht
        simp only [Option.some.injEq] at h1
        subst h1
        rw [Addr.add_mid]
        exact h3) (fun u hu => by simp at hu; obtain ⟨t, _, rfl⟩ := hu; rfl) (by unfold maxLen; omega) (by omega) hbw.size
    refine ⟨v', w', g1, ?_, hbw.grown g3 hbw.size (fun k hk => (World.ownsRow.lt h k hk).1)⟩
    unfold Txs
    simpa using g2

open Classical in
noncomputable def gotQ (P : List Pol) (d : ByteArray) (now : Int) : Option Pol := P.find? fun p => decide (p.d = d) && decide (now ≤ p.u)
/-- What is asked of the sizes of policies. -/
def polZ (p : Pol) : Prop := p.l.length ≤ 2097152 ∧ (∀ t ∈ p.l, t.size ≤ 2097152) ∧ p.d.size ≤ 2097152
def zeroP : Pol := ⟨⟨#[]⟩, 0, [], 0⟩
theorem gotQ_none {P : List Pol} {d : ByteArray} {now : Int} {k : Nat} (hk : ¬ k < P.length) (h : ∀ j p, j < k → P[j]? = some p → ¬ (p.d = d ∧ now ≤ p.u)) : gotQ P d now = none := by
  unfold gotQ
  rw [List.find?_eq_none]
  intro p hp
  obtain ⟨j, hj, e⟩ := List.getElem_of_mem hp
  have := h j p (by omega) (by rw [List.getElem?_eq_getElem hj, e])
  simp only [Bool.and_eq_true, decide_eq_true_eq]
  exact this
theorem gotQ_some {P : List Pol} {d : ByteArray} {now : Int} {k : Nat} {p : Pol} (hk : P[k]? = some p) (h : ∀ j p, j < k → P[j]? = some p → ¬ (p.d = d ∧ now ≤ p.u)) (hp : p.d = d ∧ now ≤ p.u) : gotQ P d now = some p := by
  unfold gotQ
  rw [List.find?_eq_some_iff_getElem]
  obtain ⟨hkl, hke⟩ := List.getElem?_eq_some_iff.1 hk
  refine ⟨by simp [hp.1, hp.2], k, hkl, hke, fun j hj => ?_⟩
  have hjl : j < P.length := by omega
  have := h j P[j] hj (List.getElem?_eq_getElem hjl)
  simp only [Bool.not_eq_true', Bool.and_eq_false_iff, decide_eq_false_iff_not]
  by_cases e : (P[j]).d = d
  · exact Or.inr fun h2 => this ⟨e, h2⟩
  · exact Or.inl e
theorem eq_toList {a b : ByteArray} (h : a = b) : (a.toList == b.toList) = true := by rw [h]; simp
theorem ne_toList {a b : ByteArray} (h : ¬ a = b) : (a.toList == b.toList) = false := by
  simp only [beq_eq_false_iff_ne, ne_eq]
  intro e
  exact h (Go.WideShapes.bytes_inj (by rwa [Lib.toList_data, Lib.toList_data] at e))

theorem Tryz.mixedO : Tryz.prog.follows .mixedOrders = true := by kernel_rfl

theorem run_geqS (a b : ByteArray) (y : World) : (binOp BinOp.geq 9 (.string a) (.string b)).run Tryz.prog y = .ok (.bool (!Op.bytesLess a.toList b.toList)) y := by
  simp [binOp, go_sem, Op.stringOp]
theorem callFunc_enter {P : Program} {f : Nat} {fn : Func} {args : Array Value} {w : World} (hf : P.funcs[f]? = some fn) (hn : (fn.name == "runtime.NumGoroutine") = false) (hb : fn.body.isNone = false) :
    (callFunc f args).run P w = .ok (.enter f args) w := by
  simp [callFunc, go_sem, hf]
  rw [if_neg (by simpa using hn), if_neg (by intro h; rw [h] at hb; cases hb)]
theorem step_call {P : Program} {ops : Array Oper} {Q : Exit → Act → World → Prop} {i d f : Nat} {fn : Func} {xs : Array Operand} {ats : Array TypeId} {ty : TypeId} {pos : String} {after : Array Edge} {K : Act → World → Prop} {a : Act} {w : World}
    (ho : ops[i]? = some { dst := some d, op := .call { callee := .value (.func f), args := xs, argTypes := ats }, type := ty, pos := pos, after := after, guard := none })
    (hf : P.funcs[f]? = some fn) (hn : (fn.name == "runtime.NumGoroutine") = false) (hb : fn.body.isNone = false)
    {args : Array Value} (hx : xs.map a.eval = args) (h : Calls P f args w fun e w' => ∃ v, e = .returned v ∧ K (a.put (some d) v) w') :
    wpOp P ops Q i K a w := by
  refine wpOp_step ho fun K' hK => ?_
  rw [if_pos (by rfl)]
  unfold Oper.wp
  rw [execOp_call_go, callFunc_enter hf hn hb]
  have he : (#[] ++ xs.map a.eval ++ #[] : Array Value) = xs.map a.eval := by simp
  rw [he, hx]
  refine Calls.mono h ?_
  rintro e w' ⟨v, rfl, hv⟩
  exact hK _ _ hv

noncomputable def okP (p : Pol) : Bool := polB p.l p.d p.m p.u
def ltD (p q : Pol) : Bool := Go.Op.bytesLess p.d.toList q.d.toList
/-- So far right: each policy, and the domains ascending. -/
def upTo (P : List Pol) (k : Nat) : Prop := (∀ j p, j < k → P[j]? = some p → okP p = true) ∧ ∀ j p q, j + 1 < k → P[j]? = some p → P[j + 1]? = some q → ltD p q = true
theorem upTo.zero (P : List Pol) : upTo P 0 := ⟨fun j p h => by omega, fun j p q h => by omega⟩
theorem upTo.one {P : List Pol} {p : Pol} (h0 : P[0]? = some p) (h : okP p = true) : upTo P 1 := ⟨fun j q hj hq => by
  obtain rfl : j = 0 := by omega
  rw [h0] at hq; cases hq; exact h, fun j p q h => by omega⟩
theorem upTo.next {P : List Pol} {j : Nat} {q p : Pol} (hu : upTo P (j + 1)) (hq : P[j]? = some q) (hp : P[j + 1]? = some p) (h : okP p = true) (hl : ltD q p = true) : upTo P (j + 1 + 1) :=
  ⟨fun i x hi hx => by
    rcases Nat.lt_or_ge i (j + 1) with h1 | h1
    · exact hu.1 i x h1 hx
    · obtain rfl : i = j + 1 := by omega
      rw [hp] at hx; cases hx; exact h,
   fun i x y hi hx hy => by
    rcases Nat.lt_or_ge (i + 1) (j + 1) with h1 | h1
    · exact hu.2 i x y h1 hx hy
    · obtain rfl : i = j := by omega
      rw [hq] at hx; rw [hp] at hy; cases hx; cases hy; exact hl⟩
open Classical in
noncomputable def cacheB (P : List Pol) : Bool := decide (P.length ≤ 10 ∧ upTo P P.length)
open Classical in
theorem cacheB_no {P : List Pol} (h : ¬ (P.length ≤ 10 ∧ upTo P P.length)) : cacheB P = false := by
  simp only [cacheB, h, decide_false]
theorem cacheB_bad {P : List Pol} {k : Nat} {p : Pol} (hk : P[k]? = some p) (h : okP p = false) : cacheB P = false := by
  refine cacheB_no (fun hh => ?_)
  have := hh.2.1 k p (List.getElem?_eq_some_iff.1 hk).1 hk
  rw [h] at this
  cases this
theorem cacheB_order {P : List Pol} {j : Nat} {q p : Pol} (hq : P[j]? = some q) (hp : P[j + 1]? = some p) (h : ltD q p = false) : cacheB P = false := by
  refine cacheB_no (fun hh => ?_)
  have := hh.2.2 j q p (List.getElem?_eq_some_iff.1 hp).1 hq hp
  rw [h] at this
  cases this
theorem cacheB_end {P : List Pol} {k : Nat} (hk : ¬ k < P.length) (hu : upTo P k) : cacheB P = decide (P.length ≤ 10) := by
  have : upTo P P.length := ⟨fun j p hj => hu.1 j p (by omega), fun j p q hj => hu.2 j p q (by omega)⟩
  unfold cacheB
  by_cases h : P.length ≤ 10 <;> simp [h, this]


set_option maxRecDepth 100000 in
set_option maxHeartbeats 1000000 in
theorem cacheS (P : List Pol) (a : Option Addr) (cap : Nat) (w : World) (hl : Pols w 0 a P) (hm : P.length ≤ 2097152) (hz : ∀ p ∈ P, polZ p) :
    Calls Tryz.prog 43 #[.slice a P.length cap] w fun e w' => e = .returned (.bool (cacheB P)) ∧ Below w.heap.size w w' := by
  have H := hide hl
  have HZ := hide hz
  clear hl hz
  generalize hlen : P.length = len at *
  have HL : Hid (P.length = len) := hlen
  clear hlen
  go_enter Tryz.func43, Tryz.ntmps43
  go_wp2_with fail
  go_loopw [3] (fun n wr => ∃ k : Nat, n = .int .i64 k ∧ Below w.heap.size w wr ∧ k ≤ len ∧ upTo P k) (fun n _ => len - (intOf n).toNat)
  case atStart => exact ⟨0, rfl, Below.refl _ _, by omega, upTo.zero P⟩
  case round =>
    obtain ⟨k, rfl, hb, hk, hu⟩ := hrel
    have HB := hide hb
    have HU := hide hu
    by_cases hp : k < len
    · have hp' : k < P.length := by have := HL.out; omega
      obtain ⟨p, hkp⟩ : ∃ p, P[k]? = some p := ⟨_, List.getElem?_eq_getElem hp'⟩
      obtain ⟨b, o, x, xc, rfl, -, -, c0, c1, c2, c3, hT⟩ := ((unhide H).on hb).elem hkp
      have HT := hide (hT.on (Below.refl _ _).drew)
      have hpz := unhide HZ p (List.mem_of_getElem? hkp)
      have hct := hide (fun v hv => polS p.l p.d p.m x xc p.u v hv hpz.1 hpz.2.1 hpz.2.2)
      have q2 : (k : Int) < (len : Int) := by omega
      have q3 : (0 : Int) ≤ (k : Int) := by omega
      have w1 : wrap64 ((k : Int) + 1) = ((k + 1 : Nat) : Int) := by unfold wrap64; omega
      have HK : Hid (P[k]? = some p) := hkp
      have hO : polB p.l p.d p.m p.u = okP p := rfl
      rw [hO] at hct
      clear hb hT hu hpz hO hkp
      cases hO : okP p with
      | false =>
        have HE := hide (cacheB_bad (unhide HK) hO)
        rw [hO] at hct
        clear hO
        go_wp2_with fail
        refine wp_region_held (S := fun y => y.cell? ⟨b, o + k * 4, none⟩ = some (.string p.d) ∧ y.cell? ⟨b, o + k * 4 + 1, none⟩ = some (.int .i64 p.m) ∧ y.cell? ⟨b, o + k * 4 + 2, none⟩ = some (.slice x p.l.length xc) ∧ y.cell? ⟨b, o + k * 4 + 3, none⟩ = some (.int .i64 p.u)) Tryz.mixedO ?_
        have hS : (fun y : World => y.cell? ⟨b, o + k * 4, none⟩ = some (.string p.d) ∧ y.cell? ⟨b, o + k * 4 + 1, none⟩ = some (.int .i64 p.m) ∧ y.cell? ⟨b, o + k * 4 + 2, none⟩ = some (.slice x p.l.length xc) ∧ y.cell? ⟨b, o + k * 4 + 3, none⟩ = some (.int .i64 p.u)) wr.drew := ⟨c0, c1, c2, c3⟩
        show wpAnyH _ _ _ _ _ _ _ _ wr.drew
        refine wpAnyH_take (i := 0) (oi := { dst := some 10, op := Op.move (Operand.tmp 0), type := 34, pos := "l07_cache.go:20", after := #[], guard := none }) (v := ?_) rfl (by kernel_rfl) (by kernel_rfl) (by kernel_rfl) (fun _ _ _ h => h) (Or.inl ⟨by rfl, ?_⟩) hS ?_
        rotate_left
        · intro y hSy; obtain ⟨y0, y1, y2, y3⟩ := hSy; go_simp; try with_reducible rfl
        simp only [Act.put, List.setIfInBounds_toArray, List.set_cons_succ, List.set_cons_zero]
        refine wpAnyH_take (i := 1) (oi := { dst := some 11, op := Op.move (Operand.tmp 3), type := 3, pos := "l07_cache.go:20", after := #[], guard := none }) (v := ?_) rfl (by kernel_rfl) (by kernel_rfl) (by kernel_rfl) (fun _ _ _ h => h) (Or.inl ⟨by rfl, ?_⟩) hS ?_
        rotate_left
        · intro y hSy; obtain ⟨y0, y1, y2, y3⟩ := hSy; go_simp; try with_reducible rfl
        simp only [Act.put, List.setIfInBounds_toArray, List.set_cons_succ, List.set_cons_zero]
        refine wpAnyH_take (i := 2) (oi := { dst := some 12, op := Op.indexAddr 34 (Operand.tmp 10) (Operand.tmp 11), type := 0, pos := "l07_cache.go:20", after := #[{ on := 0, ground := Ground.data }, { on := 1, ground := Ground.data }], guard := none }) (v := ?_) rfl (by kernel_rfl) (by kernel_rfl) (by kernel_rfl) (fun _ _ _ h => h) (Or.inl ⟨by rfl, ?_⟩) hS ?_
        rotate_left
        · intro y hSy; obtain ⟨y0, y1, y2, y3⟩ := hSy; go_simp; try with_reducible rfl
        simp only [Act.put, List.setIfInBounds_toArray, List.set_cons_succ, List.set_cons_zero]
        refine wpAnyH_take (i := 3) (oi := { dst := some 13, op := Op.load 104 (Operand.tmp 12), type := 104, pos := "l07_cache.go:20", after := #[{ on := 2, ground := Ground.data }], guard := none }) (v := ?_) rfl (by kernel_rfl) (by kernel_rfl) (by kernel_rfl) (fun _ _ _ h => h) (Or.inl ⟨by rfl, ?_⟩) hS ?_
        rotate_left
        · intro y hSy; obtain ⟨y0, y1, y2, y3⟩ := hSy; go_simp; try with_reducible rfl
        simp only [Act.put, List.setIfInBounds_toArray, List.set_cons_succ, List.set_cons_zero]
        refine wpAnyH_all (rs := [4]) (by kernel_rfl) (by simp) ?_
        intro i hi
        simp only [List.mem_singleton] at hi
        subst hi
        refine step_call (f := 73) (fn := Tryz.f73) (d := 14) (args := #[.agg #[.string p.d, .int .i64 p.m, .slice x p.l.length xc, .int .i64 p.u]]) rfl Tryz.func73 (by kernel_rfl) (by kernel_rfl) (by simp [Act.eval]) ?_
        refine (unhide hct _ (unhide HT)).mono ?_
        rintro e w2 ⟨rfl, hb2⟩
        refine ⟨_, rfl, ?_⟩
        have hS2 : (fun y : World => y.cell? ⟨b, o + k * 4, none⟩ = some (.string p.d) ∧ y.cell? ⟨b, o + k * 4 + 1, none⟩ = some (.int .i64 p.m) ∧ y.cell? ⟨b, o + k * 4 + 2, none⟩ = some (.slice x p.l.length xc) ∧ y.cell? ⟨b, o + k * 4 + 3, none⟩ = some (.int .i64 p.u)) w2 := ⟨below_some (below_drewQ hb2) c0, below_some (below_drewQ hb2) c1, below_some (below_drewQ hb2) c2, below_some (below_drewQ hb2) c3⟩
        have HB2 := hide (btP (unhide HB) (below_drewQ hb2))
        clear hb2 hS
        refine ⟨hS2, ?_⟩
        simp only [Act.put, List.setIfInBounds_toArray, List.set_cons_succ, List.set_cons_zero]
        refine wpAnyH_take (i := 5) (oi := { dst := some 15, op := Op.unOp UnOp.not 4 (Operand.tmp 14), type := 4, pos := "l07_cache.go:20", after := #[{ on := 4, ground := Ground.data }], guard := none }) (v := ?_) rfl (by kernel_rfl) (by kernel_rfl) (by kernel_rfl) (fun _ _ _ h => h) (Or.inl ⟨by rfl, ?_⟩) hS2 ?_
        rotate_left
        · intro y hSy; obtain ⟨y0, y1, y2, y3⟩ := hSy; go_simp; try with_reducible rfl
        simp only [Act.put, List.setIfInBounds_toArray, List.set_cons_succ, List.set_cons_zero]
        refine wpAnyH_take (i := 6) (oi := { dst := some 16, op := Op.move (Operand.tmp 15), type := 4, pos := "l07_cache.go:20", after := #[{ on := 5, ground := Ground.data }, { on := 4, ground := Ground.chain }], guard := none }) (v := ?_) rfl (by kernel_rfl) (by kernel_rfl) (by kernel_rfl) (fun _ _ _ h => h) (Or.inl ⟨by rfl, ?_⟩) hS2 ?_
        rotate_left
        · intro y hSy; obtain ⟨y0, y1, y2, y3⟩ := hSy; go_simp; try with_reducible rfl
        simp only [Act.put, List.setIfInBounds_toArray, List.set_cons_succ, List.set_cons_zero]
        refine wpAnyH_take (i := 7) (oi := { dst := some 17, op := Op.move (Operand.tmp 3), type := 3, pos := "l07_cache.go:20", after := #[{ on := 6, ground := Ground.guard }], guard := some (6, false) }) (v := undef) rfl (by kernel_rfl) (by kernel_rfl) (by kernel_rfl) (fun _ _ _ h => h) (Or.inr ⟨by rfl, rfl⟩) hS2 ?_
        simp only [Act.put, List.setIfInBounds_toArray, List.set_cons_succ, List.set_cons_zero]
        refine wpAnyH_take (i := 8) (oi := { dst := some 18, op := Op.binOp BinOp.gtr 3 (Operand.tmp 17) (Operand.const (Value.int IntKind.i64 0)) 3, type := 4, pos := "l07_cache.go:20", after := #[{ on := 7, ground := Ground.data }, { on := 6, ground := Ground.guard }], guard := some (6, false) }) (v := undef) rfl (by kernel_rfl) (by kernel_rfl) (by kernel_rfl) (fun _ _ _ h => h) (Or.inr ⟨by rfl, rfl⟩) hS2 ?_
        simp only [Act.put, List.setIfInBounds_toArray, List.set_cons_succ, List.set_cons_zero]
        refine wpAnyH_take (i := 9) (oi := { dst := some 19, op := Op.move (Operand.tmp 18), type := 4, pos := "l07_cache.go:20", after := #[{ on := 8, ground := Ground.data }, { on := 6, ground := Ground.chain }, { on := 6, ground := Ground.guard }], guard := some (6, false) }) (v := undef) rfl (by kernel_rfl) (by kernel_rfl) (by kernel_rfl) (fun _ _ _ h => h) (Or.inr ⟨by rfl, rfl⟩) hS2 ?_
        simp only [Act.put, List.setIfInBounds_toArray, List.set_cons_succ, List.set_cons_zero]
        refine wpAnyH_take (i := 10) (oi := { dst := some 20, op := Op.move (Operand.tmp 0), type := 34, pos := "l07_cache.go:20", after := #[{ on := 9, ground := Ground.guard }], guard := some (9, true) }) (v := undef) rfl (by kernel_rfl) (by kernel_rfl) (by kernel_rfl) (fun _ _ _ h => h) (Or.inr ⟨by rfl, rfl⟩) hS2 ?_
        simp only [Act.put, List.setIfInBounds_toArray, List.set_cons_succ, List.set_cons_zero]
        refine wpAnyH_take (i := 11) (oi := { dst := some 21, op := Op.move (Operand.tmp 3), type := 3, pos := "l07_cache.go:20", after := #[{ on := 9, ground := Ground.guard }], guard := some (9, true) }) (v := undef) rfl (by kernel_rfl) (by kernel_rfl) (by kernel_rfl) (fun _ _ _ h => h) (Or.inr ⟨by rfl, rfl⟩) hS2 ?_
        simp only [Act.put, List.setIfInBounds_toArray, List.set_cons_succ, List.set_cons_zero]
        refine wpAnyH_take (i := 12) (oi := { dst := some 22, op := Op.binOp BinOp.sub 3 (Operand.tmp 21) (Operand.const (Value.int IntKind.i64 1)) 3, type := 3, pos := "l07_cache.go:20", after := #[{ on := 11, ground := Ground.data }, { on := 9, ground := Ground.guard }], guard := some (9, true) }) (v := undef) rfl (by kernel_rfl) (by kernel_rfl) (by kernel_rfl) (fun _ _ _ h => h) (Or.inr ⟨by rfl, rfl⟩) hS2 ?_
        simp only [Act.put, List.setIfInBounds_toArray, List.set_cons_succ, List.set_cons_zero]
        refine wpAnyH_take (i := 13) (oi := { dst := some 23, op := Op.indexAddr 34 (Operand.tmp 20) (Operand.tmp 22), type := 0, pos := "l07_cache.go:20", after := #[{ on := 10, ground := Ground.data }, { on := 12, ground := Ground.data }, { on := 9, ground := Ground.guard }], guard := some (9, true) }) (v := undef) rfl (by kernel_rfl) (by kernel_rfl) (by kernel_rfl) (fun _ _ _ h => h) (Or.inr ⟨by rfl, rfl⟩) hS2 ?_
        simp only [Act.put, List.setIfInBounds_toArray, List.set_cons_succ, List.set_cons_zero]
        refine wpAnyH_take (i := 14) (oi := { dst := some 24, op := Op.fieldAddr 104 (Operand.tmp 23) 0, type := 0, pos := "l07_cache.go:20", after := #[{ on := 13, ground := Ground.data }, { on := 9, ground := Ground.guard }], guard := some (9, true) }) (v := undef) rfl (by kernel_rfl) (by kernel_rfl) (by kernel_rfl) (fun _ _ _ h => h) (Or.inr ⟨by rfl, rfl⟩) hS2 ?_
        simp only [Act.put, List.setIfInBounds_toArray, List.set_cons_succ, List.set_cons_zero]
        refine wpAnyH_take (i := 15) (oi := { dst := some 25, op := Op.load 9 (Operand.tmp 24), type := 9, pos := "l07_cache.go:20", after := #[{ on := 14, ground := Ground.data }, { on := 9, ground := Ground.guard }], guard := some (9, true) }) (v := undef) rfl (by kernel_rfl) (by kernel_rfl) (by kernel_rfl) (fun _ _ _ h => h) (Or.inr ⟨by rfl, rfl⟩) hS2 ?_
        simp only [Act.put, List.setIfInBounds_toArray, List.set_cons_succ, List.set_cons_zero]
        refine wpAnyH_take (i := 16) (oi := { dst := some 26, op := Op.move (Operand.tmp 0), type := 34, pos := "l07_cache.go:20", after := #[{ on := 9, ground := Ground.guard }], guard := some (9, true) }) (v := undef) rfl (by kernel_rfl) (by kernel_rfl) (by kernel_rfl) (fun _ _ _ h => h) (Or.inr ⟨by rfl, rfl⟩) hS2 ?_
        simp only [Act.put, List.setIfInBounds_toArray, List.set_cons_succ, List.set_cons_zero]
        refine wpAnyH_take (i := 17) (oi := { dst := some 27, op := Op.move (Operand.tmp 3), type := 3, pos := "l07_cache.go:20", after := #[{ on := 9, ground := Ground.guard }], guard := some (9, true) }) (v := undef) rfl (by kernel_rfl) (by kernel_rfl) (by kernel_rfl) (fun _ _ _ h => h) (Or.inr ⟨by rfl, rfl⟩) hS2 ?_
        simp only [Act.put, List.setIfInBounds_toArray, List.set_cons_succ, List.set_cons_zero]
        refine wpAnyH_take (i := 18) (oi := { dst := some 28, op := Op.indexAddr 34 (Operand.tmp 26) (Operand.tmp 27), type := 0, pos := "l07_cache.go:20", after := #[{ on := 16, ground := Ground.data }, { on := 17, ground := Ground.data }, { on := 9, ground := Ground.guard }], guard := some (9, true) }) (v := undef) rfl (by kernel_rfl) (by kernel_rfl) (by kernel_rfl) (fun _ _ _ h => h) (Or.inr ⟨by rfl, rfl⟩) hS2 ?_
        simp only [Act.put, List.setIfInBounds_toArray, List.set_cons_succ, List.set_cons_zero]
        refine wpAnyH_take (i := 19) (oi := { dst := some 29, op := Op.fieldAddr 104 (Operand.tmp 28) 0, type := 0, pos := "l07_cache.go:20", after := #[{ on := 18, ground := Ground.data }, { on := 9, ground := Ground.guard }], guard := some (9, true) }) (v := undef) rfl (by kernel_rfl) (by kernel_rfl) (by kernel_rfl) (fun _ _ _ h => h) (Or.inr ⟨by rfl, rfl⟩) hS2 ?_
        simp only [Act.put, List.setIfInBounds_toArray, List.set_cons_succ, List.set_cons_zero]
        refine wpAnyH_take (i := 20) (oi := { dst := some 30, op := Op.load 9 (Operand.tmp 29), type := 9, pos := "l07_cache.go:20", after := #[{ on := 19, ground := Ground.data }, { on := 9, ground := Ground.guard }], guard := some (9, true) }) (v := undef) rfl (by kernel_rfl) (by kernel_rfl) (by kernel_rfl) (fun _ _ _ h => h) (Or.inr ⟨by rfl, rfl⟩) hS2 ?_
        simp only [Act.put, List.setIfInBounds_toArray, List.set_cons_succ, List.set_cons_zero]
        refine wpAnyH_take (i := 21) (oi := { dst := some 31, op := Op.binOp BinOp.geq 9 (Operand.tmp 25) (Operand.tmp 30) 9, type := 4, pos := "l07_cache.go:20", after := #[{ on := 15, ground := Ground.data }, { on := 20, ground := Ground.data }, { on := 9, ground := Ground.guard }], guard := some (9, true) }) (v := undef) rfl (by kernel_rfl) (by kernel_rfl) (by kernel_rfl) (fun _ _ _ h => h) (Or.inr ⟨by rfl, rfl⟩) hS2 ?_
        simp only [Act.put, List.setIfInBounds_toArray, List.set_cons_succ, List.set_cons_zero]
        refine wpAnyH_take (i := 22) (oi := { dst := some 32, op := Op.pick (Operand.tmp 19) (Operand.tmp 31) (Operand.const (Value.bool false)), type := 4, pos := "l07_cache.go:20", after := #[{ on := 9, ground := Ground.data }, { on := 21, ground := Ground.data }, { on := 6, ground := Ground.guard }], guard := some (6, false) }) (v := undef) rfl (by kernel_rfl) (by kernel_rfl) (by kernel_rfl) (fun _ _ _ h => h) (Or.inr ⟨by rfl, rfl⟩) hS2 ?_
        simp only [Act.put, List.setIfInBounds_toArray, List.set_cons_succ, List.set_cons_zero]
        refine wpAnyH_take (i := 23) (oi := { dst := some 33, op := Op.pick (Operand.tmp 16) (Operand.const (Value.bool true)) (Operand.tmp 32), type := 4, pos := "l07_cache.go:20", after := #[{ on := 6, ground := Ground.data }, { on := 22, ground := Ground.data }], guard := none }) (v := ?_) rfl (by kernel_rfl) (by kernel_rfl) (by kernel_rfl) (fun _ _ _ h => h) (Or.inl ⟨by rfl, ?_⟩) hS2 ?_
        rotate_left
        · intro y hSy; obtain ⟨y0, y1, y2, y3⟩ := hSy; go_simp; try with_reducible rfl
        simp only [Act.put, List.setIfInBounds_toArray, List.set_cons_succ, List.set_cons_zero]
        refine wpAnyH_done (by kernel_rfl) ?_ _
        all_goals
          go_wp2_with fail
          go_ret
          exact ⟨retB (unhide HE), unhide HB2⟩
      | true =>
        rw [hO] at hct
        rcases Nat.eq_zero_or_pos k with rfl | hkp
        · have HN := hide (upTo.one (unhide HK) hO)
          clear hO
          go_wp2_with fail
          rw [Nat.zero_mul, Nat.add_zero] at c0 c1 c2 c3
          refine wp_region_held (S := fun y => y.cell? ⟨b, o, none⟩ = some (.string p.d) ∧ y.cell? ⟨b, o + 1, none⟩ = some (.int .i64 p.m) ∧ y.cell? ⟨b, o + 2, none⟩ = some (.slice x p.l.length xc) ∧ y.cell? ⟨b, o + 3, none⟩ = some (.int .i64 p.u)) Tryz.mixedO ?_
          have hS : (fun y : World => y.cell? ⟨b, o, none⟩ = some (.string p.d) ∧ y.cell? ⟨b, o + 1, none⟩ = some (.int .i64 p.m) ∧ y.cell? ⟨b, o + 2, none⟩ = some (.slice x p.l.length xc) ∧ y.cell? ⟨b, o + 3, none⟩ = some (.int .i64 p.u)) wr.drew := ⟨c0, c1, c2, c3⟩
          show wpAnyH _ _ _ _ _ _ _ _ wr.drew
          refine wpAnyH_take (i := 0) (oi := { dst := some 10, op := Op.move (Operand.tmp 0), type := 34, pos := "l07_cache.go:20", after := #[], guard := none }) (v := ?_) rfl (by kernel_rfl) (by kernel_rfl) (by kernel_rfl) (fun _ _ _ h => h) (Or.inl ⟨by rfl, ?_⟩) hS ?_
          rotate_left
          · intro y hSy; obtain ⟨y0, y1, y2, y3⟩ := hSy; go_simp; try with_reducible rfl
          simp only [Act.put, List.setIfInBounds_toArray, List.set_cons_succ, List.set_cons_zero]
          refine wpAnyH_take (i := 1) (oi := { dst := some 11, op := Op.move (Operand.tmp 3), type := 3, pos := "l07_cache.go:20", after := #[], guard := none }) (v := ?_) rfl (by kernel_rfl) (by kernel_rfl) (by kernel_rfl) (fun _ _ _ h => h) (Or.inl ⟨by rfl, ?_⟩) hS ?_
          rotate_left
          · intro y hSy; obtain ⟨y0, y1, y2, y3⟩ := hSy; go_simp; try with_reducible rfl
          simp only [Act.put, List.setIfInBounds_toArray, List.set_cons_succ, List.set_cons_zero]
          refine wpAnyH_take (i := 2) (oi := { dst := some 12, op := Op.indexAddr 34 (Operand.tmp 10) (Operand.tmp 11), type := 0, pos := "l07_cache.go:20", after := #[{ on := 0, ground := Ground.data }, { on := 1, ground := Ground.data }], guard := none }) (v := ?_) rfl (by kernel_rfl) (by kernel_rfl) (by kernel_rfl) (fun _ _ _ h => h) (Or.inl ⟨by rfl, ?_⟩) hS ?_
          rotate_left
          · intro y hSy; obtain ⟨y0, y1, y2, y3⟩ := hSy; go_simp; try with_reducible rfl
          simp only [Act.put, List.setIfInBounds_toArray, List.set_cons_succ, List.set_cons_zero]
          refine wpAnyH_take (i := 3) (oi := { dst := some 13, op := Op.load 104 (Operand.tmp 12), type := 104, pos := "l07_cache.go:20", after := #[{ on := 2, ground := Ground.data }], guard := none }) (v := ?_) rfl (by kernel_rfl) (by kernel_rfl) (by kernel_rfl) (fun _ _ _ h => h) (Or.inl ⟨by rfl, ?_⟩) hS ?_
          rotate_left
          · intro y hSy; obtain ⟨y0, y1, y2, y3⟩ := hSy; go_simp; try with_reducible rfl
          simp only [Act.put, List.setIfInBounds_toArray, List.set_cons_succ, List.set_cons_zero]
          refine wpAnyH_all (rs := [4]) (by kernel_rfl) (by simp) ?_
          intro i hi
          simp only [List.mem_singleton] at hi
          subst hi
          refine step_call (f := 73) (fn := Tryz.f73) (d := 14) (args := #[.agg #[.string p.d, .int .i64 p.m, .slice x p.l.length xc, .int .i64 p.u]]) rfl Tryz.func73 (by kernel_rfl) (by kernel_rfl) (by simp [Act.eval]) ?_
          refine (unhide hct _ (unhide HT)).mono ?_
          rintro e w2 ⟨rfl, hb2⟩
          refine ⟨_, rfl, ?_⟩
          have hS2 : (fun y : World => y.cell? ⟨b, o, none⟩ = some (.string p.d) ∧ y.cell? ⟨b, o + 1, none⟩ = some (.int .i64 p.m) ∧ y.cell? ⟨b, o + 2, none⟩ = some (.slice x p.l.length xc) ∧ y.cell? ⟨b, o + 3, none⟩ = some (.int .i64 p.u)) w2 := ⟨below_some (below_drewQ hb2) c0, below_some (below_drewQ hb2) c1, below_some (below_drewQ hb2) c2, below_some (below_drewQ hb2) c3⟩
          have HB2 := hide (btP (unhide HB) (below_drewQ hb2))
          clear hb2 hS
          refine ⟨hS2, ?_⟩
          simp only [Act.put, List.setIfInBounds_toArray, List.set_cons_succ, List.set_cons_zero]
          refine wpAnyH_take (i := 5) (oi := { dst := some 15, op := Op.unOp UnOp.not 4 (Operand.tmp 14), type := 4, pos := "l07_cache.go:20", after := #[{ on := 4, ground := Ground.data }], guard := none }) (v := ?_) rfl (by kernel_rfl) (by kernel_rfl) (by kernel_rfl) (fun _ _ _ h => h) (Or.inl ⟨by rfl, ?_⟩) hS2 ?_
          rotate_left
          · intro y hSy; obtain ⟨y0, y1, y2, y3⟩ := hSy; go_simp; try with_reducible rfl
          simp only [Act.put, List.setIfInBounds_toArray, List.set_cons_succ, List.set_cons_zero]
          refine wpAnyH_take (i := 6) (oi := { dst := some 16, op := Op.move (Operand.tmp 15), type := 4, pos := "l07_cache.go:20", after := #[{ on := 5, ground := Ground.data }, { on := 4, ground := Ground.chain }], guard := none }) (v := ?_) rfl (by kernel_rfl) (by kernel_rfl) (by kernel_rfl) (fun _ _ _ h => h) (Or.inl ⟨by rfl, ?_⟩) hS2 ?_
          rotate_left
          · intro y hSy; obtain ⟨y0, y1, y2, y3⟩ := hSy; go_simp; try with_reducible rfl
          simp only [Act.put, List.setIfInBounds_toArray, List.set_cons_succ, List.set_cons_zero]
          refine wpAnyH_take (i := 7) (oi := { dst := some 17, op := Op.move (Operand.tmp 3), type := 3, pos := "l07_cache.go:20", after := #[{ on := 6, ground := Ground.guard }], guard := some (6, false) }) (v := ?_) rfl (by kernel_rfl) (by kernel_rfl) (by kernel_rfl) (fun _ _ _ h => h) (Or.inl ⟨by rfl, ?_⟩) hS2 ?_
          rotate_left
          · intro y hSy; obtain ⟨y0, y1, y2, y3⟩ := hSy; go_simp; try with_reducible rfl
          simp only [Act.put, List.setIfInBounds_toArray, List.set_cons_succ, List.set_cons_zero]
          refine wpAnyH_take (i := 8) (oi := { dst := some 18, op := Op.binOp BinOp.gtr 3 (Operand.tmp 17) (Operand.const (Value.int IntKind.i64 0)) 3, type := 4, pos := "l07_cache.go:20", after := #[{ on := 7, ground := Ground.data }, { on := 6, ground := Ground.guard }], guard := some (6, false) }) (v := ?_) rfl (by kernel_rfl) (by kernel_rfl) (by kernel_rfl) (fun _ _ _ h => h) (Or.inl ⟨by rfl, ?_⟩) hS2 ?_
          rotate_left
          · intro y hSy; obtain ⟨y0, y1, y2, y3⟩ := hSy; go_simp; try with_reducible rfl
          simp only [Act.put, List.setIfInBounds_toArray, List.set_cons_succ, List.set_cons_zero]
          refine wpAnyH_take (i := 9) (oi := { dst := some 19, op := Op.move (Operand.tmp 18), type := 4, pos := "l07_cache.go:20", after := #[{ on := 8, ground := Ground.data }, { on := 6, ground := Ground.chain }, { on := 6, ground := Ground.guard }], guard := some (6, false) }) (v := ?_) rfl (by kernel_rfl) (by kernel_rfl) (by kernel_rfl) (fun _ _ _ h => h) (Or.inl ⟨by rfl, ?_⟩) hS2 ?_
          rotate_left
          · intro y hSy; obtain ⟨y0, y1, y2, y3⟩ := hSy; go_simp; try with_reducible rfl
          simp only [Act.put, List.setIfInBounds_toArray, List.set_cons_succ, List.set_cons_zero]
          refine wpAnyH_take (i := 10) (oi := { dst := some 20, op := Op.move (Operand.tmp 0), type := 34, pos := "l07_cache.go:20", after := #[{ on := 9, ground := Ground.guard }], guard := some (9, true) }) (v := undef) rfl (by kernel_rfl) (by kernel_rfl) (by kernel_rfl) (fun _ _ _ h => h) (Or.inr ⟨by rfl, rfl⟩) hS2 ?_
          simp only [Act.put, List.setIfInBounds_toArray, List.set_cons_succ, List.set_cons_zero]
          refine wpAnyH_take (i := 11) (oi := { dst := some 21, op := Op.move (Operand.tmp 3), type := 3, pos := "l07_cache.go:20", after := #[{ on := 9, ground := Ground.guard }], guard := some (9, true) }) (v := undef) rfl (by kernel_rfl) (by kernel_rfl) (by kernel_rfl) (fun _ _ _ h => h) (Or.inr ⟨by rfl, rfl⟩) hS2 ?_
          simp only [Act.put, List.setIfInBounds_toArray, List.set_cons_succ, List.set_cons_zero]
          refine wpAnyH_take (i := 12) (oi := { dst := some 22, op := Op.binOp BinOp.sub 3 (Operand.tmp 21) (Operand.const (Value.int IntKind.i64 1)) 3, type := 3, pos := "l07_cache.go:20", after := #[{ on := 11, ground := Ground.data }, { on := 9, ground := Ground.guard }], guard := some (9, true) }) (v := undef) rfl (by kernel_rfl) (by kernel_rfl) (by kernel_rfl) (fun _ _ _ h => h) (Or.inr ⟨by rfl, rfl⟩) hS2 ?_
          simp only [Act.put, List.setIfInBounds_toArray, List.set_cons_succ, List.set_cons_zero]
          refine wpAnyH_take (i := 13) (oi := { dst := some 23, op := Op.indexAddr 34 (Operand.tmp 20) (Operand.tmp 22), type := 0, pos := "l07_cache.go:20", after := #[{ on := 10, ground := Ground.data }, { on := 12, ground := Ground.data }, { on := 9, ground := Ground.guard }], guard := some (9, true) }) (v := undef) rfl (by kernel_rfl) (by kernel_rfl) (by kernel_rfl) (fun _ _ _ h => h) (Or.inr ⟨by rfl, rfl⟩) hS2 ?_
          simp only [Act.put, List.setIfInBounds_toArray, List.set_cons_succ, List.set_cons_zero]
          refine wpAnyH_take (i := 14) (oi := { dst := some 24, op := Op.fieldAddr 104 (Operand.tmp 23) 0, type := 0, pos := "l07_cache.go:20", after := #[{ on := 13, ground := Ground.data }, { on := 9, ground := Ground.guard }], guard := some (9, true) }) (v := undef) rfl (by kernel_rfl) (by kernel_rfl) (by kernel_rfl) (fun _ _ _ h => h) (Or.inr ⟨by rfl, rfl⟩) hS2 ?_
          simp only [Act.put, List.setIfInBounds_toArray, List.set_cons_succ, List.set_cons_zero]
          refine wpAnyH_take (i := 15) (oi := { dst := some 25, op := Op.load 9 (Operand.tmp 24), type := 9, pos := "l07_cache.go:20", after := #[{ on := 14, ground := Ground.data }, { on := 9, ground := Ground.guard }], guard := some (9, true) }) (v := undef) rfl (by kernel_rfl) (by kernel_rfl) (by kernel_rfl) (fun _ _ _ h => h) (Or.inr ⟨by rfl, rfl⟩) hS2 ?_
          simp only [Act.put, List.setIfInBounds_toArray, List.set_cons_succ, List.set_cons_zero]
          refine wpAnyH_take (i := 16) (oi := { dst := some 26, op := Op.move (Operand.tmp 0), type := 34, pos := "l07_cache.go:20", after := #[{ on := 9, ground := Ground.guard }], guard := some (9, true) }) (v := undef) rfl (by kernel_rfl) (by kernel_rfl) (by kernel_rfl) (fun _ _ _ h => h) (Or.inr ⟨by rfl, rfl⟩) hS2 ?_
          simp only [Act.put, List.setIfInBounds_toArray, List.set_cons_succ, List.set_cons_zero]
          refine wpAnyH_take (i := 17) (oi := { dst := some 27, op := Op.move (Operand.tmp 3), type := 3, pos := "l07_cache.go:20", after := #[{ on := 9, ground := Ground.guard }], guard := some (9, true) }) (v := undef) rfl (by kernel_rfl) (by kernel_rfl) (by kernel_rfl) (fun _ _ _ h => h) (Or.inr ⟨by rfl, rfl⟩) hS2 ?_
          simp only [Act.put, List.setIfInBounds_toArray, List.set_cons_succ, List.set_cons_zero]
          refine wpAnyH_take (i := 18) (oi := { dst := some 28, op := Op.indexAddr 34 (Operand.tmp 26) (Operand.tmp 27), type := 0, pos := "l07_cache.go:20", after := #[{ on := 16, ground := Ground.data }, { on := 17, ground := Ground.data }, { on := 9, ground := Ground.guard }], guard := some (9, true) }) (v := undef) rfl (by kernel_rfl) (by kernel_rfl) (by kernel_rfl) (fun _ _ _ h => h) (Or.inr ⟨by rfl, rfl⟩) hS2 ?_
          simp only [Act.put, List.setIfInBounds_toArray, List.set_cons_succ, List.set_cons_zero]
          refine wpAnyH_take (i := 19) (oi := { dst := some 29, op := Op.fieldAddr 104 (Operand.tmp 28) 0, type := 0, pos := "l07_cache.go:20", after := #[{ on := 18, ground := Ground.data }, { on := 9, ground := Ground.guard }], guard := some (9, true) }) (v := undef) rfl (by kernel_rfl) (by kernel_rfl) (by kernel_rfl) (fun _ _ _ h => h) (Or.inr ⟨by rfl, rfl⟩) hS2 ?_
          simp only [Act.put, List.setIfInBounds_toArray, List.set_cons_succ, List.set_cons_zero]
          refine wpAnyH_take (i := 20) (oi := { dst := some 30, op := Op.load 9 (Operand.tmp 29), type := 9, pos := "l07_cache.go:20", after := #[{ on := 19, ground := Ground.data }, { on := 9, ground := Ground.guard }], guard := some (9, true) }) (v := undef) rfl (by kernel_rfl) (by kernel_rfl) (by kernel_rfl) (fun _ _ _ h => h) (Or.inr ⟨by rfl, rfl⟩) hS2 ?_
          simp only [Act.put, List.setIfInBounds_toArray, List.set_cons_succ, List.set_cons_zero]
          refine wpAnyH_take (i := 21) (oi := { dst := some 31, op := Op.binOp BinOp.geq 9 (Operand.tmp 25) (Operand.tmp 30) 9, type := 4, pos := "l07_cache.go:20", after := #[{ on := 15, ground := Ground.data }, { on := 20, ground := Ground.data }, { on := 9, ground := Ground.guard }], guard := some (9, true) }) (v := undef) rfl (by kernel_rfl) (by kernel_rfl) (by kernel_rfl) (fun _ _ _ h => h) (Or.inr ⟨by rfl, rfl⟩) hS2 ?_
          simp only [Act.put, List.setIfInBounds_toArray, List.set_cons_succ, List.set_cons_zero]
          refine wpAnyH_take (i := 22) (oi := { dst := some 32, op := Op.pick (Operand.tmp 19) (Operand.tmp 31) (Operand.const (Value.bool false)), type := 4, pos := "l07_cache.go:20", after := #[{ on := 9, ground := Ground.data }, { on := 21, ground := Ground.data }, { on := 6, ground := Ground.guard }], guard := some (6, false) }) (v := ?_) rfl (by kernel_rfl) (by kernel_rfl) (by kernel_rfl) (fun _ _ _ h => h) (Or.inl ⟨by rfl, ?_⟩) hS2 ?_
          rotate_left
          · intro y hSy; obtain ⟨y0, y1, y2, y3⟩ := hSy; go_simp; try with_reducible rfl
          simp only [Act.put, List.setIfInBounds_toArray, List.set_cons_succ, List.set_cons_zero]
          refine wpAnyH_take (i := 23) (oi := { dst := some 33, op := Op.pick (Operand.tmp 16) (Operand.const (Value.bool true)) (Operand.tmp 32), type := 4, pos := "l07_cache.go:20", after := #[{ on := 6, ground := Ground.data }, { on := 22, ground := Ground.data }], guard := none }) (v := ?_) rfl (by kernel_rfl) (by kernel_rfl) (by kernel_rfl) (fun _ _ _ h => h) (Or.inl ⟨by rfl, ?_⟩) hS2 ?_
          rotate_left
          · intro y hSy; obtain ⟨y0, y1, y2, y3⟩ := hSy; go_simp; try with_reducible rfl
          simp only [Act.put, List.setIfInBounds_toArray, List.set_cons_succ, List.set_cons_zero]
          refine wpAnyH_done (by kernel_rfl) ?_ _
          all_goals
            go_wp2_with fail
            go_roundw
            case rel => exact ⟨0 + 1, rfl, unhide HB2, by omega, unhide HN⟩
            case measure => simp only [intOf]; omega
        · obtain ⟨j, hkj⟩ : ∃ j, k = j + 1 := ⟨k - 1, by omega⟩
          have HKJ := hide hkj
          obtain ⟨q, hjq⟩ : ∃ q, P[j]? = some q := ⟨_, List.getElem?_eq_getElem (by omega)⟩
          obtain ⟨b', o', x', xc', e', -, -, g0, g1, g2, g3, -⟩ := ((unhide H).on (unhide HB)).elem hjq
          simp only [Option.some.injEq, Addr.mk.injEq, and_true] at e'
          obtain ⟨rfl, rfl⟩ := e'
          have w3 : wrap64 ((k : Int) - 1) = (j : Int) := by unfold wrap64; omega
          have w4 : IntKind.i64.wrap ((k : Int) - 1) = (j : Int) := (IntWalk.i64_in _ ⟨by omega, by omega⟩).trans (by omega)
          have q4 : (0 : Int) < (k : Int) := by omega
          have q5 : (0 : Int) ≤ (j : Int) := by omega
          have q6 : (j : Int) < (len : Int) := by omega
          clear g1 g2 g3
          cases hLT : ltD q p with
          | true =>
            have HN : Hid (upTo P (k + 1)) := by
              have hu := unhide HU
              have hkk := unhide HK
              rw [hkj] at hu hkk
              show upTo P (k + 1)
              rw [hkj]
              exact hu.next hjq hkk hO hLT
            unfold ltD at hLT
            have hgq : ∀ y, (binOp BinOp.geq 9 (.string q.d) (.string p.d)).run Tryz.prog y = .ok (.bool false) y := fun y => by rw [run_geqS, hLT]; rfl
            clear hO hjq hkj
            go_wp2_with fail
            refine wp_region_held (S := fun y => y.cell? ⟨b, o + k * 4, none⟩ = some (.string p.d) ∧ y.cell? ⟨b, o + k * 4 + 1, none⟩ = some (.int .i64 p.m) ∧ y.cell? ⟨b, o + k * 4 + 2, none⟩ = some (.slice x p.l.length xc) ∧ y.cell? ⟨b, o + k * 4 + 3, none⟩ = some (.int .i64 p.u) ∧ y.cell? ⟨b, o + j * 4, none⟩ = some (.string q.d)) Tryz.mixedO ?_
            have hS : (fun y : World => y.cell? ⟨b, o + k * 4, none⟩ = some (.string p.d) ∧ y.cell? ⟨b, o + k * 4 + 1, none⟩ = some (.int .i64 p.m) ∧ y.cell? ⟨b, o + k * 4 + 2, none⟩ = some (.slice x p.l.length xc) ∧ y.cell? ⟨b, o + k * 4 + 3, none⟩ = some (.int .i64 p.u) ∧ y.cell? ⟨b, o + j * 4, none⟩ = some (.string q.d)) wr.drew := ⟨c0, c1, c2, c3, g0⟩
            show wpAnyH _ _ _ _ _ _ _ _ wr.drew
            refine wpAnyH_take (i := 0) (oi := { dst := some 10, op := Op.move (Operand.tmp 0), type := 34, pos := "l07_cache.go:20", after := #[], guard := none }) (v := ?_) rfl (by kernel_rfl) (by kernel_rfl) (by kernel_rfl) (fun _ _ _ h => h) (Or.inl ⟨by rfl, ?_⟩) hS ?_
            rotate_left
            · intro y hSy; obtain ⟨y0, y1, y2, y3, y4⟩ := hSy; go_simp; try with_reducible rfl
            simp only [Act.put, List.setIfInBounds_toArray, List.set_cons_succ, List.set_cons_zero]
            refine wpAnyH_take (i := 1) (oi := { dst := some 11, op := Op.move (Operand.tmp 3), type := 3, pos := "l07_cache.go:20", after := #[], guard := none }) (v := ?_) rfl (by kernel_rfl) (by kernel_rfl) (by kernel_rfl) (fun _ _ _ h => h) (Or.inl ⟨by rfl, ?_⟩) hS ?_
            rotate_left
            · intro y hSy; obtain ⟨y0, y1, y2, y3, y4⟩ := hSy; go_simp; try with_reducible rfl
            simp only [Act.put, List.setIfInBounds_toArray, List.set_cons_succ, List.set_cons_zero]
            refine wpAnyH_take (i := 2) (oi := { dst := some 12, op := Op.indexAddr 34 (Operand.tmp 10) (Operand.tmp 11), type := 0, pos := "l07_cache.go:20", after := #[{ on := 0, ground := Ground.data }, { on := 1, ground := Ground.data }], guard := none }) (v := ?_) rfl (by kernel_rfl) (by kernel_rfl) (by kernel_rfl) (fun _ _ _ h => h) (Or.inl ⟨by rfl, ?_⟩) hS ?_
            rotate_left
            · intro y hSy; obtain ⟨y0, y1, y2, y3, y4⟩ := hSy; go_simp; try with_reducible rfl
            simp only [Act.put, List.setIfInBounds_toArray, List.set_cons_succ, List.set_cons_zero]
            refine wpAnyH_take (i := 3) (oi := { dst := some 13, op := Op.load 104 (Operand.tmp 12), type := 104, pos := "l07_cache.go:20", after := #[{ on := 2, ground := Ground.data }], guard := none }) (v := ?_) rfl (by kernel_rfl) (by kernel_rfl) (by kernel_rfl) (fun _ _ _ h => h) (Or.inl ⟨by rfl, ?_⟩) hS ?_
            rotate_left
            · intro y hSy; obtain ⟨y0, y1, y2, y3, y4⟩ := hSy; go_simp; try with_reducible rfl
            simp only [Act.put, List.setIfInBounds_toArray, List.set_cons_succ, List.set_cons_zero]
            refine wpAnyH_all (rs := [4]) (by kernel_rfl) (by simp) ?_
            intro i hi
            simp only [List.mem_singleton] at hi
            subst hi
            refine step_call (f := 73) (fn := Tryz.f73) (d := 14) (args := #[.agg #[.string p.d, .int .i64 p.m, .slice x p.l.length xc, .int .i64 p.u]]) rfl Tryz.func73 (by kernel_rfl) (by kernel_rfl) (by simp [Act.eval]) ?_
            refine (unhide hct _ (unhide HT)).mono ?_
            rintro e w2 ⟨rfl, hb2⟩
            refine ⟨_, rfl, ?_⟩
            have hS2 : (fun y : World => y.cell? ⟨b, o + k * 4, none⟩ = some (.string p.d) ∧ y.cell? ⟨b, o + k * 4 + 1, none⟩ = some (.int .i64 p.m) ∧ y.cell? ⟨b, o + k * 4 + 2, none⟩ = some (.slice x p.l.length xc) ∧ y.cell? ⟨b, o + k * 4 + 3, none⟩ = some (.int .i64 p.u) ∧ y.cell? ⟨b, o + j * 4, none⟩ = some (.string q.d)) w2 := ⟨below_some (below_drewQ hb2) c0, below_some (below_drewQ hb2) c1, below_some (below_drewQ hb2) c2, below_some (below_drewQ hb2) c3, below_some (below_drewQ hb2) g0⟩
            have HB2 := hide (btP (unhide HB) (below_drewQ hb2))
            clear hb2 hS
            refine ⟨hS2, ?_⟩
            simp only [Act.put, List.setIfInBounds_toArray, List.set_cons_succ, List.set_cons_zero]
            refine wpAnyH_take (i := 5) (oi := { dst := some 15, op := Op.unOp UnOp.not 4 (Operand.tmp 14), type := 4, pos := "l07_cache.go:20", after := #[{ on := 4, ground := Ground.data }], guard := none }) (v := ?_) rfl (by kernel_rfl) (by kernel_rfl) (by kernel_rfl) (fun _ _ _ h => h) (Or.inl ⟨by rfl, ?_⟩) hS2 ?_
            rotate_left
            · intro y hSy; obtain ⟨y0, y1, y2, y3, y4⟩ := hSy; go_simp; try with_reducible rfl
            simp only [Act.put, List.setIfInBounds_toArray, List.set_cons_succ, List.set_cons_zero]
            refine wpAnyH_take (i := 6) (oi := { dst := some 16, op := Op.move (Operand.tmp 15), type := 4, pos := "l07_cache.go:20", after := #[{ on := 5, ground := Ground.data }, { on := 4, ground := Ground.chain }], guard := none }) (v := ?_) rfl (by kernel_rfl) (by kernel_rfl) (by kernel_rfl) (fun _ _ _ h => h) (Or.inl ⟨by rfl, ?_⟩) hS2 ?_
            rotate_left
            · intro y hSy; obtain ⟨y0, y1, y2, y3, y4⟩ := hSy; go_simp; try with_reducible rfl
            simp only [Act.put, List.setIfInBounds_toArray, List.set_cons_succ, List.set_cons_zero]
            refine wpAnyH_take (i := 7) (oi := { dst := some 17, op := Op.move (Operand.tmp 3), type := 3, pos := "l07_cache.go:20", after := #[{ on := 6, ground := Ground.guard }], guard := some (6, false) }) (v := ?_) rfl (by kernel_rfl) (by kernel_rfl) (by kernel_rfl) (fun _ _ _ h => h) (Or.inl ⟨by rfl, ?_⟩) hS2 ?_
            rotate_left
            · intro y hSy; obtain ⟨y0, y1, y2, y3, y4⟩ := hSy; go_simp; try with_reducible rfl
            simp only [Act.put, List.setIfInBounds_toArray, List.set_cons_succ, List.set_cons_zero]
            refine wpAnyH_take (i := 8) (oi := { dst := some 18, op := Op.binOp BinOp.gtr 3 (Operand.tmp 17) (Operand.const (Value.int IntKind.i64 0)) 3, type := 4, pos := "l07_cache.go:20", after := #[{ on := 7, ground := Ground.data }, { on := 6, ground := Ground.guard }], guard := some (6, false) }) (v := ?_) rfl (by kernel_rfl) (by kernel_rfl) (by kernel_rfl) (fun _ _ _ h => h) (Or.inl ⟨by rfl, ?_⟩) hS2 ?_
            rotate_left
            · intro y hSy; obtain ⟨y0, y1, y2, y3, y4⟩ := hSy; go_simp; try with_reducible rfl
            simp only [Act.put, List.setIfInBounds_toArray, List.set_cons_succ, List.set_cons_zero]
            refine wpAnyH_take (i := 9) (oi := { dst := some 19, op := Op.move (Operand.tmp 18), type := 4, pos := "l07_cache.go:20", after := #[{ on := 8, ground := Ground.data }, { on := 6, ground := Ground.chain }, { on := 6, ground := Ground.guard }], guard := some (6, false) }) (v := ?_) rfl (by kernel_rfl) (by kernel_rfl) (by kernel_rfl) (fun _ _ _ h => h) (Or.inl ⟨by rfl, ?_⟩) hS2 ?_
            rotate_left
            · intro y hSy; obtain ⟨y0, y1, y2, y3, y4⟩ := hSy; go_simp; try with_reducible rfl
            simp only [Act.put, List.setIfInBounds_toArray, List.set_cons_succ, List.set_cons_zero]
            refine wpAnyH_take (i := 10) (oi := { dst := some 20, op := Op.move (Operand.tmp 0), type := 34, pos := "l07_cache.go:20", after := #[{ on := 9, ground := Ground.guard }], guard := some (9, true) }) (v := ?_) rfl (by kernel_rfl) (by kernel_rfl) (by kernel_rfl) (fun _ _ _ h => h) (Or.inl ⟨by rfl, ?_⟩) hS2 ?_
            rotate_left
            · intro y hSy; obtain ⟨y0, y1, y2, y3, y4⟩ := hSy; go_simp; try with_reducible rfl
            simp only [Act.put, List.setIfInBounds_toArray, List.set_cons_succ, List.set_cons_zero]
            refine wpAnyH_take (i := 11) (oi := { dst := some 21, op := Op.move (Operand.tmp 3), type := 3, pos := "l07_cache.go:20", after := #[{ on := 9, ground := Ground.guard }], guard := some (9, true) }) (v := ?_) rfl (by kernel_rfl) (by kernel_rfl) (by kernel_rfl) (fun _ _ _ h => h) (Or.inl ⟨by rfl, ?_⟩) hS2 ?_
            rotate_left
            · intro y hSy; obtain ⟨y0, y1, y2, y3, y4⟩ := hSy; go_simp; try with_reducible rfl
            simp only [Act.put, List.setIfInBounds_toArray, List.set_cons_succ, List.set_cons_zero]
            refine wpAnyH_take (i := 12) (oi := { dst := some 22, op := Op.binOp BinOp.sub 3 (Operand.tmp 21) (Operand.const (Value.int IntKind.i64 1)) 3, type := 3, pos := "l07_cache.go:20", after := #[{ on := 11, ground := Ground.data }, { on := 9, ground := Ground.guard }], guard := some (9, true) }) (v := ?_) rfl (by kernel_rfl) (by kernel_rfl) (by kernel_rfl) (fun _ _ _ h => h) (Or.inl ⟨by rfl, ?_⟩) hS2 ?_
            rotate_left
            · intro y hSy; obtain ⟨y0, y1, y2, y3, y4⟩ := hSy; go_simp; try with_reducible rfl
            simp only [Act.put, List.setIfInBounds_toArray, List.set_cons_succ, List.set_cons_zero]
            refine wpAnyH_take (i := 13) (oi := { dst := some 23, op := Op.indexAddr 34 (Operand.tmp 20) (Operand.tmp 22), type := 0, pos := "l07_cache.go:20", after := #[{ on := 10, ground := Ground.data }, { on := 12, ground := Ground.data }, { on := 9, ground := Ground.guard }], guard := some (9, true) }) (v := ?_) rfl (by kernel_rfl) (by kernel_rfl) (by kernel_rfl) (fun _ _ _ h => h) (Or.inl ⟨by rfl, ?_⟩) hS2 ?_
            rotate_left
            · intro y hSy; obtain ⟨y0, y1, y2, y3, y4⟩ := hSy; go_simp; try with_reducible rfl
            simp only [Act.put, List.setIfInBounds_toArray, List.set_cons_succ, List.set_cons_zero]
            refine wpAnyH_take (i := 14) (oi := { dst := some 24, op := Op.fieldAddr 104 (Operand.tmp 23) 0, type := 0, pos := "l07_cache.go:20", after := #[{ on := 13, ground := Ground.data }, { on := 9, ground := Ground.guard }], guard := some (9, true) }) (v := ?_) rfl (by kernel_rfl) (by kernel_rfl) (by kernel_rfl) (fun _ _ _ h => h) (Or.inl ⟨by rfl, ?_⟩) hS2 ?_
            rotate_left
            · intro y hSy; obtain ⟨y0, y1, y2, y3, y4⟩ := hSy; go_simp; try with_reducible rfl
            simp only [Act.put, List.setIfInBounds_toArray, List.set_cons_succ, List.set_cons_zero]
            refine wpAnyH_take (i := 15) (oi := { dst := some 25, op := Op.load 9 (Operand.tmp 24), type := 9, pos := "l07_cache.go:20", after := #[{ on := 14, ground := Ground.data }, { on := 9, ground := Ground.guard }], guard := some (9, true) }) (v := ?_) rfl (by kernel_rfl) (by kernel_rfl) (by kernel_rfl) (fun _ _ _ h => h) (Or.inl ⟨by rfl, ?_⟩) hS2 ?_
            rotate_left
            · intro y hSy; obtain ⟨y0, y1, y2, y3, y4⟩ := hSy; go_simp; try with_reducible rfl
            simp only [Act.put, List.setIfInBounds_toArray, List.set_cons_succ, List.set_cons_zero]
            refine wpAnyH_take (i := 16) (oi := { dst := some 26, op := Op.move (Operand.tmp 0), type := 34, pos := "l07_cache.go:20", after := #[{ on := 9, ground := Ground.guard }], guard := some (9, true) }) (v := ?_) rfl (by kernel_rfl) (by kernel_rfl) (by kernel_rfl) (fun _ _ _ h => h) (Or.inl ⟨by rfl, ?_⟩) hS2 ?_
            rotate_left
            · intro y hSy; obtain ⟨y0, y1, y2, y3, y4⟩ := hSy; go_simp; try with_reducible rfl
            simp only [Act.put, List.setIfInBounds_toArray, List.set_cons_succ, List.set_cons_zero]
            refine wpAnyH_take (i := 17) (oi := { dst := some 27, op := Op.move (Operand.tmp 3), type := 3, pos := "l07_cache.go:20", after := #[{ on := 9, ground := Ground.guard }], guard := some (9, true) }) (v := ?_) rfl (by kernel_rfl) (by kernel_rfl) (by kernel_rfl) (fun _ _ _ h => h) (Or.inl ⟨by rfl, ?_⟩) hS2 ?_
            rotate_left
            · intro y hSy; obtain ⟨y0, y1, y2, y3, y4⟩ := hSy; go_simp; try with_reducible rfl
            simp only [Act.put, List.setIfInBounds_toArray, List.set_cons_succ, List.set_cons_zero]
            refine wpAnyH_take (i := 18) (oi := { dst := some 28, op := Op.indexAddr 34 (Operand.tmp 26) (Operand.tmp 27), type := 0, pos := "l07_cache.go:20", after := #[{ on := 16, ground := Ground.data }, { on := 17, ground := Ground.data }, { on := 9, ground := Ground.guard }], guard := some (9, true) }) (v := ?_) rfl (by kernel_rfl) (by kernel_rfl) (by kernel_rfl) (fun _ _ _ h => h) (Or.inl ⟨by rfl, ?_⟩) hS2 ?_
            rotate_left
            · intro y hSy; obtain ⟨y0, y1, y2, y3, y4⟩ := hSy; go_simp; try with_reducible rfl
            simp only [Act.put, List.setIfInBounds_toArray, List.set_cons_succ, List.set_cons_zero]
            refine wpAnyH_take (i := 19) (oi := { dst := some 29, op := Op.fieldAddr 104 (Operand.tmp 28) 0, type := 0, pos := "l07_cache.go:20", after := #[{ on := 18, ground := Ground.data }, { on := 9, ground := Ground.guard }], guard := some (9, true) }) (v := ?_) rfl (by kernel_rfl) (by kernel_rfl) (by kernel_rfl) (fun _ _ _ h => h) (Or.inl ⟨by rfl, ?_⟩) hS2 ?_
            rotate_left
            · intro y hSy; obtain ⟨y0, y1, y2, y3, y4⟩ := hSy; go_simp; try with_reducible rfl
            simp only [Act.put, List.setIfInBounds_toArray, List.set_cons_succ, List.set_cons_zero]
            refine wpAnyH_take (i := 20) (oi := { dst := some 30, op := Op.load 9 (Operand.tmp 29), type := 9, pos := "l07_cache.go:20", after := #[{ on := 19, ground := Ground.data }, { on := 9, ground := Ground.guard }], guard := some (9, true) }) (v := ?_) rfl (by kernel_rfl) (by kernel_rfl) (by kernel_rfl) (fun _ _ _ h => h) (Or.inl ⟨by rfl, ?_⟩) hS2 ?_
            rotate_left
            · intro y hSy; obtain ⟨y0, y1, y2, y3, y4⟩ := hSy; go_simp; try with_reducible rfl
            simp only [Act.put, List.setIfInBounds_toArray, List.set_cons_succ, List.set_cons_zero]
            refine wpAnyH_take (i := 21) (oi := { dst := some 31, op := Op.binOp BinOp.geq 9 (Operand.tmp 25) (Operand.tmp 30) 9, type := 4, pos := "l07_cache.go:20", after := #[{ on := 15, ground := Ground.data }, { on := 20, ground := Ground.data }, { on := 9, ground := Ground.guard }], guard := some (9, true) }) (v := ?_) rfl (by kernel_rfl) (by kernel_rfl) (by kernel_rfl) (fun _ _ _ h => h) (Or.inl ⟨by rfl, ?_⟩) hS2 ?_
            rotate_left
            · intro y hSy; obtain ⟨y0, y1, y2, y3, y4⟩ := hSy; go_simp; try with_reducible rfl
            simp only [Act.put, List.setIfInBounds_toArray, List.set_cons_succ, List.set_cons_zero]
            refine wpAnyH_take (i := 22) (oi := { dst := some 32, op := Op.pick (Operand.tmp 19) (Operand.tmp 31) (Operand.const (Value.bool false)), type := 4, pos := "l07_cache.go:20", after := #[{ on := 9, ground := Ground.data }, { on := 21, ground := Ground.data }, { on := 6, ground := Ground.guard }], guard := some (6, false) }) (v := ?_) rfl (by kernel_rfl) (by kernel_rfl) (by kernel_rfl) (fun _ _ _ h => h) (Or.inl ⟨by rfl, ?_⟩) hS2 ?_
            rotate_left
            · intro y hSy; obtain ⟨y0, y1, y2, y3, y4⟩ := hSy; go_simp; try with_reducible rfl
            simp only [Act.put, List.setIfInBounds_toArray, List.set_cons_succ, List.set_cons_zero]
            refine wpAnyH_take (i := 23) (oi := { dst := some 33, op := Op.pick (Operand.tmp 16) (Operand.const (Value.bool true)) (Operand.tmp 32), type := 4, pos := "l07_cache.go:20", after := #[{ on := 6, ground := Ground.data }, { on := 22, ground := Ground.data }], guard := none }) (v := ?_) rfl (by kernel_rfl) (by kernel_rfl) (by kernel_rfl) (fun _ _ _ h => h) (Or.inl ⟨by rfl, ?_⟩) hS2 ?_
            rotate_left
            · intro y hSy; obtain ⟨y0, y1, y2, y3, y4⟩ := hSy; go_simp; try with_reducible rfl
            simp only [Act.put, List.setIfInBounds_toArray, List.set_cons_succ, List.set_cons_zero]
            refine wpAnyH_done (by kernel_rfl) ?_ _
            all_goals
              go_wp2_with fail
              go_roundw
              case rel => exact ⟨k + 1, rfl, unhide HB2, by omega, unhide HN⟩
              case measure => simp only [intOf]; omega
          | false =>
            have HE : Hid (cacheB P = false) := by
              have hkk := unhide HK
              rw [hkj] at hkk
              exact cacheB_order hjq hkk hLT
            unfold ltD at hLT
            have hgq : ∀ y, (binOp BinOp.geq 9 (.string q.d) (.string p.d)).run Tryz.prog y = .ok (.bool true) y := fun y => by rw [run_geqS, hLT]; rfl
            clear hO hjq hkj
            go_wp2_with fail
            refine wp_region_held (S := fun y => y.cell? ⟨b, o + k * 4, none⟩ = some (.string p.d) ∧ y.cell? ⟨b, o + k * 4 + 1, none⟩ = some (.int .i64 p.m) ∧ y.cell? ⟨b, o + k * 4 + 2, none⟩ = some (.slice x p.l.length xc) ∧ y.cell? ⟨b, o + k * 4 + 3, none⟩ = some (.int .i64 p.u) ∧ y.cell? ⟨b, o + j * 4, none⟩ = some (.string q.d)) Tryz.mixedO ?_
            have hS : (fun y : World => y.cell? ⟨b, o + k * 4, none⟩ = some (.string p.d) ∧ y.cell? ⟨b, o + k * 4 + 1, none⟩ = some (.int .i64 p.m) ∧ y.cell? ⟨b, o + k * 4 + 2, none⟩ = some (.slice x p.l.length xc) ∧ y.cell? ⟨b, o + k * 4 + 3, none⟩ = some (.int .i64 p.u) ∧ y.cell? ⟨b, o + j * 4, none⟩ = some (.string q.d)) wr.drew := ⟨c0, c1, c2, c3, g0⟩
            show wpAnyH _ _ _ _ _ _ _ _ wr.drew
            refine wpAnyH_take (i := 0) (oi := { dst := some 10, op := Op.move (Operand.tmp 0), type := 34, pos := "l07_cache.go:20", after := #[], guard := none }) (v := ?_) rfl (by kernel_rfl) (by kernel_rfl) (by kernel_rfl) (fun _ _ _ h => h) (Or.inl ⟨by rfl, ?_⟩) hS ?_
            rotate_left
            · intro y hSy; obtain ⟨y0, y1, y2, y3, y4⟩ := hSy; go_simp; try with_reducible rfl
            simp only [Act.put, List.setIfInBounds_toArray, List.set_cons_succ, List.set_cons_zero]
            refine wpAnyH_take (i := 1) (oi := { dst := some 11, op := Op.move (Operand.tmp 3), type := 3, pos := "l07_cache.go:20", after := #[], guard := none }) (v := ?_) rfl (by kernel_rfl) (by kernel_rfl) (by kernel_rfl) (fun _ _ _ h => h) (Or.inl ⟨by rfl, ?_⟩) hS ?_
            rotate_left
            · intro y hSy; obtain ⟨y0, y1, y2, y3, y4⟩ := hSy; go_simp; try with_reducible rfl
            simp only [Act.put, List.setIfInBounds_toArray, List.set_cons_succ, List.set_cons_zero]
            refine wpAnyH_take (i := 2) (oi := { dst := some 12, op := Op.indexAddr 34 (Operand.tmp 10) (Operand.tmp 11), type := 0, pos := "l07_cache.go:20", after := #[{ on := 0, ground := Ground.data }, { on := 1, ground := Ground.data }], guard := none }) (v := ?_) rfl (by kernel_rfl) (by kernel_rfl) (by kernel_rfl) (fun _ _ _ h => h) (Or.inl ⟨by rfl, ?_⟩) hS ?_
            rotate_left
            · intro y hSy; obtain ⟨y0, y1, y2, y3, y4⟩ := hSy; go_simp; try with_reducible rfl
            simp only [Act.put, List.setIfInBounds_toArray, List.set_cons_succ, List.set_cons_zero]
            refine wpAnyH_take (i := 3) (oi := { dst := some 13, op := Op.load 104 (Operand.tmp 12), type := 104, pos := "l07_cache.go:20", after := #[{ on := 2, ground := Ground.data }], guard := none }) (v := ?_) rfl (by kernel_rfl) (by kernel_rfl) (by kernel_rfl) (fun _ _ _ h => h) (Or.inl ⟨by rfl, ?_⟩) hS ?_
            rotate_left
            · intro y hSy; obtain ⟨y0, y1, y2, y3, y4⟩ := hSy; go_simp; try with_reducible rfl
            simp only [Act.put, List.setIfInBounds_toArray, List.set_cons_succ, List.set_cons_zero]
            refine wpAnyH_all (rs := [4]) (by kernel_rfl) (by simp) ?_
            intro i hi
            simp only [List.mem_singleton] at hi
            subst hi
            refine step_call (f := 73) (fn := Tryz.f73) (d := 14) (args := #[.agg #[.string p.d, .int .i64 p.m, .slice x p.l.length xc, .int .i64 p.u]]) rfl Tryz.func73 (by kernel_rfl) (by kernel_rfl) (by simp [Act.eval]) ?_
            refine (unhide hct _ (unhide HT)).mono ?_
            rintro e w2 ⟨rfl, hb2⟩
            refine ⟨_, rfl, ?_⟩
            have hS2 : (fun y : World => y.cell? ⟨b, o + k * 4, none⟩ = some (.string p.d) ∧ y.cell? ⟨b, o + k * 4 + 1, none⟩ = some (.int .i64 p.m) ∧ y.cell? ⟨b, o + k * 4 + 2, none⟩ = some (.slice x p.l.length xc) ∧ y.cell? ⟨b, o + k * 4 + 3, none⟩ = some (.int .i64 p.u) ∧ y.cell? ⟨b, o + j * 4, none⟩ = some (.string q.d)) w2 := ⟨below_some (below_drewQ hb2) c0, below_some (below_drewQ hb2) c1, below_some (below_drewQ hb2) c2, below_some (below_drewQ hb2) c3, below_some (below_drewQ hb2) g0⟩
            have HB2 := hide (btP (unhide HB) (below_drewQ hb2))
            clear hb2 hS
            refine ⟨hS2, ?_⟩
            simp only [Act.put, List.setIfInBounds_toArray, List.set_cons_succ, List.set_cons_zero]
            refine wpAnyH_take (i := 5) (oi := { dst := some 15, op := Op.unOp UnOp.not 4 (Operand.tmp 14), type := 4, pos := "l07_cache.go:20", after := #[{ on := 4, ground := Ground.data }], guard := none }) (v := ?_) rfl (by kernel_rfl) (by kernel_rfl) (by kernel_rfl) (fun _ _ _ h => h) (Or.inl ⟨by rfl, ?_⟩) hS2 ?_
            rotate_left
            · intro y hSy; obtain ⟨y0, y1, y2, y3, y4⟩ := hSy; go_simp; try with_reducible rfl
            simp only [Act.put, List.setIfInBounds_toArray, List.set_cons_succ, List.set_cons_zero]
            refine wpAnyH_take (i := 6) (oi := { dst := some 16, op := Op.move (Operand.tmp 15), type := 4, pos := "l07_cache.go:20", after := #[{ on := 5, ground := Ground.data }, { on := 4, ground := Ground.chain }], guard := none }) (v := ?_) rfl (by kernel_rfl) (by kernel_rfl) (by kernel_rfl) (fun _ _ _ h => h) (Or.inl ⟨by rfl, ?_⟩) hS2 ?_
            rotate_left
            · intro y hSy; obtain ⟨y0, y1, y2, y3, y4⟩ := hSy; go_simp; try with_reducible rfl
            simp only [Act.put, List.setIfInBounds_toArray, List.set_cons_succ, List.set_cons_zero]
            refine wpAnyH_take (i := 7) (oi := { dst := some 17, op := Op.move (Operand.tmp 3), type := 3, pos := "l07_cache.go:20", after := #[{ on := 6, ground := Ground.guard }], guard := some (6, false) }) (v := ?_) rfl (by kernel_rfl) (by kernel_rfl) (by kernel_rfl) (fun _ _ _ h => h) (Or.inl ⟨by rfl, ?_⟩) hS2 ?_
            rotate_left
            · intro y hSy; obtain ⟨y0, y1, y2, y3, y4⟩ := hSy; go_simp; try with_reducible rfl
            simp only [Act.put, List.setIfInBounds_toArray, List.set_cons_succ, List.set_cons_zero]
            refine wpAnyH_take (i := 8) (oi := { dst := some 18, op := Op.binOp BinOp.gtr 3 (Operand.tmp 17) (Operand.const (Value.int IntKind.i64 0)) 3, type := 4, pos := "l07_cache.go:20", after := #[{ on := 7, ground := Ground.data }, { on := 6, ground := Ground.guard }], guard := some (6, false) }) (v := ?_) rfl (by kernel_rfl) (by kernel_rfl) (by kernel_rfl) (fun _ _ _ h => h) (Or.inl ⟨by rfl, ?_⟩) hS2 ?_
            rotate_left
            · intro y hSy; obtain ⟨y0, y1, y2, y3, y4⟩ := hSy; go_simp; try with_reducible rfl
            simp only [Act.put, List.setIfInBounds_toArray, List.set_cons_succ, List.set_cons_zero]
            refine wpAnyH_take (i := 9) (oi := { dst := some 19, op := Op.move (Operand.tmp 18), type := 4, pos := "l07_cache.go:20", after := #[{ on := 8, ground := Ground.data }, { on := 6, ground := Ground.chain }, { on := 6, ground := Ground.guard }], guard := some (6, false) }) (v := ?_) rfl (by kernel_rfl) (by kernel_rfl) (by kernel_rfl) (fun _ _ _ h => h) (Or.inl ⟨by rfl, ?_⟩) hS2 ?_
            rotate_left
            · intro y hSy; obtain ⟨y0, y1, y2, y3, y4⟩ := hSy; go_simp; try with_reducible rfl
            simp only [Act.put, List.setIfInBounds_toArray, List.set_cons_succ, List.set_cons_zero]
            refine wpAnyH_take (i := 10) (oi := { dst := some 20, op := Op.move (Operand.tmp 0), type := 34, pos := "l07_cache.go:20", after := #[{ on := 9, ground := Ground.guard }], guard := some (9, true) }) (v := ?_) rfl (by kernel_rfl) (by kernel_rfl) (by kernel_rfl) (fun _ _ _ h => h) (Or.inl ⟨by rfl, ?_⟩) hS2 ?_
            rotate_left
            · intro y hSy; obtain ⟨y0, y1, y2, y3, y4⟩ := hSy; go_simp; try with_reducible rfl
            simp only [Act.put, List.setIfInBounds_toArray, List.set_cons_succ, List.set_cons_zero]
            refine wpAnyH_take (i := 11) (oi := { dst := some 21, op := Op.move (Operand.tmp 3), type := 3, pos := "l07_cache.go:20", after := #[{ on := 9, ground := Ground.guard }], guard := some (9, true) }) (v := ?_) rfl (by kernel_rfl) (by kernel_rfl) (by kernel_rfl) (fun _ _ _ h => h) (Or.inl ⟨by rfl, ?_⟩) hS2 ?_
            rotate_left
            · intro y hSy; obtain ⟨y0, y1, y2, y3, y4⟩ := hSy; go_simp; try with_reducible rfl
            simp only [Act.put, List.setIfInBounds_toArray, List.set_cons_succ, List.set_cons_zero]
            refine wpAnyH_take (i := 12) (oi := { dst := some 22, op := Op.binOp BinOp.sub 3 (Operand.tmp 21) (Operand.const (Value.int IntKind.i64 1)) 3, type := 3, pos := "l07_cache.go:20", after := #[{ on := 11, ground := Ground.data }, { on := 9, ground := Ground.guard }], guard := some (9, true) }) (v := ?_) rfl (by kernel_rfl) (by kernel_rfl) (by kernel_rfl) (fun _ _ _ h => h) (Or.inl ⟨by rfl, ?_⟩) hS2 ?_
            rotate_left
            · intro y hSy; obtain ⟨y0, y1, y2, y3, y4⟩ := hSy; go_simp; try with_reducible rfl
            simp only [Act.put, List.setIfInBounds_toArray, List.set_cons_succ, List.set_cons_zero]
            refine wpAnyH_take (i := 13) (oi := { dst := some 23, op := Op.indexAddr 34 (Operand.tmp 20) (Operand.tmp 22), type := 0, pos := "l07_cache.go:20", after := #[{ on := 10, ground := Ground.data }, { on := 12, ground := Ground.data }, { on := 9, ground := Ground.guard }], guard := some (9, true) }) (v := ?_) rfl (by kernel_rfl) (by kernel_rfl) (by kernel_rfl) (fun _ _ _ h => h) (Or.inl ⟨by rfl, ?_⟩) hS2 ?_
            rotate_left
            · intro y hSy; obtain ⟨y0, y1, y2, y3, y4⟩ := hSy; go_simp; try with_reducible rfl
            simp only [Act.put, List.setIfInBounds_toArray, List.set_cons_succ, List.set_cons_zero]
            refine wpAnyH_take (i := 14) (oi := { dst := some 24, op := Op.fieldAddr 104 (Operand.tmp 23) 0, type := 0, pos := "l07_cache.go:20", after := #[{ on := 13, ground := Ground.data }, { on := 9, ground := Ground.guard }], guard := some (9, true) }) (v := ?_) rfl (by kernel_rfl) (by kernel_rfl) (by kernel_rfl) (fun _ _ _ h => h) (Or.inl ⟨by rfl, ?_⟩) hS2 ?_
            rotate_left
            · intro y hSy; obtain ⟨y0, y1, y2, y3, y4⟩ := hSy; go_simp; try with_reducible rfl
            simp only [Act.put, List.setIfInBounds_toArray, List.set_cons_succ, List.set_cons_zero]
            refine wpAnyH_take (i := 15) (oi := { dst := some 25, op := Op.load 9 (Operand.tmp 24), type := 9, pos := "l07_cache.go:20", after := #[{ on := 14, ground := Ground.data }, { on := 9, ground := Ground.guard }], guard := some (9, true) }) (v := ?_) rfl (by kernel_rfl) (by kernel_rfl) (by kernel_rfl) (fun _ _ _ h => h) (Or.inl ⟨by rfl, ?_⟩) hS2 ?_
            rotate_left
            · intro y hSy; obtain ⟨y0, y1, y2, y3, y4⟩ := hSy; go_simp; try with_reducible rfl
            simp only [Act.put, List.setIfInBounds_toArray, List.set_cons_succ, List.set_cons_zero]
            refine wpAnyH_take (i := 16) (oi := { dst := some 26, op := Op.move (Operand.tmp 0), type := 34, pos := "l07_cache.go:20", after := #[{ on := 9, ground := Ground.guard }], guard := some (9, true) }) (v := ?_) rfl (by kernel_rfl) (by kernel_rfl) (by kernel_rfl) (fun _ _ _ h => h) (Or.inl ⟨by rfl, ?_⟩) hS2 ?_
            rotate_left
            · intro y hSy; obtain ⟨y0, y1, y2, y3, y4⟩ := hSy; go_simp; try with_reducible rfl
            simp only [Act.put, List.setIfInBounds_toArray, List.set_cons_succ, List.set_cons_zero]
            refine wpAnyH_take (i := 17) (oi := { dst := some 27, op := Op.move (Operand.tmp 3), type := 3, pos := "l07_cache.go:20", after := #[{ on := 9, ground := Ground.guard }], guard := some (9, true) }) (v := ?_) rfl (by kernel_rfl) (by kernel_rfl) (by kernel_rfl) (fun _ _ _ h => h) (Or.inl ⟨by rfl, ?_⟩) hS2 ?_
            rotate_left
            · intro y hSy; obtain ⟨y0, y1, y2, y3, y4⟩ := hSy; go_simp; try with_reducible rfl
            simp only [Act.put, List.setIfInBounds_toArray, List.set_cons_succ, List.set_cons_zero]
            refine wpAnyH_take (i := 18) (oi := { dst := some 28, op := Op.indexAddr 34 (Operand.tmp 26) (Operand.tmp 27), type := 0, pos := "l07_cache.go:20", after := #[{ on := 16, ground := Ground.data }, { on := 17, ground := Ground.data }, { on := 9, ground := Ground.guard }], guard := some (9, true) }) (v := ?_) rfl (by kernel_rfl) (by kernel_rfl) (by kernel_rfl) (fun _ _ _ h => h) (Or.inl ⟨by rfl, ?_⟩) hS2 ?_
            rotate_left
            · intro y hSy; obtain ⟨y0, y1, y2, y3, y4⟩ := hSy; go_simp; try with_reducible rfl
            simp only [Act.put, List.setIfInBounds_toArray, List.set_cons_succ, List.set_cons_zero]
            refine wpAnyH_take (i := 19) (oi := { dst := some 29, op := Op.fieldAddr 104 (Operand.tmp 28) 0, type := 0, pos := "l07_cache.go:20", after := #[{ on := 18, ground := Ground.data }, { on := 9, ground := Ground.guard }], guard := some (9, true) }) (v := ?_) rfl (by kernel_rfl) (by kernel_rfl) (by kernel_rfl) (fun _ _ _ h => h) (Or.inl ⟨by rfl, ?_⟩) hS2 ?_
            rotate_left
            · intro y hSy; obtain ⟨y0, y1, y2, y3, y4⟩ := hSy; go_simp; try with_reducible rfl
            simp only [Act.put, List.setIfInBounds_toArray, List.set_cons_succ, List.set_cons_zero]
            refine wpAnyH_take (i := 20) (oi := { dst := some 30, op := Op.load 9 (Operand.tmp 29), type := 9, pos := "l07_cache.go:20", after := #[{ on := 19, ground := Ground.data }, { on := 9, ground := Ground.guard }], guard := some (9, true) }) (v := ?_) rfl (by kernel_rfl) (by kernel_rfl) (by kernel_rfl) (fun _ _ _ h => h) (Or.inl ⟨by rfl, ?_⟩) hS2 ?_
            rotate_left
            · intro y hSy; obtain ⟨y0, y1, y2, y3, y4⟩ := hSy; go_simp; try with_reducible rfl
            simp only [Act.put, List.setIfInBounds_toArray, List.set_cons_succ, List.set_cons_zero]
            refine wpAnyH_take (i := 21) (oi := { dst := some 31, op := Op.binOp BinOp.geq 9 (Operand.tmp 25) (Operand.tmp 30) 9, type := 4, pos := "l07_cache.go:20", after := #[{ on := 15, ground := Ground.data }, { on := 20, ground := Ground.data }, { on := 9, ground := Ground.guard }], guard := some (9, true) }) (v := ?_) rfl (by kernel_rfl) (by kernel_rfl) (by kernel_rfl) (fun _ _ _ h => h) (Or.inl ⟨by rfl, ?_⟩) hS2 ?_
            rotate_left
            · intro y hSy; obtain ⟨y0, y1, y2, y3, y4⟩ := hSy; go_simp; try with_reducible rfl
            simp only [Act.put, List.setIfInBounds_toArray, List.set_cons_succ, List.set_cons_zero]
            refine wpAnyH_take (i := 22) (oi := { dst := some 32, op := Op.pick (Operand.tmp 19) (Operand.tmp 31) (Operand.const (Value.bool false)), type := 4, pos := "l07_cache.go:20", after := #[{ on := 9, ground := Ground.data }, { on := 21, ground := Ground.data }, { on := 6, ground := Ground.guard }], guard := some (6, false) }) (v := ?_) rfl (by kernel_rfl) (by kernel_rfl) (by kernel_rfl) (fun _ _ _ h => h) (Or.inl ⟨by rfl, ?_⟩) hS2 ?_
            rotate_left
            · intro y hSy; obtain ⟨y0, y1, y2, y3, y4⟩ := hSy; go_simp; try with_reducible rfl
            simp only [Act.put, List.setIfInBounds_toArray, List.set_cons_succ, List.set_cons_zero]
            refine wpAnyH_take (i := 23) (oi := { dst := some 33, op := Op.pick (Operand.tmp 16) (Operand.const (Value.bool true)) (Operand.tmp 32), type := 4, pos := "l07_cache.go:20", after := #[{ on := 6, ground := Ground.data }, { on := 22, ground := Ground.data }], guard := none }) (v := ?_) rfl (by kernel_rfl) (by kernel_rfl) (by kernel_rfl) (fun _ _ _ h => h) (Or.inl ⟨by rfl, ?_⟩) hS2 ?_
            rotate_left
            · intro y hSy; obtain ⟨y0, y1, y2, y3, y4⟩ := hSy; go_simp; try with_reducible rfl
            simp only [Act.put, List.setIfInBounds_toArray, List.set_cons_succ, List.set_cons_zero]
            refine wpAnyH_done (by kernel_rfl) ?_ _
            all_goals
              go_wp2_with fail
              go_ret
              exact ⟨retB (unhide HE), unhide HB2⟩
    · have c2 : ¬ (k : Int) < (len : Int) := by omega
      have HE : Hid (cacheB P = decide ((len : Int) ≤ 10)) := by
        show _ = _
        rw [cacheB_end (by have := HL.out; omega) hu, HL.out]
        by_cases h : len ≤ 10 <;> simp [h] <;> omega
      clear hb hu
      by_cases h10 : (len : Int) ≤ 10
      · rw [show decide ((len : Int) ≤ 10) = true from decide_eq_true h10] at HE
        go_wp2_with fail
        go_ret
        exact ⟨retB (unhide HE), unhide HB⟩
      · rw [show decide ((len : Int) ≤ 10) = false from decide_eq_false h10] at HE
        go_wp2_with fail
        go_ret
        exact ⟨retB (unhide HE), unhide HB⟩

theorem cacheB_many {P : List Pol} (h : 10 < P.length) : cacheB P = false := cacheB_no fun hh => by have := hh.1; omega

set_option maxRecDepth 100000 in
set_option maxHeartbeats 1000000 in
theorem cacheI (P : List Pol) (a : Option Addr) (cap : Nat) (w : World) (hl : Pols w 0 a P) (hm : P.length ≤ 2097152) (hz : ∀ p ∈ P, polZ p) :
    Calls Tryz.prog 88 #[.slice a P.length cap] w fun e w' => e = .returned (.bool (cacheB P)) ∧ Below w.heap.size w w' := by
  by_cases h10 : 10 < P.length
  · have c10 : (10 : Int) < (P.length : Int) := by omega
    have HE := hide (cacheB_many h10)
    clear hl hz h10
    generalize P.length = len at *
    go_enter Tryz.func88, Tryz.ntmps88
    go_wp2_with fail
    go_ret
    exact ⟨retB (unhide HE), Below.refl _ _⟩
  have H := hide hl
  have HZ := hide hz
  have HT10 : Hid (P.length ≤ 10) := by show _ ≤ _; omega
  have c10 : ¬ (10 : Int) < (P.length : Int) := by omega
  clear hl hz h10
  generalize hlen : P.length = len at *
  have HL : Hid (P.length = len) := hlen
  clear hlen
  go_enter Tryz.func88, Tryz.ntmps88
  go_wp2_with fail
  go_loopw [10] (fun n wr => ∃ k : Nat, n = .int .i64 (k : Int) ∧ Below w.heap.size w wr ∧ k ≤ len ∧ upTo P k) (fun n _ => len - (intOf n).toNat)
  case atStart => exact ⟨0, rfl, Below.refl _ _, by omega, upTo.zero P⟩
  case round =>
    obtain ⟨k, rfl, hb, hk, hu⟩ := hrel
    have HB := hide hb
    have HU := hide hu
    by_cases hp : k < len
    · have hp' : k < P.length := by have := HL.out; omega
      obtain ⟨p, hkp⟩ : ∃ p, P[k]? = some p := ⟨_, List.getElem?_eq_getElem hp'⟩
      obtain ⟨b, o, x, xc, rfl, -, -, c0, c1, c2, c3, hT⟩ := ((unhide H).on hb).elem hkp
      have hbx : Below wr.heap.size wr (wr.alloc (.cells #[.string p.d, .int .i64 p.m, .slice x p.l.length xc, .int .i64 p.u] 104)) := abP _
      have HBX := hide hbx
      have HT := hide ((hT.on hbx).on (Below.refl _ _).drew)
      obtain ⟨r0, r1, r2, r3⟩ := (RowP.new 104 wr p.d p.m x p.l.length xc p.u).facts
      have hpz := unhide HZ p (List.mem_of_getElem? hkp)
      have hct := hide (fun v hv => polI p.l p.d p.m x xc p.u v hv hpz.1 hpz.2.1 hpz.2.2)
      have q2 : (k : Int) < (len : Int) := by omega
      have q3 : (0 : Int) ≤ (k : Int) := by omega
      have w1 : wrap64 ((k : Int) + 1) = ((k + 1 : Nat) : Int) := by unfold wrap64; omega
      have HK : Hid (P[k]? = some p) := hkp
      have hO : polB p.l p.d p.m p.u = okP p := rfl
      rw [hO] at hct
      clear hb hT hu hpz hO hkp
      cases hO : okP p with
      | false =>
        have HE := hide (cacheB_bad (unhide HK) hO)
        rw [hO] at hct
        clear hO hbx
        go_wp2_with fail
        generalize hVV : wr.alloc (.cells #[.string p.d, .int .i64 p.m, .slice x p.l.length xc, .int .i64 p.u] 104) = V at *
        refine wp_region_held (S := fun y => y.cell? ⟨wr.heap.size, 0, none⟩ = some (.string p.d) ∧ y.cell? ⟨wr.heap.size, 1, none⟩ = some (.int .i64 p.m) ∧ y.cell? ⟨wr.heap.size, 2, none⟩ = some (.slice x p.l.length xc) ∧ y.cell? ⟨wr.heap.size, 3, none⟩ = some (.int .i64 p.u)) Tryz.mixedO ?_
        have hS : (fun y : World => y.cell? ⟨wr.heap.size, 0, none⟩ = some (.string p.d) ∧ y.cell? ⟨wr.heap.size, 1, none⟩ = some (.int .i64 p.m) ∧ y.cell? ⟨wr.heap.size, 2, none⟩ = some (.slice x p.l.length xc) ∧ y.cell? ⟨wr.heap.size, 3, none⟩ = some (.int .i64 p.u)) V.drew := ⟨r0, r1, r2, r3⟩
        show wpAnyH _ _ _ _ _ _ _ _ V.drew
        refine wpAnyH_take (i := 0) (oi := { dst := some 15, op := Op.load 104 (Operand.tmp 4), type := 104, pos := "l07_cache.go:44", after := #[], guard := none }) (v := ?_) rfl (by kernel_rfl) (by kernel_rfl) (by kernel_rfl) (fun _ _ _ h => h) (Or.inl ⟨by rfl, ?_⟩) hS ?_
        rotate_left
        · intro y hSy; obtain ⟨y0, y1, y2, y3⟩ := hSy; go_simp; try with_reducible rfl
        simp only [Act.put, List.setIfInBounds_toArray, List.set_cons_succ, List.set_cons_zero]
        refine wpAnyH_all (rs := [1]) (by kernel_rfl) (by simp) ?_
        intro i hi
        simp only [List.mem_singleton] at hi
        subst hi
        refine step_call (f := 113) (fn := Tryz.f113) (d := 16) (args := #[.agg #[.string p.d, .int .i64 p.m, .slice x p.l.length xc, .int .i64 p.u]]) rfl Tryz.func113 (by kernel_rfl) (by kernel_rfl) (by simp [Act.eval]) ?_
        refine (unhide hct _ (unhide HT)).mono ?_
        rintro e w2 ⟨rfl, hb2⟩
        refine ⟨_, rfl, ?_⟩
        have hS2 : (fun y : World => y.cell? ⟨wr.heap.size, 0, none⟩ = some (.string p.d) ∧ y.cell? ⟨wr.heap.size, 1, none⟩ = some (.int .i64 p.m) ∧ y.cell? ⟨wr.heap.size, 2, none⟩ = some (.slice x p.l.length xc) ∧ y.cell? ⟨wr.heap.size, 3, none⟩ = some (.int .i64 p.u)) w2 := ⟨below_some (below_drewQ hb2) r0, below_some (below_drewQ hb2) r1, below_some (below_drewQ hb2) r2, below_some (below_drewQ hb2) r3⟩
        have HB2 := hide (btP (btP (unhide HB) (unhide HBX)) (below_drewQ hb2))
        clear hb2 hS
        refine ⟨hS2, ?_⟩
        simp only [Act.put, List.setIfInBounds_toArray, List.set_cons_succ, List.set_cons_zero]
        refine wpAnyH_take (i := 2) (oi := { dst := some 17, op := Op.unOp UnOp.not 4 (Operand.tmp 16), type := 4, pos := "l07_cache.go:44", after := #[{ on := 1, ground := Ground.data }], guard := none }) (v := ?_) rfl (by kernel_rfl) (by kernel_rfl) (by kernel_rfl) (fun _ _ _ h => h) (Or.inl ⟨by rfl, ?_⟩) hS2 ?_
        rotate_left
        · intro y hSy; obtain ⟨y0, y1, y2, y3⟩ := hSy; go_simp; try with_reducible rfl
        simp only [Act.put, List.setIfInBounds_toArray, List.set_cons_succ, List.set_cons_zero]
        refine wpAnyH_take (i := 3) (oi := { dst := some 18, op := Op.move (Operand.tmp 17), type := 4, pos := "l07_cache.go:44", after := #[{ on := 2, ground := Ground.data }, { on := 1, ground := Ground.chain }], guard := none }) (v := ?_) rfl (by kernel_rfl) (by kernel_rfl) (by kernel_rfl) (fun _ _ _ h => h) (Or.inl ⟨by rfl, ?_⟩) hS2 ?_
        rotate_left
        · intro y hSy; obtain ⟨y0, y1, y2, y3⟩ := hSy; go_simp; try with_reducible rfl
        simp only [Act.put, List.setIfInBounds_toArray, List.set_cons_succ, List.set_cons_zero]
        refine wpAnyH_take (i := 4) (oi := { dst := some 19, op := Op.move (Operand.tmp 3), type := 3, pos := "l07_cache.go:44", after := #[{ on := 3, ground := Ground.guard }], guard := some (3, false) }) (v := undef) rfl (by kernel_rfl) (by kernel_rfl) (by kernel_rfl) (fun _ _ _ h => h) (Or.inr ⟨by rfl, rfl⟩) hS2 ?_
        simp only [Act.put, List.setIfInBounds_toArray, List.set_cons_succ, List.set_cons_zero]
        refine wpAnyH_take (i := 5) (oi := { dst := some 20, op := Op.binOp BinOp.gtr 3 (Operand.tmp 19) (Operand.const (Value.int IntKind.i64 0)) 3, type := 4, pos := "l07_cache.go:44", after := #[{ on := 4, ground := Ground.data }, { on := 3, ground := Ground.guard }], guard := some (3, false) }) (v := undef) rfl (by kernel_rfl) (by kernel_rfl) (by kernel_rfl) (fun _ _ _ h => h) (Or.inr ⟨by rfl, rfl⟩) hS2 ?_
        simp only [Act.put, List.setIfInBounds_toArray, List.set_cons_succ, List.set_cons_zero]
        refine wpAnyH_take (i := 6) (oi := { dst := some 21, op := Op.move (Operand.tmp 20), type := 4, pos := "l07_cache.go:44", after := #[{ on := 5, ground := Ground.data }, { on := 3, ground := Ground.chain }, { on := 3, ground := Ground.guard }], guard := some (3, false) }) (v := undef) rfl (by kernel_rfl) (by kernel_rfl) (by kernel_rfl) (fun _ _ _ h => h) (Or.inr ⟨by rfl, rfl⟩) hS2 ?_
        simp only [Act.put, List.setIfInBounds_toArray, List.set_cons_succ, List.set_cons_zero]
        refine wpAnyH_take (i := 7) (oi := { dst := some 22, op := Op.move (Operand.tmp 0), type := 34, pos := "l07_cache.go:44", after := #[{ on := 6, ground := Ground.guard }], guard := some (6, true) }) (v := undef) rfl (by kernel_rfl) (by kernel_rfl) (by kernel_rfl) (fun _ _ _ h => h) (Or.inr ⟨by rfl, rfl⟩) hS2 ?_
        simp only [Act.put, List.setIfInBounds_toArray, List.set_cons_succ, List.set_cons_zero]
        refine wpAnyH_take (i := 8) (oi := { dst := some 23, op := Op.move (Operand.tmp 3), type := 3, pos := "l07_cache.go:44", after := #[{ on := 6, ground := Ground.guard }], guard := some (6, true) }) (v := undef) rfl (by kernel_rfl) (by kernel_rfl) (by kernel_rfl) (fun _ _ _ h => h) (Or.inr ⟨by rfl, rfl⟩) hS2 ?_
        simp only [Act.put, List.setIfInBounds_toArray, List.set_cons_succ, List.set_cons_zero]
        refine wpAnyH_take (i := 9) (oi := { dst := some 24, op := Op.binOp BinOp.sub 3 (Operand.tmp 23) (Operand.const (Value.int IntKind.i64 1)) 3, type := 3, pos := "l07_cache.go:44", after := #[{ on := 8, ground := Ground.data }, { on := 6, ground := Ground.guard }], guard := some (6, true) }) (v := undef) rfl (by kernel_rfl) (by kernel_rfl) (by kernel_rfl) (fun _ _ _ h => h) (Or.inr ⟨by rfl, rfl⟩) hS2 ?_
        simp only [Act.put, List.setIfInBounds_toArray, List.set_cons_succ, List.set_cons_zero]
        refine wpAnyH_take (i := 10) (oi := { dst := some 25, op := Op.indexAddr 34 (Operand.tmp 22) (Operand.tmp 24), type := 0, pos := "l07_cache.go:44", after := #[{ on := 7, ground := Ground.data }, { on := 9, ground := Ground.data }, { on := 6, ground := Ground.guard }], guard := some (6, true) }) (v := undef) rfl (by kernel_rfl) (by kernel_rfl) (by kernel_rfl) (fun _ _ _ h => h) (Or.inr ⟨by rfl, rfl⟩) hS2 ?_
        simp only [Act.put, List.setIfInBounds_toArray, List.set_cons_succ, List.set_cons_zero]
        refine wpAnyH_take (i := 11) (oi := { dst := some 26, op := Op.fieldAddr 104 (Operand.tmp 25) 0, type := 0, pos := "l07_cache.go:44", after := #[{ on := 10, ground := Ground.data }, { on := 6, ground := Ground.guard }], guard := some (6, true) }) (v := undef) rfl (by kernel_rfl) (by kernel_rfl) (by kernel_rfl) (fun _ _ _ h => h) (Or.inr ⟨by rfl, rfl⟩) hS2 ?_
        simp only [Act.put, List.setIfInBounds_toArray, List.set_cons_succ, List.set_cons_zero]
        refine wpAnyH_take (i := 12) (oi := { dst := some 27, op := Op.load 9 (Operand.tmp 26), type := 9, pos := "l07_cache.go:44", after := #[{ on := 11, ground := Ground.data }, { on := 6, ground := Ground.guard }], guard := some (6, true) }) (v := undef) rfl (by kernel_rfl) (by kernel_rfl) (by kernel_rfl) (fun _ _ _ h => h) (Or.inr ⟨by rfl, rfl⟩) hS2 ?_
        simp only [Act.put, List.setIfInBounds_toArray, List.set_cons_succ, List.set_cons_zero]
        refine wpAnyH_take (i := 13) (oi := { dst := some 28, op := Op.fieldAddr 104 (Operand.tmp 4) 0, type := 0, pos := "l07_cache.go:44", after := #[{ on := 6, ground := Ground.guard }], guard := some (6, true) }) (v := undef) rfl (by kernel_rfl) (by kernel_rfl) (by kernel_rfl) (fun _ _ _ h => h) (Or.inr ⟨by rfl, rfl⟩) hS2 ?_
        simp only [Act.put, List.setIfInBounds_toArray, List.set_cons_succ, List.set_cons_zero]
        refine wpAnyH_take (i := 14) (oi := { dst := some 29, op := Op.load 9 (Operand.tmp 28), type := 9, pos := "l07_cache.go:44", after := #[{ on := 13, ground := Ground.data }, { on := 6, ground := Ground.guard }], guard := some (6, true) }) (v := undef) rfl (by kernel_rfl) (by kernel_rfl) (by kernel_rfl) (fun _ _ _ h => h) (Or.inr ⟨by rfl, rfl⟩) hS2 ?_
        simp only [Act.put, List.setIfInBounds_toArray, List.set_cons_succ, List.set_cons_zero]
        refine wpAnyH_take (i := 15) (oi := { dst := some 30, op := Op.binOp BinOp.geq 9 (Operand.tmp 27) (Operand.tmp 29) 9, type := 4, pos := "l07_cache.go:44", after := #[{ on := 12, ground := Ground.data }, { on := 14, ground := Ground.data }, { on := 6, ground := Ground.guard }], guard := some (6, true) }) (v := undef) rfl (by kernel_rfl) (by kernel_rfl) (by kernel_rfl) (fun _ _ _ h => h) (Or.inr ⟨by rfl, rfl⟩) hS2 ?_
        simp only [Act.put, List.setIfInBounds_toArray, List.set_cons_succ, List.set_cons_zero]
        refine wpAnyH_take (i := 16) (oi := { dst := some 31, op := Op.pick (Operand.tmp 21) (Operand.tmp 30) (Operand.const (Value.bool false)), type := 4, pos := "l07_cache.go:44", after := #[{ on := 6, ground := Ground.data }, { on := 15, ground := Ground.data }, { on := 3, ground := Ground.guard }], guard := some (3, false) }) (v := undef) rfl (by kernel_rfl) (by kernel_rfl) (by kernel_rfl) (fun _ _ _ h => h) (Or.inr ⟨by rfl, rfl⟩) hS2 ?_
        simp only [Act.put, List.setIfInBounds_toArray, List.set_cons_succ, List.set_cons_zero]
        refine wpAnyH_take (i := 17) (oi := { dst := some 32, op := Op.pick (Operand.tmp 18) (Operand.const (Value.bool true)) (Operand.tmp 31), type := 4, pos := "l07_cache.go:44", after := #[{ on := 3, ground := Ground.data }, { on := 16, ground := Ground.data }], guard := none }) (v := ?_) rfl (by kernel_rfl) (by kernel_rfl) (by kernel_rfl) (fun _ _ _ h => h) (Or.inl ⟨by rfl, ?_⟩) hS2 ?_
        rotate_left
        · intro y hSy; obtain ⟨y0, y1, y2, y3⟩ := hSy; go_simp; try with_reducible rfl
        simp only [Act.put, List.setIfInBounds_toArray, List.set_cons_succ, List.set_cons_zero]
        refine wpAnyH_done (by kernel_rfl) ?_ _
        go_wp2_with fail
        go_ret
        exact ⟨retB (unhide HE), unhide HB2⟩
      | true =>
        rw [hO] at hct
        rcases Nat.eq_zero_or_pos k with rfl | hkp
        · have HN := hide (upTo.one (unhide HK) hO)
          rw [Nat.zero_mul, Nat.add_zero] at c0 c1 c2 c3
          clear hO hbx
          go_wp2_with fail
          generalize hVV : wr.alloc (.cells #[.string p.d, .int .i64 p.m, .slice x p.l.length xc, .int .i64 p.u] 104) = V at *
          refine wp_region_held (S := fun y => y.cell? ⟨wr.heap.size, 0, none⟩ = some (.string p.d) ∧ y.cell? ⟨wr.heap.size, 1, none⟩ = some (.int .i64 p.m) ∧ y.cell? ⟨wr.heap.size, 2, none⟩ = some (.slice x p.l.length xc) ∧ y.cell? ⟨wr.heap.size, 3, none⟩ = some (.int .i64 p.u)) Tryz.mixedO ?_
          have hS : (fun y : World => y.cell? ⟨wr.heap.size, 0, none⟩ = some (.string p.d) ∧ y.cell? ⟨wr.heap.size, 1, none⟩ = some (.int .i64 p.m) ∧ y.cell? ⟨wr.heap.size, 2, none⟩ = some (.slice x p.l.length xc) ∧ y.cell? ⟨wr.heap.size, 3, none⟩ = some (.int .i64 p.u)) V.drew := ⟨r0, r1, r2, r3⟩
          show wpAnyH _ _ _ _ _ _ _ _ V.drew
          refine wpAnyH_take (i := 0) (oi := { dst := some 15, op := Op.load 104 (Operand.tmp 4), type := 104, pos := "l07_cache.go:44", after := #[], guard := none }) (v := ?_) rfl (by kernel_rfl) (by kernel_rfl) (by kernel_rfl) (fun _ _ _ h => h) (Or.inl ⟨by rfl, ?_⟩) hS ?_
          rotate_left
          · intro y hSy; obtain ⟨y0, y1, y2, y3⟩ := hSy; go_simp; try with_reducible rfl
          simp only [Act.put, List.setIfInBounds_toArray, List.set_cons_succ, List.set_cons_zero]
          refine wpAnyH_all (rs := [1]) (by kernel_rfl) (by simp) ?_
          intro i hi
          simp only [List.mem_singleton] at hi
          subst hi
          refine step_call (f := 113) (fn := Tryz.f113) (d := 16) (args := #[.agg #[.string p.d, .int .i64 p.m, .slice x p.l.length xc, .int .i64 p.u]]) rfl Tryz.func113 (by kernel_rfl) (by kernel_rfl) (by simp [Act.eval]) ?_
          refine (unhide hct _ (unhide HT)).mono ?_
          rintro e w2 ⟨rfl, hb2⟩
          refine ⟨_, rfl, ?_⟩
          have hS2 : (fun y : World => y.cell? ⟨wr.heap.size, 0, none⟩ = some (.string p.d) ∧ y.cell? ⟨wr.heap.size, 1, none⟩ = some (.int .i64 p.m) ∧ y.cell? ⟨wr.heap.size, 2, none⟩ = some (.slice x p.l.length xc) ∧ y.cell? ⟨wr.heap.size, 3, none⟩ = some (.int .i64 p.u)) w2 := ⟨below_some (below_drewQ hb2) r0, below_some (below_drewQ hb2) r1, below_some (below_drewQ hb2) r2, below_some (below_drewQ hb2) r3⟩
          have HB2 := hide (btP (btP (unhide HB) (unhide HBX)) (below_drewQ hb2))
          clear hb2 hS
          refine ⟨hS2, ?_⟩
          simp only [Act.put, List.setIfInBounds_toArray, List.set_cons_succ, List.set_cons_zero]
          refine wpAnyH_take (i := 2) (oi := { dst := some 17, op := Op.unOp UnOp.not 4 (Operand.tmp 16), type := 4, pos := "l07_cache.go:44", after := #[{ on := 1, ground := Ground.data }], guard := none }) (v := ?_) rfl (by kernel_rfl) (by kernel_rfl) (by kernel_rfl) (fun _ _ _ h => h) (Or.inl ⟨by rfl, ?_⟩) hS2 ?_
          rotate_left
          · intro y hSy; obtain ⟨y0, y1, y2, y3⟩ := hSy; go_simp; try with_reducible rfl
          simp only [Act.put, List.setIfInBounds_toArray, List.set_cons_succ, List.set_cons_zero]
          refine wpAnyH_take (i := 3) (oi := { dst := some 18, op := Op.move (Operand.tmp 17), type := 4, pos := "l07_cache.go:44", after := #[{ on := 2, ground := Ground.data }, { on := 1, ground := Ground.chain }], guard := none }) (v := ?_) rfl (by kernel_rfl) (by kernel_rfl) (by kernel_rfl) (fun _ _ _ h => h) (Or.inl ⟨by rfl, ?_⟩) hS2 ?_
          rotate_left
          · intro y hSy; obtain ⟨y0, y1, y2, y3⟩ := hSy; go_simp; try with_reducible rfl
          simp only [Act.put, List.setIfInBounds_toArray, List.set_cons_succ, List.set_cons_zero]
          refine wpAnyH_take (i := 4) (oi := { dst := some 19, op := Op.move (Operand.tmp 3), type := 3, pos := "l07_cache.go:44", after := #[{ on := 3, ground := Ground.guard }], guard := some (3, false) }) (v := ?_) rfl (by kernel_rfl) (by kernel_rfl) (by kernel_rfl) (fun _ _ _ h => h) (Or.inl ⟨by rfl, ?_⟩) hS2 ?_
          rotate_left
          · intro y hSy; obtain ⟨y0, y1, y2, y3⟩ := hSy; go_simp; try with_reducible rfl
          simp only [Act.put, List.setIfInBounds_toArray, List.set_cons_succ, List.set_cons_zero]
          refine wpAnyH_take (i := 5) (oi := { dst := some 20, op := Op.binOp BinOp.gtr 3 (Operand.tmp 19) (Operand.const (Value.int IntKind.i64 0)) 3, type := 4, pos := "l07_cache.go:44", after := #[{ on := 4, ground := Ground.data }, { on := 3, ground := Ground.guard }], guard := some (3, false) }) (v := ?_) rfl (by kernel_rfl) (by kernel_rfl) (by kernel_rfl) (fun _ _ _ h => h) (Or.inl ⟨by rfl, ?_⟩) hS2 ?_
          rotate_left
          · intro y hSy; obtain ⟨y0, y1, y2, y3⟩ := hSy; go_simp; try with_reducible rfl
          simp only [Act.put, List.setIfInBounds_toArray, List.set_cons_succ, List.set_cons_zero]
          refine wpAnyH_take (i := 6) (oi := { dst := some 21, op := Op.move (Operand.tmp 20), type := 4, pos := "l07_cache.go:44", after := #[{ on := 5, ground := Ground.data }, { on := 3, ground := Ground.chain }, { on := 3, ground := Ground.guard }], guard := some (3, false) }) (v := ?_) rfl (by kernel_rfl) (by kernel_rfl) (by kernel_rfl) (fun _ _ _ h => h) (Or.inl ⟨by rfl, ?_⟩) hS2 ?_
          rotate_left
          · intro y hSy; obtain ⟨y0, y1, y2, y3⟩ := hSy; go_simp; try with_reducible rfl
          simp only [Act.put, List.setIfInBounds_toArray, List.set_cons_succ, List.set_cons_zero]
          refine wpAnyH_take (i := 7) (oi := { dst := some 22, op := Op.move (Operand.tmp 0), type := 34, pos := "l07_cache.go:44", after := #[{ on := 6, ground := Ground.guard }], guard := some (6, true) }) (v := undef) rfl (by kernel_rfl) (by kernel_rfl) (by kernel_rfl) (fun _ _ _ h => h) (Or.inr ⟨by rfl, rfl⟩) hS2 ?_
          simp only [Act.put, List.setIfInBounds_toArray, List.set_cons_succ, List.set_cons_zero]
          refine wpAnyH_take (i := 8) (oi := { dst := some 23, op := Op.move (Operand.tmp 3), type := 3, pos := "l07_cache.go:44", after := #[{ on := 6, ground := Ground.guard }], guard := some (6, true) }) (v := undef) rfl (by kernel_rfl) (by kernel_rfl) (by kernel_rfl) (fun _ _ _ h => h) (Or.inr ⟨by rfl, rfl⟩) hS2 ?_
          simp only [Act.put, List.setIfInBounds_toArray, List.set_cons_succ, List.set_cons_zero]
          refine wpAnyH_take (i := 9) (oi := { dst := some 24, op := Op.binOp BinOp.sub 3 (Operand.tmp 23) (Operand.const (Value.int IntKind.i64 1)) 3, type := 3, pos := "l07_cache.go:44", after := #[{ on := 8, ground := Ground.data }, { on := 6, ground := Ground.guard }], guard := some (6, true) }) (v := undef) rfl (by kernel_rfl) (by kernel_rfl) (by kernel_rfl) (fun _ _ _ h => h) (Or.inr ⟨by rfl, rfl⟩) hS2 ?_
          simp only [Act.put, List.setIfInBounds_toArray, List.set_cons_succ, List.set_cons_zero]
          refine wpAnyH_take (i := 10) (oi := { dst := some 25, op := Op.indexAddr 34 (Operand.tmp 22) (Operand.tmp 24), type := 0, pos := "l07_cache.go:44", after := #[{ on := 7, ground := Ground.data }, { on := 9, ground := Ground.data }, { on := 6, ground := Ground.guard }], guard := some (6, true) }) (v := undef) rfl (by kernel_rfl) (by kernel_rfl) (by kernel_rfl) (fun _ _ _ h => h) (Or.inr ⟨by rfl, rfl⟩) hS2 ?_
          simp only [Act.put, List.setIfInBounds_toArray, List.set_cons_succ, List.set_cons_zero]
          refine wpAnyH_take (i := 11) (oi := { dst := some 26, op := Op.fieldAddr 104 (Operand.tmp 25) 0, type := 0, pos := "l07_cache.go:44", after := #[{ on := 10, ground := Ground.data }, { on := 6, ground := Ground.guard }], guard := some (6, true) }) (v := undef) rfl (by kernel_rfl) (by kernel_rfl) (by kernel_rfl) (fun _ _ _ h => h) (Or.inr ⟨by rfl, rfl⟩) hS2 ?_
          simp only [Act.put, List.setIfInBounds_toArray, List.set_cons_succ, List.set_cons_zero]
          refine wpAnyH_take (i := 12) (oi := { dst := some 27, op := Op.load 9 (Operand.tmp 26), type := 9, pos := "l07_cache.go:44", after := #[{ on := 11, ground := Ground.data }, { on := 6, ground := Ground.guard }], guard := some (6, true) }) (v := undef) rfl (by kernel_rfl) (by kernel_rfl) (by kernel_rfl) (fun _ _ _ h => h) (Or.inr ⟨by rfl, rfl⟩) hS2 ?_
          simp only [Act.put, List.setIfInBounds_toArray, List.set_cons_succ, List.set_cons_zero]
          refine wpAnyH_take (i := 13) (oi := { dst := some 28, op := Op.fieldAddr 104 (Operand.tmp 4) 0, type := 0, pos := "l07_cache.go:44", after := #[{ on := 6, ground := Ground.guard }], guard := some (6, true) }) (v := undef) rfl (by kernel_rfl) (by kernel_rfl) (by kernel_rfl) (fun _ _ _ h => h) (Or.inr ⟨by rfl, rfl⟩) hS2 ?_
          simp only [Act.put, List.setIfInBounds_toArray, List.set_cons_succ, List.set_cons_zero]
          refine wpAnyH_take (i := 14) (oi := { dst := some 29, op := Op.load 9 (Operand.tmp 28), type := 9, pos := "l07_cache.go:44", after := #[{ on := 13, ground := Ground.data }, { on := 6, ground := Ground.guard }], guard := some (6, true) }) (v := undef) rfl (by kernel_rfl) (by kernel_rfl) (by kernel_rfl) (fun _ _ _ h => h) (Or.inr ⟨by rfl, rfl⟩) hS2 ?_
          simp only [Act.put, List.setIfInBounds_toArray, List.set_cons_succ, List.set_cons_zero]
          refine wpAnyH_take (i := 15) (oi := { dst := some 30, op := Op.binOp BinOp.geq 9 (Operand.tmp 27) (Operand.tmp 29) 9, type := 4, pos := "l07_cache.go:44", after := #[{ on := 12, ground := Ground.data }, { on := 14, ground := Ground.data }, { on := 6, ground := Ground.guard }], guard := some (6, true) }) (v := undef) rfl (by kernel_rfl) (by kernel_rfl) (by kernel_rfl) (fun _ _ _ h => h) (Or.inr ⟨by rfl, rfl⟩) hS2 ?_
          simp only [Act.put, List.setIfInBounds_toArray, List.set_cons_succ, List.set_cons_zero]
          refine wpAnyH_take (i := 16) (oi := { dst := some 31, op := Op.pick (Operand.tmp 21) (Operand.tmp 30) (Operand.const (Value.bool false)), type := 4, pos := "l07_cache.go:44", after := #[{ on := 6, ground := Ground.data }, { on := 15, ground := Ground.data }, { on := 3, ground := Ground.guard }], guard := some (3, false) }) (v := ?_) rfl (by kernel_rfl) (by kernel_rfl) (by kernel_rfl) (fun _ _ _ h => h) (Or.inl ⟨by rfl, ?_⟩) hS2 ?_
          rotate_left
          · intro y hSy; obtain ⟨y0, y1, y2, y3⟩ := hSy; go_simp; try with_reducible rfl
          simp only [Act.put, List.setIfInBounds_toArray, List.set_cons_succ, List.set_cons_zero]
          refine wpAnyH_take (i := 17) (oi := { dst := some 32, op := Op.pick (Operand.tmp 18) (Operand.const (Value.bool true)) (Operand.tmp 31), type := 4, pos := "l07_cache.go:44", after := #[{ on := 3, ground := Ground.data }, { on := 16, ground := Ground.data }], guard := none }) (v := ?_) rfl (by kernel_rfl) (by kernel_rfl) (by kernel_rfl) (fun _ _ _ h => h) (Or.inl ⟨by rfl, ?_⟩) hS2 ?_
          rotate_left
          · intro y hSy; obtain ⟨y0, y1, y2, y3⟩ := hSy; go_simp; try with_reducible rfl
          simp only [Act.put, List.setIfInBounds_toArray, List.set_cons_succ, List.set_cons_zero]
          refine wpAnyH_done (by kernel_rfl) ?_ _
          go_wp2_with fail
          go_roundw
          case rel => exact ⟨0 + 1, rfl, unhide HB2, by omega, unhide HN⟩
          case measure => simp only [intOf]; omega
        · obtain ⟨j, hkj⟩ : ∃ j, k = j + 1 := ⟨k - 1, by omega⟩
          obtain ⟨q, hjq⟩ : ∃ q, P[j]? = some q := ⟨_, List.getElem?_eq_getElem (by omega)⟩
          obtain ⟨b', o', x', xc', e', -, -, g0', g1, g2, g3, -⟩ := ((unhide H).on (unhide HB)).elem hjq
          simp only [Option.some.injEq, Addr.mk.injEq, and_true] at e'
          obtain ⟨rfl, rfl⟩ := e'
          have g0 := below_some hbx g0'
          have w3 : wrap64 ((k : Int) - 1) = (j : Int) := by unfold wrap64; omega
          have w4 : IntKind.i64.wrap ((k : Int) - 1) = (j : Int) := (IntWalk.i64_in _ ⟨by omega, by omega⟩).trans (by omega)
          have q4 : (0 : Int) < (k : Int) := by omega
          have q5 : (0 : Int) ≤ (j : Int) := by omega
          have q6 : (j : Int) < (len : Int) := by omega
          clear g1 g2 g3 g0' hbx
          cases hLT : ltD q p with
          | true =>
            have HN : Hid (upTo P (k + 1)) := by
              have hu := unhide HU
              have hkk := unhide HK
              rw [hkj] at hu hkk
              show upTo P (k + 1)
              rw [hkj]
              exact hu.next hjq hkk hO hLT
            unfold ltD at hLT
            have hgq : ∀ y, (binOp BinOp.geq 9 (.string q.d) (.string p.d)).run Tryz.prog y = .ok (.bool false) y := fun y => by rw [run_geqS, hLT]; rfl
            clear hO hjq hkj
            go_wp2_with fail
            generalize hVV : wr.alloc (.cells #[.string p.d, .int .i64 p.m, .slice x p.l.length xc, .int .i64 p.u] 104) = V at *
            refine wp_region_held (S := fun y => y.cell? ⟨wr.heap.size, 0, none⟩ = some (.string p.d) ∧ y.cell? ⟨wr.heap.size, 1, none⟩ = some (.int .i64 p.m) ∧ y.cell? ⟨wr.heap.size, 2, none⟩ = some (.slice x p.l.length xc) ∧ y.cell? ⟨wr.heap.size, 3, none⟩ = some (.int .i64 p.u) ∧ y.cell? ⟨b, o + j * 4, none⟩ = some (.string q.d)) Tryz.mixedO ?_
            have hS : (fun y : World => y.cell? ⟨wr.heap.size, 0, none⟩ = some (.string p.d) ∧ y.cell? ⟨wr.heap.size, 1, none⟩ = some (.int .i64 p.m) ∧ y.cell? ⟨wr.heap.size, 2, none⟩ = some (.slice x p.l.length xc) ∧ y.cell? ⟨wr.heap.size, 3, none⟩ = some (.int .i64 p.u) ∧ y.cell? ⟨b, o + j * 4, none⟩ = some (.string q.d)) V.drew := ⟨r0, r1, r2, r3, g0⟩
            show wpAnyH _ _ _ _ _ _ _ _ V.drew
            refine wpAnyH_take (i := 0) (oi := { dst := some 15, op := Op.load 104 (Operand.tmp 4), type := 104, pos := "l07_cache.go:44", after := #[], guard := none }) (v := ?_) rfl (by kernel_rfl) (by kernel_rfl) (by kernel_rfl) (fun _ _ _ h => h) (Or.inl ⟨by rfl, ?_⟩) hS ?_
            rotate_left
            · intro y hSy; obtain ⟨y0, y1, y2, y3, y4⟩ := hSy; go_simp; try with_reducible rfl
            simp only [Act.put, List.setIfInBounds_toArray, List.set_cons_succ, List.set_cons_zero]
            refine wpAnyH_all (rs := [1]) (by kernel_rfl) (by simp) ?_
            intro i hi
            simp only [List.mem_singleton] at hi
            subst hi
            refine step_call (f := 113) (fn := Tryz.f113) (d := 16) (args := #[.agg #[.string p.d, .int .i64 p.m, .slice x p.l.length xc, .int .i64 p.u]]) rfl Tryz.func113 (by kernel_rfl) (by kernel_rfl) (by simp [Act.eval]) ?_
            refine (unhide hct _ (unhide HT)).mono ?_
            rintro e w2 ⟨rfl, hb2⟩
            refine ⟨_, rfl, ?_⟩
            have hS2 : (fun y : World => y.cell? ⟨wr.heap.size, 0, none⟩ = some (.string p.d) ∧ y.cell? ⟨wr.heap.size, 1, none⟩ = some (.int .i64 p.m) ∧ y.cell? ⟨wr.heap.size, 2, none⟩ = some (.slice x p.l.length xc) ∧ y.cell? ⟨wr.heap.size, 3, none⟩ = some (.int .i64 p.u) ∧ y.cell? ⟨b, o + j * 4, none⟩ = some (.string q.d)) w2 := ⟨below_some (below_drewQ hb2) r0, below_some (below_drewQ hb2) r1, below_some (below_drewQ hb2) r2, below_some (below_drewQ hb2) r3, below_some (below_drewQ hb2) g0⟩
            have HB2 := hide (btP (btP (unhide HB) (unhide HBX)) (below_drewQ hb2))
            clear hb2 hS
            refine ⟨hS2, ?_⟩
            simp only [Act.put, List.setIfInBounds_toArray, List.set_cons_succ, List.set_cons_zero]
            refine wpAnyH_take (i := 2) (oi := { dst := some 17, op := Op.unOp UnOp.not 4 (Operand.tmp 16), type := 4, pos := "l07_cache.go:44", after := #[{ on := 1, ground := Ground.data }], guard := none }) (v := ?_) rfl (by kernel_rfl) (by kernel_rfl) (by kernel_rfl) (fun _ _ _ h => h) (Or.inl ⟨by rfl, ?_⟩) hS2 ?_
            rotate_left
            · intro y hSy; obtain ⟨y0, y1, y2, y3, y4⟩ := hSy; go_simp; try with_reducible rfl
            simp only [Act.put, List.setIfInBounds_toArray, List.set_cons_succ, List.set_cons_zero]
            refine wpAnyH_take (i := 3) (oi := { dst := some 18, op := Op.move (Operand.tmp 17), type := 4, pos := "l07_cache.go:44", after := #[{ on := 2, ground := Ground.data }, { on := 1, ground := Ground.chain }], guard := none }) (v := ?_) rfl (by kernel_rfl) (by kernel_rfl) (by kernel_rfl) (fun _ _ _ h => h) (Or.inl ⟨by rfl, ?_⟩) hS2 ?_
            rotate_left
            · intro y hSy; obtain ⟨y0, y1, y2, y3, y4⟩ := hSy; go_simp; try with_reducible rfl
            simp only [Act.put, List.setIfInBounds_toArray, List.set_cons_succ, List.set_cons_zero]
            refine wpAnyH_take (i := 4) (oi := { dst := some 19, op := Op.move (Operand.tmp 3), type := 3, pos := "l07_cache.go:44", after := #[{ on := 3, ground := Ground.guard }], guard := some (3, false) }) (v := ?_) rfl (by kernel_rfl) (by kernel_rfl) (by kernel_rfl) (fun _ _ _ h => h) (Or.inl ⟨by rfl, ?_⟩) hS2 ?_
            rotate_left
            · intro y hSy; obtain ⟨y0, y1, y2, y3, y4⟩ := hSy; go_simp; try with_reducible rfl
            simp only [Act.put, List.setIfInBounds_toArray, List.set_cons_succ, List.set_cons_zero]
            refine wpAnyH_take (i := 5) (oi := { dst := some 20, op := Op.binOp BinOp.gtr 3 (Operand.tmp 19) (Operand.const (Value.int IntKind.i64 0)) 3, type := 4, pos := "l07_cache.go:44", after := #[{ on := 4, ground := Ground.data }, { on := 3, ground := Ground.guard }], guard := some (3, false) }) (v := ?_) rfl (by kernel_rfl) (by kernel_rfl) (by kernel_rfl) (fun _ _ _ h => h) (Or.inl ⟨by rfl, ?_⟩) hS2 ?_
            rotate_left
            · intro y hSy; obtain ⟨y0, y1, y2, y3, y4⟩ := hSy; go_simp; try with_reducible rfl
            simp only [Act.put, List.setIfInBounds_toArray, List.set_cons_succ, List.set_cons_zero]
            refine wpAnyH_take (i := 6) (oi := { dst := some 21, op := Op.move (Operand.tmp 20), type := 4, pos := "l07_cache.go:44", after := #[{ on := 5, ground := Ground.data }, { on := 3, ground := Ground.chain }, { on := 3, ground := Ground.guard }], guard := some (3, false) }) (v := ?_) rfl (by kernel_rfl) (by kernel_rfl) (by kernel_rfl) (fun _ _ _ h => h) (Or.inl ⟨by rfl, ?_⟩) hS2 ?_
            rotate_left
            · intro y hSy; obtain ⟨y0, y1, y2, y3, y4⟩ := hSy; go_simp; try with_reducible rfl
            simp only [Act.put, List.setIfInBounds_toArray, List.set_cons_succ, List.set_cons_zero]
            refine wpAnyH_take (i := 7) (oi := { dst := some 22, op := Op.move (Operand.tmp 0), type := 34, pos := "l07_cache.go:44", after := #[{ on := 6, ground := Ground.guard }], guard := some (6, true) }) (v := ?_) rfl (by kernel_rfl) (by kernel_rfl) (by kernel_rfl) (fun _ _ _ h => h) (Or.inl ⟨by rfl, ?_⟩) hS2 ?_
            rotate_left
            · intro y hSy; obtain ⟨y0, y1, y2, y3, y4⟩ := hSy; go_simp; try with_reducible rfl
            simp only [Act.put, List.setIfInBounds_toArray, List.set_cons_succ, List.set_cons_zero]
            refine wpAnyH_take (i := 8) (oi := { dst := some 23, op := Op.move (Operand.tmp 3), type := 3, pos := "l07_cache.go:44", after := #[{ on := 6, ground := Ground.guard }], guard := some (6, true) }) (v := ?_) rfl (by kernel_rfl) (by kernel_rfl) (by kernel_rfl) (fun _ _ _ h => h) (Or.inl ⟨by rfl, ?_⟩) hS2 ?_
            rotate_left
            · intro y hSy; obtain ⟨y0, y1, y2, y3, y4⟩ := hSy; go_simp; try with_reducible rfl
            simp only [Act.put, List.setIfInBounds_toArray, List.set_cons_succ, List.set_cons_zero]
            refine wpAnyH_take (i := 9) (oi := { dst := some 24, op := Op.binOp BinOp.sub 3 (Operand.tmp 23) (Operand.const (Value.int IntKind.i64 1)) 3, type := 3, pos := "l07_cache.go:44", after := #[{ on := 8, ground := Ground.data }, { on := 6, ground := Ground.guard }], guard := some (6, true) }) (v := ?_) rfl (by kernel_rfl) (by kernel_rfl) (by kernel_rfl) (fun _ _ _ h => h) (Or.inl ⟨by rfl, ?_⟩) hS2 ?_
            rotate_left
            · intro y hSy; obtain ⟨y0, y1, y2, y3, y4⟩ := hSy; go_simp; try with_reducible rfl
            simp only [Act.put, List.setIfInBounds_toArray, List.set_cons_succ, List.set_cons_zero]
            refine wpAnyH_take (i := 10) (oi := { dst := some 25, op := Op.indexAddr 34 (Operand.tmp 22) (Operand.tmp 24), type := 0, pos := "l07_cache.go:44", after := #[{ on := 7, ground := Ground.data }, { on := 9, ground := Ground.data }, { on := 6, ground := Ground.guard }], guard := some (6, true) }) (v := ?_) rfl (by kernel_rfl) (by kernel_rfl) (by kernel_rfl) (fun _ _ _ h => h) (Or.inl ⟨by rfl, ?_⟩) hS2 ?_
            rotate_left
            · intro y hSy; obtain ⟨y0, y1, y2, y3, y4⟩ := hSy; go_simp; try with_reducible rfl
            simp only [Act.put, List.setIfInBounds_toArray, List.set_cons_succ, List.set_cons_zero]
            refine wpAnyH_take (i := 11) (oi := { dst := some 26, op := Op.fieldAddr 104 (Operand.tmp 25) 0, type := 0, pos := "l07_cache.go:44", after := #[{ on := 10, ground := Ground.data }, { on := 6, ground := Ground.guard }], guard := some (6, true) }) (v := ?_) rfl (by kernel_rfl) (by kernel_rfl) (by kernel_rfl) (fun _ _ _ h => h) (Or.inl ⟨by rfl, ?_⟩) hS2 ?_
            rotate_left
            · intro y hSy; obtain ⟨y0, y1, y2, y3, y4⟩ := hSy; go_simp; try with_reducible rfl
            simp only [Act.put, List.setIfInBounds_toArray, List.set_cons_succ, List.set_cons_zero]
            refine wpAnyH_take (i := 12) (oi := { dst := some 27, op := Op.load 9 (Operand.tmp 26), type := 9, pos := "l07_cache.go:44", after := #[{ on := 11, ground := Ground.data }, { on := 6, ground := Ground.guard }], guard := some (6, true) }) (v := ?_) rfl (by kernel_rfl) (by kernel_rfl) (by kernel_rfl) (fun _ _ _ h => h) (Or.inl ⟨by rfl, ?_⟩) hS2 ?_
            rotate_left
            · intro y hSy; obtain ⟨y0, y1, y2, y3, y4⟩ := hSy; go_simp; try with_reducible rfl
            simp only [Act.put, List.setIfInBounds_toArray, List.set_cons_succ, List.set_cons_zero]
            refine wpAnyH_take (i := 13) (oi := { dst := some 28, op := Op.fieldAddr 104 (Operand.tmp 4) 0, type := 0, pos := "l07_cache.go:44", after := #[{ on := 6, ground := Ground.guard }], guard := some (6, true) }) (v := ?_) rfl (by kernel_rfl) (by kernel_rfl) (by kernel_rfl) (fun _ _ _ h => h) (Or.inl ⟨by rfl, ?_⟩) hS2 ?_
            rotate_left
            · intro y hSy; obtain ⟨y0, y1, y2, y3, y4⟩ := hSy; go_simp; try with_reducible rfl
            simp only [Act.put, List.setIfInBounds_toArray, List.set_cons_succ, List.set_cons_zero]
            refine wpAnyH_take (i := 14) (oi := { dst := some 29, op := Op.load 9 (Operand.tmp 28), type := 9, pos := "l07_cache.go:44", after := #[{ on := 13, ground := Ground.data }, { on := 6, ground := Ground.guard }], guard := some (6, true) }) (v := ?_) rfl (by kernel_rfl) (by kernel_rfl) (by kernel_rfl) (fun _ _ _ h => h) (Or.inl ⟨by rfl, ?_⟩) hS2 ?_
            rotate_left
            · intro y hSy; obtain ⟨y0, y1, y2, y3, y4⟩ := hSy; go_simp; try with_reducible rfl
            simp only [Act.put, List.setIfInBounds_toArray, List.set_cons_succ, List.set_cons_zero]
            refine wpAnyH_take (i := 15) (oi := { dst := some 30, op := Op.binOp BinOp.geq 9 (Operand.tmp 27) (Operand.tmp 29) 9, type := 4, pos := "l07_cache.go:44", after := #[{ on := 12, ground := Ground.data }, { on := 14, ground := Ground.data }, { on := 6, ground := Ground.guard }], guard := some (6, true) }) (v := ?_) rfl (by kernel_rfl) (by kernel_rfl) (by kernel_rfl) (fun _ _ _ h => h) (Or.inl ⟨by rfl, ?_⟩) hS2 ?_
            rotate_left
            · intro y hSy; obtain ⟨y0, y1, y2, y3, y4⟩ := hSy; go_simp; try with_reducible rfl
            simp only [Act.put, List.setIfInBounds_toArray, List.set_cons_succ, List.set_cons_zero]
            refine wpAnyH_take (i := 16) (oi := { dst := some 31, op := Op.pick (Operand.tmp 21) (Operand.tmp 30) (Operand.const (Value.bool false)), type := 4, pos := "l07_cache.go:44", after := #[{ on := 6, ground := Ground.data }, { on := 15, ground := Ground.data }, { on := 3, ground := Ground.guard }], guard := some (3, false) }) (v := ?_) rfl (by kernel_rfl) (by kernel_rfl) (by kernel_rfl) (fun _ _ _ h => h) (Or.inl ⟨by rfl, ?_⟩) hS2 ?_
            rotate_left
            · intro y hSy; obtain ⟨y0, y1, y2, y3, y4⟩ := hSy; go_simp; try with_reducible rfl
            simp only [Act.put, List.setIfInBounds_toArray, List.set_cons_succ, List.set_cons_zero]
            refine wpAnyH_take (i := 17) (oi := { dst := some 32, op := Op.pick (Operand.tmp 18) (Operand.const (Value.bool true)) (Operand.tmp 31), type := 4, pos := "l07_cache.go:44", after := #[{ on := 3, ground := Ground.data }, { on := 16, ground := Ground.data }], guard := none }) (v := ?_) rfl (by kernel_rfl) (by kernel_rfl) (by kernel_rfl) (fun _ _ _ h => h) (Or.inl ⟨by rfl, ?_⟩) hS2 ?_
            rotate_left
            · intro y hSy; obtain ⟨y0, y1, y2, y3, y4⟩ := hSy; go_simp; try with_reducible rfl
            simp only [Act.put, List.setIfInBounds_toArray, List.set_cons_succ, List.set_cons_zero]
            refine wpAnyH_done (by kernel_rfl) ?_ _
            go_wp2_with fail
            go_roundw
            case rel => exact ⟨k + 1, rfl, unhide HB2, by omega, unhide HN⟩
            case measure => simp only [intOf]; omega
          | false =>
            have HE : Hid (cacheB P = false) := by
              have hkk := unhide HK
              rw [hkj] at hkk
              exact cacheB_order hjq hkk hLT
            unfold ltD at hLT
            have hgq : ∀ y, (binOp BinOp.geq 9 (.string q.d) (.string p.d)).run Tryz.prog y = .ok (.bool true) y := fun y => by rw [run_geqS, hLT]; rfl
            clear hO hjq hkj
            go_wp2_with fail
            generalize hVV : wr.alloc (.cells #[.string p.d, .int .i64 p.m, .slice x p.l.length xc, .int .i64 p.u] 104) = V at *
            refine wp_region_held (S := fun y => y.cell? ⟨wr.heap.size, 0, none⟩ = some (.string p.d) ∧ y.cell? ⟨wr.heap.size, 1, none⟩ = some (.int .i64 p.m) ∧ y.cell? ⟨wr.heap.size, 2, none⟩ = some (.slice x p.l.length xc) ∧ y.cell? ⟨wr.heap.size, 3, none⟩ = some (.int .i64 p.u) ∧ y.cell? ⟨b, o + j * 4, none⟩ = some (.string q.d)) Tryz.mixedO ?_
            have hS : (fun y : World => y.cell? ⟨wr.heap.size, 0, none⟩ = some (.string p.d) ∧ y.cell? ⟨wr.heap.size, 1, none⟩ = some (.int .i64 p.m) ∧ y.cell? ⟨wr.heap.size, 2, none⟩ = some (.slice x p.l.length xc) ∧ y.cell? ⟨wr.heap.size, 3, none⟩ = some (.int .i64 p.u) ∧ y.cell? ⟨b, o + j * 4, none⟩ = some (.string q.d)) V.drew := ⟨r0, r1, r2, r3, g0⟩
            show wpAnyH _ _ _ _ _ _ _ _ V.drew
            refine wpAnyH_take (i := 0) (oi := { dst := some 15, op := Op.load 104 (Operand.tmp 4), type := 104, pos := "l07_cache.go:44", after := #[], guard := none }) (v := ?_) rfl (by kernel_rfl) (by kernel_rfl) (by kernel_rfl) (fun _ _ _ h => h) (Or.inl ⟨by rfl, ?_⟩) hS ?_
            rotate_left
            · intro y hSy; obtain ⟨y0, y1, y2, y3, y4⟩ := hSy; go_simp; try with_reducible rfl
            simp only [Act.put, List.setIfInBounds_toArray, List.set_cons_succ, List.set_cons_zero]
            refine wpAnyH_all (rs := [1]) (by kernel_rfl) (by simp) ?_
            intro i hi
            simp only [List.mem_singleton] at hi
            subst hi
            refine step_call (f := 113) (fn := Tryz.f113) (d := 16) (args := #[.agg #[.string p.d, .int .i64 p.m, .slice x p.l.length xc, .int .i64 p.u]]) rfl Tryz.func113 (by kernel_rfl) (by kernel_rfl) (by simp [Act.eval]) ?_
            refine (unhide hct _ (unhide HT)).mono ?_
            rintro e w2 ⟨rfl, hb2⟩
            refine ⟨_, rfl, ?_⟩
            have hS2 : (fun y : World => y.cell? ⟨wr.heap.size, 0, none⟩ = some (.string p.d) ∧ y.cell? ⟨wr.heap.size, 1, none⟩ = some (.int .i64 p.m) ∧ y.cell? ⟨wr.heap.size, 2, none⟩ = some (.slice x p.l.length xc) ∧ y.cell? ⟨wr.heap.size, 3, none⟩ = some (.int .i64 p.u) ∧ y.cell? ⟨b, o + j * 4, none⟩ = some (.string q.d)) w2 := ⟨below_some (below_drewQ hb2) r0, below_some (below_drewQ hb2) r1, below_some (below_drewQ hb2) r2, below_some (below_drewQ hb2) r3, below_some (below_drewQ hb2) g0⟩
            have HB2 := hide (btP (btP (unhide HB) (unhide HBX)) (below_drewQ hb2))
            clear hb2 hS
            refine ⟨hS2, ?_⟩
            simp only [Act.put, List.setIfInBounds_toArray, List.set_cons_succ, List.set_cons_zero]
            refine wpAnyH_take (i := 2) (oi := { dst := some 17, op := Op.unOp UnOp.not 4 (Operand.tmp 16), type := 4, pos := "l07_cache.go:44", after := #[{ on := 1, ground := Ground.data }], guard := none }) (v := ?_) rfl (by kernel_rfl) (by kernel_rfl) (by kernel_rfl) (fun _ _ _ h => h) (Or.inl ⟨by rfl, ?_⟩) hS2 ?_
            rotate_left
            · intro y hSy; obtain ⟨y0, y1, y2, y3, y4⟩ := hSy; go_simp; try with_reducible rfl
            simp only [Act.put, List.setIfInBounds_toArray, List.set_cons_succ, List.set_cons_zero]
            refine wpAnyH_take (i := 3) (oi := { dst := some 18, op := Op.move (Operand.tmp 17), type := 4, pos := "l07_cache.go:44", after := #[{ on := 2, ground := Ground.data }, { on := 1, ground := Ground.chain }], guard := none }) (v := ?_) rfl (by kernel_rfl) (by kernel_rfl) (by kernel_rfl) (fun _ _ _ h => h) (Or.inl ⟨by rfl, ?_⟩) hS2 ?_
            rotate_left
            · intro y hSy; obtain ⟨y0, y1, y2, y3, y4⟩ := hSy; go_simp; try with_reducible rfl
            simp only [Act.put, List.setIfInBounds_toArray, List.set_cons_succ, List.set_cons_zero]
            refine wpAnyH_take (i := 4) (oi := { dst := some 19, op := Op.move (Operand.tmp 3), type := 3, pos := "l07_cache.go:44", after := #[{ on := 3, ground := Ground.guard }], guard := some (3, false) }) (v := ?_) rfl (by kernel_rfl) (by kernel_rfl) (by kernel_rfl) (fun _ _ _ h => h) (Or.inl ⟨by rfl, ?_⟩) hS2 ?_
            rotate_left
            · intro y hSy; obtain ⟨y0, y1, y2, y3, y4⟩ := hSy; go_simp; try with_reducible rfl
            simp only [Act.put, List.setIfInBounds_toArray, List.set_cons_succ, List.set_cons_zero]
            refine wpAnyH_take (i := 5) (oi := { dst := some 20, op := Op.binOp BinOp.gtr 3 (Operand.tmp 19) (Operand.const (Value.int IntKind.i64 0)) 3, type := 4, pos := "l07_cache.go:44", after := #[{ on := 4, ground := Ground.data }, { on := 3, ground := Ground.guard }], guard := some (3, false) }) (v := ?_) rfl (by kernel_rfl) (by kernel_rfl) (by kernel_rfl) (fun _ _ _ h => h) (Or.inl ⟨by rfl, ?_⟩) hS2 ?_
            rotate_left
            · intro y hSy; obtain ⟨y0, y1, y2, y3, y4⟩ := hSy; go_simp; try with_reducible rfl
            simp only [Act.put, List.setIfInBounds_toArray, List.set_cons_succ, List.set_cons_zero]
            refine wpAnyH_take (i := 6) (oi := { dst := some 21, op := Op.move (Operand.tmp 20), type := 4, pos := "l07_cache.go:44", after := #[{ on := 5, ground := Ground.data }, { on := 3, ground := Ground.chain }, { on := 3, ground := Ground.guard }], guard := some (3, false) }) (v := ?_) rfl (by kernel_rfl) (by kernel_rfl) (by kernel_rfl) (fun _ _ _ h => h) (Or.inl ⟨by rfl, ?_⟩) hS2 ?_
            rotate_left
            · intro y hSy; obtain ⟨y0, y1, y2, y3, y4⟩ := hSy; go_simp; try with_reducible rfl
            simp only [Act.put, List.setIfInBounds_toArray, List.set_cons_succ, List.set_cons_zero]
            refine wpAnyH_take (i := 7) (oi := { dst := some 22, op := Op.move (Operand.tmp 0), type := 34, pos := "l07_cache.go:44", after := #[{ on := 6, ground := Ground.guard }], guard := some (6, true) }) (v := ?_) rfl (by kernel_rfl) (by kernel_rfl) (by kernel_rfl) (fun _ _ _ h => h) (Or.inl ⟨by rfl, ?_⟩) hS2 ?_
            rotate_left
            · intro y hSy; obtain ⟨y0, y1, y2, y3, y4⟩ := hSy; go_simp; try with_reducible rfl
            simp only [Act.put, List.setIfInBounds_toArray, List.set_cons_succ, List.set_cons_zero]
            refine wpAnyH_take (i := 8) (oi := { dst := some 23, op := Op.move (Operand.tmp 3), type := 3, pos := "l07_cache.go:44", after := #[{ on := 6, ground := Ground.guard }], guard := some (6, true) }) (v := ?_) rfl (by kernel_rfl) (by kernel_rfl) (by kernel_rfl) (fun _ _ _ h => h) (Or.inl ⟨by rfl, ?_⟩) hS2 ?_
            rotate_left
            · intro y hSy; obtain ⟨y0, y1, y2, y3, y4⟩ := hSy; go_simp; try with_reducible rfl
            simp only [Act.put, List.setIfInBounds_toArray, List.set_cons_succ, List.set_cons_zero]
            refine wpAnyH_take (i := 9) (oi := { dst := some 24, op := Op.binOp BinOp.sub 3 (Operand.tmp 23) (Operand.const (Value.int IntKind.i64 1)) 3, type := 3, pos := "l07_cache.go:44", after := #[{ on := 8, ground := Ground.data }, { on := 6, ground := Ground.guard }], guard := some (6, true) }) (v := ?_) rfl (by kernel_rfl) (by kernel_rfl) (by kernel_rfl) (fun _ _ _ h => h) (Or.inl ⟨by rfl, ?_⟩) hS2 ?_
            rotate_left
            · intro y hSy; obtain ⟨y0, y1, y2, y3, y4⟩ := hSy; go_simp; try with_reducible rfl
            simp only [Act.put, List.setIfInBounds_toArray, List.set_cons_succ, List.set_cons_zero]
            refine wpAnyH_take (i := 10) (oi := { dst := some 25, op := Op.indexAddr 34 (Operand.tmp 22) (Operand.tmp 24), type := 0, pos := "l07_cache.go:44", after := #[{ on := 7, ground := Ground.data }, { on := 9, ground := Ground.data }, { on := 6, ground := Ground.guard }], guard := some (6, true) }) (v := ?_) rfl (by kernel_rfl) (by kernel_rfl) (by kernel_rfl) (fun _ _ _ h => h) (Or.inl ⟨by rfl, ?_⟩) hS2 ?_
            rotate_left
            · intro y hSy; obtain ⟨y0, y1, y2, y3, y4⟩ := hSy; go_simp; try with_reducible rfl
            simp only [Act.put, List.setIfInBounds_toArray, List.set_cons_succ, List.set_cons_zero]
            refine wpAnyH_take (i := 11) (oi := { dst := some 26, op := Op.fieldAddr 104 (Operand.tmp 25) 0, type := 0, pos := "l07_cache.go:44", after := #[{ on := 10, ground := Ground.data }, { on := 6, ground := Ground.guard }], guard := some (6, true) }) (v := ?_) rfl (by kernel_rfl) (by kernel_rfl) (by kernel_rfl) (fun _ _ _ h => h) (Or.inl ⟨by rfl, ?_⟩) hS2 ?_
            rotate_left
            · intro y hSy; obtain ⟨y0, y1, y2, y3, y4⟩ := hSy; go_simp; try with_reducible rfl
            simp only [Act.put, List.setIfInBounds_toArray, List.set_cons_succ, List.set_cons_zero]
            refine wpAnyH_take (i := 12) (oi := { dst := some 27, op := Op.load 9 (Operand.tmp 26), type := 9, pos := "l07_cache.go:44", after := #[{ on := 11, ground := Ground.data }, { on := 6, ground := Ground.guard }], guard := some (6, true) }) (v := ?_) rfl (by kernel_rfl) (by kernel_rfl) (by kernel_rfl) (fun _ _ _ h => h) (Or.inl ⟨by rfl, ?_⟩) hS2 ?_
            rotate_left
            · intro y hSy; obtain ⟨y0, y1, y2, y3, y4⟩ := hSy; go_simp; try with_reducible rfl
            simp only [Act.put, List.setIfInBounds_toArray, List.set_cons_succ, List.set_cons_zero]
            refine wpAnyH_take (i := 13) (oi := { dst := some 28, op := Op.fieldAddr 104 (Operand.tmp 4) 0, type := 0, pos := "l07_cache.go:44", after := #[{ on := 6, ground := Ground.guard }], guard := some (6, true) }) (v := ?_) rfl (by kernel_rfl) (by kernel_rfl) (by kernel_rfl) (fun _ _ _ h => h) (Or.inl ⟨by rfl, ?_⟩) hS2 ?_
            rotate_left
            · intro y hSy; obtain ⟨y0, y1, y2, y3, y4⟩ := hSy; go_simp; try with_reducible rfl
            simp only [Act.put, List.setIfInBounds_toArray, List.set_cons_succ, List.set_cons_zero]
            refine wpAnyH_take (i := 14) (oi := { dst := some 29, op := Op.load 9 (Operand.tmp 28), type := 9, pos := "l07_cache.go:44", after := #[{ on := 13, ground := Ground.data }, { on := 6, ground := Ground.guard }], guard := some (6, true) }) (v := ?_) rfl (by kernel_rfl) (by kernel_rfl) (by kernel_rfl) (fun _ _ _ h => h) (Or.inl ⟨by rfl, ?_⟩) hS2 ?_
            rotate_left
            · intro y hSy; obtain ⟨y0, y1, y2, y3, y4⟩ := hSy; go_simp; try with_reducible rfl
            simp only [Act.put, List.setIfInBounds_toArray, List.set_cons_succ, List.set_cons_zero]
            refine wpAnyH_take (i := 15) (oi := { dst := some 30, op := Op.binOp BinOp.geq 9 (Operand.tmp 27) (Operand.tmp 29) 9, type := 4, pos := "l07_cache.go:44", after := #[{ on := 12, ground := Ground.data }, { on := 14, ground := Ground.data }, { on := 6, ground := Ground.guard }], guard := some (6, true) }) (v := ?_) rfl (by kernel_rfl) (by kernel_rfl) (by kernel_rfl) (fun _ _ _ h => h) (Or.inl ⟨by rfl, ?_⟩) hS2 ?_
            rotate_left
            · intro y hSy; obtain ⟨y0, y1, y2, y3, y4⟩ := hSy; go_simp; try with_reducible rfl
            simp only [Act.put, List.setIfInBounds_toArray, List.set_cons_succ, List.set_cons_zero]
            refine wpAnyH_take (i := 16) (oi := { dst := some 31, op := Op.pick (Operand.tmp 21) (Operand.tmp 30) (Operand.const (Value.bool false)), type := 4, pos := "l07_cache.go:44", after := #[{ on := 6, ground := Ground.data }, { on := 15, ground := Ground.data }, { on := 3, ground := Ground.guard }], guard := some (3, false) }) (v := ?_) rfl (by kernel_rfl) (by kernel_rfl) (by kernel_rfl) (fun _ _ _ h => h) (Or.inl ⟨by rfl, ?_⟩) hS2 ?_
            rotate_left
            · intro y hSy; obtain ⟨y0, y1, y2, y3, y4⟩ := hSy; go_simp; try with_reducible rfl
            simp only [Act.put, List.setIfInBounds_toArray, List.set_cons_succ, List.set_cons_zero]
            refine wpAnyH_take (i := 17) (oi := { dst := some 32, op := Op.pick (Operand.tmp 18) (Operand.const (Value.bool true)) (Operand.tmp 31), type := 4, pos := "l07_cache.go:44", after := #[{ on := 3, ground := Ground.data }, { on := 16, ground := Ground.data }], guard := none }) (v := ?_) rfl (by kernel_rfl) (by kernel_rfl) (by kernel_rfl) (fun _ _ _ h => h) (Or.inl ⟨by rfl, ?_⟩) hS2 ?_
            rotate_left
            · intro y hSy; obtain ⟨y0, y1, y2, y3, y4⟩ := hSy; go_simp; try with_reducible rfl
            simp only [Act.put, List.setIfInBounds_toArray, List.set_cons_succ, List.set_cons_zero]
            refine wpAnyH_done (by kernel_rfl) ?_ _
            go_wp2_with fail
            go_ret
            exact ⟨retB (unhide HE), unhide HB2⟩
    · have q2 : ¬ (k : Int) < (len : Int) := by omega
      have HE : Hid (cacheB P = true) := by
        show _ = _
        have := unhide HT10
        rw [cacheB_end (by have := HL.out; omega) hu, HL.out]
        simpa using this
      clear hb hu
      go_wp2_with fail
      go_ret
      exact ⟨retB (unhide HE), unhide HB⟩

/-- The cells of a letter in a block of its own. -/
def RowL (ty : TypeId) (w : World) (p : Nat) (d : ByteArray) (b s t n : Int) : Prop := w.heap[p]? = some (.cells #[.string d, .int .i64 b, .int .i64 s, .int .i64 t, .int .i64 n] ty (0, 0))
theorem RowL.new (ty : TypeId) (w : World) (d : ByteArray) (b s t n : Int) : RowL ty (w.alloc (.cells #[.string d, .int .i64 b, .int .i64 s, .int .i64 t, .int .i64 n] ty)) w.heap.size d b s t n := heap_alloc_new w _
theorem RowL.lt {ty : TypeId} {w : World} {p : Nat} {d : ByteArray} {b s t n : Int} (hr : RowL ty w p d b s t n) : p < w.heap.size := (Array.getElem?_eq_some_iff.1 hr).1
theorem RowL.below {ty : TypeId} {w w' : World} {p : Nat} {d : ByteArray} {b s t n : Int} (hr : RowL ty w p d b s t n) (hb : Below w.heap.size w w') : RowL ty w' p d b s t n := (hb.block p hr.lt).trans hr
theorem RowL.under {ty : TypeId} {w w' : World} {p q : Nat} {d : ByteArray} {b s t n : Int} (hr : RowL ty w p d b s t n) (hb : Below q w w') (hq : p < q) : RowL ty w' p d b s t n := (hb.block p hq).trans hr
theorem RowL.facts {ty : TypeId} {w : World} {p : Nat} {d : ByteArray} {b s t n : Int} (hr : RowL ty w p d b s t n) :
    w.cell? ⟨p, 0, none⟩ = some (.string d) ∧ w.cell? ⟨p, 1, none⟩ = some (.int .i64 b) ∧ w.cell? ⟨p, 2, none⟩ = some (.int .i64 s) ∧ w.cell? ⟨p, 3, none⟩ = some (.int .i64 t) ∧ w.cell? ⟨p, 4, none⟩ = some (.int .i64 n) :=
  ⟨cell_of_row hr (by simp), cell_of_row hr (by simp), cell_of_row hr (by simp), cell_of_row hr (by simp), cell_of_row hr (by simp)⟩
theorem RowL.free {ty : TypeId} {w : World} {p : Nat} {d : ByteArray} {b s t n : Int} (hr : RowL ty w p d b s t n) (j : Nat) : w.frozen? ⟨p, j, none⟩ = false := frozen_of_row hr
theorem row_setL {w : World} {p j : Nat} {X : Array Value} {ty : TypeId} (h : w.heap[p]? = some (.cells X ty (0, 0))) (v : Value) : (w.setCell ⟨p, j, none⟩ v).heap[p]? = some (.cells (X.setIfInBounds j v) ty (0, 0)) := by
  simp only [World.setCell, Array.getElem?_modify]
  simp [h]
theorem RowL.set2 {ty : TypeId} {w : World} {p : Nat} {d : ByteArray} {b s t n : Int} (hr : RowL ty w p d b s t n) (x : Int) : RowL ty (w.setCell ⟨p, 2, none⟩ (.int .i64 x)) p d b x t n := row_setL hr _
theorem RowL.set3 {ty : TypeId} {w : World} {p : Nat} {d : ByteArray} {b s t n : Int} (hr : RowL ty w p d b s t n) (x : Int) : RowL ty (w.setCell ⟨p, 3, none⟩ (.int .i64 x)) p d b s x n := row_setL hr _
theorem RowL.set4 {ty : TypeId} {w : World} {p : Nat} {d : ByteArray} {b s t n : Int} (hr : RowL ty w p d b s t n) (x : Int) : RowL ty (w.setCell ⟨p, 4, none⟩ (.int .i64 x)) p d b s t x := row_setL hr _
theorem RowL.set0 {ty : TypeId} {w : World} {p : Nat} {d : ByteArray} {b s t n : Int} (hr : RowL ty w p d b s t n) (x : ByteArray) : RowL ty (w.setCell ⟨p, 0, none⟩ (.string x)) p x b s t n := row_setL hr _
theorem setBL {w v : World} {q p j : Nat} {x : Value} (h : Below q w v) (hb : q ≤ p) : Below q w (v.setCell ⟨p, j, none⟩ x) := h.setCell hb _

set_option maxRecDepth 100000 in
set_option maxHeartbeats 2000000 in
theorem szL (d : ByteArray) (b s t n : Int) (w : World) (hd : d.size ≤ maxLen) :
    Calls Tryz.prog 39 #[.agg #[.string d, .int .i64 b, .int .i64 s, .int .i64 t, .int .i64 n], .int .i64 1048576] w fun e w' => e = .returned (.int .i64 (szv 1048576 d.size)) ∧ Below w.heap.size w w' := by
  have hmm : d.size ≤ 9223372036854775807 := by unfold maxLen at hd; omega
  obtain ⟨left, hleft⟩ : ∃ left : Int, left = 1048576 - (d.size : Int) := ⟨_, rfl⟩
  have w1 : wrap64 (1048576 - (d.size : Int)) = left := by unfold wrap64; omega
  by_cases h1 : left < 0
  · have HE : Hid (szv 1048576 d.size = -1) := szv_no (by omega)
    clear hleft hd hmm
    go_enter Tryz.func39, Tryz.ntmps39
    go_wp2_with fail
    go_ret
    exact ⟨ret_int (unhide HE).symm, abP _⟩
  · have HE : Hid (szv 1048576 d.size = left) := by show _ = _; rw [szv_yes (by omega)]; omega
    clear hleft hd hmm
    go_enter Tryz.func39, Tryz.ntmps39
    go_wp2_with fail
    go_ret
    exact ⟨ret_int (unhide HE).symm, abP _⟩

set_option maxRecDepth 100000 in
set_option maxHeartbeats 2000000 in
theorem toL (d : ByteArray) (b s t n : Int) (w : World) :
    Calls Tryz.prog 53 #[.agg #[.string d, .int .i64 b, .int .i64 s, .int .i64 t, .int .i64 n]] w fun e w' => e = .returned (.agg #[.string d, .int .i64 b, .int .i64 s, .int .i64 t, .int .i64 n]) ∧ Below w.heap.size w w' := by
  have HB := hide (btP (btP (abP (w := w) (.cells #[.string d, .int .i64 b, .int .i64 s, .int .i64 t, .int .i64 n] 86)) (abP (.cells #[.string d, .int .i64 b, .int .i64 s, .int .i64 t, .int .i64 n] 52))) (abP (.cells #[.string d, .int .i64 b, .int .i64 s, .int .i64 t, .int .i64 n] 52)))
  go_enter Tryz.func53, Tryz.ntmps53
  go_wp2_with fail
  refine bodyPost_ret (v := .agg #[.string d, .int .i64 b, .int .i64 s, .int .i64 t, .int .i64 n]) (by simp [results, Tryz.results53, go_sem]) rfl ⟨rfl, unhide HB⟩

set_option maxRecDepth 100000 in
set_option maxHeartbeats 2000000 in
theorem eqL (d : ByteArray) (b s t n : Int) (w : World) :
    Calls Tryz.prog 67 #[.agg #[.string d, .int .i64 b, .int .i64 s, .int .i64 t, .int .i64 n], .agg #[.string d, .int .i64 b, .int .i64 s, .int .i64 t, .int .i64 n]] w fun e w' => e = .returned (.bool true) ∧ Below w.heap.size w w' := by
  have HB := hide (btP (abP (w := w) (.cells #[.string d, .int .i64 b, .int .i64 s, .int .i64 t, .int .i64 n] 52)) (abP (.cells #[.string d, .int .i64 b, .int .i64 s, .int .i64 t, .int .i64 n] 52)))
  go_enter Tryz.func67, Tryz.ntmps67
  go_wp2_with fail
  go_ret
  exact ⟨rfl, unhide HB⟩

theorem isAtomL (x : Int) (w : World) : Calls Tryz.prog 117 #[.int .i64 x] w fun e w' => e = .returned (.bool (decide (0 ≤ x ∧ x ≤ 1000000))) ∧ w' = w := by
  by_cases h1 : 0 ≤ x
  · by_cases h2 : x ≤ 1000000
    · rw [show decide (0 ≤ x ∧ x ≤ 1000000) = true from decide_eq_true ⟨h1, h2⟩]
      go_enter Tryz.func117, Tryz.ntmps117
      go_wp2_with fail
      go_ret
      exact ⟨retB (by simp), rfl⟩
    · rw [show decide (0 ≤ x ∧ x ≤ 1000000) = false from decide_eq_false (by omega)]
      go_enter Tryz.func117, Tryz.ntmps117
      go_wp2_with fail
      go_ret
      exact ⟨retB (by simp), rfl⟩
  · rw [show decide (0 ≤ x ∧ x ≤ 1000000) = false from decide_eq_false (by omega)]
    go_enter Tryz.func117, Tryz.ntmps117
    go_wp2_with fail
    go_ret
    exact ⟨rfl, rfl⟩

set_option maxRecDepth 100000 in
theorem stateI (d : ByteArray) (b s t n : Int) (p : Nat) (w : World) (hr : RowL 52 w p d b s t n) : Calls Tryz.prog 118 #[.pointer (some ⟨p, 0, none⟩)] w fun e w' => e = .returned (.bool (decide (1 ≤ s ∧ s ≤ 3))) ∧ w' = w := by
  obtain ⟨c0, c1, c2, c3, c4⟩ := hr.facts
  clear hr
  by_cases h1 : 1 ≤ s
  · by_cases h2 : s ≤ 3
    · rw [show decide (1 ≤ s ∧ s ≤ 3) = true from decide_eq_true ⟨h1, h2⟩]
      go_enter Tryz.func118, Tryz.ntmps118
      go_wp2_with fail
      go_ret
      exact ⟨retB (by simp), rfl⟩
    · rw [show decide (1 ≤ s ∧ s ≤ 3) = false from decide_eq_false (by omega)]
      go_enter Tryz.func118, Tryz.ntmps118
      go_wp2_with fail
      go_ret
      exact ⟨retB (by simp), rfl⟩
  · rw [show decide (1 ≤ s ∧ s ≤ 3) = false from decide_eq_false (by omega)]
    go_enter Tryz.func118, Tryz.ntmps118
    go_wp2_with fail
    go_ret
    exact ⟨rfl, rfl⟩

set_option maxRecDepth 100000 in
theorem triesI (d : ByteArray) (b s t n : Int) (p : Nat) (w : World) (hr : RowL 52 w p d b s t n) : Calls Tryz.prog 119 #[.pointer (some ⟨p, 0, none⟩)] w fun e w' => e = .returned (.bool (decide (0 ≤ t ∧ t ≤ 4))) ∧ w' = w := by
  obtain ⟨c0, c1, c2, c3, c4⟩ := hr.facts
  clear hr
  by_cases h1 : 0 ≤ t
  · by_cases h2 : t ≤ 4
    · rw [show decide (0 ≤ t ∧ t ≤ 4) = true from decide_eq_true ⟨h1, h2⟩]
      go_enter Tryz.func119, Tryz.ntmps119
      go_wp2_with fail
      go_ret
      exact ⟨retB (by simp), rfl⟩
    · rw [show decide (0 ≤ t ∧ t ≤ 4) = false from decide_eq_false (by omega)]
      go_enter Tryz.func119, Tryz.ntmps119
      go_wp2_with fail
      go_ret
      exact ⟨retB (by simp), rfl⟩
  · rw [show decide (0 ≤ t ∧ t ≤ 4) = false from decide_eq_false (by omega)]
    go_enter Tryz.func119, Tryz.ntmps119
    go_wp2_with fail
    go_ret
    exact ⟨rfl, rfl⟩

/-- A right letter. -/
noncomputable def letB (d : ByteArray) (b s t n : Int) : Bool := domB d && (decide (0 ≤ b ∧ b ≤ 1000000) && (decide (1 ≤ s ∧ s ≤ 3) && (decide (0 ≤ t ∧ t ≤ 4) && decide (0 ≤ n ∧ n ≤ 100000))))
theorem letB_iff {d : ByteArray} {b s t n : Int} : letB d b s t n = true ↔ domB d = true ∧ (0 ≤ b ∧ b ≤ 1000000) ∧ (1 ≤ s ∧ s ≤ 3) ∧ (0 ≤ t ∧ t ≤ 4) ∧ (0 ≤ n ∧ n ≤ 100000) := by
  unfold letB
  rw [Bool.and_eq_true, Bool.and_eq_true, Bool.and_eq_true, Bool.and_eq_true, decide_eq_true_iff, decide_eq_true_iff, decide_eq_true_iff, decide_eq_true_iff]

set_option maxRecDepth 100000 in
set_option maxHeartbeats 2000000 in
theorem okS (d : ByteArray) (b s t n : Int) (w : World) (hd : d.size ≤ 2097152) :
    Calls Tryz.prog 46 #[.agg #[.string d, .int .i64 b, .int .i64 s, .int .i64 t, .int .i64 n]] w fun e w' => e = .returned (.bool (letB d b s t n)) ∧ Below w.heap.size w w' := by
  have HB0 := hide (abP (w := w) (.cells #[.string d, .int .i64 b, .int .i64 s, .int .i64 t, .int .i64 n] 52))
  have HX := hide (RowL.new 52 w d b s t n)
  have hD := hide (fun v => domS d v hd)
  have hc0 := hide (fun v => inS b 0 1000000 v)
  have hc1 := hide (fun v => inS s 1 3 v)
  have hc2 := hide (fun v => inS t 0 4 v)
  have hc3 := hide (fun v => inS n 0 100000 v)
  clear hd
  cases h0 : domB d with
  | false =>
    have HE : Hid (letB d b s t n = false) := by show _ = _; unfold letB; rw [h0]; rfl
    rw [h0] at hD
    clear h0
    go_enter Tryz.func46, Tryz.ntmps46
    go_wp2_with fail
    refine (unhide hD _).mono ?_
    rintro e w1 ⟨rfl, rfl⟩
    have HB1 := HB0
    have HX1 := HX
    obtain ⟨c0, c1, c2, c3, c4⟩ := (unhide HX1).facts
    go_wp2_with fail
    go_ret
    exact ⟨retB (unhide HE), unhide HB1⟩
  | true =>
    rw [h0] at hD
    cases h1 : decide (0 ≤ b ∧ b ≤ 1000000) with
    | false =>
      have HE : Hid (letB d b s t n = false) := by show _ = _; unfold letB; rw [h0, h1]; rfl
      rw [h1] at hc0
      clear h0 h1
      go_enter Tryz.func46, Tryz.ntmps46
      go_wp2_with fail
      refine (unhide hD _).mono ?_
      rintro e w1 ⟨rfl, rfl⟩
      have HB1 := HB0
      have HX1 := HX
      obtain ⟨c0, c1, c2, c3, c4⟩ := (unhide HX1).facts
      go_wp2_with fail
      refine (unhide hc0 _).mono ?_
      rintro e v0 ⟨rfl, rfl⟩
      go_wp2_with fail
      go_ret
      exact ⟨retB (unhide HE), unhide HB1⟩
    | true =>
      rw [h1] at hc0
      cases h2 : decide (1 ≤ s ∧ s ≤ 3) with
      | false =>
        have HE : Hid (letB d b s t n = false) := by show _ = _; unfold letB; rw [h0, h1, h2]; rfl
        rw [h2] at hc1
        clear h0 h1 h2
        go_enter Tryz.func46, Tryz.ntmps46
        go_wp2_with fail
        refine (unhide hD _).mono ?_
        rintro e w1 ⟨rfl, rfl⟩
        have HB1 := HB0
        have HX1 := HX
        obtain ⟨c0, c1, c2, c3, c4⟩ := (unhide HX1).facts
        go_wp2_with fail
        refine (unhide hc0 _).mono ?_
        rintro e v0 ⟨rfl, rfl⟩
        go_wp2_with fail
        refine (unhide hc1 _).mono ?_
        rintro e v1 ⟨rfl, rfl⟩
        go_wp2_with fail
        go_ret
        exact ⟨retB (unhide HE), unhide HB1⟩
      | true =>
        rw [h2] at hc1
        cases h3 : decide (0 ≤ t ∧ t ≤ 4) with
        | false =>
          have HE : Hid (letB d b s t n = false) := by show _ = _; unfold letB; rw [h0, h1, h2, h3]; rfl
          rw [h3] at hc2
          clear h0 h1 h2 h3
          go_enter Tryz.func46, Tryz.ntmps46
          go_wp2_with fail
          refine (unhide hD _).mono ?_
          rintro e w1 ⟨rfl, rfl⟩
          have HB1 := HB0
          have HX1 := HX
          obtain ⟨c0, c1, c2, c3, c4⟩ := (unhide HX1).facts
          go_wp2_with fail
          refine (unhide hc0 _).mono ?_
          rintro e v0 ⟨rfl, rfl⟩
          go_wp2_with fail
          refine (unhide hc1 _).mono ?_
          rintro e v1 ⟨rfl, rfl⟩
          go_wp2_with fail
          refine (unhide hc2 _).mono ?_
          rintro e v2 ⟨rfl, rfl⟩
          go_wp2_with fail
          go_ret
          exact ⟨retB (unhide HE), unhide HB1⟩
        | true =>
          rw [h3] at hc2
          have HE : Hid (letB d b s t n = decide (0 ≤ n ∧ n ≤ 100000)) := by show _ = _; unfold letB; rw [h0, h1, h2, h3]; rfl
          clear h0 h1 h2 h3
          generalize decide (0 ≤ n ∧ n ≤ 100000) = B4 at *
          go_enter Tryz.func46, Tryz.ntmps46
          go_wp2_with fail
          refine (unhide hD _).mono ?_
          rintro e w1 ⟨rfl, rfl⟩
          have HB1 := HB0
          have HX1 := HX
          obtain ⟨c0, c1, c2, c3, c4⟩ := (unhide HX1).facts
          go_wp2_with fail
          refine (unhide hc0 _).mono ?_
          rintro e v0 ⟨rfl, rfl⟩
          go_wp2_with fail
          refine (unhide hc1 _).mono ?_
          rintro e v1 ⟨rfl, rfl⟩
          go_wp2_with fail
          refine (unhide hc2 _).mono ?_
          rintro e v2 ⟨rfl, rfl⟩
          go_wp2_with fail
          refine (unhide hc3 _).mono ?_
          rintro e v3 ⟨rfl, rfl⟩
          go_wp2_with fail
          go_ret
          exact ⟨retB (unhide HE), unhide HB1⟩

set_option maxRecDepth 100000 in
set_option maxHeartbeats 2000000 in
theorem okI (d : ByteArray) (b s t n : Int) (w : World) (hd : d.size ≤ 2097152) :
    Calls Tryz.prog 93 #[.agg #[.string d, .int .i64 b, .int .i64 s, .int .i64 t, .int .i64 n]] w fun e w' => e = .returned (.bool (letB d b s t n)) ∧ Below w.heap.size w w' := by
  have HB0 := hide (abP (w := w) (.cells #[.string d, .int .i64 b, .int .i64 s, .int .i64 t, .int .i64 n] 52))
  have HX := hide (RowL.new 52 w d b s t n)
  have hD := hide (fun v => domI d v hd)
  have hc0 := hide (fun v => isAtomL b v)
  have hc1 := hide (fun v (hv : RowL 52 v w.heap.size d b s t n) => stateI d b s t n w.heap.size v hv)
  have hc2 := hide (fun v (hv : RowL 52 v w.heap.size d b s t n) => triesI d b s t n w.heap.size v hv)
  have hc3 := hide (fun v => inTime n v)
  clear hd
  cases h0 : domB d with
  | false =>
    have HE : Hid (letB d b s t n = false) := by show _ = _; unfold letB; rw [h0]; rfl
    rw [h0] at hD
    clear h0
    go_enter Tryz.func93, Tryz.ntmps93
    go_wp2_with fail
    refine (unhide hD _).mono ?_
    rintro e w1 ⟨rfl, hb1⟩
    have HB1 := hide (btP (unhide HB0) hb1)
    have HX1 := hide ((unhide HX).below hb1)
    obtain ⟨c0, c1, c2, c3, c4⟩ := (unhide HX1).facts
    clear hb1
    go_wp2_with fail
    go_ret
    exact ⟨retB (unhide HE), unhide HB1⟩
  | true =>
    rw [h0] at hD
    cases h1 : decide (0 ≤ b ∧ b ≤ 1000000) with
    | false =>
      have HE : Hid (letB d b s t n = false) := by show _ = _; unfold letB; rw [h0, h1]; rfl
      rw [h1] at hc0
      clear h0 h1
      go_enter Tryz.func93, Tryz.ntmps93
      go_wp2_with fail
      refine (unhide hD _).mono ?_
      rintro e w1 ⟨rfl, hb1⟩
      have HB1 := hide (btP (unhide HB0) hb1)
      have HX1 := hide ((unhide HX).below hb1)
      obtain ⟨c0, c1, c2, c3, c4⟩ := (unhide HX1).facts
      clear hb1
      go_wp2_with fail
      refine (unhide hc0 _).mono ?_
      rintro e v0 ⟨rfl, rfl⟩
      go_wp2_with fail
      go_ret
      exact ⟨retB (unhide HE), unhide HB1⟩
    | true =>
      rw [h1] at hc0
      cases h2 : decide (1 ≤ s ∧ s ≤ 3) with
      | false =>
        have HE : Hid (letB d b s t n = false) := by show _ = _; unfold letB; rw [h0, h1, h2]; rfl
        rw [h2] at hc1
        clear h0 h1 h2
        go_enter Tryz.func93, Tryz.ntmps93
        go_wp2_with fail
        refine (unhide hD _).mono ?_
        rintro e w1 ⟨rfl, hb1⟩
        have HB1 := hide (btP (unhide HB0) hb1)
        have HX1 := hide ((unhide HX).below hb1)
        obtain ⟨c0, c1, c2, c3, c4⟩ := (unhide HX1).facts
        clear hb1
        go_wp2_with fail
        refine (unhide hc0 _).mono ?_
        rintro e v0 ⟨rfl, rfl⟩
        go_wp2_with fail
        refine (unhide hc1 _ (unhide HX1)).mono ?_
        rintro e v1 ⟨rfl, rfl⟩
        go_wp2_with fail
        go_ret
        exact ⟨retB (unhide HE), unhide HB1⟩
      | true =>
        rw [h2] at hc1
        cases h3 : decide (0 ≤ t ∧ t ≤ 4) with
        | false =>
          have HE : Hid (letB d b s t n = false) := by show _ = _; unfold letB; rw [h0, h1, h2, h3]; rfl
          rw [h3] at hc2
          clear h0 h1 h2 h3
          go_enter Tryz.func93, Tryz.ntmps93
          go_wp2_with fail
          refine (unhide hD _).mono ?_
          rintro e w1 ⟨rfl, hb1⟩
          have HB1 := hide (btP (unhide HB0) hb1)
          have HX1 := hide ((unhide HX).below hb1)
          obtain ⟨c0, c1, c2, c3, c4⟩ := (unhide HX1).facts
          clear hb1
          go_wp2_with fail
          refine (unhide hc0 _).mono ?_
          rintro e v0 ⟨rfl, rfl⟩
          go_wp2_with fail
          refine (unhide hc1 _ (unhide HX1)).mono ?_
          rintro e v1 ⟨rfl, rfl⟩
          go_wp2_with fail
          refine (unhide hc2 _ (unhide HX1)).mono ?_
          rintro e v2 ⟨rfl, rfl⟩
          go_wp2_with fail
          go_ret
          exact ⟨retB (unhide HE), unhide HB1⟩
        | true =>
          rw [h3] at hc2
          have HE : Hid (letB d b s t n = decide (0 ≤ n ∧ n ≤ 100000)) := by show _ = _; unfold letB; rw [h0, h1, h2, h3]; rfl
          clear h0 h1 h2 h3
          generalize decide (0 ≤ n ∧ n ≤ 100000) = B4 at *
          go_enter Tryz.func93, Tryz.ntmps93
          go_wp2_with fail
          refine (unhide hD _).mono ?_
          rintro e w1 ⟨rfl, hb1⟩
          have HB1 := hide (btP (unhide HB0) hb1)
          have HX1 := hide ((unhide HX).below hb1)
          obtain ⟨c0, c1, c2, c3, c4⟩ := (unhide HX1).facts
          clear hb1
          go_wp2_with fail
          refine (unhide hc0 _).mono ?_
          rintro e v0 ⟨rfl, rfl⟩
          go_wp2_with fail
          refine (unhide hc1 _ (unhide HX1)).mono ?_
          rintro e v1 ⟨rfl, rfl⟩
          go_wp2_with fail
          refine (unhide hc2 _ (unhide HX1)).mono ?_
          rintro e v2 ⟨rfl, rfl⟩
          go_wp2_with fail
          refine (unhide hc3 _).mono ?_
          rintro e v3 ⟨rfl, rfl⟩
          go_wp2_with fail
          go_ret
          exact ⟨retB (unhide HE), unhide HB1⟩

set_option maxRecDepth 100000 in
set_option maxHeartbeats 2000000 in
theorem clientI (t : Tm) (st : Int) (h : ByteArray) (mu : Bool) (ep bo op n : Int) (s : ByteArray) (a : Option Addr) (len cap : Nat) (i o : Int) (tl pr : Bool) (w : World) (hl : Lies w 0 t (tmCells op n s a len cap)) (hsz : t.size ≤ 2097152) (hh : h.size ≤ 2097152) :
    Calls Tryz.prog 137 #[.agg #[.int .i64 st, .string h, .bool mu, .int .i64 ep, .int .i64 bo, .int .i64 op, .int .i64 n, .string s, .slice a len cap, .int .i64 i, .int .i64 o, .bool tl, .bool pr]] w fun e w' => e = .returned (.bool (clientB st h mu ep bo t i o tl pr)) ∧ Below w.heap.size w w' := by
  have g0 := hide (fun v => stepOkI st h mu ep bo op n s a len cap i o tl pr v)
  have g1 := hide (fun v => hostI h v hh)
  have g2 := hide (fun v => atomI ep v)
  have g3 := hide (fun v => atomI bo v)
  have g4 := hide (fun v => cntI i v)
  have g5 := hide (fun v => cntI o v)
  have gd := hide (fun v hv => standOkI t st h mu ep bo op n s a len cap i o tl pr v hv hsz)
  have hb0 := abC (w := w) (.cells #[.int .i64 st, .string h, .bool mu, .int .i64 ep, .int .i64 bo, .int .i64 op, .int .i64 n, .string s, .slice a len cap, .int .i64 i, .int .i64 o, .bool tl, .bool pr] 110)
  have HB0 := hide hb0
  have HL := hide (hl.below hb0)
  have HX := hide (RowK.new 110 w st h mu ep bo op n s a len cap i o tl pr)
  clear hl hb0
  cases hB0 : stepB st mu tl pr with
  | false =>
    have HE : Hid (clientB st h mu ep bo t i o tl pr = false) := by show _ = _; rw [clientB_impl]; simp [hB0]
    rw [hB0] at g0
    clear hB0
    go_enter Tryz.func137, Tryz.ntmps137
    go_wp2_with fail
    refine (unhide g0 _).mono ?_
    rintro e w1 ⟨rfl, hb1⟩
    obtain ⟨c0, c1, c2, c3, c4, c5, c6, c7, c8, c9, c10, c11, c12⟩ := ((unhide HX).below hb1).facts
    have HB1 := hide hb1
    clear hb1
    go_wp2_with fail
    go_ret
    exact ⟨retB (unhide HE), btC (unhide HB0) (unhide HB1)⟩
  | true =>
    rw [hB0] at g0
    cases hB1 : hostB h with
    | false =>
      have HE : Hid (clientB st h mu ep bo t i o tl pr = false) := by show _ = _; rw [clientB_impl]; simp [hB1]
      rw [hB1] at g1
      clear hB0 hB1
      go_enter Tryz.func137, Tryz.ntmps137
      go_wp2_with fail
      refine (unhide g0 _).mono ?_
      rintro e w1 ⟨rfl, hb1⟩
      obtain ⟨c0, c1, c2, c3, c4, c5, c6, c7, c8, c9, c10, c11, c12⟩ := ((unhide HX).below hb1).facts
      have HB1 := hide hb1
      clear hb1
      go_wp2_with fail
      refine (unhide g1 _).mono ?_
      rintro e w2 ⟨rfl, hb2⟩
      have HB2 := hide (btC (unhide HB1) hb2)
      clear hb2 c0 c1 c2 c3 c4 c5 c6 c7 c8 c9 c10 c11 c12
      obtain ⟨c0, c1, c2, c3, c4, c5, c6, c7, c8, c9, c10, c11, c12⟩ := ((unhide HX).below (unhide HB2)).facts
      go_wp2_with fail
      go_ret
      exact ⟨retB (unhide HE), btC (unhide HB0) (unhide HB2)⟩
    | true =>
      rw [hB1] at g1
      cases hB2 : inB ep 0 1000000 with
      | false =>
        have HE : Hid (clientB st h mu ep bo t i o tl pr = false) := by show _ = _; rw [clientB_impl]; simp [hB2]
        rw [hB2] at g2
        clear hB0 hB1 hB2
        go_enter Tryz.func137, Tryz.ntmps137
        go_wp2_with fail
        refine (unhide g0 _).mono ?_
        rintro e w1 ⟨rfl, hb1⟩
        obtain ⟨c0, c1, c2, c3, c4, c5, c6, c7, c8, c9, c10, c11, c12⟩ := ((unhide HX).below hb1).facts
        have HB1 := hide hb1
        clear hb1
        go_wp2_with fail
        refine (unhide g1 _).mono ?_
        rintro e w2 ⟨rfl, hb2⟩
        have HB2 := hide (btC (unhide HB1) hb2)
        clear hb2 c0 c1 c2 c3 c4 c5 c6 c7 c8 c9 c10 c11 c12
        obtain ⟨c0, c1, c2, c3, c4, c5, c6, c7, c8, c9, c10, c11, c12⟩ := ((unhide HX).below (unhide HB2)).facts
        go_wp2_with fail
        refine (unhide g2 _).mono ?_
        rintro e wz2 ⟨rfl, rfl⟩
        go_wp2_with fail
        go_ret
        exact ⟨retB (unhide HE), btC (unhide HB0) (unhide HB2)⟩
      | true =>
        rw [hB2] at g2
        cases hB3 : inB bo 0 1000000 with
        | false =>
          have HE : Hid (clientB st h mu ep bo t i o tl pr = false) := by show _ = _; rw [clientB_impl]; simp [hB3]
          rw [hB3] at g3
          clear hB0 hB1 hB2 hB3
          go_enter Tryz.func137, Tryz.ntmps137
          go_wp2_with fail
          refine (unhide g0 _).mono ?_
          rintro e w1 ⟨rfl, hb1⟩
          obtain ⟨c0, c1, c2, c3, c4, c5, c6, c7, c8, c9, c10, c11, c12⟩ := ((unhide HX).below hb1).facts
          have HB1 := hide hb1
          clear hb1
          go_wp2_with fail
          refine (unhide g1 _).mono ?_
          rintro e w2 ⟨rfl, hb2⟩
          have HB2 := hide (btC (unhide HB1) hb2)
          clear hb2 c0 c1 c2 c3 c4 c5 c6 c7 c8 c9 c10 c11 c12
          obtain ⟨c0, c1, c2, c3, c4, c5, c6, c7, c8, c9, c10, c11, c12⟩ := ((unhide HX).below (unhide HB2)).facts
          go_wp2_with fail
          refine (unhide g2 _).mono ?_
          rintro e wz2 ⟨rfl, rfl⟩
          go_wp2_with fail
          refine (unhide g3 _).mono ?_
          rintro e wz3 ⟨rfl, rfl⟩
          go_wp2_with fail
          go_ret
          exact ⟨retB (unhide HE), btC (unhide HB0) (unhide HB2)⟩
        | true =>
          rw [hB3] at g3
          cases hB4 : inB i 0 100 with
          | false =>
            have HE : Hid (clientB st h mu ep bo t i o tl pr = false) := by show _ = _; rw [clientB_impl]; simp [hB4]
            rw [hB4] at g4
            clear hB0 hB1 hB2 hB3 hB4
            go_enter Tryz.func137, Tryz.ntmps137
            go_wp2_with fail
            refine (unhide g0 _).mono ?_
            rintro e w1 ⟨rfl, hb1⟩
            obtain ⟨c0, c1, c2, c3, c4, c5, c6, c7, c8, c9, c10, c11, c12⟩ := ((unhide HX).below hb1).facts
            have HB1 := hide hb1
            clear hb1
            go_wp2_with fail
            refine (unhide g1 _).mono ?_
            rintro e w2 ⟨rfl, hb2⟩
            have HB2 := hide (btC (unhide HB1) hb2)
            clear hb2 c0 c1 c2 c3 c4 c5 c6 c7 c8 c9 c10 c11 c12
            obtain ⟨c0, c1, c2, c3, c4, c5, c6, c7, c8, c9, c10, c11, c12⟩ := ((unhide HX).below (unhide HB2)).facts
            go_wp2_with fail
            refine (unhide g2 _).mono ?_
            rintro e wz2 ⟨rfl, rfl⟩
            go_wp2_with fail
            refine (unhide g3 _).mono ?_
            rintro e wz3 ⟨rfl, rfl⟩
            go_wp2_with fail
            refine (unhide g4 _).mono ?_
            rintro e wz4 ⟨rfl, rfl⟩
            go_wp2_with fail
            go_ret
            exact ⟨retB (unhide HE), btC (unhide HB0) (unhide HB2)⟩
          | true =>
            rw [hB4] at g4
            cases hB5 : inB o 0 100 with
            | false =>
              have HE : Hid (clientB st h mu ep bo t i o tl pr = false) := by show _ = _; rw [clientB_impl]; simp [hB5]
              rw [hB5] at g5
              clear hB0 hB1 hB2 hB3 hB4 hB5
              go_enter Tryz.func137, Tryz.ntmps137
              go_wp2_with fail
              refine (unhide g0 _).mono ?_
              rintro e w1 ⟨rfl, hb1⟩
              obtain ⟨c0, c1, c2, c3, c4, c5, c6, c7, c8, c9, c10, c11, c12⟩ := ((unhide HX).below hb1).facts
              have HB1 := hide hb1
              clear hb1
              go_wp2_with fail
              refine (unhide g1 _).mono ?_
              rintro e w2 ⟨rfl, hb2⟩
              have HB2 := hide (btC (unhide HB1) hb2)
              clear hb2 c0 c1 c2 c3 c4 c5 c6 c7 c8 c9 c10 c11 c12
              obtain ⟨c0, c1, c2, c3, c4, c5, c6, c7, c8, c9, c10, c11, c12⟩ := ((unhide HX).below (unhide HB2)).facts
              go_wp2_with fail
              refine (unhide g2 _).mono ?_
              rintro e wz2 ⟨rfl, rfl⟩
              go_wp2_with fail
              refine (unhide g3 _).mono ?_
              rintro e wz3 ⟨rfl, rfl⟩
              go_wp2_with fail
              refine (unhide g4 _).mono ?_
              rintro e wz4 ⟨rfl, rfl⟩
              go_wp2_with fail
              refine (unhide g5 _).mono ?_
              rintro e wz5 ⟨rfl, rfl⟩
              go_wp2_with fail
              go_ret
              exact ⟨retB (unhide HE), btC (unhide HB0) (unhide HB2)⟩
            | true =>
              rw [hB5] at g5
              have HE : Hid (clientB st h mu ep bo t i o tl pr = standB t tl pr) := by show _ = _; rw [clientB_impl]; simp [hB0, hB1, hB2, hB3, hB4, hB5]
              clear hB0 hB1 hB2 hB3 hB4 hB5
              generalize standB t tl pr = Z at *
              go_enter Tryz.func137, Tryz.ntmps137
              go_wp2_with fail
              refine (unhide g0 _).mono ?_
              rintro e w1 ⟨rfl, hb1⟩
              obtain ⟨c0, c1, c2, c3, c4, c5, c6, c7, c8, c9, c10, c11, c12⟩ := ((unhide HX).below hb1).facts
              have HB1 := hide hb1
              clear hb1
              go_wp2_with fail
              refine (unhide g1 _).mono ?_
              rintro e w2 ⟨rfl, hb2⟩
              have HB2 := hide (btC (unhide HB1) hb2)
              clear hb2 c0 c1 c2 c3 c4 c5 c6 c7 c8 c9 c10 c11 c12
              obtain ⟨c0, c1, c2, c3, c4, c5, c6, c7, c8, c9, c10, c11, c12⟩ := ((unhide HX).below (unhide HB2)).facts
              go_wp2_with fail
              refine (unhide g2 _).mono ?_
              rintro e wz2 ⟨rfl, rfl⟩
              go_wp2_with fail
              refine (unhide g3 _).mono ?_
              rintro e wz3 ⟨rfl, rfl⟩
              go_wp2_with fail
              refine (unhide g4 _).mono ?_
              rintro e wz4 ⟨rfl, rfl⟩
              go_wp2_with fail
              refine (unhide g5 _).mono ?_
              rintro e wz5 ⟨rfl, rfl⟩
              go_wp2_with fail
              refine (unhide gd _ ((unhide HL).below (unhide HB2))).mono ?_
              rintro e w3 ⟨rfl, hb3⟩
              have HB3 := hide (btC (unhide HB2) hb3)
              clear hb3 c0 c1 c2 c3 c4 c5 c6 c7 c8 c9 c10 c11 c12
              go_wp2_with fail
              go_ret
              exact ⟨retB (unhide HE), btC (unhide HB0) (unhide HB3)⟩

noncomputable def clOk (x : Cl) : Bool := clientB x.st x.h x.mu x.ep x.bo x.t x.i x.o x.tl x.pr
noncomputable def svOk (x : Sv) : Bool := serverB x.st x.h x.ke x.ep x.t x.u x.i x.o x.tl x.l
noncomputable def leOk (x : Le) : Bool := letB x.d x.b x.s x.t x.n
noncomputable def hoOk (x : Ho) : Bool := hostB x.name && inB x.key 0 999
noncomputable def caOk (n : Nat) (x : Ca) : Bool := inB x.k 0 ((n : Int) - 1) && clOk x.c
noncomputable def taOk (n : Nat) (x : Ta) : Bool := inB x.k 0 ((n : Int) - 1) && svOk x.s
/-- Each name stands once. -/
def onceP (P : List Ho) (n : Nat) : Prop := ∀ i x, i < n → P[i]? = some x → ∀ k y, k < i → P[k]? = some y → ¬ y.name = x.name
open Classical in
noncomputable def onceB (P : List Ho) : Bool := decide (onceP P P.length)
def toldP (l : List Int) (n : Nat) : Prop := ∀ k x, k < n → l[k]? = some x → inB x 0 1000000 = true ∧ ∀ y, l[k - 1]? = some y → k ≠ 0 → y < x
open Classical in
noncomputable def toldB (l : List Int) : Bool := decide (toldP l l.length)
/-- A right world. -/
noncomputable def worldB (X : Wd) : Bool :=
  inB X.time 0 100000 && (inB X.fresh 1000 999990 && ((decide (X.known.length ≤ 300) && X.known.all okT) && (cacheB X.cache && ((decide (X.hosts.length ≤ 4) && X.hosts.all hoOk) && (onceB X.hosts && ((decide (X.letters.length ≤ 30) && X.letters.all leOk) && (decide (X.book.size ≤ 12000) && (inB X.sure 0 X.book.size && ((decide (X.calls.length ≤ 12) && X.calls.all (caOk X.letters.length)) && ((decide (X.talks.length ≤ 12) && X.talks.all (taOk X.hosts.length)) && toldB X.told))))))))))

theorem tmOkS (t : Tm) (cs : List Value) (w : World) (h : Lies w 0 t cs) (hz : t.wt ≤ 1048576) :
    Calls Tryz.prog 45 #[.agg cs.toArray] w fun e w' => e = .returned (.bool (okT t)) ∧ Below w.heap.size w w' := by
  obtain ⟨op, n, s, a, len, cap, rfl⟩ := h.cells
  exact ok8 t op n s a len cap w h (by have := t.size_le; omega)
theorem tmOkI (t : Tm) (cs : List Value) (w : World) (h : Lies w 0 t cs) (hz : t.wt ≤ 1048576) :
    Calls Tryz.prog 87 #[.agg cs.toArray] w fun e w' => e = .returned (.bool (okT t)) ∧ Below w.heap.size w w' := by
  obtain ⟨op, n, s, a, len, cap, rfl⟩ := h.cells
  exact ok10 t op n s a len cap w h (by have := t.size_le; omega)
theorem leOkS (x : Le) (cs : List Value) (w : World) (h : leAt w 0 x cs) (hz : lew x ≤ 1048576) :
    Calls Tryz.prog 46 #[.agg cs.toArray] w fun e w' => e = .returned (.bool (leOk x)) ∧ Below w.heap.size w w' := by
  obtain ⟨rfl, -⟩ := h
  exact okS x.d x.b x.s x.t x.n w (by unfold lew at hz; omega)
theorem leOkI (x : Le) (cs : List Value) (w : World) (h : leAt w 0 x cs) (hz : lew x ≤ 1048576) :
    Calls Tryz.prog 93 #[.agg cs.toArray] w fun e w' => e = .returned (.bool (leOk x)) ∧ Below w.heap.size w w' := by
  obtain ⟨rfl, -⟩ := h
  exact okI x.d x.b x.s x.t x.n w (by unfold lew at hz; omega)
theorem clOkS (x : Cl) (cs : List Value) (w : World) (h : clAt w 0 x cs) (hz : clw x ≤ 1048576) :
    Calls Tryz.prog 78 #[.agg cs.toArray] w fun e w' => e = .returned (.bool (clOk x)) ∧ Below w.heap.size w w' := by
  obtain ⟨-, op, n, s, a, len, cap, rfl, hl⟩ := h
  exact clientS x.t x.st x.h x.mu x.ep x.bo op n s a len cap x.i x.o x.tl x.pr w hl (by have := x.t.size_le; unfold clw at hz; omega) (by unfold clw at hz; omega)
theorem clOkI (x : Cl) (cs : List Value) (w : World) (h : clAt w 0 x cs) (hz : clw x ≤ 1048576) :
    Calls Tryz.prog 137 #[.agg cs.toArray] w fun e w' => e = .returned (.bool (clOk x)) ∧ Below w.heap.size w w' := by
  obtain ⟨-, op, n, s, a, len, cap, rfl, hl⟩ := h
  exact clientI x.t x.st x.h x.mu x.ep x.bo op n s a len cap x.i x.o x.tl x.pr w hl (by have := x.t.size_le; unfold clw at hz; omega) (by unfold clw at hz; omega)
theorem svOkS (x : Sv) (cs : List Value) (w : World) (h : svAt w 0 x cs) (hz : svw x ≤ 1048576) :
    Calls Tryz.prog 79 #[.agg cs.toArray] w fun e w' => e = .returned (.bool (svOk x)) ∧ Below w.heap.size w w' := by
  obtain ⟨-, -, op, n, s, a, len, cap, oq, m, r, c, lem, cat, g, gc, rfl, hl, hu, hi⟩ := h
  exact serverS x.t x.u x.l x.st x.h x.ke x.ep op n s a len cap oq m r c lem cat x.i x.o x.tl g gc w hl hu hi (by have := x.t.size_le; unfold svw at hz; omega) (by have := x.u.size_le; unfold svw at hz; omega) (by unfold svw at hz; omega) (by unfold svw at hz; omega)
theorem svOkI (x : Sv) (cs : List Value) (w : World) (h : svAt w 0 x cs) (hz : svw x ≤ 1048576) :
    Calls Tryz.prog 138 #[.agg cs.toArray] w fun e w' => e = .returned (.bool (svOk x)) ∧ Below w.heap.size w w' := by
  obtain ⟨-, -, op, n, s, a, len, cap, oq, m, r, c, lem, cat, g, gc, rfl, hl, hu, hi⟩ := h
  exact serverI x.t x.u x.l x.st x.h x.ke x.ep op n s a len cap oq m r c lem cat x.i x.o x.tl g gc w hl hu hi (by have := x.t.size_le; unfold svw at hz; omega) (by have := x.u.size_le; unfold svw at hz; omega) (by unfold svw at hz; omega) (by unfold svw at hz; omega)

/-- The number of the first one of that name, counted from k on; -1. -/
def hnm (n : ByteArray) : List Ho → Nat → Int
  | [], _ => -1
  | x :: r, k => if x.name = n then k else hnm n r (k + 1)
theorem hnm_next {n : ByteArray} {P : List Ho} {k : Nat} {x : Ho} (hk : P[k]? = some x) (hn : ¬ x.name = n) : hnm n (P.drop k) k = hnm n (P.drop (k + 1)) (k + 1) := by
  obtain ⟨h1, rfl⟩ := List.getElem?_eq_some_iff.1 hk
  rw [List.drop_eq_getElem_cons h1, hnm, if_neg hn]
theorem hnm_here {n : ByteArray} {P : List Ho} {k : Nat} {x : Ho} (hk : P[k]? = some x) (hn : x.name = n) : hnm n (P.drop k) k = k := by
  obtain ⟨h1, rfl⟩ := List.getElem?_eq_some_iff.1 hk
  rw [List.drop_eq_getElem_cons h1, hnm, if_pos hn]
theorem hnm_end {n : ByteArray} {P : List Ho} {k : Nat} (hk : ¬ k < P.length) : hnm n (P.drop k) k = -1 := by
  rw [List.drop_eq_nil_of_le (by omega), hnm]
theorem ba_ne {a b : ByteArray} (h : ¬ a = b) : (a.toList == b.toList) = false := by
  rw [beq_eq_false_iff_ne]
  exact fun e => h (by
    have e' : a.data.toList = b.data.toList := by rw [← ByteArray.toList_eq, ← ByteArray.toList_eq]; exact e
    cases a; cases b; congr 1; exact Array.ext' e')

set_option maxRecDepth 100000 in
set_option maxHeartbeats 4000000 in
theorem hn1 (x : Ho) (n : ByteArray) (g : Nat) (w : World) (hg : w.cell? ⟨g, 0, none⟩ = some (.string n)) (e : Bool) (he : e = decide (x.name = n)) :
    Calls Tryz.prog 135 #[.agg #[.string x.name, .int .i64 x.key, .bool x.lost], .pointer (some ⟨g, 0, none⟩)] w fun q w' => q = .returned (.bool e) ∧ Below w.heap.size w w' := by
  have hlt := lt_of_cell hg
  have hg' : (w.alloc (.cells #[.string x.name, .int .i64 x.key, .bool x.lost] 106)).cell? ⟨g, 0, none⟩ = some (.string n) := below_some (abG _) hg
  by_cases hx : x.name = n
  · rw [decide_eq_true hx] at he
    subst he
    obtain ⟨nm, key, lost⟩ := x
    replace hx : nm = n := hx
    subst hx
    go_enter Tryz.func135, Tryz.ntmps135
    go_wp2_with fail
    go_ret
    exact ⟨rfl, abG _⟩
  · rw [decide_eq_false hx] at he
    subst he
    have hne := ba_ne hx
    clear hx
    go_enter Tryz.func135, Tryz.ntmps135
    go_wp2_with fail
    go_ret
    exact ⟨rfl, abG _⟩

set_option maxRecDepth 100000 in
set_option maxHeartbeats 4000000 in
theorem idxH (P : List Ho) (a : Option Addr) (cap : Nat) (n : ByteArray) (g : Nat) (w : World) (hl : hoK.Ls w 0 a P) (hsz : P.length ≤ 2097152) (hg : w.cell? ⟨g, 0, none⟩ = some (.string n)) :
    Calls Tryz.prog 134 #[.slice a P.length cap, .func (.func 135) #[] #[.pointer (some ⟨g, 0, none⟩)]] w fun e w' => e = .returned (.int .i64 (hnm n P 0)) ∧ Below w.heap.size w w' := by
  have HT := hide hl
  have HG := hide hg
  clear hl hg
  generalize hlen : P.length = len at *
  have HL := hide hlen
  clear hlen
  go_enter Tryz.func134, Tryz.ntmps134
  go_wp2_with fail
  go_loopw [8] (fun i wr => ∃ k : Nat, i = .int .i64 k ∧ Below w.heap.size w wr ∧ k ≤ len ∧ hnm n P 0 = hnm n (P.drop k) k) (fun i _ => len - (intOf i).toNat)
  case atStart => exact ⟨0, rfl, Below.refl _ _, by omega, rfl⟩
  case round =>
    obtain ⟨k, rfl, hb, hk, ha⟩ := hrel
    have HBr := hide hb
    have HA := hide ha
    clear ha
    by_cases hp : k < len
    · have hp' : k < P.length := by have := HL.out; omega
      obtain ⟨x, hkx⟩ : ∃ x, P[k]? = some x := ⟨_, List.getElem?_eq_getElem hp'⟩
      obtain ⟨b, o, cs, rfl, -, -, HR, HT2, -⟩ := ((unhide HT).on hb).get hkx
      obtain ⟨rfl, -⟩ := HT2
      have c0 : wr.cell? ⟨b, o + k * 3, none⟩ = some (.string x.name) := HR 0 _ rfl
      have c1 : wr.cell? ⟨b, o + k * 3 + 1, none⟩ = some (.int .i64 x.key) := HR 1 _ rfl
      have c2 : wr.cell? ⟨b, o + k * 3 + 2, none⟩ = some (.bool x.lost) := HR 2 _ rfl
      have hct := hide (hn1 x n g wr (below_some hb (unhide HG)) _ rfl)
      have q2 : (k : Int) < (len : Int) := by omega
      have q3 : (0 : Int) ≤ (k : Int) := by omega
      have w1 : wrap64 ((k : Int) + 1) = ((k + 1 : Nat) : Int) := by unfold wrap64; omega
      by_cases hx : x.name = n
      · have HE : Hid (hnm n P 0 = (k : Int)) := (unhide HA).trans (hnm_here hkx hx)
        rw [decide_eq_true hx] at hct
        clear hb hkx HR hx
        go_wp2_with fail
        refine (unhide hct).mono ?_
        rintro e w2 ⟨rfl, hb2⟩
        have HB2 := hide (btG (unhide HBr) hb2)
        clear hb2
        go_wp2_with fail
        go_ret
        exact ⟨ret_int (unhide HE).symm, unhide HB2⟩
      · have HE : Hid (hnm n P 0 = hnm n (P.drop (k + 1)) (k + 1)) := (unhide HA).trans (hnm_next hkx hx)
        rw [decide_eq_false hx] at hct
        clear hb hkx HR hx
        go_wp2_with fail
        refine (unhide hct).mono ?_
        rintro e w2 ⟨rfl, hb2⟩
        have HB2 := hide (btG (unhide HBr) hb2)
        clear hb2
        go_wp2_with fail
        go_roundw
        case rel => exact ⟨k + 1, rfl, unhide HB2, by omega, unhide HE⟩
        case measure => simp only [intOf]; omega
    · have c2 : ¬ (k : Int) < (len : Int) := by omega
      have HE : Hid (hnm n P 0 = -1) := (unhide HA).trans (hnm_end (by have := HL.out; omega))
      clear hb
      go_wp2_with fail
      go_ret
      exact ⟨ret_int (unhide HE).symm, unhide HBr⟩

set_option maxRecDepth 100000 in
set_option maxHeartbeats 4000000 in
theorem hostNamedI (P : List Ho) (a : Option Addr) (cap : Nat) (n : ByteArray) (w : World) (hl : hoK.Ls w 0 a P) (hsz : P.length ≤ 2097152) :
    Calls Tryz.prog 115 #[.slice a P.length cap, .string n] w fun e w' => e = .returned (.int .i64 (hnm n P 0)) ∧ Below w.heap.size w w' := by
  have HC := hide (idxH P a cap n w.heap.size _ (hl.on (abG (.cells #[.string n] 9))) hsz (box_cell w #[.string n] 9 0 _ rfl))
  clear hl
  generalize hnm n P 0 = v at *
  go_enter Tryz.func115, Tryz.ntmps115
  go_wp2_with fail
  refine (unhide HC).mono ?_
  rintro e w2 ⟨rfl, hb2⟩
  have HB2 := hide (btG (abG _) hb2)
  clear hb2
  go_wp2_with fail
  go_ret
  exact ⟨rfl, unhide HB2⟩

theorem hnm_seek (n : ByteArray) (P : List Ho) : ∀ i, i ≤ P.length → ((∀ k y, k < i → P[k]? = some y → ¬ y.name = n) ∧ hnm n P 0 = hnm n (P.drop i) i) ∨ ∃ (k : Nat) (y : Ho), k < i ∧ P[k]? = some y ∧ y.name = n ∧ hnm n P 0 = (k : Int)
  | 0, _ => Or.inl ⟨fun k y hk => by omega, rfl⟩
  | i + 1, hi => by
    rcases hnm_seek n P i (by omega) with ⟨h1, h2⟩ | ⟨k, y, h1, h2, h3, h4⟩
    · obtain ⟨x, hx⟩ : ∃ x, P[i]? = some x := ⟨_, List.getElem?_eq_getElem (by omega)⟩
      by_cases hn : x.name = n
      · exact Or.inr ⟨i, x, by omega, hx, hn, h2.trans (hnm_here hx hn)⟩
      · refine Or.inl ⟨fun k y hk hy => ?_, h2.trans (hnm_next hx hn)⟩
        rcases Nat.lt_or_ge k i with q | q
        · exact h1 k y q hy
        · obtain rfl : k = i := by omega
          rw [hx] at hy
          cases hy
          exact hn
    · exact Or.inr ⟨k, y, by omega, h2, h3, h4⟩
theorem hnm_first {P : List Ho} {i : Nat} {x : Ho} (hx : P[i]? = some x) : (∀ k y, k < i → P[k]? = some y → ¬ y.name = x.name) ↔ hnm x.name P 0 = (i : Int) := by
  have hi := (List.getElem?_eq_some_iff.1 hx).1
  rcases hnm_seek x.name P i (by omega) with ⟨h1, h2⟩ | ⟨k, y, h1, h2, h3, h4⟩
  · exact ⟨fun _ => h2.trans (hnm_here hx rfl), fun _ => h1⟩
  · exact ⟨fun h => absurd h3 (h k y h1 h2), fun h => by omega⟩

theorem infoITm : (Tryz.prog.info? 56).map (·.size) = some 4 := by kernel_rfl

set_option maxRecDepth 100000 in
set_option maxHeartbeats 4000000 in
theorem eachTm (P : List Tm) (a : Option Addr) (cap : Nat) (most : Nat) (f : Tm → Bool) (w : World) (hl : tmK.Ls w 0 a P) (hsz : P.length ≤ 1048576) (hms : most ≤ 1000)
    (hf : ∀ x ∈ P, ∀ cs v, Below w.heap.size w v → tmK.at_ v 0 x cs → Calls Tryz.prog 87 #[.agg cs.toArray] v fun e v' => e = .returned (.bool (f x)) ∧ Below v.heap.size v v') :
    Calls Tryz.prog 86 #[.slice a P.length cap, .int .i64 (most : Int), .func (.func 87) #[] #[]] w fun e w' => e = .returned (.bool (decide (P.length ≤ most) && P.all f)) ∧ Below w.heap.size w w' := by
  have HT := hide hl
  have HF := hide hf
  clear hl hf
  generalize hlen : P.length = len at *
  have HL := hide hlen
  clear hlen
  by_cases hlm : (most : Int) < (len : Int)
  · have HE : Hid ((decide (len ≤ most) && P.all f) = false) := by show _ = _; rw [decide_eq_false (by omega), Bool.false_and]
    generalize (decide (len ≤ most) && P.all f) = r at *
    go_enter Tryz.func86, Tryz.ntmps86
    go_wp2_with fail
    go_ret
    exact ⟨retB (unhide HE), Below.refl _ _⟩
  · have HE : Hid ((decide (len ≤ most) && P.all f) = P.all f) := by show _ = _; rw [decide_eq_true (by omega), Bool.true_and]
    generalize (decide (len ≤ most) && P.all f) = r at *
    go_enter Tryz.func86, Tryz.ntmps86
    go_wp2_with fail
    go_loopw [15] (fun i wr => ∃ k : Nat, i = .int .i64 k ∧ Below w.heap.size w wr ∧ k ≤ len ∧ ∀ j x, j < k → P[j]? = some x → f x = true) (fun i _ => len - (intOf i).toNat)
    case atStart => exact ⟨0, rfl, Below.refl _ _, by omega, fun j x hj => by omega⟩
    case round =>
      obtain ⟨k, rfl, hb, hk, ha⟩ := hrel
      have HBr := hide hb
      have HA := hide ha
      clear ha
      by_cases hp : k < len
      · have hp' : k < P.length := by have := HL.out; omega
        obtain ⟨x, hkx⟩ : ∃ x, P[k]? = some x := ⟨_, List.getElem?_eq_getElem hp'⟩
        obtain ⟨b, o, cs, rfl, -, -, HR0, HT2, hcl0⟩ := ((unhide HT).on hb).get hkx
        have HR := hide (show wr.rangeAt b (o + k * 4) cs from HR0)
        have hcl := hide (show cs.length = 4 from hcl0)
        have hone := hide (tmK.one (w := wr) (L := 0) (x := x) HT2)
        have HZ := hide (Box.new wr 56 [.int .i64 0, .int .i64 0, .string ⟨#[]⟩, .slice none 0 0])
        have HFX := hide (fun v (hv : Below wr.heap.size wr v) => unhide HF x (List.mem_of_getElem? hkx) cs v (btG hb hv) (tmK.on (w := wr) (L := 0) (x := x) HT2 hv))
        have HK := hide hkx
        have q2 : (k : Int) < (len : Int) := by omega
        have q3 : (0 : Int) ≤ (k : Int) := by omega
        have w1 : wrap64 ((k : Int) + 1) = ((k + 1 : Nat) : Int) := by unfold wrap64; omega
        have HM : Hid (f x = true → ∀ j y, j < k + 1 → P[j]? = some y → f y = true) := fun hx j y hj hy => by
          rcases Nat.lt_or_ge j k with q | q
          · exact unhide HA j y q hy
          · obtain rfl : j = k := by omega
            rw [unhide HK] at hy
            cases hy
            exact hx
        have HN : Hid (f x = false → P.all f = false) := fun hx => List.all_eq_false.2 ⟨x, List.mem_of_getElem? (unhide HK), by simp [hx]⟩
        clear hkx HR0 HT2 hcl0 hb
        generalize f x = fx at *
        cases fx with
        | true =>
          go_wp2_with (first
          | (refine wpList_load_mid rfl _ _ rfl b (o + k * 4) rfl cs _ (unhide HR) Tryz.underlying56 rfl (by rw [unhide hcl]; exact infoITm) ?_)
          | (refine wpList_store_box rfl _ _ rfl wr.heap.size 0 cs (unhide HZ) (by rw [unhide hcl]; exact Nat.le_refl _) rfl rfl (by rw [unhide hcl]; exact infoITm) (unhide hone) ?_
             intro V hV
             have HV : Hid (Box V wr.heap.size 56 cs) := (by
               rw [hV]
               have hp : puts [.int .i64 0, .int .i64 0, .string ⟨#[]⟩, .slice none 0 0] 0 cs = cs := puts_all (by rw [unhide hcl]; rfl)
               have := Box.sets cs 0 _ _ (unhide HZ)
               rw [hp] at this
               exact this)
             have HBV : Hid (Below wr.heap.size wr V) := (by rw [hV]; exact setsG (abG _) (Nat.le_refl _))
             clear hV HZ)
          | (refine wpList_load_box rfl _ rfl wr.heap.size 0 cs (unhide HV) (fun j v hj => (by rw [Nat.zero_add]; exact hj)) rfl Tryz.underlying56 rfl (by rw [unhide hcl]; exact infoITm) ?_))
          refine (unhide HFX _ (unhide HBV)).mono ?_
          rintro e w3 ⟨rfl, hb3⟩
          have HB3 := hide (btG (btG (unhide HBr) (unhide HBV)) hb3)
          clear hb3
          go_wp2_with fail
          go_roundw
          case rel => exact ⟨k + 1, rfl, unhide HB3, by omega, unhide HM (by first | rfl | trivial)⟩
          case measure => simp only [intOf]; omega
        | false =>
          go_wp2_with (first
          | (refine wpList_load_mid rfl _ _ rfl b (o + k * 4) rfl cs _ (unhide HR) Tryz.underlying56 rfl (by rw [unhide hcl]; exact infoITm) ?_)
          | (refine wpList_store_box rfl _ _ rfl wr.heap.size 0 cs (unhide HZ) (by rw [unhide hcl]; exact Nat.le_refl _) rfl rfl (by rw [unhide hcl]; exact infoITm) (unhide hone) ?_
             intro V hV
             have HV : Hid (Box V wr.heap.size 56 cs) := (by
               rw [hV]
               have hp : puts [.int .i64 0, .int .i64 0, .string ⟨#[]⟩, .slice none 0 0] 0 cs = cs := puts_all (by rw [unhide hcl]; rfl)
               have := Box.sets cs 0 _ _ (unhide HZ)
               rw [hp] at this
               exact this)
             have HBV : Hid (Below wr.heap.size wr V) := (by rw [hV]; exact setsG (abG _) (Nat.le_refl _))
             clear hV HZ)
          | (refine wpList_load_box rfl _ rfl wr.heap.size 0 cs (unhide HV) (fun j v hj => (by rw [Nat.zero_add]; exact hj)) rfl Tryz.underlying56 rfl (by rw [unhide hcl]; exact infoITm) ?_))
          refine (unhide HFX _ (unhide HBV)).mono ?_
          rintro e w3 ⟨rfl, hb3⟩
          have HB3 := hide (btG (btG (unhide HBr) (unhide HBV)) hb3)
          clear hb3
          go_wp2_with fail
          go_ret
          exact ⟨retB ((unhide HE).trans (unhide HN (by first | rfl | trivial))), unhide HB3⟩
      · have c2 : ¬ (k : Int) < (len : Int) := by omega
        have HX : Hid (P.all f = true) := List.all_eq_true.2 fun x hx => by
          obtain ⟨j, hj⟩ := List.getElem?_of_mem hx
          exact unhide HA j x (by have := (List.getElem?_eq_some_iff.1 hj).1; have := HL.out; omega) hj
        clear hb
        go_wp2_with fail
        go_ret
        exact ⟨retB ((unhide HE).trans (unhide HX)), unhide HBr⟩

set_option maxRecDepth 100000 in
set_option maxHeartbeats 4000000 in
theorem eachHo (P : List Ho) (a : Option Addr) (cap : Nat) (most : Nat) (f : Ho → Bool) (w : World) (hl : hoK.Ls w 0 a P) (hsz : P.length ≤ 1048576) (hms : most ≤ 1000)
    (hf : ∀ x ∈ P, ∀ cs v, Below w.heap.size w v → hoK.at_ v 0 x cs → Calls Tryz.prog 90 #[.agg cs.toArray] v fun e v' => e = .returned (.bool (f x)) ∧ Below v.heap.size v v') :
    Calls Tryz.prog 89 #[.slice a P.length cap, .int .i64 (most : Int), .func (.func 90) #[] #[]] w fun e w' => e = .returned (.bool (decide (P.length ≤ most) && P.all f)) ∧ Below w.heap.size w w' := by
  have HT := hide hl
  have HF := hide hf
  clear hl hf
  generalize hlen : P.length = len at *
  have HL := hide hlen
  clear hlen
  by_cases hlm : (most : Int) < (len : Int)
  · have HE : Hid ((decide (len ≤ most) && P.all f) = false) := by show _ = _; rw [decide_eq_false (by omega), Bool.false_and]
    generalize (decide (len ≤ most) && P.all f) = r at *
    go_enter Tryz.func89, Tryz.ntmps89
    go_wp2_with fail
    go_ret
    exact ⟨retB (unhide HE), Below.refl _ _⟩
  · have HE : Hid ((decide (len ≤ most) && P.all f) = P.all f) := by show _ = _; rw [decide_eq_true (by omega), Bool.true_and]
    generalize (decide (len ≤ most) && P.all f) = r at *
    go_enter Tryz.func89, Tryz.ntmps89
    go_wp2_with fail
    go_loopw [15] (fun i wr => ∃ k : Nat, i = .int .i64 k ∧ Below w.heap.size w wr ∧ k ≤ len ∧ ∀ j x, j < k → P[j]? = some x → f x = true) (fun i _ => len - (intOf i).toNat)
    case atStart => exact ⟨0, rfl, Below.refl _ _, by omega, fun j x hj => by omega⟩
    case round =>
      obtain ⟨k, rfl, hb, hk, ha⟩ := hrel
      have HBr := hide hb
      have HA := hide ha
      clear ha
      by_cases hp : k < len
      · have hp' : k < P.length := by have := HL.out; omega
        obtain ⟨x, hkx⟩ : ∃ x, P[k]? = some x := ⟨_, List.getElem?_eq_getElem hp'⟩
        obtain ⟨b, o, cs, rfl, -, -, HR0, HT2, hcl0⟩ := ((unhide HT).on hb).get hkx
        have HR := hide (show wr.rangeAt b (o + k * 3) cs from HR0)
        have hcl := hide (show cs.length = 3 from hcl0)
        have hone := hide (hoK.one (w := wr) (L := 0) (x := x) HT2)
        have HZ := hide (Box.new wr 106 [.string ⟨#[]⟩, .int .i64 0, .bool false])
        have HFX := hide (fun v (hv : Below wr.heap.size wr v) => unhide HF x (List.mem_of_getElem? hkx) cs v (btG hb hv) (hoK.on (w := wr) (L := 0) (x := x) HT2 hv))
        have HK := hide hkx
        have q2 : (k : Int) < (len : Int) := by omega
        have q3 : (0 : Int) ≤ (k : Int) := by omega
        have w1 : wrap64 ((k : Int) + 1) = ((k + 1 : Nat) : Int) := by unfold wrap64; omega
        have HM : Hid (f x = true → ∀ j y, j < k + 1 → P[j]? = some y → f y = true) := fun hx j y hj hy => by
          rcases Nat.lt_or_ge j k with q | q
          · exact unhide HA j y q hy
          · obtain rfl : j = k := by omega
            rw [unhide HK] at hy
            cases hy
            exact hx
        have HN : Hid (f x = false → P.all f = false) := fun hx => List.all_eq_false.2 ⟨x, List.mem_of_getElem? (unhide HK), by simp [hx]⟩
        clear hkx HR0 HT2 hcl0 hb
        generalize f x = fx at *
        cases fx with
        | true =>
          go_wp2_with (first
          | (refine wpList_load_mid rfl _ _ rfl b (o + k * 3) rfl cs _ (unhide HR) Tryz.underlying106 rfl (by rw [unhide hcl]; exact infoIHo) ?_)
          | (refine wpList_store_box rfl _ _ rfl wr.heap.size 0 cs (unhide HZ) (by rw [unhide hcl]; exact Nat.le_refl _) rfl rfl (by rw [unhide hcl]; exact infoIHo) (unhide hone) ?_
             intro V hV
             have HV : Hid (Box V wr.heap.size 106 cs) := (by
               rw [hV]
               have hp : puts [.string ⟨#[]⟩, .int .i64 0, .bool false] 0 cs = cs := puts_all (by rw [unhide hcl]; rfl)
               have := Box.sets cs 0 _ _ (unhide HZ)
               rw [hp] at this
               exact this)
             have HBV : Hid (Below wr.heap.size wr V) := (by rw [hV]; exact setsG (abG _) (Nat.le_refl _))
             clear hV HZ)
          | (refine wpList_load_box rfl _ rfl wr.heap.size 0 cs (unhide HV) (fun j v hj => (by rw [Nat.zero_add]; exact hj)) rfl Tryz.underlying106 rfl (by rw [unhide hcl]; exact infoIHo) ?_))
          refine (unhide HFX _ (unhide HBV)).mono ?_
          rintro e w3 ⟨rfl, hb3⟩
          have HB3 := hide (btG (btG (unhide HBr) (unhide HBV)) hb3)
          clear hb3
          go_wp2_with fail
          go_roundw
          case rel => exact ⟨k + 1, rfl, unhide HB3, by omega, unhide HM (by first | rfl | trivial)⟩
          case measure => simp only [intOf]; omega
        | false =>
          go_wp2_with (first
          | (refine wpList_load_mid rfl _ _ rfl b (o + k * 3) rfl cs _ (unhide HR) Tryz.underlying106 rfl (by rw [unhide hcl]; exact infoIHo) ?_)
          | (refine wpList_store_box rfl _ _ rfl wr.heap.size 0 cs (unhide HZ) (by rw [unhide hcl]; exact Nat.le_refl _) rfl rfl (by rw [unhide hcl]; exact infoIHo) (unhide hone) ?_
             intro V hV
             have HV : Hid (Box V wr.heap.size 106 cs) := (by
               rw [hV]
               have hp : puts [.string ⟨#[]⟩, .int .i64 0, .bool false] 0 cs = cs := puts_all (by rw [unhide hcl]; rfl)
               have := Box.sets cs 0 _ _ (unhide HZ)
               rw [hp] at this
               exact this)
             have HBV : Hid (Below wr.heap.size wr V) := (by rw [hV]; exact setsG (abG _) (Nat.le_refl _))
             clear hV HZ)
          | (refine wpList_load_box rfl _ rfl wr.heap.size 0 cs (unhide HV) (fun j v hj => (by rw [Nat.zero_add]; exact hj)) rfl Tryz.underlying106 rfl (by rw [unhide hcl]; exact infoIHo) ?_))
          refine (unhide HFX _ (unhide HBV)).mono ?_
          rintro e w3 ⟨rfl, hb3⟩
          have HB3 := hide (btG (btG (unhide HBr) (unhide HBV)) hb3)
          clear hb3
          go_wp2_with fail
          go_ret
          exact ⟨retB ((unhide HE).trans (unhide HN (by first | rfl | trivial))), unhide HB3⟩
      · have c2 : ¬ (k : Int) < (len : Int) := by omega
        have HX : Hid (P.all f = true) := List.all_eq_true.2 fun x hx => by
          obtain ⟨j, hj⟩ := List.getElem?_of_mem hx
          exact unhide HA j x (by have := (List.getElem?_eq_some_iff.1 hj).1; have := HL.out; omega) hj
        clear hb
        go_wp2_with fail
        go_ret
        exact ⟨retB ((unhide HE).trans (unhide HX)), unhide HBr⟩

set_option maxRecDepth 100000 in
set_option maxHeartbeats 4000000 in
theorem eachLe (P : List Le) (a : Option Addr) (cap : Nat) (most : Nat) (f : Le → Bool) (w : World) (hl : leK.Ls w 0 a P) (hsz : P.length ≤ 1048576) (hms : most ≤ 1000)
    (hf : ∀ x ∈ P, ∀ cs v, Below w.heap.size w v → leK.at_ v 0 x cs → Calls Tryz.prog 93 #[.agg cs.toArray] v fun e v' => e = .returned (.bool (f x)) ∧ Below v.heap.size v v') :
    Calls Tryz.prog 92 #[.slice a P.length cap, .int .i64 (most : Int), .func (.func 93) #[] #[]] w fun e w' => e = .returned (.bool (decide (P.length ≤ most) && P.all f)) ∧ Below w.heap.size w w' := by
  have HT := hide hl
  have HF := hide hf
  clear hl hf
  generalize hlen : P.length = len at *
  have HL := hide hlen
  clear hlen
  by_cases hlm : (most : Int) < (len : Int)
  · have HE : Hid ((decide (len ≤ most) && P.all f) = false) := by show _ = _; rw [decide_eq_false (by omega), Bool.false_and]
    generalize (decide (len ≤ most) && P.all f) = r at *
    go_enter Tryz.func92, Tryz.ntmps92
    go_wp2_with fail
    go_ret
    exact ⟨retB (unhide HE), Below.refl _ _⟩
  · have HE : Hid ((decide (len ≤ most) && P.all f) = P.all f) := by show _ = _; rw [decide_eq_true (by omega), Bool.true_and]
    generalize (decide (len ≤ most) && P.all f) = r at *
    go_enter Tryz.func92, Tryz.ntmps92
    go_wp2_with fail
    go_loopw [15] (fun i wr => ∃ k : Nat, i = .int .i64 k ∧ Below w.heap.size w wr ∧ k ≤ len ∧ ∀ j x, j < k → P[j]? = some x → f x = true) (fun i _ => len - (intOf i).toNat)
    case atStart => exact ⟨0, rfl, Below.refl _ _, by omega, fun j x hj => by omega⟩
    case round =>
      obtain ⟨k, rfl, hb, hk, ha⟩ := hrel
      have HBr := hide hb
      have HA := hide ha
      clear ha
      by_cases hp : k < len
      · have hp' : k < P.length := by have := HL.out; omega
        obtain ⟨x, hkx⟩ : ∃ x, P[k]? = some x := ⟨_, List.getElem?_eq_getElem hp'⟩
        obtain ⟨b, o, cs, rfl, -, -, HR0, HT2, hcl0⟩ := ((unhide HT).on hb).get hkx
        have HR := hide (show wr.rangeAt b (o + k * 5) cs from HR0)
        have hcl := hide (show cs.length = 5 from hcl0)
        have hone := hide (leK.one (w := wr) (L := 0) (x := x) HT2)
        have HZ := hide (Box.new wr 52 [.string ⟨#[]⟩, .int .i64 0, .int .i64 0, .int .i64 0, .int .i64 0])
        have HFX := hide (fun v (hv : Below wr.heap.size wr v) => unhide HF x (List.mem_of_getElem? hkx) cs v (btG hb hv) (leK.on (w := wr) (L := 0) (x := x) HT2 hv))
        have HK := hide hkx
        have q2 : (k : Int) < (len : Int) := by omega
        have q3 : (0 : Int) ≤ (k : Int) := by omega
        have w1 : wrap64 ((k : Int) + 1) = ((k + 1 : Nat) : Int) := by unfold wrap64; omega
        have HM : Hid (f x = true → ∀ j y, j < k + 1 → P[j]? = some y → f y = true) := fun hx j y hj hy => by
          rcases Nat.lt_or_ge j k with q | q
          · exact unhide HA j y q hy
          · obtain rfl : j = k := by omega
            rw [unhide HK] at hy
            cases hy
            exact hx
        have HN : Hid (f x = false → P.all f = false) := fun hx => List.all_eq_false.2 ⟨x, List.mem_of_getElem? (unhide HK), by simp [hx]⟩
        clear hkx HR0 HT2 hcl0 hb
        generalize f x = fx at *
        cases fx with
        | true =>
          go_wp2_with (first
          | (refine wpList_load_mid rfl _ _ rfl b (o + k * 5) rfl cs _ (unhide HR) Tryz.underlying52 rfl (by rw [unhide hcl]; exact infoILe) ?_)
          | (refine wpList_store_box rfl _ _ rfl wr.heap.size 0 cs (unhide HZ) (by rw [unhide hcl]; exact Nat.le_refl _) rfl rfl (by rw [unhide hcl]; exact infoILe) (unhide hone) ?_
             intro V hV
             have HV : Hid (Box V wr.heap.size 52 cs) := (by
               rw [hV]
               have hp : puts [.string ⟨#[]⟩, .int .i64 0, .int .i64 0, .int .i64 0, .int .i64 0] 0 cs = cs := puts_all (by rw [unhide hcl]; rfl)
               have := Box.sets cs 0 _ _ (unhide HZ)
               rw [hp] at this
               exact this)
             have HBV : Hid (Below wr.heap.size wr V) := (by rw [hV]; exact setsG (abG _) (Nat.le_refl _))
             clear hV HZ)
          | (refine wpList_load_box rfl _ rfl wr.heap.size 0 cs (unhide HV) (fun j v hj => (by rw [Nat.zero_add]; exact hj)) rfl Tryz.underlying52 rfl (by rw [unhide hcl]; exact infoILe) ?_))
          refine (unhide HFX _ (unhide HBV)).mono ?_
          rintro e w3 ⟨rfl, hb3⟩
          have HB3 := hide (btG (btG (unhide HBr) (unhide HBV)) hb3)
          clear hb3
          go_wp2_with fail
          go_roundw
          case rel => exact ⟨k + 1, rfl, unhide HB3, by omega, unhide HM (by first | rfl | trivial)⟩
          case measure => simp only [intOf]; omega
        | false =>
          go_wp2_with (first
          | (refine wpList_load_mid rfl _ _ rfl b (o + k * 5) rfl cs _ (unhide HR) Tryz.underlying52 rfl (by rw [unhide hcl]; exact infoILe) ?_)
          | (refine wpList_store_box rfl _ _ rfl wr.heap.size 0 cs (unhide HZ) (by rw [unhide hcl]; exact Nat.le_refl _) rfl rfl (by rw [unhide hcl]; exact infoILe) (unhide hone) ?_
             intro V hV
             have HV : Hid (Box V wr.heap.size 52 cs) := (by
               rw [hV]
               have hp : puts [.string ⟨#[]⟩, .int .i64 0, .int .i64 0, .int .i64 0, .int .i64 0] 0 cs = cs := puts_all (by rw [unhide hcl]; rfl)
               have := Box.sets cs 0 _ _ (unhide HZ)
               rw [hp] at this
               exact this)
             have HBV : Hid (Below wr.heap.size wr V) := (by rw [hV]; exact setsG (abG _) (Nat.le_refl _))
             clear hV HZ)
          | (refine wpList_load_box rfl _ rfl wr.heap.size 0 cs (unhide HV) (fun j v hj => (by rw [Nat.zero_add]; exact hj)) rfl Tryz.underlying52 rfl (by rw [unhide hcl]; exact infoILe) ?_))
          refine (unhide HFX _ (unhide HBV)).mono ?_
          rintro e w3 ⟨rfl, hb3⟩
          have HB3 := hide (btG (btG (unhide HBr) (unhide HBV)) hb3)
          clear hb3
          go_wp2_with fail
          go_ret
          exact ⟨retB ((unhide HE).trans (unhide HN (by first | rfl | trivial))), unhide HB3⟩
      · have c2 : ¬ (k : Int) < (len : Int) := by omega
        have HX : Hid (P.all f = true) := List.all_eq_true.2 fun x hx => by
          obtain ⟨j, hj⟩ := List.getElem?_of_mem hx
          exact unhide HA j x (by have := (List.getElem?_eq_some_iff.1 hj).1; have := HL.out; omega) hj
        clear hb
        go_wp2_with fail
        go_ret
        exact ⟨retB ((unhide HE).trans (unhide HX)), unhide HBr⟩

set_option maxRecDepth 100000 in
set_option maxHeartbeats 4000000 in
theorem eachCa (P : List Ca) (a : Option Addr) (cap : Nat) (most : Nat) (f : Ca → Bool) (wc : Array Value) (w : World) (hl : caK.Ls w 0 a P) (hsz : P.length ≤ 1048576) (hms : most ≤ 1000)
    (hf : ∀ x ∈ P, ∀ cs v, Below w.heap.size w v → caK.at_ v 0 x cs → Calls Tryz.prog 95 #[.agg wc, .agg cs.toArray] v fun e v' => e = .returned (.bool (f x)) ∧ Below v.heap.size v v') :
    Calls Tryz.prog 94 #[.slice a P.length cap, .int .i64 (most : Int), .func (.func 95) #[.agg wc] #[]] w fun e w' => e = .returned (.bool (decide (P.length ≤ most) && P.all f)) ∧ Below w.heap.size w w' := by
  have HT := hide hl
  have HF := hide hf
  clear hl hf
  generalize hlen : P.length = len at *
  have HL := hide hlen
  clear hlen
  by_cases hlm : (most : Int) < (len : Int)
  · have HE : Hid ((decide (len ≤ most) && P.all f) = false) := by show _ = _; rw [decide_eq_false (by omega), Bool.false_and]
    generalize (decide (len ≤ most) && P.all f) = r at *
    go_enter Tryz.func94, Tryz.ntmps94
    go_wp2_with fail
    go_ret
    exact ⟨retB (unhide HE), Below.refl _ _⟩
  · have HE : Hid ((decide (len ≤ most) && P.all f) = P.all f) := by show _ = _; rw [decide_eq_true (by omega), Bool.true_and]
    generalize (decide (len ≤ most) && P.all f) = r at *
    go_enter Tryz.func94, Tryz.ntmps94
    go_wp2_with fail
    go_loopw [15] (fun i wr => ∃ k : Nat, i = .int .i64 k ∧ Below w.heap.size w wr ∧ k ≤ len ∧ ∀ j x, j < k → P[j]? = some x → f x = true) (fun i _ => len - (intOf i).toNat)
    case atStart => exact ⟨0, rfl, Below.refl _ _, by omega, fun j x hj => by omega⟩
    case round =>
      obtain ⟨k, rfl, hb, hk, ha⟩ := hrel
      have HBr := hide hb
      have HA := hide ha
      clear ha
      by_cases hp : k < len
      · have hp' : k < P.length := by have := HL.out; omega
        obtain ⟨x, hkx⟩ : ∃ x, P[k]? = some x := ⟨_, List.getElem?_eq_getElem hp'⟩
        obtain ⟨b, o, cs, rfl, -, -, HR0, HT2, hcl0⟩ := ((unhide HT).on hb).get hkx
        have HR := hide (show wr.rangeAt b (o + k * 15) cs from HR0)
        have hcl := hide (show cs.length = 15 from hcl0)
        have hone := hide (caK.one (w := wr) (L := 0) (x := x) HT2)
        have HZ := hide (Box.new wr 112 [.int .i64 0, .int .i64 0, .string ⟨#[]⟩, .bool false, .int .i64 0, .int .i64 0, .int .i64 0, .int .i64 0, .string ⟨#[]⟩, .slice none 0 0, .int .i64 0, .int .i64 0, .bool false, .bool false, .bool false])
        have HFX := hide (fun v (hv : Below wr.heap.size wr v) => unhide HF x (List.mem_of_getElem? hkx) cs v (btG hb hv) (caK.on (w := wr) (L := 0) (x := x) HT2 hv))
        have HK := hide hkx
        have q2 : (k : Int) < (len : Int) := by omega
        have q3 : (0 : Int) ≤ (k : Int) := by omega
        have w1 : wrap64 ((k : Int) + 1) = ((k + 1 : Nat) : Int) := by unfold wrap64; omega
        have HM : Hid (f x = true → ∀ j y, j < k + 1 → P[j]? = some y → f y = true) := fun hx j y hj hy => by
          rcases Nat.lt_or_ge j k with q | q
          · exact unhide HA j y q hy
          · obtain rfl : j = k := by omega
            rw [unhide HK] at hy
            cases hy
            exact hx
        have HN : Hid (f x = false → P.all f = false) := fun hx => List.all_eq_false.2 ⟨x, List.mem_of_getElem? (unhide HK), by simp [hx]⟩
        clear hkx HR0 HT2 hcl0 hb
        generalize f x = fx at *
        cases fx with
        | true =>
          go_wp2_with (first
          | (refine wpList_load_mid rfl _ _ rfl b (o + k * 15) rfl cs _ (unhide HR) Tryz.underlying112 rfl (by rw [unhide hcl]; exact infoICa) ?_)
          | (refine wpList_store_box rfl _ _ rfl wr.heap.size 0 cs (unhide HZ) (by rw [unhide hcl]; exact Nat.le_refl _) rfl rfl (by rw [unhide hcl]; exact infoICa) (unhide hone) ?_
             intro V hV
             have HV : Hid (Box V wr.heap.size 112 cs) := (by
               rw [hV]
               have hp : puts [.int .i64 0, .int .i64 0, .string ⟨#[]⟩, .bool false, .int .i64 0, .int .i64 0, .int .i64 0, .int .i64 0, .string ⟨#[]⟩, .slice none 0 0, .int .i64 0, .int .i64 0, .bool false, .bool false, .bool false] 0 cs = cs := puts_all (by rw [unhide hcl]; rfl)
               have := Box.sets cs 0 _ _ (unhide HZ)
               rw [hp] at this
               exact this)
             have HBV : Hid (Below wr.heap.size wr V) := (by rw [hV]; exact setsG (abG _) (Nat.le_refl _))
             clear hV HZ)
          | (refine wpList_load_box rfl _ rfl wr.heap.size 0 cs (unhide HV) (fun j v hj => (by rw [Nat.zero_add]; exact hj)) rfl Tryz.underlying112 rfl (by rw [unhide hcl]; exact infoICa) ?_))
          refine (unhide HFX _ (unhide HBV)).mono ?_
          rintro e w3 ⟨rfl, hb3⟩
          have HB3 := hide (btG (btG (unhide HBr) (unhide HBV)) hb3)
          clear hb3
          go_wp2_with fail
          go_roundw
          case rel => exact ⟨k + 1, rfl, unhide HB3, by omega, unhide HM (by first | rfl | trivial)⟩
          case measure => simp only [intOf]; omega
        | false =>
          go_wp2_with (first
          | (refine wpList_load_mid rfl _ _ rfl b (o + k * 15) rfl cs _ (unhide HR) Tryz.underlying112 rfl (by rw [unhide hcl]; exact infoICa) ?_)
          | (refine wpList_store_box rfl _ _ rfl wr.heap.size 0 cs (unhide HZ) (by rw [unhide hcl]; exact Nat.le_refl _) rfl rfl (by rw [unhide hcl]; exact infoICa) (unhide hone) ?_
             intro V hV
             have HV : Hid (Box V wr.heap.size 112 cs) := (by
               rw [hV]
               have hp : puts [.int .i64 0, .int .i64 0, .string ⟨#[]⟩, .bool false, .int .i64 0, .int .i64 0, .int .i64 0, .int .i64 0, .string ⟨#[]⟩, .slice none 0 0, .int .i64 0, .int .i64 0, .bool false, .bool false, .bool false] 0 cs = cs := puts_all (by rw [unhide hcl]; rfl)
               have := Box.sets cs 0 _ _ (unhide HZ)
               rw [hp] at this
               exact this)
             have HBV : Hid (Below wr.heap.size wr V) := (by rw [hV]; exact setsG (abG _) (Nat.le_refl _))
             clear hV HZ)
          | (refine wpList_load_box rfl _ rfl wr.heap.size 0 cs (unhide HV) (fun j v hj => (by rw [Nat.zero_add]; exact hj)) rfl Tryz.underlying112 rfl (by rw [unhide hcl]; exact infoICa) ?_))
          refine (unhide HFX _ (unhide HBV)).mono ?_
          rintro e w3 ⟨rfl, hb3⟩
          have HB3 := hide (btG (btG (unhide HBr) (unhide HBV)) hb3)
          clear hb3
          go_wp2_with fail
          go_ret
          exact ⟨retB ((unhide HE).trans (unhide HN (by first | rfl | trivial))), unhide HB3⟩
      · have c2 : ¬ (k : Int) < (len : Int) := by omega
        have HX : Hid (P.all f = true) := List.all_eq_true.2 fun x hx => by
          obtain ⟨j, hj⟩ := List.getElem?_of_mem hx
          exact unhide HA j x (by have := (List.getElem?_eq_some_iff.1 hj).1; have := HL.out; omega) hj
        clear hb
        go_wp2_with fail
        go_ret
        exact ⟨retB ((unhide HE).trans (unhide HX)), unhide HBr⟩

set_option maxRecDepth 100000 in
set_option maxHeartbeats 4000000 in
theorem eachTa (P : List Ta) (a : Option Addr) (cap : Nat) (most : Nat) (f : Ta → Bool) (wc : Array Value) (w : World) (hl : taK.Ls w 0 a P) (hsz : P.length ≤ 1048576) (hms : most ≤ 1000)
    (hf : ∀ x ∈ P, ∀ cs v, Below w.heap.size w v → taK.at_ v 0 x cs → Calls Tryz.prog 97 #[.agg wc, .agg cs.toArray] v fun e v' => e = .returned (.bool (f x)) ∧ Below v.heap.size v v') :
    Calls Tryz.prog 96 #[.slice a P.length cap, .int .i64 (most : Int), .func (.func 97) #[.agg wc] #[]] w fun e w' => e = .returned (.bool (decide (P.length ≤ most) && P.all f)) ∧ Below w.heap.size w w' := by
  have HT := hide hl
  have HF := hide hf
  clear hl hf
  generalize hlen : P.length = len at *
  have HL := hide hlen
  clear hlen
  by_cases hlm : (most : Int) < (len : Int)
  · have HE : Hid ((decide (len ≤ most) && P.all f) = false) := by show _ = _; rw [decide_eq_false (by omega), Bool.false_and]
    generalize (decide (len ≤ most) && P.all f) = r at *
    go_enter Tryz.func96, Tryz.ntmps96
    go_wp2_with fail
    go_ret
    exact ⟨retB (unhide HE), Below.refl _ _⟩
  · have HE : Hid ((decide (len ≤ most) && P.all f) = P.all f) := by show _ = _; rw [decide_eq_true (by omega), Bool.true_and]
    generalize (decide (len ≤ most) && P.all f) = r at *
    go_enter Tryz.func96, Tryz.ntmps96
    go_wp2_with fail
    go_loopw [15] (fun i wr => ∃ k : Nat, i = .int .i64 k ∧ Below w.heap.size w wr ∧ k ≤ len ∧ ∀ j x, j < k → P[j]? = some x → f x = true) (fun i _ => len - (intOf i).toNat)
    case atStart => exact ⟨0, rfl, Below.refl _ _, by omega, fun j x hj => by omega⟩
    case round =>
      obtain ⟨k, rfl, hb, hk, ha⟩ := hrel
      have HBr := hide hb
      have HA := hide ha
      clear ha
      by_cases hp : k < len
      · have hp' : k < P.length := by have := HL.out; omega
        obtain ⟨x, hkx⟩ : ∃ x, P[k]? = some x := ⟨_, List.getElem?_eq_getElem hp'⟩
        obtain ⟨b, o, cs, rfl, -, -, HR0, HT2, hcl0⟩ := ((unhide HT).on hb).get hkx
        have HR := hide (show wr.rangeAt b (o + k * 17) cs from HR0)
        have hcl := hide (show cs.length = 17 from hcl0)
        have hone := hide (taK.one (w := wr) (L := 0) (x := x) HT2)
        have HZ := hide (Box.new wr 117 [.int .i64 0, .int .i64 0, .string ⟨#[]⟩, .int .i64 0, .int .i64 0, .int .i64 0, .int .i64 0, .string ⟨#[]⟩, .slice none 0 0, .int .i64 0, .int .i64 0, .string ⟨#[]⟩, .slice none 0 0, .int .i64 0, .int .i64 0, .bool false, .slice none 0 0])
        have HFX := hide (fun v (hv : Below wr.heap.size wr v) => unhide HF x (List.mem_of_getElem? hkx) cs v (btG hb hv) (taK.on (w := wr) (L := 0) (x := x) HT2 hv))
        have HK := hide hkx
        have q2 : (k : Int) < (len : Int) := by omega
        have q3 : (0 : Int) ≤ (k : Int) := by omega
        have w1 : wrap64 ((k : Int) + 1) = ((k + 1 : Nat) : Int) := by unfold wrap64; omega
        have HM : Hid (f x = true → ∀ j y, j < k + 1 → P[j]? = some y → f y = true) := fun hx j y hj hy => by
          rcases Nat.lt_or_ge j k with q | q
          · exact unhide HA j y q hy
          · obtain rfl : j = k := by omega
            rw [unhide HK] at hy
            cases hy
            exact hx
        have HN : Hid (f x = false → P.all f = false) := fun hx => List.all_eq_false.2 ⟨x, List.mem_of_getElem? (unhide HK), by simp [hx]⟩
        clear hkx HR0 HT2 hcl0 hb
        generalize f x = fx at *
        cases fx with
        | true =>
          go_wp2_with (first
          | (refine wpList_load_mid rfl _ _ rfl b (o + k * 17) rfl cs _ (unhide HR) Tryz.underlying117 rfl (by rw [unhide hcl]; exact infoITa) ?_)
          | (refine wpList_store_box rfl _ _ rfl wr.heap.size 0 cs (unhide HZ) (by rw [unhide hcl]; exact Nat.le_refl _) rfl rfl (by rw [unhide hcl]; exact infoITa) (unhide hone) ?_
             intro V hV
             have HV : Hid (Box V wr.heap.size 117 cs) := (by
               rw [hV]
               have hp : puts [.int .i64 0, .int .i64 0, .string ⟨#[]⟩, .int .i64 0, .int .i64 0, .int .i64 0, .int .i64 0, .string ⟨#[]⟩, .slice none 0 0, .int .i64 0, .int .i64 0, .string ⟨#[]⟩, .slice none 0 0, .int .i64 0, .int .i64 0, .bool false, .slice none 0 0] 0 cs = cs := puts_all (by rw [unhide hcl]; rfl)
               have := Box.sets cs 0 _ _ (unhide HZ)
               rw [hp] at this
               exact this)
             have HBV : Hid (Below wr.heap.size wr V) := (by rw [hV]; exact setsG (abG _) (Nat.le_refl _))
             clear hV HZ)
          | (refine wpList_load_box rfl _ rfl wr.heap.size 0 cs (unhide HV) (fun j v hj => (by rw [Nat.zero_add]; exact hj)) rfl Tryz.underlying117 rfl (by rw [unhide hcl]; exact infoITa) ?_))
          refine (unhide HFX _ (unhide HBV)).mono ?_
          rintro e w3 ⟨rfl, hb3⟩
          have HB3 := hide (btG (btG (unhide HBr) (unhide HBV)) hb3)
          clear hb3
          go_wp2_with fail
          go_roundw
          case rel => exact ⟨k + 1, rfl, unhide HB3, by omega, unhide HM (by first | rfl | trivial)⟩
          case measure => simp only [intOf]; omega
        | false =>
          go_wp2_with (first
          | (refine wpList_load_mid rfl _ _ rfl b (o + k * 17) rfl cs _ (unhide HR) Tryz.underlying117 rfl (by rw [unhide hcl]; exact infoITa) ?_)
          | (refine wpList_store_box rfl _ _ rfl wr.heap.size 0 cs (unhide HZ) (by rw [unhide hcl]; exact Nat.le_refl _) rfl rfl (by rw [unhide hcl]; exact infoITa) (unhide hone) ?_
             intro V hV
             have HV : Hid (Box V wr.heap.size 117 cs) := (by
               rw [hV]
               have hp : puts [.int .i64 0, .int .i64 0, .string ⟨#[]⟩, .int .i64 0, .int .i64 0, .int .i64 0, .int .i64 0, .string ⟨#[]⟩, .slice none 0 0, .int .i64 0, .int .i64 0, .string ⟨#[]⟩, .slice none 0 0, .int .i64 0, .int .i64 0, .bool false, .slice none 0 0] 0 cs = cs := puts_all (by rw [unhide hcl]; rfl)
               have := Box.sets cs 0 _ _ (unhide HZ)
               rw [hp] at this
               exact this)
             have HBV : Hid (Below wr.heap.size wr V) := (by rw [hV]; exact setsG (abG _) (Nat.le_refl _))
             clear hV HZ)
          | (refine wpList_load_box rfl _ rfl wr.heap.size 0 cs (unhide HV) (fun j v hj => (by rw [Nat.zero_add]; exact hj)) rfl Tryz.underlying117 rfl (by rw [unhide hcl]; exact infoITa) ?_))
          refine (unhide HFX _ (unhide HBV)).mono ?_
          rintro e w3 ⟨rfl, hb3⟩
          have HB3 := hide (btG (btG (unhide HBr) (unhide HBV)) hb3)
          clear hb3
          go_wp2_with fail
          go_ret
          exact ⟨retB ((unhide HE).trans (unhide HN (by first | rfl | trivial))), unhide HB3⟩
      · have c2 : ¬ (k : Int) < (len : Int) := by omega
        have HX : Hid (P.all f = true) := List.all_eq_true.2 fun x hx => by
          obtain ⟨j, hj⟩ := List.getElem?_of_mem hx
          exact unhide HA j x (by have := (List.getElem?_eq_some_iff.1 hj).1; have := HL.out; omega) hj
        clear hb
        go_wp2_with fail
        go_ret
        exact ⟨retB ((unhide HE).trans (unhide HX)), unhide HBr⟩

set_option maxRecDepth 100000 in
set_option maxHeartbeats 4000000 in
theorem hoOkI (x : Ho) (cs : List Value) (w : World) (h : hoAt w 0 x cs) (hz : how x ≤ 1048576) :
    Calls Tryz.prog 90 #[.agg cs.toArray] w fun e w' => e = .returned (.bool (hoOk x)) ∧ Below w.heap.size w w' := by
  obtain ⟨name, key, lost⟩ := x
  obtain ⟨rfl, -⟩ := h
  have HC := hide (fun v => hostI name v (by unfold how at hz; simp only at hz; omega))
  have HX := hide (Box.new w 106 [.string name, .int .i64 key, .bool lost])
  show Calls Tryz.prog 90 #[.agg #[.string name, .int .i64 key, .bool lost]] w fun e w' => e = .returned (.bool (hostB name && inB key 0 999)) ∧ Below w.heap.size w w'
  clear hz
  cases hb : hostB name with
  | false =>
    rw [hb] at HC
    clear hb
    go_enter Tryz.func90, Tryz.ntmps90
    go_wp2_with fail
    refine (unhide HC _).mono ?_
    rintro e w2 ⟨rfl, hb2⟩
    have HB2 := hide (btG (abG _) hb2)
    clear hb2
    go_wp2_with fail
    go_ret
    exact ⟨rfl, unhide HB2⟩
  | true =>
    rw [hb] at HC
    clear hb
    rw [Bool.true_and]
    by_cases h1 : 0 ≤ key
    · by_cases h2 : key ≤ 999
      · have HE : Hid (inB key 0 999 = true) := decide_eq_true ⟨h1, h2⟩
        generalize inB key 0 999 = r at *
        go_enter Tryz.func90, Tryz.ntmps90
        go_wp2_with fail
        refine (unhide HC _).mono ?_
        rintro e w2 ⟨rfl, hb2⟩
        have c1 : w2.cell? ⟨w.heap.size, 1, none⟩ = some (.int .i64 key) := ((unhide HX).on hb2).cell rfl
        have HB2 := hide (btG (abG _) hb2)
        clear hb2
        go_wp2_with fail
        go_ret
        exact ⟨retB ((unhide HE).trans (by first | rfl | (simp; done) | (simp; omega))), unhide HB2⟩
      · have HE : Hid (inB key 0 999 = false) := decide_eq_false fun q => h2 q.2
        generalize inB key 0 999 = r at *
        go_enter Tryz.func90, Tryz.ntmps90
        go_wp2_with fail
        refine (unhide HC _).mono ?_
        rintro e w2 ⟨rfl, hb2⟩
        have c1 : w2.cell? ⟨w.heap.size, 1, none⟩ = some (.int .i64 key) := ((unhide HX).on hb2).cell rfl
        have HB2 := hide (btG (abG _) hb2)
        clear hb2
        go_wp2_with fail
        go_ret
        exact ⟨retB ((unhide HE).trans (by first | rfl | (simp; done) | (simp; omega))), unhide HB2⟩
    · have HE : Hid (inB key 0 999 = false) := decide_eq_false fun q => h1 q.1
      generalize inB key 0 999 = r at *
      go_enter Tryz.func90, Tryz.ntmps90
      go_wp2_with fail
      refine (unhide HC _).mono ?_
      rintro e w2 ⟨rfl, hb2⟩
      have c1 : w2.cell? ⟨w.heap.size, 1, none⟩ = some (.int .i64 key) := ((unhide HX).on hb2).cell rfl
      have HB2 := hide (btG (abG _) hb2)
      clear hb2
      go_wp2_with fail
      go_ret
      exact ⟨retB ((unhide HE).trans (by first | rfl | (simp; done) | (simp; omega))), unhide HB2⟩

set_option maxRecDepth 100000 in
set_option maxHeartbeats 4000000 in
theorem thereI (k n : Int) (w : World) : Calls Tryz.prog 136 #[.agg #[.int .i64 k, .int .i64 n]] w fun e w' => e = .returned (.bool (inB k 0 (n - 1))) ∧ Below w.heap.size w w' := by
  by_cases h1 : 0 ≤ k
  · by_cases h2 : k < n
    · have HE : Hid (inB k 0 (n - 1) = true) := decide_eq_true ⟨h1, by omega⟩
      generalize inB k 0 (n - 1) = r at *
      go_enter Tryz.func136, Tryz.ntmps136
      go_wp2_with fail
      go_ret
      exact ⟨retB ((unhide HE).trans (by first | rfl | (simp; done) | (simp; omega))), abG _⟩
    · have HE : Hid (inB k 0 (n - 1) = false) := decide_eq_false fun q => h2 (by have := q.2; omega)
      generalize inB k 0 (n - 1) = r at *
      go_enter Tryz.func136, Tryz.ntmps136
      go_wp2_with fail
      go_ret
      exact ⟨retB ((unhide HE).trans (by first | rfl | (simp; done) | (simp; omega))), abG _⟩
  · have HE : Hid (inB k 0 (n - 1) = false) := decide_eq_false fun q => h1 q.1
    generalize inB k 0 (n - 1) = r at *
    go_enter Tryz.func136, Tryz.ntmps136
    go_wp2_with fail
    go_ret
    exact ⟨retB ((unhide HE).trans (by first | rfl | (simp; done) | (simp; omega))), abG _⟩

set_option maxRecDepth 100000 in
set_option maxHeartbeats 4000000 in
theorem clrI (x : Cl) (cc : List Value) (k q : Int) (w : World) (h : clAt w 0 x cc) (hz : clw x ≤ 1048576) :
    Calls Tryz.prog 120 #[.agg (.int .i64 k :: .int .i64 q :: cc).toArray] w fun e w' => e = .returned (.bool (inB k 0 (q - 1) && clOk x)) ∧ Below w.heap.size w w' := by
  have h0 := h
  obtain ⟨-, op, n, s, a, len, cap, rfl, -⟩ := h
  show Calls Tryz.prog 120 #[.agg #[.int .i64 k, .int .i64 q, .int .i64 x.st, .string x.h, .bool x.mu, .int .i64 x.ep, .int .i64 x.bo, .int .i64 op, .int .i64 n, .string s, .slice a len cap, .int .i64 x.i, .int .i64 x.o, .bool x.tl, .bool x.pr]] w _
  have HT := hide (fun v => thereI k q v)
  have HX := hide (Box.new w 178 [.int .i64 k, .int .i64 q, .int .i64 x.st, .string x.h, .bool x.mu, .int .i64 x.ep, .int .i64 x.bo, .int .i64 op, .int .i64 n, .string s, .slice a len cap, .int .i64 x.i, .int .i64 x.o, .bool x.tl, .bool x.pr])
  have HC := hide (fun v (hv : Below w.heap.size w v) => clOkI x _ v (clK.on (w := w) (L := 0) (x := x) h0 hv) hz)
  clear h0 hz
  generalize clOk x = rr at *
  generalize inB k 0 (q - 1) = bb at *
  cases bb with
  | false =>
    rw [Bool.false_and]
    go_enter Tryz.func120, Tryz.ntmps120
    go_wp2_with fail
    refine (unhide HT _).mono ?_
    rintro e w2 ⟨rfl, hb2⟩
    have HB2 := hide (btG (abG _) hb2)
    clear hb2
    go_wp2_with fail
    go_ret
    exact ⟨rfl, unhide HB2⟩
  | true =>
    rw [Bool.true_and]
    go_enter Tryz.func120, Tryz.ntmps120
    go_wp2_with fail
    refine (unhide HT _).mono ?_
    rintro e w2 ⟨rfl, hb2⟩
    have HX2 := hide ((unhide HX).on hb2)
    have HB2 := hide (btG (abG _) hb2)
    clear hb2
    have c2 : w2.cell? ⟨w.heap.size, 2, none⟩ = some (.int .i64 x.st) := (unhide HX2).cell rfl
    have c3 : w2.cell? ⟨w.heap.size, 3, none⟩ = some (.string x.h) := (unhide HX2).cell rfl
    have c4 : w2.cell? ⟨w.heap.size, 4, none⟩ = some (.bool x.mu) := (unhide HX2).cell rfl
    have c5 : w2.cell? ⟨w.heap.size, 5, none⟩ = some (.int .i64 x.ep) := (unhide HX2).cell rfl
    have c6 : w2.cell? ⟨w.heap.size, 6, none⟩ = some (.int .i64 x.bo) := (unhide HX2).cell rfl
    have c7 : w2.cell? ⟨w.heap.size, 7, none⟩ = some (.int .i64 op) := (unhide HX2).cell rfl
    have c8 : w2.cell? ⟨w.heap.size, 8, none⟩ = some (.int .i64 n) := (unhide HX2).cell rfl
    have c9 : w2.cell? ⟨w.heap.size, 9, none⟩ = some (.string s) := (unhide HX2).cell rfl
    have c10 : w2.cell? ⟨w.heap.size, 10, none⟩ = some (.slice a len cap) := (unhide HX2).cell rfl
    have c11 : w2.cell? ⟨w.heap.size, 11, none⟩ = some (.int .i64 x.i) := (unhide HX2).cell rfl
    have c12 : w2.cell? ⟨w.heap.size, 12, none⟩ = some (.int .i64 x.o) := (unhide HX2).cell rfl
    have c13 : w2.cell? ⟨w.heap.size, 13, none⟩ = some (.bool x.tl) := (unhide HX2).cell rfl
    have c14 : w2.cell? ⟨w.heap.size, 14, none⟩ = some (.bool x.pr) := (unhide HX2).cell rfl
    go_wp2_with fail
    refine (unhide HC _ (unhide HB2)).mono ?_
    rintro e w3 ⟨rfl, hb3⟩
    have HB3 := hide (btG (unhide HB2) hb3)
    clear hb3
    go_wp2_with fail
    go_ret
    exact ⟨rfl, unhide HB3⟩

set_option maxRecDepth 100000 in
set_option maxHeartbeats 4000000 in
theorem tkrI (x : Sv) (cc : List Value) (k q : Int) (w : World) (h : svAt w 0 x cc) (hz : svw x ≤ 1048576) :
    Calls Tryz.prog 121 #[.agg (.int .i64 k :: .int .i64 q :: cc).toArray] w fun e w' => e = .returned (.bool (inB k 0 (q - 1) && svOk x)) ∧ Below w.heap.size w w' := by
  have h0 := h
  obtain ⟨-, -, op, n, s, a, len, cap, oq, m, r, c, lem, cat, g, gc, rfl, -⟩ := h
  show Calls Tryz.prog 121 #[.agg #[.int .i64 k, .int .i64 q, .int .i64 x.st, .string x.h, .int .i64 x.ke, .int .i64 x.ep, .int .i64 op, .int .i64 n, .string s, .slice a len cap, .int .i64 oq, .int .i64 m, .string r, .slice c lem cat, .int .i64 x.i, .int .i64 x.o, .bool x.tl, .slice g x.l.length gc]] w _
  have HT := hide (fun v => thereI k q v)
  have HX := hide (Box.new w 180 [.int .i64 k, .int .i64 q, .int .i64 x.st, .string x.h, .int .i64 x.ke, .int .i64 x.ep, .int .i64 op, .int .i64 n, .string s, .slice a len cap, .int .i64 oq, .int .i64 m, .string r, .slice c lem cat, .int .i64 x.i, .int .i64 x.o, .bool x.tl, .slice g x.l.length gc])
  have HC := hide (fun v (hv : Below w.heap.size w v) => svOkI x _ v (svK.on (w := w) (L := 0) (x := x) h0 hv) hz)
  clear h0 hz
  generalize svOk x = rr at *
  generalize inB k 0 (q - 1) = bb at *
  cases bb with
  | false =>
    rw [Bool.false_and]
    go_enter Tryz.func121, Tryz.ntmps121
    go_wp2_with fail
    refine (unhide HT _).mono ?_
    rintro e w2 ⟨rfl, hb2⟩
    have HB2 := hide (btG (abG _) hb2)
    clear hb2
    go_wp2_with fail
    go_ret
    exact ⟨rfl, unhide HB2⟩
  | true =>
    rw [Bool.true_and]
    go_enter Tryz.func121, Tryz.ntmps121
    go_wp2_with fail
    refine (unhide HT _).mono ?_
    rintro e w2 ⟨rfl, hb2⟩
    have HX2 := hide ((unhide HX).on hb2)
    have HB2 := hide (btG (abG _) hb2)
    clear hb2
    have c2 : w2.cell? ⟨w.heap.size, 2, none⟩ = some (.int .i64 x.st) := (unhide HX2).cell rfl
    have c3 : w2.cell? ⟨w.heap.size, 3, none⟩ = some (.string x.h) := (unhide HX2).cell rfl
    have c4 : w2.cell? ⟨w.heap.size, 4, none⟩ = some (.int .i64 x.ke) := (unhide HX2).cell rfl
    have c5 : w2.cell? ⟨w.heap.size, 5, none⟩ = some (.int .i64 x.ep) := (unhide HX2).cell rfl
    have c6 : w2.cell? ⟨w.heap.size, 6, none⟩ = some (.int .i64 op) := (unhide HX2).cell rfl
    have c7 : w2.cell? ⟨w.heap.size, 7, none⟩ = some (.int .i64 n) := (unhide HX2).cell rfl
    have c8 : w2.cell? ⟨w.heap.size, 8, none⟩ = some (.string s) := (unhide HX2).cell rfl
    have c9 : w2.cell? ⟨w.heap.size, 9, none⟩ = some (.slice a len cap) := (unhide HX2).cell rfl
    have c10 : w2.cell? ⟨w.heap.size, 10, none⟩ = some (.int .i64 oq) := (unhide HX2).cell rfl
    have c11 : w2.cell? ⟨w.heap.size, 11, none⟩ = some (.int .i64 m) := (unhide HX2).cell rfl
    have c12 : w2.cell? ⟨w.heap.size, 12, none⟩ = some (.string r) := (unhide HX2).cell rfl
    have c13 : w2.cell? ⟨w.heap.size, 13, none⟩ = some (.slice c lem cat) := (unhide HX2).cell rfl
    have c14 : w2.cell? ⟨w.heap.size, 14, none⟩ = some (.int .i64 x.i) := (unhide HX2).cell rfl
    have c15 : w2.cell? ⟨w.heap.size, 15, none⟩ = some (.int .i64 x.o) := (unhide HX2).cell rfl
    have c16 : w2.cell? ⟨w.heap.size, 16, none⟩ = some (.bool x.tl) := (unhide HX2).cell rfl
    have c17 : w2.cell? ⟨w.heap.size, 17, none⟩ = some (.slice g x.l.length gc) := (unhide HX2).cell rfl
    go_wp2_with fail
    refine (unhide HC _ (unhide HB2)).mono ?_
    rintro e w3 ⟨rfl, hb3⟩
    have HB3 := hide (btG (unhide HB2) hb3)
    clear hb3
    go_wp2_with fail
    go_ret
    exact ⟨rfl, unhide HB3⟩

set_option maxRecDepth 100000 in
set_option maxHeartbeats 4000000 in
theorem callOkI (X : Wd) (ws0 : List Value) (x : Ca) (cs : List Value) (w : World) (hX : ∃ w0 : World, wdAt w0 0 X ws0) (h : caAt w 0 x cs) (hz : caw x ≤ 1048576) :
    Calls Tryz.prog 95 #[.agg ws0.toArray, .agg cs.toArray] w fun e w' => e = .returned (.bool (caOk X.letters.length x)) ∧ Below w.heap.size w w' := by
  obtain ⟨w0, -, ak0, ck0, ac0, cc0, ah0, ch0, al0, cl0, aa0, ca0, az0, cz0, ai0, ci0, rfl, -⟩ := hX
  obtain ⟨cc, rfl, hc⟩ := h
  have hc0 := hc
  obtain ⟨-, op, n, s, a, len, cap, rfl, -⟩ := hc
  show Calls Tryz.prog 95 #[.agg #[.int .i64 X.time, .int .i64 X.fresh, .slice ak0 X.known.length ck0, .slice ac0 X.cache.length cc0, .slice ah0 X.hosts.length ch0, .slice al0 X.letters.length cl0, .string X.book, .int .i64 X.sure, .slice aa0 X.calls.length ca0, .slice az0 X.talks.length cz0, .slice ai0 X.told.length ci0], .agg #[.int .i64 x.k, .int .i64 x.c.st, .string x.c.h, .bool x.c.mu, .int .i64 x.c.ep, .int .i64 x.c.bo, .int .i64 op, .int .i64 n, .string s, .slice a len cap, .int .i64 x.c.i, .int .i64 x.c.o, .bool x.c.tl, .bool x.c.pr, .bool x.g]] w _
  have hb0 : Below w.heap.size w ((w.alloc (.cells #[.int .i64 X.time, .int .i64 X.fresh, .slice ak0 X.known.length ck0, .slice ac0 X.cache.length cc0, .slice ah0 X.hosts.length ch0, .slice al0 X.letters.length cl0, .string X.book, .int .i64 X.sure, .slice aa0 X.calls.length ca0, .slice az0 X.talks.length cz0, .slice ai0 X.told.length ci0] 40)).alloc (.cells #[.int .i64 x.k, .int .i64 x.c.st, .string x.c.h, .bool x.c.mu, .int .i64 x.c.ep, .int .i64 x.c.bo, .int .i64 op, .int .i64 n, .string s, .slice a len cap, .int .i64 x.c.i, .int .i64 x.c.o, .bool x.c.tl, .bool x.c.pr, .bool x.g] 112)) := btG (abG _) (abG _)
  have HX : Hid (Box ((w.alloc (.cells #[.int .i64 X.time, .int .i64 X.fresh, .slice ak0 X.known.length ck0, .slice ac0 X.cache.length cc0, .slice ah0 X.hosts.length ch0, .slice al0 X.letters.length cl0, .string X.book, .int .i64 X.sure, .slice aa0 X.calls.length ca0, .slice az0 X.talks.length cz0, .slice ai0 X.told.length ci0] 40)).alloc (.cells #[.int .i64 x.k, .int .i64 x.c.st, .string x.c.h, .bool x.c.mu, .int .i64 x.c.ep, .int .i64 x.c.bo, .int .i64 op, .int .i64 n, .string s, .slice a len cap, .int .i64 x.c.i, .int .i64 x.c.o, .bool x.c.tl, .bool x.c.pr, .bool x.g] 112)) (w.heap.size + 1) 112 [.int .i64 x.k, .int .i64 x.c.st, .string x.c.h, .bool x.c.mu, .int .i64 x.c.ep, .int .i64 x.c.bo, .int .i64 op, .int .i64 n, .string s, .slice a len cap, .int .i64 x.c.i, .int .i64 x.c.o, .bool x.c.tl, .bool x.c.pr, .bool x.g]) := by
    have := Box.new (w.alloc (.cells #[.int .i64 X.time, .int .i64 X.fresh, .slice ak0 X.known.length ck0, .slice ac0 X.cache.length cc0, .slice ah0 X.hosts.length ch0, .slice al0 X.letters.length cl0, .string X.book, .int .i64 X.sure, .slice aa0 X.calls.length ca0, .slice az0 X.talks.length cz0, .slice ai0 X.told.length ci0] 40)) 112 [.int .i64 x.k, .int .i64 x.c.st, .string x.c.h, .bool x.c.mu, .int .i64 x.c.ep, .int .i64 x.c.bo, .int .i64 op, .int .i64 n, .string s, .slice a len cap, .int .i64 x.c.i, .int .i64 x.c.o, .bool x.c.tl, .bool x.c.pr, .bool x.g]
    rwa [heap_size_alloc] at this
  have HC : Hid (∀ q : Int, q = (X.letters.length : Int) → Calls Tryz.prog _ #[.agg #[.int .i64 x.k, .int .i64 q, .int .i64 x.c.st, .string x.c.h, .bool x.c.mu, .int .i64 x.c.ep, .int .i64 x.c.bo, .int .i64 op, .int .i64 n, .string s, .slice a len cap, .int .i64 x.c.i, .int .i64 x.c.o, .bool x.c.tl, .bool x.c.pr]] ((w.alloc (.cells #[.int .i64 X.time, .int .i64 X.fresh, .slice ak0 X.known.length ck0, .slice ac0 X.cache.length cc0, .slice ah0 X.hosts.length ch0, .slice al0 X.letters.length cl0, .string X.book, .int .i64 X.sure, .slice aa0 X.calls.length ca0, .slice az0 X.talks.length cz0, .slice ai0 X.told.length ci0] 40)).alloc (.cells #[.int .i64 x.k, .int .i64 x.c.st, .string x.c.h, .bool x.c.mu, .int .i64 x.c.ep, .int .i64 x.c.bo, .int .i64 op, .int .i64 n, .string s, .slice a len cap, .int .i64 x.c.i, .int .i64 x.c.o, .bool x.c.tl, .bool x.c.pr, .bool x.g] 112)) fun e w' => e = .returned (.bool (caOk X.letters.length x)) ∧ Below ((w.alloc (.cells #[.int .i64 X.time, .int .i64 X.fresh, .slice ak0 X.known.length ck0, .slice ac0 X.cache.length cc0, .slice ah0 X.hosts.length ch0, .slice al0 X.letters.length cl0, .string X.book, .int .i64 X.sure, .slice aa0 X.calls.length ca0, .slice az0 X.talks.length cz0, .slice ai0 X.told.length ci0] 40)).alloc (.cells #[.int .i64 x.k, .int .i64 x.c.st, .string x.c.h, .bool x.c.mu, .int .i64 x.c.ep, .int .i64 x.c.bo, .int .i64 op, .int .i64 n, .string s, .slice a len cap, .int .i64 x.c.i, .int .i64 x.c.o, .bool x.c.tl, .bool x.c.pr, .bool x.g] 112)).heap.size ((w.alloc (.cells #[.int .i64 X.time, .int .i64 X.fresh, .slice ak0 X.known.length ck0, .slice ac0 X.cache.length cc0, .slice ah0 X.hosts.length ch0, .slice al0 X.letters.length cl0, .string X.book, .int .i64 X.sure, .slice aa0 X.calls.length ca0, .slice az0 X.talks.length cz0, .slice ai0 X.told.length ci0] 40)).alloc (.cells #[.int .i64 x.k, .int .i64 x.c.st, .string x.c.h, .bool x.c.mu, .int .i64 x.c.ep, .int .i64 x.c.bo, .int .i64 op, .int .i64 n, .string s, .slice a len cap, .int .i64 x.c.i, .int .i64 x.c.o, .bool x.c.tl, .bool x.c.pr, .bool x.g] 112)) w') := fun q hq => by
    subst hq
    exact clrI x.c _ x.k _ _ (clK.on (w := w) (L := 0) (x := x.c) hc0 hb0) hz
  have HB0 := hide hb0
  clear hb0 hc0 hz
  generalize caOk X.letters.length x = r at *
  go_enter Tryz.func95, Tryz.ntmps95
  go_wp2_with fail
  refine (unhide HC _ rfl).mono ?_
  rintro e w2 ⟨rfl, hb2⟩
  have HB2 := hide (btG (unhide HB0) hb2)
  clear hb2
  go_wp2_with fail
  go_ret
  exact ⟨rfl, unhide HB2⟩

set_option maxRecDepth 100000 in
set_option maxHeartbeats 4000000 in
theorem talkOkI (X : Wd) (ws0 : List Value) (x : Ta) (cs : List Value) (w : World) (hX : ∃ w0 : World, wdAt w0 0 X ws0) (h : taAt w 0 x cs) (hz : taw x ≤ 1048576) :
    Calls Tryz.prog 97 #[.agg ws0.toArray, .agg cs.toArray] w fun e w' => e = .returned (.bool (taOk X.hosts.length x)) ∧ Below w.heap.size w w' := by
  obtain ⟨w0, -, ak0, ck0, ac0, cc0, ah0, ch0, al0, cl0, aa0, ca0, az0, cz0, ai0, ci0, rfl, -⟩ := hX
  obtain ⟨cc, rfl, hc⟩ := h
  have hc0 := hc
  obtain ⟨-, -, op, n, s, a, len, cap, oq, m, r, c, lem, cat, g, gc, rfl, -⟩ := hc
  show Calls Tryz.prog 97 #[.agg #[.int .i64 X.time, .int .i64 X.fresh, .slice ak0 X.known.length ck0, .slice ac0 X.cache.length cc0, .slice ah0 X.hosts.length ch0, .slice al0 X.letters.length cl0, .string X.book, .int .i64 X.sure, .slice aa0 X.calls.length ca0, .slice az0 X.talks.length cz0, .slice ai0 X.told.length ci0], .agg #[.int .i64 x.k, .int .i64 x.s.st, .string x.s.h, .int .i64 x.s.ke, .int .i64 x.s.ep, .int .i64 op, .int .i64 n, .string s, .slice a len cap, .int .i64 oq, .int .i64 m, .string r, .slice c lem cat, .int .i64 x.s.i, .int .i64 x.s.o, .bool x.s.tl, .slice g x.s.l.length gc]] w _
  have hb0 : Below w.heap.size w ((w.alloc (.cells #[.int .i64 X.time, .int .i64 X.fresh, .slice ak0 X.known.length ck0, .slice ac0 X.cache.length cc0, .slice ah0 X.hosts.length ch0, .slice al0 X.letters.length cl0, .string X.book, .int .i64 X.sure, .slice aa0 X.calls.length ca0, .slice az0 X.talks.length cz0, .slice ai0 X.told.length ci0] 40)).alloc (.cells #[.int .i64 x.k, .int .i64 x.s.st, .string x.s.h, .int .i64 x.s.ke, .int .i64 x.s.ep, .int .i64 op, .int .i64 n, .string s, .slice a len cap, .int .i64 oq, .int .i64 m, .string r, .slice c lem cat, .int .i64 x.s.i, .int .i64 x.s.o, .bool x.s.tl, .slice g x.s.l.length gc] 117)) := btG (abG _) (abG _)
  have HX : Hid (Box ((w.alloc (.cells #[.int .i64 X.time, .int .i64 X.fresh, .slice ak0 X.known.length ck0, .slice ac0 X.cache.length cc0, .slice ah0 X.hosts.length ch0, .slice al0 X.letters.length cl0, .string X.book, .int .i64 X.sure, .slice aa0 X.calls.length ca0, .slice az0 X.talks.length cz0, .slice ai0 X.told.length ci0] 40)).alloc (.cells #[.int .i64 x.k, .int .i64 x.s.st, .string x.s.h, .int .i64 x.s.ke, .int .i64 x.s.ep, .int .i64 op, .int .i64 n, .string s, .slice a len cap, .int .i64 oq, .int .i64 m, .string r, .slice c lem cat, .int .i64 x.s.i, .int .i64 x.s.o, .bool x.s.tl, .slice g x.s.l.length gc] 117)) (w.heap.size + 1) 117 [.int .i64 x.k, .int .i64 x.s.st, .string x.s.h, .int .i64 x.s.ke, .int .i64 x.s.ep, .int .i64 op, .int .i64 n, .string s, .slice a len cap, .int .i64 oq, .int .i64 m, .string r, .slice c lem cat, .int .i64 x.s.i, .int .i64 x.s.o, .bool x.s.tl, .slice g x.s.l.length gc]) := by
    have := Box.new (w.alloc (.cells #[.int .i64 X.time, .int .i64 X.fresh, .slice ak0 X.known.length ck0, .slice ac0 X.cache.length cc0, .slice ah0 X.hosts.length ch0, .slice al0 X.letters.length cl0, .string X.book, .int .i64 X.sure, .slice aa0 X.calls.length ca0, .slice az0 X.talks.length cz0, .slice ai0 X.told.length ci0] 40)) 117 [.int .i64 x.k, .int .i64 x.s.st, .string x.s.h, .int .i64 x.s.ke, .int .i64 x.s.ep, .int .i64 op, .int .i64 n, .string s, .slice a len cap, .int .i64 oq, .int .i64 m, .string r, .slice c lem cat, .int .i64 x.s.i, .int .i64 x.s.o, .bool x.s.tl, .slice g x.s.l.length gc]
    rwa [heap_size_alloc] at this
  have HC : Hid (∀ q : Int, q = (X.hosts.length : Int) → Calls Tryz.prog _ #[.agg #[.int .i64 x.k, .int .i64 q, .int .i64 x.s.st, .string x.s.h, .int .i64 x.s.ke, .int .i64 x.s.ep, .int .i64 op, .int .i64 n, .string s, .slice a len cap, .int .i64 oq, .int .i64 m, .string r, .slice c lem cat, .int .i64 x.s.i, .int .i64 x.s.o, .bool x.s.tl, .slice g x.s.l.length gc]] ((w.alloc (.cells #[.int .i64 X.time, .int .i64 X.fresh, .slice ak0 X.known.length ck0, .slice ac0 X.cache.length cc0, .slice ah0 X.hosts.length ch0, .slice al0 X.letters.length cl0, .string X.book, .int .i64 X.sure, .slice aa0 X.calls.length ca0, .slice az0 X.talks.length cz0, .slice ai0 X.told.length ci0] 40)).alloc (.cells #[.int .i64 x.k, .int .i64 x.s.st, .string x.s.h, .int .i64 x.s.ke, .int .i64 x.s.ep, .int .i64 op, .int .i64 n, .string s, .slice a len cap, .int .i64 oq, .int .i64 m, .string r, .slice c lem cat, .int .i64 x.s.i, .int .i64 x.s.o, .bool x.s.tl, .slice g x.s.l.length gc] 117)) fun e w' => e = .returned (.bool (taOk X.hosts.length x)) ∧ Below ((w.alloc (.cells #[.int .i64 X.time, .int .i64 X.fresh, .slice ak0 X.known.length ck0, .slice ac0 X.cache.length cc0, .slice ah0 X.hosts.length ch0, .slice al0 X.letters.length cl0, .string X.book, .int .i64 X.sure, .slice aa0 X.calls.length ca0, .slice az0 X.talks.length cz0, .slice ai0 X.told.length ci0] 40)).alloc (.cells #[.int .i64 x.k, .int .i64 x.s.st, .string x.s.h, .int .i64 x.s.ke, .int .i64 x.s.ep, .int .i64 op, .int .i64 n, .string s, .slice a len cap, .int .i64 oq, .int .i64 m, .string r, .slice c lem cat, .int .i64 x.s.i, .int .i64 x.s.o, .bool x.s.tl, .slice g x.s.l.length gc] 117)).heap.size ((w.alloc (.cells #[.int .i64 X.time, .int .i64 X.fresh, .slice ak0 X.known.length ck0, .slice ac0 X.cache.length cc0, .slice ah0 X.hosts.length ch0, .slice al0 X.letters.length cl0, .string X.book, .int .i64 X.sure, .slice aa0 X.calls.length ca0, .slice az0 X.talks.length cz0, .slice ai0 X.told.length ci0] 40)).alloc (.cells #[.int .i64 x.k, .int .i64 x.s.st, .string x.s.h, .int .i64 x.s.ke, .int .i64 x.s.ep, .int .i64 op, .int .i64 n, .string s, .slice a len cap, .int .i64 oq, .int .i64 m, .string r, .slice c lem cat, .int .i64 x.s.i, .int .i64 x.s.o, .bool x.s.tl, .slice g x.s.l.length gc] 117)) w') := fun q hq => by
    subst hq
    exact tkrI x.s _ x.k _ _ (svK.on (w := w) (L := 0) (x := x.s) hc0 hb0) hz
  have HB0 := hide hb0
  clear hb0 hc0 hz
  generalize taOk X.hosts.length x = r at *
  go_enter Tryz.func97, Tryz.ntmps97
  go_wp2_with fail
  refine (unhide HC _ rfl).mono ?_
  rintro e w2 ⟨rfl, hb2⟩
  have HB2 := hide (btG (unhide HB0) hb2)
  clear hb2
  go_wp2_with fail
  go_ret
  exact ⟨rfl, unhide HB2⟩

open Classical in
set_option maxRecDepth 100000 in
set_option maxHeartbeats 4000000 in
theorem namedI (P : List Ho) (a : Option Addr) (cap : Nat) (w : World) (hl : hoK.Ls w 0 a P) (hsz : P.length ≤ 1048576) :
    Calls Tryz.prog 91 #[.slice a P.length cap] w fun e w' => e = .returned (.bool (onceB P)) ∧ Below w.heap.size w w' := by
  have HT := hide hl
  have HC := hide (fun n v hv => hostNamedI P a cap n v hv (by omega))
  clear hl
  generalize hlen : P.length = len at *
  have HL := hide hlen
  clear hlen
  have HE : Hid ((onceP P len → onceB P = true) ∧ (¬ onceP P len → onceB P = false)) := by have := unhide HL; subst this; exact ⟨fun h => decide_eq_true h, fun h => decide_eq_false h⟩
  generalize onceB P = r at *
  go_enter Tryz.func91, Tryz.ntmps91
  go_wp2_with fail
  go_loopw [7] (fun i wr => ∃ k : Nat, i = .int .i64 k ∧ Below w.heap.size w wr ∧ k ≤ len ∧ onceP P k) (fun i _ => len - (intOf i).toNat)
  case atStart => exact ⟨0, rfl, Below.refl _ _, by omega, fun i x hi => by omega⟩
  case round =>
    obtain ⟨k, rfl, hb, hk, ha⟩ := hrel
    have HBr := hide hb
    have HA := hide ha
    clear ha
    by_cases hp : k < len
    · have hp' : k < P.length := by have := HL.out; omega
      obtain ⟨x, hkx⟩ : ∃ x, P[k]? = some x := ⟨_, List.getElem?_eq_getElem hp'⟩
      obtain ⟨b, o, cs, rfl, -, -, HR0, HT2, -⟩ := ((unhide HT).on hb).get hkx
      obtain ⟨rfl, -⟩ := HT2
      obtain ⟨nm, key, lost⟩ := x
      have c0 : wr.cell? ⟨b, o + k * 3, none⟩ = some (.string nm) := HR0 0 _ rfl
      have c1 : wr.cell? ⟨b, o + k * 3 + 1, none⟩ = some (.int .i64 key) := HR0 1 _ rfl
      have c2 : wr.cell? ⟨b, o + k * 3 + 2, none⟩ = some (.bool lost) := HR0 2 _ rfl
      have hbz := abG (w := wr) (.cells #[.string nm, .int .i64 key, .bool lost] 106)
      have HCX := hide (unhide HC nm _ ((unhide HT).on (btG hb hbz)))
      have HBz := hide (btG hb hbz)
      have HF := hide (hnm_first hkx)
      have q2 : (k : Int) < (len : Int) := by omega
      have q3 : (0 : Int) ≤ (k : Int) := by omega
      have w1 : wrap64 ((k : Int) + 1) = ((k + 1 : Nat) : Int) := by unfold wrap64; omega
      have HK := hide hkx
      clear hkx HR0 hb hbz
      by_cases hx : hnm nm P 0 = (k : Int)
      · have HM : Hid (onceP P (k + 1)) := fun i y hi hy => by
          rcases Nat.lt_or_ge i k with q | q
          · exact unhide HA i y q hy
          · obtain rfl : i = k := by omega
            rw [unhide HK] at hy
            cases hy
            exact (unhide HF).2 hx
        rw [hx] at HCX
        clear hx
        go_wp2_with fail
        refine (unhide HCX).mono ?_
        rintro e w2 ⟨rfl, hb2⟩
        have HB2 := hide (btG (unhide HBz) hb2)
        clear hb2
        go_wp2_with fail
        go_roundw
        case rel => exact ⟨k + 1, rfl, unhide HB2, by omega, unhide HM⟩
        case measure => simp only [intOf]; omega
      · have HM : Hid (r = false) := (unhide HE).2 fun hq => hx ((unhide HF).1 (hq k _ (by omega) (unhide HK)))
        generalize hnm nm P 0 = v at *
        go_wp2_with fail
        refine (unhide HCX).mono ?_
        rintro e w2 ⟨rfl, hb2⟩
        have HB2 := hide (btG (unhide HBz) hb2)
        clear hb2
        go_wp2_with fail
        go_ret
        exact ⟨retB (unhide HM), unhide HB2⟩
    · have c2 : ¬ (k : Int) < (len : Int) := by omega
      have HM : Hid (r = true) := (unhide HE).1 (by have : k = len := by omega
                                                    rw [← this]; exact unhide HA)
      clear hb
      go_wp2_with fail
      go_ret
      exact ⟨retB (unhide HM), unhide HBr⟩

open Classical in
set_option maxRecDepth 100000 in
set_option maxHeartbeats 4000000 in
theorem toldI (l : List Int) (a : Option Addr) (cap : Nat) (w : World) (hl : Ints w 0 a l) (hsz : l.length ≤ 1048576) :
    Calls Tryz.prog 98 #[.slice a l.length cap] w fun e w' => e = .returned (.bool (toldB l)) ∧ Below w.heap.size w w' := by
  have HT := hide hl
  have HC := hide (fun n v => atomI n v)
  clear hl
  generalize hlen : l.length = len at *
  have HL := hide hlen
  clear hlen
  have HE : Hid ((toldP l len → toldB l = true) ∧ (¬ toldP l len → toldB l = false)) := by have := unhide HL; subst this; exact ⟨fun h => decide_eq_true h, fun h => decide_eq_false h⟩
  generalize toldB l = r at *
  go_enter Tryz.func98, Tryz.ntmps98
  go_wp2_with fail
  go_loopw [7] (fun i wr => ∃ k : Nat, i = .int .i64 k ∧ wr = w ∧ k ≤ len ∧ toldP l k) (fun i _ => len - (intOf i).toNat)
  case atStart => exact ⟨0, rfl, rfl, by omega, fun i x hi => by omega⟩
  case round =>
    obtain ⟨k, rfl, rfl, hk, ha⟩ := hrel
    have HA := hide ha
    clear ha
    by_cases hp : k < len
    · have hp' : k < l.length := by have := HL.out; omega
      obtain ⟨x, hkx⟩ : ∃ x, l[k]? = some x := ⟨_, List.getElem?_eq_getElem hp'⟩
      obtain ⟨b, o, rfl, -, c0⟩ := unhide HT k x hkx
      have q2 : (k : Int) < (len : Int) := by omega
      have q3 : (0 : Int) ≤ (k : Int) := by omega
      have w1 : wrap64 ((k : Int) + 1) = ((k + 1 : Nat) : Int) := by unfold wrap64; omega
      have HCX := hide (unhide HC x wr)
      have HK := hide hkx
      clear hkx
      cases hx : inB x 0 1000000 with
      | false =>
        have HM : Hid (r = false) := (unhide HE).2 fun hq => by have := (hq k x (by omega) (unhide HK)).1; rw [hx] at this; cases this
        rw [hx] at HCX
        clear hx
        go_wp2_with fail
        refine (unhide HCX).mono ?_
        rintro e w2 ⟨rfl, rfl⟩
        go_wp2_with fail
        go_ret
        exact ⟨retB (unhide HM), Below.refl _ _⟩
      | true =>
        have HX := hide hx
        rw [hx] at HCX
        clear hx
        by_cases hk0 : k = 0
        · subst hk0
          have HM : Hid (toldP l 1) := fun j y hj hy => by
            obtain rfl : j = 0 := by omega
            rw [unhide HK] at hy
            cases hy
            exact ⟨unhide HX, fun z hz hq => absurd rfl hq⟩
          have c0' : wr.cell? ⟨b, o, none⟩ = some (.int .i64 x) := c0
          clear c0
          go_wp2_with fail
          refine (unhide HCX).mono ?_
          rintro e w2 ⟨rfl, rfl⟩
          go_wp2_with fail
          go_roundw
          case rel => exact ⟨1, by first | rfl | simp, by first | rfl | trivial, by omega, unhide HM⟩
          case measure => simp only [intOf]; simp at hp ⊢; omega
        · obtain ⟨j, hj⟩ : ∃ j, k = j + 1 := ⟨k - 1, by omega⟩
          obtain ⟨y, hjy⟩ : ∃ y, l[j]? = some y := ⟨_, List.getElem?_eq_getElem (by omega)⟩
          obtain ⟨b', o', hbo, -, c1⟩ := unhide HT j y hjy
          cases hbo
          have c1' : wr.cell? ⟨b, o + (k - 1), none⟩ = some (.int .i64 y) := by rw [show k - 1 = j by omega]; exact c1
          have w0 : wrap64 ((k : Int) - 1) = (k : Int) - 1 := by unfold wrap64; omega
          have q4 : (0 : Int) < (k : Int) := by omega
          have q8 : (0 : Int) ≤ (k : Int) - 1 := by omega
          have q9 : (k : Int) - 1 < (len : Int) := by omega
          clear c1
          have q5 : (0 : Int) ≤ (j : Int) := by omega
          have q6 : (j : Int) < (len : Int) := by omega
          have HJ := hide hjy
          have HKJ := hide hj
          have q7 := hide hp
          clear hjy hj hk0
          by_cases hyx : y < x
          · have HM : Hid (toldP l (k + 1)) := fun i z hi hz => by
              rcases Nat.lt_or_ge i k with q | q
              · exact unhide HA i z q hz
              · obtain rfl : i = k := by omega
                rw [unhide HK] at hz
                cases hz
                refine ⟨unhide HX, fun u hu _ => ?_⟩
                rw [show i - 1 = j from by have := unhide HKJ; omega, unhide HJ] at hu
                cases hu
                exact hyx
            have hyx' : ¬ x ≤ y := by omega
            go_wp2_with fail
            refine (unhide HCX).mono ?_
            rintro e w2 ⟨rfl, rfl⟩
            go_wp2_with fail
            go_roundw
            case rel => exact ⟨k + 1, rfl, by first | rfl | trivial, by have := unhide q7; omega, unhide HM⟩
            case measure => have := unhide q7; simp only [intOf]; omega
          · have HM : Hid (r = false) := (unhide HE).2 fun hq => hyx (by
              have := (hq k x (unhide q7) (unhide HK)).2 y (by rw [show k - 1 = j from by have := unhide HKJ; omega]; exact unhide HJ) (by have := unhide HKJ; omega)
              exact this)
            have hyx' : x ≤ y := by omega
            go_wp2_with fail
            refine (unhide HCX).mono ?_
            rintro e w2 ⟨rfl, rfl⟩
            go_wp2_with fail
            go_ret
            exact ⟨retB (unhide HM), Below.refl _ _⟩
    · have c2 : ¬ (k : Int) < (len : Int) := by omega
      have HM : Hid (r = true) := (unhide HE).1 (by have : k = len := by omega
                                                    rw [← this]; exact unhide HA)
      go_wp2_with fail
      go_ret
      exact ⟨retB (unhide HM), Below.refl _ _⟩

end Go.Proofs.YtbbidjckplpaiaaGreatDoor
