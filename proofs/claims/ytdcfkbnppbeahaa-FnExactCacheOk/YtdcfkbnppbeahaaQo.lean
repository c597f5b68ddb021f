/- Texts in blocks of their own, marks of texts; the walks of impl's each over texts, impl.ownPolicy and spec.l7Copy: the policy with its texts in memory of its own. -/
import Derived.Test.YtdcfkbnppbeahaaQl
import Derived.Test.YtdcfkbnppbeahaaMx
namespace Go.Proofs.Ytdcfkbnppbeahaa
open Go.RowKit Go.Deep

/-- Nothing is written but blocks of S. -/
structure Chg (S : Nat → Prop) (w w' : World) : Prop where
  os : w'.os = w.os
  tape : w'.tape = w.tape
  output : w'.output = w.output
  size : w.heap.size ≤ w'.heap.size
  block : ∀ k, k < w.heap.size → ¬ S k → w'.heap[k]? = w.heap[k]?
theorem Chg.refl (S : Nat → Prop) (w : World) : Chg S w w := ⟨rfl, rfl, rfl, Nat.le_refl _, fun _ _ _ => rfl⟩
theorem Chg.trans {S : Nat → Prop} {a b c : World} (h : Chg S a b) (k : Chg S b c) : Chg S a c :=
  ⟨k.os.trans h.os, k.tape.trans h.tape, k.output.trans h.output, Nat.le_trans h.size k.size, fun i hi hf => (k.block i (Nat.lt_of_lt_of_le hi h.size) hf).trans (h.block i hi hf)⟩
theorem Chg.mono {S S' : Nat → Prop} {a b : World} (h : Chg S a b) (hs : ∀ x, S x → S' x) : Chg S' a b := ⟨h.os, h.tape, h.output, h.size, fun k hk hf => h.block k hk fun hx => hf (hs k hx)⟩
theorem Chg.of_below {S : Nat → Prop} {a b : World} (h : Below a.heap.size a b) : Chg S a b := ⟨h.os, h.tape, h.output, h.size, fun k hk _ => h.block k hk⟩
theorem Chg.below {S : Nat → Prop} {a b : World} {B : Nat} (h : Chg S a b) (hB : B ≤ a.heap.size) (hf : ∀ x, S x → B ≤ x) : Below B a b :=
  ⟨h.os, h.tape, h.output, h.size, fun k hk => h.block k (by omega) fun hx => absurd (hf k hx) (by omega)⟩
theorem Chg.set {S : Nat → Prop} {a b : World} (h : Chg S a b) {p : Addr} (hp : S p.block) (u : Value) : Chg S a (b.setCell p u) :=
  ⟨h.os, h.tape, h.output, by simpa using h.size, fun k hk hf => by rw [Below.heap_setCell b p u k (fun e => hf (by rw [e]; exact hp))]; exact h.block k hk hf⟩
theorem Chg.on {S : Nat → Prop} {a b c : World} (h : Chg S a b) (hb : Below b.heap.size b c) : Chg S a c := h.trans (Chg.of_below hb)

/-- Texts in a block of their own. -/
def TxOwn (w : World) (x : Option Addr) (l : List ByteArray) (f : Option Nat) : Prop :=
  l = [] ∨ ∃ (b : Nat) (C : Array Value), x = some ⟨b, 0, none⟩ ∧ f = some b ∧ w.heap[b]? = some (.cells C 9 (0, 0)) ∧ l.length ≤ C.size ∧ ∀ (j : Nat) (t : ByteArray), l[j]? = some t → C[j]? = some (Value.string t)
theorem TxOwn.keep {w w' : World} {x : Option Addr} {l : List ByteArray} {f : Option Nat} (h : TxOwn w x l f) (hf : ∀ b, f = some b → w'.heap[b]? = w.heap[b]?) : TxOwn w' x l f := by
  rcases h with h | ⟨b, C, h1, h2, h3, h4⟩
  · exact Or.inl h
  · exact Or.inr ⟨b, C, h1, h2, by rw [hf b h2, h3], h4⟩
theorem TxOwn.on {w w' : World} {x : Option Addr} {l : List ByteArray} {f : Option Nat} (h : TxOwn w x l f) (hb : Below w.heap.size w w') : TxOwn w' x l f := by
  rcases h with h | ⟨b, C, h1, h2, h3, h4⟩
  · exact Or.inl h
  · exact Or.inr ⟨b, C, h1, h2, by rw [hb.block b (Array.getElem?_eq_some_iff.1 h3).1, h3], h4⟩
theorem TxOwn.chg {w w' : World} {x : Option Addr} {l : List ByteArray} {f : Option Nat} {S : Nat → Prop} (h : TxOwn w x l f) (hc : Chg S w w') (hf : ∀ b, f = some b → ¬ S b) : TxOwn w' x l f := by
  rcases h with h | ⟨b, C, h1, h2, h3, h4⟩
  · exact Or.inl h
  · exact Or.inr ⟨b, C, h1, h2, by rw [hc.block b (Array.getElem?_eq_some_iff.1 h3).1 (hf b h2), h3], h4⟩
theorem TxOwn.txt {w : World} {x : Option Addr} {l : List ByteArray} {f : Option Nat} (h : TxOwn w x l f) : Txt w 0 x l := fun k t hk => by
  rcases h with rfl | ⟨b, C, h1, h2, h3, h4, h5⟩
  · simp at hk
  · have hc := h5 k t hk
    have hks : k < C.size := (Array.getElem?_eq_some_iff.1 hc).1
    refine ⟨b, 0, h1, Nat.zero_le _, ?_⟩
    rw [Nat.zero_add, cell_of_row h3 hks, ← Array.getElem?_eq_getElem hks, hc]
theorem Txs.own {w wr : World} {l : List ByteArray} {v : Value} (h : Txs w l v wr) : ∃ x c f, v = .slice x l.length c ∧ TxOwn wr x l f ∧ ∀ b, f = some b → w.heap.size ≤ b ∧ b < wr.heap.size := by
  rcases h.2 with ⟨h1, h2⟩ | ⟨g, cap, cur, h1, h2, h3, h4, h5, h6, h7⟩
  · exact ⟨none, 0, none, by rw [h1, h2], Or.inl (List.length_eq_zero_iff.1 h2), fun b hb => by cases hb⟩
  · refine ⟨some ⟨g, 0, none⟩, cap, some g, h1, Or.inr ⟨g, cur, rfl, rfl, h3, by omega, fun k t hk => ?_⟩, fun b hb => ?_⟩
    · have hk' : k < l.length := (List.getElem?_eq_some_iff.1 hk).1
      have e : (cur.toList.take (l.length * 1))[k]? = some (.string t) := by rw [h7]; simp [hk]
      rwa [List.getElem?_take, if_pos (by omega), Array.getElem?_toList] at e
    · simp only [Option.some.injEq] at hb
      subst hb
      exact ⟨h2, (Array.getElem?_eq_some_iff.1 h3).1⟩

/-- The marks from k on. -/
def markTx (n k : Nat) : List ByteArray := (List.range n).map fun j => mtx (k + j)
theorem markTx_length (n k : Nat) : (markTx n k).length = n := by simp [markTx]
theorem markTx_get {n k j : Nat} (h : j < n) : (markTx n k)[j]? = some (mtx (k + j)) := by simp [markTx, h]
theorem markTx_of {n k j : Nat} {t : ByteArray} (h : (markTx n k)[j]? = some t) : t = mtx (k + j) := by
  have hj : j < n := by have := (List.getElem?_eq_some_iff.1 h).1; rwa [markTx_length] at this
  rw [markTx_get hj] at h
  exact (Option.some.inj h).symm

/-- A row of texts of its own, marked from k on up to a place. -/
def MkdK (w : World) (g L k i : Nat) : Prop := ∃ cur : Array Value, w.heap[g]? = some (.cells cur 9 (0, 0)) ∧ L ≤ cur.size ∧ ∀ j, j < i → cur[j]? = some (.string (mtx (k + j)))
theorem MkdK.on {w w' : World} {g L k i : Nat} (h : MkdK w g L k i) (hb : Below w.heap.size w w') : MkdK w' g L k i := by
  obtain ⟨cur, h1, h2, h3⟩ := h
  exact ⟨cur, by rw [hb.block g (Array.getElem?_eq_some_iff.1 h1).1, h1], h2, h3⟩
theorem MkdK.next {w : World} {g L k i : Nat} (h : MkdK w g L k i) (hi : i < L) : MkdK (w.setCell ⟨g, i, none⟩ (.string (mtx (k + i)))) g L k (i + 1) := by
  obtain ⟨cur, h1, h2, h3⟩ := h
  have e := heap_setCell_same w g i cur 9 (.string (mtx (k + i))) h1
  refine ⟨_, e, by simpa using h2, fun j hj => ?_⟩
  rcases Nat.lt_or_ge j i with hl | hl
  · rw [Array.getElem?_setIfInBounds_ne (by omega)]
    exact h3 j hl
  · obtain rfl : j = i := by omega
    rw [Array.getElem?_setIfInBounds_self_of_lt (by omega)]
theorem MkdK.has {w : World} {g L k i j : Nat} (h : MkdK w g L k i) (hj : j < L) : ∃ v, w.cell? ⟨g, j, none⟩ = some v := by
  obtain ⟨cur, h1, h2, h3⟩ := h
  exact ⟨_, cell_of_row h1 (show j < cur.size by omega)⟩
theorem MkdK.free {w : World} {g L k i j : Nat} (h : MkdK w g L k i) : w.frozen? ⟨g, j, none⟩ = false := by
  obtain ⟨cur, h1, h2, h3⟩ := h
  simp [World.frozen?, h1]
theorem MkdK.own {w : World} {g L k : Nat} (h : MkdK w g L k L) : TxOwn w (some ⟨g, 0, none⟩) (markTx L k) (some g) := by
  obtain ⟨cur, h1, h2, h3⟩ := h
  refine Or.inr ⟨g, cur, rfl, rfl, h1, by rw [markTx_length]; exact h2, fun j t hj => ?_⟩
  have hjL : j < L := by have := (List.getElem?_eq_some_iff.1 hj).1; rwa [markTx_length] at this
  rw [markTx_of hj]
  exact h3 j hjL

set_option maxRecDepth 100000 in
set_option maxHeartbeats 1000000 in
theorem markTe (x : Option Addr) (c k : Nat) (w : World) :
    Calls Try.prog 39 #[.slice x 0 c, .int .i64 (k : Int)] w fun e w' => e = .returned (.int .i64 (k : Int)) ∧ w' = w := by
  go_enter Try.func39, Try.ntmps39
  go_wp2_with fail
  go_loopw [1, 5] (fun m n wr => m = .int .i64 (k : Int) ∧ n = .int .i64 0 ∧ wr = w) (fun _ _ _ => 0)
  case atStart => exact ⟨rfl, rfl, rfl⟩
  case round =>
    obtain ⟨rfl, rfl, rfl⟩ := hrel
    go_wp2_with fail
    go_ret
    exact ⟨rfl, rfl⟩

set_option maxRecDepth 100000 in
set_option maxHeartbeats 1000000 in
theorem markTg (L : Nat) (g c k : Nat) (w : World) (h0 : 1 ≤ k) (hl : k + L ≤ 1099511627776) (h : MkdK w g L k 0) :
    Calls Try.prog 39 #[.slice (some ⟨g, 0, none⟩) L c, .int .i64 (k : Int)] w fun e w' => e = .returned (.int .i64 ((k + L : Nat) : Int)) ∧ Chg (fun y => g = y) w w' ∧ MkdK w' g L k L := by
  have H := hide h
  clear h
  go_enter Try.func39, Try.ntmps39
  go_wp2_with fail
  go_loopw [1, 5] (fun m n wr => ∃ i : Nat, m = .int .i64 ((k + i : Nat) : Int) ∧ n = .int .i64 (i : Int) ∧ Chg (fun y => g = y) w wr ∧ MkdK wr g L k i ∧ i ≤ L) (fun _ n _ => L - (intOf n).toNat)
  case atStart => exact ⟨0, rfl, rfl, Chg.refl _ _, unhide H, by omega⟩
  case round =>
    obtain ⟨i, rfl, rfl, hb, hm, hk⟩ := hrel
    have HB := hide hb
    have HM := hide hm
    by_cases hp : i < L
    · have c2 : (i : Int) < (L : Int) := by omega
      have c3 : (0 : Int) ≤ (i : Int) := by omega
      have w1 : wrap64 ((i : Int) + 1) = ((i + 1 : Nat) : Int) := by unfold wrap64; omega
      have w2 : wrap64 (((k + i : Nat) : Int) + 1) = ((k + (i + 1) : Nat) : Int) := by unfold wrap64; omega
      have hc := hide (fun v => mark29 (k + i) v (by omega) (by omega))
      clear hb hm
      go_wp2_with fail
      refine (unhide hc _).mono ?_
      rintro e w2 ⟨rfl, hb2⟩
      have HM2 := hide ((unhide HM).on hb2)
      have HB2 := hide ((unhide HB).on hb2)
      obtain ⟨v0, c0⟩ := (unhide HM2).has hp
      have c1 := (unhide HM2).free (j := i)
      clear hb2
      go_wp2_with fail
      go_roundw
      case rel => exact ⟨i + 1, rfl, rfl, (unhide HB2).set rfl _, (unhide HM2).next hp, by omega⟩
      case measure => simp only [intOf]; omega
    · have c2 : ¬ (i : Int) < (L : Int) := by omega
      have hkL : i = L := by omega
      subst hkL
      clear hb hm
      go_wp2_with fail
      go_ret
      exact ⟨rfl, unhide HB, unhide HM⟩

/-- Marks of texts in a block of their own. -/
theorem markT (l : List ByteArray) (x : Option Addr) (c k : Nat) (f : Option Nat) (w : World) (h0 : 1 ≤ k) (hl : k + l.length ≤ 1099511627776) (h : TxOwn w x l f) :
    Calls Try.prog 39 #[.slice x l.length c, .int .i64 (k : Int)] w fun e w' => e = .returned (.int .i64 ((k + l.length : Nat) : Int)) ∧ TxOwn w' x (markTx l.length k) f ∧ Chg (fun y => f = some y) w w' := by
  rcases h with rfl | ⟨b, C, rfl, rfl, h3, h4, -⟩
  · refine (markTe x c k w).mono ?_
    rintro e w' ⟨rfl, rfl⟩
    exact ⟨rfl, Or.inl rfl, Chg.refl _ _⟩
  · refine (markTg l.length b c k w h0 hl ⟨C, h3, h4, fun j hj => absurd hj (Nat.not_lt_zero _)⟩).mono ?_
    rintro e w' ⟨rfl, hc, hm⟩
    exact ⟨rfl, hm.own, hc.mono fun y hy => by rw [hy]⟩

set_option maxRecDepth 100000 in
set_option maxHeartbeats 1000000 in
theorem heldT (L : Nat) (x : Option Addr) (c k : Nat) (w : World) (h0 : 1 ≤ k) (hl : k + L ≤ 1099511627776) (h : Txt w 0 x (markTx L k)) :
    Calls Try.prog 40 #[.slice x L c, .int .i64 (k : Int)] w fun e w' => e = .returned (.int .i64 ((k + L : Nat) : Int)) ∧ Below w.heap.size w w' := by
  have H := hide h
  clear h
  go_enter Try.func40, Try.ntmps40
  go_wp2_with fail
  go_loopw [1, 5] (fun m n wr => ∃ i : Nat, m = .int .i64 ((k + i : Nat) : Int) ∧ n = .int .i64 (i : Int) ∧ Below w.heap.size w wr ∧ i ≤ L) (fun _ n _ => L - (intOf n).toNat)
  case atStart => exact ⟨0, rfl, rfl, Below.refl _ _, by omega⟩
  case round =>
    obtain ⟨i, rfl, rfl, hb, hk⟩ := hrel
    have HB := hide hb
    by_cases hp : i < L
    · have c2 : (i : Int) < (L : Int) := by omega
      have c3 : (0 : Int) ≤ (i : Int) := by omega
      have w1 : wrap64 ((i : Int) + 1) = ((i + 1 : Nat) : Int) := by unfold wrap64; omega
      have w2 : wrap64 (((k + i : Nat) : Int) + 1) = ((k + (i + 1) : Nat) : Int) := by unfold wrap64; omega
      have hc := hide (fun v => mark29 (k + i) v (by omega) (by omega))
      obtain ⟨g, o, rfl, -, c0⟩ := ((unhide H).on hb) i _ (markTx_get hp)
      clear hb
      generalize mtx (k + i) = M at *
      go_wp2_with fail
      go_region_held3 (fun y => y.cell? ⟨g, o + i, none⟩ = some (.string M)) (go_keep) ((go_at_call 38; refine (unhide hc _).mono ?_; rintro e w3 ⟨rfl, hb3⟩; have k0 := below_some (below_drewX hb3) c0; have HB3 := hide ((unhide HB).trans ((below_drewX hb3).mono (unhide HB).size)); clear hb3))
      all_goals go_wp2_with fail
      all_goals go_roundw
      case rel => exact ⟨i + 1, rfl, rfl, unhide HB3, by omega⟩
      case measure => simp only [intOf]; omega
    · have c2 : ¬ (i : Int) < (L : Int) := by omega
      have hkL : i = L := by omega
      subst hkL
      clear hb
      go_wp2_with fail
      go_ret
      exact ⟨rfl, unhide HB⟩

end Go.Proofs.Ytdcfkbnppbeahaa
