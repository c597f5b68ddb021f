
/- The walk of laws.markText: the text of a mark; nothing that was there is written. The marks that the laws write into a term: three for each term, from k on. The walks of laws.heldTermS and laws.heldTerm: where the marks from k on stand in a term's kids, they answer the mark behind the last; nothing that was there is written. The walks at a term with no kids: impl.copyTerm, laws.markTerm, laws.heldTerm; nothing that was there is written. The walks of laws.markTermS and laws.markTerm: in a term whose kids lie in blocks of their own they write the marks from k on, and answer the mark behind the last; no other block that was there is written. The walk of laws.FnExactHash: whatever term lies in memory it answers true; nothing that was there is written. -/
import Derived.Test.YtafoonabmijcdaaGreatDoorTx
import Derived.Test.YtafoonabmijcdaaGreatDoorEq
import Derived.Test.YtafoonabmijcdaaGreatDoorStk
import Derived.Lib.ItoaLen
import Derived.Lib.AppendIntMem
import Derived.Test.YtafoonabmijcdaaGreatDoorOw
import Derived.Test.YtafoonabmijcdaaGreatDoorCy
import Derived.Deep.RegionHeld3
import Derived.Test.YtafoonabmijcdaaGreatDoorOx
import Derived.Test.YtafoonabmijcdaaGreatDoorHs
namespace Go.Proofs.YtafoonabmijcdaaGreatDoor
open Go.RowKit Go.Deep

/-- The text of the mark u, of one above 0. -/
def mtx (u : Nat) : ByteArray := ⟨(109 :: Lib.decDigits u).toArray⟩

theorem mtx_size {u : Nat} (h : (u : Int) ≤ 9223372036854775807) : (mtx u).size ≤ 22 := by
  have := Lib.itoa_length_le (u : Int) (by omega) h
  rw [Lib.itoa_nonneg] at this
  simp [mtx, ByteArray.size]
  exact this

set_option maxRecDepth 100000 in
set_option maxHeartbeats 1000000 in
theorem mark29 (u : Nat) (w : World) (h0 : u ≠ 0) (h1 : (u : Int) ≤ 9223372036854775807) :
    Calls Tryz.prog 39 #[.int .i64 (u : Int)] w fun e w' => e = .returned (.string (mtx u)) ∧ Below w.heap.size w w' := by
  have hcv := conv1
  have q1 : ¬ (u : Int) ≤ 0 := by omega
  have HLN : Hid ((Lib.decDigits u).length ≤ 21) := by
    have := Lib.itoa_length_le (u : Int) (by omega) h1
    rwa [Lib.itoa_nonneg] at this
  have HM : Hid (mtx u = ⟨(109 :: Lib.decDigits u).toArray⟩) := rfl
  generalize mtx u = M at *
  generalize hD : Lib.decDigits u = D at *
  have HD : Hid (upper u = D) := by show _ = _; rw [upper_pos h0, hD]
  clear hD
  go_enter Tryz.func39, Tryz.ntmps39
  go_wp2_with fail
  go_loopw [0, 3] (fun x o wr => ∃ (m : Nat) (l : List UInt8), x = .int .i64 m ∧ m ≤ u ∧ o = .string ⟨l.toArray⟩ ∧ upper m ++ l = D ∧ Below w.heap.size w wr) (fun x _ _ => (intOf x).toNat)
  case atStart => exact ⟨u, [], rfl, Nat.le_refl _, rfl, by rw [List.append_nil]; exact HD.out, Below.refl _ _⟩
  case round =>
    obtain ⟨m, l, rfl, hm, rfl, hl, hb⟩ := hrel
    have hll : l.length ≤ 21 := by have := HLN.out; rw [← hl, List.length_append] at this; omega
    have HE : Hid (upper m ++ l = D) := hl
    clear hl
    by_cases hz : m = 0
    · subst hz
      go_wp2_with fail
      go_ret
      have h := HE.out
      simp only [upper, if_true, List.nil_append] at h
      exact ⟨ret_str (by rw [HM.out, ← h]; apply Go.WideShapes.bytes_inj; simp), hb⟩
    · have hmp : (1 : Int) ≤ m := by omega
      have hmu : (m : Int) ≤ 9223372036854775807 := by omega
      go_wp2_with fail
      refine ⟨⟨m / 10, [48 + UInt8.ofNat (m % 10)] ++ l, by go_num, by omega, by rw [← cat_list], ?_, hb.alloc hb.size _⟩, by simp [intOf]; omega⟩
      rw [← List.append_assoc, ← upper_step hz]
      exact HE.out

/- The marks, from k on: three for each term. -/
mutual
def markK : Tm → Nat → Tm
  | .node _ _ _ ks, k => .node k (k + 1 : Nat) (mtx (k + 2)) (markL ks (k + 3))
def markL : List Tm → Nat → List Tm
  | [], _ => []
  | t :: r, k => markK t k :: markL r (k + 3 * t.size)
end

theorem markL_length : ∀ (ks : List Tm) (k : Nat), (markL ks k).length = ks.length
  | [], _ => rfl
  | t :: r, k => by simp [markL, markL_length r]

mutual
theorem markK_size : ∀ (t : Tm) (k : Nat), (markK t k).size = t.size
  | .node _ _ _ ks, k => by simp only [markK, Tm.size, markL_sizes ks]
theorem markL_sizes : ∀ (ks : List Tm) (k : Nat), Tm.sizes (markL ks k) = Tm.sizes ks
  | [], _ => rfl
  | t :: r, k => by simp only [markL, Tm.sizes, markK_size t, markL_sizes r]
end

theorem markL_get : ∀ (ks : List Tm) (k j : Nat) (t : Tm), ks[j]? = some t → (markL ks k)[j]? = some (markK t (k + 3 * Tm.sizes (ks.take j)))
  | [], _, _, _, h => by simp at h
  | x :: r, k, 0, t, h => by
    simp at h
    subst h
    simp [markL, Tm.sizes]
  | x :: r, k, j + 1, t, h => by
    have := markL_get r (k + 3 * x.size) j t (by simpa using h)
    simp only [markL, List.getElem?_cons_succ, List.take_succ_cons, Tm.sizes]
    rw [this]
    congr 2
    omega

theorem sizes_take_succ {ks : List Tm} {j : Nat} (h : j < ks.length) : Tm.sizes (ks.take (j + 1)) = Tm.sizes (ks.take j) + ks[j].size := by
  rw [Tm.take_succ_get (by simp [h] : ks[j]? = some ks[j]), Tm.sizes_append]; simp [Tm.sizes]

theorem sizes_take_le (ks : List Tm) (j : Nat) : Tm.sizes (ks.take j) ≤ Tm.sizes ks := by
  have := Tm.sizes_append (ks.take j) (ks.drop j)
  rw [List.take_append_drop] at this
  omega

theorem size_kids (t : Tm) : t.size = 1 + Tm.sizes t.kids := by cases t; simp [Tm.size, Tm.kids]

/-- A kid that bears its marks. -/
theorem marked_elem {w : World} {a : Option Addr} {ks : List Tm} {k j : Nat} (h : LiesAll w 0 a 0 (markL ks k)) (hj : j < ks.length) :
    ∃ kj, kj = k + 3 * Tm.sizes (ks.take j) ∧ ∃ b o a' cap, a = some ⟨b, o, none⟩ ∧ b < w.heap.size ∧ w.cell? ⟨b, o + j * 4, none⟩ = some (.int .i64 (kj : Int)) ∧ w.cell? ⟨b, o + j * 4 + 1, none⟩ = some (.int .i64 ((kj + 1 : Nat) : Int)) ∧
      w.cell? ⟨b, o + j * 4 + 2, none⟩ = some (.string (mtx (kj + 2))) ∧ w.cell? ⟨b, o + j * 4 + 3, none⟩ = some (.slice a' (ks[j].kids).length cap) ∧ (ks[j].kids).length ≤ maxLen ∧ LiesAll w 0 a' 0 (markL ks[j].kids (kj + 3)) := by
  refine ⟨_, rfl, ?_⟩
  obtain ⟨b, o, cs, ha, _, hr, hl⟩ := h.get (k := j) (markL_get ks k j ks[j] (by simp [hj]))
  generalize k + 3 * Tm.sizes (ks.take j) = kj at *
  generalize ks[j] = tj at *
  obtain ⟨op, n, s, kk⟩ := tj
  simp only [markK, Lies, markL_length] at hl
  obtain ⟨a', cap, rfl, ⟨_, h2, h3⟩, _, hk⟩ := hl
  rw [Nat.zero_add] at hr
  refine ⟨b, o, a', cap, ha, rangeAt_lt hr (by simp [tmCells]), hr 0 _ rfl, hr 1 _ rfl, hr 2 _ rfl, hr 3 _ rfl, by simp [Tm.kids]; omega, hk⟩

def HdOk (ks : List Tm) : Prop := ∀ (a : Option Addr) (cap k : Nat) (w : World), LiesAll w 0 a 0 (markL ks k) → ks.length ≤ maxLen → 1 ≤ k → k + 3 * Tm.sizes ks ≤ 1099511627776 →
  Calls Tryz.prog 22 #[.slice a ks.length cap, .int .i64 (k : Int)] w fun e w' => e = .returned (.int .i64 ((k + 3 * Tm.sizes ks : Nat) : Int)) ∧ Below w.heap.size w w'

set_option maxHeartbeats 1000000 in
theorem hd_step (ks : List Tm) (hks : ∀ t ∈ ks, HdOk t.kids) : HdOk ks := by
  intro a cap k w hl hm h1 hz
  have HK := hide hks
  have HLL := hide hl
  have HTL := hide (sizes_take_le ks)
  generalize hlen : ks.length = len at *
  have HL := hide hlen
  generalize htot : Tm.sizes ks = tot at *
  unfold maxLen at hm
  clear hks hl hlen
  go_enter Tryz.func22, Tryz.ntmps22
  go_wp2_with fail
  go_loopw [1, 5] (fun l i wr => ∃ j : Nat, j ≤ len ∧ i = .int .i64 j ∧ l = .int .i64 ((k + 3 * Tm.sizes (ks.take j) : Nat) : Int) ∧ Below w.heap.size w wr) (fun _ i _ => len - (intOf i).toNat)
  case atStart => exact ⟨0, Nat.zero_le _, rfl, by simp [Tm.sizes], Below.refl _ _⟩
  case round =>
    obtain ⟨j, hj, rfl, rfl, hb⟩ := hrel
    by_cases hlt : j < len
    · have hlt' : j < ks.length := by have := unhide HL; omega
      obtain ⟨kj, hkj, b, o, a', cap', rfl, hbs, c0, c1, c2, c3, hml, hkk⟩ := marked_elem (unhide HLL) hlt'
      have hsj := sizes_take_succ hlt'
      have hsk := size_kids ks[j]
      have htl := unhide HTL (j + 1)
      have c0' := (hb.cell (p := ⟨b, o + j * 4, none⟩) hbs).trans c0
      have c1' := (hb.cell (p := ⟨b, o + j * 4 + 1, none⟩) hbs).trans c1
      have c2' := (hb.cell (p := ⟨b, o + j * 4 + 2, none⟩) hbs).trans c2
      have c3' := (hb.cell (p := ⟨b, o + j * 4 + 3, none⟩) hbs).trans c3
      have HKK := hide (hkk.below hb)
      rw [← hkj]
      have hks1 : kj + 3 + 3 * Tm.sizes ks[j].kids = k + 3 * Tm.sizes (ks.take (j + 1)) := by omega
      have hkb : kj + 3 + 3 * Tm.sizes ks[j].kids ≤ 1099511627776 := by omega
      have hk1 : 1 ≤ kj := by omega
      have hkb2 : kj + 3 ≤ 1099511627776 := by omega
      have HB := hide hb
      have HR : Hid (∀ (x : Int) (v : World), x = ((kj + 3 : Nat) : Int) → LiesAll v 0 a' 0 (markL ks[j].kids (kj + 3)) →
          Calls Tryz.prog 22 #[.slice a' ks[j].kids.length cap', .int .i64 x] v fun e w' => e = .returned (.int .i64 ((k + 3 * Tm.sizes (ks.take (j + 1)) : Nat) : Int)) ∧ Below v.heap.size v w') := fun x v hx hv => by
        rw [hx, ← hks1]
        exact unhide HK ks[j] (List.getElem_mem hlt') a' cap' (kj + 3) v hv hml (by omega) hkb
      generalize ks[j].kids.length = kl at *
      have hnb : k + 3 * Tm.sizes (ks.take (j + 1)) ≤ 1099511627776 := by omega
      generalize hkn : k + 3 * Tm.sizes (ks.take (j + 1)) = kn at *
      have HN := hide hkn
      clear hkn
      clear c0 c1 c2 c3 hkk hkj hsj hsk htl hb hks1 hkb
      have HM : Hid (∀ (x : Int) (v : World), x = ((kj + 2 : Nat) : Int) → Calls Tryz.prog 39 #[.int .i64 x] v fun e w' => e = .returned (.string (mtx (kj + 2))) ∧ Below v.heap.size v w') := fun x v hx => by
        rw [hx]; exact mark29 (kj + 2) v (by omega) (by omega)
      generalize mtx (kj + 2) = mt at *
      go_wp2_with fail
      go_region_with (go_at_call 39; refine (unhide HM _ _ (by omega)).mono ?_; rintro e w2 ⟨rfl, hb2⟩; have c2' := kpc (below_drew' hb2) c2'; have c3' := kpc (below_drew' hb2) c3'; have HKK := hide ((unhide HKK).below (below_drew' hb2)); have HB := hide ((unhide HB).trans ((below_drew' hb2).mono (unhide HB).size)))
      all_goals
        go_wp2_with fail
        refine (unhide HR _ _ (by omega) (unhide HKK)).mono ?_
        rintro e w3 ⟨rfl, hb3⟩
        go_wp2_with fail
        go_roundw
        case rel => exact ⟨j + 1, by omega, by go_num, by rw [unhide HN], (unhide HB).trans (hb3.mono (unhide HB).size)⟩
        case measure => simp [intOf]; omega
    · go_wp2_with fail
      go_ret
      exact ⟨ret_int (by rw [List.take_of_length_le (by have := unhide HL; omega), htot]), hb⟩

theorem hd_any : ∀ (m : Nat) (ks : List Tm), Tm.sizes ks ≤ m → HdOk ks
  | 0, ks, h => hd_step ks fun t ht => by have := Tm.size_mem ht; have := t.size_pos; omega
  | m + 1, ks, h => hd_step ks fun t ht => hd_any m t.kids (by have := Tm.size_mem ht; have := size_kids t; omega)

theorem held_any (op n : Int) (s : ByteArray) (ks : List Tm) (a : Option Addr) (len cap k : Nat) (w : World) (hl : Lies w 0 (.node op n s (markL ks k)) (tmCells op n s a len cap)) (h1 : 1 ≤ k) (hz : k + 3 * Tm.sizes ks ≤ 1099511627776) :
    Calls Tryz.prog 10 #[.agg #[.int .i64 op, .int .i64 n, .string s, .slice a len cap], .int .i64 (k : Int)] w fun e w' => e = .returned (.int .i64 ((k + 3 * Tm.sizes ks : Nat) : Int)) ∧ Below w.heap.size w w' := by
  simp only [Lies, tmCells, markL_length] at hl
  obtain ⟨a', cap', he, ⟨_, h2, h3⟩, _, hk⟩ := hl
  simp only [List.cons.injEq, Value.slice.injEq, true_and, and_true] at he
  obtain ⟨rfl, rfl, rfl⟩ := he
  have HS := hide (hd_any _ ks (Nat.le_refl _) a cap k)
  have HK := hide hk
  have hm : ks.length ≤ maxLen := by omega
  clear hk h2 h3
  generalize ks.length = len at *
  generalize Tm.sizes ks = sz at *
  go_enter Tryz.func10, Tryz.ntmps10
  go_wp2_with fail
  refine (unhide HS _ ((unhide HK).below ((Below.refl _ _).alloc (Nat.le_refl _) _)) hm h1 hz).mono ?_
  rintro e w2 ⟨rfl, hb2⟩
  go_wp2_with fail
  go_ret
  exact ⟨rfl, ((Below.refl _ _).alloc (Nat.le_refl _) _).trans (hb2.mono (by simp))⟩

set_option maxRecDepth 100000 in
set_option maxHeartbeats 1000000 in
theorem copy_leaf (op n : Int) (s : ByteArray) (a : Option Addr) (cap : Nat) (w : World) (hl : Lies w 0 (.node op n s []) (tmCells op n s a 0 cap)) (hs : s.size ≤ 4194303) :
    Calls Tryz.prog 38 #[.agg #[.int .i64 op, .int .i64 n, .string s, .slice a 0 cap]] w fun e w' => e = .returned (.agg #[.int .i64 op, .int .i64 n, .string s, .slice none 0 0]) ∧ Below w.heap.size w w' := by
  refine (cy_all (.node op n s []) op n s a 0 cap w hl (by simp only [Tm.size, Tm.wt, Tm.sizes, Tm.wts, List.length_nil]; omega)).mono ?_
  rintro e w' ⟨a', cap', fp, rfl, _, _, hn, hb⟩
  obtain ⟨rfl, rfl⟩ := hn rfl
  exact ⟨rfl, hb⟩

theorem marks_nil (a : Option Addr) (cap : Nat) (k : Int) (w : World) :
    Calls Tryz.prog 21 #[.slice a 0 cap, .int .i64 k] w fun e w' => e = .returned (.int .i64 k) ∧ Below w.heap.size w w' := by
  go_enter Tryz.func21, Tryz.ntmps21
  go_wp2_with fail
  go_loop [1, 5] (fun x i => x = .int .i64 k ∧ i = .int .i64 0) (fun _ _ => 0)
  case atStart => exact ⟨rfl, rfl⟩
  case round =>
    obtain ⟨rfl, rfl⟩ := hrel
    go_wp2_with fail
    go_ret
    exact ⟨rfl, Below.refl _ _⟩

theorem helds_nil (a : Option Addr) (cap : Nat) (k : Int) (w : World) :
    Calls Tryz.prog 22 #[.slice a 0 cap, .int .i64 k] w fun e w' => e = .returned (.int .i64 k) ∧ Below w.heap.size w w' := by
  go_enter Tryz.func22, Tryz.ntmps22
  go_wp2_with fail
  go_loop [1, 5] (fun x i => x = .int .i64 k ∧ i = .int .i64 0) (fun _ _ => 0)
  case atStart => exact ⟨rfl, rfl⟩
  case round =>
    obtain ⟨rfl, rfl⟩ := hrel
    go_wp2_with fail
    go_ret
    exact ⟨rfl, Below.refl _ _⟩

theorem mark_leaf (op n : Int) (s : ByteArray) (a : Option Addr) (cap : Nat) (k : Int) (w : World) :
    Calls Tryz.prog 9 #[.agg #[.int .i64 op, .int .i64 n, .string s, .slice a 0 cap], .int .i64 k] w fun e w' => e = .returned (.int .i64 k) ∧ Below w.heap.size w w' := by
  go_enter Tryz.func9, Tryz.ntmps9
  go_wp2_with fail
  refine (marks_nil a cap k _).mono ?_
  rintro e w2 ⟨rfl, hb2⟩
  go_wp2_with fail
  go_ret
  exact ⟨rfl, ((Below.refl _ _).alloc (Nat.le_refl _) _).trans (hb2.mono (by simp))⟩

theorem held_leaf (op n : Int) (s : ByteArray) (a : Option Addr) (cap : Nat) (k : Int) (w : World) (hk : 0 ≤ k) :
    Calls Tryz.prog 10 #[.agg #[.int .i64 op, .int .i64 n, .string s, .slice a 0 cap], .int .i64 k] w fun e w' => e = .returned (.int .i64 k) ∧ Below w.heap.size w w' := by
  go_enter Tryz.func10, Tryz.ntmps10
  go_wp2_with fail
  refine (helds_nil a cap k _).mono ?_
  rintro e w2 ⟨rfl, hb2⟩
  go_wp2_with fail
  go_ret
  exact ⟨rfl, ((Below.refl _ _).alloc (Nat.le_refl _) _).trans (hb2.mono (by simp))⟩

theorem markL_append : ∀ (a b : List Tm) (k : Nat), markL (a ++ b) k = markL a k ++ markL b (k + 3 * Tm.sizes a)
  | [], b, k => by simp [markL, Tm.sizes]
  | t :: r, b, k => by
    simp only [List.cons_append, markL, markL_append r, Tm.sizes]
    rw [show k + 3 * (t.size + Tm.sizes r) = k + 3 * t.size + 3 * Tm.sizes r by omega]

theorem wf_nat {n : Nat} (h : (n : Int) ≤ 9223372036854775807) : (Lit.int .i64 (n : Int)).wf = true := by
  have h1 : IntKind.i64.min = -9223372036854775808 := by decide
  have h2 : IntKind.i64.max = 9223372036854775807 := by decide
  simp [Lit.wf, h1, h2]
  omega

/-- In the middle of the marking: the first j bear their marks. -/
structure MkMid (w : World) (b : Nat) (f : List Nat) (ks : List Tm) (k j : Nat) (wr : World) : Prop where
  own : OwnAll wr b 0 (markL (ks.take j) k ++ ks.drop j) f
  row : ∃ C, wr.heap[b]? = some (.cells C 28 (0, 0))
  only : Only (b :: f) w wr

/-- One kid within its list: what it is, and how the list goes on behind its marking. -/
theorem MkMid.open {w wr : World} {b : Nat} {f : List Nat} {ks : List Tm} {k j : Nat} (h : MkMid w b f ks k j wr) (hj : j < ks.length) (hnd : (b :: f).Nodup) :
    ∃ op n s a cap f1 kj, kj = k + 3 * Tm.sizes (ks.take j) ∧ b < wr.heap.size ∧ wr.cell? ⟨b, j * 4, none⟩ = some (.int .i64 op) ∧ wr.cell? ⟨b, j * 4 + 1, none⟩ = some (.int .i64 n) ∧ wr.cell? ⟨b, j * 4 + 2, none⟩ = some (.string s) ∧
      wr.cell? ⟨b, j * 4 + 3, none⟩ = some (.slice a ks[j].kids.length cap) ∧ ks[j].kids.length ≤ maxLen ∧ KidsOwn wr a ks[j].kids f1 ∧ f1.Nodup ∧ (∀ x ∈ f1, x ∈ f) ∧ b ∉ f1 ∧
      ∀ (W w3 : World), Only [b] wr W → (∀ i, (i < j * 4 ∨ j * 4 + 4 ≤ i) → W.cell? ⟨b, i, none⟩ = wr.cell? ⟨b, i, none⟩) → (∃ C, W.heap[b]? = some (.cells C 28 (0, 0))) →
        W.rangeAt b (j * 4) (tmCells (kj : Int) ((kj + 1 : Nat) : Int) (mtx (kj + 2)) a ks[j].kids.length cap) → (kj : Int) + 2 ≤ 1099511627776 →
        Only f1 W w3 → KidsOwn w3 a (markL ks[j].kids (kj + 3)) f1 → MkMid w b f ks k (j + 1) w3 := by
  have hd : ks.drop j = ks[j] :: ks.drop (j + 1) := List.drop_eq_getElem_cons hj
  have ho := h.own
  rw [hd] at ho
  obtain ⟨fA, f1, fB, cs, rfl, oA, hr, ht, oB⟩ := OwnAll.split ho
  rw [markL_length, List.length_take, Nat.min_eq_left (by omega), Nat.zero_add] at hr oB
  have hkn : ks.take (j + 1) = ks.take j ++ [ks[j]] := Tm.take_succ_get (by simp [hj])
  generalize hq : ks[j] = tj at *
  obtain ⟨op, n, s, kk⟩ := tj
  obtain ⟨a, cap, rfl, ⟨h1, h2, h3⟩, ⟨h4, h5⟩, hk⟩ := ht.kids
  simp only [List.nodup_cons, List.nodup_append, List.mem_append, not_or] at hnd
  obtain ⟨⟨bA, b1, bB⟩, ndA, ⟨nd1, ndB, d1B⟩, dA⟩ := hnd
  refine ⟨op, n, s, a, cap, f1, _, rfl, rangeAt_lt hr (by simp [tmCells]), hr 0 _ rfl, hr 1 _ rfl, hr 2 _ rfl, hr 3 _ rfl, by simp only [Tm.kids]; omega, hk, nd1, fun x hx => by simp [hx], b1, ?_⟩
  intro W w3 oW cW rW hW hkj oW3 hk3
  have hbW : W.heap[b]? = w3.heap[b]? := by
    obtain ⟨C, hC⟩ := rW
    exact (oW3.block b (lt_of_heap hC) b1).symm
  have hcb : ∀ i, w3.cell? ⟨b, i, none⟩ = W.cell? ⟨b, i, none⟩ := fun i => World.cell?_of_block hbW.symm
  have keepx : ∀ x, x < wr.heap.size → x ≠ b → x ∉ f1 → w3.heap[x]? = wr.heap[x]? := fun x hx hb h1 =>
    (oW3.block x (Nat.lt_of_lt_of_le hx oW.size) h1).trans (oW.block x hx (by simpa using hb))
  have hA := OwnAll.lt b _ _ fA oA
  have hB := OwnAll.lt b _ _ fB oB
  have e : markL (ks.take (j + 1)) k ++ ks.drop (j + 1) = markL (ks.take j) k ++ markK (.node op n s kk) (k + 3 * Tm.sizes (ks.take j)) :: ks.drop (j + 1) := by
    rw [hkn, markL_append]
    simp [markL]
  refine ⟨?_, ?_, ?_⟩
  · rw [e]
    refine OwnAll.join (l1 := markL (ks.take j) k) (f1 := f1) (cs := tmCells ((k + 3 * Tm.sizes (ks.take j) : Nat) : Int) ((k + 3 * Tm.sizes (ks.take j) + 1 : Nat) : Int) (mtx (k + 3 * Tm.sizes (ks.take j) + 2)) a kk.length cap) ?_ ?_ ?_ ?_
    · refine OwnAll.keep b 0 _ fA oA (fun i _ h2 => ?_) fun x hx => keepx x (hA x hx) (fun e => bA (e ▸ hx)) (fun h => dA x hx x (Or.inl h) rfl)
      rw [markL_length, List.length_take, Nat.min_eq_left (by omega)] at h2
      rw [hcb, cW i (Or.inl (by omega))]
    · rw [markL_length, List.length_take, Nat.min_eq_left (by omega), Nat.zero_add]
      intro i v hv
      rw [hcb]
      exact hW i v hv
    · simp only [markK]
      have hmt := mtx_size (u := k + 3 * Tm.sizes (ks.take j) + 2) (by omega)
      have := Own.of_kids (op := ((k + 3 * Tm.sizes (ks.take j) : Nat) : Int)) (n := ((k + 3 * Tm.sizes (ks.take j) + 1 : Nat) : Int)) (s := mtx (k + 3 * Tm.sizes (ks.take j) + 2)) (cap := cap) ⟨by unfold maxLen; omega, by rw [markL_length]; exact h2, h3⟩ ⟨wf_nat (by omega), wf_nat (by omega)⟩ hk3
      rw [markL_length] at this
      exact this
    · rw [markL_length, List.length_take, Nat.min_eq_left (by omega), Nat.zero_add]
      refine OwnAll.keep b (j + 1) _ fB oB (fun i h1 _ => ?_) fun x hx => keepx x (hB x hx) (fun e => bB (e ▸ hx)) (fun h => d1B x h x hx rfl)
      rw [hcb, cW i (Or.inr (by omega))]
  · obtain ⟨C, hC⟩ := rW
    exact ⟨C, by rw [← hbW]; exact hC⟩
  · exact (h.only.trans (oW.mono (by simp))).trans (oW3.mono fun x hx => by simp [hx])

theorem setCell_row {w : World} {b o : Nat} {C : Array Value} {t : TypeId} {fr : Nat × Nat} (v : Value) (h : w.heap[b]? = some (.cells C t fr)) : (w.setCell ⟨b, o, none⟩ v).heap[b]? = some (.cells (C.setIfInBounds o v) t fr) := by
  simp only [World.setCell, Array.getElem?_modify]
  simp [h]

theorem cell_set_off {w : World} {b o o' : Nat} {v : Value} (h : o' ≠ o) : (w.setCell ⟨b, o, none⟩ v).cell? ⟨b, o', none⟩ = w.cell? ⟨b, o', none⟩ :=
  World.cell?_setCell_other _ _ _ _ (fun e => h (by cases e; rfl))

theorem cell_set_same {w : World} {b o : Nat} {v u : Value} (h : w.cell? ⟨b, o, none⟩ = some u) : (w.setCell ⟨b, o, none⟩ v).cell? ⟨b, o, none⟩ = some v := by
  obtain ⟨C, t, fr, hC⟩ : ∃ C t fr, w.heap[b]? = some (.cells C t fr) := by
    unfold World.cell? at h
    split at h
    · rename_i hh; exact ⟨_, _, _, hh⟩
    all_goals simp_all
  have hb : o < C.size := by
    unfold World.cell? at h
    rw [hC] at h
    simp at h
    exact (Array.getElem?_eq_some_iff.1 h).1
  have := setCell_row (o := o) v hC
  unfold World.cell?
  rw [this]
  simp [hb]

/-- The three marks of a kid are written; between them what is new is made. -/
theorem three {wr : World} {b j : Nat} {C : Array Value} {op n x0 x1 : Int} {s mt : ByteArray} {a : Option Addr} {kl cap : Nat} (hC : wr.heap[b]? = some (.cells C 28 (0, 0)))
    (c0 : wr.cell? ⟨b, j * 4, none⟩ = some (.int .i64 op)) (c1 : wr.cell? ⟨b, j * 4 + 1, none⟩ = some (.int .i64 n)) (c2 : wr.cell? ⟨b, j * 4 + 2, none⟩ = some (.string s)) (c3 : wr.cell? ⟨b, j * 4 + 3, none⟩ = some (.slice a kl cap))
    {w2 : World} (hb : Below ((wr.setCell ⟨b, j * 4, none⟩ (.int .i64 x0)).setCell ⟨b, j * 4 + 1, none⟩ (.int .i64 x1)).heap.size ((wr.setCell ⟨b, j * 4, none⟩ (.int .i64 x0)).setCell ⟨b, j * 4 + 1, none⟩ (.int .i64 x1)) w2) :
    w2.cell? ⟨b, j * 4 + 2, none⟩ = some (.string s) ∧ w2.cell? ⟨b, j * 4 + 3, none⟩ = some (.slice a kl cap) ∧ w2.frozen? ⟨b, j * 4 + 2, none⟩ = false ∧
    Only [b] wr (w2.setCell ⟨b, j * 4 + 2, none⟩ (.string mt)) ∧ (∀ i, (i < j * 4 ∨ j * 4 + 4 ≤ i) → (w2.setCell ⟨b, j * 4 + 2, none⟩ (.string mt)).cell? ⟨b, i, none⟩ = wr.cell? ⟨b, i, none⟩) ∧
    (∃ C, (w2.setCell ⟨b, j * 4 + 2, none⟩ (.string mt)).heap[b]? = some (.cells C 28 (0, 0))) ∧ (w2.setCell ⟨b, j * 4 + 2, none⟩ (.string mt)).rangeAt b (j * 4) (tmCells x0 x1 mt a kl cap) := by
  have r1 := setCell_row (o := j * 4 + 1) (.int .i64 x1) (setCell_row (o := j * 4) (.int .i64 x0) hC)
  have k0 : ((wr.setCell ⟨b, j * 4, none⟩ (.int .i64 x0)).setCell ⟨b, j * 4 + 1, none⟩ (.int .i64 x1)).cell? ⟨b, j * 4, none⟩ = some (.int .i64 x0) := by
    rw [cell_set_off (by omega)]; exact cell_set_same c0
  have k1 : ((wr.setCell ⟨b, j * 4, none⟩ (.int .i64 x0)).setCell ⟨b, j * 4 + 1, none⟩ (.int .i64 x1)).cell? ⟨b, j * 4 + 1, none⟩ = some (.int .i64 x1) :=
    cell_set_same (by rw [cell_set_off (by omega)]; exact c1)
  have kk : ∀ i, i ≠ j * 4 → i ≠ j * 4 + 1 → ((wr.setCell ⟨b, j * 4, none⟩ (.int .i64 x0)).setCell ⟨b, j * 4 + 1, none⟩ (.int .i64 x1)).cell? ⟨b, i, none⟩ = wr.cell? ⟨b, i, none⟩ := fun i h1 h2 => by
    rw [cell_set_off h2, cell_set_off h1]
  have oV : Only [b] wr ((wr.setCell ⟨b, j * 4, none⟩ (.int .i64 x0)).setCell ⟨b, j * 4 + 1, none⟩ (.int .i64 x1)) := ((Only.refl [b] wr).set (p := ⟨b, j * 4, none⟩) (by simp) _).set (p := ⟨b, j * 4 + 1, none⟩) (by simp) _
  generalize (wr.setCell ⟨b, j * 4, none⟩ (.int .i64 x0)).setCell ⟨b, j * 4 + 1, none⟩ (.int .i64 x1) = V at *
  have hbV := lt_of_heap r1
  have r2 := (hb.block b hbV).trans r1
  have kw : ∀ i, w2.cell? ⟨b, i, none⟩ = V.cell? ⟨b, i, none⟩ := fun i => World.cell?_of_block (hb.block b hbV)
  have d2 : w2.cell? ⟨b, j * 4 + 2, none⟩ = some (.string s) := by rw [kw, kk _ (by omega) (by omega)]; exact c2
  have d3 : w2.cell? ⟨b, j * 4 + 3, none⟩ = some (.slice a kl cap) := by rw [kw, kk _ (by omega) (by omega)]; exact c3
  refine ⟨d2, d3, frozen_of_row r2, (oV.trans (Only.of_below hb)).set (p := ⟨b, j * 4 + 2, none⟩) (by simp) _, fun i hi => ?_, ⟨_, setCell_row (o := j * 4 + 2) (.string mt) r2⟩, fun i v hi => ?_⟩
  · rw [cell_set_off (by omega), kw, kk _ (by omega) (by omega)]
  · match i, hi with
    | 0, hi =>
      simp [tmCells] at hi
      subst hi
      rw [cell_set_off (by omega), kw]
      exact k0
    | 1, hi =>
      simp [tmCells] at hi
      subst hi
      rw [cell_set_off (by omega), kw]
      exact k1
    | 2, hi =>
      simp [tmCells] at hi
      subst hi
      exact cell_set_same d2
    | 3, hi =>
      simp [tmCells] at hi
      subst hi
      rw [cell_set_off (by omega)]
      exact d3
    | i + 4, hi => simp [tmCells] at hi

def MkOk (ks : List Tm) : Prop := ∀ (a : Option Addr) (cap k : Nat) (w : World) (fp : List Nat), KidsOwn w a ks fp → fp.Nodup → ks.length ≤ maxLen → 1 ≤ k → k + 3 * Tm.sizes ks ≤ 1099511627776 →
  Calls Tryz.prog 21 #[.slice a ks.length cap, .int .i64 (k : Int)] w fun e w' => e = .returned (.int .i64 ((k + 3 * Tm.sizes ks : Nat) : Int)) ∧ KidsOwn w' a (markL ks k) fp ∧ Only fp w w'

set_option maxHeartbeats 1000000 in
theorem mk_step (ks : List Tm) (hks : ∀ t ∈ ks, MkOk t.kids) : MkOk ks := by
  intro a cap k w fp hk hnd hm h1 hz
  rcases hk with ⟨rfl, rfl⟩ | ⟨b, C, f, rfl, rfl, hrow, hown⟩
  · refine (marks_nil a cap k w).mono ?_
    rintro e w' ⟨rfl, hb⟩
    exact ⟨by simp [Tm.sizes], Or.inl ⟨by simp [markL], rfl⟩, Only.of_below hb⟩
  · have HS : Hid (MkMid w b f ks k 0 w) := ⟨by simpa [markL] using hown, ⟨C, hrow⟩, Only.refl _ _⟩
    have HK := hide hks
    have HND := hide hnd
    have HTL := hide (sizes_take_le ks)
    generalize hlen : ks.length = len at *
    have HL := hide hlen
    generalize htot : Tm.sizes ks = tot at *
    have HTOT := hide htot
    unfold maxLen at hm
    clear hks hlen hnd hown hrow htot
    go_enter Tryz.func21, Tryz.ntmps21
    go_wp2_with fail
    go_loopw [1, 5] (fun l i wr => ∃ j : Nat, j ≤ len ∧ i = .int .i64 j ∧ l = .int .i64 ((k + 3 * Tm.sizes (ks.take j) : Nat) : Int) ∧ MkMid w b f ks k j wr) (fun _ i _ => len - (intOf i).toNat)
    case atStart => exact ⟨0, Nat.zero_le _, rfl, by simp [Tm.sizes], unhide HS⟩
    case round =>
      obtain ⟨j, hj, rfl, rfl, hM⟩ := hrel
      by_cases hlt : j < len
      · have hlt' : j < ks.length := by have := unhide HL; omega
        obtain ⟨op, n, s, a', cap', f1, kj, hkj, hbs, c0, c1, c2, c3, hml, hkk, nd1, sub1, nb1, hgo⟩ := hM.open hlt' (unhide HND)
        obtain ⟨Cb, hCb⟩ := hM.row
        have q0 : wr.frozen? ⟨b, j * 4, none⟩ = false := frozen_of_row hCb
        have q1 : wr.frozen? ⟨b, j * 4 + 1, none⟩ = false := frozen_of_row hCb
        have q2 : wr.frozen? ⟨b, j * 4 + 2, none⟩ = false := frozen_of_row hCb
        have hsj := sizes_take_succ hlt'
        have hsk := size_kids ks[j]
        have htl := unhide HTL (j + 1)
        have HKK := hide hkk
        have HN1 := hide nd1
        have HG := hide hgo
        rw [← hkj]
        have hks1 : kj + 3 + 3 * Tm.sizes ks[j].kids = k + 3 * Tm.sizes (ks.take (j + 1)) := by omega
        have hkb : kj + 3 + 3 * Tm.sizes ks[j].kids ≤ 1099511627776 := by omega
        have hk1 : 1 ≤ kj := by omega
        have hkb2 : kj + 3 ≤ 1099511627776 := by omega
        have HR : Hid (∀ (x : Int) (v : World), x = ((kj + 3 : Nat) : Int) → KidsOwn v a' ks[j].kids f1 →
            Calls Tryz.prog 21 #[.slice a' ks[j].kids.length cap', .int .i64 x] v fun e w' => e = .returned (.int .i64 ((k + 3 * Tm.sizes (ks.take (j + 1)) : Nat) : Int)) ∧ KidsOwn w' a' (markL ks[j].kids (kj + 3)) f1 ∧ Only f1 v w') := fun x v hx hv => by
          rw [hx, ← hks1]
          exact unhide HK ks[j] (List.getElem_mem hlt') a' cap' (kj + 3) v f1 hv nd1 hml (by omega) hkb
        generalize ks[j].kids.length = kl at *
        have hnb : k + 3 * Tm.sizes (ks.take (j + 1)) ≤ 1099511627776 := by omega
        generalize hkn : k + 3 * Tm.sizes (ks.take (j + 1)) = kn at *
        have HN := hide hkn
        have HM : Hid (∀ (x : Int) (v : World), x = ((kj + 2 : Nat) : Int) → Calls Tryz.prog 39 #[.int .i64 x] v fun e w' => e = .returned (.string (mtx (kj + 2))) ∧ Below v.heap.size v w') := fun x v hx => by
          rw [hx]; exact mark29 (kj + 2) v (by omega) (by omega)
        generalize mtx (kj + 2) = mt at *
        clear hkn hkk hkj hsj hsk htl hks1 hkb nd1 hgo hM HS
        go_wp2_with fail
        refine (unhide HM _ _ (by omega)).mono ?_
        rintro e w2 ⟨rfl, hb2⟩
        obtain ⟨d2, d3, e2, oW, cW, rW, hW⟩ := three (mt := mt) hCb c0 c1 c2 c3 hb2
        have HKW : Hid (KidsOwn (w2.setCell ⟨b, j * 4 + 2, none⟩ (.string mt)) a' ks[j].kids f1) := (unhide HKK).keep fun x hx => oW.block x ((unhide HKK).lt x hx) (fun e => nb1 (by rw [List.mem_singleton] at e; rw [← e]; exact hx))
        have HE := hide (fun w3 o3 k3 => unhide HG _ w3 oW cW rW (by rw [show ((kj + 1 : Nat) : Int) = (kj : Int) + 1 by omega]; exact hW) (by omega) o3 k3)
        clear oW cW rW hW HG HM hb2
        go_wp2_with fail
        refine (unhide HR _ _ (by omega) (unhide HKW)).mono ?_
        rintro e w3 ⟨rfl, k3, o3⟩
        have HM3 := hide (unhide HE w3 o3 k3)
        clear HE k3 o3
        go_wp2_with fail
        go_roundw
        case rel => exact ⟨j + 1, by omega, by go_num, by rw [unhide HN], unhide HM3⟩
        case measure => simp [intOf]; omega
      · go_wp2_with fail
        go_ret
        have e : ks.take j = ks := List.take_of_length_le (by have := unhide HL; omega)
        have ed : ks.drop j = [] := List.drop_of_length_le (by have := unhide HL; omega)
        obtain ⟨h1, ⟨C', h2⟩, h3⟩ := hM
        rw [e, ed, List.append_nil] at h1
        exact ⟨ret_int (by rw [e, unhide HTOT]), Or.inr ⟨b, C', f, rfl, rfl, h2, h1⟩, h3⟩

theorem mk_any : ∀ (m : Nat) (ks : List Tm), Tm.sizes ks ≤ m → MkOk ks
  | 0, ks, h => mk_step ks fun t ht => by have := Tm.size_mem ht; have := t.size_pos; omega
  | m + 1, ks, h => mk_step ks fun t ht => mk_any m t.kids (by have := Tm.size_mem ht; have := size_kids t; omega)

/-- Its kids bear the marks from k on. -/
def Tm.marked : Tm → Nat → Tm
  | .node op n s ks, k => .node op n s (markL ks k)

theorem mark_any (t : Tm) (op n : Int) (s : ByteArray) (a : Option Addr) (len cap k : Nat) (w : World) (fp : List Nat) (ho : Own w t (tmCells op n s a len cap) fp) (hnd : fp.Nodup) (h1 : 1 ≤ k) (hz : k + 3 * t.size ≤ 1099511627776) :
    Calls Tryz.prog 9 #[.agg #[.int .i64 op, .int .i64 n, .string s, .slice a len cap], .int .i64 (k : Int)] w fun e w' => e = .returned (.int .i64 ((k + 3 * Tm.sizes t.kids : Nat) : Int)) ∧ Own w' (t.marked k) (tmCells op n s a len cap) fp ∧ Only fp w w' := by
  obtain ⟨op', n', s', ks⟩ := t
  have hlt := Own.lt _ _ _ ho
  obtain ⟨a', cap', he, hs, hwf, hk⟩ := ho.kids
  simp only [tmCells, List.cons.injEq, Value.int.injEq, Value.string.injEq, Value.slice.injEq, true_and, and_true] at he
  obtain ⟨rfl, rfl, rfl, rfl, rfl, rfl⟩ := he
  simp only [Tm.kids, Tm.size] at hz ⊢
  have HS := hide (mk_any _ ks (Nat.le_refl _) a cap k)
  have HF : Hid (∀ w', KidsOwn w' a (markL ks k) fp → Own w' (Tm.marked (.node op n s ks) k) (tmCells op n s a ks.length cap) fp) := fun w' h => by
    have := Own.of_kids (op := op) (n := n) (s := s) (cap := cap) ⟨hs.1, by rw [markL_length]; exact hs.2.1, hs.2.2⟩ hwf h
    rw [markL_length] at this
    exact this
  have HK := hide (hk.keep (w' := w.alloc (.cells #[.int .i64 op, .int .i64 n, .string s, .slice a ks.length cap] 28)) fun b hb => heap_alloc_old w _ (hk.lt b hb))
  have hm : ks.length ≤ maxLen := by omega
  have HND := hide hnd
  clear hk hs hwf hnd ho hlt
  generalize ks.length = len at *
  generalize Tm.sizes ks = sz at *
  go_enter Tryz.func9, Tryz.ntmps9
  go_wp2_with fail
  refine (unhide HS _ fp (unhide HK) (unhide HND) hm h1 (by omega)).mono ?_
  rintro e w2 ⟨rfl, k2, o2⟩
  have H2 := hide (unhide HF w2 k2)
  have H3 := hide ((Only.of_below ((Below.refl _ w).alloc (Nat.le_refl _) _)).trans o2)
  clear k2 o2
  go_wp2_with fail
  go_ret
  exact ⟨rfl, unhide H2, unhide H3⟩

theorem held_marked (T : Tm) (op n : Int) (s : ByteArray) (a : Option Addr) (len cap k : Nat) (w : World) (hl : Lies w 0 (T.marked k) (tmCells op n s a len cap)) (h1 : 1 ≤ k) (hz : k + 3 * T.size ≤ 1099511627776) :
    Calls Tryz.prog 10 #[.agg #[.int .i64 op, .int .i64 n, .string s, .slice a len cap], .int .i64 (k : Int)] w fun e w' => e = .returned (.int .i64 ((k + 3 * Tm.sizes T.kids : Nat) : Int)) ∧ Below w.heap.size w w' := by
  obtain ⟨op', n', s', ks⟩ := T
  have hh := hl
  simp only [Tm.marked, Lies, tmCells, List.cons.injEq, Value.int.injEq, Value.string.injEq, true_and] at hh
  obtain ⟨_, _, ⟨rfl, rfl, rfl, _⟩, _⟩ := hh
  simp only [Tm.size] at hz
  exact held_any op n s ks a len cap k w hl h1 (by omega)

theorem madeT_size (op : Int) (ks : List Tm) : (madeT op ks).size ≤ 1 + Tm.sizes ks := by
  unfold madeT pickT
  split
  · simp [Tm.size]
  · simp [Tm.size, Tm.sizes]

end Go.Proofs.YtafoonabmijcdaaGreatDoor
