/- Marks of policies in blocks of their own: the walks of laws.markPolicyS, laws.heldPolicyS, laws.markPolicy, laws.heldPolicy. -/
import Derived.Test.YtdcfkbnppbeahaaQm
namespace Go.Proofs.Ytdcfkbnppbeahaa
open Go.RowKit Go.Deep

/-- The next mark behind i policies. -/
def kk (Q : Nat → Pol) (k : Nat) : Nat → Nat
  | 0 => k
  | i + 1 => kk Q k i + 2 + (Q i).l.length + 1
def mQ (Q : Nat → Pol) (k i : Nat) : Pol := ⟨mtx (kk Q k i), ((kk Q k i + 1 : Nat) : Int), markTx (Q i).l.length (kk Q k i + 2), ((kk Q k i + 2 + (Q i).l.length : Nat) : Int)⟩
def midQ (Q : Nat → Pol) (k j i : Nat) : Pol := if i < j then mQ Q k i else Q i
theorem kk_le (Q : Nat → Pol) (k : Nat) : ∀ (i n : Nat), i ≤ n → kk Q k i ≤ kk Q k n
  | i, 0, h => by obtain rfl : i = 0 := by omega
                  exact Nat.le_refl _
  | i, n + 1, h => by
    by_cases e : i = n + 1
    · subst e; exact Nat.le_refl _
    · have := kk_le Q k i n (by omega)
      simp only [kk]
      omega
theorem kk_ge (Q : Nat → Pol) (k : Nat) (i : Nat) : k ≤ kk Q k i := kk_le Q k 0 i (Nat.zero_le _)
/-- The blocks of policies. -/
def Blk (b : Nat) (F : Nat → Option Nat) (n : Nat) (y : Nat) : Prop := y = b ∨ ∃ i, i < n ∧ F i = some y

theorem cell_set_offQ {w : World} {b o o' : Nat} {v : Value} (h : o' ≠ o) : (w.setCell ⟨b, o, none⟩ v).cell? ⟨b, o', none⟩ = w.cell? ⟨b, o', none⟩ :=
  World.cell?_setCell_other _ _ _ _ (fun e => h (by cases e; rfl))
theorem cell_set_sameQ {w : World} {b o : Nat} {v : Value} {C : Array Value} {t : TypeId} (h : w.heap[b]? = some (.cells C t (0, 0))) (ho : o < C.size) : (w.setCell ⟨b, o, none⟩ v).cell? ⟨b, o, none⟩ = some v := by
  have e := heap_setCell_same w b o C t v h
  rw [cell_of_row e (by simpa using ho)]
  simp

theorem PO.mark {wa w3 : World} {b : Nat} {F : Nat → Option Nat} {n : Nat} {Q : Nat → Pol} (h : PO wa b F n Q) {j : Nat} (hj : j < n) (D : ByteArray) (M U : Int) {L : List ByteArray} {x : Option Addr} {cap : Nat}
    (hx : wa.rangeAt b (j * 4) (polCells (Q j) x cap)) (hL : L.length = (Q j).l.length)
    (hc : Chg (fun y => F j = some y) ((wa.setCell ⟨b, j * 4, none⟩ (.string D)).setCell ⟨b, j * 4 + 1, none⟩ (.int .i64 M)) w3) (ho : TxOwn w3 x L (F j)) :
    PO (w3.setCell ⟨b, j * 4 + 3, none⟩ (.int .i64 U)) b F n (fun i => if i = j then ⟨D, M, L, U⟩ else Q i) ∧ Chg (Blk b F n) wa (w3.setCell ⟨b, j * 4 + 3, none⟩ (.int .i64 U)) := by
  obtain ⟨C, r1, r2⟩ := h.row
  have r1a := heap_setCell_same wa b (j * 4) C 27 (.string D) r1
  have r1b := heap_setCell_same _ b (j * 4 + 1) _ 27 (.int .i64 M) r1a
  have hbF : ¬ F j = some b := fun e => (h.lt j b hj e).1 rfl
  have hb3 : w3.heap[b]? = _ := (hc.block b (Array.getElem?_eq_some_iff.1 r1b).1 hbF).trans r1b
  have r1c := heap_setCell_same w3 b (j * 4 + 3) _ 27 (.int .i64 U) hb3
  have cel : ∀ o, w3.cell? ⟨b, o, none⟩ = ((wa.setCell ⟨b, j * 4, none⟩ (.string D)).setCell ⟨b, j * 4 + 1, none⟩ (.int .i64 M)).cell? ⟨b, o, none⟩ := fun o => World.cell?_of_block (hb3.trans r1b.symm)
  have oth : ∀ o, o ≠ j * 4 → o ≠ j * 4 + 1 → o ≠ j * 4 + 3 → (w3.setCell ⟨b, j * 4 + 3, none⟩ (.int .i64 U)).cell? ⟨b, o, none⟩ = wa.cell? ⟨b, o, none⟩ := fun o h0 h1 h3 => by
    rw [cell_set_offQ h3, cel, cell_set_offQ h1, cell_set_offQ h0]
  have chg : Chg (Blk b F n) wa (w3.setCell ⟨b, j * 4 + 3, none⟩ (.int .i64 U)) := by
    refine Chg.set (((Chg.refl (Blk b F n) wa).set (p := ⟨b, j * 4, none⟩) (Or.inl rfl) _).set (p := ⟨b, j * 4 + 1, none⟩) (Or.inl rfl) _ |>.trans (hc.mono fun y hy => Or.inr ⟨j, hj, hy⟩)) (Or.inl rfl) _
  refine ⟨⟨⟨_, r1c, by simpa using r2⟩, fun i hi => ?_, fun i g hi hg => ⟨(h.lt i g hi hg).1, Nat.lt_of_lt_of_le (h.lt i g hi hg).2 chg.size⟩, h.apart⟩, chg⟩
  by_cases e : i = j
  · subst e
    simp only [if_true]
    refine ⟨x, cap, fun o v hv => ?_, ho.keep fun g hg => Below.heap_setCell _ _ _ _ (fun e => hbF (by rw [hg]; exact congrArg some e))⟩
    match o, hv with
    | 0, hv =>
      simp only [polCells, List.getElem?_cons_zero, Option.some.injEq] at hv
      subst hv
      have e0 := cell_set_sameQ (v := .string D) r1 (show i * 4 < C.size by omega)
      rw [cell_set_offQ (by omega), cel, cell_set_offQ (by omega)]
      exact e0
    | 1, hv =>
      simp only [polCells, List.getElem?_cons_succ, List.getElem?_cons_zero, Option.some.injEq] at hv
      subst hv
      rw [cell_set_offQ (by omega), cel, cell_set_sameQ r1a (by simp; omega)]
    | 2, hv =>
      simp only [polCells, List.getElem?_cons_succ, List.getElem?_cons_zero, Option.some.injEq] at hv
      subst hv
      rw [oth _ (by omega) (by omega) (by omega), hL]
      exact hx 2 _ rfl
    | 3, hv =>
      simp only [polCells, List.getElem?_cons_succ, List.getElem?_cons_zero, Option.some.injEq] at hv
      subst hv
      rw [cell_set_sameQ hb3 (by simp; omega)]
    | o + 4, hv => simp [polCells] at hv
  · simp only [if_neg e]
    obtain ⟨y, c, h1, h2⟩ := h.at_ i hi
    refine ⟨y, c, fun o v hv => ?_, ?_⟩
    · have ho4 : o < 4 := (List.getElem?_eq_some_iff.1 hv).1
      rw [oth _ (by omega) (by omega) (by omega)]
      exact h1 o v hv
    · have h3 : TxOwn ((wa.setCell ⟨b, j * 4, none⟩ (.string D)).setCell ⟨b, j * 4 + 1, none⟩ (.int .i64 M)) y (Q i).l (F i) := h2.keep fun g hg => by
        have := (h.lt i g hi hg).1
        rw [Below.heap_setCell _ _ _ _ this, Below.heap_setCell _ _ _ _ this]
      exact (h3.chg hc fun g hg hj' => h.apart i j g hi hj e hg hj').keep fun g hg => Below.heap_setCell _ _ _ _ (h.lt i g hi hg).1

theorem PO.eqQ {w : World} {b : Nat} {F : Nat → Option Nat} {n : Nat} {Q Q' : Nat → Pol} (h : PO w b F n Q) (he : ∀ i, i < n → Q i = Q' i) : PO w b F n Q' :=
  ⟨h.row, fun i hi => by rw [← he i hi]; exact h.at_ i hi, h.lt, h.apart⟩

theorem wrapN {x y : Nat} (h : x ≤ 1099511627776) (e : y = x + 1) : wrap64 ((x : Int) + 1) = (y : Int) := by
  subst e
  unfold wrap64
  omega
theorem bnd {kj L : Nat} (h : kj + 2 + L + 1 ≤ 1099511627776) (h1 : 1 ≤ kj) : kj ≤ 1099511627776 ∧ kj + 1 ≤ 1099511627776 ∧ kj + 2 + L ≤ 1099511627776 ∧ kj ≠ 0 ∧ (kj : Int) ≤ 9223372036854775807 ∧ 1 ≤ kj + 2 := by omega

theorem bnds {kj L : Nat} (h : kj + 2 + L + 1 ≤ 1099511627776) : ∃ k1 k2 k3 k4, kj + 1 = k1 ∧ kj + 2 = k2 ∧ k2 + L = k3 ∧ k3 + 1 = k4 ∧ wrap64 ((kj : Int) + 1) = (k1 : Int) ∧ wrap64 ((k1 : Int) + 1) = (k2 : Int) ∧ wrap64 ((k3 : Int) + 1) = (k4 : Int) :=
  ⟨_, _, _, _, rfl, rfl, rfl, rfl, wrapN (by omega) rfl, wrapN (by omega) rfl, wrapN (by omega) rfl⟩

set_option maxRecDepth 100000 in
set_option maxHeartbeats 400000 in
theorem markQs (n b c k : Nat) (F : Nat → Option Nat) (Q : Nat → Pol) (w : World) (h1 : 1 ≤ k) (hk : kk Q k n ≤ 1099511627776) (h : PO w b F n Q) :
    Calls Try.prog 19 #[.slice (some ⟨b, 0, none⟩) n c, .int .i64 (k : Int)] w fun e w' => e = .returned (.int .i64 ((kk Q k n : Nat) : Int)) ∧ PO w' b F n (mQ Q k) ∧ Chg (Blk b F n) w w' := by
  have H := hide h
  have HKL : Hid (∀ i, i < n → kk Q k i + 2 + (Q i).l.length + 1 ≤ 1099511627776) := fun i hi => by
    have := kk_le Q k (i + 1) n hi
    simp only [kk] at this
    omega
  have HKG : Hid (∀ i, 1 ≤ kk Q k i) := fun i => by have := kk_ge Q k i; omega
  clear h
  have HN : Hid (n ≤ kk Q k n) := by
    show _ ≤ _
    have : ∀ m, m ≤ kk Q k m := fun m => by
      induction m with
      | zero => exact Nat.zero_le _
      | succ m ih => simp only [kk]; omega
    exact this n
  have hnb : n ≤ 1099511627776 := by have := unhide HN; omega
  go_enter Try.func19, Try.ntmps19
  go_wp2_with fail
  go_loopw [1, 5] (fun m i wr => ∃ j : Nat, m = .int .i64 ((kk Q k j : Nat) : Int) ∧ i = .int .i64 (j : Int) ∧ PO wr b F n (midQ Q k j) ∧ Chg (Blk b F n) w wr ∧ j ≤ n) (fun _ i _ => n - (intOf i).toNat)
  case atStart => exact ⟨0, rfl, rfl, (unhide H).eqQ fun i _ => by simp [midQ], Chg.refl _ _, by omega⟩
  case round =>
    obtain ⟨j, rfl, rfl, hpo, hch, hj⟩ := hrel
    have HP := hide hpo
    have HC := hide hch
    by_cases hp : j < n
    · have hkb := unhide HKL j hp
      have hkg := unhide HKG j
      have q2 : (j : Int) < (n : Int) := by omega
      have q3 : (0 : Int) ≤ (j : Int) := by omega
      have w1 : wrap64 ((j : Int) + 1) = ((j + 1 : Nat) : Int) := wrapN (by omega) rfl
      have hmid : midQ Q k j j = Q j := by simp [midQ]
      generalize hlen : (Q j).l.length = L at *
      have HLE := hide hlen
      have HKS : Hid (kk Q k (j + 1) = kk Q k j + 2 + L + 1) := by show _ = _; simp only [kk, hlen]
      have HQS : Hid (∀ i, i < n → (if i = j then (⟨mtx (kk Q k j), ((kk Q k j + 1 : Nat) : Int), markTx L (kk Q k j + 2), ((kk Q k j + 2 + L : Nat) : Int)⟩ : Pol) else midQ Q k j i) = midQ Q k (j + 1) i) := fun i hi => by
        by_cases e : i = j
        · subst e
          simp only [if_true, midQ, mQ, hlen, Nat.lt_succ_self]
        · rw [if_neg e]
          by_cases e2 : i < j
          · simp only [midQ, e2, if_true, if_pos (show i < j + 1 by omega)]
          · simp only [midQ, e2, if_false, if_neg (show ¬ i < j + 1 by omega)]
      generalize hkj : kk Q k j = kj at *
      obtain ⟨n1, n2, n3, n4, n5, n6⟩ := bnd hkb hkg
      have hc39 := hide (fun x cx v hv => markT (Q j).l x cx (kj + 2) (F j) v n6 (by rw [hlen]; exact n3) hv)
      rw [hlen] at hc39
      obtain ⟨k1, k2, k3, k4, hk1, hk2, hk3, hk4, w2, w3, w4⟩ := bnds hkb
      rw [hk2, hk3] at hc39
      rw [hk1, hk2, hk3] at HQS
      rw [hk2, hk3, hk4] at HKS
      have hc38 := hide (fun v => mark29 kj v n4 n5)
      clear n1 n2 n3 n4 n5 n6 hkb hkg hk1 hk2 hk3 hk4
      clear hpo hch
      go_wp2_with fail
      refine (unhide hc38 _).mono ?_
      rintro e wa ⟨rfl, hba⟩
      have HPA := hide ((unhide HP).on hba)
      have HCA := hide ((unhide HC).on hba)
      obtain ⟨x, cx, hx, hox⟩ := (unhide HPA).at_ j hp
      rw [hmid] at hx hox
      obtain ⟨C, r1, r2⟩ := (unhide HPA).row
      have c0 := hx 0 _ rfl
      have c1 := hx 1 _ rfl
      have c2 := hx 2 _ rfl
      rw [hlen] at c2
      rw [Nat.add_zero] at c0
      have f0 : wa.frozen? ⟨b, j * 4, none⟩ = false := frozen_of_row r1
      have f1 : wa.frozen? ⟨b, j * 4 + 1, none⟩ = false := frozen_of_row r1
      have HX := hide hx
      have hbF : ¬ F j = some b := fun e => ((unhide HPA).lt j b hp e).1 rfl
      have HOX : Hid (TxOwn ((wa.setCell ⟨b, j * 4, none⟩ (.string (mtx kj))).setCell ⟨b, j * 4 + 1, none⟩ (.int .i64 (k1 : Int))) x (Q j).l (F j)) := hox.keep fun g hg => by
        have : g ≠ b := fun e => hbF (by rw [hg, e])
        rw [Below.heap_setCell _ _ _ _ this, Below.heap_setCell _ _ _ _ this]
      have r1b : Hid (((wa.setCell ⟨b, j * 4, none⟩ (.string (mtx kj))).setCell ⟨b, j * 4 + 1, none⟩ (.int .i64 (k1 : Int))).heap[b]? = _) := heap_setCell_same _ b (j * 4 + 1) _ 27 (.int .i64 (k1 : Int)) (heap_setCell_same wa b (j * 4) C 27 (.string (mtx kj)) r1)
      have HR2 := hide r2
      have HBF := hide hbF
      clear hba hx hox r1 r2 hbF hmid hlen
      go_wp2_with fail
      refine (unhide hc39 _ _ _ (unhide HOX)).mono ?_
      rintro e w5 ⟨rfl, hox5, hch5⟩
      have HM := hide ((unhide HPA).mark hp (mtx kj) (k1 : Int) (k3 : Int) (L := markTx L k2) (x := x) (cap := cx) (by rw [show midQ Q k j j = Q j by simp [midQ]]; exact unhide HX) (by rw [markTx_length, show midQ Q k j j = Q j by simp [midQ], unhide HLE]) hch5 hox5)
      have r5 := (hch5.block b (Array.getElem?_eq_some_iff.1 (unhide r1b)).1 (unhide HBF)).trans (unhide r1b)
      have f3 : w5.frozen? ⟨b, j * 4 + 3, none⟩ = false := frozen_of_row r5
      obtain ⟨u3, c3⟩ : ∃ u3, w5.cell? ⟨b, j * 4 + 3, none⟩ = some u3 := ⟨_, cell_of_row (j := j * 4 + 3) r5 (by have := unhide HR2; simp; omega)⟩
      clear hox5 hch5 r5 c0 c1 c2 f0 f1
      go_wp2_with fail
      go_roundw
      case rel => exact ⟨j + 1, by rw [unhide HKS, w4], rfl, (unhide HM).1.eqQ (unhide HQS), (unhide HCA).trans (unhide HM).2, by omega⟩
      case measure => simp only [intOf]; omega
    · have q2 : ¬ (j : Int) < (n : Int) := by omega
      have hjn : j = n := by omega
      subst hjn
      clear hpo hch
      go_wp2_with fail
      go_ret
      exact ⟨rfl, (unhide HP).eqQ fun i hi => by simp [midQ, hi], unhide HC⟩

set_option maxRecDepth 100000 in
set_option maxHeartbeats 400000 in
theorem heldQs (n b c k : Nat) (F : Nat → Option Nat) (Q : Nat → Pol) (w : World) (h1 : 1 ≤ k) (hk : kk Q k n ≤ 1099511627776) (h : PO w b F n (mQ Q k)) :
    Calls Try.prog 24 #[.slice (some ⟨b, 0, none⟩) n c, .int .i64 (k : Int)] w fun e w' => e = .returned (.int .i64 ((kk Q k n : Nat) : Int)) ∧ Below w.heap.size w w' := by
  have H := hide h
  have HKL : Hid (∀ i, i < n → kk Q k i + 2 + (Q i).l.length + 1 ≤ 1099511627776) := fun i hi => by
    have := kk_le Q k (i + 1) n hi
    simp only [kk] at this
    omega
  have HKG : Hid (∀ i, 1 ≤ kk Q k i) := fun i => by have := kk_ge Q k i; omega
  clear h
  have HN : Hid (n ≤ kk Q k n) := by
    show _ ≤ _
    have : ∀ m, m ≤ kk Q k m := fun m => by
      induction m with
      | zero => exact Nat.zero_le _
      | succ m ih => simp only [kk]; omega
    exact this n
  have hnb : n ≤ 1099511627776 := by have := unhide HN; omega
  go_enter Try.func24, Try.ntmps24
  go_wp2_with fail
  go_loopw [1, 5] (fun m i wr => ∃ j : Nat, m = .int .i64 ((kk Q k j : Nat) : Int) ∧ i = .int .i64 (j : Int) ∧ Below w.heap.size w wr ∧ j ≤ n) (fun _ i _ => n - (intOf i).toNat)
  case atStart => exact ⟨0, rfl, rfl, Below.refl _ _, by omega⟩
  case round =>
    obtain ⟨j, rfl, rfl, hb, hj⟩ := hrel
    have HB := hide hb
    by_cases hp : j < n
    · have hkb := unhide HKL j hp
      have hkg := unhide HKG j
      obtain ⟨x, cx, hx, hox⟩ := ((unhide H).on hb).at_ j hp
      have q2 : (j : Int) < (n : Int) := by omega
      have q3 : (0 : Int) ≤ (j : Int) := by omega
      have w1 : wrap64 ((j : Int) + 1) = ((j + 1 : Nat) : Int) := wrapN (by omega) rfl
      have c0 := hx 0 _ rfl
      have c1 := hx 1 _ rfl
      have c2 := hx 2 _ rfl
      have c3 := hx 3 _ rfl
      rw [Nat.add_zero] at c0
      have ht := hox.txt
      simp only [mQ, markTx_length] at c0 c1 c2 c3 ht
      generalize hlen : (Q j).l.length = L at *
      have HKS : Hid (kk Q k (j + 1) = kk Q k j + 2 + L + 1) := by show _ = _; simp only [kk, hlen]
      generalize hkj : kk Q k j = kj at *
      obtain ⟨n1, n2, n3, n4, n5, n6⟩ := bnd hkb hkg
      have hc40 := hide (fun v hv => heldT L x cx (kj + 2) v n6 n3 hv)
      obtain ⟨k1, k2, k3, k4, hk1, hk2, hk3, hk4, w2, w3, w4⟩ := bnds hkb
      rw [hk2, hk3] at hc40
      rw [hk2, hk3, hk4] at HKS
      rw [hk1] at c1
      rw [hk2] at ht
      rw [hk2, hk3] at c3
      have hc38 := hide (fun v => mark29 kj v n4 n5)
      have HT := hide ht
      have q4 : ¬ (k3 : Int) < 0 := Int.not_lt.2 (Int.natCast_nonneg k3)
      clear n1 n2 n3 n4 n5 n6 hkb hkg hk1 hk2 hk3 hk4 hb hx hox ht hlen
      generalize mtx kj = M at *
      go_wp2_with fail
      go_region_held3 (fun y => y.cell? ⟨b, j * 4, none⟩ = some (.string M)) (go_keep) ((go_at_call 38; refine (unhide hc38 _).mono ?_; rintro e wa ⟨rfl, hb3⟩; have k0 := below_some (below_drewX hb3) c0; have k1' := below_some (below_drewX hb3) c1; have k2' := below_some (below_drewX hb3) c2; have k3' := below_some (below_drewX hb3) c3; have HT3 := hide ((unhide HT).on (below_drewX hb3)); have HB3 := hide (btP (unhide HB) (below_drewX hb3)); clear hb3))
      all_goals
        clear c0 c1 c2 c3
        go_wp2_with fail
        refine (unhide hc40 _ (unhide HT3)).mono ?_
        rintro e wc ⟨rfl, hbc⟩
        have m3 := below_some hbc k3'
        have HBC := hide (btP (unhide HB3) hbc)
        clear hbc
        go_wp2_with fail
        go_roundw
        case rel => exact ⟨j + 1, by rw [unhide HKS, w4], rfl, unhide HBC, by omega⟩
        case measure => simp only [intOf]; omega
    · have q2 : ¬ (j : Int) < (n : Int) := by omega
      have hjn : j = n := by omega
      subst hjn
      clear hb
      go_wp2_with fail
      go_ret
      exact ⟨rfl, unhide HB⟩

set_option maxRecDepth 100000 in
theorem markPo (l : List ByteArray) (d : ByteArray) (m : Int) (x : Option Addr) (c : Nat) (u : Int) (f : Option Nat) (w : World) (hl : l.length ≤ 2097152) (h : TxOwn w x l f) :
    Calls Try.prog 20 #[.agg #[.string d, .int .i64 m, .slice x l.length c, .int .i64 u], .int .i64 1] w fun e w' => e = .returned (.int .i64 ((1 + l.length : Nat) : Int)) ∧ TxOwn w' x (markTx l.length 1) f ∧ Chg (fun y => f = some y) w w' := by
  have hb0 := abP (w := w) (.cells #[.string d, .int .i64 m, .slice x l.length c, .int .i64 u] 27)
  have H39 : Hid (∀ v, TxOwn v x l f → Calls Try.prog 39 #[.slice x l.length c, .int .i64 1] v fun e w' => e = .returned (.int .i64 ((1 + l.length : Nat) : Int)) ∧ TxOwn w' x (markTx l.length 1) f ∧ Chg (fun y => f = some y) v w') := fun v hv => markT l x c 1 f v (Nat.le_refl _) (by omega) hv
  have HO := hide (h.on hb0)
  have HB := hide hb0
  clear h hb0 hl
  generalize l.length = L at *
  generalize 1 + L = L1 at *
  go_enter Try.func20, Try.ntmps20
  go_wp2_with fail
  refine (unhide H39 _ (unhide HO)).mono ?_
  rintro e w2 ⟨rfl, ho, hc⟩
  have HO2 := hide ho
  have HC2 := hide hc
  clear ho hc
  go_wp2_with fail
  go_ret
  exact ⟨rfl, unhide HO2, (Chg.of_below (unhide HB)).trans (unhide HC2)⟩

set_option maxRecDepth 100000 in
theorem heldPo (L : Nat) (d : ByteArray) (m : Int) (x : Option Addr) (c : Nat) (u : Int) (w : World) (hl : L ≤ 2097152) (h : Txt w 0 x (markTx L 1)) :
    Calls Try.prog 21 #[.agg #[.string d, .int .i64 m, .slice x L c, .int .i64 u], .int .i64 1] w fun e w' => e = .returned (.int .i64 ((1 + L : Nat) : Int)) ∧ Below w.heap.size w w' := by
  have hb0 := abP (w := w) (.cells #[.string d, .int .i64 m, .slice x L c, .int .i64 u] 27)
  have H40 : Hid (∀ v, Txt v 0 x (markTx L 1) → Calls Try.prog 40 #[.slice x L c, .int .i64 1] v fun e w' => e = .returned (.int .i64 ((1 + L : Nat) : Int)) ∧ Below v.heap.size v w') := fun v hv => heldT L x c 1 v (Nat.le_refl _) (by omega) hv
  have HO := hide (h.on hb0)
  have HB := hide hb0
  clear h hb0 hl
  generalize 1 + L = L1 at *
  have q : ¬ (L1 : Int) < 0 := by omega
  go_enter Try.func21, Try.ntmps21
  go_wp2_with fail
  refine (unhide H40 _ (unhide HO)).mono ?_
  rintro e w2 ⟨rfl, hb2⟩
  have HB2 := hide (btP (unhide HB) hb2)
  clear hb2
  go_wp2_with fail
  go_ret
  exact ⟨rfl, unhide HB2⟩

end Go.Proofs.Ytdcfkbnppbeahaa
