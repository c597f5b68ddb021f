
/- The walk of spec.TermText at a term with kids. -/
import Derived.Test.YtpniekfalckdcaaDoorTz
namespace Go.Proofs.YtpniekfalckdcaaDoor
open Go.RowKit Go.Deep

theorem wt_mem {t : Tm} {ks : List Tm} (h : t ∈ ks) : t.wt ≤ Tm.wts ks := by
  induction ks with
  | nil => cases h
  | cons x r ih =>
    simp only [Tm.wts]
    rcases List.mem_cons.1 h with rfl | h
    · omega
    · have := ih h; omega
theorem sizes_take (ks : List Tm) (j : Nat) : Tm.sizes (ks.take j) ≤ Tm.sizes ks := by
  have := Tm.sizes_append (ks.take j) (ks.drop j)
  rw [List.take_append_drop] at this
  omega
theorem wts_take (ks : List Tm) (j : Nat) : Tm.wts (ks.take j) ≤ Tm.wts ks := by
  have := Tm.wts_append (ks.take j) (ks.drop j)
  rw [List.take_append_drop] at this
  omega
theorem lies_take {w : World} {L : Nat} {a : Option Addr} {ks : List Tm} (h : LiesAll w L a 0 ks) (j : Nat) : LiesAll w L a 0 (ks.take j) :=
  LiesAll.mk fun k t hk => h.get (by
    rw [List.getElem?_take] at hk
    split at hk
    · exact hk
    · cases hk)

set_option maxRecDepth 100000 in
set_option maxHeartbeats 2000000 in
theorem tx_kids3 (ks : List Tm) (hkids : ∀ x ∈ ks, TxOk x) (n : Int) (s : ByteArray) (a : Option Addr) (len cap : Nat) (w : World) (hk : LiesAll w 0 a 0 ks) (hlen : ks.length = len) (hsz : Tm.sizes ks ≤ 2097152) (hwt : ks.length + Tm.wts ks ≤ 2097152) :
    Calls Tryd.prog 20 #[.agg #[.int .i64 3, .int .i64 n, .string s, .slice a len cap]] w fun e w' => e = .returned (.string ⟨([112, 97, 105, 114] ++ (40 :: (textF true ks ++ [41]))).toArray⟩) ∧ Below w.heap.size w w' := by
  have hi := in26 3 3 8
  rw [show inB 3 3 8 = true from by decide] at hi
  have HI := hide hi
  have hlb : len ≤ 2097152 := by omega
  have HL := hide hlen
  have HK := hide hk
  have HKI := hide hkids
  have HZ : Hid (∀ j (hj : j < ks.length), (ks[j]).size ≤ 2097152 ∧ (ks[j]).wt ≤ 2097152) := fun j hj => ⟨by have := Tm.size_mem (List.getElem_mem hj); omega, by have := wt_mem (List.getElem_mem hj); omega⟩
  have HT : Hid (∀ j, (textF true (ks.take j)).length ≤ 60000000) := fun j => by
    have := textF_length true a 0 (ks.take j) (lies_take hk j)
    have h1 := sizes_take ks j
    have h2 := wts_take ks j
    have h3 : (ks.take j).length ≤ ks.length := by simp; omega
    show _ ≤ _
    omega
  have HTT : Hid (∀ j (hj : j < ks.length), (textT ks[j]).length ≤ 60000000) := fun j hj => by
    obtain ⟨b, o, cs, _, _, _, hl⟩ := hk.get (k := j) (t := ks[j]) (by simp [hj])
    have := textT_length _ _ hl
    have h1 := Tm.size_mem (List.getElem_mem hj)
    have h2 := wt_mem (List.getElem_mem hj)
    show _ ≤ _
    omega
  clear hi hk hkids hsz hwt hlen
  go_enter Tryd.func20, Tryd.ntmps20
  go_wp2_with fail
  refine (unhide HI _).mono ?_
  rintro e w2 ⟨rfl, rfl⟩
  go_wp2_with fail
  go_loopw [4, 5] (fun x i wr => ∃ (j : Nat) (l : List UInt8), j ≤ len ∧ i = .int .i64 j ∧ x = .string ⟨l.toArray⟩ ∧ l = [112, 97, 105, 114] ++ (40 :: textF true (ks.take j)) ∧ wr.cell? ⟨w.heap.size, 3, none⟩ = some (.slice a len cap) ∧ Below w.heap.size w wr) (fun _ i _ => len - (intOf i).toNat)
  case atStart => exact ⟨0, [112, 97, 105, 114] ++ [40], Nat.zero_le _, rfl, by rw [← cat_list], by simp [textF], keepc ((Below.refl _ _).alloc (Nat.le_refl _) _) (box_cell w #[.int .i64 3, .int .i64 n, .string s, .slice a len cap] 26 3 _ rfl), below_alloc2 _ _ _⟩
  case round =>
    obtain ⟨j, l, hj, rfl, rfl, hl, b3, hb⟩ := hrel
    have hll : l.length ≤ 60000010 := by have := unhide HT j; rw [hl]; simp only [List.length_append, List.length_cons, List.length_nil]; omega
    have HLL := hide hl
    clear hl
    by_cases hlt : j < len
    · have g1 : j < ks.length := by have := unhide HL; omega
      obtain ⟨b, o, y0, y1, y2, y3, y4, y5, rfl, _, _, c0, c1, c2, c3, hT⟩ := (unhide HK).elem (k := j) g1
      have c0 := keepc hb c0
      have c1 := keepc hb c1
      have c2 := keepc hb c2
      have c3 := keepc hb c3
      have HCT := hide (unhide HKI ks[j] (List.getElem_mem g1) y0 y1 y2 y3 y4 y5)
      have HTk := hide (hT.below hb)
      have HZk := hide (unhide HZ j g1)
      have hln := unhide HTT j g1
      have HS : Hid (textF true (ks.take (j + 1)) = textF true (ks.take j) ++ ((if true = true ∧ ks.take j = [] then [] else [44]) ++ textT ks[j])) := by
        show _ = _
        rw [Tm.take_succ_get (t := ks[j]) (by simp [g1]), textF_snoc]
      have HN : Hid (ks.take j = [] ↔ j = 0) := by
        show _ ↔ _
        cases ks with
        | nil => simp at g1
        | cons x r => simp
      clear hT HK HKI HZ HT HTT
      generalize ks[j] = tk at *
      clear g1
      generalize textT tk = tt at *
      have hml : (j : Int) < (len : Int) := by omega
      have HBB := hide hb
      clear hb
      by_cases hj0 : j = 0
      · subst hj0
        rw [Nat.zero_mul, Nat.add_zero] at c0 c1 c2 c3
        go_wp2_with fail
        refine (unhide HCT _ (unhide HTk) (unhide HZk).1 (unhide HZk).2).mono ?_
        rintro e w3 ⟨rfl, hb3⟩
        have b3 := keepc hb3 b3
        have HB3 := hide ((unhide HBB).trans (hb3.mono (unhide HBB).size))
        clear hb3
        go_wp2_with fail
        go_roundw
        case rel => exact ⟨0 + 1, l ++ tt, by omega, by go_num, by rw [← cat_list], by rw [unhide HLL, unhide HS]; simp, b3, unhide HB3⟩
        case measure => simp [intOf]; omega
      · have hjp : (0 : Int) < (j : Int) := by omega
        go_wp2_with fail
        refine (unhide HCT _ (unhide HTk) (unhide HZk).1 (unhide HZk).2).mono ?_
        rintro e w3 ⟨rfl, hb3⟩
        have b3 := keepc hb3 b3
        have HB3 := hide ((unhide HBB).trans (hb3.mono (unhide HBB).size))
        clear hb3
        go_wp2_with fail
        go_roundw
        case rel => exact ⟨j + 1, l ++ [44] ++ tt, by omega, by go_num, by rw [← cat_list, ← cat_list], by rw [unhide HLL, unhide HS, if_neg (fun e => hj0 ((unhide HN).1 e.2))]; simp, b3, unhide HB3⟩
        case measure => simp [intOf]; omega
    · go_wp2_with fail
      go_ret
      exact ⟨ret_str ((cat_list l [41]).trans (by rw [unhide HLL, List.take_of_length_le (by have := unhide HL; omega)]; simp)), hb⟩

set_option maxRecDepth 100000 in
set_option maxHeartbeats 2000000 in
theorem tx_kids4 (ks : List Tm) (hkids : ∀ x ∈ ks, TxOk x) (n : Int) (s : ByteArray) (a : Option Addr) (len cap : Nat) (w : World) (hk : LiesAll w 0 a 0 ks) (hlen : ks.length = len) (hsz : Tm.sizes ks ≤ 2097152) (hwt : ks.length + Tm.wts ks ≤ 2097152) :
    Calls Tryd.prog 20 #[.agg #[.int .i64 4, .int .i64 n, .string s, .slice a len cap]] w fun e w' => e = .returned (.string ⟨([112, 117, 98] ++ (40 :: (textF true ks ++ [41]))).toArray⟩) ∧ Below w.heap.size w w' := by
  have hi := in26 4 3 8
  rw [show inB 4 3 8 = true from by decide] at hi
  have HI := hide hi
  have hlb : len ≤ 2097152 := by omega
  have HL := hide hlen
  have HK := hide hk
  have HKI := hide hkids
  have HZ : Hid (∀ j (hj : j < ks.length), (ks[j]).size ≤ 2097152 ∧ (ks[j]).wt ≤ 2097152) := fun j hj => ⟨by have := Tm.size_mem (List.getElem_mem hj); omega, by have := wt_mem (List.getElem_mem hj); omega⟩
  have HT : Hid (∀ j, (textF true (ks.take j)).length ≤ 60000000) := fun j => by
    have := textF_length true a 0 (ks.take j) (lies_take hk j)
    have h1 := sizes_take ks j
    have h2 := wts_take ks j
    have h3 : (ks.take j).length ≤ ks.length := by simp; omega
    show _ ≤ _
    omega
  have HTT : Hid (∀ j (hj : j < ks.length), (textT ks[j]).length ≤ 60000000) := fun j hj => by
    obtain ⟨b, o, cs, _, _, _, hl⟩ := hk.get (k := j) (t := ks[j]) (by simp [hj])
    have := textT_length _ _ hl
    have h1 := Tm.size_mem (List.getElem_mem hj)
    have h2 := wt_mem (List.getElem_mem hj)
    show _ ≤ _
    omega
  clear hi hk hkids hsz hwt hlen
  go_enter Tryd.func20, Tryd.ntmps20
  go_wp2_with fail
  refine (unhide HI _).mono ?_
  rintro e w2 ⟨rfl, rfl⟩
  go_wp2_with fail
  go_loopw [4, 5] (fun x i wr => ∃ (j : Nat) (l : List UInt8), j ≤ len ∧ i = .int .i64 j ∧ x = .string ⟨l.toArray⟩ ∧ l = [112, 117, 98] ++ (40 :: textF true (ks.take j)) ∧ wr.cell? ⟨w.heap.size, 3, none⟩ = some (.slice a len cap) ∧ Below w.heap.size w wr) (fun _ i _ => len - (intOf i).toNat)
  case atStart => exact ⟨0, [112, 117, 98] ++ [40], Nat.zero_le _, rfl, by rw [← cat_list], by simp [textF], keepc ((Below.refl _ _).alloc (Nat.le_refl _) _) (box_cell w #[.int .i64 4, .int .i64 n, .string s, .slice a len cap] 26 3 _ rfl), below_alloc2 _ _ _⟩
  case round =>
    obtain ⟨j, l, hj, rfl, rfl, hl, b3, hb⟩ := hrel
    have hll : l.length ≤ 60000010 := by have := unhide HT j; rw [hl]; simp only [List.length_append, List.length_cons, List.length_nil]; omega
    have HLL := hide hl
    clear hl
    by_cases hlt : j < len
    · have g1 : j < ks.length := by have := unhide HL; omega
      obtain ⟨b, o, y0, y1, y2, y3, y4, y5, rfl, _, _, c0, c1, c2, c3, hT⟩ := (unhide HK).elem (k := j) g1
      have c0 := keepc hb c0
      have c1 := keepc hb c1
      have c2 := keepc hb c2
      have c3 := keepc hb c3
      have HCT := hide (unhide HKI ks[j] (List.getElem_mem g1) y0 y1 y2 y3 y4 y5)
      have HTk := hide (hT.below hb)
      have HZk := hide (unhide HZ j g1)
      have hln := unhide HTT j g1
      have HS : Hid (textF true (ks.take (j + 1)) = textF true (ks.take j) ++ ((if true = true ∧ ks.take j = [] then [] else [44]) ++ textT ks[j])) := by
        show _ = _
        rw [Tm.take_succ_get (t := ks[j]) (by simp [g1]), textF_snoc]
      have HN : Hid (ks.take j = [] ↔ j = 0) := by
        show _ ↔ _
        cases ks with
        | nil => simp at g1
        | cons x r => simp
      clear hT HK HKI HZ HT HTT
      generalize ks[j] = tk at *
      clear g1
      generalize textT tk = tt at *
      have hml : (j : Int) < (len : Int) := by omega
      have HBB := hide hb
      clear hb
      by_cases hj0 : j = 0
      · subst hj0
        rw [Nat.zero_mul, Nat.add_zero] at c0 c1 c2 c3
        go_wp2_with fail
        refine (unhide HCT _ (unhide HTk) (unhide HZk).1 (unhide HZk).2).mono ?_
        rintro e w3 ⟨rfl, hb3⟩
        have b3 := keepc hb3 b3
        have HB3 := hide ((unhide HBB).trans (hb3.mono (unhide HBB).size))
        clear hb3
        go_wp2_with fail
        go_roundw
        case rel => exact ⟨0 + 1, l ++ tt, by omega, by go_num, by rw [← cat_list], by rw [unhide HLL, unhide HS]; simp, b3, unhide HB3⟩
        case measure => simp [intOf]; omega
      · have hjp : (0 : Int) < (j : Int) := by omega
        go_wp2_with fail
        refine (unhide HCT _ (unhide HTk) (unhide HZk).1 (unhide HZk).2).mono ?_
        rintro e w3 ⟨rfl, hb3⟩
        have b3 := keepc hb3 b3
        have HB3 := hide ((unhide HBB).trans (hb3.mono (unhide HBB).size))
        clear hb3
        go_wp2_with fail
        go_roundw
        case rel => exact ⟨j + 1, l ++ [44] ++ tt, by omega, by go_num, by rw [← cat_list, ← cat_list], by rw [unhide HLL, unhide HS, if_neg (fun e => hj0 ((unhide HN).1 e.2))]; simp, b3, unhide HB3⟩
        case measure => simp [intOf]; omega
    · go_wp2_with fail
      go_ret
      exact ⟨ret_str ((cat_list l [41]).trans (by rw [unhide HLL, List.take_of_length_le (by have := unhide HL; omega)]; simp)), hb⟩

set_option maxRecDepth 100000 in
set_option maxHeartbeats 2000000 in
theorem tx_kids5 (ks : List Tm) (hkids : ∀ x ∈ ks, TxOk x) (n : Int) (s : ByteArray) (a : Option Addr) (len cap : Nat) (w : World) (hk : LiesAll w 0 a 0 ks) (hlen : ks.length = len) (hsz : Tm.sizes ks ≤ 2097152) (hwt : ks.length + Tm.wts ks ≤ 2097152) :
    Calls Tryd.prog 20 #[.agg #[.int .i64 5, .int .i64 n, .string s, .slice a len cap]] w fun e w' => e = .returned (.string ⟨([115, 104, 97, 114, 101] ++ (40 :: (textF true ks ++ [41]))).toArray⟩) ∧ Below w.heap.size w w' := by
  have hi := in26 5 3 8
  rw [show inB 5 3 8 = true from by decide] at hi
  have HI := hide hi
  have hlb : len ≤ 2097152 := by omega
  have HL := hide hlen
  have HK := hide hk
  have HKI := hide hkids
  have HZ : Hid (∀ j (hj : j < ks.length), (ks[j]).size ≤ 2097152 ∧ (ks[j]).wt ≤ 2097152) := fun j hj => ⟨by have := Tm.size_mem (List.getElem_mem hj); omega, by have := wt_mem (List.getElem_mem hj); omega⟩
  have HT : Hid (∀ j, (textF true (ks.take j)).length ≤ 60000000) := fun j => by
    have := textF_length true a 0 (ks.take j) (lies_take hk j)
    have h1 := sizes_take ks j
    have h2 := wts_take ks j
    have h3 : (ks.take j).length ≤ ks.length := by simp; omega
    show _ ≤ _
    omega
  have HTT : Hid (∀ j (hj : j < ks.length), (textT ks[j]).length ≤ 60000000) := fun j hj => by
    obtain ⟨b, o, cs, _, _, _, hl⟩ := hk.get (k := j) (t := ks[j]) (by simp [hj])
    have := textT_length _ _ hl
    have h1 := Tm.size_mem (List.getElem_mem hj)
    have h2 := wt_mem (List.getElem_mem hj)
    show _ ≤ _
    omega
  clear hi hk hkids hsz hwt hlen
  go_enter Tryd.func20, Tryd.ntmps20
  go_wp2_with fail
  refine (unhide HI _).mono ?_
  rintro e w2 ⟨rfl, rfl⟩
  go_wp2_with fail
  go_loopw [4, 5] (fun x i wr => ∃ (j : Nat) (l : List UInt8), j ≤ len ∧ i = .int .i64 j ∧ x = .string ⟨l.toArray⟩ ∧ l = [115, 104, 97, 114, 101] ++ (40 :: textF true (ks.take j)) ∧ wr.cell? ⟨w.heap.size, 3, none⟩ = some (.slice a len cap) ∧ Below w.heap.size w wr) (fun _ i _ => len - (intOf i).toNat)
  case atStart => exact ⟨0, [115, 104, 97, 114, 101] ++ [40], Nat.zero_le _, rfl, by rw [← cat_list], by simp [textF], keepc ((Below.refl _ _).alloc (Nat.le_refl _) _) (box_cell w #[.int .i64 5, .int .i64 n, .string s, .slice a len cap] 26 3 _ rfl), below_alloc2 _ _ _⟩
  case round =>
    obtain ⟨j, l, hj, rfl, rfl, hl, b3, hb⟩ := hrel
    have hll : l.length ≤ 60000010 := by have := unhide HT j; rw [hl]; simp only [List.length_append, List.length_cons, List.length_nil]; omega
    have HLL := hide hl
    clear hl
    by_cases hlt : j < len
    · have g1 : j < ks.length := by have := unhide HL; omega
      obtain ⟨b, o, y0, y1, y2, y3, y4, y5, rfl, _, _, c0, c1, c2, c3, hT⟩ := (unhide HK).elem (k := j) g1
      have c0 := keepc hb c0
      have c1 := keepc hb c1
      have c2 := keepc hb c2
      have c3 := keepc hb c3
      have HCT := hide (unhide HKI ks[j] (List.getElem_mem g1) y0 y1 y2 y3 y4 y5)
      have HTk := hide (hT.below hb)
      have HZk := hide (unhide HZ j g1)
      have hln := unhide HTT j g1
      have HS : Hid (textF true (ks.take (j + 1)) = textF true (ks.take j) ++ ((if true = true ∧ ks.take j = [] then [] else [44]) ++ textT ks[j])) := by
        show _ = _
        rw [Tm.take_succ_get (t := ks[j]) (by simp [g1]), textF_snoc]
      have HN : Hid (ks.take j = [] ↔ j = 0) := by
        show _ ↔ _
        cases ks with
        | nil => simp at g1
        | cons x r => simp
      clear hT HK HKI HZ HT HTT
      generalize ks[j] = tk at *
      clear g1
      generalize textT tk = tt at *
      have hml : (j : Int) < (len : Int) := by omega
      have HBB := hide hb
      clear hb
      by_cases hj0 : j = 0
      · subst hj0
        rw [Nat.zero_mul, Nat.add_zero] at c0 c1 c2 c3
        go_wp2_with fail
        refine (unhide HCT _ (unhide HTk) (unhide HZk).1 (unhide HZk).2).mono ?_
        rintro e w3 ⟨rfl, hb3⟩
        have b3 := keepc hb3 b3
        have HB3 := hide ((unhide HBB).trans (hb3.mono (unhide HBB).size))
        clear hb3
        go_wp2_with fail
        go_roundw
        case rel => exact ⟨0 + 1, l ++ tt, by omega, by go_num, by rw [← cat_list], by rw [unhide HLL, unhide HS]; simp, b3, unhide HB3⟩
        case measure => simp [intOf]; omega
      · have hjp : (0 : Int) < (j : Int) := by omega
        go_wp2_with fail
        refine (unhide HCT _ (unhide HTk) (unhide HZk).1 (unhide HZk).2).mono ?_
        rintro e w3 ⟨rfl, hb3⟩
        have b3 := keepc hb3 b3
        have HB3 := hide ((unhide HBB).trans (hb3.mono (unhide HBB).size))
        clear hb3
        go_wp2_with fail
        go_roundw
        case rel => exact ⟨j + 1, l ++ [44] ++ tt, by omega, by go_num, by rw [← cat_list, ← cat_list], by rw [unhide HLL, unhide HS, if_neg (fun e => hj0 ((unhide HN).1 e.2))]; simp, b3, unhide HB3⟩
        case measure => simp [intOf]; omega
    · go_wp2_with fail
      go_ret
      exact ⟨ret_str ((cat_list l [41]).trans (by rw [unhide HLL, List.take_of_length_le (by have := unhide HL; omega)]; simp)), hb⟩

set_option maxRecDepth 100000 in
set_option maxHeartbeats 2000000 in
theorem tx_kids6 (ks : List Tm) (hkids : ∀ x ∈ ks, TxOk x) (n : Int) (s : ByteArray) (a : Option Addr) (len cap : Nat) (w : World) (hk : LiesAll w 0 a 0 ks) (hlen : ks.length = len) (hsz : Tm.sizes ks ≤ 2097152) (hwt : ks.length + Tm.wts ks ≤ 2097152) :
    Calls Tryd.prog 20 #[.agg #[.int .i64 6, .int .i64 n, .string s, .slice a len cap]] w fun e w' => e = .returned (.string ⟨([104, 97, 115, 104] ++ (40 :: (textF true ks ++ [41]))).toArray⟩) ∧ Below w.heap.size w w' := by
  have hi := in26 6 3 8
  rw [show inB 6 3 8 = true from by decide] at hi
  have HI := hide hi
  have hlb : len ≤ 2097152 := by omega
  have HL := hide hlen
  have HK := hide hk
  have HKI := hide hkids
  have HZ : Hid (∀ j (hj : j < ks.length), (ks[j]).size ≤ 2097152 ∧ (ks[j]).wt ≤ 2097152) := fun j hj => ⟨by have := Tm.size_mem (List.getElem_mem hj); omega, by have := wt_mem (List.getElem_mem hj); omega⟩
  have HT : Hid (∀ j, (textF true (ks.take j)).length ≤ 60000000) := fun j => by
    have := textF_length true a 0 (ks.take j) (lies_take hk j)
    have h1 := sizes_take ks j
    have h2 := wts_take ks j
    have h3 : (ks.take j).length ≤ ks.length := by simp; omega
    show _ ≤ _
    omega
  have HTT : Hid (∀ j (hj : j < ks.length), (textT ks[j]).length ≤ 60000000) := fun j hj => by
    obtain ⟨b, o, cs, _, _, _, hl⟩ := hk.get (k := j) (t := ks[j]) (by simp [hj])
    have := textT_length _ _ hl
    have h1 := Tm.size_mem (List.getElem_mem hj)
    have h2 := wt_mem (List.getElem_mem hj)
    show _ ≤ _
    omega
  clear hi hk hkids hsz hwt hlen
  go_enter Tryd.func20, Tryd.ntmps20
  go_wp2_with fail
  refine (unhide HI _).mono ?_
  rintro e w2 ⟨rfl, rfl⟩
  go_wp2_with fail
  go_loopw [4, 5] (fun x i wr => ∃ (j : Nat) (l : List UInt8), j ≤ len ∧ i = .int .i64 j ∧ x = .string ⟨l.toArray⟩ ∧ l = [104, 97, 115, 104] ++ (40 :: textF true (ks.take j)) ∧ wr.cell? ⟨w.heap.size, 3, none⟩ = some (.slice a len cap) ∧ Below w.heap.size w wr) (fun _ i _ => len - (intOf i).toNat)
  case atStart => exact ⟨0, [104, 97, 115, 104] ++ [40], Nat.zero_le _, rfl, by rw [← cat_list], by simp [textF], keepc ((Below.refl _ _).alloc (Nat.le_refl _) _) (box_cell w #[.int .i64 6, .int .i64 n, .string s, .slice a len cap] 26 3 _ rfl), below_alloc2 _ _ _⟩
  case round =>
    obtain ⟨j, l, hj, rfl, rfl, hl, b3, hb⟩ := hrel
    have hll : l.length ≤ 60000010 := by have := unhide HT j; rw [hl]; simp only [List.length_append, List.length_cons, List.length_nil]; omega
    have HLL := hide hl
    clear hl
    by_cases hlt : j < len
    · have g1 : j < ks.length := by have := unhide HL; omega
      obtain ⟨b, o, y0, y1, y2, y3, y4, y5, rfl, _, _, c0, c1, c2, c3, hT⟩ := (unhide HK).elem (k := j) g1
      have c0 := keepc hb c0
      have c1 := keepc hb c1
      have c2 := keepc hb c2
      have c3 := keepc hb c3
      have HCT := hide (unhide HKI ks[j] (List.getElem_mem g1) y0 y1 y2 y3 y4 y5)
      have HTk := hide (hT.below hb)
      have HZk := hide (unhide HZ j g1)
      have hln := unhide HTT j g1
      have HS : Hid (textF true (ks.take (j + 1)) = textF true (ks.take j) ++ ((if true = true ∧ ks.take j = [] then [] else [44]) ++ textT ks[j])) := by
        show _ = _
        rw [Tm.take_succ_get (t := ks[j]) (by simp [g1]), textF_snoc]
      have HN : Hid (ks.take j = [] ↔ j = 0) := by
        show _ ↔ _
        cases ks with
        | nil => simp at g1
        | cons x r => simp
      clear hT HK HKI HZ HT HTT
      generalize ks[j] = tk at *
      clear g1
      generalize textT tk = tt at *
      have hml : (j : Int) < (len : Int) := by omega
      have HBB := hide hb
      clear hb
      by_cases hj0 : j = 0
      · subst hj0
        rw [Nat.zero_mul, Nat.add_zero] at c0 c1 c2 c3
        go_wp2_with fail
        refine (unhide HCT _ (unhide HTk) (unhide HZk).1 (unhide HZk).2).mono ?_
        rintro e w3 ⟨rfl, hb3⟩
        have b3 := keepc hb3 b3
        have HB3 := hide ((unhide HBB).trans (hb3.mono (unhide HBB).size))
        clear hb3
        go_wp2_with fail
        go_roundw
        case rel => exact ⟨0 + 1, l ++ tt, by omega, by go_num, by rw [← cat_list], by rw [unhide HLL, unhide HS]; simp, b3, unhide HB3⟩
        case measure => simp [intOf]; omega
      · have hjp : (0 : Int) < (j : Int) := by omega
        go_wp2_with fail
        refine (unhide HCT _ (unhide HTk) (unhide HZk).1 (unhide HZk).2).mono ?_
        rintro e w3 ⟨rfl, hb3⟩
        have b3 := keepc hb3 b3
        have HB3 := hide ((unhide HBB).trans (hb3.mono (unhide HBB).size))
        clear hb3
        go_wp2_with fail
        go_roundw
        case rel => exact ⟨j + 1, l ++ [44] ++ tt, by omega, by go_num, by rw [← cat_list, ← cat_list], by rw [unhide HLL, unhide HS, if_neg (fun e => hj0 ((unhide HN).1 e.2))]; simp, b3, unhide HB3⟩
        case measure => simp [intOf]; omega
    · go_wp2_with fail
      go_ret
      exact ⟨ret_str ((cat_list l [41]).trans (by rw [unhide HLL, List.take_of_length_le (by have := unhide HL; omega)]; simp)), hb⟩

set_option maxRecDepth 100000 in
set_option maxHeartbeats 2000000 in
theorem tx_kids7 (ks : List Tm) (hkids : ∀ x ∈ ks, TxOk x) (n : Int) (s : ByteArray) (a : Option Addr) (len cap : Nat) (w : World) (hk : LiesAll w 0 a 0 ks) (hlen : ks.length = len) (hsz : Tm.sizes ks ≤ 2097152) (hwt : ks.length + Tm.wts ks ≤ 2097152) :
    Calls Tryd.prog 20 #[.agg #[.int .i64 7, .int .i64 n, .string s, .slice a len cap]] w fun e w' => e = .returned (.string ⟨([115, 101, 97, 108] ++ (40 :: (textF true ks ++ [41]))).toArray⟩) ∧ Below w.heap.size w w' := by
  have hi := in26 7 3 8
  rw [show inB 7 3 8 = true from by decide] at hi
  have HI := hide hi
  have hlb : len ≤ 2097152 := by omega
  have HL := hide hlen
  have HK := hide hk
  have HKI := hide hkids
  have HZ : Hid (∀ j (hj : j < ks.length), (ks[j]).size ≤ 2097152 ∧ (ks[j]).wt ≤ 2097152) := fun j hj => ⟨by have := Tm.size_mem (List.getElem_mem hj); omega, by have := wt_mem (List.getElem_mem hj); omega⟩
  have HT : Hid (∀ j, (textF true (ks.take j)).length ≤ 60000000) := fun j => by
    have := textF_length true a 0 (ks.take j) (lies_take hk j)
    have h1 := sizes_take ks j
    have h2 := wts_take ks j
    have h3 : (ks.take j).length ≤ ks.length := by simp; omega
    show _ ≤ _
    omega
  have HTT : Hid (∀ j (hj : j < ks.length), (textT ks[j]).length ≤ 60000000) := fun j hj => by
    obtain ⟨b, o, cs, _, _, _, hl⟩ := hk.get (k := j) (t := ks[j]) (by simp [hj])
    have := textT_length _ _ hl
    have h1 := Tm.size_mem (List.getElem_mem hj)
    have h2 := wt_mem (List.getElem_mem hj)
    show _ ≤ _
    omega
  clear hi hk hkids hsz hwt hlen
  go_enter Tryd.func20, Tryd.ntmps20
  go_wp2_with fail
  refine (unhide HI _).mono ?_
  rintro e w2 ⟨rfl, rfl⟩
  go_wp2_with fail
  go_loopw [4, 5] (fun x i wr => ∃ (j : Nat) (l : List UInt8), j ≤ len ∧ i = .int .i64 j ∧ x = .string ⟨l.toArray⟩ ∧ l = [115, 101, 97, 108] ++ (40 :: textF true (ks.take j)) ∧ wr.cell? ⟨w.heap.size, 3, none⟩ = some (.slice a len cap) ∧ Below w.heap.size w wr) (fun _ i _ => len - (intOf i).toNat)
  case atStart => exact ⟨0, [115, 101, 97, 108] ++ [40], Nat.zero_le _, rfl, by rw [← cat_list], by simp [textF], keepc ((Below.refl _ _).alloc (Nat.le_refl _) _) (box_cell w #[.int .i64 7, .int .i64 n, .string s, .slice a len cap] 26 3 _ rfl), below_alloc2 _ _ _⟩
  case round =>
    obtain ⟨j, l, hj, rfl, rfl, hl, b3, hb⟩ := hrel
    have hll : l.length ≤ 60000010 := by have := unhide HT j; rw [hl]; simp only [List.length_append, List.length_cons, List.length_nil]; omega
    have HLL := hide hl
    clear hl
    by_cases hlt : j < len
    · have g1 : j < ks.length := by have := unhide HL; omega
      obtain ⟨b, o, y0, y1, y2, y3, y4, y5, rfl, _, _, c0, c1, c2, c3, hT⟩ := (unhide HK).elem (k := j) g1
      have c0 := keepc hb c0
      have c1 := keepc hb c1
      have c2 := keepc hb c2
      have c3 := keepc hb c3
      have HCT := hide (unhide HKI ks[j] (List.getElem_mem g1) y0 y1 y2 y3 y4 y5)
      have HTk := hide (hT.below hb)
      have HZk := hide (unhide HZ j g1)
      have hln := unhide HTT j g1
      have HS : Hid (textF true (ks.take (j + 1)) = textF true (ks.take j) ++ ((if true = true ∧ ks.take j = [] then [] else [44]) ++ textT ks[j])) := by
        show _ = _
        rw [Tm.take_succ_get (t := ks[j]) (by simp [g1]), textF_snoc]
      have HN : Hid (ks.take j = [] ↔ j = 0) := by
        show _ ↔ _
        cases ks with
        | nil => simp at g1
        | cons x r => simp
      clear hT HK HKI HZ HT HTT
      generalize ks[j] = tk at *
      clear g1
      generalize textT tk = tt at *
      have hml : (j : Int) < (len : Int) := by omega
      have HBB := hide hb
      clear hb
      by_cases hj0 : j = 0
      · subst hj0
        rw [Nat.zero_mul, Nat.add_zero] at c0 c1 c2 c3
        go_wp2_with fail
        refine (unhide HCT _ (unhide HTk) (unhide HZk).1 (unhide HZk).2).mono ?_
        rintro e w3 ⟨rfl, hb3⟩
        have b3 := keepc hb3 b3
        have HB3 := hide ((unhide HBB).trans (hb3.mono (unhide HBB).size))
        clear hb3
        go_wp2_with fail
        go_roundw
        case rel => exact ⟨0 + 1, l ++ tt, by omega, by go_num, by rw [← cat_list], by rw [unhide HLL, unhide HS]; simp, b3, unhide HB3⟩
        case measure => simp [intOf]; omega
      · have hjp : (0 : Int) < (j : Int) := by omega
        go_wp2_with fail
        refine (unhide HCT _ (unhide HTk) (unhide HZk).1 (unhide HZk).2).mono ?_
        rintro e w3 ⟨rfl, hb3⟩
        have b3 := keepc hb3 b3
        have HB3 := hide ((unhide HBB).trans (hb3.mono (unhide HBB).size))
        clear hb3
        go_wp2_with fail
        go_roundw
        case rel => exact ⟨j + 1, l ++ [44] ++ tt, by omega, by go_num, by rw [← cat_list, ← cat_list], by rw [unhide HLL, unhide HS, if_neg (fun e => hj0 ((unhide HN).1 e.2))]; simp, b3, unhide HB3⟩
        case measure => simp [intOf]; omega
    · go_wp2_with fail
      go_ret
      exact ⟨ret_str ((cat_list l [41]).trans (by rw [unhide HLL, List.take_of_length_le (by have := unhide HL; omega)]; simp)), hb⟩

set_option maxRecDepth 100000 in
set_option maxHeartbeats 2000000 in
theorem tx_kids8 (ks : List Tm) (hkids : ∀ x ∈ ks, TxOk x) (n : Int) (s : ByteArray) (a : Option Addr) (len cap : Nat) (w : World) (hk : LiesAll w 0 a 0 ks) (hlen : ks.length = len) (hsz : Tm.sizes ks ≤ 2097152) (hwt : ks.length + Tm.wts ks ≤ 2097152) :
    Calls Tryd.prog 20 #[.agg #[.int .i64 8, .int .i64 n, .string s, .slice a len cap]] w fun e w' => e = .returned (.string ⟨([115, 105, 103, 110] ++ (40 :: (textF true ks ++ [41]))).toArray⟩) ∧ Below w.heap.size w w' := by
  have hi := in26 8 3 8
  rw [show inB 8 3 8 = true from by decide] at hi
  have HI := hide hi
  have hlb : len ≤ 2097152 := by omega
  have HL := hide hlen
  have HK := hide hk
  have HKI := hide hkids
  have HZ : Hid (∀ j (hj : j < ks.length), (ks[j]).size ≤ 2097152 ∧ (ks[j]).wt ≤ 2097152) := fun j hj => ⟨by have := Tm.size_mem (List.getElem_mem hj); omega, by have := wt_mem (List.getElem_mem hj); omega⟩
  have HT : Hid (∀ j, (textF true (ks.take j)).length ≤ 60000000) := fun j => by
    have := textF_length true a 0 (ks.take j) (lies_take hk j)
    have h1 := sizes_take ks j
    have h2 := wts_take ks j
    have h3 : (ks.take j).length ≤ ks.length := by simp; omega
    show _ ≤ _
    omega
  have HTT : Hid (∀ j (hj : j < ks.length), (textT ks[j]).length ≤ 60000000) := fun j hj => by
    obtain ⟨b, o, cs, _, _, _, hl⟩ := hk.get (k := j) (t := ks[j]) (by simp [hj])
    have := textT_length _ _ hl
    have h1 := Tm.size_mem (List.getElem_mem hj)
    have h2 := wt_mem (List.getElem_mem hj)
    show _ ≤ _
    omega
  clear hi hk hkids hsz hwt hlen
  go_enter Tryd.func20, Tryd.ntmps20
  go_wp2_with fail
  refine (unhide HI _).mono ?_
  rintro e w2 ⟨rfl, rfl⟩
  go_wp2_with fail
  go_loopw [4, 5] (fun x i wr => ∃ (j : Nat) (l : List UInt8), j ≤ len ∧ i = .int .i64 j ∧ x = .string ⟨l.toArray⟩ ∧ l = [115, 105, 103, 110] ++ (40 :: textF true (ks.take j)) ∧ wr.cell? ⟨w.heap.size, 3, none⟩ = some (.slice a len cap) ∧ Below w.heap.size w wr) (fun _ i _ => len - (intOf i).toNat)
  case atStart => exact ⟨0, [115, 105, 103, 110] ++ [40], Nat.zero_le _, rfl, by rw [← cat_list], by simp [textF], keepc ((Below.refl _ _).alloc (Nat.le_refl _) _) (box_cell w #[.int .i64 8, .int .i64 n, .string s, .slice a len cap] 26 3 _ rfl), below_alloc2 _ _ _⟩
  case round =>
    obtain ⟨j, l, hj, rfl, rfl, hl, b3, hb⟩ := hrel
    have hll : l.length ≤ 60000010 := by have := unhide HT j; rw [hl]; simp only [List.length_append, List.length_cons, List.length_nil]; omega
    have HLL := hide hl
    clear hl
    by_cases hlt : j < len
    · have g1 : j < ks.length := by have := unhide HL; omega
      obtain ⟨b, o, y0, y1, y2, y3, y4, y5, rfl, _, _, c0, c1, c2, c3, hT⟩ := (unhide HK).elem (k := j) g1
      have c0 := keepc hb c0
      have c1 := keepc hb c1
      have c2 := keepc hb c2
      have c3 := keepc hb c3
      have HCT := hide (unhide HKI ks[j] (List.getElem_mem g1) y0 y1 y2 y3 y4 y5)
      have HTk := hide (hT.below hb)
      have HZk := hide (unhide HZ j g1)
      have hln := unhide HTT j g1
      have HS : Hid (textF true (ks.take (j + 1)) = textF true (ks.take j) ++ ((if true = true ∧ ks.take j = [] then [] else [44]) ++ textT ks[j])) := by
        show _ = _
        rw [Tm.take_succ_get (t := ks[j]) (by simp [g1]), textF_snoc]
      have HN : Hid (ks.take j = [] ↔ j = 0) := by
        show _ ↔ _
        cases ks with
        | nil => simp at g1
        | cons x r => simp
      clear hT HK HKI HZ HT HTT
      generalize ks[j] = tk at *
      clear g1
      generalize textT tk = tt at *
      have hml : (j : Int) < (len : Int) := by omega
      have HBB := hide hb
      clear hb
      by_cases hj0 : j = 0
      · subst hj0
        rw [Nat.zero_mul, Nat.add_zero] at c0 c1 c2 c3
        go_wp2_with fail
        refine (unhide HCT _ (unhide HTk) (unhide HZk).1 (unhide HZk).2).mono ?_
        rintro e w3 ⟨rfl, hb3⟩
        have b3 := keepc hb3 b3
        have HB3 := hide ((unhide HBB).trans (hb3.mono (unhide HBB).size))
        clear hb3
        go_wp2_with fail
        go_roundw
        case rel => exact ⟨0 + 1, l ++ tt, by omega, by go_num, by rw [← cat_list], by rw [unhide HLL, unhide HS]; simp, b3, unhide HB3⟩
        case measure => simp [intOf]; omega
      · have hjp : (0 : Int) < (j : Int) := by omega
        go_wp2_with fail
        refine (unhide HCT _ (unhide HTk) (unhide HZk).1 (unhide HZk).2).mono ?_
        rintro e w3 ⟨rfl, hb3⟩
        have b3 := keepc hb3 b3
        have HB3 := hide ((unhide HBB).trans (hb3.mono (unhide HBB).size))
        clear hb3
        go_wp2_with fail
        go_roundw
        case rel => exact ⟨j + 1, l ++ [44] ++ tt, by omega, by go_num, by rw [← cat_list, ← cat_list], by rw [unhide HLL, unhide HS, if_neg (fun e => hj0 ((unhide HN).1 e.2))]; simp, b3, unhide HB3⟩
        case measure => simp [intOf]; omega
    · go_wp2_with fail
      go_ret
      exact ⟨ret_str ((cat_list l [41]).trans (by rw [unhide HLL, List.take_of_length_le (by have := unhide HL; omega)]; simp)), hb⟩

end Go.Proofs.YtpniekfalckdcaaDoor
