
/- The walk of impl.Made: of whatever list of terms, and whatever term, lie in memory it answers whether the term is right and known or can be put together; nothing that was there is written. -/
import Derived.Test.YtagondlfhdfcgaaDoorSp
namespace Go.Proofs.YtagondlfhdfcgaaDoor
open Go.RowKit Go.Deep Go.Maps Go.MapKept

theorem add_calls (b n0 : Nat) (f : List UInt8 → Bool) (most : Int) (t : Tm) (op n : Int) (s : ByteArray) (a : Option Addr) (len cap : Nat) (w : World) (hf : Facts w b n0 f) (hl : Lies w 0 t (tmCells op n s a len cap)) (hr : rightT t = true) (hz : t.size ≤ 400) (ht : Tab w) (hmo : (n0 : Int) < most) (hn0 : n0 ≤ 4194304) :
    Calls Tryd.prog 39 #[.map (some b), .agg #[.int .i64 op, .int .i64 n, .string s, .slice a len cap], .int .i64 most] w fun e w' => ∃ v, e = .returned v ∧ Facts w' b (n0 + 1) (fun l => f l || decide (exT t = l)) ∧ w.grownBy w' (some b) := by
  cases hth : f (exT t) with
  | true =>
    refine (add_there b n0 f most t op n s a len cap w hf hl hr hz ht hth).mono ?_
    rintro e w' ⟨v, he, hb⟩
    obtain ⟨D, hD, hDf⟩ := hf.low hb
    refine ⟨v, he, ⟨D, hD.mono (by omega), fun l => ?_⟩, gb_low hb _⟩
    rw [hDf]
    by_cases hl : exT t = l
    · subst hl; rw [hth]; simp
    · simp [hl]
  | false => exact add_new b n0 f most t op n s a len cap w hf hl hr hz ht hth hmo hn0

theorem fK_take {ps : List Tm} {k : Nat} (h : k < ps.length) (l : List UInt8) : fK (ps.take (k + 1)) l = (fK (ps.take k) l || (okT ps[k] && decide (exT ps[k] = l))) := by
  unfold fK
  rw [← List.take_append_getElem h, List.any_append]
  simp only [List.any_cons, List.any_nil, Bool.or_false]
theorem Facts.ext {w : World} {b n : Nat} {f g : List UInt8 → Bool} (h : Facts w b n f) (e : ∀ l, f l = g l) : Facts w b n g := by
  obtain ⟨D, hD, hDf⟩ := h
  exact ⟨D, hD, fun l => (hDf l).trans (e l)⟩
theorem Facts.mono {w : World} {b n m : Nat} {f : List UInt8 → Bool} (h : Facts w b n f) (e : n ≤ m) : Facts w b m f := by
  obtain ⟨D, hD, hDf⟩ := h
  exact ⟨D, hD.mono e, hDf⟩
theorem okT_size {t : Tm} (h : okT t = true) : t.size ≤ 200 := by
  unfold okT at h
  rw [Bool.and_eq_true] at h
  exact of_decide_eq_true h.1

set_option maxHeartbeats 1000000 in
theorem madeI_no (ps : List Tm) (t : Tm) (pv : Value) (op n : Int) (s : ByteArray) (a : Option Addr) (len cap : Nat) (w : World) (hl : Lies w 0 t (tmCells op n s a len cap)) (hz : t.size ≤ 2097152) (hok : okT t = false) :
    Calls Tryd.prog 19 #[pv, .agg #[.int .i64 op, .int .i64 n, .string s, .slice a len cap]] w fun e w' => e = .returned (.bool (madeB ps t)) ∧ Below w.heap.size w w' := by
  have hm : madeB ps t = false := by simp [madeB, hok]
  rw [hm]
  have h14 := hide (ok10 t op n s a len cap)
  rw [hok] at h14
  have HL := hide (hl.below (abD (.cells #[.int .i64 op, .int .i64 n, .string s, .slice a len cap] 24)))
  have HB := hide (abD (w := w) (.cells #[.int .i64 op, .int .i64 n, .string s, .slice a len cap] 24))
  clear hl hok hm
  go_enter Tryd.func19, Tryd.ntmps19
  go_wp2_with fail
  refine (unhide h14 _ (unhide HL) hz).mono ?_
  rintro e w2 ⟨rfl, hb2⟩
  have HB2 := hide (bt (unhide HB) hb2 (Nat.le_refl _))
  clear hb2
  go_wp2_with fail
  go_ret
  exact ⟨rfl, unhide HB2⟩

set_option maxRecDepth 100000 in
set_option maxHeartbeats 2000000 in
theorem madeI_yes (ps : List Tm) (t : Tm) (pa : Option Addr) (pcap : Nat) (op n : Int) (s : ByteArray) (a : Option Addr) (len cap : Nat) (w : World) (hps : LiesAll w 0 pa 0 ps) (hpl : ps.length ≤ 2097152) (hpz : ∀ x ∈ ps, x.size ≤ 2097152) (hl : Lies w 0 t (tmCells op n s a len cap)) (hok : okT t = true) (ht : Tab w) (he : Err w) :
    Calls Tryd.prog 19 #[.slice pa ps.length pcap, .agg #[.int .i64 op, .int .i64 n, .string s, .slice a len cap]] w fun e w' => e = .returned (.bool (madeB ps t)) ∧ Below w.heap.size w w' := by
  have hm : madeB ps t = mkB ps t := by simp [madeB, hok]
  rw [hm]
  have h14 := hide (ok10 t op n s a len cap)
  rw [hok] at h14
  have hmm := @run_makeMap Tryd.prog
  have hz := okT_size hok
  have HL := hide (hl.below (abD (.cells #[.int .i64 op, .int .i64 n, .string s, .slice a len cap] 24)))
  have HL0 := hide hl
  have HOK := hide hok
  have HT := hide ht
  have HE := hide he
  have HPS := hide hps
  have HPZ := hide hpz
  have HB := hide (abD (w := w) (.cells #[.int .i64 op, .int .i64 n, .string s, .slice a len cap] 24))
  have HBX := hide (heap_alloc_new w (.cells #[.int .i64 op, .int .i64 n, .string s, .slice a len cap] 24))
  have h16 := hide (makes_calls ps)
  have HFT : Hid (∀ (k : Nat) (x : Tm), ps[k]? = some x → ∀ l, fK (ps.take (k + 1)) l = (fK (ps.take k) l || (okT x && decide (exT x = l)))) := fun k x hx l => by
    obtain ⟨hk, rfl⟩ := List.getElem?_eq_some_iff.1 hx
    exact fK_take hk l
  generalize hlen : ps.length = plen at *
  have HLN := hide hlen
  clear hl hok hm ht he hps hpz hlen
  go_enter Tryd.func19, Tryd.ntmps19
  go_wp2_with fail
  refine (unhide h14 _ (unhide HL) (by omega)).mono ?_
  rintro e w2 ⟨rfl, hb2⟩
  have HBE2 := hide (bt (unhide HB) (bt hb2 (abD (.map #[] 0)) (Nat.le_refl _)) (Nat.le_refl _))
  have hrow2 := (hb2.block _ (lt_of_heap (unhide HBX))).trans (unhide HBX)
  have HRO2 := hide (((abD (w := w2) (.map #[] 0)).block _ (lt_of_heap hrow2)).trans hrow2)
  have HFA2 := hide (Facts.new w2)
  have hw2 : w.heap.size < w2.heap.size := lt_of_heap hrow2
  clear hb2 hrow2
  go_wp2_with fail
  generalize w2.alloc (.map #[] 0) = W3 at *
  generalize w2.heap.size = b at *
  go_loopw [14] (fun i wr => ∃ k : Nat, k ≤ plen ∧ i = .int .i64 k ∧ Facts wr b k (fK (ps.take k)) ∧ Below w.heap.size w wr ∧ wr.heap[w.heap.size]? = some (.cells #[.int .i64 op, .int .i64 n, .string s, .slice a len cap] 24 (0, 0))) (fun i _ => plen - (intOf i).toNat)
  case atStart => exact ⟨0, Nat.zero_le _, rfl, (unhide HFA2).ext (fun _ => rfl), unhide HBE2, unhide HRO2⟩
  case round =>
    obtain ⟨k, hkl, rfl, hfa, hbw, hrow⟩ := hrel
    by_cases hlt : k < plen
    · have hlt' : k < ps.length := by have := unhide HLN; omega
      have hki : (k : Int) < (plen : Int) := by omega
      obtain ⟨b1, o1, op1, n1, s1, a1, len1, cap1, rfl, _, hbs, c0, c1, c2, c3, hT⟩ := (unhide HPS).elem (k := k) hlt'
      have c0' := (hbw.cell (p := ⟨b1, o1 + k * 4, none⟩) hbs).trans c0
      have c1' := (hbw.cell (p := ⟨b1, o1 + k * 4 + 1, none⟩) hbs).trans c1
      have c2' := (hbw.cell (p := ⟨b1, o1 + k * 4 + 2, none⟩) hbs).trans c2
      have c3' := (hbw.cell (p := ⟨b1, o1 + k * 4 + 3, none⟩) hbs).trans c3
      have hbk := abD (w := wr) (.cells #[.int .i64 op1, .int .i64 n1, .string s1, .slice a1 len1 cap1] 24)
      have HT1 := hide (hT.below (bt hbw hbk (Nat.le_refl _)))
      have HBW := hide (bt hbw hbk (Nat.le_refl _))
      have HFA := hide (hfa.low hbk)
      have HRW := hide ((hbk.block _ (lt_of_heap hrow)).trans hrow)
      have HKB := hide (heap_alloc_new wr (.cells #[.int .i64 op1, .int .i64 n1, .string s1, .slice a1 len1 cap1] 24))
      have h14k := hide (ok10 ps[k] op1 n1 s1 a1 len1 cap1)
      have h15k := hide (add_calls b k (fK (ps.take k)) (plen : Int) ps[k] op1 n1 s1 a1 len1 cap1)
      have HEX := hide (unhide HFT k _ (List.getElem?_eq_getElem hlt'))
      have hz1 := unhide HPZ ps[k] (List.getElem_mem hlt')
      have HSL := hide (And.intro hkl hlt)
      generalize hpk : ps[k] = pk at *
      clear c0 c1 c2 c3 hT hfa hbw hrow hbk hpk
      cases hok1 : okT pk with
      | false =>
        rw [hok1] at h14k HEX
        clear hok1
        go_wp2_with fail
        refine (unhide h14k _ (unhide HT1) hz1).mono ?_
        rintro e w4 ⟨rfl, hb4⟩
        have HFA4 := hide ((unhide HFA).low hb4)
        have HBW4 := hide (bt (unhide HBW) hb4 (Nat.le_refl _))
        have HRW4 := hide ((hb4.block _ (lt_of_heap (unhide HRW))).trans (unhide HRW))
        clear hb4
        go_wp2_with fail
        exact ⟨⟨k + 1, by omega, by go_num, ((unhide HFA4).mono (by omega)).ext (fun l => by rw [unhide HEX l]; simp), unhide HBW4, unhide HRW4⟩, by simp [intOf]; omega⟩
      | true =>
        have HOK1 := hide hok1
        rw [hok1] at h14k HEX
        clear hok1
        go_wp2_with fail
        refine (unhide h14k _ (unhide HT1) hz1).mono ?_
        rintro e w4 ⟨rfl, hb4⟩
        have HFA4 := hide ((unhide HFA).low hb4)
        have HBW4 := hide (bt (unhide HBW) hb4 (Nat.le_refl _))
        have hrw4 := (hb4.block _ (lt_of_heap (unhide HRW))).trans (unhide HRW)
        have hkb4 := (hb4.block _ (lt_of_heap (unhide HKB))).trans (unhide HKB)
        have HT4 := hide ((unhide HT1).below hb4)
        have HRW4 := hide hrw4
        have d0 := cell_of_row hkb4 (j := 0) (by simp)
        have d1 := cell_of_row hkb4 (j := 1) (by simp)
        have d2 := cell_of_row hkb4 (j := 2) (by simp)
        have d3 := cell_of_row hkb4 (j := 3) (by simp)
        simp only [List.getElem_toArray, List.getElem_cons_zero, List.getElem_cons_succ] at d0 d1 d2 d3
        clear hb4 hrw4 hkb4
        go_wp2_with fail
        refine (unhide h15k _ (unhide HFA4) (unhide HT4) (okT_right (unhide HOK1)) (by have := okT_size (unhide HOK1); omega) ((unhide HT).on (unhide HBW4)) (by omega) (by omega)).mono ?_
        rintro e w5 ⟨v5, rfl, hf5, hg5⟩
        have HF5 := hide hf5
        have HBW5 := hide ((unhide HBW4).grown hg5 (unhide HBW4).size (fun j hj => by simp at hj; subst hj; omega))
        have HRW5 := hide ((hg5.block _ (lt_of_heap (unhide HRW4)) (by simp; omega)).trans (unhide HRW4))
        clear hf5 hg5
        go_wp2_with fail
        exact ⟨⟨k + 1, by omega, by go_num, (unhide HF5).ext (fun l => by rw [unhide HEX l]; simp), unhide HBW5, unhide HRW5⟩, by simp [intOf]; omega⟩
    · obtain rfl : k = plen := by omega
      have htk : ps.take k = ps := List.take_of_length_le (by have := unhide HLN; omega)
      rw [htk] at hfa
      have c0 := cell_of_row hrow (j := 0) (by simp)
      have c1 := cell_of_row hrow (j := 1) (by simp)
      have c2 := cell_of_row hrow (j := 2) (by simp)
      have c3 := cell_of_row hrow (j := 3) (by simp)
      simp only [List.getElem_toArray, List.getElem_cons_zero, List.getElem_cons_succ] at c0 c1 c2 c3
      have HFA := hide hfa
      have HBW := hide hbw
      clear hfa hbw hrow htk
      go_wp2_with fail
      refine (unhide h16 b k t op n s a len cap _ ((unhide HL0).below (unhide HBW)) (unhide HOK) (unhide HFA) ((unhide HT).on (unhide HBW)) ((unhide HE).on (unhide HBW))).mono ?_
      rintro e w6 ⟨rfl, hb6⟩
      have HB6 := hide (bt (unhide HBW) hb6 (Nat.le_refl _))
      clear hb6
      go_wp2_with fail
      go_ret
      exact ⟨rfl, unhide HB6⟩

theorem madeI (ps : List Tm) (t : Tm) (pa : Option Addr) (pcap : Nat) (op n : Int) (s : ByteArray) (a : Option Addr) (len cap : Nat) (w : World) (hps : LiesAll w 0 pa 0 ps) (hpl : ps.length ≤ 2097152) (hpz : ∀ x ∈ ps, x.size ≤ 2097152) (hl : Lies w 0 t (tmCells op n s a len cap)) (hz : t.size ≤ 2097152) (ht : Tab w) (he : Err w) :
    Calls Tryd.prog 19 #[.slice pa ps.length pcap, .agg #[.int .i64 op, .int .i64 n, .string s, .slice a len cap]] w fun e w' => e = .returned (.bool (madeB ps t)) ∧ Below w.heap.size w w' := by
  cases hok : okT t with
  | true => exact madeI_yes ps t pa pcap op n s a len cap w hps hpl hpz hl hok ht he
  | false => exact madeI_no ps t _ op n s a len cap w hl hz hok

end Go.Proofs.YtagondlfhdfcgaaDoor
