
/- The walk of impl.Made: of whatever list of terms, and whatever term, lie in memory it answers whether the term is right and known or can be put together; nothing that was there is written. -/
import Derived.Test.YteminklafghgpaaDoorSp
import Derived.Deep.RegionWith
namespace Go.Proofs.YteminklafghgpaaDoor
open Go.RowKit Go.Deep Go.Maps Go.MapKept

theorem add_calls (b n0 : Nat) (f : List UInt8 → Bool) (most : Int) (t : Tm) (op n : Int) (s : ByteArray) (a : Option Addr) (len cap : Nat) (w : World) (hf : Facts w b n0 f) (hl : Lies w 0 t (tmCells op n s a len cap)) (hr : rightT t = true) (hz : t.size ≤ 400) (ht : Tab w) (hmo : (n0 : Int) < most) (hn0 : n0 ≤ 4194304) :
    Calls Tryd.prog 23 #[.map (some b), .agg #[.int .i64 op, .int .i64 n, .string s, .slice a len cap], .int .i64 most] w fun e w' => ∃ v, e = .returned v ∧ Facts w' b (n0 + 1) (fun l => f l || decide (exT t = l)) ∧ w.grownBy w' (some b) := by
  cases hth : f (exT t) with
  | true =>
    refine (add_there b n0 f most t op n s a len cap w hf hl hr hz ht hth).mono ?_
    rintro e w' ⟨v, he, hb⟩
    obtain ⟨D, hD, hDf⟩ := hf.low hb
    refine ⟨v, he, ⟨D, hD.mono (by omega), fun l => ?_⟩, gb_low hb _⟩
    rw [hDf]
    by_cases hl : exT t = l
    · subst hl; rw [hth]; simp
    · simp [hl]
  | false => exact add_new b n0 f most t op n s a len cap w hf hl hr hz ht hth hmo hn0

theorem fK_take {ps : List Tm} {k : Nat} (h : k < ps.length) (l : List UInt8) : fK (ps.take (k + 1)) l = (fK (ps.take k) l || (okT ps[k] && decide (exT ps[k] = l))) := by
  unfold fK
  rw [← List.take_append_getElem h, List.any_append]
  simp only [List.any_cons, List.any_nil, Bool.or_false]
theorem Facts.ext {w : World} {b n : Nat} {f g : List UInt8 → Bool} (h : Facts w b n f) (e : ∀ l, f l = g l) : Facts w b n g := by
  obtain ⟨D, hD, hDf⟩ := h
  exact ⟨D, hD, fun l => (hDf l).trans (e l)⟩
theorem Facts.mono {w : World} {b n m : Nat} {f : List UInt8 → Bool} (h : Facts w b n f) (e : n ≤ m) : Facts w b m f := by
  obtain ⟨D, hD, hDf⟩ := h
  exact ⟨D, hD.mono e, hDf⟩
theorem okT_size {t : Tm} (h : okT t = true) : t.size ≤ 200 := by
  unfold okT at h
  rw [Bool.and_eq_true] at h
  exact of_decide_eq_true h.1

def FactsR (ps : List Tm) (w : World) (e : Ending) (w' : World) : Prop := ∃ b n, e = .returned (.map (some b)) ∧ Facts w' b n (fK ps) ∧ Below w.heap.size w w'
set_option maxRecDepth 100000 in
set_option maxHeartbeats 2000000 in
theorem factsI (ps : List Tm) (pa : Option Addr) (pcap : Nat) (w : World) (hps : LiesAll w 0 pa 0 ps) (hpl : ps.length ≤ 2097152) (hpz : ∀ x ∈ ps, x.size ≤ 2097152) (ht : Tab w) :
    Calls Tryd.prog 15 #[.slice pa ps.length pcap] w fun e w' => FactsR ps w e w' := by
  have hmm := @run_makeMap Tryd.prog
  have HT := hide ht
  have HPS := hide hps
  have HPZ := hide hpz
  have HFT : Hid (∀ (k : Nat) (x : Tm), ps[k]? = some x → ∀ l, fK (ps.take (k + 1)) l = (fK (ps.take k) l || (okT x && decide (exT x = l)))) := fun k x hx l => by
    obtain ⟨hk, rfl⟩ := List.getElem?_eq_some_iff.1 hx
    exact fK_take hk l
  generalize hlen : ps.length = plen at *
  have HLN := hide hlen
  have HBE2 := hide (abD (w := w) (.map #[] 0))
  have HFA2 := hide (Facts.new w)
  clear ht hps hpz hlen
  go_enter Tryd.func15, Tryd.ntmps15
  go_wp2_with fail
  generalize w.alloc (.map #[] 0) = W3 at *
  generalize hbq : w.heap.size = b at *
  go_loopw [9] (fun i wr => ∃ k : Nat, k ≤ plen ∧ i = .int .i64 k ∧ Facts wr b k (fK (ps.take k)) ∧ Below b w wr) (fun i _ => plen - (intOf i).toNat)
  case atStart => exact ⟨0, Nat.zero_le _, rfl, (unhide HFA2).ext (fun _ => rfl), unhide HBE2⟩
  case round =>
    obtain ⟨k, hkl, rfl, hfa, hbw⟩ := hrel
    by_cases hlt : k < plen
    · have hlt' : k < ps.length := by have := unhide HLN; omega
      have hki : (k : Int) < (plen : Int) := by omega
      obtain ⟨b1, o1, op1, n1, s1, a1, len1, cap1, rfl, _, hbs, c0, c1, c2, c3, hT⟩ := (unhide HPS).elem (k := k) hlt'
      have hbw' : Below w.heap.size w wr := by rw [hbq]; exact hbw
      have c0' := (hbw'.cell (p := ⟨b1, o1 + k * 4, none⟩) hbs).trans c0
      have c1' := (hbw'.cell (p := ⟨b1, o1 + k * 4 + 1, none⟩) hbs).trans c1
      have c2' := (hbw'.cell (p := ⟨b1, o1 + k * 4 + 2, none⟩) hbs).trans c2
      have c3' := (hbw'.cell (p := ⟨b1, o1 + k * 4 + 3, none⟩) hbs).trans c3
      have hbk := abD (w := wr) (.cells #[.int .i64 op1, .int .i64 n1, .string s1, .slice a1 len1 cap1] 31)
      have HT1 := hide (hT.below (bt hbw' hbk (Nat.le_refl _)))
      have HBW := hide (bt hbw' hbk (Nat.le_refl _))
      have HFA := hide (hfa.low hbk)
      have HKB := hide (heap_alloc_new wr (.cells #[.int .i64 op1, .int .i64 n1, .string s1, .slice a1 len1 cap1] 31))
      have h14k := hide (ok10 ps[k] op1 n1 s1 a1 len1 cap1)
      have h15k := hide (add_calls b k (fK (ps.take k)) (plen : Int) ps[k] op1 n1 s1 a1 len1 cap1)
      have HEX := hide (unhide HFT k _ (List.getElem?_eq_getElem hlt'))
      have hz1 := unhide HPZ ps[k] (List.getElem_mem hlt')
      have HSL := hide (And.intro hkl hlt)
      have HBQ := hide hbq
      generalize hpk : ps[k] = pk at *
      clear c0 c1 c2 c3 hT hfa hbw hbk hpk hbw' hbq
      cases hok1 : okT pk with
      | false =>
        rw [hok1] at h14k HEX
        clear hok1
        go_wp2_with fail
        refine (unhide h14k _ (unhide HT1) hz1).mono ?_
        rintro e w4 ⟨rfl, hb4⟩
        have HFA4 := hide ((unhide HFA).low hb4)
        have HBW4 : Hid (Below b w w4) := by have := bt (unhide HBW) hb4 (Nat.le_refl _); rw [unhide HBQ] at this; exact this
        clear hb4
        go_wp2_with fail
        exact ⟨⟨k + 1, by omega, by go_num, ((unhide HFA4).mono (by omega)).ext (fun l => by rw [unhide HEX l]; simp), unhide HBW4⟩, by simp [intOf]; omega⟩
      | true =>
        have HOK1 := hide hok1
        rw [hok1] at h14k HEX
        clear hok1
        go_wp2_with fail
        refine (unhide h14k _ (unhide HT1) hz1).mono ?_
        rintro e w4 ⟨rfl, hb4⟩
        have HFA4 := hide ((unhide HFA).low hb4)
        have HBW4 := hide (bt (unhide HBW) hb4 (Nat.le_refl _))
        have hkb4 := (hb4.block _ (lt_of_heap (unhide HKB))).trans (unhide HKB)
        have HT4 := hide ((unhide HT1).below hb4)
        have d0 := cell_of_row hkb4 (j := 0) (by simp)
        have d1 := cell_of_row hkb4 (j := 1) (by simp)
        have d2 := cell_of_row hkb4 (j := 2) (by simp)
        have d3 := cell_of_row hkb4 (j := 3) (by simp)
        simp only [List.getElem_toArray, List.getElem_cons_zero, List.getElem_cons_succ] at d0 d1 d2 d3
        clear hb4 hkb4
        go_wp2_with fail
        refine (unhide h15k _ (unhide HFA4) (unhide HT4) (okT_right (unhide HOK1)) (by have := okT_size (unhide HOK1); omega) ((unhide HT).on (unhide HBW4)) (by omega) (by omega)).mono ?_
        rintro e w5 ⟨v5, rfl, hf5, hg5⟩
        have HF5 := hide hf5
        have HBW5 : Hid (Below b w w5) := by
          have := (unhide HBW4).grown hg5 (unhide HBW4).size (fun j hj => by simp at hj; subst hj; have := unhide HBQ; omega)
          rw [unhide HBQ] at this
          exact this
        clear hf5 hg5
        go_wp2_with fail
        exact ⟨⟨k + 1, by omega, by go_num, (unhide HF5).ext (fun l => by rw [unhide HEX l]; simp), unhide HBW5⟩, by simp [intOf]; omega⟩
    · obtain rfl : k = plen := by omega
      have hki : ¬ (k : Int) < (k : Int) := by omega
      have htk : ps.take k = ps := List.take_of_length_le (by have := unhide HLN; omega)
      rw [htk] at hfa
      have HFA := hide hfa
      have HBW := hide hbw
      have HBQ := hide hbq
      clear hfa hbw htk hbq
      go_wp2_with fail
      go_ret
      exact ⟨b, k, rfl, unhide HFA, by rw [unhide HBQ]; exact unhide HBW⟩

set_option maxRecDepth 100000 in
set_option maxHeartbeats 2000000 in
theorem madeI (ps : List Tm) (t : Tm) (pa : Option Addr) (pcap : Nat) (op n : Int) (s : ByteArray) (a : Option Addr) (len cap : Nat) (w : World) (hps : LiesAll w 0 pa 0 ps) (hpl : ps.length ≤ 2097152) (hpz : ∀ x ∈ ps, x.size ≤ 2097152) (hl : Lies w 0 t (tmCells op n s a len cap)) (hz : t.size ≤ 2097152) (ht : Tab w) (he : Err w) :
    Calls Tryd.prog 9 #[.slice pa ps.length pcap, .agg #[.int .i64 op, .int .i64 n, .string s, .slice a len cap]] w fun e w' => e = .returned (.bool (madeB ps t)) ∧ Below w.heap.size w w' := by
  have HM : Hid (madeB ps t = (okT t && mkB ps t)) := hide rfl
  have h14 := hide (ok10 t op n s a len cap)
  have hb0 := abD (w := w) (.cells #[.int .i64 op, .int .i64 n, .string s, .slice a len cap] 31)
  have HL := hide (hl.below hb0)
  have HL0 := hide hl
  have HB := hide hb0
  have HBX := hide (heap_alloc_new w (.cells #[.int .i64 op, .int .i64 n, .string s, .slice a len cap] 31))
  have HFC := hide (fun v (hv : Below w.heap.size w v) => factsI ps pa pcap v (hps.below hv) hpl hpz (ht.on hv))
  have HMK : Hid (okT t = true → ∀ v b k, Below w.heap.size w v → Facts v b k (fK ps) → Calls Tryd.prog 16 #[.map (some b), .agg #[.int .i64 op, .int .i64 n, .string s, .slice a len cap]] v fun e w' => e = .returned (.bool (mkB ps t)) ∧ Below v.heap.size v w') := hide (fun hok v b k hv hf => makes_calls ps b k t op n s a len cap v (hl.below hv) hok hf (ht.on hv) (he.on hv))
  generalize madeB ps t = R at *
  generalize mkB ps t = mb at *
  clear hl hps ht he hb0
  cases hok : okT t with
  | false =>
    rw [hok] at h14 HM
    clear HMK hok
    go_enter Tryd.func9, Tryd.ntmps9
    go_wp2_with fail
    refine (unhide h14 _ (unhide HL) hz).mono ?_
    rintro e w2 ⟨rfl, hb2⟩
    have HB2 := hide (bt (unhide HB) hb2 (Nat.le_refl _))
    clear hb2
    go_wp2_with fail
    go_ret
    exact ⟨by rw [unhide HM]; rfl, unhide HB2⟩
  | true =>
    rw [hok] at h14 HM
    have HMK2 := hide (unhide HMK hok)
    clear HMK hok
    go_enter Tryd.func9, Tryd.ntmps9
    go_wp2_with fail
    refine (unhide h14 _ (unhide HL) hz).mono ?_
    rintro e w2 ⟨rfl, hb2⟩
    have HB2 := hide (bt (unhide HB) hb2 (Nat.le_refl _))
    have hr2 := (hb2.block _ (lt_of_heap (unhide HBX))).trans (unhide HBX)
    have HR2 := hide hr2
    clear hb2 hr2
    have hr3 := unhide HR2
    have c0 := cell_of_row hr3 (j := 0) (by simp)
    have c1 := cell_of_row hr3 (j := 1) (by simp)
    have c2 := cell_of_row hr3 (j := 2) (by simp)
    have c3 := cell_of_row hr3 (j := 3) (by simp)
    simp only [List.getElem_toArray, List.getElem_cons_zero, List.getElem_cons_succ] at c0 c1 c2 c3
    clear hr3
    go_wp2_with fail
    go_region_with (first
      | (go_at_call 15
         refine (unhide HFC _ (unhide HB2).drew).mono ?_
         rintro e w3 ⟨b, k, rfl, hf, hb3⟩
         have HB3 := hide (bt (unhide HB2).drew hb3 (Nat.le_refl _))
         have HF := hide hf
         have hr4 := (hb3.block _ (lt_of_heap (unhide HR2))).trans (unhide HR2)
         have d0 := cell_of_row hr4 (j := 0) (by simp)
         have d1 := cell_of_row hr4 (j := 1) (by simp)
         have d2 := cell_of_row hr4 (j := 2) (by simp)
         have d3 := cell_of_row hr4 (j := 3) (by simp)
         simp only [List.getElem_toArray, List.getElem_cons_zero, List.getElem_cons_succ] at d0 d1 d2 d3
         clear hb3 hf hr4)
      | (go_at_call 16
         refine (unhide HMK2 _ _ _ (unhide HB3) (unhide HF)).mono ?_
         rintro e w4 ⟨rfl, hb4⟩
         have HB4 := hide (bt (unhide HB3) hb4 (Nat.le_refl _))
         clear hb4))
    all_goals
      go_wp2_with fail
      go_ret
      exact ⟨by rw [unhide HM]; rfl, unhide HB4⟩

end Go.Proofs.YteminklafghgpaaDoor
