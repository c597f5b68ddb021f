
/- The walks of the methods spell and makes: the exact text of a right term, and whether it is known or can be put together. The walks of the methods spell and makes: the exact text of a right term, and whether it is known or can be put together. -/
import Derived.Test.YteminklafghgpaaDoorCo
namespace Go.Proofs.YteminklafghgpaaDoor
open Go.RowKit Go.Deep Go.Maps Go.MapKept

set_option maxRecDepth 100000 in
/-- putTogether at whatever right term. -/
theorem put_calls (ps : List Tm) (b n0 : Nat) (bs : List Bool) (ks : List Tm) (op n : Int) (s : ByteArray) (a : Option Addr) (len cap g gc : Nat) (w : World) (hl : Lies w 0 (.node op n s ks) (tmCells op n s a len cap)) (hok : okT (.node op n s ks) = true) (hbl : bs.length = ks.length) (hb : Bools w g bs) (hf : Facts w b n0 (fK ps)) (ht : Tab w) (he : Err w) :
    Calls Tryd.prog 32 #[.map (some b), .agg #[.int .i64 op, .int .i64 n, .string s, .slice a len cap], .slice (some ⟨g, 0, none⟩) ks.length gc] w fun e w' => e = .returned (.bool (putX ps op ks bs)) ∧ Below w.heap.size w w' := by
  have hk2 : ks.length ≤ 2 := by
    have h := okT_right hok
    simp only [rightT, Bool.and_eq_true, headB, decide_eq_true_eq] at h
    have h1 := h.1.1.1
    unfold kidsOf at h1
    split at h1
    · omega
    · split at h1
      · omega
      · split at h1
        · omega
        · omega
  by_cases h1 : op = 1
  · subst h1
    have : putX ps 1 ks bs = false := by simp [putX]
    rw [this]
    exact put_1 _ n s a len cap _ w
  cases hall : bs.all (fun x => x) with
  | true =>
    have : putX ps op ks bs = true := by simp [putX, h1, hall]
    rw [this, ← hbl]
    exact put_all bs _ op n s a len cap g gc w h1 (by omega) hb hall
  | false =>
    by_cases h5 : op = 5
    · subst h5
      have hk : ∃ x y, ks = [x, y] := by
        have h := okT_right hok
        simp only [rightT, Bool.and_eq_true, headB, decide_eq_true_eq] at h
        have h1 : kidsOf 5 = ks.length := h.1.1.1
        have h2 : kidsOf 5 = 2 := by decide
        match ks, (by omega : ks.length = 2) with
        | [x, y], _ => exact ⟨x, y, rfl⟩
      obtain ⟨x, y, rfl⟩ := hk
      obtain ⟨-, -, -, rfl, b', q', op3, n3, s3, a3, len3, cap3, op4, n4, s4, a4, len4, cap4, rfl, ⟨r0, r1, r2, r3, hx⟩, r4, r5, r6, r7, hy⟩ := lies_kids hl
      have hsz : x.size + y.size ≤ 199 := by
        unfold okT at hok
        rw [Bool.and_eq_true] at hok
        have h3 := of_decide_eq_true hok.1
        simp only [Tm.size, Tm.sizes] at h3
        omega
      have hpx := okT_pub (okT_kids hok (x := x) (by simp)) (by omega)
      have hpy := okT_pub (okT_kids hok (x := y) (by simp)) (by omega)
      match bs, hbl, hall, hb with
      | [false, false], _, _, hb =>
        have : putX ps 5 [x, y] [false, false] = false := by simp [putX]
        rw [this]
        exact put_ff _ n s b' q' cap g gc w hb
      | [true, false], _, _, hb =>
        have : putX ps 5 [x, y] [true, false] = hasX ps (pubT y) := by simp [putX]
        rw [this]
        cases hh : hasX ps (pubT y) with
        | true => exact put_tf_t ps b n0 y n s b' q' cap g gc op4 n4 s4 a4 len4 cap4 w hb r4 r5 r6 r7 hy hf ht he hpy (by omega) hh
        | false => exact put_tf_f ps b n0 y n s b' q' cap g gc op4 n4 s4 a4 len4 cap4 w hb r4 r5 r6 r7 hy hf ht he hpy (by omega) hh
      | [false, true], _, _, hb =>
        have : putX ps 5 [x, y] [false, true] = hasX ps (pubT x) := by simp [putX]
        rw [this]
        cases hh : hasX ps (pubT x) with
        | true => exact put_ft_t ps b n0 x n s b' q' cap g gc op3 n3 s3 a3 len3 cap3 w hb r0 r1 r2 r3 hx hf ht he hpx (by omega) hh
        | false => exact put_ft_f ps b n0 x n s b' q' cap g gc op3 n3 s3 a3 len3 cap3 w hb r0 r1 r2 r3 hx hf ht he hpx (by omega) hh
      | [true, true], _, hall, _ => simp at hall
    · have : putX ps op ks bs = false := by simp [putX, h1, h5, hall]
      rw [this, ← hbl]
      exact put_no bs _ op n s a len cap g gc w h1 h5 (by omega) hb hall

set_option maxRecDepth 100000 in
theorem info4 : (Tryd.prog.info? 4).map (fun i => (i.zero, i.size, i.bytes)) = some (some (.bool false), 1, 1) := by kernel_rfl
set_option maxRecDepth 100000 in
theorem made_bools : ∀ n : Nat, n ≤ 2 → madeCells (Value.bool false).cells (n * 1) = ((List.replicate n false).map Value.bool).toArray
  | 0, _ => by kernel_rfl
  | 1, _ => by kernel_rfl
  | 2, _ => by kernel_rfl
  | n + 3, h => by omega
set_option maxRecDepth 100000 in
theorem make_bools (n : Nat) (hn : n ≤ 2) (w : World) : (Instr.makeSlice 58 (.int .i64 (n : Int)) (.int .i64 (n : Int))).run Tryd.prog w = .ok (.slice (some ⟨w.heap.size, 0, none⟩) n n) (w.alloc (.cells ((List.replicate n false).map Value.bool).toArray 4)) := by
  obtain ⟨i, hi, hzz⟩ := Option.map_eq_some_iff.1 info4
  simp only [Prod.mk.injEq] at hzz
  obtain ⟨hz, hs, hby⟩ := hzz
  have := run_makeSlice (P := Tryd.prog) w 58 4 i (.bool false) Tryd.underlying58 hi hz .i64 .i64 (n : Int) (n : Int) (by omega) (by omega) (by rw [hs]; simp; omega) (by rw [hby]; omega) (by omega)
  rw [hs] at this
  simp only [Int.toNat_natCast] at this
  rw [this, made_bools n hn]

set_option maxRecDepth 100000 in
theorem Bools.new (w : World) (bs : List Bool) : Bools (w.alloc (.cells (bs.map Value.bool).toArray 4)) w.heap.size bs := heap_alloc_new w _
set_option maxRecDepth 100000 in
theorem Bools.oth {w w' : World} {g : Nat} {bs : List Bool} (h : Bools w g bs) (ho : Oth w w') : Bools w' g bs := ho.row h (by decide)
set_option maxRecDepth 100000 in
theorem Bools.set {w : World} {g : Nat} {bs : List Bool} (h : Bools w g bs) (k : Nat) (x : Bool) : Bools (w.setCell ⟨g, k, none⟩ (.bool x)) g (bs.set k x) := by
  unfold Bools at h ⊢
  simp only [World.setCell, Array.getElem?_modify]
  simp [h, List.map_set]
set_option maxRecDepth 100000 in
theorem Bools.cell {w : World} {g : Nat} {bs : List Bool} (h : Bools w g bs) {k : Nat} (hk : k < bs.length) : ∃ x, w.cell? ⟨g, k, none⟩ = some (.bool x) :=
  ⟨bs[k], by have := cell_of_row h (j := k) (by simpa using hk); simpa using this⟩

set_option maxRecDepth 100000 in
theorem Bts.apart4 {w wr : World} {l : List UInt8} {v : Value} {b : Nat} {C : Array Value} {fr : Nat × Nat} (h : Bts w l v wr) (hr : wr.heap[b]? = some (.cells C 4 fr)) : some b ≠ v.ownBlock := by
  rcases h.2 with ⟨h1, _⟩ | ⟨g, cap, cur, h1, _, h2, _⟩
  · rw [h1]; simp [Value.ownBlock]
  · rw [h1]
    intro e
    simp only [Value.ownBlock, Option.some.injEq] at e
    subst e
    rw [h2] at hr
    simp at hr
set_option maxRecDepth 100000 in
theorem gb_set1 (w : World) (g k : Nat) (x : Value) : w.grownBy (w.setCell ⟨g, k, none⟩ x) (some g) :=
  ⟨rfl, rfl, rfl, by simp, fun i _ hne => Below.heap_setCell _ _ _ _ (fun e => hne (by rw [e]))⟩
set_option maxRecDepth 100000 in
theorem kids_le {op n : Int} {s : ByteArray} {ks : List Tm} (hok : okT (.node op n s ks) = true) : ks.length ≤ 2 := by
  have h := okT_right hok
  simp only [rightT, Bool.and_eq_true, headB, decide_eq_true_eq] at h
  have h1 := h.1.1.1
  unfold kidsOf at h1
  split at h1
  · omega
  · split at h1
    · omega
    · split at h1
      · omega
      · omega
set_option maxRecDepth 100000 in
theorem Bts.set {w wr : World} {l : List UInt8} {v : Value} {g k : Nat} {bs : List Bool} (h : Bts w l v wr) (hb : Bools wr g bs) (x : Value) : Bts w l v (wr.setCell ⟨g, k, none⟩ x) :=
  World.ownsRow.kept h (row := some g) (gb_set1 wr g k x) (Or.inr (Ne.symm (h.apart4 hb)))
set_option maxRecDepth 100000 in
theorem Bts.full {w wr : World} {l : List UInt8} {v : Value} (h : Bts w l v wr) (hne : l ≠ []) : ∃ g c, v = .slice (some ⟨g, 0, none⟩) l.length c ∧ l.length ≤ c := by
  have h1 := h.1
  rcases h.2 with ⟨_, h2⟩ | ⟨g, cap, cur, e, h3⟩
  · exact absurd (by simpa using h2) hne
  · refine ⟨g, cap, e, ?_⟩
    obtain ⟨_, _, h4⟩ := h3
    omega
set_option maxRecDepth 100000 in
theorem Bts.tail {w wr : World} {l m : List UInt8} {g c n : Nat} (h : Bts w (l ++ m) (.slice (some ⟨g, 0, none⟩) n c) wr) (c' : Nat) : (convert 47 9 (.slice (some ⟨g, l.length, none⟩) m.length c')).run Tryd.prog wr = .ok (.string ⟨m.toArray⟩) wr :=
  run_convert_bytes_back wr 47 9 5 ⟨g, l.length, none⟩ c' m Tryd.underlying47 Tryd.underlying5 Tryd.underlying9 fun j hj => by
    have := World.ownsRow.cells h (g := g) rfl (l.length + j) (.int .u8 m[j].toNat) (by simp [hj])
    rw [Addr.add_mid] at this ⊢
    simpa using this
set_option maxRecDepth 100000 in
theorem Oth.set {w w' : World} (h : Oth w w') {g k : Nat} (hg : w.heap.size ≤ g) (x : Value) : Oth w (w'.setCell ⟨g, k, none⟩ x) := fun i o hi hb ho => by
  have hlt := (Array.getElem?_eq_some_iff.1 hi).1
  rw [Below.heap_setCell _ _ _ _ (by show i ≠ g; omega)]
  exact h i o hi hb ho
set_option maxRecDepth 100000 in
theorem spL_take (ps : List Tm) {ks : List Tm} {k : Nat} (h : k < ks.length) : (spL ps (ks.take k) ++ List.replicate (ks.length - k) false).set k (spX ps ks[k]) = spL ps (ks.take (k + 1)) ++ List.replicate (ks.length - (k + 1)) false := by
  rw [spL_map, spL_map, ← List.take_append_getElem h]
  obtain ⟨m, hm⟩ : ∃ m, ks.length - k = m + 1 := ⟨ks.length - k - 1, by omega⟩
  have hm2 : ks.length - (k + 1) = m := by omega
  rw [hm, hm2, List.replicate_succ, List.map_append]
  have hlen : (List.map (spX ps) (List.take k ks)).length = k := by simp; omega
  rw [List.set_append_right _ _ (by omega), hlen]
  simp

def SpOk (ps : List Tm) (t : Tm) : Prop := ∀ (w0 : World) (b n0 : Nat) (l : List UInt8) (tv : Value) (op n : Int) (s : ByteArray) (a : Option Addr) (len cap : Nat) (w : World), Lies w0 0 t (tmCells op n s a len cap) → okT t = true → l.length + (exT t).length ≤ 500000 → Bts w0 l tv w → Below w0.heap.size w0 w → Tab w0 → Err w0 → Facts w0 b n0 (fK ps) →
  Calls Tryd.prog 24 #[.map (some b), tv, .agg #[.int .i64 op, .int .i64 n, .string s, .slice a len cap]] w fun e w' => ∃ v', e = .returned (.tuple #[v', .bool (spX ps t)]) ∧ Bts w0 (l ++ exT t) v' w' ∧ Below w0.heap.size w0 w' ∧ Oth w w'

set_option maxRecDepth 100000 in
set_option maxHeartbeats 2000000 in
theorem sp_step (ps : List Tm) (t : Tm) (h : ∀ x ∈ t.kids, SpOk ps x) : SpOk ps t := by
  intro w0 b n0 l tv op n s a len cap w hl hok hlen ho hb ht he hf
  have hl0 := hl
  cases t with
  | node op' n' s' ks =>
    simp only [Lies, tmCells] at hl
    obtain ⟨a', cap', hee, ⟨hs, hlc, hcm⟩, hwf, hk⟩ := hl
    simp only [List.cons.injEq, Value.int.injEq, Value.string.injEq, Value.slice.injEq, true_and, and_true] at hee
    obtain ⟨rfl, rfl, rfl, rfl, rfl, rfl⟩ := hee
    have hr := okT_right hok
    obtain ⟨r1, r2, r3, r4⟩ := right_head hr
    have hk2 : ks.length ≤ 2 := kids_le hok
    have HOKK : Hid (∀ x ∈ ks, okT x = true) := fun x hx => okT_kids hok hx
    have HLN : Hid (∀ (k : Nat) (x : Tm), ks[k]? = some x → (l ++ headX op n s ++ exL (ks.take k)).length + (exT x).length ≤ 500000) := fun k x hx => by
      obtain ⟨hk, rfl⟩ := List.getElem?_eq_some_iff.1 hx
      have e1 := exL_take_le (ks := ks) (k + 1)
      rw [exL_take hk] at e1
      simp only [exT, List.length_append] at hlen e1 ⊢
      omega
    have h31 := hide (head_calls w0 l tv op n s a ks.length cap)
    have h32 := hide (put_calls ps b n0 (spL ps ks) ks op n s a ks.length cap)
    have HOP := hide (And.intro r1 (And.intro r2 r3))
    have HLL : Hid (l.length ≤ 500000) := by show _ ≤ _; omega
    have HXL : Hid ((l ++ exT (.node op n s ks)).length ≤ 500000) := by show _ ≤ _; rw [List.length_append]; exact hlen
    have HT := hide ht
    have HE := hide he
    have HF := hide hf
    have HOK := hide hok
    have HL0 := hide hl0
    have HO := hide (ho.on (abD (.cells #[.int .i64 op, .int .i64 n, .string s, .slice a ks.length cap] 31)))
    have HB := hide (hb.trans ((abD (.cells #[.int .i64 op, .int .i64 n, .string s, .slice a ks.length cap] 31)).mono hb.size))
    have HK := hide hk
    have H' : Hid (∀ x ∈ ks, SpOk ps x) := h
    have HBX := hide (heap_alloc_new w (.cells #[.int .i64 op, .int .i64 n, .string s, .slice a ks.length cap] 31))
    have HWW := hide hb.size
    obtain ⟨ta, tc, rfl⟩ := ho.shape
    have HSPL : Hid ((spL ps ks).length = ks.length) := by show _ = _; rw [spL_map]; simp
    have HSET : Hid (∀ (k : Nat) (x : Tm), ks[k]? = some x → (spL ps (ks.take k) ++ List.replicate (ks.length - k) false).set k (spX ps x) = spL ps (ks.take (k + 1)) ++ List.replicate (ks.length - (k + 1)) false) := fun k x hx => by
      obtain ⟨hk, rfl⟩ := List.getElem?_eq_some_iff.1 hx
      exact spL_take ps hk
    have hmk := make_bools ks.length hk2
    generalize hlen' : ks.length = len at *
    have HL := hide hlen'
    clear h hk hwf hs hlc hcm hlen' hlen r1 r2 r3 r4 hr ho hb ht he hf hok hl0
    go_enter Tryd.func24, Tryd.ntmps24
    go_wp2_with fail
    refine (unhide h31 _ (unhide HOP).1 (unhide HOP).2.1 (unhide HOP).2.2 (unhide HLL) (unhide HO) (unhide HB) (Lib.tabBelow_of_tabIs (unhide HT))).mono ?_
    rintro e w2 ⟨v2, rfl, hb2, hbe2, hoth2⟩
    obtain ⟨va, vc, rfl⟩ := hb2.shape
    have hrow2 := hoth2.row (unhide HBX) (by decide)
    have c3 := cell_of_row hrow2 (j := 3) (by simp)
    simp only [List.getElem_toArray, List.getElem_cons_zero, List.getElem_cons_succ] at c3
    have hw2 : w.heap.size < w2.heap.size := lt_of_heap hrow2
    have hn2 := Nat.ne_of_lt hw2
    have hm2 := Ne.symm hn2
    have hmk2 := hmk w2
    have HB2 := hide (hb2.on (abD (.cells ((List.replicate len false).map Value.bool).toArray 4)))
    have HBE2 := hide (hbe2.trans ((abD (w := w2) (.cells ((List.replicate len false).map Value.bool).toArray 4)).mono hbe2.size))
    have HOT2 := hide (hoth2.out.add (.cells ((List.replicate len false).map Value.bool).toArray 4))
    have HBO2 := hide (Bools.new w2 (List.replicate len false))
    have HRO2 := hide (((abD (w := w2) (.cells ((List.replicate len false).map Value.bool).toArray 4)).block _ hw2).trans hrow2)
    clear hb2 hbe2 hoth2 hrow2 hmk
    generalize (l ++ headX op n s).length = vl at *
    have c4 := cell_of_row (unhide HRO2) (j := 3) (by simp)
    simp only [List.getElem_toArray, List.getElem_cons_zero, List.getElem_cons_succ] at c4
    generalize w2.alloc (.cells ((List.replicate len false).map Value.bool).toArray 4) = W3 at *
    have HGW := hide hw2
    generalize w2.heap.size = g at *
    go_wp2_with fail
    go_loopw [1, 26] (fun tv i wr => ∃ k : Nat, k ≤ len ∧ i = .int .i64 k ∧ Bts w0 (l ++ headX op n s ++ exL (ks.take k)) tv wr ∧ Below w0.heap.size w0 wr ∧ Oth w wr ∧ Bools wr g (spL ps (ks.take k) ++ List.replicate (len - k) false) ∧ wr.heap[w.heap.size]? = some (.cells #[.int .i64 op, .int .i64 n, .string s, .slice a len cap] 31 (0, 0))) (fun _ i _ => len - (intOf i).toNat)
    case atStart => exact ⟨0, Nat.zero_le _, rfl, by simpa [exL] using unhide HB2, unhide HBE2, unhide HOT2, by simpa [spL] using unhide HBO2, unhide HRO2⟩
    case round =>
      obtain ⟨k, hkl, rfl, hbt, hbw, hot, hbo, hrow⟩ := hrel
      obtain ⟨ua, uc, rfl⟩ := hbt.shape
      by_cases hlt : k < len
      · have hlt' : k < ks.length := by have := unhide HL; omega
        have hki : (k : Int) < (len : Int) := by omega
        obtain ⟨b1, o1, op1, n1, s1, a1, len1, cap1, rfl, _, hbs, c0, c1, c2, c3, hT⟩ := (unhide HK).elem (k := k) hlt'
        have c0' := (hbw.cell (p := ⟨b1, o1 + k * 4, none⟩) hbs).trans c0
        have c1' := (hbw.cell (p := ⟨b1, o1 + k * 4 + 1, none⟩) hbs).trans c1
        have c2' := (hbw.cell (p := ⟨b1, o1 + k * 4 + 2, none⟩) hbs).trans c2
        have c3' := (hbw.cell (p := ⟨b1, o1 + k * 4 + 3, none⟩) hbs).trans c3
        have HCT := hide (unhide H' ks[k] (List.getElem_mem hlt') w0 b n0 _ _ op1 n1 s1 a1 len1 cap1 (wr.alloc (.cells #[.int .i64 op1, .int .i64 n1, .string s1, .slice a1 len1 cap1] 31)) hT (unhide HOKK _ (List.getElem_mem hlt')) (unhide HLN k _ (List.getElem?_eq_getElem hlt')) (hbt.on (abD _)) (hbw.trans ((abD _).mono hbw.size)) (unhide HT) (unhide HE) (unhide HF))
        have HEX := hide (exL_take hlt')
        have HST := hide (unhide HSET k _ (List.getElem?_eq_getElem hlt'))
        have HOT := hide (hot.add (.cells #[.int .i64 op1, .int .i64 n1, .string s1, .slice a1 len1 cap1] 31))
        have HBO := hide (hbo.low (abD (.cells #[.int .i64 op1, .int .i64 n1, .string s1, .slice a1 len1 cap1] 31)))
        have HRW := hide (((abD (w := wr) (.cells #[.int .i64 op1, .int .i64 n1, .string s1, .slice a1 len1 cap1] 31)).block _ (lt_of_heap hrow)).trans hrow)
        have HBN : Hid (k < (spL ps (ks.take k) ++ List.replicate (len - k) false).length) := by
          show _ < _
          rw [spL_map]
          simp
          omega
        generalize (l ++ headX op n s ++ exL (ks.take k)).length = ul at *
        generalize spX ps ks[k] = xk at *
        clear c0 c1 c2 c3 hT hbt hbw hot hbo hrow
        go_wp2_with fail
        refine (unhide HCT).mono ?_
        rintro e w3 ⟨v3, rfl, hb3, hbe3, hoth3⟩
        have hbo3 := (unhide HBO).oth hoth3
        obtain ⟨x0, hc0⟩ := hbo3.cell (unhide HBN)
        have hfr : w3.frozen? ⟨g, k, none⟩ = false := frozen_of_row hbo3
        have HB3 := hide (hb3.set (k := k) hbo3 (.bool xk))
        have HBE3 := hide (hbe3.setCell (p := ⟨g, k, none⟩) (by show w0.heap.size ≤ g; have := unhide HGW; have := unhide HWW; omega) (.bool xk))
        have HOT3 := hide (((unhide HOT).go hoth3).set (g := g) (k := k) (by have := unhide HGW; omega) (.bool xk))
        have HBO3 := hide (hbo3.set k xk)
        have HRW3 := hide ((Below.heap_setCell w3 ⟨g, k, none⟩ (.bool xk) w.heap.size (by show w.heap.size ≠ g; have := unhide HGW; omega)).trans (hoth3.row (unhide HRW) (by decide)))
        clear hb3 hbe3 hoth3 hbo3
        go_wp2_with fail
        exact ⟨⟨k + 1, by omega, by go_num, by rw [unhide HEX, ← List.append_assoc]; exact unhide HB3, unhide HBE3, unhide HOT3, by rw [← unhide HST]; exact unhide HBO3, unhide HRW3⟩, by simp [intOf]; omega⟩
      · obtain rfl : k = len := by omega
        have htk : ks.take k = ks := List.take_of_length_le (by have := unhide HL; omega)
        rw [htk] at hbt hbo
        rw [Nat.sub_self, List.replicate_zero, List.append_nil] at hbo
        have hex : l ++ headX op n s ++ exL ks = l ++ exT (.node op n s ks) := by rw [List.append_assoc]; rfl
        rw [htk, hex]
        rw [hex] at hbt
        obtain ⟨gT, cT, hv, hcl⟩ := hbt.full (by simp [exT, headX])
        rw [hv]
        rw [hv] at hbt
        clear hv
        have c0 := cell_of_row hrow (j := 0) (by simp)
        have c1 := cell_of_row hrow (j := 1) (by simp)
        have c2 := cell_of_row hrow (j := 2) (by simp)
        have c3 := cell_of_row hrow (j := 3) (by simp)
        simp only [List.getElem_toArray, List.getElem_cons_zero, List.getElem_cons_succ] at c0 c1 c2 c3
        have HP := hide (unhide h32 g k wr ((unhide HL0).below hbw) (unhide HOK) (unhide HSPL) hbo ((unhide HF).low hbw) ((unhide HT).on hbw) ((unhide HE).on hbw))
        have HBT := hide hbt
        have HBW := hide hbw
        have HOT := hide hot
        have HXT := hide (key_mk (exT (.node op n s ks)) (by have := unhide HXL; rw [List.length_append] at this; omega))
        have HSX : Hid (spX ps (.node op n s ks) = (putX ps op ks (spL ps ks) || fK ps (exT (.node op n s ks)))) := rfl
        have hsl : (l.length : Int) ≤ ((l ++ exT (.node op n s ks)).length : Int) := by rw [List.length_append]; omega
        have hsc : ((l ++ exT (.node op n s ks)).length : Int) ≤ (cT : Int) := by omega
        have hdl : (l ++ exT (.node op n s ks)).length - l.length = (exT (.node op n s ks)).length := by rw [List.length_append]; omega
        have hxp : 0 < (exT (.node op n s ks)).length := by simp only [exT, headX, List.length_append, List.length_cons]; omega
        have hlc : l.length < cT := by rw [List.length_append] at hcl; omega
        have hlc1 := Nat.ne_of_lt hlc
        have hlc2 := Ne.symm hlc1
        have hlc3 : cT - l.length ≠ 0 := by omega
        generalize hexx : exT (.node op n s ks) = ex at *
        have HEX := hide hexx
        generalize hsxx : spX ps (.node op n s ks) = sx at *
        have HSXX := hide hsxx
        clear hexx hsxx
        generalize hll : (l ++ ex).length = ll at *
        clear hbt hbw hot hrow hbo htk hex
        cases hp : putX ps op ks (spL ps ks) with
        | true =>
          rw [hp] at HP HSX
          clear hp
          go_wp2_with fail
          refine (unhide HP).mono ?_
          rintro e w5 ⟨rfl, hb5⟩
          have HB5 := hide ((unhide HBT).on hb5)
          have HBE5 := hide ((unhide HBW).trans (hb5.mono (unhide HBW).size))
          have HOT5 := hide ((unhide HOT).low hb5)
          clear hb5
          go_wp2_with fail
          exact bodyPost_ret (v := .tuple #[.slice (some ⟨gT, 0, none⟩) ll cT, .bool true]) (by simp [results, Tryd.results24, go_sem]) rfl ⟨_, by rw [unhide HSXX, unhide HSX]; rfl, by rw [unhide HEX]; exact unhide HB5, unhide HBE5, unhide HOT5⟩
        | false =>
          rw [hp] at HP HSX
          clear hp
          go_wp2_with fail
          refine (unhide HP).mono ?_
          rintro e w5 ⟨rfl, hb5⟩
          have HB5 := hide ((unhide HBT).on hb5)
          have HBE5 := hide ((unhide HBW).trans (hb5.mono (unhide HBW).size))
          have HOT5 := hide ((unhide HOT).low hb5)
          have hcv := (unhide HB5).tail
          obtain ⟨D, hD, hDf⟩ := (unhide HF).low (unhide HBE5)
          have HD := hide hD
          have HDF := hide (hDf ex)
          clear hb5 hD hDf
          go_wp2_with (at_lookup; refine wpList_lookup_own_ok _ rfl _ _ 38 rfl 9 44 law Tryd.underlying38 factElem (zero40 _) (.lit (.bool true)) [] rfl b n0 D rfl (unhide HD) _ _ rfl (unhide HXT) ?_; intro v ps' hv; obtain ⟨y1, y2, y3, y4, y5, y6, y7, y8, rfl⟩ := factElem_inv hv)
          exact bodyPost_ret (v := .tuple #[.slice (some ⟨gT, 0, none⟩) ll cT, .bool (Maps.has D (.string ex))]) (by simp [results, Tryd.results24, go_sem]) rfl ⟨_, by rw [unhide HSXX, unhide HSX, unhide HDF]; rfl, by rw [unhide HEX]; exact (unhide HB5).on (abD _), (unhide HBE5).alloc (unhide HBE5).size _, (unhide HOT5).add _⟩

set_option maxRecDepth 100000 in
theorem sp_any (ps : List Tm) : ∀ (k : Nat) (t : Tm), t.size ≤ k → SpOk ps t
  | 0, t, h => by have := t.size_pos; omega
  | k + 1, t, h => sp_step ps t fun x hx => sp_any ps k x (by
      cases t with
      | node op n s ks =>
        have := Tm.size_mem (ks := ks) hx
        simp only [Tm.size] at h
        omega)

set_option maxRecDepth 100000 in
theorem sp_calls (ps : List Tm) (t : Tm) : SpOk ps t := sp_any ps t.size t (Nat.le_refl _)

set_option maxRecDepth 100000 in
set_option maxHeartbeats 1000000 in
/-- The method makes. -/
theorem makes_calls (ps : List Tm) (b n0 : Nat) (t : Tm) (op n : Int) (s : ByteArray) (a : Option Addr) (len cap : Nat) (w : World) (hl : Lies w 0 t (tmCells op n s a len cap)) (hok : okT t = true) (hf : Facts w b n0 (fK ps)) (ht : Tab w) (he : Err w) :
    Calls Tryd.prog 16 #[.map (some b), .agg #[.int .i64 op, .int .i64 n, .string s, .slice a len cap]] w fun e w' => e = .returned (.bool (mkB ps t)) ∧ Below w.heap.size w w' := by
  rw [← spX_mkB ps t hok]
  have h24 := hide (sp_calls ps t w b n0 [] (.slice none 0 0) op n s a len cap)
  have hx := exT_le t (okT_right hok)
  have hz : t.size ≤ 200 := by
    unfold okT at hok
    rw [Bool.and_eq_true] at hok
    exact of_decide_eq_true hok.1
  have HX : Hid (([] : List UInt8).length + (exT t).length ≤ 500000) := by show _ ≤ _; simp; omega
  have HL := hide hl
  have HOK := hide hok
  have HF := hide hf
  have HT := hide ht
  have HE := hide he
  have HO := hide ((Bts.nil w).on (abD (.cells #[.int .i64 op, .int .i64 n, .string s, .slice a len cap] 31)))
  have HB := hide (abD (w := w) (.cells #[.int .i64 op, .int .i64 n, .string s, .slice a len cap] 31))
  clear hl hok hf ht he hx hz
  go_enter Tryd.func16, Tryd.ntmps16
  go_wp2_with fail
  refine (unhide h24 _ (unhide HL) (unhide HOK) (unhide HX) (unhide HO) (unhide HB) (unhide HT) (unhide HE) (unhide HF)).mono ?_
  rintro e w2 ⟨v2, rfl, -, hbe2, -⟩
  have HBE := hide hbe2
  clear hbe2
  go_wp2_with fail
  go_ret
  exact ⟨rfl, unhide HBE⟩

end Go.Proofs.YteminklafghgpaaDoor
