
/- The walks of impl.addExact and impl.exactText: the exact text of a right term, written behind the bytes of a row of the call's own; and as a string. -/
import Derived.Test.YteminklafghgpaaGreatDoorBt
import Derived.Test.YteminklafghgpaaGreatDoorEy
namespace Go.Proofs.YteminklafghgpaaGreatDoor
open Go.RowKit Go.Deep

theorem exL_append : ∀ (x y : List Tm), exL (x ++ y) = exL x ++ exL y
  | [], y => by simp [exL]
  | t :: r, y => by simp [exL, exL_append r y]
theorem exL_take {ks : List Tm} {k : Nat} (h : k < ks.length) : exL (ks.take (k + 1)) = exL (ks.take k) ++ exT ks[k] := by
  rw [← List.take_append_getElem h, exL_append]
  simp [exL]

theorem headX_le {op n : Int} {s : ByteArray} (hop : -9223372036854775808 ≤ op ∧ op ≤ 9223372036854775807) (hn : -9223372036854775808 ≤ n ∧ n ≤ 9223372036854775807) (hs : s.size ≤ 300) : (headX op n s).length ≤ 400 := by
  have e1 := Lib.itoa_length_le op hop.1 hop.2
  have e2 := Lib.itoa_length_le n hn.1 hn.2
  have e3 := Lib.itoa_length_le (s.size : Int) (by omega) (by omega)
  have e4 : s.toList.length = s.size := by rw [ByteArray.toList_eq]; simp
  simp only [headX, List.length_append, List.length_cons, e4]
  omega

theorem right_head {op n : Int} {s : ByteArray} {ks : List Tm} (h : rightT (.node op n s ks) = true) : (-9223372036854775808 ≤ op ∧ op ≤ 9223372036854775807) ∧ (-9223372036854775808 ≤ n ∧ n ≤ 9223372036854775807) ∧ s.size ≤ 300 ∧ rightL ks = true := by
  simp only [rightT, Bool.and_eq_true, headB, decide_eq_true_eq] at h
  obtain ⟨⟨⟨h1, _, _, h2, h3⟩, _⟩, h4⟩ := h
  refine ⟨?_, by omega, h3, h4⟩
  unfold kidsOf at h1
  split at h1
  · omega
  · split at h1
    · omega
    · split at h1
      · omega
      · omega

mutual
theorem exT_le : ∀ t : Tm, rightT t = true → (exT t).length ≤ 400 * t.size
  | .node op n s ks, h => by
    obtain ⟨h1, h2, h3, h4⟩ := right_head h
    have := headX_le h1 h2 h3
    have := exL_le ks h4
    simp only [exT, Tm.size, List.length_append]
    omega
theorem exL_le : ∀ ks : List Tm, rightL ks = true → (exL ks).length ≤ 400 * Tm.sizes ks
  | [], _ => by simp [exL, Tm.sizes]
  | t :: r, h => by
    simp only [rightL, Bool.and_eq_true] at h
    have := exT_le t h.1
    have := exL_le r h.2
    simp only [exL, Tm.sizes, List.length_append]
    omega
end

theorem exL_take_le {ks : List Tm} (k : Nat) : (exL (ks.take k)).length ≤ (exL ks).length := by
  conv => rhs; rw [← List.take_append_drop k ks, exL_append]
  simp

def AxOk (t : Tm) : Prop := ∀ (w0 : World) (l : List UInt8) (tv : Value) (op n : Int) (s : ByteArray) (a : Option Addr) (len cap : Nat) (w : World), Lies w0 0 t (tmCells op n s a len cap) → rightT t = true → t.size ≤ 2097152 → l.length + (exT t).length ≤ 500000 → Bts w0 l tv w → Below w0.heap.size w0 w → TabB w0 w0 →
  Calls Tryz.prog 53 #[tv, .agg #[.int .i64 op, .int .i64 n, .string s, .slice a len cap]] w fun e w' => ∃ v', e = .returned v' ∧ Bts w0 (l ++ exT t) v' w' ∧ Below w0.heap.size w0 w' ∧ Oth w w'

set_option maxHeartbeats 1000000 in
theorem ax_step (t : Tm) (h : ∀ x ∈ t.kids, AxOk x) : AxOk t := by
  intro w0 l tv op n s a len cap w hl hr hsz hlen ho hb ht
  cases t with
  | node op' n' s' ks =>
    simp only [Lies, tmCells] at hl
    obtain ⟨a', cap', he, ⟨hs, hlc, hcm⟩, hwf, hk⟩ := hl
    simp only [List.cons.injEq, Value.int.injEq, Value.string.injEq, Value.slice.injEq, true_and, and_true] at he
    obtain ⟨rfl, rfl, rfl, rfl, rfl, rfl⟩ := he
    obtain ⟨r1, r2, r3, r4⟩ := right_head hr
    have hll := Tm.length_le_sizes ks
    have HSZ : Hid (∀ x ∈ ks, x.size ≤ 2097152) := fun x hx => by have := Tm.size_mem hx; simp only [Tm.size] at hsz; omega
    have hlb : ks.length ≤ 2097152 := by simp only [Tm.size] at hsz; omega
    have HRK : Hid (∀ x ∈ ks, rightT x = true) := fun x hx => rightL_mem' r4 hx
    have HLN : Hid (∀ (k : Nat) (x : Tm), ks[k]? = some x → (l ++ headX op n s ++ exL (ks.take k)).length + (exT x).length ≤ 500000) := fun k x hx => by
      obtain ⟨hk, rfl⟩ := List.getElem?_eq_some_iff.1 hx
      have e1 := exL_take_le (ks := ks) (k + 1)
      rw [exL_take hk] at e1
      simp only [exT, List.length_append] at hlen e1 ⊢
      omega
    have h31 := hide (head_calls w0 l tv op n s a ks.length cap)
    have HOP := hide (And.intro r1 (And.intro r2 r3))
    have HLL : Hid (l.length ≤ 500000) := by show _ ≤ _; omega
    have HT := hide ht
    have HO := hide (ho.on (abD (.cells #[.int .i64 op, .int .i64 n, .string s, .slice a ks.length cap] 35)))
    have HB := hide (hb.trans ((abD (.cells #[.int .i64 op, .int .i64 n, .string s, .slice a ks.length cap] 35)).mono hb.size))
    have HK := hide hk
    have H' : Hid (∀ x ∈ ks, AxOk x) := h
    have HBX := hide (heap_alloc_new w (.cells #[.int .i64 op, .int .i64 n, .string s, .slice a ks.length cap] 35))
    obtain ⟨ta, tc, rfl⟩ := ho.shape
    generalize hlen' : ks.length = len at *
    have HL := hide hlen'
    clear h hk hwf hs hlc hcm hsz hll hlen' hlen r1 r2 r3 r4 hr ho hb ht
    go_enter Tryz.func53, Tryz.ntmps53
    go_wp2_with fail
    refine (unhide h31 _ (unhide HOP).1 (unhide HOP).2.1 (unhide HOP).2.2 (unhide HLL) (unhide HO) (unhide HB) (unhide HT)).mono ?_
    rintro e w2 ⟨v2, rfl, hb2, hbe2, hoth2⟩
    obtain ⟨va, vc, rfl⟩ := hb2.shape
    have hrow2 := hoth2.row (unhide HBX) (by decide)
    have c3 := cell_of_row hrow2 (j := 3) (by simp)
    simp only [List.getElem_toArray, List.getElem_cons_zero, List.getElem_cons_succ] at c3
    have HB2 := hide hb2
    have HBE2 := hide hbe2
    have HOT2 := hide hoth2.out
    clear hb2 hbe2 hoth2 hrow2
    generalize (l ++ headX op n s).length = vl at *
    go_wp2_with fail
    go_loopw [0, 13] (fun tv i wr => ∃ k : Nat, k ≤ len ∧ i = .int .i64 k ∧ Bts w0 (l ++ headX op n s ++ exL (ks.take k)) tv wr ∧ Below w0.heap.size w0 wr ∧ Oth w wr) (fun _ i _ => len - (intOf i).toNat)
    case atStart => exact ⟨0, Nat.zero_le _, rfl, by simpa [exL] using unhide HB2, unhide HBE2, unhide HOT2⟩
    case round =>
      obtain ⟨k, hkl, rfl, hbt, hbw, hot⟩ := hrel
      obtain ⟨ua, uc, rfl⟩ := hbt.shape
      by_cases hlt : k < len
      · have hlt' : k < ks.length := by have := unhide HL; omega
        obtain ⟨b, o, op1, n1, s1, a1, len1, cap1, rfl, _, hbs, c0, c1, c2, c3, hT⟩ := (unhide HK).elem (k := k) hlt'
        have c0' := (hbw.cell (p := ⟨b, o + k * 4, none⟩) hbs).trans c0
        have c1' := (hbw.cell (p := ⟨b, o + k * 4 + 1, none⟩) hbs).trans c1
        have c2' := (hbw.cell (p := ⟨b, o + k * 4 + 2, none⟩) hbs).trans c2
        have c3' := (hbw.cell (p := ⟨b, o + k * 4 + 3, none⟩) hbs).trans c3
        have HCT := hide (unhide H' ks[k] (List.getElem_mem hlt') w0 _ _ op1 n1 s1 a1 len1 cap1 (wr.alloc (.cells #[.int .i64 op1, .int .i64 n1, .string s1, .slice a1 len1 cap1] 35)) hT (unhide HRK _ (List.getElem_mem hlt')) (unhide HSZ _ (List.getElem_mem hlt')) (unhide HLN k _ (List.getElem?_eq_getElem hlt')) (hbt.on (abD _)) (hbw.trans ((abD _).mono hbw.size)) (unhide HT))
        have HE := hide (exL_take hlt')
        have HOT := hide (hot.add (.cells #[.int .i64 op1, .int .i64 n1, .string s1, .slice a1 len1 cap1] 35))
        generalize (l ++ headX op n s ++ exL (ks.take k)).length = ul at *
        clear c0 c1 c2 c3 hT hbt hbw hot
        go_wp2_with fail
        refine (unhide HCT).mono ?_
        rintro e w3 ⟨v3, rfl, hb3, hbe3, hoth3⟩
        have HB3 := hide hb3
        have HBE3 := hide hbe3
        have HOT3 := hide ((unhide HOT).go hoth3)
        clear hb3 hbe3 hoth3
        go_wp2_with fail
        exact ⟨⟨k + 1, by omega, by go_num, by rw [unhide HE, ← List.append_assoc]; exact unhide HB3, unhide HBE3, unhide HOT3⟩, by simp [intOf]; omega⟩
      · obtain rfl : k = len := by omega
        have HB3 := hide hbt
        have HBE3 := hide hbw
        have HOT3 := hide hot
        generalize hgl : (l ++ headX op n s ++ exL (ks.take k)).length = ul at *
        clear hbt hbw hot
        go_wp2_with fail
        go_ret
        refine ⟨_, rfl, ?_, unhide HBE3, unhide HOT3⟩
        have h9 := unhide HB3
        rw [List.take_of_length_le (by have := unhide HL; omega), List.append_assoc] at h9
        exact h9

theorem ax_any : ∀ (k : Nat) (t : Tm), t.size ≤ k → AxOk t
  | 0, t, h => by have := t.size_pos; omega
  | k + 1, t, h => ax_step t fun x hx => ax_any k x (by
      cases t with
      | node op n s ks =>
        have := Tm.size_mem (ks := ks) hx
        simp only [Tm.size] at h
        omega)

theorem ax_calls (t : Tm) : AxOk t := ax_any t.size t (Nat.le_refl _)

theorem Bts.nil (w : World) : Bts w [] (.slice none 0 0) w := ⟨by simp, Or.inl ⟨rfl, rfl⟩⟩

theorem bts_conv {w wr : World} {l : List UInt8} {tv : Value} (h : Bts w l tv wr) : (convert 65 9 tv).run Tryz.prog wr = .ok (.string ⟨l.toArray⟩) wr := by
  have ho := h
  rcases h.2 with ⟨h1, h2⟩ | ⟨g, cap, cur, h1, _⟩
  · obtain rfl : l = [] := by simpa using h2
    rw [h1]
    exact run_convert_bytes_nil wr 65 5 Tryz.underlying65 Tryz.underlying5 0 0 9 Tryz.underlying9
  · rw [h1]
    exact run_convert_bytes_back wr 65 9 5 ⟨g, 0, none⟩ cap l Tryz.underlying65 Tryz.underlying5 Tryz.underlying9 fun j hj =>
      World.ownsRow.cells ho (g := g) (by rw [h1]; rfl) j _ (by simp [hj])

set_option maxHeartbeats 1000000 in
theorem ext_calls (t : Tm) (op n : Int) (s : ByteArray) (a : Option Addr) (len cap : Nat) (w : World) (hl : Lies w 0 t (tmCells op n s a len cap)) (hr : rightT t = true) (hz : t.size ≤ 400) (ht : TabB w w) :
    Calls Tryz.prog 47 #[.agg #[.int .i64 op, .int .i64 n, .string s, .slice a len cap]] w fun e w' => e = .returned (.string ⟨(exT t).toArray⟩) ∧ Below w.heap.size w w' := by
  have h30 := hide (ax_calls t w [] (.slice none 0 0) op n s a len cap)
  have hx := exT_le t hr
  have HL := hide hl
  have HR := hide hr
  have HT := hide ht
  have HX : Hid (([] : List UInt8).length + (exT t).length ≤ 500000) := by show _ ≤ _; simp; omega
  have HZ : Hid (t.size ≤ 2097152) := by show _ ≤ _; omega
  have HO := hide ((Bts.nil w).on (abD (.cells #[.int .i64 op, .int .i64 n, .string s, .slice a len cap] 35)))
  have HB := hide (abD (w := w) (.cells #[.int .i64 op, .int .i64 n, .string s, .slice a len cap] 35))
  clear hl hr ht hx hz
  go_enter Tryz.func47, Tryz.ntmps47
  go_wp2_with fail
  refine (unhide h30 _ (unhide HL) (unhide HR) (unhide HZ) (unhide HX) (unhide HO) (unhide HB) (unhide HT)).mono ?_
  rintro e w2 ⟨v2, rfl, hb2, hbe2, -⟩
  obtain ⟨va, vc, rfl⟩ := hb2.shape
  have hcv := bts_conv hb2
  generalize ([] ++ exT t).length = vl at *
  have HBE := hide hbe2
  clear hb2 hbe2
  go_wp2_with fail
  go_ret
  exact ⟨rfl, unhide HBE⟩

end Go.Proofs.YteminklafghgpaaGreatDoor
