/- The walk of spec.NoteOf: what the model reads of a text. -/
import Derived.Test.YtjckdepcgjfomaaDoorWr
import Derived.Test.YtjckdepcgjfomaaDoorWa
import Derived.Test.YtjckdepcgjfomaaDoorWn
import Derived.Deep.Cut
import Derived.Deep.DeepCutAuto
import Derived.Deep.RegionHeld3
namespace Go.Proofs.YtjckdepcgjfomaaDoor
open Go.RowKit Go.Deep

theorem Txs.openT {w wr : World} {l : List ByteArray} {v : Value} (h : Txs w l v wr) (hne : l ≠ []) : ∃ g c, v = .slice (some ⟨g, 0, none⟩) l.length c ∧ g < wr.heap.size ∧ ∀ (k : Nat) t, l[k]? = some t → wr.cell? ⟨g, k, none⟩ = some (.string t) := by
  rcases h.2 with ⟨h1, h2⟩ | ⟨g, cap, cur, h1, h2, h3, h4, h5, h6, h7⟩
  · exact absurd (List.length_eq_zero_iff.1 h2) hne
  · refine ⟨g, cap, h1, (Array.getElem?_eq_some_iff.1 h3).1, fun k t hk => ?_⟩
    have hk' : k < l.length := (List.getElem?_eq_some_iff.1 hk).1
    have hkc : k < cur.size := by omega
    have e : (cur.toList.take (l.length * 1))[k]? = some (.string t) := by rw [h7]; simp [hk]
    rw [List.getElem?_take, if_pos (by omega), Array.getElem?_toList, Array.getElem?_eq_getElem hkc] at e
    rw [cell_of_row h3 hkc, e]
def nm : Nat → ByteArray
  | 1 => ⟨#[116, 97, 107, 101]⟩
  | 2 => ⟨#[116, 114, 121]⟩
  | 3 => ⟨#[103, 111, 110, 101]⟩
  | 4 => ⟨#[98, 97, 99, 107]⟩
  | _ => ⟨#[]⟩
/-- The kind of a word, as far as the names were gone through. -/
def kU (x : ByteArray) : Nat → Int
  | 0 => 0
  | 1 => 0
  | j + 2 => if x = nm (j + 1) then ((j + 1 : Nat) : Int) else kU x (j + 1)
theorem kU_yes {x : ByteArray} {j : Nat} (h1 : 1 ≤ j) (h : x = nm j) : kU x (j + 1) = (j : Int) := by
  obtain ⟨i, rfl⟩ : ∃ i, j = i + 1 := ⟨j - 1, by omega⟩
  rw [kU, if_pos h]
theorem kU_no {x : ByteArray} {j : Nat} (h1 : 1 ≤ j) (h : ¬ x = nm j) : kU x (j + 1) = kU x j := by
  obtain ⟨i, rfl⟩ : ∃ i, j = i + 1 := ⟨j - 1, by omega⟩
  rw [kU, if_neg h]
def whoW (ws : List ByteArray) : Int := if 1 < ws.length then numS (ws.getD 1 ⟨#[]⟩) else 0
def isTake (k : Int) (ws : List ByteArray) : Prop := k = 1 ∧ ws.length = 4
def isTry (k : Int) (ws : List ByteArray) : Prop := k = 2 ∧ ws.length = 3
instance (k : Int) (ws : List ByteArray) : Decidable (isTake k ws) := inferInstanceAs (Decidable (_ ∧ _))
instance (k : Int) (ws : List ByteArray) : Decidable (isTry k ws) := inferInstanceAs (Decidable (_ ∧ _))
/-- What the model reads of so many words. -/
def rdS (ws : List ByteArray) : NoteR :=
  ⟨kU (ws.getD 0 ⟨#[]⟩) 5, whoW ws, if isTake (kU (ws.getD 0 ⟨#[]⟩) 5) ws then ws.getD 2 ⟨#[]⟩ else ⟨#[]⟩, if isTake (kU (ws.getD 0 ⟨#[]⟩) 5) ws then numS (ws.getD 3 ⟨#[]⟩) else 0, if isTry (kU (ws.getD 0 ⟨#[]⟩) 5) ws then numS (ws.getD 2 ⟨#[]⟩) else 0⟩
theorem getD_of {l : List ByteArray} {k : Nat} (h : k < l.length) : l[k]? = some (l.getD k ⟨#[]⟩) := by
  rw [List.getD_eq_getElem?_getD, List.getElem?_eq_getElem h]
  rfl
theorem getD_size {l : List ByteArray} {k n : Nat} (h : ∀ x ∈ l, x.size ≤ n) : (l.getD k ⟨#[]⟩).size ≤ n := by
  by_cases hk : k < l.length
  · exact h _ (List.mem_of_getElem? (getD_of hk))
  · rw [List.getD_eq_getElem?_getD, List.getElem?_eq_none (by omega)]
    exact Nat.zero_le _
theorem RowN.put0 {ty : TypeId} {w : World} {p : Nat} {k h : Int} {d : ByteArray} {b t : Int} (hr : RowN ty w p k h d b t) (x : Int) : RowN ty (w.setCell ⟨p, 0, none⟩ (.int .i64 x)) p x h d b t := (row_setL hr (j := 0) (.int .i64 x)).trans (by simp)
theorem RowN.put1 {ty : TypeId} {w : World} {p : Nat} {k h : Int} {d : ByteArray} {b t : Int} (hr : RowN ty w p k h d b t) (x : Int) : RowN ty (w.setCell ⟨p, 1, none⟩ (.int .i64 x)) p k x d b t := (row_setL hr (j := 1) (.int .i64 x)).trans (by simp)
theorem RowN.put2 {ty : TypeId} {w : World} {p : Nat} {k h : Int} {d : ByteArray} {b t : Int} (hr : RowN ty w p k h d b t) (x : ByteArray) : RowN ty (w.setCell ⟨p, 2, none⟩ (.string x)) p k h x b t := (row_setL hr (j := 2) (.string x)).trans (by simp)
theorem RowN.put3 {ty : TypeId} {w : World} {p : Nat} {k h : Int} {d : ByteArray} {b t : Int} (hr : RowN ty w p k h d b t) (x : Int) : RowN ty (w.setCell ⟨p, 3, none⟩ (.int .i64 x)) p k h d x t := (row_setL hr (j := 3) (.int .i64 x)).trans (by simp)
theorem RowN.put4 {ty : TypeId} {w : World} {p : Nat} {k h : Int} {d : ByteArray} {b t : Int} (hr : RowN ty w p k h d b t) (x : Int) : RowN ty (w.setCell ⟨p, 4, none⟩ (.int .i64 x)) p k h d b x := (row_setL hr (j := 4) (.int .i64 x)).trans (by simp)
theorem RowN.thaw {ty : TypeId} {w : World} {p : Nat} {k h : Int} {d : ByteArray} {b t : Int} (hr : RowN ty w p k h d b t) (j : Nat) : w.frozen? ⟨p, j, none⟩ = false := frozen_of_row hr
theorem old_cell {B : Nat} {w w' : World} (h : Below B w w') {b o : Nat} {v : Value} (hb : b < B) (hc : w.cell? ⟨b, o, none⟩ = some v) : w'.cell? ⟨b, o, none⟩ = some v := by
  rw [h.cell (p := ⟨b, o, none⟩) hb, hc]

set_option maxRecDepth 100000 in
set_option maxHeartbeats 2000000 in
theorem specN (s Z : ByteArray) (m : Nat) (ws : List ByteArray) (w : World) (hs : s.size ≤ 2097152) (hm : s.size = m + 1) (hl : byteAt s m = 10) (hZ : s.extract 0 m = Z) (hw : wdsOf Z = ws) :
    Calls Tryd.prog 10 #[.string s] w fun e w' => ((rdS ws).text = s ∧ e = .returned (.tuple #[.agg #[.int .i64 (rdS ws).k, .int .i64 (rdS ws).h, .string (rdS ws).d, .int .i64 (rdS ws).b, .int .i64 (rdS ws).t], .bool true]) ∨ ¬ (rdS ws).text = s ∧ e = .returned (.tuple #[.agg #[.int .i64 0, .int .i64 0, .string ⟨#[]⟩, .int .i64 0, .int .i64 0], .bool false])) ∧ Below w.heap.size w w' := by
  have hzs : Z.size ≤ 2097152 := by rw [← hZ]; exact Nat.le_trans (size_extract_le _ _ _) hs
  have hwn : ws ≠ [] := by rw [← hw]; exact wds_ne _ _ _
  have hwl : ws.length ≤ 2097153 := by rw [← hw]; have := wds_length Z Z.size 0; unfold wdsOf; omega
  have hwz : ∀ x ∈ ws, x.size ≤ 2097152 := by rw [← hw]; exact fun x hx => Nat.le_trans (wds_size _ _ x hx) hzs
  have hW := hide (fun v => words23 Z v hzs)
  rw [hw] at hW
  have hN1 := hide (fun v => num24 (ws.getD 1 ⟨#[]⟩) v (getD_size hwz))
  have hN2 := hide (fun v => num24 (ws.getD 2 ⟨#[]⟩) v (getD_size hwz))
  have hN3 := hide (fun v => num24 (ws.getD 3 ⟨#[]⟩) v (getD_size hwz))
  have hsm : m < s.size := by omega
  have c1 : (m : Int) < (s.size : Int) := by omega
  have c2 : (0 : Int) ≤ (m : Int) := by omega
  have c3 : (m : Int) ≤ (s.size : Int) := by omega
  have w1 : wrap64 ((s.size : Int) - 1) = (m : Int) := by unfold wrap64; omega
  have q0 : ((s.size : Int) == 0) = false := beq_eq_false_iff_ne.2 (by omega)
  have hb := byteAt_lt hsm
  rw [hl] at hb
  have HB0 := hide (abP (w := w) (.cells #[.int .i64 0, .int .i64 0, .string ⟨#[]⟩, .int .i64 0, .int .i64 0] 26))
  have HX := hide (heap_alloc_new w (.cells #[.int .i64 0, .int .i64 0, .string ⟨#[]⟩, .int .i64 0, .int .i64 0] 26))
  clear hl hm hs hw hzs
  go_enter Tryd.func10, Tryd.ntmps10
  go_wp2_with fail
  generalize w.alloc (.cells #[.int .i64 0, .int .i64 0, .string ⟨#[]⟩, .int .i64 0, .int .i64 0] 26) = W1 at *
  refine (unhide hW _).mono ?_
  rintro e w2 ⟨v, rfl, htx, hb2⟩
  obtain ⟨g, c, rfl, hg2, hcell⟩ := htx.openT hwn
  have HC := hide hcell
  have hx0 := hcell 0 _ (getD_of (List.length_pos_iff.2 hwn))
  have HB2 := hide (btP (unhide HB0) hb2)
  have HX2 := hide ((hb2.block w.heap.size (Array.getElem?_eq_some_iff.1 (unhide HX)).1).trans (unhide HX))
  clear htx hcell hb2 HB0 HX hW
  have hn1 := List.length_pos_iff.2 hwn
  obtain ⟨n, hn⟩ : ∃ n, n = ws.length := ⟨_, rfl⟩
  rw [← hn] at hn1 hwl ⊢
  have HLN := hide hn
  clear hn
  have hL1 : (1 : Int) ≤ (n : Int) := by omega
  have hL0 : (0 : Int) < (n : Int) := by omega
  go_wp2_with fail
  have HV0 := hide (RowN.new 26 (w2.alloc (.cells #[.string ⟨#[]⟩, .string ⟨#[116, 97, 107, 101]⟩, .string ⟨#[116, 114, 121]⟩, .string ⟨#[103, 111, 110, 101]⟩, .string ⟨#[98, 97, 99, 107]⟩] 9)) 0 0 ⟨#[]⟩ 0 0)
  have HVB := hide (btP (abP (w := w2) (.cells #[.string ⟨#[]⟩, .string ⟨#[116, 97, 107, 101]⟩, .string ⟨#[116, 114, 121]⟩, .string ⟨#[103, 111, 110, 101]⟩, .string ⟨#[98, 97, 99, 107]⟩] 9)) (abP (w := w2.alloc (.cells #[.string ⟨#[]⟩, .string ⟨#[116, 97, 107, 101]⟩, .string ⟨#[116, 114, 121]⟩, .string ⟨#[103, 111, 110, 101]⟩, .string ⟨#[98, 97, 99, 107]⟩] 9)) (.cells #[.int .i64 0, .int .i64 0, .string ⟨#[]⟩, .int .i64 0, .int .i64 0] 26)))
  have HNM := hide (fun j v (h : #[Value.string ⟨#[]⟩, .string ⟨#[116, 97, 107, 101]⟩, .string ⟨#[116, 114, 121]⟩, .string ⟨#[103, 111, 110, 101]⟩, .string ⟨#[98, 97, 99, 107]⟩][j]? = some v) => below_some (abP (w := w2.alloc (.cells #[.string ⟨#[]⟩, .string ⟨#[116, 97, 107, 101]⟩, .string ⟨#[116, 114, 121]⟩, .string ⟨#[103, 111, 110, 101]⟩, .string ⟨#[98, 97, 99, 107]⟩] 9)) (.cells #[.int .i64 0, .int .i64 0, .string ⟨#[]⟩, .int .i64 0, .int .i64 0] 26)) (box_cell w2 _ 9 j v h))
  have eP : (w2.alloc (.cells #[.string ⟨#[]⟩, .string ⟨#[116, 97, 107, 101]⟩, .string ⟨#[116, 114, 121]⟩, .string ⟨#[103, 111, 110, 101]⟩, .string ⟨#[98, 97, 99, 107]⟩] 9)).heap.size = w2.heap.size + 1 := heap_size_alloc _ _
  rw [eP] at HV0
  clear eP
  generalize (w2.alloc (.cells #[.string ⟨#[]⟩, .string ⟨#[116, 97, 107, 101]⟩, .string ⟨#[116, 114, 121]⟩, .string ⟨#[103, 111, 110, 101]⟩, .string ⟨#[98, 97, 99, 107]⟩] 9)).alloc (.cells #[.int .i64 0, .int .i64 0, .string ⟨#[]⟩, .int .i64 0, .int .i64 0] 26) = V at *
  go_loopw [7] (fun x wr => ∃ j : Nat, x = .int .i64 j ∧ (1 ≤ j ∧ j ≤ 5) ∧ Below (w2.heap.size + 1) V wr ∧ RowN 26 wr (w2.heap.size + 1) (kU (ws.getD 0 ⟨#[]⟩) j) 0 ⟨#[]⟩ 0 0) (fun x _ => 5 - (intOf x).toNat)
  case atStart => exact ⟨1, rfl, ⟨by omega, by omega⟩, Below.refl _ _, unhide HV0⟩
  case round =>
    obtain ⟨j, rfl, ⟨hj1, hj5⟩, hbr, hrow⟩ := hrel
    have HBR := hide hbr
    have HROW := hide hrow
    clear hbr hrow
    by_cases hj : j < 5
    · have d1 : (j : Int) < 5 := by omega
      have d2 : (0 : Int) ≤ (j : Int) := by omega
      have d3 : wrap64 ((j : Int) + 1) = ((j + 1 : Nat) : Int) := by unfold wrap64; omega
      have k0 : wr.cell? ⟨g, 0, none⟩ = some (.string (ws.getD 0 ⟨#[]⟩)) := old_cell (unhide HBR) (by omega) (below_some (unhide HVB) hx0)
      have k1 : wr.cell? ⟨w2.heap.size, j, none⟩ = some (.string (nm j)) := old_cell (unhide HBR) (by omega) (unhide HNM j _ (by
        match j, hj1, hj with
        | 1, _, _ => rfl
        | 2, _, _ => rfl
        | 3, _, _ => rfl
        | 4, _, _ => rfl))
      by_cases hq : ws.getD 0 ⟨#[]⟩ = nm j
      · have q1 : ((ws.getD 0 ⟨#[]⟩).toList == (nm j).toList) = true := by rw [hq, beq_self_eq_true]
        have HK := hide (kU_yes hj1 hq)
        have f0 := (unhide HROW).thaw 0
        have kf0 := (unhide HROW).facts.1
        have HR2 : Hid (RowN 26 (wr.setCell ⟨w2.heap.size + 1, 0, none⟩ (.int .i64 (j : Int))) (w2.heap.size + 1) (kU (ws.getD 0 ⟨#[]⟩) (j + 1)) 0 ⟨#[]⟩ 0 0) := by
          have hr := (unhide HROW).put0 (j : Int)
          show RowN _ _ _ _ _ _ _ _
          rw [unhide HK]
          exact hr
        clear hq
        generalize hgx : ws.getD 0 ⟨#[]⟩ = X at *
        generalize nm j = Y at *
        go_wp2_with fail
        go_region_held3 (fun y => y.cell? ⟨g, 0, none⟩ = some (.string X) ∧ y.cell? ⟨w2.heap.size, j, none⟩ = some (.string Y)) (go_keep) (fail)
        go_wp2_with fail
        go_roundw
        case rel => exact ⟨j + 1, rfl, ⟨by omega, by omega⟩, (setB (unhide HBR) (Nat.le_refl _)).drew, unhide HR2⟩
        case measure => simp only [intOf]; omega
      · have q1 : ((ws.getD 0 ⟨#[]⟩).toList == (nm j).toList) = false := ne_list hq
        have HK := hide (kU_no hj1 hq)
        have HR2 := hide (unhide HROW)
        rw [← unhide HK] at HR2
        clear hq
        generalize hgx : ws.getD 0 ⟨#[]⟩ = X at *
        generalize nm j = Y at *
        go_wp2_with fail
        go_region_held3 (fun y => y.cell? ⟨g, 0, none⟩ = some (.string X) ∧ y.cell? ⟨w2.heap.size, j, none⟩ = some (.string Y)) (go_keep) (fail)
        go_wp2_with fail
        go_roundw
        case rel => exact ⟨j + 1, rfl, ⟨by omega, by omega⟩, (unhide HBR).drew, unhide HR2⟩
        case measure => simp only [intOf]; omega
    · obtain rfl : j = 5 := by omega
      have d1 : ¬ (((5 : Nat) : Int) < 5) := by decide
      obtain ⟨K, hKX⟩ : ∃ K, K = kU (ws.getD 0 ⟨#[]⟩) 5 := ⟨_, rfl⟩
      obtain ⟨H, hH⟩ : ∃ H, H = whoW ws := ⟨_, rfl⟩
      rw [← hKX] at HROW
      have HKX := hide hKX.symm
      have HH := hide hH.symm
      clear hKX hH
      have HCV : Hid (∀ (k : Nat) t, ws[k]? = some t → V.cell? ⟨g, k, none⟩ = some (.string t)) := fun k t hk => below_some (unhide HVB) (unhide HC k t hk)
      have HXV := hide (((unhide HVB).block w.heap.size (Nat.lt_of_lt_of_le (Array.getElem?_eq_some_iff.1 (unhide HX2)).1 (Nat.le_refl _))).trans (unhide HX2))
      have HWL : Hid (w.heap.size < w2.heap.size + 1) := Nat.lt_succ_of_lt (Array.getElem?_eq_some_iff.1 (unhide HX2)).1
      have HBV := hide (btP (unhide HB2) (unhide HVB))
      have hg3 : g < w2.heap.size + 1 := by omega
      clear HNM HV0 HX2 HVB HC hx0
      go_upto_if 46 with fail
      go_cut [] (fun wx => Below (w2.heap.size + 1) V wx ∧ RowN 26 wx (w2.heap.size + 1) K H ⟨#[]⟩ 0 0)
      case first =>
        by_cases hn2 : 1 < n
        · have e1 : (1 : Int) < (n : Int) := by omega
          have k1 : wr.cell? ⟨g, 1, none⟩ = some (.string (ws.getD 1 ⟨#[]⟩)) := old_cell (unhide HBR) hg3 (unhide HCV 1 _ (getD_of (by rw [← unhide HLN]; exact hn2)))
          have hHN : numS (ws.getD 1 ⟨#[]⟩) = H := by rw [← unhide HH]; unfold whoW; rw [if_pos (by rw [← unhide HLN]; exact hn2)]
          rw [hHN] at hN1
          have kf1 := (unhide HROW).facts.2.1
          have f1 := (unhide HROW).thaw 1
          have HR2 := hide ((unhide HROW).put1 H)
          clear hHN hn2
          go_wp2_with fail
          refine (unhide hN1 _).mono ?_
          rintro e w6 ⟨rfl, rfl⟩
          go_wp2_with fail
          go_meet
          exact ⟨setB (unhide HBR) (Nat.le_refl _), unhide HR2⟩
        · have e1 : ¬ (1 : Int) < (n : Int) := by omega
          have hHN : H = 0 := by rw [← unhide HH]; unfold whoW; rw [if_neg (by rw [← unhide HLN]; exact hn2)]
          have HR2 : Hid (RowN 26 wr (w2.heap.size + 1) K H ⟨#[]⟩ 0 0) := by
            show RowN _ _ _ _ _ _ _ _
            rw [hHN]
            exact unhide HROW
          clear hHN hn2
          go_wp2_with fail
          go_meet
          exact ⟨unhide HBR, unhide HR2⟩
      case rest =>
        obtain ⟨hbc, hrc⟩ := hcut
        have HBC := hide hbc
        have HRC := hide hrc
        clear hbc hrc HBR HROW hN1
        by_cases hk1 : K = 1
        · subst hk1
          by_cases hn4 : n = 4
          · subst hn4
            obtain ⟨D, hD⟩ : ∃ D, D = ws.getD 2 ⟨#[]⟩ := ⟨_, rfl⟩
            obtain ⟨Y, hY⟩ : ∃ Y, Y = numS (ws.getD 3 ⟨#[]⟩) := ⟨_, rfl⟩
            have hdz : D.size ≤ 2097152 := by rw [hD]; exact getD_size hwz
            have k2 : wc.cell? ⟨g, 2, none⟩ = some (.string D) := old_cell (unhide HBC) hg3 (unhide HCV 2 _ (by rw [hD]; exact getD_of (by rw [← unhide HLN]; decide)))
            have k3 : (wc.setCell ⟨w2.heap.size + 1, 2, none⟩ (.string D)).cell? ⟨g, 3, none⟩ = some (.string (ws.getD 3 ⟨#[]⟩)) := old_cell (setB (unhide HBC) (Nat.le_refl _)) hg3 (unhide HCV 3 _ (getD_of (by rw [← unhide HLN]; decide)))
            have hNN := hN3
            rw [← hY] at hNN
            have HDY := hide (And.intro hD hY)
            clear hD hY
            have HRN := hide (((unhide HRC).put2 D).put3 Y)
            have HBN : Hid (Below (w2.heap.size + 1) V ((wc.setCell ⟨w2.heap.size + 1, 2, none⟩ (.string D)).setCell ⟨w2.heap.size + 1, 3, none⟩ (.int .i64 Y))) := (setB (setB (unhide HBC) (Nat.le_refl _)) (Nat.le_refl _))
            obtain ⟨kf0, kf1, kf2, kf3, kf4⟩ := (unhide HRC).facts
            have f0 := (unhide HRC).thaw 0
            have f1 := (unhide HRC).thaw 1
            have f2 := (unhide HRC).thaw 2
            have f3 := (unhide HRC).thaw 3
            have f4 := (unhide HRC).thaw 4
            have HRD : Hid (rdS ws = ⟨1, H, D, Y, 0⟩) := by
              show rdS ws = _
              have h1 := unhide HKX
              have h2 := unhide HH
              have h3 := unhide HLN
              have h4 := unhide HDY
              unfold rdS
              rw [h1, h2, if_pos ⟨rfl, h3.symm⟩, if_pos ⟨rfl, h3.symm⟩, if_neg (fun hh => absurd hh.1 (by decide)), h4.1, h4.2]
            obtain ⟨TT, hTT⟩ : ∃ TT, TT = textN 1 H D Y 0 := ⟨_, rfl⟩
            have hTX := hide (fun v => textS_any 1 H D Y 0 v hdz)
            rw [← hTT] at hTX
            have HTT : Hid ((rdS ws).text = TT) := by show NoteR.text _ = _; rw [unhide HRD]; exact hTT.symm
            clear hTT hdz HRC HBC hN2 hN3 hwz HCV HKX HLN HDY HH
            go_wp2_with fail
            refine (unhide hNN _).mono ?_
            rintro e w5 ⟨rfl, rfl⟩
            go_wp2_with fail
            refine (unhide hTX _).mono ?_
            rintro e w6 ⟨rfl, hb6⟩
            have HBW := hide (btP ((unhide HBV).trans ((unhide HBN).mono (Nat.le_of_lt (unhide HWL)))) hb6)
            have HXN := hide (((unhide HBN).block w.heap.size (unhide HWL)).trans (unhide HXV))
            have hx6 := (hb6.block w.heap.size (Array.getElem?_eq_some_iff.1 (unhide HXN)).1).trans (unhide HXN)
            have hr6 := (unhide HRN).below hb6
            clear hb6 kf0 kf1 kf2 kf3 kf4 f0 f1 f2 f3 f4 k2 k3
            obtain ⟨kf0, kf1, kf2, kf3, kf4⟩ := hr6.facts
            have r0 : w6.cell? ⟨w.heap.size, 0, none⟩ = some (.int .i64 0) := cell_of_row hx6 (by simp)
            have r1 : w6.cell? ⟨w.heap.size, 1, none⟩ = some (.int .i64 0) := cell_of_row hx6 (by simp)
            have r2 : w6.cell? ⟨w.heap.size, 2, none⟩ = some (.string ⟨#[]⟩) := cell_of_row hx6 (by simp)
            have r3 : w6.cell? ⟨w.heap.size, 3, none⟩ = some (.int .i64 0) := cell_of_row hx6 (by simp)
            have r4 : w6.cell? ⟨w.heap.size, 4, none⟩ = some (.int .i64 0) := cell_of_row hx6 (by simp)
            have g0 : w6.frozen? ⟨w.heap.size, 0, none⟩ = false := frozen_of_row hx6
            have g1 : w6.frozen? ⟨w.heap.size, 1, none⟩ = false := frozen_of_row hx6
            have g2 : w6.frozen? ⟨w.heap.size, 2, none⟩ = false := frozen_of_row hx6
            have g3 : w6.frozen? ⟨w.heap.size, 3, none⟩ = false := frozen_of_row hx6
            have g4 : w6.frozen? ⟨w.heap.size, 4, none⟩ = false := frozen_of_row hx6
            by_cases hx : TT = s
            · have HE : Hid ((rdS ws).text = s) := (unhide HTT).trans hx
              subst hx
              go_wp2_with fail
              refine bodyPost_ret (v := .tuple #[.agg #[.int .i64 1, .int .i64 H, .string D, .int .i64 Y, .int .i64 0], .bool true]) (by simp [results, Tryd.results10, go_sem, r0, r1, r2, r3, r4]) rfl ⟨Or.inl ⟨unhide HE, by rw [unhide HRD]⟩, ?_⟩
              iterate 5 refine setB ?_ (Nat.le_refl _)
              exact unhide HBW
            · have HE : Hid (¬ (rdS ws).text = s) := by show ¬ _; rw [unhide HTT]; exact hx
              have hq := ne_list hx
              clear hx
              go_wp2_with fail
              refine bodyPost_ret (v := .tuple #[.agg #[.int .i64 0, .int .i64 0, .string ⟨#[]⟩, .int .i64 0, .int .i64 0], .bool false]) (by simp [results, Tryd.results10, go_sem, r0, r1, r2, r3, r4]) rfl ⟨Or.inr ⟨unhide HE, rfl⟩, ?_⟩
              iterate 5 refine setB ?_ (Nat.le_refl _)
              exact unhide HBW
          · have hn4q : ((n : Int) == 4) = false := beq_eq_false_iff_ne.2 (by omega)
            have hne1 := hide hn4
            have hne2 := hide True.intro
            clear hn4
            have hdz : (⟨#[]⟩ : ByteArray).size ≤ 2097152 := Nat.zero_le _
            have HDY := hide (And.intro True.intro True.intro)
            have HRN := hide (unhide HRC)
            have HBN : Hid (Below (w2.heap.size + 1) V wc) := (unhide HBC)
            obtain ⟨kf0, kf1, kf2, kf3, kf4⟩ := (unhide HRC).facts
            have f0 := (unhide HRC).thaw 0
            have f1 := (unhide HRC).thaw 1
            have f2 := (unhide HRC).thaw 2
            have f3 := (unhide HRC).thaw 3
            have f4 := (unhide HRC).thaw 4
            have HRD : Hid (rdS ws = ⟨1, H, ⟨#[]⟩, 0, 0⟩) := by
              show rdS ws = _
              have h1 := unhide HKX
              have h2 := unhide HH
              have h3 := unhide HLN
              unfold rdS
              rw [h1, h2, if_neg (fun hh : isTake _ _ => unhide hne1 (h3.trans hh.2)), if_neg (fun hh : isTake _ _ => unhide hne1 (h3.trans hh.2)), if_neg (fun hh : isTry _ _ => absurd hh.1 (by decide))]
            obtain ⟨TT, hTT⟩ : ∃ TT, TT = textN 1 H ⟨#[]⟩ 0 0 := ⟨_, rfl⟩
            have hTX := hide (fun v => textS_any 1 H ⟨#[]⟩ 0 0 v hdz)
            rw [← hTT] at hTX
            have HTT : Hid ((rdS ws).text = TT) := by show NoteR.text _ = _; rw [unhide HRD]; exact hTT.symm
            clear hTT hdz HRC HBC hN2 hN3 hwz HCV HKX HLN HDY HH hne1 hne2
            go_wp2_with fail
            refine (unhide hTX _).mono ?_
            rintro e w6 ⟨rfl, hb6⟩
            have HBW := hide (btP ((unhide HBV).trans ((unhide HBN).mono (Nat.le_of_lt (unhide HWL)))) hb6)
            have HXN := hide (((unhide HBN).block w.heap.size (unhide HWL)).trans (unhide HXV))
            have hx6 := (hb6.block w.heap.size (Array.getElem?_eq_some_iff.1 (unhide HXN)).1).trans (unhide HXN)
            have hr6 := (unhide HRN).below hb6
            clear hb6 kf0 kf1 kf2 kf3 kf4 f0 f1 f2 f3 f4
            obtain ⟨kf0, kf1, kf2, kf3, kf4⟩ := hr6.facts
            have r0 : w6.cell? ⟨w.heap.size, 0, none⟩ = some (.int .i64 0) := cell_of_row hx6 (by simp)
            have r1 : w6.cell? ⟨w.heap.size, 1, none⟩ = some (.int .i64 0) := cell_of_row hx6 (by simp)
            have r2 : w6.cell? ⟨w.heap.size, 2, none⟩ = some (.string ⟨#[]⟩) := cell_of_row hx6 (by simp)
            have r3 : w6.cell? ⟨w.heap.size, 3, none⟩ = some (.int .i64 0) := cell_of_row hx6 (by simp)
            have r4 : w6.cell? ⟨w.heap.size, 4, none⟩ = some (.int .i64 0) := cell_of_row hx6 (by simp)
            have g0 : w6.frozen? ⟨w.heap.size, 0, none⟩ = false := frozen_of_row hx6
            have g1 : w6.frozen? ⟨w.heap.size, 1, none⟩ = false := frozen_of_row hx6
            have g2 : w6.frozen? ⟨w.heap.size, 2, none⟩ = false := frozen_of_row hx6
            have g3 : w6.frozen? ⟨w.heap.size, 3, none⟩ = false := frozen_of_row hx6
            have g4 : w6.frozen? ⟨w.heap.size, 4, none⟩ = false := frozen_of_row hx6
            by_cases hx : TT = s
            · have HE : Hid ((rdS ws).text = s) := (unhide HTT).trans hx
              subst hx
              go_wp2_with fail
              refine bodyPost_ret (v := .tuple #[.agg #[.int .i64 1, .int .i64 H, .string ⟨#[]⟩, .int .i64 0, .int .i64 0], .bool true]) (by simp [results, Tryd.results10, go_sem, r0, r1, r2, r3, r4]) rfl ⟨Or.inl ⟨unhide HE, by rw [unhide HRD]⟩, ?_⟩
              iterate 5 refine setB ?_ (Nat.le_refl _)
              exact unhide HBW
            · have HE : Hid (¬ (rdS ws).text = s) := by show ¬ _; rw [unhide HTT]; exact hx
              have hq := ne_list hx
              clear hx
              go_wp2_with fail
              refine bodyPost_ret (v := .tuple #[.agg #[.int .i64 0, .int .i64 0, .string ⟨#[]⟩, .int .i64 0, .int .i64 0], .bool false]) (by simp [results, Tryd.results10, go_sem, r0, r1, r2, r3, r4]) rfl ⟨Or.inr ⟨unhide HE, rfl⟩, ?_⟩
              iterate 5 refine setB ?_ (Nat.le_refl _)
              exact unhide HBW
        · by_cases hk2 : K = 2
          · subst hk2
            by_cases hn3 : n = 3
            · subst hn3
              clear hk1
              obtain ⟨Y, hY⟩ : ∃ Y, Y = numS (ws.getD 2 ⟨#[]⟩) := ⟨_, rfl⟩
              have hdz : (⟨#[]⟩ : ByteArray).size ≤ 2097152 := Nat.zero_le _
              have k2 : wc.cell? ⟨g, 2, none⟩ = some (.string (ws.getD 2 ⟨#[]⟩)) := old_cell (unhide HBC) hg3 (unhide HCV 2 _ (getD_of (by rw [← unhide HLN]; decide)))
              have hNN := hN2
              rw [← hY] at hNN
              have HDY := hide (And.intro True.intro hY)
              clear hY
              have HRN := hide ((unhide HRC).put4 Y)
              have HBN : Hid (Below (w2.heap.size + 1) V (wc.setCell ⟨w2.heap.size + 1, 4, none⟩ (.int .i64 Y))) := (setB (unhide HBC) (Nat.le_refl _))
              obtain ⟨kf0, kf1, kf2, kf3, kf4⟩ := (unhide HRC).facts
              have f0 := (unhide HRC).thaw 0
              have f1 := (unhide HRC).thaw 1
              have f2 := (unhide HRC).thaw 2
              have f3 := (unhide HRC).thaw 3
              have f4 := (unhide HRC).thaw 4
              have HRD : Hid (rdS ws = ⟨2, H, ⟨#[]⟩, 0, Y⟩) := by
                show rdS ws = _
                have h1 := unhide HKX
                have h2 := unhide HH
                have h3 := unhide HLN
                have h4 := unhide HDY
                unfold rdS
                rw [h1, h2, if_neg (fun hh => absurd hh.1 (by decide)), if_neg (fun hh => absurd hh.1 (by decide)), if_pos ⟨rfl, h3.symm⟩, h4.2]
              obtain ⟨TT, hTT⟩ : ∃ TT, TT = textN 2 H ⟨#[]⟩ 0 Y := ⟨_, rfl⟩
              have hTX := hide (fun v => textS_any 2 H ⟨#[]⟩ 0 Y v hdz)
              rw [← hTT] at hTX
              have HTT : Hid ((rdS ws).text = TT) := by show NoteR.text _ = _; rw [unhide HRD]; exact hTT.symm
              clear hTT hdz HRC HBC hN2 hN3 hwz HCV HKX HLN HDY HH
              go_wp2_with fail
              refine (unhide hNN _).mono ?_
              rintro e w5 ⟨rfl, rfl⟩
              go_wp2_with fail
              refine (unhide hTX _).mono ?_
              rintro e w6 ⟨rfl, hb6⟩
              have HBW := hide (btP ((unhide HBV).trans ((unhide HBN).mono (Nat.le_of_lt (unhide HWL)))) hb6)
              have HXN := hide (((unhide HBN).block w.heap.size (unhide HWL)).trans (unhide HXV))
              have hx6 := (hb6.block w.heap.size (Array.getElem?_eq_some_iff.1 (unhide HXN)).1).trans (unhide HXN)
              have hr6 := (unhide HRN).below hb6
              clear hb6 kf0 kf1 kf2 kf3 kf4 f0 f1 f2 f3 f4 k2
              obtain ⟨kf0, kf1, kf2, kf3, kf4⟩ := hr6.facts
              have r0 : w6.cell? ⟨w.heap.size, 0, none⟩ = some (.int .i64 0) := cell_of_row hx6 (by simp)
              have r1 : w6.cell? ⟨w.heap.size, 1, none⟩ = some (.int .i64 0) := cell_of_row hx6 (by simp)
              have r2 : w6.cell? ⟨w.heap.size, 2, none⟩ = some (.string ⟨#[]⟩) := cell_of_row hx6 (by simp)
              have r3 : w6.cell? ⟨w.heap.size, 3, none⟩ = some (.int .i64 0) := cell_of_row hx6 (by simp)
              have r4 : w6.cell? ⟨w.heap.size, 4, none⟩ = some (.int .i64 0) := cell_of_row hx6 (by simp)
              have g0 : w6.frozen? ⟨w.heap.size, 0, none⟩ = false := frozen_of_row hx6
              have g1 : w6.frozen? ⟨w.heap.size, 1, none⟩ = false := frozen_of_row hx6
              have g2 : w6.frozen? ⟨w.heap.size, 2, none⟩ = false := frozen_of_row hx6
              have g3 : w6.frozen? ⟨w.heap.size, 3, none⟩ = false := frozen_of_row hx6
              have g4 : w6.frozen? ⟨w.heap.size, 4, none⟩ = false := frozen_of_row hx6
              by_cases hx : TT = s
              · have HE : Hid ((rdS ws).text = s) := (unhide HTT).trans hx
                subst hx
                go_wp2_with fail
                refine bodyPost_ret (v := .tuple #[.agg #[.int .i64 2, .int .i64 H, .string ⟨#[]⟩, .int .i64 0, .int .i64 Y], .bool true]) (by simp [results, Tryd.results10, go_sem, r0, r1, r2, r3, r4]) rfl ⟨Or.inl ⟨unhide HE, by rw [unhide HRD]⟩, ?_⟩
                iterate 5 refine setB ?_ (Nat.le_refl _)
                exact unhide HBW
              · have HE : Hid (¬ (rdS ws).text = s) := by show ¬ _; rw [unhide HTT]; exact hx
                have hq := ne_list hx
                clear hx
                go_wp2_with fail
                refine bodyPost_ret (v := .tuple #[.agg #[.int .i64 0, .int .i64 0, .string ⟨#[]⟩, .int .i64 0, .int .i64 0], .bool false]) (by simp [results, Tryd.results10, go_sem, r0, r1, r2, r3, r4]) rfl ⟨Or.inr ⟨unhide HE, rfl⟩, ?_⟩
                iterate 5 refine setB ?_ (Nat.le_refl _)
                exact unhide HBW
            · have hn3q : ((n : Int) == 3) = false := beq_eq_false_iff_ne.2 (by omega)
              have hne1 := hide True.intro
              have hne2 := hide hn3
              clear hn3 hk1
              have hdz : (⟨#[]⟩ : ByteArray).size ≤ 2097152 := Nat.zero_le _
              have HDY := hide (And.intro True.intro True.intro)
              have HRN := hide (unhide HRC)
              have HBN : Hid (Below (w2.heap.size + 1) V wc) := (unhide HBC)
              obtain ⟨kf0, kf1, kf2, kf3, kf4⟩ := (unhide HRC).facts
              have f0 := (unhide HRC).thaw 0
              have f1 := (unhide HRC).thaw 1
              have f2 := (unhide HRC).thaw 2
              have f3 := (unhide HRC).thaw 3
              have f4 := (unhide HRC).thaw 4
              have HRD : Hid (rdS ws = ⟨2, H, ⟨#[]⟩, 0, 0⟩) := by
                show rdS ws = _
                have h1 := unhide HKX
                have h2 := unhide HH
                have h3 := unhide HLN
                unfold rdS
                rw [h1, h2, if_neg (fun hh : isTake _ _ => absurd hh.1 (by decide)), if_neg (fun hh : isTake _ _ => absurd hh.1 (by decide)), if_neg (fun hh : isTry _ _ => unhide hne2 (h3.trans hh.2))]
              obtain ⟨TT, hTT⟩ : ∃ TT, TT = textN 2 H ⟨#[]⟩ 0 0 := ⟨_, rfl⟩
              have hTX := hide (fun v => textS_any 2 H ⟨#[]⟩ 0 0 v hdz)
              rw [← hTT] at hTX
              have HTT : Hid ((rdS ws).text = TT) := by show NoteR.text _ = _; rw [unhide HRD]; exact hTT.symm
              clear hTT hdz HRC HBC hN2 hN3 hwz HCV HKX HLN HDY HH hne1 hne2
              go_wp2_with fail
              refine (unhide hTX _).mono ?_
              rintro e w6 ⟨rfl, hb6⟩
              have HBW := hide (btP ((unhide HBV).trans ((unhide HBN).mono (Nat.le_of_lt (unhide HWL)))) hb6)
              have HXN := hide (((unhide HBN).block w.heap.size (unhide HWL)).trans (unhide HXV))
              have hx6 := (hb6.block w.heap.size (Array.getElem?_eq_some_iff.1 (unhide HXN)).1).trans (unhide HXN)
              have hr6 := (unhide HRN).below hb6
              clear hb6 kf0 kf1 kf2 kf3 kf4 f0 f1 f2 f3 f4
              obtain ⟨kf0, kf1, kf2, kf3, kf4⟩ := hr6.facts
              have r0 : w6.cell? ⟨w.heap.size, 0, none⟩ = some (.int .i64 0) := cell_of_row hx6 (by simp)
              have r1 : w6.cell? ⟨w.heap.size, 1, none⟩ = some (.int .i64 0) := cell_of_row hx6 (by simp)
              have r2 : w6.cell? ⟨w.heap.size, 2, none⟩ = some (.string ⟨#[]⟩) := cell_of_row hx6 (by simp)
              have r3 : w6.cell? ⟨w.heap.size, 3, none⟩ = some (.int .i64 0) := cell_of_row hx6 (by simp)
              have r4 : w6.cell? ⟨w.heap.size, 4, none⟩ = some (.int .i64 0) := cell_of_row hx6 (by simp)
              have g0 : w6.frozen? ⟨w.heap.size, 0, none⟩ = false := frozen_of_row hx6
              have g1 : w6.frozen? ⟨w.heap.size, 1, none⟩ = false := frozen_of_row hx6
              have g2 : w6.frozen? ⟨w.heap.size, 2, none⟩ = false := frozen_of_row hx6
              have g3 : w6.frozen? ⟨w.heap.size, 3, none⟩ = false := frozen_of_row hx6
              have g4 : w6.frozen? ⟨w.heap.size, 4, none⟩ = false := frozen_of_row hx6
              by_cases hx : TT = s
              · have HE : Hid ((rdS ws).text = s) := (unhide HTT).trans hx
                subst hx
                go_wp2_with fail
                refine bodyPost_ret (v := .tuple #[.agg #[.int .i64 2, .int .i64 H, .string ⟨#[]⟩, .int .i64 0, .int .i64 0], .bool true]) (by simp [results, Tryd.results10, go_sem, r0, r1, r2, r3, r4]) rfl ⟨Or.inl ⟨unhide HE, by rw [unhide HRD]⟩, ?_⟩
                iterate 5 refine setB ?_ (Nat.le_refl _)
                exact unhide HBW
              · have HE : Hid (¬ (rdS ws).text = s) := by show ¬ _; rw [unhide HTT]; exact hx
                have hq := ne_list hx
                clear hx
                go_wp2_with fail
                refine bodyPost_ret (v := .tuple #[.agg #[.int .i64 0, .int .i64 0, .string ⟨#[]⟩, .int .i64 0, .int .i64 0], .bool false]) (by simp [results, Tryd.results10, go_sem, r0, r1, r2, r3, r4]) rfl ⟨Or.inr ⟨unhide HE, rfl⟩, ?_⟩
                iterate 5 refine setB ?_ (Nat.le_refl _)
                exact unhide HBW
          · have hq1 : (K == 1) = false := beq_eq_false_iff_ne.2 hk1
            have hq2 : (K == 2) = false := beq_eq_false_iff_ne.2 hk2
            have hne1 := hide hk1
            have hne2 := hide hk2
            clear hk1 hk2
            have hdz : (⟨#[]⟩ : ByteArray).size ≤ 2097152 := Nat.zero_le _
            have HDY := hide (And.intro True.intro True.intro)
            have HRN := hide (unhide HRC)
            have HBN : Hid (Below (w2.heap.size + 1) V wc) := (unhide HBC)
            obtain ⟨kf0, kf1, kf2, kf3, kf4⟩ := (unhide HRC).facts
            have f0 := (unhide HRC).thaw 0
            have f1 := (unhide HRC).thaw 1
            have f2 := (unhide HRC).thaw 2
            have f3 := (unhide HRC).thaw 3
            have f4 := (unhide HRC).thaw 4
            have HRD : Hid (rdS ws = ⟨K, H, ⟨#[]⟩, 0, 0⟩) := by
              show rdS ws = _
              have h1 := unhide HKX
              have h2 := unhide HH
              have h3 := unhide HLN
              unfold rdS
              rw [h1, h2, if_neg (fun hh : isTake _ _ => unhide hne1 hh.1), if_neg (fun hh : isTake _ _ => unhide hne1 hh.1), if_neg (fun hh : isTry _ _ => unhide hne2 hh.1)]
            obtain ⟨TT, hTT⟩ : ∃ TT, TT = textN K H ⟨#[]⟩ 0 0 := ⟨_, rfl⟩
            have hTX := hide (fun v => textS_any K H ⟨#[]⟩ 0 0 v hdz)
            rw [← hTT] at hTX
            have HTT : Hid ((rdS ws).text = TT) := by show NoteR.text _ = _; rw [unhide HRD]; exact hTT.symm
            clear hTT hdz HRC HBC hN2 hN3 hwz HCV HKX HLN HDY HH hne1 hne2
            go_wp2_with fail
            refine (unhide hTX _).mono ?_
            rintro e w6 ⟨rfl, hb6⟩
            have HBW := hide (btP ((unhide HBV).trans ((unhide HBN).mono (Nat.le_of_lt (unhide HWL)))) hb6)
            have HXN := hide (((unhide HBN).block w.heap.size (unhide HWL)).trans (unhide HXV))
            have hx6 := (hb6.block w.heap.size (Array.getElem?_eq_some_iff.1 (unhide HXN)).1).trans (unhide HXN)
            have hr6 := (unhide HRN).below hb6
            clear hb6 kf0 kf1 kf2 kf3 kf4 f0 f1 f2 f3 f4
            obtain ⟨kf0, kf1, kf2, kf3, kf4⟩ := hr6.facts
            have r0 : w6.cell? ⟨w.heap.size, 0, none⟩ = some (.int .i64 0) := cell_of_row hx6 (by simp)
            have r1 : w6.cell? ⟨w.heap.size, 1, none⟩ = some (.int .i64 0) := cell_of_row hx6 (by simp)
            have r2 : w6.cell? ⟨w.heap.size, 2, none⟩ = some (.string ⟨#[]⟩) := cell_of_row hx6 (by simp)
            have r3 : w6.cell? ⟨w.heap.size, 3, none⟩ = some (.int .i64 0) := cell_of_row hx6 (by simp)
            have r4 : w6.cell? ⟨w.heap.size, 4, none⟩ = some (.int .i64 0) := cell_of_row hx6 (by simp)
            have g0 : w6.frozen? ⟨w.heap.size, 0, none⟩ = false := frozen_of_row hx6
            have g1 : w6.frozen? ⟨w.heap.size, 1, none⟩ = false := frozen_of_row hx6
            have g2 : w6.frozen? ⟨w.heap.size, 2, none⟩ = false := frozen_of_row hx6
            have g3 : w6.frozen? ⟨w.heap.size, 3, none⟩ = false := frozen_of_row hx6
            have g4 : w6.frozen? ⟨w.heap.size, 4, none⟩ = false := frozen_of_row hx6
            by_cases hx : TT = s
            · have HE : Hid ((rdS ws).text = s) := (unhide HTT).trans hx
              subst hx
              go_wp2_with fail
              refine bodyPost_ret (v := .tuple #[.agg #[.int .i64 K, .int .i64 H, .string ⟨#[]⟩, .int .i64 0, .int .i64 0], .bool true]) (by simp [results, Tryd.results10, go_sem, r0, r1, r2, r3, r4]) rfl ⟨Or.inl ⟨unhide HE, by rw [unhide HRD]⟩, ?_⟩
              iterate 5 refine setB ?_ (Nat.le_refl _)
              exact unhide HBW
            · have HE : Hid (¬ (rdS ws).text = s) := by show ¬ _; rw [unhide HTT]; exact hx
              have hq := ne_list hx
              clear hx
              go_wp2_with fail
              refine bodyPost_ret (v := .tuple #[.agg #[.int .i64 0, .int .i64 0, .string ⟨#[]⟩, .int .i64 0, .int .i64 0], .bool false]) (by simp [results, Tryd.results10, go_sem, r0, r1, r2, r3, r4]) rfl ⟨Or.inr ⟨unhide HE, rfl⟩, ?_⟩
              iterate 5 refine setB ?_ (Nat.le_refl _)
              exact unhide HBW

end Go.Proofs.YtjckdepcgjfomaaDoor
