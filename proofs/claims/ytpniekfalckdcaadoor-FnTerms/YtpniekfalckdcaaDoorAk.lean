
/- The walk of impl.addKids: the kids, and the marks between and behind them, are put on the list of pieces; the bytes that are written stay. -/
import Derived.Test.YtpniekfalckdcaaDoorCr
import Derived.Test.YtpniekfalckdcaaDoorUp
namespace Go.Proofs.YtpniekfalckdcaaDoor
open Go.RowKit Go.Deep

theorem range_box' (w : World) (cs : List Value) (t : TypeId) : (w.alloc (.cells cs.toArray t)).rangeAt w.heap.size 0 cs := fun j v hj => by
  rw [Nat.zero_add]
  exact box_cell w cs.toArray t j v (by simpa using hj)

/-- The kids from the k-th on are put on. -/
structure Mk (w : World) (us : List Pc) (ks : List Tm) (k : Nat) (l : List UInt8) (tv v : Value) (wr : World) : Prop where
  st : ∃ ps : List Pc, Stp w ps v wr ∧ textQ ps = textF (decide (k = 0)) (ks.drop k) ++ 41 :: textQ us ∧ workQ ps ≤ workQ us + 3 * Tm.sizes (ks.drop k) + 1
  bt : Bts w l tv wr

theorem sizes_drop (ks : List Tm) (j : Nat) : Tm.sizes (ks.drop j) ≤ Tm.sizes ks := by
  have := Tm.sizes_append (ks.take j) (ks.drop j)
  rw [List.take_append_drop] at this
  omega

theorem Mk.start {w wr w0 : World} {us : List Pc} {v tv : Value} {l : List UInt8} (h : Stp w us v wr) (hbt : Bts w l tv wr) (ks : List Tm) {b : Nat} (hb : Below wr.heap.size wr w0) (hr : w0.rangeAt b 0 [.string ⟨#[41]⟩, .int .i64 0, .int .i64 0, .string ByteArray.empty, .slice none 0 0])
    (hn : workQ us + 3 * Tm.sizes ks + 1 ≤ 16777216) (ty : TypeId) :
    ∃ v' w', (Builtin.append_ #[50, 50] ty #[v, .slice (some ⟨b, 0, none⟩) 1 1]).run Tryd.prog w0 = .ok v' w' ∧ Mk w us ks ks.length l tv v' w' := by
  have hl := length_le_work us
  obtain ⟨v', w', g1, g2, g3⟩ := h.push (p := markPc [41]) (lies_zero w) hb (by simpa [markPc, Pc.cells, tmCells] using hr) (by omega) ty
  refine ⟨v', w', g1, ⟨⟨_, g2, ?_, ?_⟩, g3 _ _ hbt⟩⟩
  · rw [textQ_snoc, List.drop_length]
    simp [textF, markPc, Pc.text]
  · rw [workQ_snoc, List.drop_length]
    simp [markPc, Pc.work, Tm.sizes]

/-- Between the kid and the mark ahead of it. -/
structure Mh (w : World) (us : List Pc) (ks : List Tm) (k : Nat) (l : List UInt8) (tv v : Value) (wr : World) : Prop where
  st : ∃ ps : List Pc, Stp w ps v wr ∧ textQ ps = textF true (ks.drop k) ++ 41 :: textQ us ∧ workQ ps + 1 ≤ workQ us + 3 * Tm.sizes (ks.drop k) + 1
  bt : Bts w l tv wr

theorem Mk.kid {w wr w0 : World} {us : List Pc} {ks : List Tm} {m : Nat} {v tv : Value} {l : List UInt8} (h : Mk w us ks (m + 1) l tv v wr) {t : Tm} (ht : ks[m]? = some t) {cs : List Value} (hl : Lies w 0 t cs) {b : Nat} (hb : Below wr.heap.size wr w0)
    (hr : w0.rangeAt b 0 (.string ByteArray.empty :: cs)) (hn : workQ us + 3 * Tm.sizes ks + 1 ≤ 16777216) (ty : TypeId) :
    ∃ v' w', (Builtin.append_ #[50, 50] ty #[v, .slice (some ⟨b, 0, none⟩) 1 1]).run Tryd.prog w0 = .ok v' w' ∧ Mh w us ks m l tv v' w' := by
  obtain ⟨ps, hs, h1, h2⟩ := h.st
  have hml : m < ks.length := (List.getElem?_eq_some_iff.1 ht).1
  have hd : ks.drop m = t :: ks.drop (m + 1) := by
    rw [← List.getElem_cons_drop hml]
    congr 1
    rw [List.getElem?_eq_getElem hml] at ht
    cases ht
    rfl
  have hlw := length_le_work ps
  have hsd := sizes_drop ks m
  have htp := t.size_pos
  rw [hd] at hsd
  simp only [Tm.sizes] at hsd
  obtain ⟨v', w', g1, g2, g3⟩ := hs.push (p := termPc t cs) hl hb hr (by omega) ty
  refine ⟨v', w', g1, ⟨⟨_, g2, ?_, ?_⟩, g3 _ _ h.bt⟩⟩
  · rw [textQ_snoc, h1, hd]
    simp [textF, termPc, Pc.text]
  · rw [workQ_snoc, hd]
    simp only [Tm.sizes, termPc, Pc.work, if_true]
    omega

theorem Mh.first {w wr : World} {us : List Pc} {ks : List Tm} {v tv : Value} {l : List UInt8} (h : Mh w us ks 0 l tv v wr) : Mk w us ks 0 l tv v wr := by
  obtain ⟨ps, hs, h1, h2⟩ := h.st
  exact ⟨⟨ps, hs, by simpa using h1, by omega⟩, h.bt⟩

theorem Mh.mark {w wr w0 : World} {us : List Pc} {ks : List Tm} {m : Nat} {v tv : Value} {l : List UInt8} (h : Mh w us ks m l tv v wr) (h0 : 0 < m) (hml : m < ks.length) {b : Nat} (hb : Below wr.heap.size wr w0)
    (hr : w0.rangeAt b 0 [.string ⟨#[44]⟩, .int .i64 0, .int .i64 0, .string ByteArray.empty, .slice none 0 0]) (hn : workQ us + 3 * Tm.sizes ks + 1 ≤ 16777216) (ty : TypeId) :
    ∃ v' w', (Builtin.append_ #[50, 50] ty #[v, .slice (some ⟨b, 0, none⟩) 1 1]).run Tryd.prog w0 = .ok v' w' ∧ Mk w us ks m l tv v' w' := by
  obtain ⟨ps, hs, h1, h2⟩ := h.st
  have hlw := length_le_work ps
  have hsd := sizes_drop ks m
  obtain ⟨v', w', g1, g2, g3⟩ := hs.push (p := markPc [44]) (lies_zero w) hb (by simpa [markPc, Pc.cells, tmCells] using hr) (by omega) ty
  refine ⟨v', w', g1, ⟨⟨_, g2, ?_, ?_⟩, g3 _ _ h.bt⟩⟩
  · rw [textQ_snoc, h1]
    have hne : ks.drop m ≠ [] := by simp; omega
    have hdm : decide (m = 0) = false := by simp; omega
    rw [hdm]
    cases hq : ks.drop m with
    | nil => exact absurd hq hne
    | cons t r => simp [textF, markPc, Pc.text]
  · rw [workQ_snoc]
    simp only [markPc, Pc.work]
    simp
    omega

set_option maxHeartbeats 1000000 in
set_option maxRecDepth 100000 in
theorem kids34 (us : List Pc) (ks : List Tm) (l : List UInt8) (tv v : Value) (a : Option Addr) (cap : Nat) (w wr : World) (h : Stp w us v wr) (hbt : Bts w l tv wr) (hk : LiesAll w 0 a 0 ks) (hm : ks.length ≤ maxLen) (hn : workQ us + 3 * Tm.sizes ks + 1 ≤ 16777216) :
    Calls Tryd.prog 38 #[v, .slice a ks.length cap] wr fun e w' => ∃ v', e = .returned v' ∧ Mk w us ks 0 l tv v' w' := by
  have HA : Hid (∀ (w0 : World) (b : Nat), Below wr.heap.size wr w0 → w0.rangeAt b 0 [.string ⟨#[41]⟩, .int .i64 0, .int .i64 0, .string ByteArray.empty, .slice none 0 0] →
      ∃ v' w', (Builtin.append_ #[50, 50] 50 #[v, .slice (some ⟨b, 0, none⟩) 1 1]).run Tryd.prog w0 = .ok v' w' ∧ Mk w us ks ks.length l tv v' w') := fun w0 b h1 h2 => Mk.start h hbt ks h1 h2 hn 50
  have HK := hide hk
  have HN := hide hn
  have hm' : ks.length ≤ 9223372036854775807 := by unfold maxLen at hm; omega
  clear h hbt hk hn hm
  generalize hl : ks.length = n at *
  have HL := hide hl
  clear hl
  go_enter Tryd.func38, Tryd.ntmps38
  go_wp2_with (at_builtin; refine wpList_append_run rfl _ _ 50 rfl _ _ rfl rfl (fun v' w' => Mk w us ks n l tv v' w') (unhide HA _ _ ((Below.refl _ _).alloc (Nat.le_refl _) _) (range_box' _ _ _)) ?_; intro v' w' hst)
  have HM := hide hst
  clear hst HA
  go_loopw [0, 5] (fun v i wx => ∃ (k : Nat) (z : Int), k ≤ n ∧ i = .int .i64 z ∧ z + 1 = k ∧ Mk w us ks k l tv v wx) (fun _ i _ => (intOf i + 1).toNat)
  case atStart => exact ⟨n, (n : Int) - 1, Nat.le_refl _, rfl, by omega, unhide HM⟩
  case round =>
    obtain ⟨k, z, hk, rfl, hzk, hM⟩ := hrel
    clear HM
    cases k with
    | zero =>
      obtain rfl : z = -1 := by omega
      have HM := hide hM
      clear hM hzk hk
      go_wp2_with fail
      go_ret
      exact ⟨_, rfl, unhide HM⟩
    | succ m =>
      obtain rfl : z = (m : Int) := by omega
      obtain ⟨t, ht⟩ : ∃ t, ks[m]? = some t := ⟨ks[m]'(by rw [unhide HL]; omega), List.getElem?_eq_getElem _⟩
      obtain ⟨b, o, cs, rfl, _, hr, hlt⟩ := (unhide HK).get ht
      rw [Nat.zero_add] at hr
      obtain ⟨y0, y1, y2, y3, y4, y5, hy⟩ := hlt.cells
      subst hy
      have hr' := rangeAt_below hr (by obtain ⟨ps, hs, _⟩ := hM.st; exact hs.below)
      have c0 := hr' 0 _ rfl
      have c1 := hr' 1 _ rfl
      have c2 := hr' 2 _ rfl
      have c3 := hr' 3 _ rfl
      rw [Nat.add_zero] at c0
      have hml : (m : Int) < (n : Int) := by omega
      have HP : Hid (∀ (w0 : World) (bb : Nat), Below wr.heap.size wr w0 → w0.rangeAt bb 0 [.string ByteArray.empty, .int .i64 y0, .int .i64 y1, .string y2, .slice y3 y4 y5] →
          ∃ v' w', (Builtin.append_ #[50, 50] 50 #[u0, .slice (some ⟨bb, 0, none⟩) 1 1]).run Tryd.prog w0 = .ok v' w' ∧ Mh w us ks m l tv v' w') :=
        fun w0 bb h1 h2 => hM.kid ht hlt (w0 := w0) (b := bb) h1 h2 (unhide HN) 50
      have HMM : Hid (m < ks.length) := by
        have := unhide HL
        show _ < _
        omega
      clear hM ht hlt hr hr'
      have hbox : ∀ (x : World) (cs : Array Value), Below x.heap.size x (x.alloc (.cells cs 49)) := fun x cs => (Below.refl _ _).alloc (Nat.le_refl _) _
      have HBX := hide hbox
      clear hbox
      by_cases hm0 : m = 0
      · have hm1 : ¬ 0 < (m : Int) := by omega
        have HM0 := hide hm0
        clear hm0
        go_wp2_with (at_builtin; refine wpList_append_run rfl _ _ 50 rfl _ _ rfl rfl (fun v' w' => Mh w us ks m l tv v' w') (unhide HP _ _ (unhide HBX _ _) (range_box' _ _ _)) ?_; intro v' w' hst)
        go_roundw
        case rel => exact ⟨0, (m : Int) - 1, by omega, by go_num, by have := unhide HM0; omega, by have h := unhide HM0; subst h; exact hst.first⟩
        case measure => simp [intOf]
      · have hm1 : 0 < (m : Int) := by omega
        go_wp2_with (at_builtin; first
          | (refine wpList_append_run rfl _ _ 50 rfl _ _ rfl rfl (fun v' w' => Mh w us ks m l tv v' w') (unhide HP _ _ (unhide HBX _ _) (range_box' _ _ _)) ?_; intro v' w' hst; have HST := hide hst; clear hst)
          | (refine wpList_append_run rfl _ _ 50 rfl _ _ rfl rfl (fun v' w' => Mk w us ks m l tv v' w') ((unhide HST).mark (by omega) (unhide HMM) (unhide HBX _ _) (range_box' _ _ _) (unhide HN) 50) ?_; intro v2 w2 hst2))
        go_roundw
        case rel => exact ⟨m, (m : Int) - 1, by omega, by go_num, by omega, hst2⟩
        case measure => simp [intOf]
end Go.Proofs.YtpniekfalckdcaaDoor
