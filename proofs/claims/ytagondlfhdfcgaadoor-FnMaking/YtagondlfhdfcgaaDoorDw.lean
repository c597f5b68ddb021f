
/- What is drawn: a term of at most so many, that lies in new blocks; the walk of spec.l1DrawRight. -/
import Derived.Test.YtagondlfhdfcgaaDoorSe
import Derived.Test.YtagondlfhdfcgaaDoorSg
import Derived.Test.YtagondlfhdfcgaaDoorPb
import Derived.Test.YtagondlfhdfcgaaDoorDq
import Derived.Deep.RegionHeld3
import Derived.Deep.DeepCutAuto
namespace Go.Proofs.YtagondlfhdfcgaaDoor
open Go.RowKit Go.Deep

/-- A term of at most so many lies behind L; its list of kids is full. -/
def Drawn (k : Nat) (w : World) (L : Nat) (v : Value) : Prop := ∃ (t : Tm) (op n : Int) (s : ByteArray) (a : Option Addr) (len : Nat), v = .agg #[.int .i64 op, .int .i64 n, .string s, .slice a len len] ∧ Lies w L t (tmCells op n s a len len) ∧ t.size + t.wt ≤ k

theorem Lies.only {w w' : World} {L c : Nat} {t : Tm} {cs : List Value} (h : Lies w L t cs) (ho : Only [c] w w') (hc : c < L) : Lies w' L t cs :=
  Lies.carry (Nat.le_refl _) (fun b _ hb hlt => World.cell?_of_block (ho.block b hlt (by simp; omega))) t cs h
theorem pick_size (m : Tm) : (pickT (okT m) m).size + (pickT (okT m) m).wt ≤ 61000 := by
  unfold pickT
  split
  · rename_i h
    exact okT_small h
  · simp [Tm.size, Tm.sizes, Tm.wt, Tm.wts]
theorem madeT_200 (op : Int) (ks : List Tm) : (madeT op ks).size + (madeT op ks).wt ≤ 61000 := pick_size _
theorem agreeT_200 (t u : Tm) : (agreeT t u).size + (agreeT t u).wt ≤ 61000 := by
  obtain ⟨o, n, s, ks⟩ := u
  match ks with
  | [] => simp [agreeT, Tm.size, Tm.sizes, Tm.wt, Tm.wts]
  | [k] =>
    show (pickT (agreeB t (.node o n s [k])) (shareT t k)).size + (pickT (agreeB t (.node o n s [k])) (shareT t k)).wt ≤ 61000
    cases h : agreeB t (.node o n s [k]) with
    | true =>
      have h2 : okT (shareT t k) = true := by
        simp only [agreeB, Bool.and_eq_true] at h
        exact h.2
      have := pick_size (shareT t k)
      rwa [h2] at this
    | false => simp [pickT, Tm.size, Tm.sizes, Tm.wt, Tm.wts]
  | _ :: _ :: _ => simp [agreeT, Tm.size, Tm.sizes, Tm.wt, Tm.wts]

def DrOk (c : Nat) (d : Int) : Prop := ∀ w, Cur w c → Calls Tryd.prog 60 #[.pointer (some ⟨c, 0, none⟩), .int .i64 d] w fun e w' => ∃ v, e = .returned v ∧ Drawn 61000 w' w.heap.size v ∧ Cur w' c ∧ Only [c] w w'

theorem only_alloc {c : Nat} {w w1 : World} (x : Obj) (h : Only [c] (w.alloc x) w1) : Only [c] w w1 := (Only.of_below (ab x)).trans h
theorem only_set4 {c g : Nat} {w v : World} {x0 x1 x2 x3 : Value} (h : Only [c] w v) (hg : w.heap.size ≤ g) : Only [c] w ((((v.setCell ⟨g, 0, none⟩ x0).setCell ⟨g, 1, none⟩ x1).setCell ⟨g, 2, none⟩ x2).setCell ⟨g, 3, none⟩ x3) := by
  refine ⟨h.os, h.tape, h.output, by simpa using h.size, fun k hk hf => ?_⟩
  rw [set4_heap _ _ _ _ _ _ k (by omega)]
  exact h.block k hk hf
theorem Cur.keep {w w' : World} {c : Nat} (h : Cur w c) (hk : ∀ b, b ≤ c → w'.heap[b]? = w.heap[b]?) : Cur w' c := by
  obtain ⟨a, len, cap, i, z, hc, hr, hB⟩ := h
  refine ⟨a, len, cap, i, z, (hk c (Nat.le_refl _)).trans hc, hr, fun k hlt => ?_⟩
  obtain ⟨b, o, y, h1, h2, h3, h4⟩ := hB k hlt
  exact ⟨b, o, y, h1, h2, (World.cell?_of_block (hk b (by omega))).trans h3, h4⟩
theorem cur_set4 {c g : Nat} {v : World} {x0 x1 x2 x3 : Value} (h : Cur v c) (hg : c < g) : Cur ((((v.setCell ⟨g, 0, none⟩ x0).setCell ⟨g, 1, none⟩ x1).setCell ⟨g, 2, none⟩ x2).setCell ⟨g, 3, none⟩ x3) c :=
  h.keep fun b hb => set4_heap _ _ _ _ _ _ b (by omega)
theorem Cur.drew {w : World} {c : Nat} (h : Cur w c) : Cur w.drew c := h
theorem Only.drewl {f : List Nat} {w v : World} (h : Only f w.drew v) : Only f w v := ⟨h.os, h.tape, h.output, h.size, h.block⟩
theorem words_at (w : World) : ∀ k, k < 4 → ∃ s, (w.alloc (.cells #[.string ⟨#[]⟩, .string ⟨#[97]⟩, .string ⟨#[109, 120, 46, 97]⟩, .string ⟨#[50, 53, 48]⟩] 9)).cell? ⟨w.heap.size, k, none⟩ = some (.string s) ∧ s.size ≤ 300
  | 0, _ => ⟨_, box_cell w _ 9 0 _ rfl, by decide⟩
  | 1, _ => ⟨_, box_cell w _ 9 1 _ rfl, by decide⟩
  | 2, _ => ⟨_, box_cell w _ 9 2 _ rfl, by decide⟩
  | 3, _ => ⟨_, box_cell w _ 9 3 _ rfl, by decide⟩
  | k + 4, h => absurd h (by omega)
theorem ZBox.only {w w' : World} {g c : Nat} (h : ZBox w g) (ho : Only [c] w w') (hg : g ≠ c) : ZBox w' g := (ho.block g (lt_of_heap h) (by simpa using hg)).trans h
theorem leaf_lies (w : World) (L : Nat) (op n : Int) (s : ByteArray) (hs : s.size ≤ maxLen) (h1 : (Lit.int .i64 op).wf = true) (h2 : (Lit.int .i64 n).wf = true) : Lies w L (.node op n s []) (tmCells op n s none 0 0) := by
  simp only [Lies]
  exact ⟨none, 0, rfl, ⟨hs, by simp, by simp⟩, ⟨h1, h2⟩, by simp [LiesAll]⟩

set_option maxRecDepth 100000 in
set_option maxHeartbeats 1000000 in
/-- Nothing deep: a text or an atom. -/
theorem dr_zero (c : Nat) : DrOk c 0 := by
  intro w hc
  have hon := hide (once_calls c)
  have hbl := hide (below_calls c)
  have hpk := hide (pick_calls c)
  have HX1 := hide (ZBox.new w)
  have hcl := hc.lt
  have HC1 := hide (hc.below (ab (.cells #[.int .i64 0, .int .i64 0, .string ByteArray.empty, .slice none 0 0] 24)))
  have HO1 : Hid (Only [c] w (w.alloc (.cells #[.int .i64 0, .int .i64 0, .string ByteArray.empty, .slice none 0 0] 24))) := Only.of_below (ab _)
  clear hc
  go_enter Tryd.func60, Tryd.ntmps60
  go_wp2_with fail
  refine (unhide hon 3 _ (unhide HC1) (by omega)).mono ?_
  rintro e w2 ⟨b, rfl, hc2, ho2⟩
  have HO2 := hide ((unhide HO1).trans ho2)
  have HX2 := hide ((unhide HX1).only ho2 (by omega))
  have HC2 := hide hc2
  have hcl2 := hc2.lt
  clear ho2 hc2
  cases b with
  | true =>
    go_wp2_with fail
    refine (unhide hpk w2.heap.size 4 4 _ ((unhide HC2).below (ab (.cells #[.string ⟨#[]⟩, .string ⟨#[97]⟩, .string ⟨#[109, 120, 46, 97]⟩, .string ⟨#[50, 53, 48]⟩] 9))) (by omega) (by omega) (by omega) (by omega) (by omega) (words_at w2)).mono ?_
    rintro e w3 ⟨s, rfl, hs, hc3, ho3⟩
    have HO3 := hide ((unhide HO2).trans (only_alloc _ ho3))
    have hX3 := ((unhide HX2).below (ab (.cells #[.string ⟨#[]⟩, .string ⟨#[97]⟩, .string ⟨#[109, 120, 46, 97]⟩, .string ⟨#[50, 53, 48]⟩] 9))).only ho3 (by omega)
    have HC3 := hide hc3
    have hsm : s.size ≤ maxLen := by unfold maxLen; omega
    have HSM := hide hsm
    obtain ⟨d0, d1, d2, d3, e0, e1, e2, e3⟩ := hX3.facts
    clear ho3 hc3 hX3 hsm
    go_wp2_with fail
    exact bodyPost_ret (v := .agg #[.int .i64 2, .int .i64 0, .string s, .slice none 0 0]) (by simp [results, Tryd.results60, go_sem, d0, d1, d2, d3]; try rfl) rfl ⟨_, rfl, ⟨_, _, _, _, _, _, rfl, leaf_lies _ _ 2 0 s (unhide HSM) (by decide) (by decide), by simp [Tm.size, Tm.sizes, Tm.wt, Tm.wts]; omega⟩, cur_set4 (unhide HC3) hcl, only_set4 (unhide HO3) (Nat.le_refl _)⟩
  | false =>
    go_wp2_with fail
    refine (unhide hbl 9 _ (unhide HC2) (by omega)).mono ?_
    rintro e w3 ⟨x, rfl, ⟨_, hx⟩, hc3, ho3⟩
    obtain ⟨hx0, hx1⟩ := hx (by omega)
    have HO3 := hide ((unhide HO2).trans ho3)
    have hX3 := (unhide HX2).only ho3 (by omega)
    have HC3 := hide hc3
    obtain ⟨d0, d1, d2, d3, e0, e1, e2, e3⟩ := hX3.facts
    clear ho3 hc3 hX3
    go_wp2_with fail
    exact bodyPost_ret (v := .agg #[.int .i64 1, .int .i64 x, .string ByteArray.empty, .slice none 0 0]) (by simp [results, Tryd.results60, go_sem, d0, d1, d2, d3]; try rfl) rfl ⟨_, rfl, ⟨_, _, _, _, _, _, rfl, leaf_lies _ _ 1 x ByteArray.empty (by simp) (by decide) (WalkArith.wf_i64 (by omega)), by simp [Tm.size, Tm.sizes, Tm.wt, Tm.wts]⟩, cur_set4 (unhide HC3) hcl, only_set4 (unhide HO3) (Nat.le_refl _)⟩

theorem Lies.low {w w' : World} {L c : Nat} {t : Tm} {cs : List Value} (_h0 : Lies w 0 t cs) (ho : Only [c] w w') (h : Lies w L t cs) (hc : c < L) : Lies w' 0 t cs := (h.only ho hc).any (Nat.zero_le _)
/-- What is left of a share that was tried: a box, and whether it is one. -/
def DrCut (c : Nat) (w3 : World) (p q : Value) (wx : World) : Prop := ∃ (g6 : Nat) (r : Tm) (op' n' : Int) (s' : ByteArray) (a' : Option Addr) (len' : Nat) (b : Bool), p = .pointer (some ⟨g6, 0, none⟩) ∧ q = .bool b ∧ RowT 24 wx g6 op' n' s' a' len' len' ∧ Lies wx w3.heap.size r (tmCells op' n' s' a' len' len') ∧ r.size + r.wt ≤ 61000 ∧ Cur wx c ∧ Only [c] w3 wx
theorem DrCut.late {c L : Nat} {w3 w6 : World} {r : Tm} {op n : Int} {s : ByteArray} {a : Option Addr} {len : Nat} {b : Bool} (ho : Only [c] w3 w6) (hc : Cur w6 c) (hl : Lies w6 L r (tmCells op n s a len len)) (hL : w3.heap.size ≤ L) (hz : r.size + r.wt ≤ 61000) :
    DrCut c w3 (.pointer (some ⟨w6.heap.size, 0, none⟩)) (.bool b) (w6.alloc (.cells #[.int .i64 op, .int .i64 n, .string s, .slice a len len] 24)) :=
  ⟨_, r, _, _, _, _, _, b, rfl, rfl, RowT.new 24 w6 op n s a len len, (hl.any hL).below (ab _), hz, hc.below (ab _), ho.trans (Only.of_below (ab _))⟩
theorem box_fill {w : World} {g : Nat} (h : ZBox w g) (op n : Int) (s : ByteArray) (a : Option Addr) (len cap : Nat) : RowT 24 ((((w.setCell ⟨g, 0, none⟩ (.int .i64 op)).setCell ⟨g, 1, none⟩ (.int .i64 n)).setCell ⟨g, 2, none⟩ (.string s)).setCell ⟨g, 3, none⟩ (.slice a len cap)) g op n s a len cap := by
  unfold ZBox at h
  unfold RowT
  exact set_row (o := 3) (.slice a len cap) (set_row (o := 2) (.string s) (set_row (o := 1) (.int .i64 n) (set_row (o := 0) (.int .i64 op) h)))
theorem DrCut.early {c L g : Nat} {w3 w6 : World} {r : Tm} {op n : Int} {s : ByteArray} {a : Option Addr} {len : Nat} {b : Bool} (ho : Only [c] w3 w6) (hc : Cur w6 c) (hx : ZBox w6 g) (hg : c < w3.heap.size ∧ w3.heap.size ≤ g) (hl : Lies w6 L r (tmCells op n s a len len)) (hgL : g < L) (hL : w3.heap.size ≤ L) (hz : r.size + r.wt ≤ 61000) :
    DrCut c w3 (.pointer (some ⟨g, 0, none⟩)) (.bool b) ((((w6.setCell ⟨g, 0, none⟩ (.int .i64 op)).setCell ⟨g, 1, none⟩ (.int .i64 n)).setCell ⟨g, 2, none⟩ (.string s)).setCell ⟨g, 3, none⟩ (.slice a len len)) :=
  ⟨_, r, _, _, _, _, _, b, rfl, rfl, box_fill hx op n s a len len, set4_lies hl hgL _ hL, hz, cur_set4 hc (by omega), only_set4 ho hg.2⟩
theorem ZBox.drew {w : World} {g : Nat} (h : ZBox w g) : ZBox w.drew g := h

set_option maxRecDepth 100000 in
set_option maxHeartbeats 4000000 in
/-- One deeper. -/
theorem dr_step (c : Nat) (d : Int) (h0 : 0 < d) (h1 : d ≤ 3) (ih : DrOk c (d - 1)) : DrOk c d := by
  intro w hc
  have hon := hide (once_calls c)
  have hbl := hide (below_calls c)
  have hpk := hide (pick_calls c)
  have IH := hide ih
  have IHW : Hid (DrOk c (IntKind.i64.wrap (d - 1))) := by
    show DrOk _ _
    rw [show IntKind.i64.wrap (d - 1) = d - 1 by rw [IntKind.wrap_i64]; omega]
    exact ih
  clear ih
  have HX0 := hide (ZBox.new w)
  have hcl := hc.lt
  have HC0 := hide (hc.below (ab (.cells #[.int .i64 0, .int .i64 0, .string ByteArray.empty, .slice none 0 0] 24)))
  have q0 : (d == 0) = false := by simp; omega
  clear hc
  go_enter Tryd.func60, Tryd.ntmps60
  go_wp2_with fail
  refine (unhide hon 4 _ (unhide HC0) (by omega)).mono ?_
  rintro e w1 ⟨b, rfl, hc1, ho1⟩
  have HO1 := hide (only_alloc _ ho1)
  have HX1 := hide ((unhide HX0).only ho1 (by omega))
  have HC1 := hide hc1
  have hcl1 := hc1.lt
  clear ho1 hc1
  cases b with
  | true =>
    go_wp2_with fail
    refine (unhide hon 3 _ (unhide HC1) (by omega)).mono ?_
    rintro e w2 ⟨b, rfl, hc2, ho2⟩
    have HO2 := hide ((unhide HO1).trans ho2)
    have HX2 := hide ((unhide HX1).only ho2 (by omega))
    have HC2 := hide hc2
    have hcl2 := hc2.lt
    clear ho2 hc2
    cases b with
    | true =>
      go_wp2_with fail
      refine (unhide hpk w2.heap.size 4 4 _ ((unhide HC2).below (ab (.cells #[.string ⟨#[]⟩, .string ⟨#[97]⟩, .string ⟨#[109, 120, 46, 97]⟩, .string ⟨#[50, 53, 48]⟩] 9))) (by omega) (by omega) (by omega) (by omega) (by omega) (words_at w2)).mono ?_
      rintro e w3 ⟨s, rfl, hs, hc3, ho3⟩
      have HO3 := hide ((unhide HO2).trans (only_alloc _ ho3))
      have hX3 := ((unhide HX2).below (ab (.cells #[.string ⟨#[]⟩, .string ⟨#[97]⟩, .string ⟨#[109, 120, 46, 97]⟩, .string ⟨#[50, 53, 48]⟩] 9))).only ho3 (by omega)
      have HC3 := hide hc3
      have hsm : s.size ≤ maxLen := by unfold maxLen; omega
      have HSM := hide hsm
      obtain ⟨d0, d1, d2, d3, e0, e1, e2, e3⟩ := hX3.facts
      clear ho3 hc3 hX3 hsm
      go_wp2_with fail
      exact bodyPost_ret (v := .agg #[.int .i64 2, .int .i64 0, .string s, .slice none 0 0]) (by simp [results, Tryd.results60, go_sem, d0, d1, d2, d3]; try rfl) rfl ⟨_, rfl, ⟨_, _, _, _, _, _, rfl, leaf_lies _ _ 2 0 s (unhide HSM) (by decide) (by decide), by simp [Tm.size, Tm.sizes, Tm.wt, Tm.wts]; omega⟩, cur_set4 (unhide HC3) hcl, only_set4 (unhide HO3) (Nat.le_refl _)⟩
    | false =>
      go_wp2_with fail
      refine (unhide hbl 9 _ (unhide HC2) (by omega)).mono ?_
      rintro e w3 ⟨x, rfl, ⟨_, hx⟩, hc3, ho3⟩
      obtain ⟨hx0, hx1⟩ := hx (by omega)
      have HO3 := hide ((unhide HO2).trans ho3)
      have hX3 := (unhide HX2).only ho3 (by omega)
      have HC3 := hide hc3
      obtain ⟨d0, d1, d2, d3, e0, e1, e2, e3⟩ := hX3.facts
      clear ho3 hc3 hX3
      go_wp2_with fail
      exact bodyPost_ret (v := .agg #[.int .i64 1, .int .i64 x, .string ByteArray.empty, .slice none 0 0]) (by simp [results, Tryd.results60, go_sem, d0, d1, d2, d3]; try rfl) rfl ⟨_, rfl, ⟨_, _, _, _, _, _, rfl, leaf_lies _ _ 1 x ByteArray.empty (by simp) (by decide) (WalkArith.wf_i64 (by omega)), by simp [Tm.size, Tm.sizes, Tm.wt, Tm.wts]⟩, cur_set4 (unhide HC3) hcl, only_set4 (unhide HO3) (Nat.le_refl _)⟩
  | false =>
    go_wp2_with fail
    refine (unhide IH _ (unhide HC1)).mono ?_
    rintro e w2 ⟨v, rfl, ⟨t, op, n, s, a, len, rfl, hl2, hz2⟩, hc2, ho2⟩
    have HR2 := hide (RowT.new 24 w2 op n s a len len)
    have HO2 := hide ((unhide HO1).trans (ho2.trans (Only.of_below (ab (.cells #[.int .i64 op, .int .i64 n, .string s, .slice a len len] 24)))))
    have HX2 := hide (((unhide HX1).only ho2 (by omega)).below (ab (.cells #[.int .i64 op, .int .i64 n, .string s, .slice a len len] 24)))
    have HC2 := hide (hc2.below (ab (.cells #[.int .i64 op, .int .i64 n, .string s, .slice a len len] 24)))
    have HL2 := hide (hl2.below (ab (.cells #[.int .i64 op, .int .i64 n, .string s, .slice a len len] 24)))
    have hcl2 := hc2.lt
    have HS12 := hide ho2.size
    have HSX := hide (lt_of_heap (unhide HX1))
    have HZ2 := hide hz2
    clear ho2 hc2 hl2 hz2
    go_wp2_with fail
    generalize hV : w2.alloc (.cells #[.int .i64 op, .int .i64 n, .string s, .slice a len len] 24) = V at *
    have HGV : Hid (w2.heap.size + 1 = V.heap.size) := by show _ = _; rw [← hV, heap_size_alloc]
    have HGW : Hid (w.heap.size < w2.heap.size) := by show _ < _; have := unhide HSX; have := unhide HS12; omega
    generalize w2.heap.size = g5 at *
    clear hV
    have hne1 : (w.heap.size = g5) = False := by simp; have := unhide HGW; omega
    have hne2 : (g5 = w.heap.size) = False := by simp; have := unhide HGW; omega
    refine (unhide hbl 7 _ (unhide HC2) (by omega)).mono ?_
    rintro e w3 ⟨x, rfl, ⟨_, hx⟩, hc3, ho3⟩
    obtain ⟨hx0, hx1⟩ := hx (by omega)
    clear hx
    have HR3 := hide ((unhide HR2).only ho3 (by simp; omega))
    have HO3 := hide ((unhide HO2).trans ho3)
    have HX3 := hide ((unhide HX2).only ho3 (by omega))
    have HC3 := hide hc3
    have HL3 := hide ((unhide HL2).only ho3 (by omega))
    have HGS : Hid (w.heap.size < w3.heap.size) := lt_of_heap (unhide HX3)
    have hg5 : c < g5 := hcl2
    clear ho3 hc3 HR2 HO2 HX2 HC2 HL2 HX1 HC1
    obtain ⟨c0, c1, c2, c3⟩ := (unhide HR3).facts
    rcases (by omega : x = 0 ∨ x = 1 ∨ x = 2 ∨ x = 3 ∨ x = 4 ∨ x = 5 ∨ x = 6) with rfl | rfl | rfl | rfl | rfl | rfl | rfl
    · have h22 := hide (pubS t op n s a len len)
      go_wp2_with fail
      refine (unhide h22 _ ((unhide HL3).any (Nat.zero_le _)) (by have := unhide HZ2; omega)).mono ?_
      rintro e w4 ⟨op', n', s', a', len', cap', rfl, hL4, hb4, rfl⟩
      have HL4 := hide hL4
      have HC4 := hide ((unhide HC3).below hb4)
      have HO4 := hide ((unhide HO3).trans (Only.of_below hb4))
      obtain ⟨p0, p1, p2, p3, q0, q1, q2, q3⟩ := ((unhide HX3).below hb4).facts
      clear hL4 hb4 c0 c1 c2 c3
      go_wp2_with fail
      exact bodyPost_ret (v := .agg #[.int .i64 op', .int .i64 n', .string s', .slice a' len' len']) (by simp [results, Tryd.results60, go_sem, p0, p1, p2, p3]) rfl ⟨_, rfl, ⟨_, _, _, _, _, _, rfl, set4_lies (unhide HL4) (unhide HGS) w.heap.size (by have := unhide HGS; omega), madeT_200 _ _⟩, cur_set4 (unhide HC4) hcl, only_set4 (unhide HO4) (Nat.le_refl _)⟩
    · have h22 := hide (hash15 t op n s a len len)
      go_wp2_with fail
      refine (unhide h22 _ ((unhide HL3).any (Nat.zero_le _)) (by have := unhide HZ2; omega)).mono ?_
      rintro e w4 ⟨op', n', s', a', len', cap', rfl, hL4, hb4, rfl⟩
      have HL4 := hide hL4
      have HC4 := hide ((unhide HC3).below hb4)
      have HO4 := hide ((unhide HO3).trans (Only.of_below hb4))
      obtain ⟨p0, p1, p2, p3, q0, q1, q2, q3⟩ := ((unhide HX3).below hb4).facts
      clear hL4 hb4 c0 c1 c2 c3
      go_wp2_with fail
      exact bodyPost_ret (v := .agg #[.int .i64 op', .int .i64 n', .string s', .slice a' len' len']) (by simp [results, Tryd.results60, go_sem, p0, p1, p2, p3]) rfl ⟨_, rfl, ⟨_, _, _, _, _, _, rfl, set4_lies (unhide HL4) (unhide HGS) w.heap.size (by have := unhide HGS; omega), madeT_200 _ _⟩, cur_set4 (unhide HC4) hcl, only_set4 (unhide HO4) (Nat.le_refl _)⟩
    · have h22 := hide (pubS)
      have h8 := hide (agree_calls t)
      have l0 := lt_of_cell c0
      have n0 := Nat.ne_of_lt l0
      have m0 := Ne.symm n0
      have hcw3 : w3.heap.size ≠ c := by omega
      go_wp2_with fail
      go_cut [6, 7] (fun p q wx => DrCut c w3 p q wx)
      case first =>
        go_region_held3 (fun x => x.cell? ⟨g5, 0, none⟩ = some (.int .i64 op) ∧ x.cell? ⟨g5, 1, none⟩ = some (.int .i64 n) ∧ x.cell? ⟨g5, 2, none⟩ = some (.string s) ∧ x.cell? ⟨g5, 3, none⟩ = some (.slice a len len)) (go_keep)
          (first
            | (go_at_call 60
               refine (unhide IHW _ ?_).mono ?_
               first
                 | exact (unhide HC3).drew
                 | exact ((unhide HC3).below (ab _)).drew
               rintro e w4 ⟨v, rfl, ⟨t2, op2, n2, s2, a2, len2, rfl, hl4, hz4⟩, hc4, ho4⟩
               try have zz4 := hide (((ZBox.new w3).drew).only ho4 hcw3)
               have HO34 : Hid (Only [c] w3 w4) := by
                 first
                   | exact ho4.drewl
                   | exact only_alloc _ ho4.drewl
               have HR4 := hide ((unhide HR3).only (unhide HO34) (by simp; omega))
               have HL4 := hide (((unhide HL3).any (Nat.zero_le _)).low (unhide HO34) (unhide HL3) (by omega))
               have HM4 := hide (hl4.any (Nat.zero_le _))
               have HC4 := hide hc4
               have HZ4 := hide hz4
               clear hl4 hz4 hc4 ho4
               obtain ⟨f0, f1, f2, f3⟩ := (unhide HR4).facts
               have l4 := lt_of_cell f0
               have n4 := Nat.ne_of_lt l4
               have m4 := Ne.symm n4)
            | (go_at_call 29
               refine (unhide h22 t2 _ _ _ _ _ _ _ ?_ (by have := unhide HZ4; omega)).mono ?_
               first
                 | exact unhide HM4
                 | exact (unhide HM4).below (ab _)
               rintro e w5 ⟨op3, n3, s3, a3, len3, cap3, rfl, hL5, hb5, -⟩
               try have zz5 := hide ((unhide zz4).below hb5)
               try have zz5 := hide ((ZBox.new w4).below hb5)
               have HB45 : Hid (Below w4.heap.size w4 w5) := by
                 first
                   | exact hb5
                   | exact bt (ab _) hb5 (Nat.le_refl _)
               have HM5 := hide (hL5.any (Nat.zero_le _))
               have HL5 := hide ((unhide HL4).below (unhide HB45))
               clear hL5 hb5
               have g0 := kpc (unhide HB45) f0
               have g1 := kpc (unhide HB45) f1
               have g2 := kpc (unhide HB45) f2
               have g3 := kpc (unhide HB45) f3
               have l5 := lt_of_cell g0
               have n5 := Nat.ne_of_lt l5
               have m5 := Ne.symm n5)
            | (go_at_call 74
               refine (unhide h8 (madeT 4 [t2]) _ _ _ _ _ _ _ _ _ _ _ _ _ ?_ ?_ (by have := unhide HZ2; have := madeT_200 4 [t2]; omega)).mono ?_
               first
                 | exact unhide HL5
                 | exact (unhide HL5).below (ab _)
               first
                 | exact unhide HM5
                 | exact (unhide HM5).below (ab _)
               rintro e w6 ⟨op', n', s', a', len', cap', rfl, hL6, hb6, rfl⟩
               try have zz6 := hide ((unhide zz5).below hb6)
               try have zz6 := hide ((ZBox.new w5).below hb6)
               have HB56 : Hid (Below w5.heap.size w5 w6) := by
                 first
                   | exact hb6
                   | exact bt (ab _) hb6 (Nat.le_refl _)
               have HL6 := hide hL6
               clear hL6 hb6
               try obtain ⟨p0, p1, p2, p3, q0, q1, q2, q3⟩ := (unhide zz6).facts
               have j0 := kpc (unhide HB56) g0
               have j1 := kpc (unhide HB56) g1
               have j2 := kpc (unhide HB56) g2
               have j3 := kpc (unhide HB56) g3
               have l6 := lt_of_cell j0
               have n6 := Nat.ne_of_lt l6
               have m6 := Ne.symm n6))
        all_goals
          go_wp2_with fail
          go_meet
          have HC6 := hide (((unhide HC4).below (unhide HB45)).below (unhide HB56))
          have HO36 := hide ((unhide HO34).trans ((Only.of_below (unhide HB45)).trans (Only.of_below (unhide HB56))))
          have s34 := (unhide HO34).size
          have s45 := (unhide HB45).size
          have s56 := (unhide HB56).size
          first
            | (with_reducible refine DrCut.late (unhide HO36) (unhide HC6) (unhide HL6) ?_ (agreeT_200 _ _)
               first | omega | (rw [heap_size_alloc]; omega))
            | (with_reducible refine DrCut.early (unhide HO36) (unhide HC6) (unhide zz6) ?_ (unhide HL6) ?_ ?_ (agreeT_200 _ _)
               · first | omega | (have := lt_of_heap (unhide zz4); omega)
               · first
                   | exact lt_of_heap (unhide zz5)
                   | (rw [heap_size_alloc]; omega)
               · first | omega | (rw [heap_size_alloc]; omega))
      case rest =>
        obtain ⟨g6, r, op', n', s', a', len', b, rfl, rfl, hR6, hL6, hz6, hc6, ho6⟩ := hcut
        have HX6 := hide ((unhide HX3).only ho6 (by omega))
        have HO6 := hide ((unhide HO3).trans ho6)
        have HC6 := hide hc6
        have HL6 := hide hL6
        have HZ6 := hide hz6
        have HT6 := hide ((unhide HL3).only ho6 (by omega))
        obtain ⟨k0, k1, k2, k3⟩ := ((unhide HR3).only ho6 (by simp; omega)).facts
        obtain ⟨f0, f1, f2, f3⟩ := hR6.facts
        obtain ⟨p0, p1, p2, p3, q0, q1, q2, q3⟩ := (unhide HX6).facts
        clear hR6 hL6 hz6 hc6 ho6 c0 c1 c2 c3 l0 n0 m0
        cases b with
        | true =>
          go_wp2_with fail
          exact bodyPost_ret (v := .agg #[.int .i64 op', .int .i64 n', .string s', .slice a' len' len']) (by simp [results, Tryd.results60, go_sem, p0, p1, p2, p3]) rfl ⟨_, rfl, ⟨r, _, _, _, _, _, rfl, set4_lies (unhide HL6) (unhide HGS) w.heap.size (by have := unhide HGS; omega), unhide HZ6⟩, cur_set4 (unhide HC6) hcl, only_set4 (unhide HO6) (Nat.le_refl _)⟩
        | false =>
          go_wp2_with fail
          exact bodyPost_ret (v := .agg #[.int .i64 op, .int .i64 n, .string s, .slice a len len]) (by simp [results, Tryd.results60, go_sem, p0, p1, p2, p3]) rfl ⟨_, rfl, ⟨t, _, _, _, _, _, rfl, set4_lies (unhide HT6) (unhide HSX) w.heap.size (by have := unhide HSX; omega), unhide HZ2⟩, cur_set4 (unhide HC6) hcl, only_set4 (unhide HO6) (Nat.le_refl _)⟩
    · have h54 := hide (sealS t)
      go_wp2_with fail
      go_region_held3 (fun x => x.cell? ⟨g5, 0, none⟩ = some (.int .i64 op) ∧ x.cell? ⟨g5, 1, none⟩ = some (.int .i64 n) ∧ x.cell? ⟨g5, 2, none⟩ = some (.string s) ∧ x.cell? ⟨g5, 3, none⟩ = some (.slice a len len)) (go_keep)
        (first
          | (go_at_call 59
             refine (unhide hbl 3 _ (unhide HC3).drew (by omega)).mono ?_
             rintro e w4 ⟨y, rfl, ⟨_, hy⟩, hc4, ho4⟩
             obtain ⟨hy0, hy1⟩ := hy (by omega)
             have HO34 := hide ho4.drewl
             have HR4 := hide ((unhide HR3).only ho4.drewl (by simp; omega))
             have HX4 := hide ((unhide HX3).only ho4.drewl (by omega))
             have HL4 := hide ((unhide HL3).only ho4.drewl (by omega))
             have HC4 := hide hc4
             clear hc4 ho4 hy
             obtain ⟨f0, f1, f2, f3⟩ := (unhide HR4).facts)
          | (go_at_call 60
             refine (unhide IHW _ (unhide HC4)).mono ?_
             rintro e w5 ⟨v, rfl, ⟨t2, op2, n2, s2, a2, len2, rfl, hl5, hz5⟩, hc5, ho5⟩
             have HO45 := hide ho5
             have HR5 := hide ((unhide HR4).only ho5 (by simp; omega))
             have HX5 := hide ((unhide HX4).only ho5 (by omega))
             have HL5 := hide ((unhide HL4).only ho5 (by omega))
             have HM5 := hide (hl5.any (Nat.zero_le _))
             have HC5 := hide hc5
             have HZ5 := hide hz5
             clear hl5 hz5 hc5 ho5
             obtain ⟨k0, k1, k2, k3⟩ := (unhide HR5).facts)
          | (go_at_call 75
             refine (unhide h54 t2 _ _ _ _ _ _ _ _ _ _ _ _ _ _ ((unhide HL5).any (Nat.zero_le _)) (unhide HM5) (by have := unhide HZ2; have := unhide HZ5; omega) (by omega) (by omega)).mono ?_
             rintro e w6 ⟨op', n', s', a', len', cap', rfl, hL6, hb6, rfl⟩
             have HL6 := hide hL6
             have HB6 := hide hb6
             obtain ⟨p0, p1, p2, p3, q0, q1, q2, q3⟩ := ((unhide HX5).below hb6).facts
             have j0 := kpc hb6 k0
             have j1 := kpc hb6 k1
             have j2 := kpc hb6 k2
             have j3 := kpc hb6 k3
             clear hL6 hb6))
      have HC6 := hide ((unhide HC5).below (unhide HB6))
      have HO6 := hide ((((unhide HO3).trans (unhide HO34)).trans (unhide HO45)).trans (Only.of_below (unhide HB6)))
      have HGS5 := hide (Nat.lt_of_lt_of_le (unhide HGS) (Nat.le_trans (unhide HO34).size (unhide HO45).size))
      clear c0 c1 c2 c3 f0 f1 f2 f3 j0 j1 j2 j3 k0 k1 k2 k3
      go_wp2_with fail
      exact bodyPost_ret (v := .agg #[.int .i64 op', .int .i64 n', .string s', .slice a' len' len']) (by simp [results, Tryd.results60, go_sem, p0, p1, p2, p3]) rfl ⟨_, rfl, ⟨_, _, _, _, _, _, rfl, set4_lies (unhide HL6) (unhide HGS5) w.heap.size (by have := unhide HGS5; omega), madeT_200 _ _⟩, cur_set4 (unhide HC6) hcl, only_set4 (unhide HO6) (Nat.le_refl _)⟩
    · have h55 := hide (signS t)
      go_wp2_with fail
      go_region_held3 (fun x => x.cell? ⟨g5, 0, none⟩ = some (.int .i64 op) ∧ x.cell? ⟨g5, 1, none⟩ = some (.int .i64 n) ∧ x.cell? ⟨g5, 2, none⟩ = some (.string s) ∧ x.cell? ⟨g5, 3, none⟩ = some (.slice a len len)) (go_keep)
        (first
          | (go_at_call 60
             refine (unhide IHW _ (unhide HC3).drew).mono ?_
             rintro e w4 ⟨v, rfl, ⟨t2, op2, n2, s2, a2, len2, rfl, hl4, hz4⟩, hc4, ho4⟩
             have HO34 := hide ho4.drewl
             have HR4 := hide ((unhide HR3).only ho4.drewl (by simp; omega))
             have HX4 := hide ((unhide HX3).only ho4.drewl (by omega))
             have HL4 := hide ((unhide HL3).only ho4.drewl (by omega))
             have HM4 := hide (hl4.any (Nat.zero_le _))
             have HC4 := hide hc4
             have HZ4 := hide hz4
             clear hl4 hz4 hc4 ho4
             obtain ⟨f0, f1, f2, f3⟩ := (unhide HR4).facts)
          | (go_at_call 76
             refine (unhide h55 t2 _ _ _ _ _ _ _ _ _ _ _ _ _ ((unhide HL4).any (Nat.zero_le _)) (unhide HM4) (by have := unhide HZ2; have := unhide HZ4; omega)).mono ?_
             rintro e w5 ⟨op', n', s', a', len', cap', rfl, hL5, hb5, rfl⟩
             have HL5 := hide hL5
             have HB5 := hide hb5
             obtain ⟨p0, p1, p2, p3, q0, q1, q2, q3⟩ := ((unhide HX4).below hb5).facts
             have j0 := kpc hb5 f0
             have j1 := kpc hb5 f1
             have j2 := kpc hb5 f2
             have j3 := kpc hb5 f3
             clear hL5 hb5))
      have HC5 := hide ((unhide HC4).below (unhide HB5))
      have HO5 := hide (((unhide HO3).trans (unhide HO34)).trans (Only.of_below (unhide HB5)))
      have HGS4 := hide (Nat.lt_of_lt_of_le (unhide HGS) (unhide HO34).size)
      clear c0 c1 c2 c3 f0 f1 f2 f3 j0 j1 j2 j3
      go_wp2_with fail
      exact bodyPost_ret (v := .agg #[.int .i64 op', .int .i64 n', .string s', .slice a' len' len']) (by simp [results, Tryd.results60, go_sem, p0, p1, p2, p3]) rfl ⟨_, rfl, ⟨_, _, _, _, _, _, rfl, set4_lies (unhide HL5) (unhide HGS4) w.heap.size (by have := unhide HGS4; omega), madeT_200 _ _⟩, cur_set4 (unhide HC5) hcl, only_set4 (unhide HO5) (Nat.le_refl _)⟩
    · have h55 := hide (pair12 t)
      go_wp2_with fail
      go_region_held3 (fun x => x.cell? ⟨g5, 0, none⟩ = some (.int .i64 op) ∧ x.cell? ⟨g5, 1, none⟩ = some (.int .i64 n) ∧ x.cell? ⟨g5, 2, none⟩ = some (.string s) ∧ x.cell? ⟨g5, 3, none⟩ = some (.slice a len len)) (go_keep)
        (first
          | (go_at_call 60
             refine (unhide IHW _ (unhide HC3).drew).mono ?_
             rintro e w4 ⟨v, rfl, ⟨t2, op2, n2, s2, a2, len2, rfl, hl4, hz4⟩, hc4, ho4⟩
             have HO34 := hide ho4.drewl
             have HR4 := hide ((unhide HR3).only ho4.drewl (by simp; omega))
             have HX4 := hide ((unhide HX3).only ho4.drewl (by omega))
             have HL4 := hide ((unhide HL3).only ho4.drewl (by omega))
             have HM4 := hide (hl4.any (Nat.zero_le _))
             have HC4 := hide hc4
             have HZ4 := hide hz4
             clear hl4 hz4 hc4 ho4
             obtain ⟨f0, f1, f2, f3⟩ := (unhide HR4).facts)
          | (go_at_call 13
             refine (unhide h55 t2 _ _ _ _ _ _ _ _ _ _ _ _ _ ((unhide HL4).any (Nat.zero_le _)) (unhide HM4) (by have := unhide HZ2; have := unhide HZ4; omega)).mono ?_
             rintro e w5 ⟨op', n', s', a', len', cap', rfl, hL5, hb5, rfl⟩
             have HL5 := hide hL5
             have HB5 := hide hb5
             obtain ⟨p0, p1, p2, p3, q0, q1, q2, q3⟩ := ((unhide HX4).below hb5).facts
             have j0 := kpc hb5 f0
             have j1 := kpc hb5 f1
             have j2 := kpc hb5 f2
             have j3 := kpc hb5 f3
             clear hL5 hb5))
      have HC5 := hide ((unhide HC4).below (unhide HB5))
      have HO5 := hide (((unhide HO3).trans (unhide HO34)).trans (Only.of_below (unhide HB5)))
      have HGS4 := hide (Nat.lt_of_lt_of_le (unhide HGS) (unhide HO34).size)
      clear c0 c1 c2 c3 f0 f1 f2 f3 j0 j1 j2 j3
      go_wp2_with fail
      exact bodyPost_ret (v := .agg #[.int .i64 op', .int .i64 n', .string s', .slice a' len' len']) (by simp [results, Tryd.results60, go_sem, p0, p1, p2, p3]) rfl ⟨_, rfl, ⟨_, _, _, _, _, _, rfl, set4_lies (unhide HL5) (unhide HGS4) w.heap.size (by have := unhide HGS4; omega), madeT_200 _ _⟩, cur_set4 (unhide HC5) hcl, only_set4 (unhide HO5) (Nat.le_refl _)⟩
    · have h55 := hide (pair12 t)
      go_wp2_with fail
      go_region_held3 (fun x => x.cell? ⟨g5, 0, none⟩ = some (.int .i64 op) ∧ x.cell? ⟨g5, 1, none⟩ = some (.int .i64 n) ∧ x.cell? ⟨g5, 2, none⟩ = some (.string s) ∧ x.cell? ⟨g5, 3, none⟩ = some (.slice a len len)) (go_keep)
        (first
          | (go_at_call 60
             refine (unhide IHW _ (unhide HC3).drew).mono ?_
             rintro e w4 ⟨v, rfl, ⟨t2, op2, n2, s2, a2, len2, rfl, hl4, hz4⟩, hc4, ho4⟩
             have HO34 := hide ho4.drewl
             have HR4 := hide ((unhide HR3).only ho4.drewl (by simp; omega))
             have HX4 := hide ((unhide HX3).only ho4.drewl (by omega))
             have HL4 := hide ((unhide HL3).only ho4.drewl (by omega))
             have HM4 := hide (hl4.any (Nat.zero_le _))
             have HC4 := hide hc4
             have HZ4 := hide hz4
             clear hl4 hz4 hc4 ho4
             obtain ⟨f0, f1, f2, f3⟩ := (unhide HR4).facts)
          | (go_at_call 13
             refine (unhide h55 t2 _ _ _ _ _ _ _ _ _ _ _ _ _ ((unhide HL4).any (Nat.zero_le _)) (unhide HM4) (by have := unhide HZ2; have := unhide HZ4; omega)).mono ?_
             rintro e w5 ⟨op', n', s', a', len', cap', rfl, hL5, hb5, rfl⟩
             have HL5 := hide hL5
             have HB5 := hide hb5
             obtain ⟨p0, p1, p2, p3, q0, q1, q2, q3⟩ := ((unhide HX4).below hb5).facts
             have j0 := kpc hb5 f0
             have j1 := kpc hb5 f1
             have j2 := kpc hb5 f2
             have j3 := kpc hb5 f3
             clear hL5 hb5))
      have HC5 := hide ((unhide HC4).below (unhide HB5))
      have HO5 := hide (((unhide HO3).trans (unhide HO34)).trans (Only.of_below (unhide HB5)))
      have HGS4 := hide (Nat.lt_of_lt_of_le (unhide HGS) (unhide HO34).size)
      clear c0 c1 c2 c3 f0 f1 f2 f3 j0 j1 j2 j3
      go_wp2_with fail
      exact bodyPost_ret (v := .agg #[.int .i64 op', .int .i64 n', .string s', .slice a' len' len']) (by simp [results, Tryd.results60, go_sem, p0, p1, p2, p3]) rfl ⟨_, rfl, ⟨_, _, _, _, _, _, rfl, set4_lies (unhide HL5) (unhide HGS4) w.heap.size (by have := unhide HGS4; omega), madeT_200 _ _⟩, cur_set4 (unhide HC5) hcl, only_set4 (unhide HO5) (Nat.le_refl _)⟩

theorem dr1 (c : Nat) : DrOk c 1 := dr_step c 1 (by omega) (by omega) (dr_zero c)
theorem dr2 (c : Nat) : DrOk c 2 := dr_step c 2 (by omega) (by omega) (dr1 c)
theorem dr3 (c : Nat) : DrOk c 3 := dr_step c 3 (by omega) (by omega) (dr2 c)

end Go.Proofs.YtagondlfhdfcgaaDoor
