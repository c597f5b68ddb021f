
/- The walk of spec.l1Draw: some term of at most so many, that lies in new blocks; only the cursor's own block is written. -/
import Derived.Test.YtagondlfhdfcgaaDoorDw
import Derived.ArgAppend
namespace Go.Proofs.YtagondlfhdfcgaaDoor
open Go.RowKit Go.Deep

/-- A term of at most so many lies behind L. -/
def Held (k : Nat) (w : World) (L : Nat) (v : Value) : Prop := ∃ (t : Tm) (op n : Int) (s : ByteArray) (a : Option Addr) (len cap : Nat), v = .agg #[.int .i64 op, .int .i64 n, .string s, .slice a len cap] ∧ Lies w L t (tmCells op n s a len cap) ∧ t.size + t.wt ≤ k

/-- The cells of kids, one behind the other. -/
def Flat (w : World) (L : Nat) : List Value → List Tm → Prop
  | xs, [] => xs = []
  | xs, t :: r => ∃ cs ys, xs = cs ++ ys ∧ Lies w L t cs ∧ Flat w L ys r
theorem Flat.of {w : World} {L b o : Nat} : ∀ (ks : List Tm) (i : Nat), LiesAll w L (some ⟨b, o, none⟩) i ks → ∃ xs, xs.length = ks.length * 4 ∧ (∀ j u, xs[j]? = some u → w.cell? ⟨b, o + i * 4 + j, none⟩ = some u) ∧ Flat w L xs ks
  | [], _, _ => ⟨[], by simp, by simp, rfl⟩
  | t :: r, i, h => by
    simp only [LiesAll] at h
    obtain ⟨⟨b', o', cs, he, _, hr, ht⟩, h2⟩ := h
    cases he
    obtain ⟨ys, hl, hc, hf⟩ := Flat.of r (i + 1) h2
    have h4 := ht.length
    refine ⟨cs ++ ys, by simp [hl, h4]; omega, fun j u hj => ?_, cs, ys, rfl, ht, hf⟩
    by_cases hj4 : j < 4
    · rw [List.getElem?_append_left (by omega)] at hj
      exact hr j u hj
    · rw [List.getElem?_append_right (by omega), h4] at hj
      have := hc (j - 4) u hj
      rwa [show o + (i + 1) * 4 + (j - 4) = o + i * 4 + j by omega] at this
theorem Flat.lies {w w' : World} {L L' g : Nat} (hg : L' ≤ g) (hk : ∀ t cs, Lies w L t cs → Lies w' L' t cs) : ∀ (ks : List Tm) (xs : List Value) (i : Nat), Flat w L xs ks → (∀ j u, xs[j]? = some u → w'.cell? ⟨g, 0 + i * 4 + j, none⟩ = some u) → LiesAll w' L' (some ⟨g, 0, none⟩) i ks
  | [], _, _, _, _ => by simp [LiesAll]
  | t :: r, xs, i, h, hc => by
    obtain ⟨cs, ys, rfl, ht, hf⟩ := h
    have h4 := ht.length
    simp only [LiesAll]
    refine ⟨⟨g, 0, cs, rfl, hg, fun j v hj => hc j v (by rw [List.getElem?_append_left (by have := (List.getElem?_eq_some_iff.1 hj).1; omega)]; exact hj), hk t cs ht⟩, Flat.lies hg hk r ys (i + 1) hf fun j u hj => ?_⟩
    have := hc (4 + j) u (by rw [List.getElem?_append_right (by omega), h4, show 4 + j - 4 = j by omega]; exact hj)
    rwa [show 0 + i * 4 + (4 + j) = 0 + (i + 1) * 4 + j by omega] at this
theorem Flat.snoc {w : World} {L : Nat} {t : Tm} {cs : List Value} (ht : Lies w L t cs) : ∀ (ks : List Tm) (xs : List Value), Flat w L xs ks → Flat w L (xs ++ cs) (ks ++ [t])
  | [], _, h => ⟨cs, [], by rw [show _ = [] from h]; simp, ht, rfl⟩
  | x :: r, _, ⟨cs', ys, rfl, hx, hf⟩ => ⟨cs', ys ++ cs, by simp, hx, Flat.snoc ht r ys hf⟩

/-- A list of kids that is full, and one more behind it: what the append made. -/
theorem pushed {w1 X w' : World} {L c : Nat} {ks : List Tm} {t : Tm} {cs xs : List Value} {v' : Value} (hc : c < L) (hL : L ≤ X.heap.size) (hf : Flat w1 L xs ks) (ht : ∀ W, Lies W L t cs) (ho : w'.ownsRow X.heap.size 24 4 v' (ks.length + 1) (xs ++ cs)) (hg : X.grownBy w' none) :
    ∃ g cap, v' = .slice (some ⟨g, 0, none⟩) (ks.length + 1) cap ∧ (ks.length + 1 ≤ cap ∧ cap ≤ maxLen) ∧ X.heap.size ≤ g ∧ Below X.heap.size X w' ∧ ∀ W, Only [c] w1 W → (∀ o, W.cell? ⟨g, o, none⟩ = w'.cell? ⟨g, o, none⟩) → LiesAll W L (some ⟨g, 0, none⟩) 0 (ks ++ [t]) := by
  have hb : Below X.heap.size X w' := (Below.refl _ _).grown hg (Nat.le_refl _) (by simp)
  rcases ho.2 with ⟨_, h0⟩ | ⟨g, cap, cur, hv, hge, hrow, h1, h2, h3, h4⟩
  · omega
  · refine ⟨g, cap, hv, ⟨h1, h2⟩, hge, hb, fun W hW hcell => Flat.lies (w := w1) (by omega) (fun t cs h => h.only hW hc) _ _ 0 (Flat.snoc (ht w1) ks xs hf) fun j u hj => ?_⟩
    have hjl : j < (ks.length + 1) * 4 := by have := (List.getElem?_eq_some_iff.1 hj).1; rw [ho.1] at this; exact this
    rw [← h4, List.getElem?_take, if_pos hjl] at hj
    have hcs : j < cur.size := by have := (List.getElem?_eq_some_iff.1 hj).1; simpa using this
    have := cell_of_row hrow hcs
    rw [show 0 + 0 * 4 + j = j by omega, hcell, this]
    simpa [hcs] using hj

/-- One more behind a full list of kids. -/
theorem append_one {w1 X : World} {L c b : Nat} {a : Option Addr} {ks : List Tm} {t : Tm} {cs : List Value} (hc : c < L) (hL : L ≤ X.heap.size) (hk : LiesAll w1 L a 0 ks) (hX : Only [c] w1 X) (hn : ks.length ≤ 100000) (ht : ∀ W, Lies W L t cs) (hr : X.rangeAt b 0 cs) (h1 : ∀ u ∈ cs, u.oneCell' = true) (ty : TypeId) :
    ∃ v' w', (Builtin.append_ #[22, 22] ty #[.slice a ks.length ks.length, .slice (some ⟨b, 0, none⟩) 1 1]).run Tryd.prog X = .ok v' w' ∧
      ∃ g cap, v' = .slice (some ⟨g, 0, none⟩) (ks.length + 1) cap ∧ (ks.length + 1 ≤ cap ∧ cap ≤ maxLen) ∧ X.heap.size ≤ g ∧ Below X.heap.size X w' ∧ ∀ W, Only [c] w1 W → (∀ o, W.cell? ⟨g, o, none⟩ = w'.cell? ⟨g, o, none⟩) → LiesAll W L (some ⟨g, 0, none⟩) 0 (ks ++ [t]) := by
  obtain ⟨i, hi, hzz⟩ := Option.map_eq_some_iff.1 info24
  simp only [Prod.mk.injEq] at hzz
  obtain ⟨hz, hs, hb⟩ := hzz
  have h4 := (ht X).length
  have hnews : ∀ j u, cs[j]? = some u → X.cell? ((⟨b, 0, none⟩ : Addr).add j) = some u := fun j u hj => by rw [Addr.add_mid]; exact hr j u hj
  cases a with
  | none =>
    have h0 : ks = [] := by
      cases ks with
      | nil => rfl
      | cons x r => simp [LiesAll] at hk
    subst h0
    obtain ⟨v', w', hrun, r1, r2, _⟩ := run_append_own (P := Tryd.prog) X X.heap.size 22 ty 24 i _ 4 56 Tryd.underlying22 hi hz hs hb rfl (by omega) (.slice none 0 0) 0 [] (World.ownsRow_nil X _ 24 4) ⟨b, 0, none⟩ 1 1 cs (by omega) hnews h1 (by simp [maxLen]) (by omega) (Nat.le_refl _)
    exact ⟨v', w', hrun, pushed (ks := []) hc hL (show Flat w1 L [] [] from rfl) ht r1 r2⟩
  | some ad =>
    obtain ⟨xs, hx1, hx2, hx3⟩ : ∃ xs : List Value, xs.length = ks.length * 4 ∧ (∀ j u, xs[j]? = some u → X.cell? (ad.add j) = some u) ∧ Flat w1 L xs ks := by
      cases ks with
      | nil => exact ⟨[], rfl, by simp, rfl⟩
      | cons x r =>
        have hk' := hk
        simp only [LiesAll] at hk'
        obtain ⟨⟨b', o', _, he, hLb, _⟩, _⟩ := hk'
        cases he
        obtain ⟨xs, g1, g2, g3⟩ := Flat.of _ 0 hk
        refine ⟨xs, g1, fun j u hj => ?_, g3⟩
        rw [Addr.add_mid]
        have h5 : w1.cell? ⟨b', o' + j, none⟩ = some u := by simpa using g2 j u hj
        exact (World.cell?_of_block (hX.block b' (lt_of_cell h5) (by simp; omega))).trans h5
    obtain ⟨v', w', hrun, r1, r2⟩ := run_append_arg_grows (P := Tryd.prog) X 22 ty 24 i _ 4 56 Tryd.underlying22 hi hz hs hb rfl (by omega) ad ks.length ks.length xs hx1 hx2 ⟨b, 0, none⟩ 1 1 cs (by omega) hnews (by omega) (by unfold maxLen; omega) (by omega)
    exact ⟨v', w', hrun, pushed hc hL hx3 ht r1 r2⟩

theorem lies_op {w : World} {L : Nat} {t : Tm} {op n : Int} {s : ByteArray} {a : Option Addr} {len cap : Nat} (h : Lies w L t (tmCells op n s a len cap)) (op' n' : Int) (s' : ByteArray) (hs : s'.size ≤ maxLen) (h1 : (Lit.int .i64 op').wf = true) (h2 : (Lit.int .i64 n').wf = true) : ∃ t', Lies w L t' (tmCells op' n' s' a len cap) ∧ t'.size = t.size ∧ t'.wt + s.size = t.wt + s'.size := by
  obtain ⟨o1, n1, s1, ks⟩ := t
  simp only [Lies, tmCells, List.cons.injEq, Value.int.injEq, Value.string.injEq, Value.slice.injEq, true_and, and_true] at h
  obtain ⟨a9, c9, ⟨rfl, rfl, rfl, rfl, rfl, rfl⟩, ⟨_, h3, h4⟩, _, hk⟩ := h
  refine ⟨.node op' n' s' ks, ?_, by simp [Tm.size], by simp only [Tm.wt]; omega⟩
  simp only [Lies]
  exact ⟨_, _, rfl, ⟨hs, h3, h4⟩, ⟨h1, h2⟩, hk⟩
theorem Lies.wf {w : World} {L : Nat} {t : Tm} {op n : Int} {s : ByteArray} {a : Option Addr} {len cap : Nat} (h : Lies w L t (tmCells op n s a len cap)) : (Lit.int .i64 op).wf = true ∧ (Lit.int .i64 n).wf = true ∧ s.size ≤ maxLen := by
  obtain ⟨o1, n1, s1, ks⟩ := t
  simp only [Lies, tmCells, List.cons.injEq, Value.int.injEq, Value.string.injEq, Value.slice.injEq, true_and, and_true] at h
  obtain ⟨a9, c9, ⟨rfl, rfl, rfl, rfl, rfl, rfl⟩, ⟨h0, h3, h4⟩, ⟨h1, h2⟩, hk⟩ := h
  exact ⟨h1, h2, h0⟩
theorem ints_at5 (w : World) : ∀ k, k < 5 → ∃ z, (w.alloc (.cells #[.int .i64 (-1), .int .i64 1, .int .i64 1000000, .int .i64 1000001, .int .i64 (-9223372036854775808)] 3)).cell? ⟨w.heap.size, k, none⟩ = some (.int .i64 z) ∧ (Lit.int .i64 z).wf = true
  | 0, _ => ⟨_, box_cell w _ 3 0 _ rfl, by decide⟩
  | 1, _ => ⟨_, box_cell w _ 3 1 _ rfl, by decide⟩
  | 2, _ => ⟨_, box_cell w _ 3 2 _ rfl, by decide⟩
  | 3, _ => ⟨_, box_cell w _ 3 3 _ rfl, by decide⟩
  | 4, _ => ⟨_, box_cell w _ 3 4 _ rfl, by decide⟩
  | k + 5, h => absurd h (by omega)
theorem Lies.set {w : World} {L L' g o : Nat} {x : Value} {t : Tm} {cs : List Value} (h : Lies w L t cs) (hg : g < L) (hL : L' ≤ L) : Lies (w.setCell ⟨g, o, none⟩ x) L' t cs :=
  Lies.carry hL (fun b _ hb _ => World.cell?_of_block (Below.heap_setCell _ _ _ _ (by show b ≠ g; omega))) t cs h
theorem Cur.set {w : World} {c g o : Nat} {x : Value} (h : Cur w c) (hg : c < g) : Cur (w.setCell ⟨g, o, none⟩ x) c := h.keep fun b hb => Below.heap_setCell _ _ _ _ (by show b ≠ g; omega)
theorem only_set {c g o : Nat} {w v : World} {x : Value} (h : Only [c] w v) (hg : w.heap.size ≤ g) : Only [c] w (v.setCell ⟨g, o, none⟩ x) :=
  ⟨h.os, h.tape, h.output, by simpa using h.size, fun k hk hf => by rw [Below.heap_setCell _ _ _ _ (by show k ≠ g; omega)]; exact h.block k hk hf⟩

theorem held_fin {w X : World} {c : Nat} {t : Tm} {op n : Int} {s : ByteArray} {a : Option Addr} {len cap : Nat} (hl : Lies X (w.heap.size + 1) t (tmCells op n s a len cap)) (hz : t.size + t.wt ≤ 61010) (hc : Cur X c) (ho : Only [c] w X) (hcl : c < w.heap.size) :
    Held 61010 ((((X.setCell ⟨w.heap.size, 0, none⟩ (.int .i64 op)).setCell ⟨w.heap.size, 1, none⟩ (.int .i64 n)).setCell ⟨w.heap.size, 2, none⟩ (.string s)).setCell ⟨w.heap.size, 3, none⟩ (.slice a len cap)) w.heap.size (.agg #[.int .i64 op, .int .i64 n, .string s, .slice a len cap]) ∧
    Cur ((((X.setCell ⟨w.heap.size, 0, none⟩ (.int .i64 op)).setCell ⟨w.heap.size, 1, none⟩ (.int .i64 n)).setCell ⟨w.heap.size, 2, none⟩ (.string s)).setCell ⟨w.heap.size, 3, none⟩ (.slice a len cap)) c ∧
    Only [c] w ((((X.setCell ⟨w.heap.size, 0, none⟩ (.int .i64 op)).setCell ⟨w.heap.size, 1, none⟩ (.int .i64 n)).setCell ⟨w.heap.size, 2, none⟩ (.string s)).setCell ⟨w.heap.size, 3, none⟩ (.slice a len cap)) :=
  ⟨⟨t, _, _, _, _, _, _, rfl, set4_lies hl (by omega) _ (by omega), hz⟩, cur_set4 hc hcl, only_set4 ho (Nat.le_refl _)⟩

set_option maxRecDepth 100000 in
set_option maxHeartbeats 4000000 in
theorem draw_calls (c : Nat) (w : World) (hc : Cur w c) :
    Calls Tryd.prog 44 #[.pointer (some ⟨c, 0, none⟩)] w fun e w' => ∃ v, e = .returned v ∧ Held 61010 w' w.heap.size v ∧ Cur w' c ∧ Only [c] w w' := by
  have hbl := hide (below_calls c)
  have hpk := hide (pickInt_calls c)
  have h46 := hide (dr3 c)
  have HX0 := hide (ZBox.new w)
  have hcl := hc.lt
  have HC0 := hide (hc.below (ab (.cells #[.int .i64 0, .int .i64 0, .string ByteArray.empty, .slice none 0 0] 24)))
  clear hc
  go_enter Tryd.func44, Tryd.ntmps44
  go_wp2_with fail
  refine (unhide h46 _ (unhide HC0)).mono ?_
  rintro e w1 ⟨v, rfl, ⟨t, op, n, s, a, len, rfl, hl1, hz1⟩, hc1, ho1⟩
  rw [heap_size_alloc] at hl1
  have hX1 := (unhide HX0).only ho1 (by omega)
  have HGW : Hid (w.heap.size < w1.heap.size) := lt_of_heap hX1
  have HR2 := hide (RowT.new 24 w1 op n s a len len)
  have HO2 := hide ((only_alloc _ ho1).trans (Only.of_below (ab (.cells #[.int .i64 op, .int .i64 n, .string s, .slice a len len] 24))))
  have HQ2 : Hid (Only [c] w1 (w1.alloc (.cells #[.int .i64 op, .int .i64 n, .string s, .slice a len len] 24))) := Only.of_below (ab _)
  have HX2 := hide (hX1.below (ab (.cells #[.int .i64 op, .int .i64 n, .string s, .slice a len len] 24)))
  have HC2 := hide (hc1.below (ab (.cells #[.int .i64 op, .int .i64 n, .string s, .slice a len len] 24)))
  have HL := hide hl1
  have HWF := hide hl1.wf
  have HZ := hide hz1
  clear ho1 hc1 hl1 hz1 hX1 HX0 HC0
  go_wp2_with fail
  generalize hV : w1.alloc (.cells #[.int .i64 op, .int .i64 n, .string s, .slice a len len] 24) = V at *
  clear hV
  generalize hg3 : w1.heap.size = g3 at *
  have HG3 := hide (Nat.le_of_eq hg3)
  clear hg3
  have hgw := unhide HGW
  have hne1 : (w.heap.size = g3) = False := by simp; omega
  have hne2 : (g3 = w.heap.size) = False := by simp; omega
  refine (unhide hbl 14 _ (unhide HC2) (by omega)).mono ?_
  rintro e w2 ⟨x, rfl, ⟨_, hx⟩, hc2, ho2⟩
  obtain ⟨hx0, hx1⟩ := hx (by omega)
  clear hx
  have HR3 := hide ((unhide HR2).only ho2 (by simp; omega))
  have HO3 := hide ((unhide HO2).trans ho2)
  have HQ3 := hide ((unhide HQ2).trans ho2)
  have HX3 := hide ((unhide HX2).only ho2 (by omega))
  have HC3 := hide hc2
  clear ho2 hc2 HR2 HO2 HX2 HC2 HQ2
  by_cases e0 : x = 0
  · subst e0
    obtain ⟨c0, c1, c2, c3⟩ := (unhide HR3).facts
    go_wp2_with fail
    refine (unhide hbl 11 _ (unhide HC3) (by omega)).mono ?_
    rintro e w4 ⟨y, rfl, ⟨_, hy⟩, hc4, ho4⟩
    obtain ⟨hy0, hy1⟩ := hy (by omega)
    have HR4 := (unhide HR3).only ho4 (by simp; omega)
    have HO4 := hide ((unhide HO3).trans ho4)
    have HQ4 := hide ((unhide HQ3).trans ho4)
    have HC4 := hide hc4
    obtain ⟨p0, p1, p2, p3, q0, q1, q2, q3⟩ := ((unhide HX3).only ho4 (by omega)).facts
    clear c0 c1 c2 c3
    obtain ⟨c0, c1, c2, c3⟩ := HR4.facts
    obtain ⟨r0, r1, r2, r3⟩ := HR4.thaw
    clear HR4 ho4 hc4 hy
    obtain ⟨t', ht', hts⟩ := lies_op ((unhide HL).only (only_set (o := 0) (x := .int .i64 (y - 1)) (unhide HQ4) (unhide HG3)) (by omega)) (y - 1) n s (unhide HWF).2.2 (WalkArith.wf_i64 (by omega)) (unhide HWF).2.1
    have HT := hide ht'
    have HTS : Hid (t'.size + t'.wt ≤ 61010) := by show _ ≤ _; have := unhide HZ; have h120 : (ByteArray.mk #[120]).size = 1 := rfl; omega
    clear ht' hts
    go_wp2_with fail
    exact bodyPost_ret (v := .agg #[.int .i64 (y - 1), .int .i64 n, .string s, .slice a len len]) (by simp [results, Tryd.results44, go_sem, p0, p1, p2, p3]) rfl ⟨_, rfl, held_fin (unhide HT) (unhide HTS) ((unhide HC4).set (by omega)) (only_set (unhide HO4) (by omega)) hcl⟩
  by_cases e1 : x = 1
  · subst e1
    obtain ⟨c0, c1, c2, c3⟩ := (unhide HR3).facts
    go_wp2_with fail
    refine (unhide hpk w2.heap.size 5 5 _ ((unhide HC3).below (ab (.cells #[.int .i64 (-1), .int .i64 1, .int .i64 1000000, .int .i64 1000001, .int .i64 (-9223372036854775808)] 3))) (by have := (unhide HC3).lt; omega) (by omega) (by omega) (by omega) (by omega) (ints_at5 w2)).mono ?_
    rintro e w4 ⟨y, rfl, hy, hc4, ho4⟩
    have HR4 := ((unhide HR3).below (ab (.cells #[.int .i64 (-1), .int .i64 1, .int .i64 1000000, .int .i64 1000001, .int .i64 (-9223372036854775808)] 3))).only ho4 (by simp; omega)
    have HO4 := hide ((unhide HO3).trans (only_alloc _ ho4))
    have HQ4 := hide ((unhide HQ3).trans (only_alloc _ ho4))
    have HC4 := hide hc4
    have HY := hide hy
    obtain ⟨p0, p1, p2, p3, q0, q1, q2, q3⟩ := (((unhide HX3).below (ab (.cells #[.int .i64 (-1), .int .i64 1, .int .i64 1000000, .int .i64 1000001, .int .i64 (-9223372036854775808)] 3))).only ho4 (by omega)).facts
    clear c0 c1 c2 c3
    obtain ⟨c0, c1, c2, c3⟩ := HR4.facts
    obtain ⟨r0, r1, r2, r3⟩ := HR4.thaw
    clear HR4 ho4 hc4 hy
    obtain ⟨t', ht', hts⟩ := lies_op ((unhide HL).only (only_set (o := 1) (x := .int .i64 y) (unhide HQ4) (unhide HG3)) (by omega)) op y s (unhide HWF).2.2 (unhide HWF).1 (unhide HY)
    have HT := hide ht'
    have HTS : Hid (t'.size + t'.wt ≤ 61010) := by show _ ≤ _; have := unhide HZ; have h120 : (ByteArray.mk #[120]).size = 1 := rfl; omega
    clear ht' hts
    go_wp2_with fail
    exact bodyPost_ret (v := .agg #[.int .i64 op, .int .i64 y, .string s, .slice a len len]) (by simp [results, Tryd.results44, go_sem, p0, p1, p2, p3]) rfl ⟨_, rfl, held_fin (unhide HT) (unhide HTS) ((unhide HC4).set (by omega)) (only_set (unhide HO4) (by omega)) hcl⟩
  have q0 : (x == 0) = false := by simpa using e0
  have q1 : (x == 1) = false := by simpa using e1
  by_cases e2 : x = 2
  · subst e2
    obtain ⟨c0, c1, c2, c3⟩ := (unhide HR3).facts
    obtain ⟨r0, r1, r2, r3⟩ := (unhide HR3).thaw
    obtain ⟨p0, p1, p2, p3, u0, u1, u2, u3⟩ := (unhide HX3).facts
    obtain ⟨t', ht', hts⟩ := lies_op ((unhide HL).only (only_set (o := 2) (x := .string ⟨#[120]⟩) (unhide HQ3) (unhide HG3)) (by omega)) op n ⟨#[120]⟩ (by decide) (unhide HWF).1 (unhide HWF).2.1
    have HT := hide ht'
    have HTS : Hid (t'.size + t'.wt ≤ 61010) := by show _ ≤ _; have := unhide HZ; have h120 : (ByteArray.mk #[120]).size = 1 := rfl; omega
    clear ht' hts
    go_wp2_with fail
    exact bodyPost_ret (v := .agg #[.int .i64 op, .int .i64 n, .string ⟨#[120]⟩, .slice a len len]) (by simp [results, Tryd.results44, go_sem, p0, p1, p2, p3]) rfl ⟨_, rfl, held_fin (unhide HT) (unhide HTS) ((unhide HC3).set (by omega)) (only_set (unhide HO3) (by omega)) hcl⟩
  have q2 : (x == 2) = false := by simpa using e2
  by_cases e3 : x = 3
  · subst e3
    obtain ⟨c0, c1, c2, c3⟩ := (unhide HR3).facts
    obtain ⟨p0, p1, p2, p3, q0, q1, q2, q3⟩ := (unhide HX3).facts
    obtain ⟨o1, n1, s1, ks⟩ := t
    have hXk := unhide HL
    simp only [Lies, tmCells, List.cons.injEq, Value.int.injEq, Value.string.injEq, Value.slice.injEq, true_and, and_true] at hXk
    obtain ⟨a9, c9, ⟨rfl, rfl, rfl, rfl, hlk, rfl⟩, _, hwf9, hka⟩ := hXk
    subst hlk
    have hkl : ks.length ≤ 100000 := by have := unhide HZ; have := Tm.length_le_sizes ks; simp only [Tm.size] at *; omega
    have HQX : Hid (Only [c] w1 (w2.alloc (.cells #[.int .i64 1, .int .i64 0, .string ⟨#[]⟩, .slice none 0 0] 24))) := (unhide HQ3).trans (Only.of_below (ab _))
    have HGG : Hid (g3 < (w2.alloc (.cells #[.int .i64 1, .int .i64 0, .string ⟨#[]⟩, .slice none 0 0] 24)).heap.size) := by show _ < _; have := (unhide HR3).lt; rw [heap_size_alloc]; omega
    have HAP := hide (append_one (w1 := w1) (X := w2.alloc (.cells #[.int .i64 1, .int .i64 0, .string ⟨#[]⟩, .slice none 0 0] 24)) (c := c) (L := w.heap.size + 1) (by omega) (by have := lt_of_heap (unhide HX3); rw [heap_size_alloc]; omega) hka (unhide HQX) hkl (fun W => leaf_lies W _ 1 0 ⟨#[]⟩ (by decide) (by decide) (by decide)) (fun j v hj => by rw [Nat.zero_add]; exact box_cell w2 _ 24 j v (by simpa [tmCells] using hj)) (by simp [tmCells, Value.oneCell']) 22)
    have HKZ : Hid (Tm.sizes ks + (s.size + (ks.length + Tm.wts ks)) ≤ 60999) := by show _ ≤ _; have := unhide HZ; simp only [Tm.size, Tm.wt] at this; omega
    clear hka hkl hwf9
    go_wp2_with (at_builtin; refine wpList_append_run rfl _ _ 22 rfl _ _ rfl rfl (fun v' w' => ∃ g cap, v' = .slice (some ⟨g, 0, none⟩) (ks.length + 1) cap ∧ (ks.length + 1 ≤ cap ∧ cap ≤ maxLen) ∧ (w2.alloc (.cells #[.int .i64 1, .int .i64 0, .string ⟨#[]⟩, .slice none 0 0] 24)).heap.size ≤ g ∧ Below (w2.alloc (.cells #[.int .i64 1, .int .i64 0, .string ⟨#[]⟩, .slice none 0 0] 24)).heap.size (w2.alloc (.cells #[.int .i64 1, .int .i64 0, .string ⟨#[]⟩, .slice none 0 0] 24)) w' ∧ ∀ W, Only [c] w1 W → (∀ o, W.cell? ⟨g, o, none⟩ = w'.cell? ⟨g, o, none⟩) → LiesAll W (w.heap.size + 1) (some ⟨g, 0, none⟩) 0 (ks ++ [Tm.node 1 0 ⟨#[]⟩ []])) (unhide HAP) ?_; intro v' w5 hst; obtain ⟨g, cap, rfl, hcap, hgx, hb5, hka5⟩ := hst; have hb35 := bt (ab (w := w2) (.cells #[.int .i64 1, .int .i64 0, .string ⟨#[]⟩, .slice none 0 0] 24)) hb5 (Nat.le_refl _); have HR5 := (unhide HR3).below hb35; have HO5 := hide ((unhide HO3).trans (Only.of_below hb35)); have HQ5 := hide ((unhide HQX).trans (Only.of_below hb5)); have HC5 := hide ((unhide HC3).below hb35); have HK5 := hide hka5; have HCAP := hide hcap; have HGX := hide (Nat.lt_of_lt_of_le (unhide HGG) hgx); clear c0 c1 c2 c3 p0 p1 p2 p3 q0 q1 q2 q3; obtain ⟨p0, p1, p2, p3, q0, q1, q2, q3⟩ := ((unhide HX3).below hb35).facts; obtain ⟨c0, c1, c2, c3⟩ := HR5.facts; obtain ⟨r0, r1, r2, r3⟩ := HR5.thaw; clear HR5 hka5 hcap hb5 hgx hb35)
    have hfin := unhide HK5 (w5.setCell ⟨g3, 3, none⟩ (.slice (some ⟨g, 0, none⟩) (ks.length + 1) cap)) (only_set (unhide HQ5) (unhide HG3)) (fun o => World.cell?_of_block (Below.heap_setCell _ _ _ _ (by show g ≠ g3; have := unhide HGX; omega)))
    have hfl : Lies (w5.setCell ⟨g3, 3, none⟩ (.slice (some ⟨g, 0, none⟩) (ks.length + 1) cap)) (w.heap.size + 1) (.node op n s (ks ++ [.node 1 0 ⟨#[]⟩ []])) (tmCells op n s (some ⟨g, 0, none⟩) (ks.length + 1) cap) := by
      simp only [Lies]
      exact ⟨_, _, by simp, ⟨(unhide HWF).2.2, by simpa using (unhide HCAP).1, (unhide HCAP).2⟩, ⟨(unhide HWF).1, (unhide HWF).2.1⟩, hfin⟩
    exact bodyPost_ret (v := .agg #[.int .i64 op, .int .i64 n, .string s, .slice (some ⟨g, 0, none⟩) (ks.length + 1) cap]) (by simp [results, Tryd.results44, go_sem, p0, p1, p2, p3]) rfl ⟨_, rfl, held_fin hfl (by have := unhide HKZ; have h0 : (ByteArray.mk #[]).size = 0 := rfl; simp only [Tm.size, Tm.sizes_append, Tm.sizes, Tm.wt, Tm.wts_append, Tm.wts, List.length_append, List.length_cons, List.length_nil]; omega) ((unhide HC5).set (by omega)) (only_set (unhide HO5) (by omega)) hcl⟩
  have q3 : (x == 3) = false := by simpa using e3
  obtain ⟨c0, c1, c2, c3⟩ := (unhide HR3).facts
  obtain ⟨p0, p1, p2, p3, u0, u1, u2, u3⟩ := (unhide HX3).facts
  have HT := hide ((unhide HL).only (unhide HQ3) (by omega))
  have HTS : Hid (t.size + t.wt ≤ 61010) := by show _ ≤ _; have := unhide HZ; omega
  go_wp2_with fail
  exact bodyPost_ret (v := .agg #[.int .i64 op, .int .i64 n, .string s, .slice a len len]) (by simp [results, Tryd.results44, go_sem, p0, p1, p2, p3]) rfl ⟨_, rfl, held_fin (unhide HT) (unhide HTS) (unhide HC3) (unhide HO3) hcl⟩
end Go.Proofs.YtagondlfhdfcgaaDoor
