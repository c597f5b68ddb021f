/- The walks of spec.l3Ok and impl.newTerm: of whatever term lies in memory they answer it where it is right, else the zero term; the second in new blocks of its own; nothing that was there is written. The walks of spec.Hash and impl.Hash: of whatever term lies in memory they answer its hash where that is right, else the zero term; the second in new blocks of its own; nothing that was there is written. The walks of spec.l3Two, spec.Pair and impl.Pair: of whatever two terms lie in memory they answer the term of both where that is right, else the zero term; the last in new blocks of its own; nothing that was there is written. How a term reads, as plain functions; and the walk of spec.l1Digits. -/
import Derived.Test.YtmklgikbajhcpaaGreatDoorOk
import Derived.Test.YtmklgikbajhcpaaGreatDoorAv
import Derived.Test.YtmklgikbajhcpaaGreatDoorSu
import Derived.RegionTactic
import Derived.Deep.RegionHeld3
import Derived.Test.YtmklgikbajhcpaaGreatDoorTp
import Derived.Lib.ItoaLen
import Derived.Lib.AppendIntMem
namespace Go.Proofs.YtmklgikbajhcpaaGreatDoor
open Go.RowKit Go.Deep

mutual
theorem rightT_wt : ∀ (t : Tm), rightT t = true → t.wt + 1 ≤ 302 * t.size
  | .node op n s ks, h => by
    simp only [rightT, Bool.and_eq_true] at h
    have h1 := (ways h.1.1).2.2.1
    have h2 := rightL_wt ks h.2
    simp only [Tm.wt, Tm.size]
    omega
theorem rightL_wt : ∀ (ks : List Tm), rightL ks = true → Tm.wts ks + ks.length ≤ 302 * Tm.sizes ks
  | [], _ => by simp [Tm.wts, Tm.sizes]
  | t :: r, h => by
    simp only [rightL, Bool.and_eq_true] at h
    have h1 := rightT_wt t h.1
    have h2 := rightL_wt r h.2
    simp only [Tm.wts, Tm.sizes, List.length_cons]
    omega
end

set_option maxRecDepth 100000 in
theorem okT_small {m : Tm} (h : okT m = true) : m.size + m.wt ≤ 61000 := by
  simp only [okT, Bool.and_eq_true, decide_eq_true_eq] at h
  have := rightT_wt m h.2
  omega

set_option maxRecDepth 100000 in
set_option maxHeartbeats 1000000 in
theorem l3any (t : Tm) (op n : Int) (s : ByteArray) (a : Option Addr) (len cap : Nat) (w : World) (L : Nat) (hl : Lies w L t (tmCells op n s a len cap)) (hsz : t.size ≤ 2097152) :
    Calls Tryz.prog 117 #[.agg #[.int .i64 op, .int .i64 n, .string s, .slice a len cap]] w fun e w' => ∃ op' n' s' a' len' cap', e = .returned (.agg #[.int .i64 op', .int .i64 n', .string s', .slice a' len' cap']) ∧ Lies w' L (pickT (okT t) t) (tmCells op' n' s' a' len' cap') ∧ Below w.heap.size w w' ∧ (len = cap → len' = cap') := by
  have h8 := hide (ok8 t op n s a len cap)
  have HL0 := hide hl
  have HL := hide ((hl.any (Nat.zero_le L)).below (((Below.refl w.heap.size w).alloc (Nat.le_refl _) (.cells #[.int .i64 op, .int .i64 n, .string s, .slice a len cap] 29)).alloc (by simp) (.cells #[.int .i64 0, .int .i64 0, .string ByteArray.empty, .slice none 0 0] 29)))
  clear hl
  cases hok : okT t with
  | true =>
    rw [hok] at h8
    clear hok
    go_enter Tryz.func117, Tryz.ntmps117
    go_wp2_with fail
    refine (unhide h8 _ (unhide HL) hsz).mono ?_
    rintro e w2 ⟨rfl, hb2⟩
    have hk : Below w.heap.size w w2 := (((Below.refl w.heap.size w).alloc (Nat.le_refl _) _).alloc (by simp) _).trans (hb2.mono (by simp; omega))
    have HB := hide hk
    obtain ⟨c0, c1, c2, c3, d0, d1, d2, d3, e0, e1, e2, e3⟩ := two_boxes hb2
    clear hb2 hk
    go_wp2_with fail
    have hfin := set4_below (g := w.heap.size + 1) (x0 := .int .i64 op) (x1 := .int .i64 n) (x2 := .string s) (x3 := .slice a len cap) (unhide HB) (by omega)
    exact bodyPost_ret (v := .agg #[.int .i64 op, .int .i64 n, .string s, .slice a len cap]) (by simp [results, Tryz.results117, go_sem, d0, d1, d2, d3]) rfl ⟨_, _, _, _, _, _, rfl, (unhide HL0).below hfin, hfin, fun h => h⟩
  | false =>
    rw [hok] at h8
    clear hok
    go_enter Tryz.func117, Tryz.ntmps117
    go_wp2_with fail
    refine (unhide h8 _ (unhide HL) hsz).mono ?_
    rintro e w2 ⟨rfl, hb2⟩
    have hk : Below w.heap.size w w2 := (((Below.refl w.heap.size w).alloc (Nat.le_refl _) _).alloc (by simp) _).trans (hb2.mono (by simp; omega))
    have HB := hide hk
    obtain ⟨c0, c1, c2, c3, d0, d1, d2, d3, e0, e1, e2, e3⟩ := two_boxes hb2
    clear hb2 hk
    go_wp2_with fail
    exact bodyPost_ret (v := .agg #[.int .i64 0, .int .i64 0, .string ByteArray.empty, .slice none 0 0]) (by simp [results, Tryz.results117, go_sem, d0, d1, d2, d3]; rfl) rfl ⟨_, _, _, _, _, _, rfl, zero_lies _ _, set4_below (unhide HB) (by omega), fun _ => rfl⟩

set_option maxRecDepth 100000 in
set_option maxHeartbeats 1000000 in
/-- impl.checked of a right term: it, and no error. -/
theorem checked_yes (t : Tm) (op n : Int) (s : ByteArray) (a : Option Addr) (len cap : Nat) (w : World) (hl : Lies w 0 t (tmCells op n s a len cap)) (hsz : t.size ≤ 2097152) (hok : okT t = true) :
    Calls Tryz.prog 124 #[.agg #[.int .i64 op, .int .i64 n, .string s, .slice a len cap]] w fun e w' => e = .returned (.tuple #[.agg #[.int .i64 op, .int .i64 n, .string s, .slice a len cap], .nilIface]) ∧ Below w.heap.size w w' := by
  have h8 := hide (ok10 t op n s a len cap)
  have HL := hide (hl.below (((Below.refl w.heap.size w).alloc (Nat.le_refl _) (.cells #[.int .i64 op, .int .i64 n, .string s, .slice a len cap] 29)).alloc (by simp) (.cells #[.int .i64 0, .int .i64 0, .string ByteArray.empty, .slice none 0 0] 29)))
  clear hl
  rw [hok] at h8
  clear hok
  go_enter Tryz.func124, Tryz.ntmps124
  go_wp2_with fail
  refine (unhide h8 _ (unhide HL) hsz).mono ?_
  rintro e w2 ⟨rfl, hb2⟩
  have hk : Below w.heap.size w w2 := (((Below.refl w.heap.size w).alloc (Nat.le_refl _) _).alloc (by simp) _).trans (hb2.mono (by simp; omega))
  have HB := hide hk
  obtain ⟨c0, c1, c2, c3, d0, d1, d2, d3, e0, e1, e2, e3⟩ := two_boxes hb2
  clear hb2 hk
  go_wp2_with fail
  exact bodyPost_ret (v := .tuple #[.agg #[.int .i64 op, .int .i64 n, .string s, .slice a len cap], .nilIface]) (by simp [results, Tryz.results124, go_sem, d0, d1, d2, d3]) rfl ⟨rfl, set4_below (unhide HB) (by omega)⟩

set_option maxRecDepth 100000 in
set_option maxHeartbeats 1000000 in
/-- impl.checked of a term that is not right: the zero term, and the named error. -/
theorem checked_no (t : Tm) (op n : Int) (s : ByteArray) (a : Option Addr) (len cap : Nat) (x : Addr) (w : World) (hl : Lies w 0 t (tmCells op n s a len cap)) (hsz : t.size ≤ 2097152) (hok : okT t = false) (he : ErrAt x w) :
    Calls Tryz.prog 124 #[.agg #[.int .i64 op, .int .i64 n, .string s, .slice a len cap]] w fun e w' => e = .returned (.tuple #[.agg #[.int .i64 0, .int .i64 0, .string ByteArray.empty, .slice none 0 0], .iface 202 (.pointer (some x))]) ∧ Below w.heap.size w w' := by
  have h8 := hide (ok10 t op n s a len cap)
  have HL := hide (hl.below (((Below.refl w.heap.size w).alloc (Nat.le_refl _) (.cells #[.int .i64 op, .int .i64 n, .string s, .slice a len cap] 29)).alloc (by simp) (.cells #[.int .i64 0, .int .i64 0, .string ByteArray.empty, .slice none 0 0] 29)))
  have HE := hide he
  clear hl he
  rw [hok] at h8
  clear hok
  go_enter Tryz.func124, Tryz.ntmps124
  go_wp2_with fail
  refine (unhide h8 _ (unhide HL) hsz).mono ?_
  rintro e w2 ⟨rfl, hb2⟩
  have hk : Below w.heap.size w w2 := (((Below.refl w.heap.size w).alloc (Nat.le_refl _) _).alloc (by simp) _).trans (hb2.mono (by simp; omega))
  have HB := hide hk
  obtain ⟨c0, c1, c2, c3, d0, d1, d2, d3, e0, e1, e2, e3⟩ := two_boxes hb2
  have g0 := ((unhide HE).on hk).cell
  have hne : (w.heap.size + 1 = 0) = False := by simp
  have hne' : (0 = w.heap.size + 1) = False := by simp
  clear hb2 hk c0 c1 c2 c3
  go_wp2_with fail
  go_region
  all_goals go_wp2_with fail
  all_goals
    exact bodyPost_ret (v := .tuple #[.agg #[.int .i64 0, .int .i64 0, .string ByteArray.empty, .slice none 0 0], .iface 202 (.pointer (some x))]) (by simp [results, Tryz.results124, go_sem, d0, d1, d2, d3]; try rfl) rfl ⟨rfl, set4_below (unhide HB).drew (by omega)⟩

set_option maxRecDepth 100000 in
/-- A term in a block of its own, written anew. -/
theorem RowT.fill {ty : TypeId} {w : World} {g : Nat} {op0 n0 : Int} {s0 : ByteArray} {a0 : Option Addr} {l0 k0 : Nat} (h : RowT ty w g op0 n0 s0 a0 l0 k0) (op n : Int) (s : ByteArray) (a : Option Addr) (len cap : Nat) : RowT ty ((((w.setCell ⟨g, 0, none⟩ (.int .i64 op)).setCell ⟨g, 1, none⟩ (.int .i64 n)).setCell ⟨g, 2, none⟩ (.string s)).setCell ⟨g, 3, none⟩ (.slice a len cap)) g op n s a len cap := by
  unfold RowT at *
  have r : ∀ {w : World} {b o : Nat} {C : Array Value} {t : TypeId} {fr : Nat × Nat} (v : Value), w.heap[b]? = some (.cells C t fr) → (w.setCell ⟨b, o, none⟩ v).heap[b]? = some (.cells (C.setIfInBounds o v) t fr) := fun v h => by
    simp only [World.setCell, Array.getElem?_modify]
    simp [h]
  exact r (o := 3) (.slice a len cap) (r (o := 2) (.string s) (r (o := 1) (.int .i64 n) (r (o := 0) (.int .i64 op) h)))
set_option maxRecDepth 100000 in
theorem RowT.frozen {ty : TypeId} {w : World} {b : Nat} {op n : Int} {s : ByteArray} {a : Option Addr} {len cap : Nat} (h : RowT ty w b op n s a len cap) : w.frozen? ⟨b, 0, none⟩ = false ∧ w.frozen? ⟨b, 1, none⟩ = false ∧ w.frozen? ⟨b, 2, none⟩ = false ∧ w.frozen? ⟨b, 3, none⟩ = false := ⟨frozen_of_row h, frozen_of_row h, frozen_of_row h, frozen_of_row h⟩

set_option maxRecDepth 100000 in
set_option maxHeartbeats 1000000 in
theorem new_any (t : Tm) (op n : Int) (s : ByteArray) (a : Option Addr) (len cap : Nat) (w : World) (hl : Lies w 0 t (tmCells op n s a len cap)) (hsz : t.size ≤ 2097152) (herr : Err w) :
    Calls Tryz.prog 90 #[.agg #[.int .i64 op, .int .i64 n, .string s, .slice a len cap]] w fun e w' => ∃ op' n' s' a' len' cap' fp, e = .returned (.agg #[.int .i64 op', .int .i64 n', .string s', .slice a' len' cap']) ∧ Own w' (pickT (okT t) t) (tmCells op' n' s' a' len' cap') fp ∧ (fp.Nodup ∧ ∀ x ∈ fp, w.heap.size ≤ x) ∧ Below w.heap.size w w' := by
  obtain ⟨x, he⟩ := herr
  have hB0 : Below w.heap.size w ((w.alloc (.cells #[.int .i64 op, .int .i64 n, .string s, .slice a len cap] 29)).alloc (.cells #[.int .i64 0, .int .i64 0, .string ⟨#[]⟩, .slice none 0 0] 29)) := ((Below.refl w.heap.size w).alloc (Nat.le_refl _) _).alloc (by simp) _
  have HL := hide (hl.below hB0)
  have HB0 := hide hB0
  have HE := hide (he.on hB0)
  have HG : Hid (w.heap.size + 2 = ((w.alloc (.cells #[.int .i64 op, .int .i64 n, .string s, .slice a len cap] 29)).alloc (.cells #[.int .i64 0, .int .i64 0, .string ⟨#[]⟩, .slice none 0 0] 29)).heap.size) := by show _ = _; simp
  obtain ⟨c0, c1, c2, c3, d0, d1, d2, d3, e0, e1, e2, e3⟩ := two_boxes_at w op n s a len cap
  have HR : Hid (RowT 29 ((w.alloc (.cells #[.int .i64 op, .int .i64 n, .string s, .slice a len cap] 29)).alloc (.cells #[.int .i64 0, .int .i64 0, .string ⟨#[]⟩, .slice none 0 0] 29)) (w.heap.size + 1) 0 0 ⟨#[]⟩ none 0 0) := by
    have := RowT.new 29 (w.alloc (.cells #[.int .i64 op, .int .i64 n, .string s, .slice a len cap] 29)) 0 0 ⟨#[]⟩ none 0 0
    rwa [heap_size_alloc] at this
  clear hl he hB0 d0 d1 d2 d3 e0 e1 e2 e3
  cases hok : okT t with
  | true =>
    have h39 := hide fun v h => checked_yes t op n s a len cap v h hsz hok
    have h38 := hide fun v h he => answer_yes t op n s a len cap x v h (by have := okT_small hok; omega) he
    clear hok
    go_enter Tryz.func90, Tryz.ntmps90
    go_wp2_with fail
    generalize (w.alloc (.cells #[.int .i64 op, .int .i64 n, .string s, .slice a len cap] 29)).alloc (.cells #[.int .i64 0, .int .i64 0, .string ⟨#[]⟩, .slice none 0 0] 29) = v at *
    refine (unhide h39 _ (unhide HL)).mono ?_
    rintro e w2 ⟨rfl, hb2⟩
    have HB2 := hide ((unhide HB0).trans (hb2.mono (unhide HB0).size))
    have HL2 := hide ((unhide HL).below hb2)
    have HE2 := hide ((unhide HE).on hb2)
    have HG2 : Hid (w.heap.size + 2 ≤ w2.heap.size) := by have := hb2.size; have := unhide HG; show _ ≤ _; omega
    have HR2 := hide ((unhide HR).below hb2)
    clear hb2 HR HB0 HL HE HG c0 c1 c2 c3
    go_wp2_with fail
    refine (unhide h38 _ (unhide HL2) (unhide HE2)).mono ?_
    rintro e w3 ⟨a3, cap3, fp, rfl, hO3, ⟨hnd3, hge3⟩, hb3⟩
    have HB3 := hide ((unhide HB2).trans (hb3.mono (unhide HB2).size))
    have HG3 : Hid (w.heap.size + 2 ≤ w3.heap.size) := by have := hb3.size; have := unhide HG2; show _ ≤ _; omega
    have HR3 := hide ((unhide HR2).below hb3)
    obtain ⟨d0, d1, d2, d3⟩ := (unhide HR3).facts
    obtain ⟨e0, e1, e2, e3⟩ := (unhide HR3).frozen
    have hlt : w.heap.size + 1 < w3.heap.size := by have := unhide HG3; omega
    have hne := Nat.ne_of_lt hlt
    have hne' := Ne.symm hne
    have HO := hide hO3
    have HN := hide hnd3
    have HE3 := hide hge3
    clear hb3 HR2 hO3 hnd3 hge3 HB2 HL2 HE2
    go_wp2_with fail
    have HF := hide (((unhide HR3).fill op n s a3 len cap3).below ((Below.refl _ _).alloc (Nat.le_refl _) (.cells #[.int .i64 op, .int .i64 n, .string s, .slice a3 len cap3] 29)))
    obtain ⟨f0, f1, f2, f3⟩ := (unhide HF).facts
    have HK := hide (Own.keep _ _ _ (unhide HO) fun b hb => set4_heap w3 (w.heap.size + 1) (.int .i64 op) (.int .i64 n) (.string s) (.slice a3 len cap3) b (by have := unhide HE3 b hb; have := unhide HG2; omega))
    have hS := set4_below (g := w.heap.size + 1) (x0 := .int .i64 op) (x1 := .int .i64 n) (x2 := .string s) (x3 := .slice a3 len cap3) (unhide HB3) (by omega)
    exact bodyPost_ret (v := .agg #[.int .i64 op, .int .i64 n, .string s, .slice a3 len cap3]) (by simp [results, Tryz.results90, go_sem, f0, f1, f2, f3]) rfl ⟨op, n, s, a3, len, cap3, fp, rfl, (unhide HK).below ((Below.refl _ _).alloc (Nat.le_refl _) _), ⟨unhide HN, fun x hx => by have := unhide HE3 x hx; have := unhide HG2; omega⟩, hS.alloc hS.size _⟩
  | false =>
    have h39 := hide fun v h he => checked_no t op n s a len cap x v h hsz hok he
    have h38 := hide fun v he => answer_no 0 0 ByteArray.empty none 0 0 x v he
    clear hok
    go_enter Tryz.func90, Tryz.ntmps90
    go_wp2_with fail
    generalize (w.alloc (.cells #[.int .i64 op, .int .i64 n, .string s, .slice a len cap] 29)).alloc (.cells #[.int .i64 0, .int .i64 0, .string ⟨#[]⟩, .slice none 0 0] 29) = v at *
    refine (unhide h39 _ (unhide HL) (unhide HE)).mono ?_
    rintro e w2 ⟨rfl, hb2⟩
    have HB2 := hide ((unhide HB0).trans (hb2.mono (unhide HB0).size))
    have HE2 := hide ((unhide HE).on hb2)
    have HG2 : Hid (w.heap.size + 2 ≤ w2.heap.size) := by have := hb2.size; have := unhide HG; show _ ≤ _; omega
    have HR2 := hide ((unhide HR).below hb2)
    clear hb2 HR HB0 HL HE HG c0 c1 c2 c3
    go_wp2_with fail
    refine (unhide h38 _ (unhide HE2)).mono ?_
    rintro e w3 ⟨rfl, hb3⟩
    have HB3 := hide ((unhide HB2).trans (hb3.mono (unhide HB2).size))
    have HG3 : Hid (w.heap.size + 2 ≤ w3.heap.size) := by have := hb3.size; have := unhide HG2; show _ ≤ _; omega
    have HR3 := hide ((unhide HR2).below hb3)
    obtain ⟨d0, d1, d2, d3⟩ := (unhide HR3).facts
    obtain ⟨e0, e1, e2, e3⟩ := (unhide HR3).frozen
    have hlt : w.heap.size + 1 < w3.heap.size := by have := unhide HG3; omega
    have hne := Nat.ne_of_lt hlt
    have hne' := Ne.symm hne
    clear hb3 HR2 HB2 HE2
    go_wp2_with fail
    have HF := hide (((unhide HR3).fill 0 0 ByteArray.empty none 0 0).below ((Below.refl _ _).alloc (Nat.le_refl _) (.cells #[.int .i64 0, .int .i64 0, .string ByteArray.empty, .slice none 0 0] 29)))
    obtain ⟨f0, f1, f2, f3⟩ := (unhide HF).facts
    have hS := set4_below (g := w.heap.size + 1) (x0 := .int .i64 0) (x1 := .int .i64 0) (x2 := .string ByteArray.empty) (x3 := .slice none 0 0) (unhide HB3) (by omega)
    exact bodyPost_ret (v := .agg #[.int .i64 0, .int .i64 0, .string ByteArray.empty, .slice none 0 0]) (by simp [results, Tryz.results90, go_sem, f0, f1, f2, f3]; try rfl) rfl ⟨_, _, _, _, _, _, [], rfl, zero_own _, ⟨by simp, by simp⟩, hS.alloc hS.size _⟩

/-- What is made of a term under an operator. -/
def madeT (op : Int) (ks : List Tm) : Tm := pickT (okT (.node op 0 ByteArray.empty ks)) (.node op 0 ByteArray.empty ks)

set_option maxRecDepth 100000 in
/-- A term of one kid that was laid in a block of its own. -/
theorem lies_one {w : World} {t : Tm} {cs : List Value} {L : Nat} (h : Lies w L t cs) (hL : L ≤ w.heap.size) (op : Int) (hop : (Lit.int .i64 op).wf = true) : Lies (w.alloc (.cells cs.toArray 29)) L (.node op 0 ByteArray.empty [t]) (tmCells op 0 ByteArray.empty (some ⟨w.heap.size, 0, none⟩) 1 1) := by
  simp only [Lies, LiesAll]
  refine ⟨_, _, rfl, ⟨by simp [maxLen], by simp, by simp [maxLen]⟩, ⟨hop, by decide⟩, ⟨w.heap.size, 0, cs, rfl, hL, fun j v hj => ?_, h.below ((Below.refl _ _).alloc (Nat.le_refl _) _)⟩, trivial⟩
  have := box_at w cs j v hj
  simpa using this

/-- The box of a result, still as it was made. -/
def ZBox (w : World) (g : Nat) : Prop := w.heap[g]? = some (.cells #[.int .i64 0, .int .i64 0, .string ByteArray.empty, .slice none 0 0] 29 (0, 0))
set_option maxRecDepth 100000 in
theorem ZBox.new (w : World) : ZBox (w.alloc (.cells #[.int .i64 0, .int .i64 0, .string ByteArray.empty, .slice none 0 0] 29)) w.heap.size := heap_alloc_new w _
set_option maxRecDepth 100000 in
theorem ZBox.below {w w' : World} {g : Nat} (h : ZBox w g) (hb : Below w.heap.size w w') : ZBox w' g := (hb.block g (lt_of_heap h)).trans h
set_option maxRecDepth 100000 in
theorem ZBox.facts {w : World} {g : Nat} (h : ZBox w g) : w.cell? ⟨g, 0, none⟩ = some (.int .i64 0) ∧ w.cell? ⟨g, 1, none⟩ = some (.int .i64 0) ∧ w.cell? ⟨g, 2, none⟩ = some (.string ByteArray.empty) ∧ w.cell? ⟨g, 3, none⟩ = some (.slice none 0 0) ∧
    w.frozen? ⟨g, 0, none⟩ = false ∧ w.frozen? ⟨g, 1, none⟩ = false ∧ w.frozen? ⟨g, 2, none⟩ = false ∧ w.frozen? ⟨g, 3, none⟩ = false :=
  ⟨cell_of_row h (by simp), cell_of_row h (by simp), cell_of_row h (by simp), cell_of_row h (by simp), frozen_of_row h, frozen_of_row h, frozen_of_row h, frozen_of_row h⟩
set_option maxRecDepth 100000 in
theorem set4_lies {w : World} {L g : Nat} {x0 x1 x2 x3 : Value} {t : Tm} {cs : List Value} (h : Lies w L t cs) (hg : g < L) (L' : Nat) (hL : L' ≤ L) : Lies ((((w.setCell ⟨g, 0, none⟩ x0).setCell ⟨g, 1, none⟩ x1).setCell ⟨g, 2, none⟩ x2).setCell ⟨g, 3, none⟩ x3) L' t cs :=
  Lies.carry hL (fun b _ hb _ => World.cell?_of_block (set4_heap w g x0 x1 x2 x3 b (by omega))) t cs h
set_option maxRecDepth 100000 in
theorem ab {w : World} (x : Obj) : Below w.heap.size w (w.alloc x) := (Below.refl _ _).alloc (Nat.le_refl _) _
set_option maxRecDepth 100000 in
theorem bt {B : Nat} {w v v' : World} (h : Below B w v) (hb : Below v.heap.size v v') (hB : B ≤ w.heap.size) : Below B w v' := h.trans (hb.mono (Nat.le_trans hB h.size))

set_option maxRecDepth 100000 in
set_option maxHeartbeats 1000000 in
theorem hash15 (t : Tm) (op n : Int) (s : ByteArray) (a : Option Addr) (len cap : Nat) (w : World) (hl : Lies w 0 t (tmCells op n s a len cap)) (hsz : t.size ≤ 2097151) :
    Calls Tryz.prog 96 #[.agg #[.int .i64 op, .int .i64 n, .string s, .slice a len cap]] w fun e w' => ∃ op' n' s' a' len' cap', e = .returned (.agg #[.int .i64 op', .int .i64 n', .string s', .slice a' len' cap']) ∧ Lies w' w.heap.size (madeT 6 [t]) (tmCells op' n' s' a' len' cap') ∧ Below w.heap.size w w' ∧ len' = cap' := by
  have h25 := hide (cz_calls t op n s a len cap)
  have h17 := hide (l3any (.node 6 0 ByteArray.empty [t]))
  have HZ : Hid ((Tm.node 6 0 ByteArray.empty [t]).size ≤ 2097152) := by show _ ≤ _; simp only [Tm.size, Tm.sizes]; omega
  have hB0 : Below w.heap.size w ((w.alloc (.cells #[.int .i64 op, .int .i64 n, .string s, .slice a len cap] 29)).alloc (.cells #[.int .i64 0, .int .i64 0, .string ByteArray.empty, .slice none 0 0] 29)) := bt (ab _) (ab _) (Nat.le_refl _)
  have HL := hide (hl.below hB0)
  have HB0 := hide hB0
  have HX : Hid (ZBox ((w.alloc (.cells #[.int .i64 op, .int .i64 n, .string s, .slice a len cap] 29)).alloc (.cells #[.int .i64 0, .int .i64 0, .string ByteArray.empty, .slice none 0 0] 29)) (w.heap.size + 1)) := by
    have := ZBox.new (w.alloc (.cells #[.int .i64 op, .int .i64 n, .string s, .slice a len cap] 29))
    rwa [heap_size_alloc] at this
  clear hl hB0
  go_enter Tryz.func96, Tryz.ntmps96
  go_wp2_with fail
  refine (unhide h25 _ (unhide HL) (by omega)).mono ?_
  rintro e w2 ⟨a2, cap2, f2, rfl, hO2, ⟨_, hge2⟩, hb2⟩
  have hB3 := bt (bt (unhide HB0) hb2 (Nat.le_refl _)) (ab (.cells #[.int .i64 op, .int .i64 n, .string s, .slice a2 len cap2] 29)) (Nat.le_refl _)
  have HB3 := hide hB3
  have HX3 := hide (((unhide HX).below hb2).below (ab (.cells #[.int .i64 op, .int .i64 n, .string s, .slice a2 len cap2] 29)))
  have HT3 := hide (lies_one (Own.lies _ _ _ hO2 hge2) hb2.size 6 (by decide))
  simp only [heap_size_alloc] at HT3
  clear hO2 hb2 hB3 HB0 HX HL hge2
  go_wp2_with fail
  refine (unhide h17 _ _ _ _ _ _ _ _ (unhide HT3) (unhide HZ)).mono ?_
  rintro e w4 ⟨op', n', s', a', len', cap', rfl, hL4, hb4, htt⟩
  have HTT := hide (htt rfl)
  have HB4 := hide (bt (unhide HB3) hb4 (Nat.le_refl _))
  have hX4 := (unhide HX3).below hb4
  have HL4 := hide hL4
  obtain ⟨d0, d1, d2, d3, e0, e1, e2, e3⟩ := hX4.facts
  clear hb4 hL4 hX4 HB3 HX3 HT3 htt
  go_wp2_with fail
  exact bodyPost_ret (v := .agg #[.int .i64 op', .int .i64 n', .string s', .slice a' len' cap']) (by simp [results, Tryz.results96, go_sem, d0, d1, d2, d3]) rfl ⟨op', n', s', a', len', cap', rfl, set4_lies (unhide HL4) (by omega) _ (by omega), set4_below (unhide HB4) (by omega), unhide HTT⟩

set_option maxRecDepth 100000 in
set_option maxHeartbeats 1000000 in
theorem hash16 (t : Tm) (op n : Int) (s : ByteArray) (a : Option Addr) (len cap : Nat) (w : World) (hl : Lies w 0 t (tmCells op n s a len cap)) (hsz : t.size ≤ 2097151) (herr : Err w) :
    Calls Tryz.prog 95 #[.agg #[.int .i64 op, .int .i64 n, .string s, .slice a len cap]] w fun e w' => ∃ op' n' s' a' len' cap' fp, e = .returned (.agg #[.int .i64 op', .int .i64 n', .string s', .slice a' len' cap']) ∧ Own w' (madeT 6 [t]) (tmCells op' n' s' a' len' cap') fp ∧ (fp.Nodup ∧ ∀ x ∈ fp, w.heap.size ≤ x) ∧ Below w.heap.size w w' := by
  have HER := hide herr
  clear herr
  have h18 := hide (new_any (.node 6 0 ByteArray.empty [t]))
  have HZ : Hid ((Tm.node 6 0 ByteArray.empty [t]).size ≤ 2097152) := by show _ ≤ _; simp only [Tm.size, Tm.sizes]; omega
  have hB0 : Below w.heap.size w ((w.alloc (.cells #[.int .i64 op, .int .i64 n, .string s, .slice a len cap] 29)).alloc (.cells #[.int .i64 0, .int .i64 0, .string ByteArray.empty, .slice none 0 0] 29)) := bt (ab _) (ab _) (Nat.le_refl _)
  have hX : ZBox ((w.alloc (.cells #[.int .i64 op, .int .i64 n, .string s, .slice a len cap] 29)).alloc (.cells #[.int .i64 0, .int .i64 0, .string ByteArray.empty, .slice none 0 0] 29)) (w.heap.size + 1) := by
    have := ZBox.new (w.alloc (.cells #[.int .i64 op, .int .i64 n, .string s, .slice a len cap] 29))
    rwa [heap_size_alloc] at this
  have HB3 := hide (bt hB0 (ab (.cells #[.int .i64 op, .int .i64 n, .string s, .slice a len cap] 29)) (Nat.le_refl _))
  have HX3 := hide (hX.below (ab (.cells #[.int .i64 op, .int .i64 n, .string s, .slice a len cap] 29)))
  have HT3 := hide (lies_one (hl.below hB0) (Nat.zero_le _) 6 (by decide))
  simp only [heap_size_alloc] at HT3
  clear hl hB0 hX
  go_enter Tryz.func95, Tryz.ntmps95
  go_wp2_with fail
  refine (unhide h18 _ _ _ _ _ _ _ (unhide HT3) (unhide HZ) ((unhide HER).on (unhide HB3))).mono ?_
  rintro e w4 ⟨op', n', s', a', len', cap', fp, rfl, hO4, ⟨hnd, hge⟩, hb4⟩
  have HB4 := hide (bt (unhide HB3) hb4 (Nat.le_refl _))
  have hX4 := (unhide HX3).below hb4
  have HO4 := hide hO4
  have HND := hide hnd
  simp only [heap_size_alloc] at hge
  have HGE := hide hge
  obtain ⟨d0, d1, d2, d3, e0, e1, e2, e3⟩ := hX4.facts
  clear hb4 hO4 hX4 HB3 HX3 HT3 hnd hge
  go_wp2_with fail
  exact bodyPost_ret (v := .agg #[.int .i64 op', .int .i64 n', .string s', .slice a' len' cap']) (by simp [results, Tryz.results95, go_sem, d0, d1, d2, d3]) rfl ⟨op', n', s', a', len', cap', fp, rfl, Own.keep _ _ _ (unhide HO4) (fun b hb => set4_heap _ _ _ _ _ _ b (by have := unhide HGE b hb; omega)), ⟨unhide HND, fun x hx => by have := unhide HGE x hx; omega⟩, set4_below (unhide HB4) (by omega)⟩

set_option maxRecDepth 100000 in
/-- A term of two kids that were laid in a block of their own. -/
theorem lies_two {w : World} {t u : Tm} {op1 n1 op2 n2 : Int} {s1 s2 : ByteArray} {a1 a2 : Option Addr} {l1 c1 l2 c2 : Nat} {L : Nat} (h1 : Lies w L t (tmCells op1 n1 s1 a1 l1 c1)) (h2 : Lies w L u (tmCells op2 n2 s2 a2 l2 c2)) (hL : L ≤ w.heap.size) (op : Int) (hop : (Lit.int .i64 op).wf = true) :
    Lies (w.alloc (.cells #[.int .i64 op1, .int .i64 n1, .string s1, .slice a1 l1 c1, .int .i64 op2, .int .i64 n2, .string s2, .slice a2 l2 c2] 29)) L (.node op 0 ByteArray.empty [t, u]) (tmCells op 0 ByteArray.empty (some ⟨w.heap.size, 0, none⟩) 2 2) := by
  simp only [Lies, LiesAll]
  refine ⟨_, _, rfl, ⟨by simp [maxLen], by simp, by simp [maxLen]⟩, ⟨hop, by decide⟩, ⟨w.heap.size, 0, _, rfl, hL, fun j v hj => ?_, h1.below (ab _)⟩, ⟨w.heap.size, 0, _, rfl, hL, fun j v hj => ?_, h2.below (ab _)⟩, trivial⟩
  · rw [Nat.zero_mul, Nat.zero_add]
    refine box_cell w _ 29 j v ?_
    match j, hj with
    | 0, hj => simpa [tmCells] using hj
    | 1, hj => simpa [tmCells] using hj
    | 2, hj => simpa [tmCells] using hj
    | 3, hj => simpa [tmCells] using hj
    | j + 4, hj => simp [tmCells] at hj
  · rw [show 0 + (0 + 1) * 4 + j = 4 + j by omega]
    refine box_cell w _ 29 (4 + j) v ?_
    match j, hj with
    | 0, hj => simpa [tmCells] using hj
    | 1, hj => simpa [tmCells] using hj
    | 2, hj => simpa [tmCells] using hj
    | 3, hj => simpa [tmCells] using hj
    | j + 4, hj => simp [tmCells] at hj

set_option maxRecDepth 100000 in
theorem gw_world {P : Program} {c : Code} {Q : Exit → Act → World → Prop} {a : Act} {v w : World} (h : v = w) (hk : Code.wp P c Q a w) : Code.wp P c Q a v := h ▸ hk

set_option maxRecDepth 100000 in
set_option maxHeartbeats 1000000 in
theorem two23 (o : Int) (ho : (Lit.int .i64 o).wf = true) (t u : Tm) (op n : Int) (s : ByteArray) (a : Option Addr) (len cap : Nat) (op2 n2 : Int) (s2 : ByteArray) (a2 : Option Addr) (len2 cap2 : Nat) (w : World) (hl : Lies w 0 t (tmCells op n s a len cap)) (hl2 : Lies w 0 u (tmCells op2 n2 s2 a2 len2 cap2)) (hsz : t.size + u.size ≤ 2097151) :
    Calls Tryz.prog 126 #[.int .i64 o, .agg #[.int .i64 op, .int .i64 n, .string s, .slice a len cap], .agg #[.int .i64 op2, .int .i64 n2, .string s2, .slice a2 len2 cap2]] w fun e w' => ∃ op' n' s' a' len' cap', e = .returned (.agg #[.int .i64 op', .int .i64 n', .string s', .slice a' len' cap']) ∧ Lies w' w.heap.size (madeT o [t, u]) (tmCells op' n' s' a' len' cap') ∧ Below w.heap.size w w' ∧ len' = cap' := by
  have h25 := hide (cz_calls t op n s a len cap)
  have h25' := hide (cz_calls u op2 n2 s2 a2 len2 cap2)
  have h17 := hide (l3any (.node o 0 ByteArray.empty [t, u]))
  have HZ : Hid ((Tm.node o 0 ByteArray.empty [t, u]).size ≤ 2097152) := by show _ ≤ _; simp only [Tm.size, Tm.sizes]; omega
  have HO := hide ho
  have HLA := hide hl
  have HLB := hide hl2
  have hz1 : t.size ≤ 2097152 := by omega
  have hz2 : u.size ≤ 2097152 := by omega
  have hB0 : Below w.heap.size w (((w.alloc (.cells #[.int .i64 op, .int .i64 n, .string s, .slice a len cap] 29)).alloc (.cells #[.int .i64 op2, .int .i64 n2, .string s2, .slice a2 len2 cap2] 29)).alloc (.cells #[.int .i64 0, .int .i64 0, .string ByteArray.empty, .slice none 0 0] 29)) := bt (bt (ab _) (ab _) (Nat.le_refl _)) (ab _) (Nat.le_refl _)
  have HX : Hid (ZBox (((w.alloc (.cells #[.int .i64 op, .int .i64 n, .string s, .slice a len cap] 29)).alloc (.cells #[.int .i64 op2, .int .i64 n2, .string s2, .slice a2 len2 cap2] 29)).alloc (.cells #[.int .i64 0, .int .i64 0, .string ByteArray.empty, .slice none 0 0] 29)) (w.heap.size + 1 + 1)) := by
    have := ZBox.new ((w.alloc (.cells #[.int .i64 op, .int .i64 n, .string s, .slice a len cap] 29)).alloc (.cells #[.int .i64 op2, .int .i64 n2, .string s2, .slice a2 len2 cap2] 29))
    rwa [heap_size_alloc, heap_size_alloc] at this
  have HRA : Hid (RowT 29 (((w.alloc (.cells #[.int .i64 op, .int .i64 n, .string s, .slice a len cap] 29)).alloc (.cells #[.int .i64 op2, .int .i64 n2, .string s2, .slice a2 len2 cap2] 29)).alloc (.cells #[.int .i64 0, .int .i64 0, .string ByteArray.empty, .slice none 0 0] 29)) w.heap.size op n s a len cap) := ((RowT.new 29 w op n s a len cap).below (ab _)).below (ab _)
  have HRB : Hid (RowT 29 (((w.alloc (.cells #[.int .i64 op, .int .i64 n, .string s, .slice a len cap] 29)).alloc (.cells #[.int .i64 op2, .int .i64 n2, .string s2, .slice a2 len2 cap2] 29)).alloc (.cells #[.int .i64 0, .int .i64 0, .string ByteArray.empty, .slice none 0 0] 29)) (w.heap.size + 1) op2 n2 s2 a2 len2 cap2) := by
    have := (RowT.new 29 (w.alloc (.cells #[.int .i64 op, .int .i64 n, .string s, .slice a len cap] 29)) op2 n2 s2 a2 len2 cap2).below (ab (.cells #[.int .i64 0, .int .i64 0, .string ByteArray.empty, .slice none 0 0] 29))
    rwa [heap_size_alloc] at this
  have HLA := hide (hl.below hB0)
  have HLB := hide (hl2.below hB0)
  have HB0 := hide hB0
  have HS0 : Hid ((((w.alloc (.cells #[.int .i64 op, .int .i64 n, .string s, .slice a len cap] 29)).alloc (.cells #[.int .i64 op2, .int .i64 n2, .string s2, .slice a2 len2 cap2] 29)).alloc (.cells #[.int .i64 0, .int .i64 0, .string ByteArray.empty, .slice none 0 0] 29)).heap.size = w.heap.size + 3) := by show _ = _; simp
  clear hl hl2 ho hsz hB0
  go_enter Tryz.func126, Tryz.ntmps126
  go_wp2_with fail
  generalize hgw : (((w.alloc (.cells #[.int .i64 op, .int .i64 n, .string s, .slice a len cap] 29)).alloc (.cells #[.int .i64 op2, .int .i64 n2, .string s2, .slice a2 len2 cap2] 29)).alloc (.cells #[.int .i64 0, .int .i64 0, .string ByteArray.empty, .slice none 0 0] 29)) = W0 at *
  refine gw_world hgw ?_
  clear hgw
  obtain ⟨c0, c1, c2, c3⟩ := (unhide HRA).facts
  obtain ⟨d0, d1, d2, d3⟩ := (unhide HRB).facts
  have hne1 : (w.heap.size = w.heap.size + 1 + 1) = False := by simp; omega
  have hne2 : (w.heap.size + 1 + 1 = w.heap.size) = False := by simp; omega
  have hsA : w.heap.size + 1 + 1 < W0.heap.size := by have := unhide HS0; omega
  go_region_held3 (fun x => x.cell? ⟨w.heap.size, 0, none⟩ = some (.int .i64 op) ∧ x.cell? ⟨w.heap.size, 1, none⟩ = some (.int .i64 n) ∧ x.cell? ⟨w.heap.size, 2, none⟩ = some (.string s) ∧ x.cell? ⟨w.heap.size, 3, none⟩ = some (.slice a len cap) ∧
      x.cell? ⟨w.heap.size + 1, 0, none⟩ = some (.int .i64 op2) ∧ x.cell? ⟨w.heap.size + 1, 1, none⟩ = some (.int .i64 n2) ∧ x.cell? ⟨w.heap.size + 1, 2, none⟩ = some (.string s2) ∧ x.cell? ⟨w.heap.size + 1, 3, none⟩ = some (.slice a2 len2 cap2)) (go_keep)
    (first
      | (go_at_call_of 83 op
         refine (unhide h25 _ ((unhide HLA).below ((Below.refl _ _).drew)) hz1).mono ?_
         rintro e w2 ⟨aA, capA, fA, rfl, hOA, ⟨_, hgeA⟩, hb2⟩
         have hb2' := hide (below_drew' hb2)
         have HA2 := hide (Own.lies (L := W0.heap.size) _ _ _ hOA hgeA)
         have f0 := kpc (unhide hb2') c0
         have f1 := kpc (unhide hb2') c1
         have f2 := kpc (unhide hb2') c2
         have f3 := kpc (unhide hb2') c3
         have f4 := kpc (unhide hb2') d0
         have f5 := kpc (unhide hb2') d1
         have f6 := kpc (unhide hb2') d2
         have f7 := kpc (unhide hb2') d3)
      | (go_at_call_of 83 op2
         refine (unhide h25' _ ((unhide HLB).below (unhide hb2')) hz2).mono ?_
         rintro e w3 ⟨aB, capB, fB, rfl, hOB, ⟨_, hgeB⟩, hb3⟩
         have hb3' := hide hb3
         have HA3 := hide ((unhide HA2).below hb3)
         have HB3 := hide (Own.lies (L := W0.heap.size) _ _ _ hOB (fun x hx => Nat.le_trans (unhide hb2').size (hgeB x hx)))
         have g0 := kpc hb3 f0
         have g1 := kpc hb3 f1
         have g2 := kpc hb3 f2
         have g3 := kpc hb3 f3
         have g4 := kpc hb3 f4
         have g5 := kpc hb3 f5
         have g6 := kpc hb3 f6
         have g7 := kpc hb3 f7
         have hs3 := lt_of_cell g0
         have hs4 := lt_of_cell g4)
      | (go_at_call 117
         refine (unhide h17 _ _ _ _ _ _ _ _ (lies_two (unhide HA3) (unhide HB3) (Nat.le_trans (unhide hb2').size (unhide hb3').size) o (unhide HO)) (unhide HZ)).mono ?_
         rintro e w4 ⟨op', n', s', a', len', cap', rfl, hL4, hb4, htt⟩
         have HTT := hide (htt rfl)
         clear htt
         have hb34 := bt (ab _) hb4 (Nat.le_refl _)
         have hb4' := hide hb34
         have HL4 := hide hL4
         obtain ⟨p0, p1, p2, p3, q0, q1, q2, q3⟩ := ((((unhide HX).below (unhide hb2')).below (unhide hb3')).below hb34).facts
         have j0 := kpc hb34 g0
         have j1 := kpc hb34 g1
         have j2 := kpc hb34 g2
         have j3 := kpc hb34 g3
         have j4 := kpc hb34 g4
         have j5 := kpc hb34 g5
         have j6 := kpc hb34 g6
         have j7 := kpc hb34 g7))
  have HB4 := hide (bt (bt (bt (unhide HB0) (unhide hb2') (Nat.le_refl _)) (unhide hb3') (Nat.le_refl _)) (unhide hb4') (Nat.le_refl _))
  clear f0 f1 f2 f3 f4 f5 f6 f7 c0 c1 c2 c3 d0 d1 d2 d3 g0 g1 g2 g3 g4 g5 g6 g7 j0 j1 j2 j3 j4 j5 j6 j7 hb2' hb3' hb4'
  go_wp2_with fail
  exact bodyPost_ret (v := .agg #[.int .i64 op', .int .i64 n', .string s', .slice a' len' cap']) (by simp [results, Tryz.results126, go_sem, p0, p1, p2, p3]) rfl ⟨op', n', s', a', len', cap', rfl, set4_lies (unhide HL4) hsA _ (by omega), set4_below (unhide HB4) (by omega), unhide HTT⟩

set_option maxRecDepth 100000 in
set_option maxHeartbeats 1000000 in
theorem pair12 (t u : Tm) (op n : Int) (s : ByteArray) (a : Option Addr) (len cap : Nat) (op2 n2 : Int) (s2 : ByteArray) (a2 : Option Addr) (len2 cap2 : Nat) (w : World) (hl : Lies w 0 t (tmCells op n s a len cap)) (hl2 : Lies w 0 u (tmCells op2 n2 s2 a2 len2 cap2)) (hsz : t.size + u.size ≤ 2097151) :
    Calls Tryz.prog 74 #[.agg #[.int .i64 op, .int .i64 n, .string s, .slice a len cap], .agg #[.int .i64 op2, .int .i64 n2, .string s2, .slice a2 len2 cap2]] w fun e w' => ∃ op' n' s' a' len' cap', e = .returned (.agg #[.int .i64 op', .int .i64 n', .string s', .slice a' len' cap']) ∧ Lies w' w.heap.size (madeT 3 [t, u]) (tmCells op' n' s' a' len' cap') ∧ Below w.heap.size w w' ∧ len' = cap' := by
  have h23 := hide (two23 3 (by decide) t u op n s a len cap op2 n2 s2 a2 len2 cap2)
  have hB0 : Below w.heap.size w (((w.alloc (.cells #[.int .i64 op, .int .i64 n, .string s, .slice a len cap] 29)).alloc (.cells #[.int .i64 op2, .int .i64 n2, .string s2, .slice a2 len2 cap2] 29)).alloc (.cells #[.int .i64 0, .int .i64 0, .string ByteArray.empty, .slice none 0 0] 29)) := bt (bt (ab _) (ab _) (Nat.le_refl _)) (ab _) (Nat.le_refl _)
  have HX : Hid (ZBox (((w.alloc (.cells #[.int .i64 op, .int .i64 n, .string s, .slice a len cap] 29)).alloc (.cells #[.int .i64 op2, .int .i64 n2, .string s2, .slice a2 len2 cap2] 29)).alloc (.cells #[.int .i64 0, .int .i64 0, .string ByteArray.empty, .slice none 0 0] 29)) (w.heap.size + 1 + 1)) := by
    have := ZBox.new ((w.alloc (.cells #[.int .i64 op, .int .i64 n, .string s, .slice a len cap] 29)).alloc (.cells #[.int .i64 op2, .int .i64 n2, .string s2, .slice a2 len2 cap2] 29))
    rwa [heap_size_alloc, heap_size_alloc] at this
  have HLA := hide (hl.below hB0)
  have HLB := hide (hl2.below hB0)
  have HB0 := hide hB0
  clear hl hl2 hB0
  go_enter Tryz.func74, Tryz.ntmps74
  go_wp2_with fail
  refine (unhide h23 _ (unhide HLA) (unhide HLB) hsz).mono ?_
  rintro e w4 ⟨op', n', s', a', len', cap', rfl, hL4, hb4, htt⟩
  have HTT := hide htt
  have HB4 := hide (bt (unhide HB0) hb4 (Nat.le_refl _))
  have hX4 := (unhide HX).below hb4
  simp only [heap_size_alloc] at hL4
  have HL4 := hide hL4
  obtain ⟨d0, d1, d2, d3, e0, e1, e2, e3⟩ := hX4.facts
  clear hb4 hL4 hX4 HX HB0 HLA HLB htt
  go_wp2_with fail
  exact bodyPost_ret (v := .agg #[.int .i64 op', .int .i64 n', .string s', .slice a' len' cap']) (by simp [results, Tryz.results74, go_sem, d0, d1, d2, d3]) rfl ⟨op', n', s', a', len', cap', rfl, set4_lies (unhide HL4) (by omega) _ (by omega), set4_below (unhide HB4) (by omega), unhide HTT⟩

set_option maxRecDepth 100000 in
set_option maxHeartbeats 1000000 in
theorem pair14 (t u : Tm) (op n : Int) (s : ByteArray) (a : Option Addr) (len cap : Nat) (op2 n2 : Int) (s2 : ByteArray) (a2 : Option Addr) (len2 cap2 : Nat) (w : World) (hl : Lies w 0 t (tmCells op n s a len cap)) (hl2 : Lies w 0 u (tmCells op2 n2 s2 a2 len2 cap2)) (hsz : t.size + u.size ≤ 2097151) (herr : Err w) :
    Calls Tryz.prog 132 #[.agg #[.int .i64 op, .int .i64 n, .string s, .slice a len cap], .agg #[.int .i64 op2, .int .i64 n2, .string s2, .slice a2 len2 cap2]] w fun e w' => ∃ op' n' s' a' len' cap' fp, e = .returned (.agg #[.int .i64 op', .int .i64 n', .string s', .slice a' len' cap']) ∧ Own w' (madeT 3 [t, u]) (tmCells op' n' s' a' len' cap') fp ∧ (fp.Nodup ∧ ∀ x ∈ fp, w.heap.size ≤ x) ∧ Below w.heap.size w w' := by
  have HER := hide herr
  clear herr
  have h18 := hide (new_any (.node 3 0 ByteArray.empty [t, u]))
  have HZ : Hid ((Tm.node 3 0 ByteArray.empty [t, u]).size ≤ 2097152) := by show _ ≤ _; simp only [Tm.size, Tm.sizes]; omega
  have hB0 : Below w.heap.size w (((w.alloc (.cells #[.int .i64 op, .int .i64 n, .string s, .slice a len cap] 29)).alloc (.cells #[.int .i64 op2, .int .i64 n2, .string s2, .slice a2 len2 cap2] 29)).alloc (.cells #[.int .i64 0, .int .i64 0, .string ByteArray.empty, .slice none 0 0] 29)) := bt (bt (ab _) (ab _) (Nat.le_refl _)) (ab _) (Nat.le_refl _)
  have hX : ZBox (((w.alloc (.cells #[.int .i64 op, .int .i64 n, .string s, .slice a len cap] 29)).alloc (.cells #[.int .i64 op2, .int .i64 n2, .string s2, .slice a2 len2 cap2] 29)).alloc (.cells #[.int .i64 0, .int .i64 0, .string ByteArray.empty, .slice none 0 0] 29)) (w.heap.size + 1 + 1) := by
    have := ZBox.new ((w.alloc (.cells #[.int .i64 op, .int .i64 n, .string s, .slice a len cap] 29)).alloc (.cells #[.int .i64 op2, .int .i64 n2, .string s2, .slice a2 len2 cap2] 29))
    rwa [heap_size_alloc, heap_size_alloc] at this
  have HB3 := hide (bt hB0 (ab (.cells #[.int .i64 op, .int .i64 n, .string s, .slice a len cap, .int .i64 op2, .int .i64 n2, .string s2, .slice a2 len2 cap2] 29)) (Nat.le_refl _))
  have HX3 := hide (hX.below (ab (.cells #[.int .i64 op, .int .i64 n, .string s, .slice a len cap, .int .i64 op2, .int .i64 n2, .string s2, .slice a2 len2 cap2] 29)))
  have HT3 := hide (lies_two (hl.below hB0) (hl2.below hB0) (Nat.zero_le _) 3 (by decide))
  simp only [heap_size_alloc] at HT3
  clear hl hl2 hB0 hX hsz
  go_enter Tryz.func132, Tryz.ntmps132
  go_wp2_with fail
  refine (unhide h18 _ _ _ _ _ _ _ (unhide HT3) (unhide HZ) ((unhide HER).on (unhide HB3))).mono ?_
  rintro e w4 ⟨op', n', s', a', len', cap', fp, rfl, hO4, ⟨hnd, hge⟩, hb4⟩
  have HB4 := hide (bt (unhide HB3) hb4 (Nat.le_refl _))
  have hX4 := (unhide HX3).below hb4
  have HO4 := hide hO4
  have HND := hide hnd
  simp only [heap_size_alloc] at hge
  have HGE := hide hge
  obtain ⟨d0, d1, d2, d3, e0, e1, e2, e3⟩ := hX4.facts
  clear hb4 hO4 hX4 HB3 HX3 HT3 hnd hge
  go_wp2_with fail
  exact bodyPost_ret (v := .agg #[.int .i64 op', .int .i64 n', .string s', .slice a' len' cap']) (by simp [results, Tryz.results132, go_sem, d0, d1, d2, d3]) rfl ⟨op', n', s', a', len', cap', fp, rfl, Own.keep _ _ _ (unhide HO4) (fun b hb => set4_heap _ _ _ _ _ _ b (by have := unhide HGE b hb; omega)), ⟨unhide HND, fun x hx => by have := unhide HGE x hx; omega⟩, set4_below (unhide HB4) (by omega)⟩

theorem conv1 (x : Int) (v : World) : (convert 33 9 (.slice (some ⟨v.heap.size, 0, none⟩) 1 1)).run Tryz.prog (v.alloc (.cells #[.int .u8 x] 5)) = .ok (.string ⟨[UInt8.ofNat x.toNat].toArray⟩) (v.alloc (.cells #[.int .u8 x] 5)) :=
  run_convert_bytes_arg _ 33 5 Tryz.underlying33 Tryz.underlying5 v.heap.size 0 1 1 [x] rfl (fun i hi => by
    obtain rfl : i = 0 := by omega
    exact box_cell v _ 5 0 _ rfl) 9 Tryz.underlying9

theorem cat_list (a b : List UInt8) : (⟨a.toArray⟩ ++ ⟨b.toArray⟩ : ByteArray) = ⟨(a ++ b).toArray⟩ := by
  apply Go.WideShapes.bytes_inj
  simp

/-- The digits ahead of those that are there. -/
def upper (m : Nat) : List UInt8 := if m = 0 then [] else Lib.decDigits m
theorem upper_step {m : Nat} (h : m ≠ 0) : upper m = upper (m / 10) ++ [48 + UInt8.ofNat (m % 10)] := by
  have e : (48 : UInt8) + UInt8.ofNat (m % 10) = UInt8.ofNat (48 + m % 10) := by rw [UInt8.ofNat_add]; rfl
  rw [e]
  unfold upper
  rw [if_neg h]
  by_cases hs : m < 10
  · rw [if_pos (by omega), Lib.decDigits_one hs, show m % 10 = m by omega]
    rfl
  · rw [if_neg (by omega), Lib.decDigits, dif_neg hs]

theorem ret_str {a b : ByteArray} (h : a = b) : Ending.returned (.string a) = .returned (.string b) := by rw [h]

theorem upper_pos {m : Nat} (h : m ≠ 0) : upper m = Lib.decDigits m := by unfold upper; rw [if_neg h]

set_option maxRecDepth 100000 in
set_option maxHeartbeats 1000000 in
theorem digits_pos (u : Nat) (w : World) (h0 : u ≠ 0) (h1 : (u : Int) ≤ 9223372036854775807) :
    Calls Tryz.prog 136 #[.int .i64 (u : Int)] w fun e w' => e = .returned (.string ⟨(Lib.decDigits u).toArray⟩) ∧ Below w.heap.size w w' := by
  have hcv := conv1
  have q0 : ((u : Int) == 0) = false := by simp; omega
  have q1 : decide ((u : Int) < 0) = false := by simp
  have HLN : Hid ((Lib.decDigits u).length ≤ 21) := by
    have := Lib.itoa_length_le (u : Int) (by omega) h1
    rwa [Lib.itoa_nonneg] at this
  have HU := Lib.decDigits u
  generalize hD : Lib.decDigits u = D at *
  have HD : Hid (upper u = D) := by show _ = _; rw [upper_pos h0, hD]
  clear hD HU
  go_enter Tryz.func136, Tryz.ntmps136
  go_wp2_with fail
  go_loopw [0, 4] (fun x o wr => ∃ (m : Nat) (l : List UInt8), x = .int .i64 m ∧ m ≤ u ∧ o = .string ⟨l.toArray⟩ ∧ upper m ++ l = D ∧ Below w.heap.size w wr) (fun x _ _ => (intOf x).toNat)
  case atStart => exact ⟨u, [], rfl, Nat.le_refl _, rfl, by rw [List.append_nil]; exact HD.out, Below.refl _ _⟩
  case round =>
    obtain ⟨m, l, rfl, hm, rfl, hl, hb⟩ := hrel
    have hll : l.length ≤ 21 := by have := HLN.out; rw [← hl, List.length_append] at this; omega
    have HE : Hid (upper m ++ l = D) := hl
    clear hl
    by_cases hz : m = 0
    · subst hz
      go_wp2_with fail
      go_ret
      have h := HE.out
      simp only [upper, if_true, List.nil_append] at h
      exact ⟨ret_str (by rw [← h]), hb⟩
    · have q2 : ((m : Int) != 0) = true := by rw [bne_iff_ne]; omega
      have hmp : (1 : Int) ≤ m := by omega
      have hmu : (m : Int) ≤ 9223372036854775807 := by omega
      go_wp2_with fail
      refine ⟨⟨m / 10, [48 + UInt8.ofNat (m % 10)] ++ l, by go_num, by omega, by rw [← cat_list], ?_, hb.alloc hb.size _⟩, by simp [intOf]; omega⟩
      rw [← List.append_assoc, ← upper_step hz]
      exact HE.out

set_option maxRecDepth 100000 in
set_option maxHeartbeats 1000000 in
theorem digits_neg (u : Nat) (w : World) (h0 : u ≠ 0) (h1 : (u : Int) ≤ 9223372036854775808) :
    Calls Tryz.prog 136 #[.int .i64 (-(u : Int))] w fun e w' => e = .returned (.string ⟨(45 :: Lib.decDigits u).toArray⟩) ∧ Below w.heap.size w w' := by
  have hcv := conv1
  have q0 : (-(u : Int) == 0) = false := by simp; omega
  have q1 : decide (-(u : Int) < 0) = true := by simp; omega
  have HLN : Hid ((Lib.decDigits u).length ≤ 21) := by
    have := Lib.itoa_length_le (-(u : Int)) (by omega) (by omega)
    rw [Lib.itoa_neg u (by omega), List.length_cons] at this
    show _ ≤ _
    omega
  generalize hD : Lib.decDigits u = D at *
  have HD : Hid (upper u = D) := by show _ = _; rw [upper_pos h0, hD]
  clear hD
  go_enter Tryz.func136, Tryz.ntmps136
  go_wp2_with fail
  go_loopw [0, 4] (fun x o wr => ∃ (m : Nat) (l : List UInt8), x = .int .i64 (-(m : Int)) ∧ m ≤ u ∧ o = .string ⟨l.toArray⟩ ∧ upper m ++ l = D ∧ Below w.heap.size w wr) (fun x _ _ => (intOf x).natAbs)
  case atStart => exact ⟨u, [], rfl, Nat.le_refl _, rfl, by rw [List.append_nil]; exact HD.out, Below.refl _ _⟩
  case round =>
    obtain ⟨m, l, rfl, hm, rfl, hl, hb⟩ := hrel
    have hll : l.length ≤ 21 := by have := HLN.out; rw [← hl, List.length_append] at this; omega
    have HE : Hid (upper m ++ l = D) := hl
    clear hl
    by_cases hz : m = 0
    · subst hz
      go_wp2_with fail
      go_ret
      have h := HE.out
      simp only [upper, if_true, List.nil_append] at h
      exact ⟨ret_str (by rw [← h]; exact cat_list [45] l), hb⟩
    · have q2 : (-(m : Int) != 0) = true := by rw [bne_iff_ne]; omega
      have hmp : -(m : Int) < 0 := by omega
      have hmu : -9223372036854775808 ≤ -(m : Int) := by omega
      have hs := upper_step hz
      have HS : Hid (upper m = upper (m / 10) ++ [48 + UInt8.ofNat (m % 10)]) := hs
      clear hs
      by_cases hd : m % 10 = 0
      · have hd' : (m : Int) % 10 = 0 := by omega
        go_wp2_with fail
        refine ⟨⟨m / 10, [48 + UInt8.ofNat (m % 10)] ++ l, by go_num, by omega, by rw [← cat_list, hd]; rfl, ?_, hb.alloc hb.size _⟩, by simp [intOf]; omega⟩
        rw [← List.append_assoc, ← HS.out]
        exact HE.out
      · have hd' : -((m : Int) % 10) < 0 := by omega
        go_wp2_with fail
        refine ⟨⟨m / 10, [48 + UInt8.ofNat (m % 10)] ++ l, by go_num, by omega, by rw [← cat_list], ?_, hb.alloc hb.size _⟩, by simp [intOf]; omega⟩
        rw [← List.append_assoc, ← HS.out]
        exact HE.out

theorem digits_any (n : Int) (w : World) (h0 : -9223372036854775808 ≤ n) (h1 : n ≤ 9223372036854775807) :
    Calls Tryz.prog 136 #[.int .i64 n] w fun e w' => e = .returned (.string ⟨(Lib.itoa n).toArray⟩) ∧ Below w.heap.size w w' := by
  rcases Int.lt_trichotomy n 0 with h | h | h
  · obtain ⟨u, rfl⟩ : ∃ u : Nat, n = -(u : Int) := ⟨n.natAbs, by omega⟩
    rw [Lib.itoa_neg u (by omega)]
    exact digits_neg u w (by omega) (by omega)
  · subst h
    go_enter Tryz.func136, Tryz.ntmps136
    go_wp2_with fail
    go_ret
    exact ⟨ret_str (by rw [show (0 : Int) = ((0 : Nat) : Int) from rfl, Lib.itoa_nonneg, Lib.decDigits_one (by omega)]; rfl), Below.refl _ _⟩
  · obtain ⟨u, rfl⟩ : ∃ u : Nat, n = (u : Int) := ⟨n.toNat, by omega⟩
    rw [Lib.itoa_nonneg u]
    exact digits_pos u w (by omega) h1

end Go.Proofs.YtmklgikbajhcpaaGreatDoor
