
/- The walks of spec.l3Ok and impl.newTerm: of whatever term lies in memory they answer it where it is right, else the zero term; the second in new blocks of its own; nothing that was there is written. -/
import Derived.Test.YteminklafghgpaaGreatDoorNx
import Derived.Test.YteminklafghgpaaGreatDoorAv
import Derived.RegionTactic
namespace Go.Proofs.YteminklafghgpaaGreatDoor
open Go.RowKit Go.Deep

mutual
theorem rightT_wt : ∀ (t : Tm), rightT t = true → t.wt + 1 ≤ 302 * t.size
  | .node op n s ks, h => by
    simp only [rightT, Bool.and_eq_true] at h
    have h1 := (ways h.1.1).2.2.1
    have h2 := rightL_wt ks h.2
    simp only [Tm.wt, Tm.size]
    omega
theorem rightL_wt : ∀ (ks : List Tm), rightL ks = true → Tm.wts ks + ks.length ≤ 302 * Tm.sizes ks
  | [], _ => by simp [Tm.wts, Tm.sizes]
  | t :: r, h => by
    simp only [rightL, Bool.and_eq_true] at h
    have h1 := rightT_wt t h.1
    have h2 := rightL_wt r h.2
    simp only [Tm.wts, Tm.sizes, List.length_cons]
    omega
end

set_option maxRecDepth 100000 in
theorem okT_small {m : Tm} (h : okT m = true) : m.size + m.wt ≤ 61000 := by
  simp only [okT, Bool.and_eq_true, decide_eq_true_eq] at h
  have := rightT_wt m h.2
  omega

set_option maxRecDepth 100000 in
set_option maxHeartbeats 1000000 in
/-- impl.checked of a right term: it, and no error. -/
theorem checked_yes (t : Tm) (op n : Int) (s : ByteArray) (a : Option Addr) (len cap : Nat) (w : World) (hl : Lies w 0 t (tmCells op n s a len cap)) (hsz : t.size ≤ 2097152) (hok : okT t = true) :
    Calls Tryz.prog 81 #[.agg #[.int .i64 op, .int .i64 n, .string s, .slice a len cap]] w fun e w' => e = .returned (.tuple #[.agg #[.int .i64 op, .int .i64 n, .string s, .slice a len cap], .nilIface]) ∧ Below w.heap.size w w' := by
  have h8 := hide (ok10 t op n s a len cap)
  have HL := hide (hl.below (((Below.refl w.heap.size w).alloc (Nat.le_refl _) (.cells #[.int .i64 op, .int .i64 n, .string s, .slice a len cap] 35)).alloc (by simp) (.cells #[.int .i64 0, .int .i64 0, .string ByteArray.empty, .slice none 0 0] 35)))
  clear hl
  rw [hok] at h8
  clear hok
  go_enter Tryz.func81, Tryz.ntmps81
  go_wp2_with fail
  refine (unhide h8 _ (unhide HL) hsz).mono ?_
  rintro e w2 ⟨rfl, hb2⟩
  have hk : Below w.heap.size w w2 := (((Below.refl w.heap.size w).alloc (Nat.le_refl _) _).alloc (by simp) _).trans (hb2.mono (by simp; omega))
  have HB := hide hk
  obtain ⟨c0, c1, c2, c3, d0, d1, d2, d3, e0, e1, e2, e3⟩ := two_boxes hb2
  clear hb2 hk
  go_wp2_with fail
  exact bodyPost_ret (v := .tuple #[.agg #[.int .i64 op, .int .i64 n, .string s, .slice a len cap], .nilIface]) (by simp [results, Tryz.results81, go_sem, d0, d1, d2, d3]) rfl ⟨rfl, set4_below (unhide HB) (by omega)⟩

set_option maxRecDepth 100000 in
set_option maxHeartbeats 1000000 in
/-- impl.checked of a term that is not right: the zero term, and the named error. -/
theorem checked_no (t : Tm) (op n : Int) (s : ByteArray) (a : Option Addr) (len cap : Nat) (x : Addr) (w : World) (hl : Lies w 0 t (tmCells op n s a len cap)) (hsz : t.size ≤ 2097152) (hok : okT t = false) (he : ErrAt x w) :
    Calls Tryz.prog 81 #[.agg #[.int .i64 op, .int .i64 n, .string s, .slice a len cap]] w fun e w' => e = .returned (.tuple #[.agg #[.int .i64 0, .int .i64 0, .string ByteArray.empty, .slice none 0 0], .iface 149 (.pointer (some x))]) ∧ Below w.heap.size w w' := by
  have h8 := hide (ok10 t op n s a len cap)
  have HL := hide (hl.below (((Below.refl w.heap.size w).alloc (Nat.le_refl _) (.cells #[.int .i64 op, .int .i64 n, .string s, .slice a len cap] 35)).alloc (by simp) (.cells #[.int .i64 0, .int .i64 0, .string ByteArray.empty, .slice none 0 0] 35)))
  have HE := hide he
  clear hl he
  rw [hok] at h8
  clear hok
  go_enter Tryz.func81, Tryz.ntmps81
  go_wp2_with fail
  refine (unhide h8 _ (unhide HL) hsz).mono ?_
  rintro e w2 ⟨rfl, hb2⟩
  have hk : Below w.heap.size w w2 := (((Below.refl w.heap.size w).alloc (Nat.le_refl _) _).alloc (by simp) _).trans (hb2.mono (by simp; omega))
  have HB := hide hk
  obtain ⟨c0, c1, c2, c3, d0, d1, d2, d3, e0, e1, e2, e3⟩ := two_boxes hb2
  have g0 := ((unhide HE).on hk).cell
  have hne : (w.heap.size + 1 = 0) = False := by simp
  have hne' : (0 = w.heap.size + 1) = False := by simp
  clear hb2 hk c0 c1 c2 c3
  go_wp2_with fail
  go_region
  all_goals go_wp2_with fail
  all_goals
    exact bodyPost_ret (v := .tuple #[.agg #[.int .i64 0, .int .i64 0, .string ByteArray.empty, .slice none 0 0], .iface 149 (.pointer (some x))]) (by simp [results, Tryz.results81, go_sem, d0, d1, d2, d3]; try rfl) rfl ⟨rfl, set4_below (unhide HB).drew (by omega)⟩

set_option maxRecDepth 100000 in
/-- A term in a block of its own, written anew. -/
theorem RowT.fill {ty : TypeId} {w : World} {g : Nat} {op0 n0 : Int} {s0 : ByteArray} {a0 : Option Addr} {l0 k0 : Nat} (h : RowT ty w g op0 n0 s0 a0 l0 k0) (op n : Int) (s : ByteArray) (a : Option Addr) (len cap : Nat) : RowT ty ((((w.setCell ⟨g, 0, none⟩ (.int .i64 op)).setCell ⟨g, 1, none⟩ (.int .i64 n)).setCell ⟨g, 2, none⟩ (.string s)).setCell ⟨g, 3, none⟩ (.slice a len cap)) g op n s a len cap := by
  unfold RowT at *
  have r : ∀ {w : World} {b o : Nat} {C : Array Value} {t : TypeId} {fr : Nat × Nat} (v : Value), w.heap[b]? = some (.cells C t fr) → (w.setCell ⟨b, o, none⟩ v).heap[b]? = some (.cells (C.setIfInBounds o v) t fr) := fun v h => by
    simp only [World.setCell, Array.getElem?_modify]
    simp [h]
  exact r (o := 3) (.slice a len cap) (r (o := 2) (.string s) (r (o := 1) (.int .i64 n) (r (o := 0) (.int .i64 op) h)))
set_option maxRecDepth 100000 in
theorem RowT.frozen {ty : TypeId} {w : World} {b : Nat} {op n : Int} {s : ByteArray} {a : Option Addr} {len cap : Nat} (h : RowT ty w b op n s a len cap) : w.frozen? ⟨b, 0, none⟩ = false ∧ w.frozen? ⟨b, 1, none⟩ = false ∧ w.frozen? ⟨b, 2, none⟩ = false ∧ w.frozen? ⟨b, 3, none⟩ = false := ⟨frozen_of_row h, frozen_of_row h, frozen_of_row h, frozen_of_row h⟩

set_option maxRecDepth 100000 in
set_option maxHeartbeats 1000000 in
theorem new_any (t : Tm) (op n : Int) (s : ByteArray) (a : Option Addr) (len cap : Nat) (w : World) (hl : Lies w 0 t (tmCells op n s a len cap)) (hsz : t.size ≤ 2097152) (herr : Err w) :
    Calls Tryz.prog 78 #[.agg #[.int .i64 op, .int .i64 n, .string s, .slice a len cap]] w fun e w' => ∃ op' n' s' a' len' cap' fp, e = .returned (.agg #[.int .i64 op', .int .i64 n', .string s', .slice a' len' cap']) ∧ Own w' (pickT (okT t) t) (tmCells op' n' s' a' len' cap') fp ∧ (fp.Nodup ∧ ∀ x ∈ fp, w.heap.size ≤ x) ∧ Below w.heap.size w w' := by
  obtain ⟨x, he⟩ := herr
  have hB0 : Below w.heap.size w ((w.alloc (.cells #[.int .i64 op, .int .i64 n, .string s, .slice a len cap] 35)).alloc (.cells #[.int .i64 0, .int .i64 0, .string ⟨#[]⟩, .slice none 0 0] 35)) := ((Below.refl w.heap.size w).alloc (Nat.le_refl _) _).alloc (by simp) _
  have HL := hide (hl.below hB0)
  have HB0 := hide hB0
  have HE := hide (he.on hB0)
  have HG : Hid (w.heap.size + 2 = ((w.alloc (.cells #[.int .i64 op, .int .i64 n, .string s, .slice a len cap] 35)).alloc (.cells #[.int .i64 0, .int .i64 0, .string ⟨#[]⟩, .slice none 0 0] 35)).heap.size) := by show _ = _; simp
  obtain ⟨c0, c1, c2, c3, d0, d1, d2, d3, e0, e1, e2, e3⟩ := two_boxes_at w op n s a len cap
  have HR : Hid (RowT 35 ((w.alloc (.cells #[.int .i64 op, .int .i64 n, .string s, .slice a len cap] 35)).alloc (.cells #[.int .i64 0, .int .i64 0, .string ⟨#[]⟩, .slice none 0 0] 35)) (w.heap.size + 1) 0 0 ⟨#[]⟩ none 0 0) := by
    have := RowT.new 35 (w.alloc (.cells #[.int .i64 op, .int .i64 n, .string s, .slice a len cap] 35)) 0 0 ⟨#[]⟩ none 0 0
    rwa [heap_size_alloc] at this
  clear hl he hB0 d0 d1 d2 d3 e0 e1 e2 e3
  cases hok : okT t with
  | true =>
    have h39 := hide fun v h => checked_yes t op n s a len cap v h hsz hok
    have h38 := hide fun v h he => answer_yes t op n s a len cap x v h (by have := okT_small hok; omega) he
    clear hok
    go_enter Tryz.func78, Tryz.ntmps78
    go_wp2_with fail
    generalize (w.alloc (.cells #[.int .i64 op, .int .i64 n, .string s, .slice a len cap] 35)).alloc (.cells #[.int .i64 0, .int .i64 0, .string ⟨#[]⟩, .slice none 0 0] 35) = v at *
    refine (unhide h39 _ (unhide HL)).mono ?_
    rintro e w2 ⟨rfl, hb2⟩
    have HB2 := hide ((unhide HB0).trans (hb2.mono (unhide HB0).size))
    have HL2 := hide ((unhide HL).below hb2)
    have HE2 := hide ((unhide HE).on hb2)
    have HG2 : Hid (w.heap.size + 2 ≤ w2.heap.size) := by have := hb2.size; have := unhide HG; show _ ≤ _; omega
    have HR2 := hide ((unhide HR).below hb2)
    clear hb2 HR HB0 HL HE HG c0 c1 c2 c3
    go_wp2_with fail
    refine (unhide h38 _ (unhide HL2) (unhide HE2)).mono ?_
    rintro e w3 ⟨a3, cap3, fp, rfl, hO3, ⟨hnd3, hge3⟩, hb3⟩
    have HB3 := hide ((unhide HB2).trans (hb3.mono (unhide HB2).size))
    have HG3 : Hid (w.heap.size + 2 ≤ w3.heap.size) := by have := hb3.size; have := unhide HG2; show _ ≤ _; omega
    have HR3 := hide ((unhide HR2).below hb3)
    obtain ⟨d0, d1, d2, d3⟩ := (unhide HR3).facts
    obtain ⟨e0, e1, e2, e3⟩ := (unhide HR3).frozen
    have hlt : w.heap.size + 1 < w3.heap.size := by have := unhide HG3; omega
    have hne := Nat.ne_of_lt hlt
    have hne' := Ne.symm hne
    have HO := hide hO3
    have HN := hide hnd3
    have HE3 := hide hge3
    clear hb3 HR2 hO3 hnd3 hge3 HB2 HL2 HE2
    go_wp2_with fail
    have HF := hide (((unhide HR3).fill op n s a3 len cap3).below ((Below.refl _ _).alloc (Nat.le_refl _) (.cells #[.int .i64 op, .int .i64 n, .string s, .slice a3 len cap3] 35)))
    obtain ⟨f0, f1, f2, f3⟩ := (unhide HF).facts
    have HK := hide (Own.keep _ _ _ (unhide HO) fun b hb => set4_heap w3 (w.heap.size + 1) (.int .i64 op) (.int .i64 n) (.string s) (.slice a3 len cap3) b (by have := unhide HE3 b hb; have := unhide HG2; omega))
    have hS := set4_below (g := w.heap.size + 1) (x0 := .int .i64 op) (x1 := .int .i64 n) (x2 := .string s) (x3 := .slice a3 len cap3) (unhide HB3) (by omega)
    exact bodyPost_ret (v := .agg #[.int .i64 op, .int .i64 n, .string s, .slice a3 len cap3]) (by simp [results, Tryz.results78, go_sem, f0, f1, f2, f3]) rfl ⟨op, n, s, a3, len, cap3, fp, rfl, (unhide HK).below ((Below.refl _ _).alloc (Nat.le_refl _) _), ⟨unhide HN, fun x hx => by have := unhide HE3 x hx; have := unhide HG2; omega⟩, hS.alloc hS.size _⟩
  | false =>
    have h39 := hide fun v h he => checked_no t op n s a len cap x v h hsz hok he
    have h38 := hide fun v he => answer_no 0 0 ByteArray.empty none 0 0 x v he
    clear hok
    go_enter Tryz.func78, Tryz.ntmps78
    go_wp2_with fail
    generalize (w.alloc (.cells #[.int .i64 op, .int .i64 n, .string s, .slice a len cap] 35)).alloc (.cells #[.int .i64 0, .int .i64 0, .string ⟨#[]⟩, .slice none 0 0] 35) = v at *
    refine (unhide h39 _ (unhide HL) (unhide HE)).mono ?_
    rintro e w2 ⟨rfl, hb2⟩
    have HB2 := hide ((unhide HB0).trans (hb2.mono (unhide HB0).size))
    have HE2 := hide ((unhide HE).on hb2)
    have HG2 : Hid (w.heap.size + 2 ≤ w2.heap.size) := by have := hb2.size; have := unhide HG; show _ ≤ _; omega
    have HR2 := hide ((unhide HR).below hb2)
    clear hb2 HR HB0 HL HE HG c0 c1 c2 c3
    go_wp2_with fail
    refine (unhide h38 _ (unhide HE2)).mono ?_
    rintro e w3 ⟨rfl, hb3⟩
    have HB3 := hide ((unhide HB2).trans (hb3.mono (unhide HB2).size))
    have HG3 : Hid (w.heap.size + 2 ≤ w3.heap.size) := by have := hb3.size; have := unhide HG2; show _ ≤ _; omega
    have HR3 := hide ((unhide HR2).below hb3)
    obtain ⟨d0, d1, d2, d3⟩ := (unhide HR3).facts
    obtain ⟨e0, e1, e2, e3⟩ := (unhide HR3).frozen
    have hlt : w.heap.size + 1 < w3.heap.size := by have := unhide HG3; omega
    have hne := Nat.ne_of_lt hlt
    have hne' := Ne.symm hne
    clear hb3 HR2 HB2 HE2
    go_wp2_with fail
    have HF := hide (((unhide HR3).fill 0 0 ByteArray.empty none 0 0).below ((Below.refl _ _).alloc (Nat.le_refl _) (.cells #[.int .i64 0, .int .i64 0, .string ByteArray.empty, .slice none 0 0] 35)))
    obtain ⟨f0, f1, f2, f3⟩ := (unhide HF).facts
    have hS := set4_below (g := w.heap.size + 1) (x0 := .int .i64 0) (x1 := .int .i64 0) (x2 := .string ByteArray.empty) (x3 := .slice none 0 0) (unhide HB3) (by omega)
    exact bodyPost_ret (v := .agg #[.int .i64 0, .int .i64 0, .string ByteArray.empty, .slice none 0 0]) (by simp [results, Tryz.results78, go_sem, f0, f1, f2, f3]; try rfl) rfl ⟨_, _, _, _, _, _, [], rfl, zero_own _, ⟨by simp, by simp⟩, hS.alloc hS.size _⟩

end Go.Proofs.YteminklafghgpaaGreatDoor
