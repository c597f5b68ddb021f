/- The walk of impl.copyTerm: of whatever term lies in memory it makes the same term, in new blocks of its own; nothing that was there is written. The walk of spec.l1Copy: of whatever term lies in memory it makes the same term, in new blocks of its own; nothing that was there is written. How two terms are compared, as plain functions; and the walks of cmp.Compare at int and at string, of cmp.Or at int, and of impl.compareHeads: they answer as those functions say; nothing that was there is written. A list of pairs of terms that impl.compare keeps for itself: the last one taken off, others put on one by one: what append does to it. The walk of impl.compare: of whatever two terms lie in memory, the first of at most 2^21 within it, it answers how they stand to each other; nothing that was there is written. The walk of spec.Same: of whatever two terms lie in memory it answers whether they are alike; nothing that was there is written. -/
import Derived.Test.YtmklgikbajhcpaaGreatDoorCyq
import Derived.Test.YtmklgikbajhcpaaGreatDoorShelf
import Derived.Deep.RegionHeld3
import Derived.Deep.LoopGhost
import Derived.Test.YtmklgikbajhcpaaGreatDoorTp
import Derived.Deep.RegionLaw
import Derived.Laws.Cover1
import Derived.Deep.AppendLies
namespace Go.Proofs.YtmklgikbajhcpaaGreatDoor
open Go.RowKit Go.Deep

theorem keepfY {v v' : World} (h : Below v.heap.size v v') {b o : Nat} (hb : b < v.heap.size) (hc : v.frozen? ⟨b, o, none⟩ = false) : v'.frozen? ⟨b, o, none⟩ = false :=
  (h.frozen (p := ⟨b, o, none⟩) hb).trans hc
theorem bt0 {w v v' : World} (h : Below w.heap.size w v) (hb : Below v.heap.size v v') : Below w.heap.size w v' := h.trans (hb.mono h.size)
theorem Tm.wt_mem {t : Tm} {ks : List Tm} (h : t ∈ ks) : t.wt ≤ Tm.wts ks := by
  induction ks with
  | nil => cases h
  | cons x r ih =>
    simp only [Tm.wts]
    rcases List.mem_cons.1 h with rfl | h
    · omega
    · have := ih h; omega

set_option maxRecDepth 100000 in
theorem cloneS (s : ByteArray) (w : World) (hs : s.size ≤ 4194304) :
    Calls Tryz.prog 109 #[.string s] w fun e w' => e = .returned (.string s) ∧ Below w.heap.size w w' := by
  have h := hide (fun v => Tryz.stringslite_Clone s v (by omega))
  go_enter Tryz.func109, Tryz.ntmps109
  go_wp2_with fail
  refine (unhide h _).mono ?_
  rintro e w2 ⟨rfl, hb2⟩
  go_wp2_with fail
  go_ret
  exact ⟨rfl, hb2⟩

def CyOk (t : Tm) : Prop := ∀ (op n : Int) (s : ByteArray) (a : Option Addr) (len cap : Nat) (w : World), Lies w 0 t (tmCells op n s a len cap) → t.size + t.wt ≤ 4194304 →
  Calls Tryz.prog 123 #[.agg #[.int .i64 op, .int .i64 n, .string s, .slice a len cap]] w fun e w' => ∃ a' cap' fp, e = .returned (.agg #[.int .i64 op, .int .i64 n, .string s, .slice a' len cap']) ∧ Own w' t (tmCells op n s a' len cap') fp ∧ (fp.Nodup ∧ ∀ x ∈ fp, w.heap.size ≤ x) ∧ Below w.heap.size w w'

/-- How much there is to be copied, with its texts. -/
def hbig : List Hole → Nat
  | [] => 0
  | h :: r => h.2.2.size + h.2.2.wt + hbig r
theorem hbig_append (a b : List Hole) : hbig (a ++ b) = hbig a + hbig b := by
  induction a with
  | nil => simp [hbig]
  | cons x r ih => simp only [List.cons_append, hbig, ih]; omega
theorem hbig_kids (b : Nat) : ∀ (i : Nat) (ks : List Tm), hbig (kidsH b i ks) = Tm.sizes ks + Tm.wts ks
  | _, [] => rfl
  | i, t :: r => by simp only [kidsH, hbig, Tm.sizes, Tm.wts, hbig_kids b (i + 1) r]; omega
theorem length_le_hbig : ∀ (a : List Hole), a.length ≤ hbig a
  | [] => by simp [hbig]
  | x :: r => by have := length_le_hbig r; have := x.2.2.size_pos; simp only [List.length_cons, hbig]; omega

theorem big_step {H : List Hole} {hb ho g : Nat} {op n : Int} {s : ByteArray} {ks : List Tm} {K : Nat} (h : hbig (H ++ [(hb, ho, .node op n s ks)]) ≤ K) : hbig (H ++ kidsH g 0 ks) + 1 ≤ K ∧ ks.length ≤ K ∧ H.length ≤ K ∧ s.size ≤ K ∧ H.length + ks.length ≤ K := by
  rw [hbig_append] at h ⊢
  rw [hbig_kids]
  have h1 := length_le_hbig H
  have h2 := Tm.length_le_sizes ks
  simp only [hbig, Tm.size, Tm.wt] at h
  omega

set_option maxRecDepth 100000 in
set_option maxHeartbeats 2000000 in
/-- The copy; and of a term with no kids its row is nil. -/
theorem cy_all (t : Tm) (op n : Int) (s : ByteArray) (a : Option Addr) (len cap : Nat) (w : World) (hl : Lies w 0 t (tmCells op n s a len cap)) (hsz : t.size + t.wt ≤ 4194304) :
    Calls Tryz.prog 123 #[.agg #[.int .i64 op, .int .i64 n, .string s, .slice a len cap]] w fun e w' => ∃ a' cap' fp, e = .returned (.agg #[.int .i64 op, .int .i64 n, .string s, .slice a' len cap']) ∧ Own w' t (tmCells op n s a' len cap') fp ∧ (fp.Nodup ∧ ∀ x ∈ fp, w.heap.size ≤ x) ∧ (len = 0 → a' = none ∧ cap' = 0) ∧ Below w.heap.size w w' := by
  cases t with
  | node op' n' s' ks =>
    have hl0 := hl
    simp only [Lies, tmCells] at hl
    obtain ⟨a', cap', he, ⟨hs, hlc, hcm⟩, hwf, hk⟩ := hl
    simp only [List.cons.injEq, Value.int.injEq, Value.string.injEq, Value.slice.injEq, true_and, and_true] at he
    obtain ⟨rfl, rfl, rfl, rfl, rfl, rfl⟩ := he
    have HS0 := hide (CyS.start hl0)
    generalize hT : Tm.node op n s ks = T at *
    have HZ : Hid (T.size + T.wt ≤ 4194304) := hsz
    have HT : Hid (Tm.node op n s ks = T) := hT
    clear hl0 hs hlc hcm hwf hk hsz hT
    generalize hlen : ks.length = len at *
    have HLn : Hid (ks.length = len) := hlen
    clear hlen
    go_enter Tryz.func123, Tryz.ntmps123
    go_wp2_with fail
    go_loopg [3] 4194305 (fun gk v wr => ∃ H : List Hole, hbig H < gk ∧ hbig H ≤ 4194304 ∧ CyS w T H H v wr)
    case atStart =>
      have hz := unhide HZ
      exact ⟨[(w.heap.size, 0, T)], by simp only [hbig]; omega, by simp only [hbig]; omega, unhide HS0⟩
    case round =>
      obtain ⟨H, hgk, hbk, hM⟩ := hrel
      clear HS0
      by_cases hH : H = []
      · subst hH
        obtain ⟨av, cv, hv0, _⟩ := hM.shape
        simp only [List.length_nil] at hv0
        subst hv0
        obtain ⟨cs, fp, hr, hO, hnd, hge, hleaf⟩ := hM.finish
        have hres := hM.res
        have hB := hM.below
        have hT := unhide HT
        subst hT
        obtain ⟨a2, cap2, hcs, hO1, hO2, hO3⟩ := hO.kids
        subst hcs
        have hN : len = 0 → a2 = none ∧ cap2 = 0 := fun e => by
          have hk0 : ks = [] := List.length_eq_zero_iff.1 (by rw [unhide HLn, e])
          subst hk0
          have h6 := hleaf op n s rfl 3 (.slice none 0 0) rfl
          have h7 := hr 3 (.slice a2 ([] : List Tm).length cap2) rfl
          rw [h7] at h6
          simp at h6
          exact h6
        have HN := hide hN
        clear hN hleaf
        rw [unhide HLn] at hr
        have p0 : wr.cell? ⟨w.heap.size, 0, none⟩ = some (.int .i64 op) := by have := hr 0 _ rfl; simpa using this
        have p1 : wr.cell? ⟨w.heap.size, 1, none⟩ = some (.int .i64 n) := by have := hr 1 _ rfl; simpa using this
        have p2 : wr.cell? ⟨w.heap.size, 2, none⟩ = some (.string s) := by have := hr 2 _ rfl; simpa using this
        have p3 : wr.cell? ⟨w.heap.size, 3, none⟩ = some (.slice a2 len cap2) := by have := hr 3 _ rfl; simpa using this
        have q0 : wr.cell? ⟨w.heap.size + 1, 0, none⟩ = some (.int .i64 0) := cell_of_row hres (by simp)
        have q1 : wr.cell? ⟨w.heap.size + 1, 1, none⟩ = some (.int .i64 0) := cell_of_row hres (by simp)
        have q2 : wr.cell? ⟨w.heap.size + 1, 2, none⟩ = some (.string ByteArray.empty) := cell_of_row hres (by simp)
        have q3 : wr.cell? ⟨w.heap.size + 1, 3, none⟩ = some (.slice none 0 0) := cell_of_row hres (by simp)
        have e0 : wr.frozen? ⟨w.heap.size + 1, 0, none⟩ = false := frozen_of_row hres
        have e1 : wr.frozen? ⟨w.heap.size + 1, 1, none⟩ = false := frozen_of_row hres
        have e2 : wr.frozen? ⟨w.heap.size + 1, 2, none⟩ = false := frozen_of_row hres
        have e3 : wr.frozen? ⟨w.heap.size + 1, 3, none⟩ = false := frozen_of_row hres
        have HKO := hide hO3
        have HND := hide hnd
        have HGE := hide hge
        have HMM := hide hB
        have HO1 := hide hO1
        have HO2 := hide hO2
        clear hO hO1 hO2 hO3 hnd hge hB hr hres hM hgk hbk
        go_wp2_with fail
        refine bodyPost_ret (v := .agg #[.int .i64 op, .int .i64 n, .string s, .slice a2 len cap2]) (by simp [results, Tryz.results123, go_sem, q0, q1, q2, q3]) rfl ⟨a2, cap2, rfl, fp, ?_, ⟨unhide HND, fun x hx => by have := unhide HGE x hx; omega⟩, unhide HN, ?_⟩
        · have h1 := Own.of_kids (op := op) (n := n) (s := s) (cap := cap2) (unhide HO1) (unhide HO2) ((unhide HKO).keep (w' := ((((wr.setCell ⟨w.heap.size + 1, 0, none⟩ (.int .i64 op)).setCell ⟨w.heap.size + 1, 1, none⟩ (.int .i64 n)).setCell ⟨w.heap.size + 1, 2, none⟩ (.string s)).setCell ⟨w.heap.size + 1, 3, none⟩ (.slice a2 len cap2))) fun b hb => by
            have hbb := unhide HGE b hb
            rw [Below.heap_setCell _ _ _ _ (by show b ≠ _; simp only; omega), Below.heap_setCell _ _ _ _ (by show b ≠ _; simp only; omega), Below.heap_setCell _ _ _ _ (by show b ≠ _; simp only; omega), Below.heap_setCell _ _ _ _ (by show b ≠ _; simp only; omega)])
          rw [unhide HLn] at h1
          exact h1
        · exact ((((unhide HMM).setCell (by show w.heap.size ≤ w.heap.size + 1; omega) _).setCell (by show w.heap.size ≤ w.heap.size + 1; omega) _).setCell (by show w.heap.size ≤ w.heap.size + 1; omega) _).setCell (by show w.heap.size ≤ w.heap.size + 1; omega) _
      · obtain ⟨us, ⟨hb, ho, ⟨op1, n1, s1, ks1⟩⟩, rfl⟩ : ∃ us p, H = us ++ [p] := ⟨H.dropLast, H.getLast hH, (List.dropLast_concat_getLast hH).symm⟩
        obtain ⟨gr, c, rfl, hc1, hc2, hcell, hpop⟩ := hM.top
        obtain ⟨a1, cap1, C1, hC1, hge1, hne1, hr1, hz1, hw1, hk1⟩ := hpop.cells
        have c2 : wr.cell? ⟨hb, ho + 2, none⟩ = some (.string s1) := hr1 2 _ rfl
        have HG := hide hgk
        have HK := hide hbk
        obtain ⟨_, hb2, hb3, hb4, hb5⟩ := big_step (g := 0) hbk
        have HCL := hide (fun v => cloneS s1 v hb4)
        have HP := hide hpop
        have HC1 := hide hC1
        have HR1 := hide hr1
        have HK1 := hide hk1
        have hub : us.length ≤ 4194304 := by omega
        unfold maxLen at hc2
        generalize hul : us.length = ul at *
        have HU : Hid (us.length = ul) := hul
        clear hgk hbk hM hpop hC1 hr1 hk1 hz1 hw1 hul hge1 hne1 hH
        go_wp2_with fail
        refine (unhide HCL _).mono ?_
        rintro e w2 ⟨rfl, hB2⟩
        have HP2 := hide ((unhide HP).carry hB2)
        have hC2 := (hB2.block hb (lt_of_heap (unhide HC1))).trans (unhide HC1)
        have hr2 := rangeAt_below (unhide HR1) hB2
        have d2 : w2.cell? ⟨hb, ho + 2, none⟩ = some (.string s1) := hr2 2 _ rfl
        have f2 : w2.frozen? ⟨hb, ho + 2, none⟩ = false := frozen_of_row hC2
        have d3 : (w2.setCell ⟨hb, ho + 2, none⟩ (.string s1)).cell? ⟨hb, ho + 3, none⟩ = some (.slice a1 ks1.length cap1) := by
          rw [World.cell?_setCell_other _ _ _ _ (fun e' => by simp at e')]
          exact hr2 3 _ rfl
        have HST := hide ((unhide HP2).step hr2 (unhide HK1) (by omega) 27)
        have hkb : ks1.length ≤ 4194304 := by omega
        generalize hkl : ks1.length = l1 at *
        have HKL : Hid (ks1.length = l1) := hkl
        clear hkl hB2 hC2 hr2 HP HCL HR1 HC1 HK1 HP2 c2
        go_wp2_with (at_builtin; refine wpList_append_run rfl _ _ 27 rfl (.slice none 0 0) (.slice a1 l1 cap1) rfl rfl (fun v' w' => ∃ a' cap' g, v' = .slice a' l1 cap' ∧ l1 ≤ cap' ∧ cap' ≤ maxLen ∧ (0 < l1 → a' = some ⟨g, 0, none⟩) ∧ w'.frozen? ⟨hb, ho + 3, none⟩ = false ∧ (∃ u, w'.cell? ⟨hb, ho + 3, none⟩ = some u) ∧
          CyS w T (us ++ kidsH g 0 ks1) us (.slice (some ⟨gr, 0, none⟩) ul c) (w'.setCell ⟨hb, ho + 3, none⟩ v') ∧ (w'.setCell ⟨hb, ho + 3, none⟩ v').cell? ⟨hb, ho + 3, none⟩ = some v' ∧ ∃ C, (w'.setCell ⟨hb, ho + 3, none⟩ v').heap[hb]? = some (.cells C 29 (0, 0))) (unhide HST) ?_; rintro v' w3 ⟨a3, cap3, g3, rfl, hc3, hc4, hor, f3, ⟨u3, d33⟩, hS3, d34, C3, hC3⟩; unfold maxLen at hc4)
        have HS3 := hide hS3
        have HOR := hide hor
        have HC3 := hide hC3
        have HBS := hide (big_step (g := g3) (unhide HK))
        have HD := hide d34
        clear hS3 hor hC3 f3 d33 HST d2 f2 d3 d34
        generalize hW : w3.setCell ⟨hb, ho + 3, none⟩ (.slice a3 l1 cap3) = w4 at *
        clear hW
        go_loopw [3, 42] (fun v i wr => ∃ k : Nat, k ≤ l1 ∧ i = .int .i64 k ∧ CyS w T (us ++ kidsH g3 0 ks1) (us ++ (kidsH g3 0 ks1).take k) v wr ∧ wr.cell? ⟨hb, ho + 3, none⟩ = some (.slice a3 l1 cap3) ∧ ∃ C, wr.heap[hb]? = some (.cells C 29 (0, 0))) (fun _ i _ => l1 - (intOf i).toNat)
        case atStart => exact ⟨0, Nat.zero_le _, rfl, by simpa using unhide HS3, unhide HD, _, unhide HC3⟩
        case round =>
          obtain ⟨k, hkl, rfl, hI, dk, Ck, hCk⟩ := hrel
          clear HS3 HD HC3
          by_cases hlt : k < l1
          · obtain rfl := unhide HOR (by omega)
            have hkk : k < ks1.length := by have := unhide HKL; omega
            have hlen2 : (us ++ (kidsH g3 0 ks1).take k).length ≤ 4194304 := by
              have := (unhide HBS).2.2.2.2
              rw [List.length_append, List.length_take, kidsH_length]
              omega
            have HPU : Hid (∃ v' w', (Builtin.append_ #[149, 149] 149 #[u3, .slice (some ⟨wr.heap.size, 0, none⟩) 1 1]).run Tryz.prog (wr.alloc (.cells #[.pointer (some ⟨g3, k * 4, none⟩)] 148)) = .ok v' w' ∧
                (CyS w T (us ++ kidsH g3 0 ks1) (us ++ (kidsH g3 0 ks1).take (k + 1)) v' w' ∧ w'.cell? ⟨hb, ho + 3, none⟩ = some (.slice (some ⟨g3, 0, none⟩) l1 cap3) ∧ ∃ C, w'.heap[hb]? = some (.cells C 29 (0, 0)))) := by
              obtain ⟨v', w', r1, r2, r3⟩ := hI.push (g3, k * 4, ks1[k]) hlen2 149
              refine ⟨v', w', r1, ?_, (World.cell?_of_block (r3 hb Ck hCk)).trans dk, Ck, (r3 hb Ck hCk).trans hCk⟩
              have hg := kidsH_get g3 0 ks1 k hkk
              rw [Nat.zero_add] at hg
              rw [List.take_add_one, hg]
              simpa using r2
            clear hI hlen2 hCk
            go_wp2_with (at_builtin; refine wpList_append_run rfl _ _ 149 rfl u3 (.slice (some ⟨wr.heap.size, 0, none⟩) 1 1) rfl rfl (fun v' w' => CyS w T (us ++ kidsH g3 0 ks1) (us ++ (kidsH g3 0 ks1).take (k + 1)) v' w' ∧ w'.cell? ⟨hb, ho + 3, none⟩ = some (.slice (some ⟨g3, 0, none⟩) l1 cap3) ∧ ∃ C, w'.heap[hb]? = some (.cells C 29 (0, 0))) (unhide HPU) ?_; rintro v' w' ⟨n1, n2, n3⟩)
            exact ⟨⟨k + 1, by omega, by go_num, n1, n2, n3⟩, by simp [intOf]; omega⟩
          · obtain rfl : k = l1 := by omega
            have HI : Hid (CyS w T (us ++ kidsH g3 0 ks1) (us ++ kidsH g3 0 ks1) u3 wr) := by
              have h5 := hI
              rw [List.take_of_length_le (by rw [kidsH_length, unhide HKL]; exact Nat.le_refl _)] at h5
              exact h5
            clear hI
            go_wp2_with fail
            go_roundg (hbig (us ++ kidsH g3 0 ks1) + 1)
            case measure => have := unhide HG; have := (big_step (g := g3) (Nat.le_refl (hbig (us ++ [(hb, ho, .node op1 n1 s1 ks1)])))).1; omega
            case rel => exact ⟨us ++ kidsH g3 0 ks1, by omega, by have := (unhide HBS).1; omega, unhide HI⟩

theorem cy_calls (t : Tm) : CyOk t := fun op n s a len cap w hl hsz =>
  (cy_all t op n s a len cap w hl hsz).mono fun _ _ ⟨a', cap', fp, h1, h2, h3, _, h4⟩ => ⟨a', cap', fp, h1, h2, h3, h4⟩

theorem Grow.blocks {B : Nat} {ks : List Tm} {v : Value} {f : List Nat} {w w' : World} (h : Grow B ks v f w) (hb : ∀ x, B ≤ x → w'.heap[x]? = w.heap[x]?) : Grow B ks v f w' := by
  obtain ⟨xs, ho, hr⟩ := h.row
  refine ⟨⟨xs, ⟨ho.1, ?_⟩, hr.keep fun b hbf => hb b (h.ge b hbf)⟩, h.nd, h.ge, h.out⟩
  rcases ho.2 with h1 | ⟨g, cap, cur, h1, h2, h3, h4⟩
  · exact Or.inl h1
  · exact Or.inr ⟨g, cap, cur, h1, h2, (hb g h2).trans h3, h4⟩

/-- In the middle of the copy: k of the kids are there, the list in the last cell of the block g. -/
structure CzMid (W0 : World) (op n : Int) (s : ByteArray) (ks : List Tm) (k : Nat) (wr : World) : Prop where
  below : Below W0.heap.size W0 wr
  grow : ∃ v f, wr.heap[W0.heap.size]? = some (.cells #[.int .i64 op, .int .i64 n, .string s, v] 29 (0, 0)) ∧ Grow (W0.heap.size + 1) (ks.take k) v f wr

theorem CzMid.start (W0 : World) (op n : Int) (s : ByteArray) (ks : List Tm) : CzMid W0 op n s ks 0 (W0.alloc (.cells #[.int .i64 op, .int .i64 n, .string s, .slice none 0 0] 29)) :=
  ⟨(Below.refl _ _).alloc (Nat.le_refl _) _, .slice none 0 0, [], heap_alloc_new W0 _, by simpa using Grow.start _ _⟩

theorem setCell3 {w : World} {b : Nat} {x0 x1 x2 x3 : Value} {t : TypeId} {fr : Nat × Nat} (v : Value) (h : w.heap[b]? = some (.cells #[x0, x1, x2, x3] t fr)) : (w.setCell ⟨b, 3, none⟩ v).heap[b]? = some (.cells #[x0, x1, x2, v] t fr) := by
  simp only [World.setCell, Array.getElem?_modify]
  simp [h]

theorem CzMid.lt {W0 wr : World} {op n : Int} {s : ByteArray} {ks : List Tm} {k : Nat} (h : CzMid W0 op n s ks k wr) : W0.heap.size < wr.heap.size := by
  obtain ⟨v, f, h1, _⟩ := h.grow
  exact lt_of_heap h1

theorem CzMid.cell {W0 wr : World} {op n : Int} {s : ByteArray} {ks : List Tm} {k : Nat} (h : CzMid W0 op n s ks k wr) : ∃ v, wr.cell? ⟨W0.heap.size, 3, none⟩ = some v ∧
    ∀ (w2 w3 : World) (cs : List Value) (f1 : List Nat) (b o : Nat), Below wr.heap.size wr w2 → (hk : k < ks.length) → Own w2 ks[k] cs f1 → f1.Nodup → (∀ x ∈ f1, wr.heap.size ≤ x) → Below w2.heap.size w2 w3 → w3.rangeAt b o cs → ∀ (c : Nat), ks.length ≤ 2097152 → ∀ ty : TypeId,
      ∃ v' w', (Builtin.append_ #[27, 27] ty #[v, .slice (some ⟨b, o, none⟩) 1 c]).run Tryz.prog w3 = .ok v' w' ∧ w'.cell? ⟨W0.heap.size, 3, none⟩ = some v ∧ w'.frozen? ⟨W0.heap.size, 3, none⟩ = false ∧ (∃ xa xl xc, v' = .slice xa xl xc) ∧ CzMid W0 op n s ks (k + 1) (w'.setCell ⟨W0.heap.size, 3, none⟩ v') := by
  have hlt0 := h.lt
  have hB := h.below.size
  have hbel := h.below
  obtain ⟨v, f, h1, hg⟩ := h.grow
  refine ⟨v, cell_of_row h1 (by simp), ?_⟩
  intro w2 w3 cs f1 b o hb hk hl hnd hge hb3 hr c hn ty
  have hb13 : Below wr.heap.size wr w3 := hb.trans (hb3.mono hb.size)
  have hg3 := hg.carry hb13
  have hl3 : Own w3 ks[k] cs f1 := Own.keep _ cs f1 hl fun x hx => hb3.block x (Own.lt _ _ _ hl x hx)
  obtain ⟨v', w', r1, r2, r3⟩ := hg3.push (t := ks[k]) hl3 hnd (fun x hx => by have := hge x hx; omega) (fun x hx hxf => by have := hge x hx; have := hg.lt x hxf; omega) (fun g hgv hx => by have := hge g hx; have := hg.own_lt g hgv; omega) hr c (by rw [List.length_take]; omega) (by have := hb13.size; omega) ty
  have hrow : w'.heap[W0.heap.size]? = some (.cells #[.int .i64 op, .int .i64 n, .string s, v] 29 (0, 0)) := by
    rw [r3.block _ (by omega), hb13.block _ hlt0]
    exact h1
  obtain ⟨xa, xc, hsh, _⟩ := r2.shape
  refine ⟨v', w', r1, cell_of_row hrow (by simp), frozen_of_row hrow, ⟨xa, _, xc, hsh⟩, ?_, v', f ++ f1, setCell3 v' hrow, ?_⟩
  · exact ((hbel.trans (hb13.mono hB)).trans (r3.mono (by omega))).setCell (Nat.le_refl _) _
  · rw [Tm.take_succ_get (List.getElem?_eq_getElem hk)]
    exact r2.blocks fun x hx => Below.heap_setCell _ _ _ _ (by show x ≠ _; simp only; omega)

theorem CzMid.kids {W0 wr : World} {op n : Int} {s : ByteArray} {ks : List Tm} (h : CzMid W0 op n s ks ks.length wr) : ∃ a cap fp, wr.heap[W0.heap.size]? = some (.cells #[.int .i64 op, .int .i64 n, .string s, .slice a ks.length cap] 29 (0, 0)) ∧
    ks.length ≤ cap ∧ cap ≤ maxLen ∧ KidsOwn wr a ks fp ∧ fp.Nodup ∧ ∀ x ∈ fp, W0.heap.size + 1 ≤ x := by
  obtain ⟨v, f, h1, hg⟩ := h.grow
  rw [List.take_length] at hg
  obtain ⟨a, cap, fp, rfl, h2, h3, h4, h5, h6⟩ := hg.kids
  exact ⟨a, cap, fp, h1, h2, h3, h4, h5, h6⟩

theorem box_at (w : World) (cs : List Value) (j : Nat) (v : Value) (h : cs[j]? = some v) : (w.alloc (.cells cs.toArray 29)).cell? ⟨w.heap.size, 0 + j, none⟩ = some v := by
  rw [Nat.zero_add]
  exact box_cell w _ 29 j v (by simpa using h)
theorem len_le {a b : Nat} (h : a = b) (hb : b ≤ 2097152) : a ≤ 2097152 := by omega

/-- An append in a region that draws its order, by what its run comes to. -/
theorem cz_append_run {P : Program} {ops : Array Oper} {o : Oper} {a : Act} {w : World} {K : Act → World → Prop} {Q : Exit → Act → World → Prop} {E : Prop}
    (hg : o.guard = none) (s x : Operand) (t : TypeId) (hop : o.op = Op.call { callee := Callee.builtin Builtin.append, args := #[s, x], argTypes := #[t, t] })
    (v xv : Value) (hs : a.eval s = v) (hx : a.eval x = xv) (R : Value → World → Prop) (hrun : ∃ v' w', (Builtin.append_ #[t, t] o.type #[v, xv]).run P w = .ok v' w' ∧ R v' w')
    (hK : ∀ v' w', R v' w' → K (a.put o.dst v') w') :
    if Region.wanted o (yielded ops a.tmps) = true then Oper.wp P o a w K Q else E := by
  have hw : Region.wanted o (yielded ops a.tmps) = true := by simp [Region.wanted, hg]
  rw [if_pos hw]
  obtain ⟨v', w', hr, h2⟩ := hrun
  unfold Oper.wp
  simp [execOp, hop, resolve, invoke, builtin, hs, hx, hr, Result.andThen]
  exact hK v' w' h2

def CzOk (t : Tm) : Prop := ∀ (op n : Int) (s : ByteArray) (a : Option Addr) (len cap : Nat) (w : World), Lies w 0 t (tmCells op n s a len cap) → t.size ≤ 2097152 →
  Calls Tryz.prog 83 #[.agg #[.int .i64 op, .int .i64 n, .string s, .slice a len cap]] w fun e w' => ∃ a' cap' fp, e = .returned (.agg #[.int .i64 op, .int .i64 n, .string s, .slice a' len cap']) ∧ Own w' t (tmCells op n s a' len cap') fp ∧ (fp.Nodup ∧ ∀ x ∈ fp, w.heap.size ≤ x) ∧ Below w.heap.size w w'

set_option maxRecDepth 100000 in
set_option maxHeartbeats 1000000 in
theorem cz_step (t : Tm) (h : ∀ x ∈ t.kids, CzOk x) : CzOk t := by
  intro op n s a len cap w hl hsz
  cases t with
  | node op' n' s' ks =>
    simp only [Lies, tmCells] at hl
    obtain ⟨a', cap', he, ⟨hs, hlc, hcm⟩, hwf, hk⟩ := hl
    simp only [List.cons.injEq, Value.int.injEq, Value.string.injEq, Value.slice.injEq, true_and, and_true] at he
    obtain ⟨rfl, rfl, rfl, rfl, rfl, rfl⟩ := he
    have hll := Tm.length_le_sizes ks
    have HSZ : Hid (∀ x ∈ ks, x.size ≤ 2097152) := fun x hx => by have := Tm.size_mem hx; simp only [Tm.size] at hsz; omega
    have hlb : ks.length ≤ 2097152 := by simp only [Tm.size] at hsz; omega
    have HS : Hid (s.size ≤ maxLen) := hs
    have HW : Hid ((Lit.int .i64 op).wf = true ∧ (Lit.int .i64 n).wf = true) := hwf
    have hbw0 : Below w.heap.size w ((w.alloc (.cells #[.int .i64 op, .int .i64 n, .string s, .slice a ks.length cap] 29)).alloc (.cells #[.int .i64 0, .int .i64 0, .string ByteArray.empty, .slice none 0 0] 29)) := ((Below.refl _ _).alloc (Nat.le_refl _) _).alloc (by simp) _
    have HK := hide (hk.below hbw0)
    have HB0 := hide hbw0
    have H' : Hid (∀ x ∈ ks, CzOk x) := h
    have hW0 : ((w.alloc (.cells #[.int .i64 op, .int .i64 n, .string s, .slice a ks.length cap] 29)).alloc (.cells #[.int .i64 0, .int .i64 0, .string ByteArray.empty, .slice none 0 0] 29)).heap.size = w.heap.size + 1 + 1 := by simp
    have HM := hide (CzMid.start ((w.alloc (.cells #[.int .i64 op, .int .i64 n, .string s, .slice a ks.length cap] 29)).alloc (.cells #[.int .i64 0, .int .i64 0, .string ByteArray.empty, .slice none 0 0] 29)) op n s ks)
    have HSW := hide hW0
    generalize hlen : ks.length = len at *
    have HL := hide hlen
    clear h hk hwf hs hlc hcm hsz hll hlen hbw0 hW0
    go_enter Tryz.func83, Tryz.ntmps83
    go_wp2_with fail
    generalize hgw : ((w.alloc (.cells #[.int .i64 op, .int .i64 n, .string s, .slice a len cap] 29)).alloc (.cells #[.int .i64 0, .int .i64 0, .string ByteArray.empty, .slice none 0 0] 29)) = W0 at *
    go_loopw [4] (fun i wr => ∃ k : Nat, k ≤ len ∧ i = .int .i64 k ∧ CzMid W0 op n s ks k wr) (fun i _ => len - (intOf i).toNat)
    case atStart => exact ⟨0, Nat.zero_le _, rfl, by have := unhide HM; rw [← hgw] at this ⊢; exact this⟩
    case round =>
      obtain ⟨k, hkl, rfl, hM⟩ := hrel
      obtain ⟨⟨p0, p1, p2, p3⟩, ⟨q0, q1, q2, q3⟩, e0, e1, e2, e3⟩ := boxes2 hgw hM.below
      by_cases hlt : k < len
      · have hlt' : k < ks.length := by have := unhide HL; omega
        obtain ⟨b, o, op1, n1, s1, a1, len1, cap1, rfl, _, hbs, c0, c1, c2, c3, hT⟩ := (unhide HK).elem (k := k) hlt'
        have c0' := (hM.below.cell (p := ⟨b, o + k * 4, none⟩) hbs).trans c0
        have c1' := (hM.below.cell (p := ⟨b, o + k * 4 + 1, none⟩) hbs).trans c1
        have c2' := (hM.below.cell (p := ⟨b, o + k * 4 + 2, none⟩) hbs).trans c2
        have c3' := (hM.below.cell (p := ⟨b, o + k * 4 + 3, none⟩) hbs).trans c3
        have HT : Hid (Lies wr 0 ks[k] (tmCells op1 n1 s1 a1 len1 cap1)) := hT.below hM.below
        have HCT := hide (unhide H' ks[k] (List.getElem_mem hlt'))
        have hz1 := unhide HSZ ks[k] (List.getElem_mem hlt')
        obtain ⟨v, g3, hpush⟩ := hM.cell
        rw [unhide HSW] at g3 hpush
        have HP := hide hpush
        clear c0 c1 c2 c3 hT hpush hM HM q0 q1 q2 q3 e0 e1 e2 e3 p0 p1 p2
        go_wp2_with fail
        go_region_law (first
          | (refine cz_append_run rfl _ _ 27 rfl _ _ rfl rfl (fun v' w' => w'.cell? ⟨w.heap.size + 1 + 1, 3, none⟩ = some v ∧ w'.frozen? ⟨w.heap.size + 1 + 1, 3, none⟩ = false ∧ (∃ xa xl xc, v' = .slice xa xl xc) ∧ CzMid W0 op n s ks (k + 1) (w'.setCell ⟨w.heap.size + 1 + 1, 3, none⟩ v')) (unhide HQ) ?_; rintro v' w' ⟨k1, k2, ⟨xa, xl, xc, rfl⟩, k3⟩; have HK3 := hide k3; clear k3)
          | (go_simp; go_at_call 83; refine (unhide HCT op1 n1 s1 a1 len1 cap1 _ ((unhide HT).below ((Below.refl _ _).drew)) hz1).mono ?_; rintro e w2 ⟨a2, cap2, f2, rfl, hO2, ⟨hnd2, hge2⟩, hb2⟩; have hb2' := below_drew' hb2; have g3 := kpc hb2' g3; have g4 := kpc ((Below.refl w2.heap.size w2).alloc (Nat.le_refl _) (.cells #[.int .i64 op1, .int .i64 n1, .string s1, .slice a2 len1 cap2] 29)) g3; have HQ := hide (unhide HP w2 (w2.alloc (.cells #[.int .i64 op1, .int .i64 n1, .string s1, .slice a2 len1 cap2] 29)) (tmCells op1 n1 s1 a2 len1 cap2) f2 w2.heap.size 0 hb2' hlt' hO2 hnd2 hge2 ((Below.refl _ _).alloc (Nat.le_refl _) _) (fun j v hj => box_at w2 _ j v hj) 1 (len_le (unhide HL) hlb) 27); clear hO2 hnd2 hge2 hb2 hb2'))
        all_goals
          go_wp2_with fail
          exact ⟨⟨k + 1, by omega, by go_num, unhide HK3⟩, by simp [intOf]; omega⟩
      · obtain rfl : k = len := by omega
        obtain ⟨av, cv, fp, hrow, hcv1, hcv2, hko, hnd, hge⟩ := CzMid.kids (ks := ks) (by rw [unhide HL]; exact hM)
        rw [unhide HSW, unhide HL] at hrow
        have g0 := cell_of_row hrow (j := 0) (by simp)
        have g1 := cell_of_row hrow (j := 1) (by simp)
        have g2 := cell_of_row hrow (j := 2) (by simp)
        have g3 := cell_of_row hrow (j := 3) (by simp)
        simp only [List.getElem_toArray, List.getElem_cons_zero, List.getElem_cons_succ] at g0 g1 g2 g3
        have HMM := hide hM.below
        have HKO := hide hko
        have HND := hide hnd
        have HGE := hide hge
        have HCV := hide (And.intro hcv1 hcv2)
        clear hM hko hnd hge hcv1 hcv2 hrow HM
        go_wp2_with fail
        refine bodyPost_ret (v := .agg #[.int .i64 op, .int .i64 n, .string s, .slice av k cv]) (by simp [results, Tryz.results83, go_sem, q0, q1, q2, q3]) rfl ⟨av, cv, fp, rfl, ?_, ⟨unhide HND, fun x hx => by have := unhide HGE x hx; have := unhide HSW; omega⟩, ?_⟩
        · have h1 := Own.of_kids (op := op) (n := n) (s := s) (cap := cv) ⟨unhide HS, unhide HCV⟩ (unhide HW) ((unhide HKO).keep (w' := ((((wr.setCell ⟨w.heap.size + 1, 0, none⟩ (.int .i64 op)).setCell ⟨w.heap.size + 1, 1, none⟩ (.int .i64 n)).setCell ⟨w.heap.size + 1, 2, none⟩ (.string s)).setCell ⟨w.heap.size + 1, 3, none⟩ (.slice av k cv))) fun b hb => by
            have hbb := unhide HGE b hb
            rw [unhide HSW] at hbb
            rw [Below.heap_setCell _ _ _ _ (by show b ≠ _; simp only; omega), Below.heap_setCell _ _ _ _ (by show b ≠ _; simp only; omega), Below.heap_setCell _ _ _ _ (by show b ≠ _; simp only; omega), Below.heap_setCell _ _ _ _ (by show b ≠ _; simp only; omega)])
          rw [unhide HL] at h1
          exact h1
        · have hb3 : Below w.heap.size w wr := (unhide HB0).trans ((unhide HMM).mono (unhide HB0).size)
          exact (((hb3.setCell (by show w.heap.size ≤ w.heap.size + 1; omega) _).setCell (by show w.heap.size ≤ w.heap.size + 1; omega) _).setCell (by show w.heap.size ≤ w.heap.size + 1; omega) _).setCell (by show w.heap.size ≤ w.heap.size + 1; omega) _

theorem cz_any : ∀ (k : Nat) (t : Tm), t.size ≤ k → CzOk t
  | 0, t, h => by have := t.size_pos; omega
  | k + 1, t, h => cz_step t fun x hx => cz_any k x (by
      cases t with
      | node op n s ks =>
        have := Tm.size_mem (ks := ks) hx
        simp only [Tm.size] at h
        omega)

theorem cz_calls (t : Tm) : CzOk t := cz_any t.size t (Nat.le_refl _)

def cmpI (a b : Int) : Int := if a < b then -1 else if b < a then 1 else 0
def cmpS (x y : ByteArray) : Int := if x = y then 0 else if Op.bytesLess x.toList y.toList = true then -1 else 1
def orI (a b : Int) : Int := if a = 0 then b else a
def headC (op n : Int) (s : ByteArray) (len : Nat) (op' n' : Int) (s' : ByteArray) (len' : Nat) : Int := orI (cmpI op op') (orI (cmpI n n') (orI (cmpS s s') (cmpI len len')))

theorem orI_zero {a b : Int} (h : a = 0) : orI a b = b := by unfold orI; rw [if_pos h]
theorem orI_not {a b : Int} (h : a ≠ 0) : orI a b = a := by unfold orI; rw [if_neg h]
theorem orI_eq_zero {a b : Int} : orI a b = 0 ↔ a = 0 ∧ b = 0 := by unfold orI; split <;> omega
theorem cmpI_lt {a b : Int} (h : a < b) : cmpI a b = -1 := by unfold cmpI; rw [if_pos h]
theorem cmpI_gt {a b : Int} (h : b < a) : cmpI a b = 1 := by unfold cmpI; rw [if_neg (by omega), if_pos h]
theorem cmpI_eq {a b : Int} (h : a = b) : cmpI a b = 0 := by unfold cmpI; rw [if_neg (by omega), if_neg (by omega)]
theorem cmpI_zero {a b : Int} : cmpI a b = 0 ↔ a = b := by unfold cmpI; split <;> (try split) <;> omega

theorem toList_inj {x y : ByteArray} (h : x.toList = y.toList) : x = y := by
  rw [ByteArray.toList_eq, ByteArray.toList_eq] at h
  exact Go.WideShapes.bytes_inj h

theorem bytesLess_self : ∀ l : List UInt8, Op.bytesLess l l = false
  | [] => rfl
  | a :: r => by simp [Op.bytesLess, bytesLess_self r]

theorem cmpS_eq {x y : ByteArray} (h : x = y) : cmpS x y = 0 := by unfold cmpS; rw [if_pos h]
theorem cmpS_zero {x y : ByteArray} : cmpS x y = 0 ↔ x = y := by unfold cmpS; split <;> (try split) <;> simp_all
theorem cmpS_lt {x y : ByteArray} (h : Op.bytesLess x.toList y.toList = true) : cmpS x y = -1 := by
  unfold cmpS
  rw [if_neg (fun e => by rw [e, bytesLess_self] at h; cases h), if_pos h]
theorem cmpS_gt {x y : ByteArray} (hn : x ≠ y) (h : Op.bytesLess x.toList y.toList = false) : cmpS x y = 1 := by
  unfold cmpS
  rw [if_neg hn, if_neg (by rw [h]; simp)]

mutual
/-- Below 0, 0 or above 0: the one before the other, alike, behind it. -/
def cmpT : Tm → Tm → Int
  | .node op n s ks, .node op' n' s' ks' => orI (headC op n s ks.length op' n' s' ks'.length) (cmpL ks ks')
def cmpL : List Tm → List Tm → Int
  | t :: r, u :: r' => orI (cmpT t u) (cmpL r r')
  | _, _ => 0
end

/-- Of a list of pairs the first that is not alike. -/
def cmpPs : List (Tm × Tm) → Int
  | [] => 0
  | p :: r => orI (cmpT p.1 p.2) (cmpPs r)

theorem cmpPs_append (a b : List (Tm × Tm)) : cmpPs (a ++ b) = orI (cmpPs a) (cmpPs b) := by
  induction a with
  | nil => simp [cmpPs, orI]
  | cons p r ih =>
    simp only [List.cons_append, cmpPs, ih]
    unfold orI
    split <;> simp_all

theorem cmpPs_zip : ∀ (ks ks' : List Tm), cmpPs (ks.zip ks') = cmpL ks ks'
  | [], _ => by simp [cmpPs, cmpL]
  | _ :: _, [] => by simp [cmpPs, cmpL]
  | t :: r, u :: r' => by simp only [List.zip_cons_cons, cmpPs, cmpL, cmpPs_zip r r']

theorem headC_zero {op n : Int} {s : ByteArray} {len : Nat} {op' n' : Int} {s' : ByteArray} {len' : Nat} : headC op n s len op' n' s' len' = 0 ↔ op = op' ∧ n = n' ∧ s = s' ∧ len = len' := by
  unfold headC
  rw [orI_eq_zero, orI_eq_zero, orI_eq_zero, cmpI_zero, cmpI_zero, cmpS_zero, cmpI_zero]
  exact ⟨fun ⟨a, b, c, d⟩ => ⟨a, b, c, by omega⟩, fun ⟨a, b, c, d⟩ => ⟨a, b, c, by omega⟩⟩

theorem nan32 (x : Int) (w : World) : Calls Tryz.prog 161 #[.int .i64 x] w fun e w' => e = .returned (.bool false) ∧ w' = w := by
  have h : (x != x) = false := by simp
  go_enter Tryz.func161, Tryz.ntmps161
  go_wp2_with fail
  go_ret
  exact ⟨rfl, rfl⟩

theorem nan33 (x : ByteArray) (w : World) : Calls Tryz.prog 162 #[.string x] w fun e w' => e = .returned (.bool false) ∧ w' = w := by
  go_enter Tryz.func162, Tryz.ntmps162
  go_wp2_with fail
  go_ret
  exact ⟨by simp, rfl⟩

theorem cmp30 (x y : Int) (w : World) : Calls Tryz.prog 151 #[.int .i64 x, .int .i64 y] w fun e w' => e = .returned (.int .i64 (cmpI x y)) ∧ w' = w := by
  rcases Int.lt_trichotomy x y with h | h | h
  · go_enter Tryz.func151, Tryz.ntmps151
    go_wp2_with (go_at_call 161; refine (nan32 _ _).mono ?_; rintro e w' ⟨rfl, rfl⟩)
    go_ret
    exact ⟨ret_int (cmpI_lt h).symm, rfl⟩
  · subst h
    have h1 : ¬ x < x := by omega
    go_enter Tryz.func151, Tryz.ntmps151
    go_wp2_with (go_at_call 161; refine (nan32 _ _).mono ?_; rintro e w' ⟨rfl, rfl⟩)
    go_ret
    exact ⟨ret_int (cmpI_eq rfl).symm, rfl⟩
  · have h1 : ¬ x < y := by omega
    go_enter Tryz.func151, Tryz.ntmps151
    go_wp2_with (go_at_call 161; refine (nan32 _ _).mono ?_; rintro e w' ⟨rfl, rfl⟩)
    go_ret
    exact ⟨ret_int (cmpI_gt h).symm, rfl⟩

theorem cmp31 (x y : ByteArray) (w : World) : Calls Tryz.prog 152 #[.string x, .string y] w fun e w' => e = .returned (.int .i64 (cmpS x y)) ∧ w' = w := by
  by_cases he : x = y
  · subst he
    have HE : Hid (cmpS x x = 0) := cmpS_eq rfl
    have hb := bytesLess_self x.toList
    have h2 : (x.toList == x.toList) = true := by simp
    go_enter Tryz.func152, Tryz.ntmps152
    go_wp2_with (go_at_call 162; refine (nan33 _ _).mono ?_; rintro e w' ⟨rfl, rfl⟩)
    go_ret
    exact ⟨ret_int HE.out.symm, rfl⟩
  · have h2 : (x.toList == y.toList) = false := by simpa using fun e => he (toList_inj e)
    cases hb : Op.bytesLess x.toList y.toList with
    | true =>
      have HE : Hid (cmpS x y = -1) := cmpS_lt hb
      clear he h2
      go_enter Tryz.func152, Tryz.ntmps152
      go_wp2_with (go_at_call 162; refine (nan33 _ _).mono ?_; rintro e w' ⟨rfl, rfl⟩)
      go_ret
      exact ⟨ret_int HE.out.symm, rfl⟩
    | false =>
      have HE : Hid (cmpS x y = 1) := cmpS_gt he hb
      clear he
      go_enter Tryz.func152, Tryz.ntmps152
      go_wp2_with (go_at_call 162; refine (nan33 _ _).mono ?_; rintro e w' ⟨rfl, rfl⟩)
      go_ret
      exact ⟨ret_int HE.out.symm, rfl⟩

def orL : List Int → Int
  | [] => 0
  | z :: r => orI z (orL r)

set_option maxHeartbeats 400000 in
theorem or29 (zs : List Int) (b : Nat) (w : World) (hn : zs.length ≤ 1000) (hc : ∀ i, i < zs.length → w.cell? ⟨b, i, none⟩ = some (.int .i64 (zs.getD i 0))) :
    Calls Tryz.prog 150 #[.slice (some ⟨b, 0, none⟩) zs.length zs.length] w fun e w' => e = .returned (.int .i64 (orL zs)) ∧ w' = w := by
  have HC : Hid (∀ i, i < zs.length → w.cell? ⟨b, i, none⟩ = some (.int .i64 (zs.getD i 0))) := hc
  clear hc
  generalize hlen : zs.length = len at *
  have HL : Hid (zs.length = len) := hlen
  clear hlen
  go_enter Tryz.func150, Tryz.ntmps150
  go_wp2_with fail
  go_loop [8] (fun i => ∃ k : Nat, k ≤ len ∧ i = .int .i64 k ∧ orL zs = orL (zs.drop k)) (fun i => len - (intOf i).toNat)
  case atStart => exact ⟨0, Nat.zero_le _, rfl, rfl⟩
  case round =>
    obtain ⟨k, hk, rfl, he⟩ := hrel
    have HE : Hid (orL zs = orL (zs.drop k)) := he
    clear he
    by_cases hlt : k < len
    · have hlt' : k < zs.length := by have := HL.out; omega
      have hcell : w.cell? ⟨b, k, none⟩ = some (.int .i64 zs[k]) := by rw [HC.out k hlt]; simp [hlt']
      have hd : zs.drop k = zs[k] :: zs.drop (k + 1) := (List.getElem_cons_drop hlt').symm
      have HD : Hid (orL (zs.drop k) = orI zs[k] (orL (zs.drop (k + 1)))) := by show _ = _; rw [hd]; rfl
      clear hd
      generalize zs[k] = z at *
      by_cases hz : z = 0
      · subst hz
        have hz2 : ((0 : Int) != 0) = false := rfl
        go_wp2_with fail
        go_round
        case rel => exact ⟨k + 1, by omega, by go_num, by rw [HE.out, HD.out, orI_zero rfl]⟩
        case measure => simp [intOf]; omega
      · have hz2 : (z != 0) = true := by simpa using hz
        have HZ : Hid (z ≠ 0) := hz
        clear hz
        go_wp2_with fail
        go_ret
        exact ⟨ret_int (by rw [HE.out, HD.out, orI_not HZ.out]), rfl⟩
    · go_wp2_with fail
      go_ret
      exact ⟨ret_int (by rw [HE.out, List.drop_of_length_le (by have := HL.out; omega)]; rfl), rfl⟩

theorem or29_4 (c0 c1 c2 c3 : Int) (b : Nat) (w : World) (h0 : w.cell? ⟨b, 0, none⟩ = some (.int .i64 c0)) (h1 : w.cell? ⟨b, 1, none⟩ = some (.int .i64 c1)) (h2 : w.cell? ⟨b, 2, none⟩ = some (.int .i64 c2)) (h3 : w.cell? ⟨b, 3, none⟩ = some (.int .i64 c3)) :
    Calls Tryz.prog 150 #[.slice (some ⟨b, 0, none⟩) 4 4] w fun e w' => e = .returned (.int .i64 (orL [c0, c1, c2, c3])) ∧ w' = w :=
  or29 [c0, c1, c2, c3] b w (by simp) fun i hi => by
    match i, hi with
    | 0, _ => exact h0
    | 1, _ => exact h1
    | 2, _ => exact h2
    | 3, _ => exact h3

theorem box_drew (w : World) (cs : Array Value) (t : TypeId) (j : Nat) (v : Value) (b : Nat) (hb : b = w.heap.size) (h : cs[j]? = some v) : (w.alloc (.cells cs t)).drew.cell? ⟨b, j, none⟩ = some v := by
  rw [hb]
  exact box_cell w cs t j v h

theorem heads_list (op n : Int) (s : ByteArray) (len : Nat) (op' n' : Int) (s' : ByteArray) (len' : Nat) :
    orL [cmpI op op', cmpI n n', cmpS s s', cmpI len len'] = headC op n s len op' n' s' len' := by
  simp only [orL, headC]
  congr 3
  unfold orI
  split <;> simp_all

set_option maxHeartbeats 2000000 in
theorem heads28 (op n : Int) (s : ByteArray) (a : Option Addr) (len cap : Nat) (op' n' : Int) (s' : ByteArray) (a' : Option Addr) (len' cap' : Nat) (w : World) :
    Calls Tryz.prog 129 #[.agg #[.int .i64 op, .int .i64 n, .string s, .slice a len cap], .agg #[.int .i64 op', .int .i64 n', .string s', .slice a' len' cap']] w fun e w' => e = .returned (.int .i64 (headC op n s len op' n' s' len')) ∧ Below w.heap.size w w' := by
  have HH := heads_list op n s len op' n' s' len'
  have HH' : Hid (orL [cmpI op op', cmpI n n', cmpS s s', cmpI len len'] = headC op n s len op' n' s' len') := HH
  clear HH
  go_enter Tryz.func129, Tryz.ntmps129
  go_wp2_with fail
  go_region_held3 (fun v => v.cell? ⟨w.heap.size, 0, none⟩ = some (.int .i64 op) ∧ v.cell? ⟨w.heap.size, 1, none⟩ = some (.int .i64 n) ∧ v.cell? ⟨w.heap.size, 2, none⟩ = some (.string s) ∧ v.cell? ⟨w.heap.size, 3, none⟩ = some (.slice a len cap) ∧
      v.cell? ⟨w.heap.size + 1, 0, none⟩ = some (.int .i64 op') ∧ v.cell? ⟨w.heap.size + 1, 1, none⟩ = some (.int .i64 n') ∧ v.cell? ⟨w.heap.size + 1, 2, none⟩ = some (.string s') ∧ v.cell? ⟨w.heap.size + 1, 3, none⟩ = some (.slice a' len' cap')) (go_keep)
    (first
      | (go_at_call 151; refine (cmp30 _ _ _).mono ?_; rintro e w' ⟨rfl, rfl⟩)
      | (go_at_call 152; refine (cmp31 _ _ _).mono ?_; rintro e w' ⟨rfl, rfl⟩)
      | (go_at_call 150
         refine (or29_4 (cmpI op op') (cmpI n n') (cmpS s s') (cmpI len len') _ _ ?_ ?_ ?_ ?_).mono ?_
         · exact box_drew _ _ _ 0 _ _ (by simp) rfl
         · exact box_drew _ _ _ 1 _ _ (by simp) rfl
         · exact box_drew _ _ _ 2 _ _ (by simp) rfl
         · exact box_drew _ _ _ 3 _ _ (by simp) rfl
         rintro e w' ⟨rfl, rfl⟩))
  go_wp2_with fail
  go_ret
  exact ⟨ret_int HH'.out, ((((Below.refl _ _).alloc (Nat.le_refl _) _).alloc (by simp) _).alloc (by simp; omega) _).drew⟩

theorem info47 : (Tryz.prog.info? 122).map (fun i => (i.zero, i.size, i.bytes)) = some (some (.agg #[.int .i64 0, .int .i64 0, .string ByteArray.empty, .slice none 0 0, .int .i64 0, .int .i64 0, .string ByteArray.empty, .slice none 0 0]), 8, 112) := by kernel_rfl

/-- Two terms, each with its cells. -/
structure Pr where
  t : Tm
  cs : List Value
  t' : Tm
  cs' : List Value

def Pr.cells (p : Pr) : List Value := p.cs ++ p.cs'
def Pr.both (p : Pr) : Tm × Tm := (p.t, p.t')

structure Pr.Ok (w : World) (p : Pr) : Prop where
  l : Lies w 0 p.t p.cs
  l' : Lies w 0 p.t' p.cs'

theorem Pr.Ok.length {w : World} {p : Pr} (h : p.Ok w) : p.cells.length = 8 := by
  unfold Pr.cells
  rw [List.length_append, h.l.length, h.l'.length]

theorem Pr.Ok.one {w : World} {p : Pr} (h : p.Ok w) : ∀ u ∈ p.cells, u.oneCell' = true := fun u hu => by
  rcases List.mem_append.1 hu with hu | hu
  · exact h.l.one u hu
  · exact h.l'.one u hu

theorem prs_length {w : World} : ∀ {ps : List Pr}, (∀ p ∈ ps, p.Ok w) → (ps.flatMap Pr.cells).length = ps.length * 8
  | [], _ => rfl
  | p :: r, h => by
    have h1 := (h p (by simp)).length
    have h2 := prs_length (ps := r) fun q hq => h q (by simp [hq])
    simp only [List.flatMap_cons, List.length_append, List.length_cons, h1, h2]
    omega

/-- The list that the call keeps. -/
structure Stq (w : World) (ps : List Pr) (v : Value) (wr : World) : Prop where
  below : Below w.heap.size w wr
  own : wr.ownsRow w.heap.size 122 8 v ps.length (ps.flatMap Pr.cells)
  lies : ∀ p ∈ ps, p.Ok w

theorem Stq.shape {w wr : World} {ps : List Pr} {v : Value} (h : Stq w ps v wr) : ∃ a c, v = .slice a ps.length c ∧ ps.length ≤ c ∧ c ≤ maxLen := by
  rcases h.own.2 with ⟨h1, h2⟩ | ⟨g, cap, cur, h1, _, _, h2, h3, _⟩
  · exact ⟨none, 0, by rw [h2]; exact h1, by omega, by simp⟩
  · exact ⟨_, _, h1, h2, h3⟩

theorem Stq.top {w wr : World} {us : List Pr} {p : Pr} {v : Value} (h : Stq w (us ++ [p]) v wr) :
    ∃ g c, v = .slice (some ⟨g, 0, none⟩) (us.length + 1) c ∧ us.length + 1 ≤ c ∧ c ≤ maxLen ∧ (∀ j u, p.cells[j]? = some u → wr.cell? ⟨g, us.length * 8 + j, none⟩ = some u) ∧ Stq w us (.slice (some ⟨g, 0, none⟩) us.length c) wr := by
  have ho := h.own
  rcases ho.2 with ⟨h1, h2⟩ | ⟨g, cap, cur, h1, _, _, h2, h3, _⟩
  · simp at h2
  · simp only [List.length_append, List.length_cons, List.length_nil, Nat.zero_add] at h1 h2
    have hus := prs_length (ps := us) (w := w) fun q hq => h.lies q (by simp [hq])
    refine ⟨g, cap, h1, h2, h3, fun j u hj => ?_, h.below, ?_, fun q hq => h.lies q (by simp [hq])⟩
    · have hj8 : j < 8 := by
        have := (h.lies p (by simp)).length
        have := (List.getElem?_eq_some_iff.1 hj).1
        omega
      have hcells := ho.cells (g := g) (by rw [h1]; rfl) (us.length * 8 + j) u (by
        simp only [List.flatMap_append, List.flatMap_cons, List.flatMap_nil, List.append_nil]
        rw [List.getElem?_append_right (by omega), hus, show us.length * 8 + j - us.length * 8 = j by omega]
        exact hj)
      rw [Addr.add_mid, Nat.zero_add] at hcells
      exact hcells
    · rw [h1] at ho
      simp only [List.flatMap_append, List.flatMap_cons, List.flatMap_nil, List.append_nil, List.length_append, List.length_cons, List.length_nil, Nat.zero_add] at ho
      exact ownsRow_pop (n := us.length) hus ho

/-- A pair is put on, out of a block of its own. -/
theorem Stq.push {w wr : World} {us : List Pr} {v : Value} (h : Stq w us v wr) {p : Pr} (hp : p.Ok w) {w0 : World} {b : Nat} (hb : Below wr.heap.size wr w0) (hr : w0.rangeAt b 0 p.cells) (hn : us.length + 1 ≤ 4194304) (ty : TypeId) :
    ∃ v' w', (Builtin.append_ #[123, 123] ty #[v, .slice (some ⟨b, 0, none⟩) 1 1]).run Tryz.prog w0 = .ok v' w' ∧ Stq w (us ++ [p]) v' w' ∧ w0.grownBy w' v.ownBlock ∧ (v'.ownBlock = v.ownBlock ∨ v'.ownBlock = some w0.heap.size) := by
  obtain ⟨i, hi, hzz⟩ := Option.map_eq_some_iff.1 info47
  simp only [Prod.mk.injEq] at hzz
  obtain ⟨hz, hs, hby⟩ := hzz
  have ho : w0.ownsRow w.heap.size 122 8 v us.length (us.flatMap Pr.cells) :=
    h.own.kept (w' := w0) (row := none) ⟨hb.os, hb.tape, hb.output, hb.size, fun k hk _ => hb.block k hk⟩ (by cases v.ownBlock <;> simp)
  have hbw : Below w.heap.size w w0 := h.below.trans (hb.mono h.below.size)
  obtain ⟨g, cap, w', g1, g2, g3, g4, _⟩ := run_append_lies (P := Tryz.prog) w0 123 ty w.heap.size 122 i _ 8 112 Tryz.underlying123 hi hz hs hby rfl (by omega) v us.length _ ho ⟨b, 0, none⟩ 1 1 p.cells
    (by rw [hp.length]) (fun j u hj => by rw [Addr.add_mid]; exact hr j u hj) hp.one (by omega) (by unfold maxLen; omega) (by omega) hbw.size _ rfl
  refine ⟨_, w', g1, ⟨hbw.grown g3 hbw.size (fun k hk => (ho.lt k hk).1), ?_, fun q hq => ?_⟩, g3, ?_⟩
  · rw [List.length_append, List.flatMap_append]
    simpa using g2
  · rcases List.mem_append.1 hq with hq | hq
    · exact h.lies q hq
    · rw [List.mem_singleton] at hq
      subst hq
      exact hp
  · rcases g4 with g4 | g4
    · exact .inl (by rw [g4]; rfl)
    · exact .inr (by rw [← g4]; rfl)

theorem Stq.start {w w0 : World} {p : Pr} (hb : Below w.heap.size w w0) (hp : p.Ok w) :
    Stq w [p] (.slice (some ⟨w0.heap.size, 0, none⟩) 1 1) (w0.alloc (.cells p.cells.toArray 122)) := by
  refine ⟨hb.alloc hb.size _, ?_, fun q hq => by rw [List.mem_singleton] at hq; subst hq; exact hp⟩
  have := World.ownsRow_lit (base := w.heap.size) (e := 122) (size := 8) w0 p.cells.toArray 1 hb.size (by simp [maxLen]) (by simp [hp.length])
  simpa using this

/-- The kids of two terms, one by one, with their cells. -/
theorem kid_prs {w : World} {a a' : Option Addr} : ∀ {i : Nat} {ks ks' : List Tm}, LiesAll w 0 a i ks → LiesAll w 0 a' i ks' → ks.length = ks'.length →
    ∃ prs : List Pr, prs.map Pr.t = ks ∧ prs.map Pr.t' = ks' ∧ (∀ q ∈ prs, q.Ok w) ∧ ∀ m (q : Pr), prs[m]? = some q → ∃ b o b' o', a = some ⟨b, o, none⟩ ∧ a' = some ⟨b', o', none⟩ ∧ w.rangeAt b (o + (i + m) * 4) q.cs ∧ w.rangeAt b' (o' + (i + m) * 4) q.cs'
  | i, [], [], _, _, _ => ⟨[], rfl, rfl, fun _ h => (by cases h), fun m q h => by simp at h⟩
  | i, [], _ :: _, _, _, h => by simp at h
  | i, _ :: _, [], _, _, h => by simp at h
  | i, t :: r, t' :: r', h, h', hlen => by
    simp only [LiesAll] at h h'
    obtain ⟨⟨b, o, cs, ha, _, hr, ht⟩, h2⟩ := h
    obtain ⟨⟨b', o', cs', ha', _, hr', ht'⟩, h2'⟩ := h'
    obtain ⟨prs, k1, k2, k3, k4⟩ := kid_prs h2 h2' (by simpa using hlen)
    refine ⟨⟨t, cs, t', cs'⟩ :: prs, by simp [k1], by simp [k2], fun q hq => ?_, fun m q hm => ?_⟩
    · rcases List.mem_cons.1 hq with rfl | hq
      · exact ⟨ht, ht'⟩
      · exact k3 q hq
    · cases m with
      | zero =>
        simp only [List.getElem?_cons_zero, Option.some.injEq] at hm
        subst hm
        exact ⟨b, o, b', o', ha, ha', hr, hr'⟩
      | succ m =>
        obtain ⟨b1, o1, b1', o1', e1, e2, e3, e4⟩ := k4 m q (by simpa using hm)
        exact ⟨b1, o1, b1', o1', e1, e2, by rwa [show i + (m + 1) = i + 1 + m by omega], by rwa [show i + (m + 1) = i + 1 + m by omega]⟩

def sizesQ (ps : List Pr) : Nat := Tm.sizes (ps.map Pr.t)
theorem sizesQ_append (a b : List Pr) : sizesQ (a ++ b) = sizesQ a + sizesQ b := by simp [sizesQ, Tm.sizes_append]
theorem sizesQ_one (p : Pr) : sizesQ [p] = p.t.size := by simp [sizesQ, Tm.sizes]
theorem sizesQ_cons (p : Pr) (r : List Pr) : sizesQ (p :: r) = p.t.size + sizesQ r := by simp [sizesQ, Tm.sizes]
theorem sizesQ_reverse (ps : List Pr) : sizesQ ps.reverse = sizesQ ps := by
  induction ps with
  | nil => rfl
  | cons p r ih => rw [List.reverse_cons, sizesQ_append, ih, sizesQ_one, sizesQ_cons]; omega
theorem length_le_sizesQ (ps : List Pr) : ps.length ≤ sizesQ ps := by
  have := Tm.length_le_sizes (ps.map Pr.t)
  simpa [sizesQ] using this

/-- What the list comes to, from its end on. -/
def cmpQ (ps : List Pr) : Int := cmpPs (ps.map Pr.both).reverse
theorem cmpQ_nil : cmpQ [] = 0 := rfl
theorem cmpQ_snoc (us : List Pr) (p : Pr) : cmpQ (us ++ [p]) = orI (cmpT p.t p.t') (cmpQ us) := by
  simp [cmpQ, cmpPs, Pr.both]
theorem both_zip {prs : List Pr} {ks ks' : List Tm} (h : prs.map Pr.t = ks) (h' : prs.map Pr.t' = ks') : prs.map Pr.both = ks.zip ks' := by
  rw [← h, ← h']
  clear h h'
  induction prs with
  | nil => rfl
  | cons p r ih => simp [Pr.both, ih]
theorem cmpQ_kids (us prs : List Pr) {ks ks' : List Tm} (h : prs.map Pr.t = ks) (h' : prs.map Pr.t' = ks') : cmpQ (us ++ prs.reverse) = orI (cmpL ks ks') (cmpQ us) := by
  unfold cmpQ
  rw [List.map_append, List.map_reverse, both_zip h h', List.reverse_append, List.reverse_reverse, cmpPs_append, cmpPs_zip]

/-- In the middle of a round: the kids from k on are put on. -/
structure Mid (w : World) (us prs : List Pr) (k : Nat) (nb : Nat) (a : Option Addr) (cap : Nat) (a' : Option Addr) (cap' : Nat) (len : Nat) (v : Value) (wr : World) : Prop where
  stq : Stq w (us ++ (prs.drop k).reverse) v wr
  blk : v.ownBlock ≠ some nb
  lt : nb < wr.heap.size
  n3 : wr.cell? ⟨nb, 3, none⟩ = some (.slice a len cap)
  n7 : wr.cell? ⟨nb, 7, none⟩ = some (.slice a' len cap')

theorem Mid.step {w wr : World} {us prs : List Pr} {m nb : Nat} {a a' : Option Addr} {cap cap' len : Nat} {v : Value} (h : Mid w us prs (m + 1) nb a cap a' cap' len v wr) {q : Pr} (hq : prs[m]? = some q) (hok : q.Ok w)
    (hn : us.length + prs.length ≤ 4194304) {w0 : World} {b : Nat} (hb : Below wr.heap.size wr w0) (hr : w0.rangeAt b 0 q.cells) (ty : TypeId) :
    ∃ v' w', (Builtin.append_ #[123, 123] ty #[v, .slice (some ⟨b, 0, none⟩) 1 1]).run Tryz.prog w0 = .ok v' w' ∧ Mid w us prs m nb a cap a' cap' len v' w' := by
  have hml : m < prs.length := (List.getElem?_eq_some_iff.1 hq).1
  have hd : prs.drop m = q :: prs.drop (m + 1) := by
    rw [← List.getElem_cons_drop hml]
    congr 1
    rw [List.getElem?_eq_getElem hml] at hq
    cases hq
    rfl
  obtain ⟨v', w', g1, g2, g3, g4⟩ := h.stq.push hok hb hr (by simp only [List.length_append, List.length_reverse, List.length_drop]; omega) ty
  have hlt : nb < w0.heap.size := Nat.lt_of_lt_of_le h.lt hb.size
  have hc : ∀ o, w'.cell? ⟨nb, o, none⟩ = wr.cell? ⟨nb, o, none⟩ := fun o =>
    (World.cell?_of_block (w := w0) (a := ⟨nb, o, none⟩) (g3.block nb hlt (fun e => h.blk e.symm))).trans (hb.cell (p := ⟨nb, o, none⟩) h.lt)
  refine ⟨v', w', g1, ?_, ?_, Nat.lt_of_lt_of_le hlt g3.size, (hc 3).trans h.n3, (hc 7).trans h.n7⟩
  · rw [hd, List.reverse_cons, ← List.append_assoc]
    exact g2
  · rcases g4 with g4 | g4
    · rw [g4]; exact h.blk
    · rw [g4]
      intro e
      simp only [Option.some.injEq] at e
      omega

/-- At a step of a region that draws its order: an append, by what its run comes to. -/
theorem step_append_run {P : Program} {w : World} {ops : Array Oper} {o : Oper} {a : Act} {K : Act → World → Prop} {Q : Exit → Act → World → Prop} {E : Prop} (hgd : o.guard = none) (s x : Operand) (t : TypeId)
    (ho : o.op = .call { callee := .builtin .append, args := #[s, x], argTypes := #[t, t] }) (v xv : Value) (hs : a.eval s = v) (hx : a.eval x = xv) (R : Value → World → Prop)
    (hrun : ∃ v' w', (Builtin.append_ #[t, t] o.type #[v, xv]).run P w = .ok v' w' ∧ R v' w') (h : ∀ v' w', R v' w' → K (a.put o.dst v') w') :
    if Region.wanted o (yielded ops a.tmps) = true then Oper.wp P o a w K Q else E := by
  have hw : Region.wanted o (yielded ops a.tmps) = true := by simp [Region.wanted, hgd]
  rw [if_pos hw]
  obtain ⟨v', w', hr, h2⟩ := hrun
  unfold Oper.wp execOp
  simp only [ho, resolve, invoke, builtin, Sem.run_bind, Sem.run_pure, Result.andThen_ok, List.map_toArray, List.map_cons, List.map_nil, hs, hx, hr]
  exact h v' w' h2

theorem below_alls {B : Nat} {w v v' : World} (h : Below B w v) (hb : Below v.heap.size v v') (hB : B ≤ v.heap.size) : Below B w v' := h.trans (hb.mono hB)

theorem range_box (w : World) (cs : List Value) (t : TypeId) : (w.alloc (.cells cs.toArray t)).drew.rangeAt w.heap.size 0 cs := fun j v hj => by
  rw [Nat.zero_add]
  exact box_cell w cs.toArray t j v (by simpa using hj)

theorem cells8 (w : World) (g o : Nat) (cs : List Value) (c0 c1 c2 c3 c4 c5 c6 c7 : Value) (hc : cs = [c0, c1, c2, c3, c4, c5, c6, c7]) (h : ∀ j u, cs[j]? = some u → w.cell? ⟨g, o + j, none⟩ = some u) :
    w.cell? ⟨g, o, none⟩ = some c0 ∧ w.cell? ⟨g, o + 1, none⟩ = some c1 ∧ w.cell? ⟨g, o + 2, none⟩ = some c2 ∧ w.cell? ⟨g, o + 3, none⟩ = some c3 ∧
    w.cell? ⟨g, o + 4, none⟩ = some c4 ∧ w.cell? ⟨g, o + 5, none⟩ = some c5 ∧ w.cell? ⟨g, o + 6, none⟩ = some c6 ∧ w.cell? ⟨g, o + 7, none⟩ = some c7 := by
  subst hc
  exact ⟨h 0 _ rfl, h 1 _ rfl, h 2 _ rfl, h 3 _ rfl, h 4 _ rfl, h 5 _ rfl, h 6 _ rfl, h 7 _ rfl⟩

theorem Stq.on {w wr w2 : World} {ps : List Pr} {v : Value} (h : Stq w ps v wr) (hb : Below wr.heap.size wr w2) : Stq w ps v w2 :=
  ⟨h.below.trans (hb.mono h.below.size), h.own.kept (w' := w2) (row := none) ⟨hb.os, hb.tape, hb.output, hb.size, fun k hk _ => hb.block k hk⟩ (by cases v.ownBlock <;> simp), h.lies⟩

set_option maxHeartbeats 2000000 in
theorem cmp24 (t t' : Tm) (op n : Int) (s : ByteArray) (a : Option Addr) (len cap : Nat) (op' n' : Int) (s' : ByteArray) (a' : Option Addr) (len' cap' : Nat) (w : World) (hl : Lies w 0 t (tmCells op n s a len cap)) (hl' : Lies w 0 t' (tmCells op' n' s' a' len' cap'))
    (hsz : t.size ≤ 2097152) :
    Calls Tryz.prog 84 #[.agg #[.int .i64 op, .int .i64 n, .string s, .slice a len cap], .agg #[.int .i64 op', .int .i64 n', .string s', .slice a' len' cap']] w fun e w' => e = .returned (.int .i64 (cmpT t t')) ∧ Below w.heap.size w w' := by
  have HS : Stq w [⟨t, tmCells op n s a len cap, t', tmCells op' n' s' a' len' cap'⟩] (.slice (some ⟨w.heap.size + 1 + 1, 0, none⟩) 1 1)
      (((w.alloc (.cells #[.int .i64 op, .int .i64 n, .string s, .slice a len cap] 29)).alloc (.cells #[.int .i64 op', .int .i64 n', .string s', .slice a' len' cap'] 29)).alloc (.cells #[.int .i64 op, .int .i64 n, .string s, .slice a len cap, .int .i64 op', .int .i64 n', .string s', .slice a' len' cap'] 122)) := by
    have := Stq.start (w := w) (w0 := (w.alloc (.cells #[.int .i64 op, .int .i64 n, .string s, .slice a len cap] 29)).alloc (.cells #[.int .i64 op', .int .i64 n', .string s', .slice a' len' cap'] 29)) (p := ⟨t, tmCells op n s a len cap, t', tmCells op' n' s' a' len' cap'⟩)
      (((Below.refl _ _).alloc (Nat.le_refl _) _).alloc (by simp) _) ⟨hl, hl'⟩
    simpa [tmCells, Pr.cells] using this
  have HS' := hide HS
  have HC : Hid (cmpQ [⟨t, tmCells op n s a len cap, t', tmCells op' n' s' a' len' cap'⟩] = cmpT t t') := by
    show _ = _
    have := cmpQ_snoc [] ⟨t, tmCells op n s a len cap, t', tmCells op' n' s' a' len' cap'⟩
    rw [List.nil_append, cmpQ_nil] at this
    rw [this]
    simp only [orI]
    split <;> simp_all
  have HZ : Hid (sizesQ [⟨t, tmCells op n s a len cap, t', tmCells op' n' s' a' len' cap'⟩] = t.size) := sizesQ_one _
  clear HS
  generalize cmpT t t' = C at *
  generalize t.size = tot at *
  clear hl hl'
  go_enter Tryz.func84, Tryz.ntmps84
  go_wp2_with fail
  go_loopg [5] (tot + 1) (fun gk v wr => ∃ ps : List Pr, sizesQ ps < gk ∧ sizesQ ps ≤ tot ∧ cmpQ ps = C ∧ Stq w ps v wr)
  case atStart => exact ⟨_, by rw [HZ.out]; omega, by rw [HZ.out]; exact Nat.le_refl _, HC.out, unhide HS'⟩
  case round =>
    obtain ⟨ps, hgk, hpt, hC, hstk⟩ := hrel
    clear HS' HC HZ
    by_cases hps : ps = []
    · subst hps
      obtain ⟨av, c, hv, _⟩ := hstk.shape
      simp only [List.length_nil] at hv
      have HB := hide hstk.below
      have HC := hide hC
      clear hstk hpt hgk hC
      subst hv
      go_wp2_with fail
      go_ret
      exact ⟨ret_int (unhide HC), unhide HB⟩
    · obtain ⟨us, p, rfl⟩ : ∃ us p, ps = us ++ [p] := ⟨ps.dropLast, ps.getLast hps, (List.dropLast_concat_getLast hps).symm⟩
      obtain ⟨g, c, rfl, hc1, hc2, hcell, hus⟩ := hstk.top
      have hok := hstk.lies p (by simp)
      have hlen := length_le_sizesQ us
      rw [sizesQ_append, sizesQ_one] at hgk hpt
      rw [cmpQ_snoc] at hC
      obtain ⟨pt, pc, pt', pc'⟩ := p
      obtain ⟨op1, n1, s1, ks⟩ := pt
      obtain ⟨op2, n2, s2, ks'⟩ := pt'
      obtain ⟨hla, hlb⟩ := hok
      simp only [Lies] at hla hlb
      obtain ⟨a1, cap1, rfl, ⟨_, hk1, hk2⟩, _, hk⟩ := hla
      obtain ⟨a2, cap2, rfl, ⟨_, hk1', hk2'⟩, _, hk'⟩ := hlb
      simp only [cmpT] at hC
      obtain ⟨p0, p1, p2, p3, p4, p5, p6, p7⟩ := cells8 _ _ _ _ _ _ _ _ _ _ _ _ rfl hcell
      have hul : us.length ≤ 2097152 := by omega
      have hkb : ks.length ≤ 9223372036854775807 := by unfold maxLen at hk2; omega
      have hkb' : ks'.length ≤ 9223372036854775807 := by unfold maxLen at hk2'; omega
      have HT : Hid (g < wr.heap.size) := lt_of_cell p0
      have HU := hide hus
      have HC := hide hC
      have HG := hide hgk
      have HP := hide hpt
      have HK := hide hk
      have HK' := hide hk'
      unfold maxLen at hc2
      clear hgk hpt hC hstk hcell hus hlen hk hk' hk1 hk2 hk1' hk2' hps
      generalize hulg : us.length = ul at *
      have HUL := hide hulg
      clear hulg
      generalize hl1 : ks.length = l1 at *
      generalize hl2 : ks'.length = l2 at *
      have HL1 := hide hl1
      have HL2 := hide hl2
      clear hl1 hl2
      have hh := heads28 op1 n1 s1 a1 l1 cap1 op2 n2 s2 a2 l2 cap2
      have HN : Hid (Below wr.heap.size wr (wr.alloc (.cells #[.int .i64 op1, .int .i64 n1, .string s1, .slice a1 l1 cap1, .int .i64 op2, .int .i64 n2, .string s2, .slice a2 l2 cap2] 122))) := (Below.refl _ _).alloc (Nat.le_refl _) _
      have HN3 := hide (box_cell wr #[.int .i64 op1, .int .i64 n1, .string s1, .slice a1 l1 cap1, .int .i64 op2, .int .i64 n2, .string s2, .slice a2 l2 cap2] 122 3 _ rfl)
      have HN7 := hide (box_cell wr #[.int .i64 op1, .int .i64 n1, .string s1, .slice a1 l1 cap1, .int .i64 op2, .int .i64 n2, .string s2, .slice a2 l2 cap2] 122 7 _ rfl)
      by_cases hh0 : headC op1 n1 s1 l1 op2 n2 s2 l2 = 0
      · obtain ⟨e1, e2, e3, e4⟩ := headC_zero.1 hh0
        subst e4
        obtain ⟨prs, q1, q2, q3, q4⟩ := kid_prs (unhide HK) (unhide HK') ((unhide HL1).trans (unhide HL2).symm)
        have hpl : prs.length = l1 := by rw [← unhide HL1, ← q1]; simp
        have HPL := hide hpl
        have HQ1 := hide q1
        have HQ2 := hide q2
        have HQ3 := hide q3
        have HQ4 := hide q4
        have HH := hide hh0
        have hkz := Tm.length_le_sizes ks
        have hl1 : l1 ≤ 2097152 := by have h1 := unhide HP; have h2 := unhide HL1; simp only [Tm.size] at h1; omega
        have hnn : us.length + prs.length ≤ 4194304 := by have := unhide HUL; omega
        have HNN := hide hnn
        clear e1 e2 e3 hpl q1 q2 q3 q4 hh0 hnn hkz
        go_wp2_with fail
        refine (hh _).mono ?_
        rintro e w2 ⟨rfl, hb2⟩
        rw [unhide HH]
        have hM : Mid w us prs l1 wr.heap.size a1 cap1 a2 cap2 l1 (.slice (some ⟨g, 0, none⟩) ul c) w2 := by
          refine ⟨?_, ?_, ?_, ?_, ?_⟩
          · rw [List.drop_of_length_le (by rw [unhide HPL]; exact Nat.le_refl _), List.reverse_nil, List.append_nil]
            exact ((unhide HU).on (unhide HN)).on hb2
          · intro e
            simp only [Value.ownBlock, Option.some.injEq] at e
            have := unhide HT
            omega
          · have := hb2.size
            simp at this
            omega
          · exact (hb2.cell (p := ⟨wr.heap.size, 3, none⟩) (by simp)).trans (unhide HN3)
          · exact (hb2.cell (p := ⟨wr.heap.size, 7, none⟩) (by simp)).trans (unhide HN7)
        have n3 := hM.n3
        have HM := hide hM
        generalize wr.heap.size = nb at *
        clear hM HN HN3 HN7 hh p0 p1 p2 p3 p4 p5 p6 p7 HT HU hb2
        go_wp2_with fail
        go_loopw [5, 9] (fun v i wx => ∃ (k : Nat) (z : Int), k ≤ l1 ∧ i = .int .i64 z ∧ z + 1 = k ∧ Mid w us prs k nb a1 cap1 a2 cap2 l1 v wx) (fun _ i _ => (intOf i + 1).toNat)
        case atStart => exact ⟨l1, (l1 : Int) - 1, Nat.le_refl _, rfl, by omega, unhide HM⟩
        case round =>
          obtain ⟨k, z, hk, rfl, hzk, hM⟩ := hrel
          clear HM n3
          cases k with
          | zero =>
            obtain rfl : z = -1 := by omega
            have HM := hide hM
            clear hM hzk hk
            have HD : Hid (sizesQ (us ++ prs.reverse) = sizesQ us + Tm.sizes ks) := by
              show _ = _
              rw [sizesQ_append, sizesQ_reverse]
              unfold sizesQ
              rw [unhide HQ1]
            have HE : Hid (cmpQ (us ++ prs.reverse) = C) := by
              show _ = _
              rw [cmpQ_kids us prs (unhide HQ1) (unhide HQ2), ← unhide HC, unhide HH, orI_zero (b := cmpL ks ks') rfl]
            go_wp2_with fail
            go_roundg (sizesQ us + Tm.sizes ks + 1)
            case measure => have := unhide HG; simp only [Tm.size] at this; omega
            case rel =>
              exact ⟨us ++ prs.reverse, by rw [unhide HD]; omega, by have := unhide HP; simp only [Tm.size] at this; rw [unhide HD]; omega, unhide HE, by have := (unhide HM).stq; rwa [List.drop_zero] at this⟩
          | succ m =>
            obtain rfl : z = (m : Int) := by omega
            obtain ⟨q, hq⟩ : ∃ q, prs[m]? = some q := ⟨prs[m]'(by rw [unhide HPL]; omega), List.getElem?_eq_getElem _⟩
            obtain ⟨b, o, b', o', rfl, rfl, r1, r2⟩ := unhide HQ4 m q hq
            have hok := unhide HQ3 q (List.mem_of_getElem? hq)
            rw [Nat.zero_add] at r1 r2
            have r1' := rangeAt_below r1 hM.stq.below
            have r2' := rangeAt_below r2 hM.stq.below
            obtain ⟨qt, qc, qt', qc'⟩ := q
            obtain ⟨y0, y1, y2, y3, y4, y5, hy⟩ := hok.l.cells
            obtain ⟨y0', y1', y2', y3', y4', y5', hy'⟩ := hok.l'.cells
            simp only at hy hy' r1' r2'
            subst hy hy'
            have c0 := r1' 0 _ rfl
            have c1 := r1' 1 _ rfl
            have c2 := r1' 2 _ rfl
            have c3 := r1' 3 _ rfl
            have d0 := r2' 0 _ rfl
            have d1 := r2' 1 _ rfl
            have d2 := r2' 2 _ rfl
            have d3 := r2' 3 _ rfl
            rw [Nat.add_zero] at c0 d0
            have n3 := hM.n3
            have n7 := hM.n7
            have hml : (m : Int) < (l1 : Int) := by omega
            have HMS : Hid (∀ (w0 : World) (bb : Nat), Below wr.heap.size wr w0 → w0.rangeAt bb 0 [.int .i64 y0, .int .i64 y1, .string y2, .slice y3 y4 y5, .int .i64 y0', .int .i64 y1', .string y2', .slice y3' y4' y5'] →
                ∃ v' w', (Builtin.append_ #[123, 123] 123 #[u5, .slice (some ⟨bb, 0, none⟩) 1 1]).run Tryz.prog w0 = .ok v' w' ∧ Mid w us prs m nb (some ⟨b, o, none⟩) cap1 (some ⟨b', o', none⟩) cap2 l1 v' w') :=
              fun w0 bb h1 h2 => hM.step (w0 := w0) (b := bb) hq hok (unhide HNN) h1 h2 123
            have HR1 := hide r1
            have HR2 := hide r2
            clear hM r1 r2 r1' r2' hq hok hzk HQ1 HQ2 HQ3 HQ4 HG HP HC HK HK' HL1 HL2 HH HUL HPL HNN
            go_wp2_with fail
            go_region_held3 (fun x => x.cell? ⟨nb, 3, none⟩ = some (.slice (some ⟨b, o, none⟩) l1 cap1) ∧ x.cell? ⟨nb, 7, none⟩ = some (.slice (some ⟨b', o', none⟩) l1 cap2) ∧
                x.cell? ⟨b, o + m * 4, none⟩ = some (.int .i64 y0) ∧ x.cell? ⟨b, o + m * 4 + 1, none⟩ = some (.int .i64 y1) ∧ x.cell? ⟨b, o + m * 4 + 2, none⟩ = some (.string y2) ∧ x.cell? ⟨b, o + m * 4 + 3, none⟩ = some (.slice y3 y4 y5) ∧
                x.cell? ⟨b', o' + m * 4, none⟩ = some (.int .i64 y0') ∧ x.cell? ⟨b', o' + m * 4 + 1, none⟩ = some (.int .i64 y1') ∧ x.cell? ⟨b', o' + m * 4 + 2, none⟩ = some (.string y2') ∧ x.cell? ⟨b', o' + m * 4 + 3, none⟩ = some (.slice y3' y4' y5')) (go_keep)
              (first
                | (refine step_append_run rfl _ _ 123 rfl _ _ rfl rfl (fun v' w' => Mid w us prs m nb (some ⟨b, o, none⟩) cap1 (some ⟨b', o', none⟩) cap2 l1 v' w') (unhide HMS _ _ (((Below.refl _ _).alloc (Nat.le_refl _) _).drew) (range_box _ _ _)) ?_
                   intro v' w' hM'
                   have r3 := rangeAt_below (unhide HR1) hM'.stq.below
                   have r4 := rangeAt_below (unhide HR2) hM'.stq.below
                   have f0 := r3 0 _ rfl
                   have f1 := r3 1 _ rfl
                   have f2 := r3 2 _ rfl
                   have f3 := r3 3 _ rfl
                   have k0 := r4 0 _ rfl
                   have k1 := r4 1 _ rfl
                   have k2 := r4 2 _ rfl
                   have k3 := r4 3 _ rfl
                   rw [Nat.add_zero] at f0 k0
                   have m3 := hM'.n3
                   have m7 := hM'.n7))
            go_wp2_with fail
            go_roundw
            case rel => exact ⟨m, (m : Int) - 1, by omega, rfl, by omega, hM'⟩
            case measure => simp [intOf]
      · have hne : (headC op1 n1 s1 l1 op2 n2 s2 l2 != 0) = true := by simpa using hh0
        have HH := hide hh0
        have HE : Hid (headC op1 n1 s1 l1 op2 n2 s2 l2 = C) := by
          show _ = _
          rw [← unhide HC, orI_not (b := cmpL ks ks') hh0, orI_not hh0]
        clear hh0
        generalize headC op1 n1 s1 l1 op2 n2 s2 l2 = hd at *
        go_wp2_with fail
        refine (hh _).mono ?_
        rintro e w2 ⟨rfl, hb2⟩
        go_wp2_with fail
        go_ret
        exact ⟨ret_int (unhide HE), below_alls (below_alls (unhide HU).below (unhide HN) (unhide HU).below.size) hb2 (by have := (unhide HU).below.size; simp; omega)⟩

theorem ret_bool {a b : Bool} (h : a = b) : Ending.returned (.bool a) = .returned (.bool b) := by rw [h]

def sameB (t t' : Tm) : Bool := decide (cmpT t t' = 0)
def beforeB (t t' : Tm) : Bool := decide (cmpT t t' < 0)

theorem before17 (t t' : Tm) (op n : Int) (s : ByteArray) (a : Option Addr) (len cap : Nat) (op' n' : Int) (s' : ByteArray) (a' : Option Addr) (len' cap' : Nat) (w : World) (hl : Lies w 0 t (tmCells op n s a len cap)) (hl' : Lies w 0 t' (tmCells op' n' s' a' len' cap'))
    (hsz : t.size ≤ 2097152) :
    Calls Tryz.prog 135 #[.agg #[.int .i64 op, .int .i64 n, .string s, .slice a len cap], .agg #[.int .i64 op', .int .i64 n', .string s', .slice a' len' cap']] w fun e w' => e = .returned (.bool (beforeB t t')) ∧ Below w.heap.size w w' := by
  have h24 := hide (cmp24 t t' op n s a len cap op' n' s' a' len' cap')
  have HL := hide hl
  have HL' := hide hl'
  have HB : Hid (∀ c : Int, c = cmpT t t' → beforeB t t' = decide (c < 0)) := fun c hc => by rw [hc]; rfl
  generalize cmpT t t' = C at *
  clear hl hl'
  go_enter Tryz.func135, Tryz.ntmps135
  go_wp2_with fail
  refine (unhide h24 _ ((unhide HL).below (((Below.refl _ _).alloc (Nat.le_refl _) _).alloc (by simp) _)) ((unhide HL').below (((Below.refl _ _).alloc (Nat.le_refl _) _).alloc (by simp) _)) hsz).mono ?_
  rintro e w2 ⟨rfl, hb2⟩
  go_wp2_with fail
  go_ret
  exact ⟨ret_bool (unhide HB _ rfl).symm, (((Below.refl _ _).alloc (Nat.le_refl _) _).alloc (by simp) _).trans (hb2.mono (by simp; omega))⟩

theorem keepc {v v' : World} (h : Below v.heap.size v v') {b o : Nat} {u : Value} (hc : v.cell? ⟨b, o, none⟩ = some u) : v'.cell? ⟨b, o, none⟩ = some u :=
  (h.cell (p := ⟨b, o, none⟩) (lt_of_cell hc)).trans hc
theorem below_drw {v v' : World} (h : Below v.drew.heap.size v.drew v') : Below v.heap.size v v' := ((Below.refl _ _).drew).trans h

theorem sameB_node {op n : Int} {s : ByteArray} {ks : List Tm} {op' n' : Int} {s' : ByteArray} {ks' : List Tm} : sameB (.node op n s ks) (.node op' n' s' ks') = true ↔ (op = op' ∧ n = n' ∧ s = s' ∧ ks.length = ks'.length) ∧ cmpL ks ks' = 0 := by
  unfold sameB
  rw [decide_eq_true_iff]
  simp only [cmpT]
  rw [orI_eq_zero, headC_zero]

theorem sameB_head {op n : Int} {s : ByteArray} {ks : List Tm} {op' n' : Int} {s' : ByteArray} {ks' : List Tm} (h : ¬ (op = op' ∧ n = n' ∧ s = s' ∧ ks.length = ks'.length)) : sameB (.node op n s ks) (.node op' n' s' ks') = false := by
  cases hb : sameB (.node op n s ks) (.node op' n' s' ks') with
  | false => rfl
  | true => exact absurd (sameB_node.1 hb).1 h

theorem cmpL_drop {ks ks' : List Tm} {k : Nat} (h : k < ks.length) (h' : k < ks'.length) : cmpL (ks.drop k) (ks'.drop k) = orI (cmpT ks[k] ks'[k]) (cmpL (ks.drop (k + 1)) (ks'.drop (k + 1))) := by
  rw [← List.getElem_cons_drop h, ← List.getElem_cons_drop h']
  simp only [cmpL]

def SaOk (t : Tm) : Prop := ∀ (t' : Tm) (op n : Int) (s : ByteArray) (a : Option Addr) (len cap : Nat) (op' n' : Int) (s' : ByteArray) (a' : Option Addr) (len' cap' : Nat) (w : World), Lies w 0 t (tmCells op n s a len cap) → Lies w 0 t' (tmCells op' n' s' a' len' cap') →
  Calls Tryz.prog 60 #[.agg #[.int .i64 op, .int .i64 n, .string s, .slice a len cap], .agg #[.int .i64 op', .int .i64 n', .string s', .slice a' len' cap']] w fun e w' => e = .returned (.bool (sameB t t')) ∧ Below w.heap.size w w'

theorem below_two (w : World) (x y : Obj) : Below w.heap.size w ((w.alloc x).alloc y) :=
  ((Below.refl _ _).alloc (Nat.le_refl _) _).alloc (by simp) _

set_option maxHeartbeats 2000000 in
theorem sa_step (t : Tm) (h : ∀ x ∈ t.kids, SaOk x) : SaOk t := by
  intro t' op n s a len cap op' n' s' a' len' cap' w hl hl'
  cases t with
  | node op1 n1 s1 ks =>
  cases t' with
  | node op2 n2 s2 ks' =>
    simp only [Lies, tmCells] at hl hl'
    obtain ⟨a1, cap1, he, ⟨_, hlc, hcm⟩, _, hk⟩ := hl
    simp only [List.cons.injEq, Value.int.injEq, Value.string.injEq, Value.slice.injEq, true_and, and_true] at he
    obtain ⟨rfl, rfl, rfl, rfl, rfl, rfl⟩ := he
    obtain ⟨a2, cap2, he, ⟨_, hlc', hcm'⟩, _, hk'⟩ := hl'
    simp only [List.cons.injEq, Value.int.injEq, Value.string.injEq, Value.slice.injEq, true_and, and_true] at he
    obtain ⟨rfl, rfl, rfl, rfl, rfl, rfl⟩ := he
    have hkids : ∀ x ∈ ks, SaOk x := h
    have hb1 : ks.length ≤ 9223372036854775807 := by unfold maxLen at hcm; omega
    have hb2 : ks'.length ≤ 9223372036854775807 := by unfold maxLen at hcm'; omega
    have HK := hide hk
    have HK' := hide hk'
    have HH := hide (sameB_head (op := op) (n := n) (s := s) (ks := ks) (op' := op') (n' := n') (s' := s') (ks' := ks'))
    have HN := hide (sameB_node (op := op) (n := n) (s := s) (ks := ks) (op' := op') (n' := n') (s' := s') (ks' := ks'))
    clear h hk hk' hlc hcm hlc' hcm'
    by_cases e1 : op = op'
    case neg =>
      have q1 : (op != op') = true := by simpa using e1
      have HR : Hid (sameB (.node op n s ks) (.node op' n' s' ks') = false) := unhide HH (fun e => e1 e.1)
      clear e1 HH HN
      generalize sameB (.node op n s ks) (.node op' n' s' ks') = bb at *
      go_enter Tryz.func60, Tryz.ntmps60
      go_wp2_with fail
      go_ret
      exact ⟨ret_bool (unhide HR).symm, below_two _ _ _⟩
    subst e1
    have q1 : (op != op) = false := by simp
    by_cases e2 : n = n'
    case neg =>
      have q2 : (n != n') = true := by simpa using e2
      have HR : Hid (sameB (.node op n s ks) (.node op n' s' ks') = false) := unhide HH (fun e => e2 e.2.1)
      clear e2 HH HN
      generalize sameB (.node op n s ks) (.node op n' s' ks') = bb at *
      go_enter Tryz.func60, Tryz.ntmps60
      go_wp2_with fail
      go_ret
      exact ⟨ret_bool (unhide HR).symm, below_two _ _ _⟩
    subst e2
    have q2 : (n != n) = false := by simp
    by_cases e3 : s = s'
    case neg =>
      have q3 : (s.toList == s'.toList) = false := by simpa using fun e => e3 (toList_inj e)
      have HR : Hid (sameB (.node op n s ks) (.node op n s' ks') = false) := unhide HH (fun e => e3 e.2.2.1)
      clear e3 HH HN
      generalize sameB (.node op n s ks) (.node op n s' ks') = bb at *
      go_enter Tryz.func60, Tryz.ntmps60
      go_wp2_with fail
      go_ret
      exact ⟨ret_bool (unhide HR).symm, below_two _ _ _⟩
    subst e3
    have q3 : (s.toList == s.toList) = true := by simp
    by_cases e4 : ks.length = ks'.length
    case neg =>
      have q4 : ((ks.length : Int) != (ks'.length : Int)) = true := by rw [bne_iff_ne]; omega
      have HR : Hid (sameB (.node op n s ks) (.node op n s ks') = false) := unhide HH (fun e => e4 e.2.2.2)
      clear e4 HH HN
      generalize sameB (.node op n s ks) (.node op n s ks') = bb at *
      go_enter Tryz.func60, Tryz.ntmps60
      go_wp2_with fail
      go_ret
      exact ⟨ret_bool (unhide HR).symm, below_two _ _ _⟩
    have HR : Hid (sameB (.node op n s ks) (.node op n s ks') = true ↔ cmpL ks ks' = 0) := by
      show _ ↔ _
      rw [unhide HN]
      exact ⟨fun e => e.2, fun e => ⟨⟨rfl, rfl, rfl, e4⟩, e⟩⟩
    clear HH HN
    generalize sameB (.node op n s ks) (.node op n s ks') = bb at *
    generalize hlen' : ks'.length = len' at *
    have HL' := hide hlen'
    subst e4
    generalize hlen : ks.length = len at *
    have HL := hide hlen
    clear hlen hlen'
    have q4 : ((len : Int) != (len : Int)) = false := by simp
    go_enter Tryz.func60, Tryz.ntmps60
    go_wp2_with fail
    go_loopw [5] (fun i wr => ∃ k : Nat, k ≤ len ∧ i = .int .i64 k ∧ cmpL ks ks' = cmpL (ks.drop k) (ks'.drop k) ∧ Below (w.heap.size + 1 + 1) ((w.alloc (.cells #[.int .i64 op, .int .i64 n, .string s, .slice a len cap] 29)).alloc (.cells #[.int .i64 op, .int .i64 n, .string s, .slice a' len cap'] 29)) wr) (fun i _ => len - (intOf i).toNat)
    case atStart => exact ⟨0, Nat.zero_le _, rfl, rfl, Below.refl _ _⟩
    case round =>
      obtain ⟨k, hkl, rfl, hC, hb⟩ := hrel
      have b3 : wr.cell? ⟨w.heap.size, 3, none⟩ = some (.slice a len cap) := (hb.cell (p := ⟨w.heap.size, 3, none⟩) (by show w.heap.size < _; omega)).trans (keepc ((Below.refl _ _).alloc (Nat.le_refl _) _) (box_cell _ _ _ 3 _ rfl))
      have b4 : wr.cell? ⟨w.heap.size + 1, 3, none⟩ = some (.slice a' len cap') := by
        have := box_cell (w.alloc (.cells #[.int .i64 op, .int .i64 n, .string s, .slice a len cap] 29)) #[.int .i64 op, .int .i64 n, .string s, .slice a' len cap'] 29 3 _ rfl
        rw [heap_size_alloc] at this
        exact (hb.cell (p := ⟨w.heap.size + 1, 3, none⟩) (by show w.heap.size + 1 < _; omega)).trans this
      have hbw : Below w.heap.size w wr := (below_two _ _ _).trans (hb.mono (by omega))
      have HC := hide hC
      clear hC
      by_cases hlt : k < len
      · have g1 : k < ks.length := by have := unhide HL; omega
        have g2 : k < ks'.length := by have := unhide HL'; omega
        have HD := hide (cmpL_drop g1 g2)
        obtain ⟨b, o, y0, y1, y2, y3, y4, y5, rfl, _, _, c0, c1, c2, c3, hT⟩ := (unhide HK).elem (k := k) g1
        obtain ⟨b', o', y0', y1', y2', y3', y4', y5', rfl, _, _, d0, d1, d2, d3, hT'⟩ := (unhide HK').elem (k := k) g2
        have c0 := keepc hbw c0
        have c1 := keepc hbw c1
        have c2 := keepc hbw c2
        have c3 := keepc hbw c3
        have d0 := keepc hbw d0
        have d1 := keepc hbw d1
        have d2 := keepc hbw d2
        have d3 := keepc hbw d3
        have hct := hkids ks[k] (List.getElem_mem g1) ks'[k] y0 y1 y2 y3 y4 y5 y0' y1' y2' y3' y4' y5'
        have HCT := hide hct
        have HT := hide (hT.below hbw.drew)
        have HT' := hide (hT'.below hbw.drew)
        have hsb : sameB ks[k] ks'[k] = decide (cmpT ks[k] ks'[k] = 0) := rfl
        have HSB := hide hsb
        have HB := hide hb
        clear hct hT hT' hsb hb hbw HK HK' hkids
        generalize ks[k] = tk at *
        generalize ks'[k] = tk' at *
        clear g1 g2
        have hml : (k : Int) < (len : Int) := by omega
        cases hsv : sameB tk tk' with
        | true =>
          rw [hsv] at HCT HSB
          clear hsv
          go_wp2_with fail
          go_region_held3 (fun x => x.cell? ⟨w.heap.size, 3, none⟩ = some (.slice (some ⟨b, o, none⟩) len cap) ∧ x.cell? ⟨w.heap.size + 1, 3, none⟩ = some (.slice (some ⟨b', o', none⟩) len cap') ∧
              x.cell? ⟨b, o + k * 4, none⟩ = some (.int .i64 y0) ∧ x.cell? ⟨b, o + k * 4 + 1, none⟩ = some (.int .i64 y1) ∧ x.cell? ⟨b, o + k * 4 + 2, none⟩ = some (.string y2) ∧ x.cell? ⟨b, o + k * 4 + 3, none⟩ = some (.slice y3 y4 y5) ∧
              x.cell? ⟨b', o' + k * 4, none⟩ = some (.int .i64 y0') ∧ x.cell? ⟨b', o' + k * 4 + 1, none⟩ = some (.int .i64 y1') ∧ x.cell? ⟨b', o' + k * 4 + 2, none⟩ = some (.string y2') ∧ x.cell? ⟨b', o' + k * 4 + 3, none⟩ = some (.slice y3' y4' y5')) (go_keep)
            (first
              | (go_at_call 60
                 refine (unhide HCT _ (unhide HT) (unhide HT')).mono ?_
                 rintro e w2 ⟨rfl, hb2⟩
                 have hb2' := hide (below_drw hb2)
                 have f0 := keepc (unhide hb2') c0
                 have f1 := keepc (unhide hb2') c1
                 have f2 := keepc (unhide hb2') c2
                 have f3 := keepc (unhide hb2') c3
                 have f4 := keepc (unhide hb2') d0
                 have f5 := keepc (unhide hb2') d1
                 have f6 := keepc (unhide hb2') d2
                 have f7 := keepc (unhide hb2') d3
                 have f8 := keepc (unhide hb2') b3
                 have f9 := keepc (unhide hb2') b4))
          go_wp2_with fail
          go_roundw
          case rel => exact ⟨k + 1, by omega, by go_num, by rw [unhide HC, unhide HD, orI_zero (by simpa using (unhide HSB).symm)], (unhide HB).trans ((unhide hb2').mono (by have := (unhide HB).size; simp at this; omega))⟩
          case measure => simp [intOf]; omega
        | false =>
          rw [hsv] at HCT HSB
          clear hsv
          go_wp2_with fail
          go_region_held3 (fun x => x.cell? ⟨w.heap.size, 3, none⟩ = some (.slice (some ⟨b, o, none⟩) len cap) ∧ x.cell? ⟨w.heap.size + 1, 3, none⟩ = some (.slice (some ⟨b', o', none⟩) len cap') ∧
              x.cell? ⟨b, o + k * 4, none⟩ = some (.int .i64 y0) ∧ x.cell? ⟨b, o + k * 4 + 1, none⟩ = some (.int .i64 y1) ∧ x.cell? ⟨b, o + k * 4 + 2, none⟩ = some (.string y2) ∧ x.cell? ⟨b, o + k * 4 + 3, none⟩ = some (.slice y3 y4 y5) ∧
              x.cell? ⟨b', o' + k * 4, none⟩ = some (.int .i64 y0') ∧ x.cell? ⟨b', o' + k * 4 + 1, none⟩ = some (.int .i64 y1') ∧ x.cell? ⟨b', o' + k * 4 + 2, none⟩ = some (.string y2') ∧ x.cell? ⟨b', o' + k * 4 + 3, none⟩ = some (.slice y3' y4' y5')) (go_keep)
            (first
              | (go_at_call 60
                 refine (unhide HCT _ (unhide HT) (unhide HT')).mono ?_
                 rintro e w2 ⟨rfl, hb2⟩
                 have hb2' := hide (below_drw hb2)
                 have f0 := keepc (unhide hb2') c0
                 have f1 := keepc (unhide hb2') c1
                 have f2 := keepc (unhide hb2') c2
                 have f3 := keepc (unhide hb2') c3
                 have f4 := keepc (unhide hb2') d0
                 have f5 := keepc (unhide hb2') d1
                 have f6 := keepc (unhide hb2') d2
                 have f7 := keepc (unhide hb2') d3
                 have f8 := keepc (unhide hb2') b3
                 have f9 := keepc (unhide hb2') b4))
          go_wp2_with fail
          go_ret
          have hne : cmpT tk tk' ≠ 0 := by simpa using (unhide HSB).symm
          have hbb : bb = false := by
            cases hq : bb with
            | false => rfl
            | true =>
              have := (unhide HR).1 hq
              rw [unhide HC, unhide HD, orI_not hne] at this
              exact absurd this hne
          exact ⟨ret_bool hbb.symm, ((below_two _ _ _).trans ((unhide HB).mono (by omega))).trans ((unhide hb2').mono (by have := (unhide HB).size; simp at this; omega))⟩
      · go_wp2_with fail
        go_ret
        have h0 : cmpL ks ks' = 0 := by rw [unhide HC, List.drop_of_length_le (by have := unhide HL; omega)]; simp [cmpL]
        exact ⟨ret_bool ((unhide HR).2 h0).symm, hbw⟩

theorem sa_any : ∀ (k : Nat) (t : Tm), t.size ≤ k → SaOk t
  | 0, t, h => by have := t.size_pos; omega
  | k + 1, t, h => sa_step t fun x hx => sa_any k x (by
      cases t with
      | node op n s ks =>
        have := Tm.size_mem (ks := ks) hx
        simp only [Tm.size] at h
        omega)

theorem sa_calls (t : Tm) : SaOk t := sa_any t.size t (Nat.le_refl _)

end Go.Proofs.YtmklgikbajhcpaaGreatDoor
