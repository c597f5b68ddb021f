
/- The walk of impl.copyTerm: of whatever term lies in memory it makes the same term, in new blocks of its own; nothing that was there is written. -/
import Derived.Test.YteminklafghgpaaGreatDoorCyq
import Derived.Test.YteminklafghgpaaGreatDoorShelf
import Derived.Deep.RegionHeld3
import Derived.Deep.LoopGhost
namespace Go.Proofs.YteminklafghgpaaGreatDoor
open Go.RowKit Go.Deep

theorem keepfY {v v' : World} (h : Below v.heap.size v v') {b o : Nat} (hb : b < v.heap.size) (hc : v.frozen? ⟨b, o, none⟩ = false) : v'.frozen? ⟨b, o, none⟩ = false :=
  (h.frozen (p := ⟨b, o, none⟩) hb).trans hc
theorem bt0 {w v v' : World} (h : Below w.heap.size w v) (hb : Below v.heap.size v v') : Below w.heap.size w v' := h.trans (hb.mono h.size)
theorem Tm.wt_mem {t : Tm} {ks : List Tm} (h : t ∈ ks) : t.wt ≤ Tm.wts ks := by
  induction ks with
  | nil => cases h
  | cons x r ih =>
    simp only [Tm.wts]
    rcases List.mem_cons.1 h with rfl | h
    · omega
    · have := ih h; omega

set_option maxRecDepth 100000 in
theorem cloneS (s : ByteArray) (w : World) (hs : s.size ≤ 4194304) :
    Calls Tryz.prog 39 #[.string s] w fun e w' => e = .returned (.string s) ∧ Below w.heap.size w w' := by
  have h := hide (fun v => Tryz.stringslite_Clone s v (by omega))
  go_enter Tryz.func39, Tryz.ntmps39
  go_wp2_with fail
  refine (unhide h _).mono ?_
  rintro e w2 ⟨rfl, hb2⟩
  go_wp2_with fail
  go_ret
  exact ⟨rfl, hb2⟩

def CyOk (t : Tm) : Prop := ∀ (op n : Int) (s : ByteArray) (a : Option Addr) (len cap : Nat) (w : World), Lies w 0 t (tmCells op n s a len cap) → t.size + t.wt ≤ 4194304 →
  Calls Tryz.prog 24 #[.agg #[.int .i64 op, .int .i64 n, .string s, .slice a len cap]] w fun e w' => ∃ a' cap' fp, e = .returned (.agg #[.int .i64 op, .int .i64 n, .string s, .slice a' len cap']) ∧ Own w' t (tmCells op n s a' len cap') fp ∧ (fp.Nodup ∧ ∀ x ∈ fp, w.heap.size ≤ x) ∧ Below w.heap.size w w'

/-- How much there is to be copied, with its texts. -/
def hbig : List Hole → Nat
  | [] => 0
  | h :: r => h.2.2.size + h.2.2.wt + hbig r
theorem hbig_append (a b : List Hole) : hbig (a ++ b) = hbig a + hbig b := by
  induction a with
  | nil => simp [hbig]
  | cons x r ih => simp only [List.cons_append, hbig, ih]; omega
theorem hbig_kids (b : Nat) : ∀ (i : Nat) (ks : List Tm), hbig (kidsH b i ks) = Tm.sizes ks + Tm.wts ks
  | _, [] => rfl
  | i, t :: r => by simp only [kidsH, hbig, Tm.sizes, Tm.wts, hbig_kids b (i + 1) r]; omega
theorem length_le_hbig : ∀ (a : List Hole), a.length ≤ hbig a
  | [] => by simp [hbig]
  | x :: r => by have := length_le_hbig r; have := x.2.2.size_pos; simp only [List.length_cons, hbig]; omega

theorem big_step {H : List Hole} {hb ho g : Nat} {op n : Int} {s : ByteArray} {ks : List Tm} {K : Nat} (h : hbig (H ++ [(hb, ho, .node op n s ks)]) ≤ K) : hbig (H ++ kidsH g 0 ks) + 1 ≤ K ∧ ks.length ≤ K ∧ H.length ≤ K ∧ s.size ≤ K ∧ H.length + ks.length ≤ K := by
  rw [hbig_append] at h ⊢
  rw [hbig_kids]
  have h1 := length_le_hbig H
  have h2 := Tm.length_le_sizes ks
  simp only [hbig, Tm.size, Tm.wt] at h
  omega

set_option maxRecDepth 100000 in
set_option maxHeartbeats 2000000 in
/-- The copy; and of a term with no kids its row is nil. -/
theorem cy_all (t : Tm) (op n : Int) (s : ByteArray) (a : Option Addr) (len cap : Nat) (w : World) (hl : Lies w 0 t (tmCells op n s a len cap)) (hsz : t.size + t.wt ≤ 4194304) :
    Calls Tryz.prog 24 #[.agg #[.int .i64 op, .int .i64 n, .string s, .slice a len cap]] w fun e w' => ∃ a' cap' fp, e = .returned (.agg #[.int .i64 op, .int .i64 n, .string s, .slice a' len cap']) ∧ Own w' t (tmCells op n s a' len cap') fp ∧ (fp.Nodup ∧ ∀ x ∈ fp, w.heap.size ≤ x) ∧ (len = 0 → a' = none ∧ cap' = 0) ∧ Below w.heap.size w w' := by
  cases t with
  | node op' n' s' ks =>
    have hl0 := hl
    simp only [Lies, tmCells] at hl
    obtain ⟨a', cap', he, ⟨hs, hlc, hcm⟩, hwf, hk⟩ := hl
    simp only [List.cons.injEq, Value.int.injEq, Value.string.injEq, Value.slice.injEq, true_and, and_true] at he
    obtain ⟨rfl, rfl, rfl, rfl, rfl, rfl⟩ := he
    have HS0 := hide (CyS.start hl0)
    generalize hT : Tm.node op n s ks = T at *
    have HZ : Hid (T.size + T.wt ≤ 4194304) := hsz
    have HT : Hid (Tm.node op n s ks = T) := hT
    clear hl0 hs hlc hcm hwf hk hsz hT
    generalize hlen : ks.length = len at *
    have HLn : Hid (ks.length = len) := hlen
    clear hlen
    go_enter Tryz.func24, Tryz.ntmps24
    go_wp2_with fail
    go_loopg [3] 4194305 (fun gk v wr => ∃ H : List Hole, hbig H < gk ∧ hbig H ≤ 4194304 ∧ CyS w T H H v wr)
    case atStart =>
      have hz := unhide HZ
      exact ⟨[(w.heap.size, 0, T)], by simp only [hbig]; omega, by simp only [hbig]; omega, unhide HS0⟩
    case round =>
      obtain ⟨H, hgk, hbk, hM⟩ := hrel
      clear HS0
      by_cases hH : H = []
      · subst hH
        obtain ⟨av, cv, hv0, _⟩ := hM.shape
        simp only [List.length_nil] at hv0
        subst hv0
        obtain ⟨cs, fp, hr, hO, hnd, hge, hleaf⟩ := hM.finish
        have hres := hM.res
        have hB := hM.below
        have hT := unhide HT
        subst hT
        obtain ⟨a2, cap2, hcs, hO1, hO2, hO3⟩ := hO.kids
        subst hcs
        have hN : len = 0 → a2 = none ∧ cap2 = 0 := fun e => by
          have hk0 : ks = [] := List.length_eq_zero_iff.1 (by rw [unhide HLn, e])
          subst hk0
          have h6 := hleaf op n s rfl 3 (.slice none 0 0) rfl
          have h7 := hr 3 (.slice a2 ([] : List Tm).length cap2) rfl
          rw [h7] at h6
          simp at h6
          exact h6
        have HN := hide hN
        clear hN hleaf
        rw [unhide HLn] at hr
        have p0 : wr.cell? ⟨w.heap.size, 0, none⟩ = some (.int .i64 op) := by have := hr 0 _ rfl; simpa using this
        have p1 : wr.cell? ⟨w.heap.size, 1, none⟩ = some (.int .i64 n) := by have := hr 1 _ rfl; simpa using this
        have p2 : wr.cell? ⟨w.heap.size, 2, none⟩ = some (.string s) := by have := hr 2 _ rfl; simpa using this
        have p3 : wr.cell? ⟨w.heap.size, 3, none⟩ = some (.slice a2 len cap2) := by have := hr 3 _ rfl; simpa using this
        have q0 : wr.cell? ⟨w.heap.size + 1, 0, none⟩ = some (.int .i64 0) := cell_of_row hres (by simp)
        have q1 : wr.cell? ⟨w.heap.size + 1, 1, none⟩ = some (.int .i64 0) := cell_of_row hres (by simp)
        have q2 : wr.cell? ⟨w.heap.size + 1, 2, none⟩ = some (.string ByteArray.empty) := cell_of_row hres (by simp)
        have q3 : wr.cell? ⟨w.heap.size + 1, 3, none⟩ = some (.slice none 0 0) := cell_of_row hres (by simp)
        have e0 : wr.frozen? ⟨w.heap.size + 1, 0, none⟩ = false := frozen_of_row hres
        have e1 : wr.frozen? ⟨w.heap.size + 1, 1, none⟩ = false := frozen_of_row hres
        have e2 : wr.frozen? ⟨w.heap.size + 1, 2, none⟩ = false := frozen_of_row hres
        have e3 : wr.frozen? ⟨w.heap.size + 1, 3, none⟩ = false := frozen_of_row hres
        have HKO := hide hO3
        have HND := hide hnd
        have HGE := hide hge
        have HMM := hide hB
        have HO1 := hide hO1
        have HO2 := hide hO2
        clear hO hO1 hO2 hO3 hnd hge hB hr hres hM hgk hbk
        go_wp2_with fail
        refine bodyPost_ret (v := .agg #[.int .i64 op, .int .i64 n, .string s, .slice a2 len cap2]) (by simp [results, Tryz.results24, go_sem, q0, q1, q2, q3]) rfl ⟨a2, cap2, rfl, fp, ?_, ⟨unhide HND, fun x hx => by have := unhide HGE x hx; omega⟩, unhide HN, ?_⟩
        · have h1 := Own.of_kids (op := op) (n := n) (s := s) (cap := cap2) (unhide HO1) (unhide HO2) ((unhide HKO).keep (w' := ((((wr.setCell ⟨w.heap.size + 1, 0, none⟩ (.int .i64 op)).setCell ⟨w.heap.size + 1, 1, none⟩ (.int .i64 n)).setCell ⟨w.heap.size + 1, 2, none⟩ (.string s)).setCell ⟨w.heap.size + 1, 3, none⟩ (.slice a2 len cap2))) fun b hb => by
            have hbb := unhide HGE b hb
            rw [Below.heap_setCell _ _ _ _ (by show b ≠ _; simp only; omega), Below.heap_setCell _ _ _ _ (by show b ≠ _; simp only; omega), Below.heap_setCell _ _ _ _ (by show b ≠ _; simp only; omega), Below.heap_setCell _ _ _ _ (by show b ≠ _; simp only; omega)])
          rw [unhide HLn] at h1
          exact h1
        · exact ((((unhide HMM).setCell (by show w.heap.size ≤ w.heap.size + 1; omega) _).setCell (by show w.heap.size ≤ w.heap.size + 1; omega) _).setCell (by show w.heap.size ≤ w.heap.size + 1; omega) _).setCell (by show w.heap.size ≤ w.heap.size + 1; omega) _
      · obtain ⟨us, ⟨hb, ho, ⟨op1, n1, s1, ks1⟩⟩, rfl⟩ : ∃ us p, H = us ++ [p] := ⟨H.dropLast, H.getLast hH, (List.dropLast_concat_getLast hH).symm⟩
        obtain ⟨gr, c, rfl, hc1, hc2, hcell, hpop⟩ := hM.top
        obtain ⟨a1, cap1, C1, hC1, hge1, hne1, hr1, hz1, hw1, hk1⟩ := hpop.cells
        have c2 : wr.cell? ⟨hb, ho + 2, none⟩ = some (.string s1) := hr1 2 _ rfl
        have HG := hide hgk
        have HK := hide hbk
        obtain ⟨_, hb2, hb3, hb4, hb5⟩ := big_step (g := 0) hbk
        have HCL := hide (fun v => cloneS s1 v hb4)
        have HP := hide hpop
        have HC1 := hide hC1
        have HR1 := hide hr1
        have HK1 := hide hk1
        have hub : us.length ≤ 4194304 := by omega
        unfold maxLen at hc2
        generalize hul : us.length = ul at *
        have HU : Hid (us.length = ul) := hul
        clear hgk hbk hM hpop hC1 hr1 hk1 hz1 hw1 hul hge1 hne1 hH
        go_wp2_with fail
        refine (unhide HCL _).mono ?_
        rintro e w2 ⟨rfl, hB2⟩
        have HP2 := hide ((unhide HP).carry hB2)
        have hC2 := (hB2.block hb (lt_of_heap (unhide HC1))).trans (unhide HC1)
        have hr2 := rangeAt_below (unhide HR1) hB2
        have d2 : w2.cell? ⟨hb, ho + 2, none⟩ = some (.string s1) := hr2 2 _ rfl
        have f2 : w2.frozen? ⟨hb, ho + 2, none⟩ = false := frozen_of_row hC2
        have d3 : (w2.setCell ⟨hb, ho + 2, none⟩ (.string s1)).cell? ⟨hb, ho + 3, none⟩ = some (.slice a1 ks1.length cap1) := by
          rw [World.cell?_setCell_other _ _ _ _ (fun e' => by simp at e')]
          exact hr2 3 _ rfl
        have HST := hide ((unhide HP2).step hr2 (unhide HK1) (by omega) 24)
        have hkb : ks1.length ≤ 4194304 := by omega
        generalize hkl : ks1.length = l1 at *
        have HKL : Hid (ks1.length = l1) := hkl
        clear hkl hB2 hC2 hr2 HP HCL HR1 HC1 HK1 HP2 c2
        go_wp2_with (at_builtin; refine wpList_append_run rfl _ _ 24 rfl (.slice none 0 0) (.slice a1 l1 cap1) rfl rfl (fun v' w' => ∃ a' cap' g, v' = .slice a' l1 cap' ∧ l1 ≤ cap' ∧ cap' ≤ maxLen ∧ (0 < l1 → a' = some ⟨g, 0, none⟩) ∧ w'.frozen? ⟨hb, ho + 3, none⟩ = false ∧ (∃ u, w'.cell? ⟨hb, ho + 3, none⟩ = some u) ∧
          CyS w T (us ++ kidsH g 0 ks1) us (.slice (some ⟨gr, 0, none⟩) ul c) (w'.setCell ⟨hb, ho + 3, none⟩ v') ∧ (w'.setCell ⟨hb, ho + 3, none⟩ v').cell? ⟨hb, ho + 3, none⟩ = some v' ∧ ∃ C, (w'.setCell ⟨hb, ho + 3, none⟩ v').heap[hb]? = some (.cells C 35 (0, 0))) (unhide HST) ?_; rintro v' w3 ⟨a3, cap3, g3, rfl, hc3, hc4, hor, f3, ⟨u3, d33⟩, hS3, d34, C3, hC3⟩; unfold maxLen at hc4)
        have HS3 := hide hS3
        have HOR := hide hor
        have HC3 := hide hC3
        have HBS := hide (big_step (g := g3) (unhide HK))
        have HD := hide d34
        clear hS3 hor hC3 f3 d33 HST d2 f2 d3 d34
        generalize hW : w3.setCell ⟨hb, ho + 3, none⟩ (.slice a3 l1 cap3) = w4 at *
        clear hW
        go_loopw [3, 42] (fun v i wr => ∃ k : Nat, k ≤ l1 ∧ i = .int .i64 k ∧ CyS w T (us ++ kidsH g3 0 ks1) (us ++ (kidsH g3 0 ks1).take k) v wr ∧ wr.cell? ⟨hb, ho + 3, none⟩ = some (.slice a3 l1 cap3) ∧ ∃ C, wr.heap[hb]? = some (.cells C 35 (0, 0))) (fun _ i _ => l1 - (intOf i).toNat)
        case atStart => exact ⟨0, Nat.zero_le _, rfl, by simpa using unhide HS3, unhide HD, _, unhide HC3⟩
        case round =>
          obtain ⟨k, hkl, rfl, hI, dk, Ck, hCk⟩ := hrel
          clear HS3 HD HC3
          by_cases hlt : k < l1
          · obtain rfl := unhide HOR (by omega)
            have hkk : k < ks1.length := by have := unhide HKL; omega
            have hlen2 : (us ++ (kidsH g3 0 ks1).take k).length ≤ 4194304 := by
              have := (unhide HBS).2.2.2.2
              rw [List.length_append, List.length_take, kidsH_length]
              omega
            have HPU : Hid (∃ v' w', (Builtin.append_ #[63, 63] 63 #[u3, .slice (some ⟨wr.heap.size, 0, none⟩) 1 1]).run Tryz.prog (wr.alloc (.cells #[.pointer (some ⟨g3, k * 4, none⟩)] 62)) = .ok v' w' ∧
                (CyS w T (us ++ kidsH g3 0 ks1) (us ++ (kidsH g3 0 ks1).take (k + 1)) v' w' ∧ w'.cell? ⟨hb, ho + 3, none⟩ = some (.slice (some ⟨g3, 0, none⟩) l1 cap3) ∧ ∃ C, w'.heap[hb]? = some (.cells C 35 (0, 0)))) := by
              obtain ⟨v', w', r1, r2, r3⟩ := hI.push (g3, k * 4, ks1[k]) hlen2 63
              refine ⟨v', w', r1, ?_, (World.cell?_of_block (r3 hb Ck hCk)).trans dk, Ck, (r3 hb Ck hCk).trans hCk⟩
              have hg := kidsH_get g3 0 ks1 k hkk
              rw [Nat.zero_add] at hg
              rw [List.take_add_one, hg]
              simpa using r2
            clear hI hlen2 hCk
            go_wp2_with (at_builtin; refine wpList_append_run rfl _ _ 63 rfl u3 (.slice (some ⟨wr.heap.size, 0, none⟩) 1 1) rfl rfl (fun v' w' => CyS w T (us ++ kidsH g3 0 ks1) (us ++ (kidsH g3 0 ks1).take (k + 1)) v' w' ∧ w'.cell? ⟨hb, ho + 3, none⟩ = some (.slice (some ⟨g3, 0, none⟩) l1 cap3) ∧ ∃ C, w'.heap[hb]? = some (.cells C 35 (0, 0))) (unhide HPU) ?_; rintro v' w' ⟨n1, n2, n3⟩)
            exact ⟨⟨k + 1, by omega, by go_num, n1, n2, n3⟩, by simp [intOf]; omega⟩
          · obtain rfl : k = l1 := by omega
            have HI : Hid (CyS w T (us ++ kidsH g3 0 ks1) (us ++ kidsH g3 0 ks1) u3 wr) := by
              have h5 := hI
              rw [List.take_of_length_le (by rw [kidsH_length, unhide HKL]; exact Nat.le_refl _)] at h5
              exact h5
            clear hI
            go_wp2_with fail
            go_roundg (hbig (us ++ kidsH g3 0 ks1) + 1)
            case measure => have := unhide HG; have := (big_step (g := g3) (Nat.le_refl (hbig (us ++ [(hb, ho, .node op1 n1 s1 ks1)])))).1; omega
            case rel => exact ⟨us ++ kidsH g3 0 ks1, by omega, by have := (unhide HBS).1; omega, unhide HI⟩

theorem cy_calls (t : Tm) : CyOk t := fun op n s a len cap w hl hsz =>
  (cy_all t op n s a len cap w hl hsz).mono fun _ _ ⟨a', cap', fp, h1, h2, h3, _, h4⟩ => ⟨a', cap', fp, h1, h2, h3, h4⟩

end Go.Proofs.YteminklafghgpaaGreatDoor
