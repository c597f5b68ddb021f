
/- The walk of the method takeApart of knowledge. The walk of impl.Parts. The walk of impl.Can: whether a term is right, and known or put together by the parts of a list. The walk of laws.FnExactCan: whatever list of terms, and whatever term, lie in memory it answers true; nothing that was there is written. -/
import Derived.Test.YteminklafghgpaaGreatDoorTb
import Derived.Deep.RegionHeld3
import Derived.Deep.RegionHeld
import Derived.Deep.RegionWith
import Derived.Test.YteminklafghgpaaGreatDoorCy
import Derived.Test.YteminklafghgpaaGreatDoorPc
import Derived.Deep.LoopGhost
import Derived.Test.YteminklafghgpaaGreatDoorMa
namespace Go.Proofs.YteminklafghgpaaGreatDoor
open Go.RowKit Go.Deep Go.Maps Go.MapKept

theorem int_succ (k : Nat) : Value.int .i64 ((k : Int) + 1) = Value.int .i64 ((k + 1 : Nat) : Int) := by congr 1
theorem meas_out (k : Nat) (h : k < 301) : 301 - (intOf (Value.int .i64 ((k : Int) + 1))).toNat < 301 - (intOf (Value.int .i64 (k : Int))).toNat := by simp only [intOf]; omega
theorem meas_in (m : Nat) {n : Nat} (h : m < n) : n - (intOf (Value.int .i64 ((m : Int) + 1))).toNat < n - (intOf (Value.int .i64 (m : Int))).toNat := by simp only [intOf]; omega

set_option maxRecDepth 100000 in
set_option maxHeartbeats 4000000 in
theorem apart_calls {w0 w : World} {bk bw : Nat} {K : List Fc} {B : List Bool} (h : Kn w0 w bk bw K B) (ht : Tab w0) (he : Err w0) :
    Calls Tryz.prog 22 #[.agg #[.map (some bk), .map (some bw)]] w fun e w' => ∃ K' B', passI 301 0 (tmK K, B) = (tmK K', B') ∧ e = .returned (.bool (decide (K.length < K'.length))) ∧ Kn w0 w' bk bw K' B' ∧ Two w w' bk bw := by
  have hb0 := abD (w := w) (.cells #[.map (some bk), .map (some bw)] 44)
  have hk0 := h.low hb0
  obtain ⟨D, hD, -, -, hDs⟩ := hk0.known
  rw [en_length] at hDs
  have hln := fun ty => World.ownsMap.len hD Tryz.underlying42 ty
  rw [hDs] at hln
  have h38 := order_calls bw (wh 0 K B) _ hk0.whole (wh_asc 0 K B h.apart) (Nat.le_trans (wh_le 0 K B) h.room)
  have H38 := hide h38
  have HK0 := hide hk0
  have HB0 := hide hb0
  have HBX := hide (heap_alloc_new w (.cells #[.map (some bk), .map (some bw)] 44))
  have HT := hide ht
  have HE := hide he
  have HKL := hide (And.intro h.known.lt h.whole.lt)
  have HWWB := hide h.below.size
  clear h h38 hk0 hb0 ht he hD
  go_enter Tryz.func22, Tryz.ntmps22
  go_wp2_with fail
  refine (unhide H38).mono ?_
  rintro e w2 ⟨v, rfl, hr2, hb2⟩
  have HK2 := hide ((unhide HK0).low hb2)
  have HT2 := hide (Two.trans (Two.low (bk := bk) (bw := bw) (unhide HB0)) (Two.low hb2))
  have HX2 := hide ((hb2.block _ (by simp)).trans (unhide HBX))
  have hr3 : FRw (w.heap.size + 1) (wh 0 K B) v w2 := by rw [heap_size_alloc] at hr2; exact hr2
  have HR2 := hide hr3
  have HWL := hide (wh_le 0 K B)
  have lk := (unhide HKL).1
  have lw := (unhide HKL).2
  clear hb2 hr2 hr3 H38 HB0 HBX HK0 hln
  go_wp2_with fail
  go_loopw [4, 5] (fun v i wr => ∃ (K1 : List Fc) (B1 : List Bool) (W : List (Nat × Fc)) (k q : Nat), i = .int .i64 k ∧ k ≤ W.length ∧ Hid (TaInv w0 w bk bw K B v wr K1 B1 W k q)) (fun _ i _ => 301 - (intOf i).toNat)
  case atStart => exact ⟨K, B, wh 0 K B, 0, 0, rfl, Nat.zero_le _, ⟨unhide HK2, unhide HR2, Que.start K B, Nat.zero_le _, rfl, unhide HT2, unhide HX2, unhide HWL⟩⟩
  case round =>
    obtain ⟨K1, B1, W, k, q, rfl, hkW, HI⟩ := hrel
    obtain ⟨va, vc, rfl, hvc⟩ := (unhide HI).row.shape
    have hW3 : W.length ≤ 300 := Nat.le_trans (unhide HI).len (unhide HI).kn.room
    by_cases hlt : k < W.length
    · have c2 : (k : Int) < (W.length : Int) := by omega
      have c3 : (0 : Int) ≤ (k : Int) := by omega
      have w1 : wrap64 ((k : Int) + 1) = ((k + 1 : Nat) : Int) := by unfold wrap64; omega
      have HN1 := hide (show k + 1 ≤ W.length by omega)
      have HN2 := hide (meas_out k (by omega))
      have HN3 := hide (int_succ k)
      obtain ⟨⟨j, t, op, n, s, a, len, cap⟩, hpk⟩ : ∃ p, W[k]? = some p := ⟨_, List.getElem?_eq_getElem hlt⟩
      obtain ⟨g, gc, hv, hg1, hg2, hra⟩ := (unhide HI).row.cells hpk
      simp only [Value.slice.injEq, true_and] at hv
      obtain ⟨rfl, rfl⟩ := hv
      have e0 := hra 0 _ rfl
      have e1 := hra 1 _ rfl
      have e2 := hra 2 _ rfl
      have e3 := hra 3 _ rfl
      have e4 := hra 4 _ rfl
      rw [Nat.add_zero] at e0
      have hkb := (unhide HI).box
      have d0 := cell_of_row hkb (j := 0) (by simp)
      have d1 := cell_of_row hkb (j := 1) (by simp)
      simp only [List.getElem_toArray, List.getElem_cons_zero, List.getElem_cons_succ] at d0 d1
      obtain ⟨hok, hl0⟩ := (unhide HI).fact hpk
      have hkn := (unhide HI).kn
      have h61 := fun x (hx : Below wr.heap.size wr x) => parts_of bk bw (en 0 K1) t op n s a len cap x (hkn.low hx).known (en_ok fun f hf => (hkn.ok f hf).1) (hl0.below (hkn.low hx).below) hok ((unhide HT).on (hkn.low hx).below) ((unhide HE).on (hkn.low hx).below)
      rw [tmE_en] at h61
      have HPK := hide hpk
      have HL0 := hide hl0
      have HOK := hide hok
      have HKB := hide hkb
      have gne : (g = w.heap.size) = False := eq_false (by omega)
      have gne2 : (w.heap.size = g) = False := eq_false (by omega)
      cases ho : opnP (tmK K1) t with
      | false =>
        rw [ho] at h61
        have H61 := hide h61
        have HI2 := hide ((unhide HI).no hpk ho)
        have HWN := hide hlt
        clear hpk hra hkb hkn h61 ho hok hl0 HI
        generalize hWl : W.length = Wn at *
        have HWl := hide hWl
        clear hWl
        go_wp2_with fail
        go_region_with (first
          | (go_at_call 35
             refine (unhide H61 _ ((Below.refl _ _).drew)).mono ?_
             rintro e w3 ⟨⟨pa, pc, rfl, hpa⟩, hb3⟩
             have HB3 := hide (below_drew' hb3)
             clear hpa hb3))
        all_goals
          go_wp2_with fail
          exact ⟨⟨K1, B1, W, k + 1, j + 1, unhide HN3, by rw [unhide HWl]; exact unhide HN1, (unhide HI2).low (unhide HB3)⟩, unhide HN2⟩
      | true =>
        rw [ho] at h61
        have H61 := hide h61
        have HO := hide ho
        have HWN := hide hlt
        have hxl := exT_le t (okT_right hok)
        have hzz : t.size ≤ 200 := by unfold okT at hok; rw [Bool.and_eq_true] at hok; exact of_decide_eq_true hok.1
        have HKY := hide (key_mk (exT t) (by omega))
        clear hpk hra hkb hkn h61 ho hok hl0 hxl hzz
        generalize hWl : W.length = Wn at *
        have HWl := hide hWl
        clear hWl
        clear HK2 HT2 HX2 HR2 HWL hDs
        go_wp2_with fail
        go_cut [6, 7] (fun p o wx => ∃ (pa : Option Addr) (pc : Nat), p = .slice pa (mayP t).length pc ∧ o = .bool true ∧ Hid (∀ v, Lies v 0 t (tmCells op n s a len cap) → LiesAll v 0 pa 0 (mayP t)) ∧ Hid (Below wr.heap.size wr wx))
        case first =>
          go_region_with (first
            | (go_at_call 35
               refine (unhide H61 _ ((Below.refl _ _).drew)).mono ?_
               rintro e w3 ⟨⟨pa, pc, rfl, hpa⟩, hb3⟩
               have HB3 := hide (below_drew' hb3)
               have HPA := hide hpa
               clear hpa hb3))
          all_goals
            go_wp2_with fail
            go_meet
            exact ⟨pa, pc, rfl, rfl, HPA, HB3⟩
        case rest =>
          obtain ⟨pa, pc, rfl, rfl, HPA, HB3⟩ := hcut
          have HI3 := hide ((unhide HI).low (unhide HB3))
          have g0 := kpc (unhide HB3) e0
          have g1 := kpc (unhide HB3) d1
          obtain ⟨F, hF1, hF2⟩ := (unhide HI3).part (unhide HPK)
          have hwm := (unhide HI3).kn.whole
          rw [hF1] at hwm
          obtain ⟨D3, hD3, hD3f, hD3a, hD3s⟩ := hwm
          have HDEL := hide (fun x m hx => KMap.del (w' := x) (m := m) (j, ⟨t, op, n, s, a, len, cap⟩) hD3 (by rw [← hF1]; exact wh_asc 0 K1 B1 (unhide HI3).kn.apart) hD3f hD3a hD3s hx)
          obtain ⟨w4, hrun, hown4, hturn4⟩ := (World.ownsMap.drew hD3).drop law Tryz.underlying42 (unhide HKY) 0
          have HO4 := hide hown4
          have HG4 := hide (hturn4.grown)
          clear hD3 hD3f hD3a hD3s e0 e1 e2 e3 e4 d0 d1 hown4 hturn4
          go_wp2_with fail
          go_region
          all_goals
            go_wp2_with fail
            have hyes := (unhide HI3).yes (unhide HPK) (unhide HO) (x := w4) (gb_drew (unhide HG4)) (by rw [hF2]; exact unhide HDEL _ _ (unhide HO4)) lw
            have HJ := hide hyes.1
            have HPS := hide hyes.2
            have HWW := hide (unhide HI3).two.size
            have HW0 := hide (unhide HWWB)
            clear hyes hF1 hF2 HDEL HO4 HG4 hrun g0 g1 HI HI3 HPK HO HKY HB3 H61 HWW HW0 HKB HWN HWl gne gne2
            have hps := may_len t
            go_loopw [4, 45] (fun v i wr => ∃ (K2 : List Fc) (B2 : List Bool) (W2 : List (Nat × Fc)) (m : Nat), i = .int .i64 m ∧ m ≤ (mayP t).length ∧ Hid (InInv w0 w bk bw (tmK K1, B1.set j false) (mayP t) v wr K2 B2 W2 k j m)) (fun _ i _ => (mayP t).length - (intOf i).toNat)
            case atStart => exact ⟨K1, B1.set j false, W, 0, rfl, Nat.zero_le _, unhide HJ⟩
            case round =>
              clear HJ
              obtain ⟨K2, B2, W2, m, rfl, hm, HJ⟩ := hrel
              by_cases hml : m < (mayP t).length
              · obtain ⟨b1, o1, op1, n1, s1, a1, len1, cap1, hpa1, _, hbs1, x0, x1, x2, x3, hT1⟩ := (unhide HPA w0 (unhide HL0)).elem (k := m) hml
                obtain ⟨x, hx⟩ : ∃ x, (mayP t)[m]? = some x := ⟨_, List.getElem?_eq_getElem hml⟩
                have hxe : (mayP t)[m] = x := by rw [List.getElem?_eq_getElem hml] at hx; injection hx
                rw [hxe] at hT1
                subst hpa1
                have hokx := may_ok (unhide HOK) x (List.mem_of_getElem? hx)
                have hbw := (unhide HJ).kn.below
                have y0 := kpc hbw x0
                have y1 := kpc hbw x1
                have y2 := kpc hbw x2
                have y3 := kpc hbw x3
                have hkb := (unhide HJ).box
                have d0 := cell_of_row hkb (j := 0) (by simp)
                have d1 := cell_of_row hkb (j := 1) (by simp)
                simp only [List.getElem_toArray, List.getElem_cons_zero, List.getElem_cons_succ] at d0 d1
                have lbx := lt_of_heap hkb
                have nbx := Nat.ne_of_lt lbx
                have mbx := Ne.symm nbx
                have z2 : (m : Int) < ((mayP t).length : Int) := by omega
                have z3 : (0 : Int) ≤ (m : Int) := by omega
                have HM3 := hide (int_succ m)
                have HM2 := hide (meas_in m hml)
                have HM1 := hide (show m + 1 ≤ (mayP t).length from hml)
                have abx := abD (w := wr) (.cells #[.int .i64 op1, .int .i64 n1, .string s1, .slice a1 len1 cap1] 35)
                have h36 := learn_kn ((unhide HJ).low abx).kn ⟨x, op1, n1, s1, a1, len1, cap1⟩ hokx hT1 (unhide HT)
                have H36 := hide h36
                have HX := hide hx
                have HABX := hide abx
                clear hx hxe hokx hbw x0 x1 x2 x3 hT1 hkb abx h36 hbs1
                go_wp2_with fail
                refine (unhide H36).mono ?_
                rintro e w5 (⟨hlp, rfl, hb5⟩ | ⟨hlp, he5, hkn5, h25⟩)
                · have HJ2 := hide ((unhide HJ).same (unhide HX) hlp ((unhide HABX).trans (hb5.mono (unhide HABX).size)))
                  clear hb5 hlp HJ H36
                  go_wp2_with fail
                  exact ⟨⟨K2, B2, W2, m + 1, unhide HM3, unhide HM1, (unhide HJ2).low (abD _)⟩, unhide HM2⟩
                · rw [show fv (K2.length, (⟨x, op1, n1, s1, a1, len1, cap1⟩ : Fc)) = .agg #[.string ⟨(exT x).toArray⟩, .int .i64 op1, .int .i64 n1, .string s1, .slice a1 len1 cap1, .int .i64 (K2.length : Nat)] from rfl] at he5
                  subst he5
                  have hgrow := (unhide HJ).grow (f := ⟨x, op1, n1, s1, a1, len1, cap1⟩) (unhide HX) hlp hkn5 h25 lk lw (unhide HWWB)
                  have HP := hide hgrow.1
                  have HGO := hide hgrow.2
                  clear hgrow hlp hkn5 h25 HJ H36
                  go_wp2_with (at_builtin; refine wpList_append_run rfl _ _ 50 rfl u4 (.slice (some ⟨w5.heap.size + 1, 0, none⟩) 1 1) rfl rfl (fun v' w' => FRw (w.heap.size + 1) (W2 ++ [(K2.length, ⟨x, op1, n1, s1, a1, len1, cap1⟩)]) v' w' ∧ ((w5.alloc (.cells #[.string ⟨(exT x).toArray⟩, .int .i64 op1, .int .i64 n1, .string s1, .slice a1 len1 cap1, .int .i64 (K2.length : Nat)] 46)).alloc (.cells #[.string ⟨(exT x).toArray⟩, .int .i64 op1, .int .i64 n1, .string s1, .slice a1 len1 cap1, .int .i64 (K2.length : Nat)] 46)).grownBy w' u4.ownBlock) (unhide HP) ?_; rintro v8 w8 ⟨k1, k2⟩; have HK1 := hide k1; have HK2' := hide k2; clear k1 k2)
                  exact ⟨⟨_, _, _, m + 1, unhide HM3, unhide HM1, unhide HGO _ _ (unhide HK1) (unhide HK2')⟩, unhide HM2⟩
              · have HMD := hide (Nat.not_lt.1 hml)
                go_wp2_with fail
                exact ⟨⟨K2, B2, W2, k + 1, j + 1, unhide HN3, (unhide HJ).kle, (unhide HJ).done (unhide HMD) (unhide HPS)⟩, unhide HN2⟩
    · obtain rfl : k = W.length := by omega
      have c2 : ¬ ((W.length : Int) < (W.length : Int)) := by omega
      have HOV := hide ((unhide HI).over (Nat.le_refl _))
      have hkb := (unhide HI).box
      have d0 := cell_of_row hkb (j := 0) (by simp)
      have d1 := cell_of_row hkb (j := 1) (by simp)
      simp only [List.getElem_toArray, List.getElem_cons_zero, List.getElem_cons_succ] at d0 d1
      obtain ⟨D1, hD1, _, _, hD1s⟩ := (unhide HI).kn.known
      rw [en_length] at hD1s
      have hln := fun ty => World.ownsMap.len hD1 Tryz.underlying42 ty
      rw [hD1s] at hln
      clear hkb hD1
      generalize hWl : W.length = Wn at *
      go_wp2_with fail
      go_ret
      exact ⟨K1, B1, unhide HOV, rfl, (unhide HI).kn, (unhide HI).two⟩

/-- What the walk of takeApart says. -/
def ApartOk : Prop := ∀ (w0 w : World) (bk bw : Nat) (K : List Fc) (B : List Bool), Kn w0 w bk bw K B → Tab w0 → Err w0 →
    Calls Tryz.prog 22 #[.agg #[.map (some bk), .map (some bw)]] w fun e w' => ∃ K' B', passI 301 0 (tmK K, B) = (tmK K', B') ∧ e = .returned (.bool (decide (K.length < K'.length))) ∧ Kn w0 w' bk bw K' B' ∧ Two w w' bk bw

/-- Both maps are new, and the box that names them. -/
structure PaInv (w wr : World) (K : List Fc) (B : List Bool) : Prop where
  kn : Kn w wr w.heap.size (w.heap.size + 1) K B
  box : wr.heap[w.heap.size + 1 + 1]? = some (.cells #[.map (some w.heap.size), .map (some (w.heap.size + 1))] 44 (0, 0))
theorem PaInv.low {w wr x : World} {K : List Fc} {B : List Bool} (h : PaInv w wr K B) (hb : Below wr.heap.size wr x) : PaInv w x K B := ⟨h.kn.low hb, (hb.block _ (lt_of_heap h.box)).trans h.box⟩
theorem PaInv.two {w wr x : World} {K K' : List Fc} {B B' : List Bool} (h : PaInv w wr K B) (h2 : Two wr x w.heap.size (w.heap.size + 1)) (hk : Kn w x w.heap.size (w.heap.size + 1) K' B') : PaInv w x K' B' := ⟨hk, (h2.block _ (lt_of_heap h.box) (by omega) (by omega)).trans h.box⟩
theorem PaInv.start (w : World) : PaInv w (((w.alloc (.map #[] 0)).alloc (.map #[] 0)).alloc (.cells #[.map (some w.heap.size), .map (some (w.heap.size + 1))] 44)) [] [] := by
  have a1 := abD (w := w) (.map #[] 0)
  have a2 := abD (w := w.alloc (.map #[] 0)) (.map #[] 0)
  have a3 := abD (w := (w.alloc (.map #[] 0)).alloc (.map #[] 0)) (.cells #[.map (some w.heap.size), .map (some (w.heap.size + 1))] 44)
  have k1 := ((KMap.new w).low a2).low a3
  have k2 := (KMap.new (w.alloc (.map #[] 0))).low a3
  rw [heap_size_alloc] at k2
  have b3 := heap_alloc_new ((w.alloc (.map #[] 0)).alloc (.map #[] 0)) (.cells #[.map (some w.heap.size), .map (some (w.heap.size + 1))] 44)
  rw [heap_size_alloc, heap_size_alloc] at b3
  exact ⟨⟨k1, k2, rfl, by simp, (fun f hf => by cases hf), List.Pairwise.nil, (a1.trans (a2.mono a1.size)).trans (a3.mono (by simp; omega)), by omega, Nat.le_refl _, by omega⟩, b3⟩
theorem take_learn {ts : List Tm} {k : Nat} {t : Tm} (h : ts[k]? = some t) (s0 : List Tm × List Bool) : ((ts.take (k + 1)).filter okT).foldl learnP s0 = if okT t = true then learnP (((ts.take k).filter okT).foldl learnP s0) t else ((ts.take k).filter okT).foldl learnP s0 := by
  rw [List.take_add_one, h, List.filter_append, List.foldl_append]
  by_cases hk : okT t = true
  · simp [hk]
  · simp [hk]

theorem en_get : ∀ {K : List Fc} (i : Nat) {k : Nat} {f : Fc}, K[k]? = some f → (en i K)[k]? = some (i + k, f)
  | [], i, k, f, h => by simp at h
  | g :: K, i, 0, f, h => by
    simp only [List.getElem?_cons_zero, Option.some.injEq] at h
    subst h
    rfl
  | g :: K, i, k + 1, f, h => by
    have := en_get (K := K) (i + 1) (k := k) (f := f) (by simpa using h)
    rw [en_cons, List.getElem?_cons_succ, this, show i + 1 + k = i + (k + 1) by omega]
theorem tmK_take {K : List Fc} {k : Nat} {f : Fc} (h : K[k]? = some f) : (tmK K).take (k + 1) = (tmK K).take k ++ [f.t] := by
  rw [List.take_add_one]
  unfold tmK
  rw [List.getElem?_map, h]
  rfl
theorem grow_low {B C : Nat} {ks : List Tm} {v : Value} {f : List Nat} {w : World} (h : Grow B ks v f w) (hC : C ≤ B) : Grow C ks v f w := by
  obtain ⟨xs, ⟨h1, h2⟩, h3⟩ := h.row
  refine ⟨⟨xs, ⟨h1, ?_⟩, h3⟩, h.nd, fun x hx => Nat.le_trans hC (h.ge x hx), h.out⟩
  rcases h2 with h2 | ⟨g, cap, cur, e1, e2, e3⟩
  · exact Or.inl h2
  · exact Or.inr ⟨g, cap, cur, e1, Nat.le_trans hC e2, e3⟩
theorem loop_step {S : List Tm × List Bool} {K2 K3 : List Fc} {B2 B3 : List Bool} {f : Nat} (h : S = loopI f (tmK K2, B2)) (hf : 301 ≤ f + K2.length) (hr : K2.length ≤ 300) (hp : passI 301 0 (tmK K2, B2) = (tmK K3, B3)) :
    (K2.length < K3.length → S = loopI (f - 1) (tmK K3, B3) ∧ 301 ≤ f - 1 + K3.length) ∧ (¬ K2.length < K3.length → S = (tmK K3, B3)) := by
  obtain ⟨g, rfl⟩ : ∃ g, f = g + 1 := ⟨f - 1, by omega⟩
  have l2 : (tmK K2).length = K2.length := by simp [tmK]
  have l3 : (tmK K3).length = K3.length := by simp [tmK]
  rw [loopI, hp] at h
  simp only [l2, l3] at h
  constructor
  · intro hlt
    rw [if_pos hlt] at h
    exact ⟨h, by omega⟩
  · intro hge
    rw [if_neg hge] at h
    exact h

set_option maxRecDepth 100000 in
set_option maxHeartbeats 2000000 in
theorem partsImpl (hap : ApartOk) (ts : List Tm) (pa : Option Addr) (pcap : Nat) (w : World) (hk : LiesAll w 0 pa 0 ts) (hlen : ts.length ≤ 2097152) (hz : ∀ t ∈ ts, t.size ≤ 2097152) (ht : Tab w) (he : Err w) :
    Calls Tryz.prog 8 #[.slice pa ts.length pcap] w fun e w' => ∃ v f, e = .returned v ∧ Grow w.heap.size (partsP ts) v f w' ∧ Below w.heap.size w w' := by
  have HAP := hide hap
  have HK := hide hk
  have HZ := hide hz
  have HT := hide ht
  have HE := hide he
  have hmm := @run_makeMap Tryz.prog
  have HP0 := hide (PaInv.start w)
  clear hap hk hz ht he
  generalize hln : ts.length = tn at *
  have HLN := hide hln
  clear hln
  go_enter Tryz.func8, Tryz.ntmps8
  go_wp2_with fail
  go_loopw [15] (fun i wr => ∃ (k : Nat) (K : List Fc) (B : List Bool), i = .int .i64 k ∧ k ≤ tn ∧ Hid (PaInv w wr K B) ∧ Hid (((ts.take k).filter okT).foldl learnP ([], []) = (tmK K, B))) (fun i _ => tn - (intOf i).toNat)
  case atStart => exact ⟨0, [], [], rfl, Nat.zero_le _, unhide HP0, rfl⟩
  case round =>
    obtain ⟨k, K, B, rfl, hkl, HP, HFO⟩ := hrel
    by_cases hlt : k < tn
    · have hlt' : k < ts.length := by have := unhide HLN; omega
      have c2 : (k : Int) < (tn : Int) := by omega
      have c3 : (0 : Int) ≤ (k : Int) := by omega
      obtain ⟨b1, o1, op1, n1, s1, a1, len1, cap1, rfl, _, _, x0, x1, x2, x3, hT1⟩ := (unhide HK).elem (k := k) hlt'
      obtain ⟨x, hx⟩ : ∃ x, ts[k]? = some x := ⟨_, List.getElem?_eq_getElem hlt'⟩
      have hxe : ts[k] = x := by rw [List.getElem?_eq_getElem hlt'] at hx; injection hx
      rw [hxe] at hT1
      have hbw := (unhide HP).kn.below
      have y0 := kpc hbw x0
      have y1 := kpc hbw x1
      have y2 := kpc hbw x2
      have y3 := kpc hbw x3
      have hkb := (unhide HP).box
      have lbx := lt_of_heap hkb
      have nbx := Nat.ne_of_lt lbx
      have mbx := Ne.symm nbx
      have d0 := cell_of_row hkb (j := 0) (by simp)
      have d1 := cell_of_row hkb (j := 1) (by simp)
      simp only [List.getElem_toArray, List.getElem_cons_zero, List.getElem_cons_succ] at d0 d1
      have abx := abD (w := wr) (.cells #[.int .i64 op1, .int .i64 n1, .string s1, .slice a1 len1 cap1] 35)
      have h26 := ok10 x op1 n1 s1 a1 len1 cap1 _ (hT1.below ((unhide HP).low abx).kn.below) (unhide HZ x (List.mem_of_getElem? hx))
      have HFT := hide (take_learn hx (([], []) : List Tm × List Bool))
      have HT1 := hide hT1
      have HABX := hide abx
      have HKBX := hide (heap_alloc_new wr (.cells #[.int .i64 op1, .int .i64 n1, .string s1, .slice a1 len1 cap1] 35))
      cases hok : okT x with
      | false =>
        rw [hok] at h26
        have H26 := hide h26
        have HFX : Hid (((ts.take (k + 1)).filter okT).foldl learnP ([], []) = (tmK K, B)) := by
          show _ = _
          rw [unhide HFT, hok]
          simpa using unhide HFO
        clear hx hxe hbw x0 x1 x2 x3 hT1 hkb abx h26 hok d0 d1
        go_wp2_with fail
        refine (unhide H26).mono ?_
        rintro e w4 ⟨rfl, hb4⟩
        have HB4 := hide ((unhide HABX).trans (hb4.mono (unhide HABX).size))
        clear hb4
        go_wp2_with fail
        exact ⟨⟨k + 1, K, B, by go_num, by omega, (unhide HP).low (unhide HB4), unhide HFX⟩, by simp [intOf]; omega⟩
      | true =>
        rw [hok] at h26
        have H26 := hide h26
        have HOK := hide hok
        clear hx hxe hbw x0 x1 x2 x3 hT1 hkb abx h26 hok d0 d1
        go_wp2_with fail
        refine (unhide H26).mono ?_
        rintro e w4 ⟨rfl, hb4⟩
        have HP4 := hide (((unhide HP).low (unhide HABX)).low hb4)
        have hkb4 := (unhide HP4).box
        have d0 := cell_of_row hkb4 (j := 0) (by simp)
        have d1 := cell_of_row hkb4 (j := 1) (by simp)
        simp only [List.getElem_toArray, List.getElem_cons_zero, List.getElem_cons_succ] at d0 d1
        have hxb4 := (hb4.block _ (lt_of_heap (unhide HKBX))).trans (unhide HKBX)
        have f0 := cell_of_row hxb4 (j := 0) (by simp)
        have f1 := cell_of_row hxb4 (j := 1) (by simp)
        have f2 := cell_of_row hxb4 (j := 2) (by simp)
        have f3 := cell_of_row hxb4 (j := 3) (by simp)
        simp only [List.getElem_toArray, List.getElem_cons_zero, List.getElem_cons_succ] at f0 f1 f2 f3
        have H36 := hide (learn_kn (unhide HP4).kn ⟨x, op1, n1, s1, a1, len1, cap1⟩ (unhide HOK) (unhide HT1) (unhide HT))
        clear hb4 hkb4 hxb4
        go_wp2_with fail
        refine (unhide H36).mono ?_
        rintro e w5 (⟨hlp, rfl, hb5⟩ | ⟨hlp, he5, hkn5, h25⟩)
        · have HP5 := hide ((unhide HP4).low hb5)
          have HFX : Hid (((ts.take (k + 1)).filter okT).foldl learnP ([], []) = (tmK K, B)) := by
            show _ = _
            rw [unhide HFT, if_pos (unhide HOK), unhide HFO]
            exact hlp
          clear hb5 hlp
          go_wp2_with fail
          exact ⟨⟨k + 1, K, B, by go_num, by omega, unhide HP5, unhide HFX⟩, by simp [intOf]; omega⟩
        · subst he5
          have HP5 := hide ((unhide HP4).two h25 hkn5)
          have HFX : Hid (((ts.take (k + 1)).filter okT).foldl learnP ([], []) = (tmK (K ++ [⟨x, op1, n1, s1, a1, len1, cap1⟩]), B ++ [true])) := by
            show _ = _
            rw [unhide HFT, if_pos (unhide HOK), unhide HFO]
            exact hlp
          clear hlp hkn5 h25
          go_wp2_with fail
          exact ⟨⟨k + 1, _, _, by go_num, by omega, unhide HP5, unhide HFX⟩, by simp [intOf]; omega⟩
    · obtain rfl : k = tn := by omega
      have c2 : ¬ ((k : Int) < (k : Int)) := by omega
      have HS1 : Hid ((ts.filter okT).foldl learnP ([], []) = (tmK K, B)) := by
        show _ = _
        have := unhide HFO
        rwa [List.take_of_length_le (by have := unhide HLN; omega)] at this
      clear HFO
      have HKR := hide (unhide HP).kn.room
      go_wp2_with fail
      go_loopg [6] 602 (fun gk v wr => ∃ (K : List Fc) (B : List Bool) (b : Bool) (f : Nat), v = .bool b ∧ ((if b = true then 601 - K.length else 0) < gk) ∧ Hid (PaInv w wr K B) ∧ Hid (b = true → loopI 301 ((ts.filter okT).foldl learnP ([], [])) = loopI f (tmK K, B) ∧ 301 ≤ f + K.length) ∧ Hid (b = false → loopI 301 ((ts.filter okT).foldl learnP ([], [])) = (tmK K, B)))
      case atStart => exact ⟨K, B, true, 301, rfl, by simp; try omega, unhide HP, (fun _ => ⟨by rw [unhide HS1], by omega⟩), (fun h => by cases h)⟩
      case round =>
        clear HP HS1 HKR
        obtain ⟨K2, B2, b, f, rfl, hgk, HP, HL1, HL2⟩ := hrel
        have hkb := (unhide HP).box
        have d0 := cell_of_row hkb (j := 0) (by simp)
        have d1 := cell_of_row hkb (j := 1) (by simp)
        simp only [List.getElem_toArray, List.getElem_cons_zero, List.getElem_cons_succ] at d0 d1
        cases b with
        | true =>
          have HLA := hide (unhide HL1 rfl)
          have hgk2 : 601 - K2.length < gk := by simpa using hgk
          clear HL1 HL2 hgk
          have H37 := hide (unhide HAP w wr w.heap.size (w.heap.size + 1) K2 B2 (unhide HP).kn (unhide HT) (unhide HE))
          have HR2 := hide (unhide HP).kn.room
          clear hkb
          go_wp2_with fail
          refine (unhide H37).mono ?_
          rintro e w3 ⟨K3, B3, hps, rfl, hkn3, h23⟩
          have HP3 := hide ((unhide HP).two h23 hkn3)
          have HR3 := hide hkn3.room
          have HST := hide (loop_step (unhide HLA).1 (unhide HLA).2 (unhide HR2) hps)
          clear hps hkn3 h23 H37
          go_wp2_with fail
          go_roundg ((if decide (K2.length < K3.length) = true then 601 - K3.length else 0) + 1)
          case measure =>
            have := unhide HR2
            by_cases hc : K2.length < K3.length
            · simp [hc]; omega
            · simp [hc]; omega
          case rel =>
            refine ⟨K3, B3, decide (K2.length < K3.length), f - 1, rfl, by omega, unhide HP3, fun hb => (unhide HST).1 (of_decide_eq_true hb), fun hb => (unhide HST).2 (of_decide_eq_false hb)⟩
        | false =>
          have h38 := order_calls w.heap.size (en 0 K2) wr (unhide HP).kn.known (wh_asc 0 K2 _ (unhide HP).kn.apart) (by rw [en_length]; exact (unhide HP).kn.room)
          have H38 := hide h38
          have HTG := hide (unhide HL2 rfl)
          clear hkb h38
          go_wp2_with fail
          refine (unhide H38).mono ?_
          rintro e w3 ⟨v3, rfl, hr3, hb3⟩
          have HR3 := hide hr3
          have HB3 := hide hb3
          obtain ⟨va, vc, rfl, _⟩ := hr3.shape
          rw [en_length] at HR3
          have HEN := hide (en_length 0 K2)
          have HBW := hide (unhide HP).kn.below
          have hk3 := (unhide HP).kn.room
          have HKO := hide (unhide HP).kn.ok
          have HBW3 := hide ((unhide HBW).trans ((unhide HB3).mono (unhide HBW).size))
          rw [en_length]
          clear hr3 hb3 H38 d0 d1 HP HAP HP0 HL1 HL2 HK HZ hgk
          go_wp2_with fail
          go_loopw [7, 32] (fun pv i wq => ∃ (k2 : Nat) (f2 : List Nat), i = .int .i64 k2 ∧ k2 ≤ K2.length ∧ Hid (Grow w3.heap.size ((tmK K2).take k2) pv f2 wq) ∧ Hid (Below w3.heap.size w3 wq)) (fun _ i _ => K2.length - (intOf i).toNat)
          case atStart => exact ⟨0, [], rfl, Nat.zero_le _, Grow.start _ _, Below.refl _ _⟩
          case round =>
            obtain ⟨k2, f2, rfl, hk2, HG, HBQ⟩ := hrel
            by_cases hlt2 : k2 < K2.length
            · obtain ⟨⟨x, op1, n1, s1, a1, len1, cap1⟩, hx⟩ : ∃ x, K2[k2]? = some x := ⟨_, List.getElem?_eq_getElem hlt2⟩
              have c2 : (k2 : Int) < (K2.length : Int) := by omega
              have c3 : (0 : Int) ≤ (k2 : Int) := by omega
              have hen := en_get 0 hx
              rw [Nat.zero_add] at hen
              obtain ⟨g, gc, hv, _, hg2, hra⟩ := (unhide HR3).cells hen
              rw [unhide HEN] at hv
              simp only [Value.slice.injEq, true_and] at hv
              obtain ⟨rfl, rfl⟩ := hv
              have e0 := kpc (unhide HBQ) (hra 0 _ rfl)
              have e1 := kpc (unhide HBQ) (hra 1 _ rfl)
              have e2 := kpc (unhide HBQ) (hra 2 _ rfl)
              have e3 := kpc (unhide HBQ) (hra 3 _ rfl)
              have e4 := kpc (unhide HBQ) (hra 4 _ rfl)
              have e5 := kpc (unhide HBQ) (hra 5 _ rfl)
              rw [Nat.add_zero] at e0
              obtain ⟨hokx, hlx⟩ := unhide HKO _ (List.mem_of_getElem? hx)
              have hzx : x.size ≤ 200 := by unfold okT at hokx; rw [Bool.and_eq_true] at hokx; exact of_decide_eq_true hokx.1
              have hbq : Below w.heap.size w wr := (unhide HBW3).trans ((unhide HBQ).mono (unhide HBW3).size)
              have ab4 := abD (w := wr) (.cells #[.string ⟨(exT x).toArray⟩, .int .i64 op1, .int .i64 n1, .string s1, .slice a1 len1 cap1, .int .i64 (k2 : Nat)] 46)
              have h39 := cy_calls x op1 n1 s1 a1 len1 cap1 _ (hlx.below (hbq.trans (ab4.mono hbq.size))) (by have h61 : x.size + x.wt ≤ 61000 := okT_small hokx; omega)
              have H39 := hide h39
              have HAB4 := hide ab4
              have HTK := hide (tmK_take hx)
              have hq3 := (unhide HBQ).size
              clear hx hen hra hokx hlx hbq ab4 h39
              go_wp2_with fail
              refine (unhide H39).mono ?_
              rintro e w5 ⟨a5, c5, f5, rfl, hO, ⟨hnd, hge⟩, hb5⟩
              simp only [heap_size_alloc] at hge
              have hb05 := (unhide HAB4).trans (hb5.mono (unhide HAB4).size)
              have ab6 := abD (w := w5) (.cells #[.int .i64 op1, .int .i64 n1, .string s1, .slice a5 len1 c5] 35)
              have hbw6 := hb05.trans (ab6.mono hb05.size)
              have HP6 := hide (((unhide HG).carry hbw6).push2 (t := x) (Own.keep x _ f5 hO fun y hy => ab6.block y (Own.lt _ _ _ hO y hy)) hnd (fun y hy => by have := hge y hy; omega) (fun y hy hyf => by have := hge y hy; have := (unhide HG).lt y hyf; omega) (fun g hgv hy => by have := hge g hy; have := (unhide HG).own_lt g hgv; omega) (b := w5.heap.size) (o := 0) (fun j v hj => box_at w5 _ j v hj) 1 (by simp [tmK]; omega) (by have := hbw6.size; omega) 24)
              have HB6 := hide ((unhide HBQ).trans (hbw6.mono hq3))
              clear hO hnd hge hb5 hb05 ab6 hbw6 H39
              go_wp2_with (at_builtin; refine wpList_append_run rfl _ _ 24 rfl u7 (.slice (some ⟨w5.heap.size, 0, none⟩) 1 1) rfl rfl (fun v' w' => Grow w3.heap.size ((tmK K2).take k2 ++ [x]) v' (f2 ++ f5) w' ∧ Below w3.heap.size (w5.alloc (.cells #[.int .i64 op1, .int .i64 n1, .string s1, .slice a5 len1 c5] 35)) w' ∧ ∀ y, y < (w5.alloc (.cells #[.int .i64 op1, .int .i64 n1, .string s1, .slice a5 len1 c5] 35)).heap.size → (∀ g, u7.ownBlock = some g → y ≠ g) → w'.heap[y]? = (w5.alloc (.cells #[.int .i64 op1, .int .i64 n1, .string s1, .slice a5 len1 c5] 35)).heap[y]?) (unhide HP6) ?_; rintro v7 w7 ⟨k1, k3, k4⟩; have HK1 := hide k1; have HK3 := hide k3; clear k1 k3 k4)
              exact ⟨⟨k2 + 1, f2 ++ f5, by go_num, by omega, by rw [unhide HTK]; exact unhide HK1, (unhide HB6).trans (unhide HK3)⟩, by simp [intOf]; omega⟩
            · have hpp : tmK K2 = partsP ts := by
                rw [← parts_same]
                unfold partsI
                rw [unhide HTG]
              have htk : (tmK K2).take k2 = partsP ts := by rw [← hpp]; exact List.take_of_length_le (by simp [tmK]; omega)
              go_wp2_with fail
              go_ret
              exact ⟨_, f2, rfl, by rw [← htk]; exact grow_low (unhide HG) (unhide HBW3).size, (unhide HBW3).trans ((unhide HBQ).mono (unhide HBW3).size)⟩

theorem partsIm (ts : List Tm) (pa : Option Addr) (pcap : Nat) (w : World) (hk : LiesAll w 0 pa 0 ts) (hlen : ts.length ≤ 2097152) (hz : ∀ t ∈ ts, t.size ≤ 2097152) (ht : Tab w) (he : Err w) :
    Calls Tryz.prog 8 #[.slice pa ts.length pcap] w fun e w' => ∃ v f, e = .returned v ∧ Grow w.heap.size (partsP ts) v f w' ∧ Below w.heap.size w w' :=
  partsImpl (fun _ _ _ _ _ _ h ht he => apart_calls h ht he) ts pa pcap w hk hlen hz ht he

theorem parts_sizes (ts : List Tm) : ∀ x ∈ partsP ts, x.size ≤ 2097152 := by
  have h1 : ∀ (ps L : List Tm), (∀ x ∈ ps, okT x = true) → (∀ x ∈ L, okT x = true) → ∀ x ∈ ps.foldl addP L, okT x = true := by
    intro ps
    induction ps with
    | nil => intro L _ hL; exact hL
    | cons p ps ih =>
      intro L hp hL
      rw [List.foldl_cons]
      refine ih _ (fun x hx => hp x (by simp [hx])) fun x hx => ?_
      unfold addP at hx
      split at hx
      · exact hL x hx
      · rcases List.mem_append.1 hx with hx | hx
        · exact hL x hx
        · rw [List.mem_singleton.1 hx]; exact hp p (by simp)
  have h2 : ∀ (L : List Tm) (t : Tm), (∀ x ∈ L, okT x = true) → okT t = true → ∀ x ∈ stepP L t, okT x = true := fun L t hL ht => by
    unfold stepP
    split
    · exact h1 _ _ (may_ok ht) hL
    · exact hL
  have h3 : ∀ (f i : Nat) (L : List Tm), (∀ x ∈ L, okT x = true) → ∀ x ∈ passP f i L, okT x = true := by
    intro f
    induction f with
    | zero => intro i L hL; exact hL
    | succ f ih =>
      intro i L hL
      unfold passP
      cases hi : L[i]? with
      | none => exact hL
      | some t => exact ih _ _ (h2 L t hL (hL t (List.mem_of_getElem? hi)))
  have h4 : ∀ (f : Nat) (L : List Tm), (∀ x ∈ L, okT x = true) → ∀ x ∈ loopP f L, okT x = true := by
    intro f
    induction f with
    | zero => intro L hL; exact hL
    | succ f ih =>
      intro L hL
      unfold loopP
      split
      · exact ih _ (h3 _ _ _ hL)
      · exact h3 _ _ _ hL
  intro x hx
  have := h4 301 _ (h1 (ts.filter okT) [] (fun y hy => (List.mem_filter.1 hy).2) (fun y hy => by cases hy)) x hx
  unfold okT at this
  rw [Bool.and_eq_true] at this
  have := of_decide_eq_true this.1
  omega

noncomputable def canB (ts : List Tm) (t : Tm) : Bool := okT t && mkB (partsP ts) t
theorem canM_calls (ts : List Tm) (t : Tm) (pa : Option Addr) (pcap : Nat) (op n : Int) (s : ByteArray) (a : Option Addr) (len cap : Nat) (w : World) (hk : LiesAll w 0 pa 0 ts) (hl : Lies w 0 t (tmCells op n s a len cap)) (hlen : ts.length ≤ 2097152) (hz : ∀ t ∈ ts, t.size ≤ 2097152) (ht : t.size ≤ 2097152) :
    Calls Tryz.prog 13 #[.slice pa ts.length pcap, .agg #[.int .i64 op, .int .i64 n, .string s, .slice a len cap]] w fun e w' => e = .returned (.bool (canB ts t)) ∧ Below w.heap.size w w' := canS ts t pa pcap op n s a len cap w hk hlen hz hl ht

set_option maxRecDepth 100000 in
set_option maxHeartbeats 1000000 in
theorem canI (ts : List Tm) (t : Tm) (pa : Option Addr) (pcap : Nat) (op n : Int) (s : ByteArray) (a : Option Addr) (len cap : Nat) (w : World) (hps : LiesAll w 0 pa 0 ts) (hpl : ts.length ≤ 2097152) (hpz : ∀ x ∈ ts, x.size ≤ 2097152) (hl : Lies w 0 t (tmCells op n s a len cap)) (hz : t.size ≤ 2097152) (ht : Tab w) (he : Err w) :
    Calls Tryz.prog 15 #[.slice pa ts.length pcap, .agg #[.int .i64 op, .int .i64 n, .string s, .slice a len cap]] w fun e w' => e = .returned (.bool (canB ts t)) ∧ Below w.heap.size w w' := by
  have hb0 := abD (w := w) (.cells #[.int .i64 op, .int .i64 n, .string s, .slice a len cap] 35)
  have H10 := hide (fun v (hv : Below w.heap.size w v) => partsIm ts pa pcap v (hps.below hv) hpl hpz (ht.on hv) (he.on hv))
  have H24 := hide (fun a1 c1 v (hv : Below w.heap.size w v) h1 => madeI (partsP ts) t a1 c1 op n s a len cap v h1 (by have := parts_le ts; omega) (parts_sizes ts) (hl.below hv) hz (ht.on hv) (he.on hv))
  have HCB : madeB (partsP ts) t = canB ts t := rfl
  rw [HCB] at H24
  have c0 := box_cell w #[.int .i64 op, .int .i64 n, .string s, .slice a len cap] 35 0 _ rfl
  have c1 := box_cell w #[.int .i64 op, .int .i64 n, .string s, .slice a len cap] 35 1 _ rfl
  have c2 := box_cell w #[.int .i64 op, .int .i64 n, .string s, .slice a len cap] 35 2 _ rfl
  have c3 := box_cell w #[.int .i64 op, .int .i64 n, .string s, .slice a len cap] 35 3 _ rfl
  have HB0 := hide hb0
  clear hb0 hps hpl hpz hl ht he HCB hz
  generalize ts.length = tn at *
  generalize hpn : (partsP ts).length = pn at *
  have HPN := hide hpn
  clear hpn
  go_enter Tryz.func15, Tryz.ntmps15
  go_wp2_with fail
  generalize hgw : w.alloc (.cells #[.int .i64 op, .int .i64 n, .string s, .slice a len cap] 35) = W0 at *
  clear hgw
  go_region_with (first
    | (go_at_call 8
       refine (unhide H10 _ ((unhide HB0).drew)).mono ?_
       rintro e w2 ⟨v, f, rfl, hG, hb2⟩
       have hb2' := hide (below_drew' hb2)
       have HB2 := hide ((unhide HB0).trans ((unhide hb2').mono (unhide HB0).size))
       obtain ⟨a1, cc1, fp, hv, _, _, hko, _, _⟩ := hG.kids
       rw [unhide HPN] at hv
       subst hv
       have HKO := hide hko.lies
       have f0 := kpc (unhide hb2') c0
       have f1 := kpc (unhide hb2') c1
       have f2 := kpc (unhide hb2') c2
       have f3 := kpc (unhide hb2') c3
       clear hb2 hG hko)
    | (go_at_call 26
       refine (unhide H24 a1 cc1 _ (unhide HB2) (unhide HKO)).mono ?_
       rintro e w3 ⟨rfl, hb3⟩
       have HB3 := hide ((unhide HB2).trans (hb3.mono (unhide HB2).size))
       clear hb3))
  all_goals
    go_wp2_with fail
    go_ret
    exact ⟨rfl, unhide HB3⟩

theorem LiesAll.any0 {w : World} {L : Nat} {a : Option Addr} {i : Nat} {ks : List Tm} (h : LiesAll w L a i ks) : LiesAll w 0 a i ks := LiesAll.carry (Nat.zero_le _) (fun _ _ _ _ => rfl) a i ks h

set_option maxRecDepth 100000 in
set_option maxHeartbeats 2000000 in
theorem lawCan_true (ps : List Tm) (t : Tm) (pa : Option Addr) (pcap : Nat) (op n : Int) (s : ByteArray) (a : Option Addr) (len cap : Nat) (w : World) (hps : LiesAll w 0 pa 0 ps) (hpl : ps.length ≤ maxLen) (hl : Lies w 0 t (tmCells op n s a len cap)) (htab : Tab w) (herr : Err w) (hB : canB ps t = true) (hw : (ps.length : Int) + (Tm.wts ps : Int) ≤ 1048576) (hw2 : (t.wt : Int) ≤ 1048576 - ((ps.length : Int) + (Tm.wts ps : Int))) :
    Calls Tryz.prog 4 #[.slice pa ps.length pcap, .agg #[.int .i64 op, .int .i64 n, .string s, .slice a len cap]] w fun e w' => e = .returned (.bool true) ∧ Below w.heap.size w w' := by
  have h4 := hide (szS_any ps (fun x _ => sz_calls x) pa pcap)
  have h5 := hide (sz_calls t op n s a len cap)
  have h7 := hide (toS_any ps (fun x _ => to_calls x) pa pcap)
  have h8 := hide (to_calls t op n s a len cap)
  have h6 := hide (fun pa pcap op n s a len cap => canM_calls ps t pa pcap op n s a len cap)
  have h9 := hide (fun pa pcap op n s a len cap => canI ps t pa pcap op n s a len cap)
  rw [hB] at h6 h9
  have h10 := hide (fun a a' cap cap' => eqS_any ps (fun x _ => eq_calls x) a a' cap cap')
  have h11 := hide (eq_calls t)
  have hsz := Tm.sizes_le ps
  have hZ := t.size_le
  have HSZ : Hid (Tm.sizes ps ≤ 2097152) := by show _ ≤ _; omega
  have HPL : Hid (ps.length ≤ 2097152) := by show _ ≤ _; omega
  have HPM := hide hpl
  have HPZ : Hid (∀ x ∈ ps, x.size ≤ 2097152) := fun x hx => by have := Tm.size_mem hx; omega
  have HTZ : Hid (t.size ≤ 2097152) := by show _ ≤ _; omega
  have hb0 := abD (w := w) (.cells #[.int .i64 op, .int .i64 n, .string s, .slice a len cap] 31)
  have HB0 := hide hb0
  have HR0 := hide (RowT.new 31 w op n s a len cap)
  have HPS := hide hps
  have HL := hide hl
  have HTB := hide htab
  have HER := hide herr
  have hwt : ((ps.length + Tm.wts ps : Nat) : Int) ≤ 1048576 := by omega
  have hs1 := szv_yes (left := 1048576) hwt
  generalize hg1 : ps.length + Tm.wts ps = wp at *
  have hwp : (0 : Int) ≤ (wp : Int) := by omega
  have hs2 := szv_yes (left := 1048576 - (wp : Int)) (wt := t.wt) (by omega)
  generalize hplen : ps.length = plen at *
  generalize hg2 : (1048576 : Int) - (wp : Int) = left1 at *
  have hl1 : 0 ≤ left1 := by omega
  have hl1' : left1 ≤ 1048576 := by omega
  generalize hg3 : left1 - (t.wt : Int) = left2 at *
  have hl2 : 0 ≤ left2 := by omega
  clear hps hl htab herr hb0 hB hpl hsz hZ hw hw2 hwt hwp
  go_enter Tryz.func4, Tryz.ntmps4
  go_wp2_with fail
  refine (unhide h4 _ _ ((unhide HPS).below (unhide HB0)) (unhide HPM) (by omega) (by omega)).mono ?_
  rintro e w1 ⟨rfl, hb1⟩
  rw [hs1]
  have HB1 := hide (bt (unhide HB0) hb1 (Nat.le_refl _))
  obtain ⟨c0, c1, c2, c3⟩ := ((unhide HR0).below hb1).facts
  have HR1 := hide ((unhide HR0).below hb1)
  clear hb1 HB0 HR0 hs1 h4
  go_wp2_with fail
  refine (unhide h5 _ _ ((unhide HL).below (unhide HB1)) hl1 hl1').mono ?_
  rintro e w2 ⟨rfl, hb2⟩
  rw [hs2]
  have HB2 := hide (bt (unhide HB1) hb2 (Nat.le_refl _))
  have HR2 := hide ((unhide HR1).below hb2)
  clear hb2 HB1 HR1 hs2 h5 c0 c1 c2 c3
  obtain ⟨c0, c1, c2, c3⟩ := (unhide HR2).facts
  go_wp2_with fail
  go_region_held3 (fun y => y.cell? ⟨w.heap.size, 0, none⟩ = some (.int .i64 op) ∧ y.cell? ⟨w.heap.size, 1, none⟩ = some (.int .i64 n) ∧ y.cell? ⟨w.heap.size, 2, none⟩ = some (.string s) ∧ y.cell? ⟨w.heap.size, 3, none⟩ = some (.slice a len cap)) (go_keep)
    (first
      | (go_at_call 7
         refine (unhide h7 _ ((unhide HPS).below (unhide HB2).drew) (unhide HSZ)).mono ?_
         rintro e w3 ⟨rfl, hL3, hb3⟩
         have hb3' := hide (below_drew' hb3)
         have HB3 := hide (bt (unhide HB2) (unhide hb3') (Nat.le_refl _))
         have HL3 := hide (hL3.any0)
         obtain ⟨f0, f1, f2, f3⟩ := ((unhide HR2).below (unhide hb3')).facts)
      | (go_at_call 14
         refine (unhide h8 _ ((unhide HL).below (unhide HB3)) (unhide HTZ)).mono ?_
         rintro e w4 ⟨a4, rfl, hL4, hb4⟩
         have hb4' := hide hb4
         have HB4 := hide (bt (unhide HB3) hb4 (Nat.le_refl _))
         have HL4 := hide (hL4.any (Nat.zero_le _))
         have HL34 := hide ((unhide HL3).below hb4)
         obtain ⟨g0, g1, g2, g3⟩ := (((unhide HR2).below (unhide hb3')).below hb4).facts)
      | (go_at_call 13
         refine (unhide h6 _ _ op n s _ len len _ (unhide HL34) (unhide HL4) (unhide HPL) (unhide HPZ) (unhide HTZ)).mono ?_
         rintro e w5 ⟨rfl, hb5⟩
         have HB5 := hide (bt (unhide HB4) hb5 (Nat.le_refl _))
         have HR5 := hide ((((unhide HR2).below (unhide hb3')).below (unhide hb4')).below hb5)
         obtain ⟨j0, j1, j2, j3⟩ := (unhide HR5).facts))
  clear f0 f1 f2 f3 g0 g1 g2 g3 c0 c1 c2 c3 HB3 HB4 HL3 HL4 HL34 hb3' hb4'
  go_wp2_with fail
  refine (unhide h7 _ ((unhide HPS).below (unhide HB5)) (unhide HSZ)).mono ?_
  rintro e w6 ⟨rfl, hL6, hb6⟩
  have HB6 := hide (bt (unhide HB5) hb6 (Nat.le_refl _))
  have HL6 := hide hL6.any0
  have HR6 := hide ((unhide HR5).below hb6)
  generalize hg5 : w5.heap.size = bx at *
  clear hL6 hb6 j0 j1 j2 j3 HR5
  obtain ⟨c0, c1, c2, c3⟩ := (unhide HR6).facts
  go_wp2_with fail
  refine (unhide h8 _ ((unhide HL).below (unhide HB6)) (unhide HTZ)).mono ?_
  rintro e w7 ⟨a7, rfl, hL7, hb7⟩
  have hb7' := bt hb7 (abD (.cells #[.int .i64 op, .int .i64 n, .string s, .slice a7 len len] 35)) (Nat.le_refl _)
  have HB7 := hide (bt (unhide HB6) hb7' (Nat.le_refl _))
  have HR7 := hide ((unhide HR6).below hb7')
  have HL67 := hide ((unhide HL6).below hb7')
  have HL7 := hide ((hL7.any (Nat.zero_le _)).below (abD (.cells #[.int .i64 op, .int .i64 n, .string s, .slice a7 len len] 35)))
  have HX7 := hide (RowT.new 35 w7 op n s a7 len len)
  clear hb7 hb7' hL7 c0 c1 c2 c3 HR6
  obtain ⟨c0, c1, c2, c3⟩ := (unhide HX7).facts
  go_wp2_with fail
  generalize w7.alloc (.cells #[.int .i64 op, .int .i64 n, .string s, .slice a7 len len] 35) = V7 at *
  generalize w7.heap.size = b7 at *
  refine (unhide h9 _ _ op n s a7 len len _ (unhide HL67) (unhide HPL) (unhide HPZ) (unhide HL7) (unhide HTZ) ((unhide HTB).on (unhide HB7)) ((unhide HER).on (unhide HB7))).mono ?_
  rintro e w8 ⟨rfl, hb8⟩
  have HB8 := hide (bt (unhide HB7) hb8 (Nat.le_refl _))
  have HR8 := hide ((unhide HR7).below hb8)
  have HL68 := hide ((unhide HL67).below hb8)
  have HL8 := hide ((unhide HL7).below hb8)
  have HX8 := hide ((unhide HX7).below hb8)
  clear hb8 c0 c1 c2 c3 HR7 HL67 HL7 HX7
  go_wp2_with fail
  refine (unhide h7 _ ((unhide HPS).below (unhide HB8)) (unhide HSZ)).mono ?_
  rintro e w9 ⟨rfl, hL9, hb9⟩
  have HB9 := hide (bt (unhide HB8) hb9 (Nat.le_refl _))
  have HR9 := hide ((unhide HR8).below hb9)
  have HL69 := hide ((unhide HL68).below hb9)
  have HL9 := hide ((unhide HL8).below hb9)
  have HX9 := hide ((unhide HX8).below hb9)
  have HN9 := hide hL9.any0
  clear hb9 hL9 HR8 HL68 HL8 HX8
  go_wp2_with fail
  refine (unhide h10 _ _ _ _ _ (unhide HL69) (unhide HN9) (unhide HPM)).mono ?_
  rintro e w10 ⟨rfl, hb10⟩
  have HB10 := hide (bt (unhide HB9) hb10 (Nat.le_refl _))
  have HR10 := hide ((unhide HR9).below hb10)
  have HL10 := hide ((unhide HL9).below hb10)
  have HX10 := hide ((unhide HX9).below hb10)
  clear hb10 HR9 HL69 HL9 HX9 HN9
  obtain ⟨c0, c1, c2, c3⟩ := (unhide HX10).facts
  obtain ⟨d0, d1, d2, d3⟩ := (unhide HR10).facts
  go_wp2_with fail
  go_region_held3 (fun y => y.cell? ⟨b7, 0, none⟩ = some (.int .i64 op) ∧ y.cell? ⟨b7, 1, none⟩ = some (.int .i64 n) ∧ y.cell? ⟨b7, 2, none⟩ = some (.string s) ∧ y.cell? ⟨b7, 3, none⟩ = some (.slice a7 len len) ∧ y.cell? ⟨w.heap.size, 0, none⟩ = some (.int .i64 op) ∧ y.cell? ⟨w.heap.size, 1, none⟩ = some (.int .i64 n) ∧ y.cell? ⟨w.heap.size, 2, none⟩ = some (.string s) ∧ y.cell? ⟨w.heap.size, 3, none⟩ = some (.slice a len cap)) (go_keep)
    (first
      | (go_at_call 14
         refine (unhide h8 _ ((unhide HL).below (unhide HB10).drew) (unhide HTZ)).mono ?_
         rintro e w11 ⟨a11, rfl, hL11, hb11⟩
         have hb11' := hide (below_drew' hb11)
         have HB11 := hide (bt (unhide HB10) (unhide hb11') (Nat.le_refl _))
         have HN11 := hide (hL11.any (Nat.zero_le _))
         have HL11 := hide ((unhide HL10).below (unhide hb11'))
         obtain ⟨f0, f1, f2, f3⟩ := ((unhide HX10).below (unhide hb11')).facts
         obtain ⟨f4, f5, f6, f7⟩ := ((unhide HR10).below (unhide hb11')).facts)
      | (go_at_call 16
         refine (unhide h11 op n s a7 len len op n s a11 len len _ (unhide HL11) (unhide HN11)).mono ?_
         rintro e w12 ⟨rfl, hb12⟩
         have HB12 := hide (bt (unhide HB11) hb12 (Nat.le_refl _))
         obtain ⟨g0, g1, g2, g3⟩ := (((unhide HX10).below (unhide hb11')).below hb12).facts
         obtain ⟨g4, g5, g6, g7⟩ := (((unhide HR10).below (unhide hb11')).below hb12).facts))
  go_wp2_with fail
  go_ret
  exact ⟨rfl, unhide HB12⟩

set_option maxRecDepth 100000 in
set_option maxHeartbeats 2000000 in
theorem lawCan_false (ps : List Tm) (t : Tm) (pa : Option Addr) (pcap : Nat) (op n : Int) (s : ByteArray) (a : Option Addr) (len cap : Nat) (w : World) (hps : LiesAll w 0 pa 0 ps) (hpl : ps.length ≤ maxLen) (hl : Lies w 0 t (tmCells op n s a len cap)) (htab : Tab w) (herr : Err w) (hB : canB ps t = false) (hw : (ps.length : Int) + (Tm.wts ps : Int) ≤ 1048576) (hw2 : (t.wt : Int) ≤ 1048576 - ((ps.length : Int) + (Tm.wts ps : Int))) :
    Calls Tryz.prog 4 #[.slice pa ps.length pcap, .agg #[.int .i64 op, .int .i64 n, .string s, .slice a len cap]] w fun e w' => e = .returned (.bool true) ∧ Below w.heap.size w w' := by
  have h4 := hide (szS_any ps (fun x _ => sz_calls x) pa pcap)
  have h5 := hide (sz_calls t op n s a len cap)
  have h7 := hide (toS_any ps (fun x _ => to_calls x) pa pcap)
  have h8 := hide (to_calls t op n s a len cap)
  have h6 := hide (fun pa pcap op n s a len cap => canM_calls ps t pa pcap op n s a len cap)
  have h9 := hide (fun pa pcap op n s a len cap => canI ps t pa pcap op n s a len cap)
  rw [hB] at h6 h9
  have h10 := hide (fun a a' cap cap' => eqS_any ps (fun x _ => eq_calls x) a a' cap cap')
  have h11 := hide (eq_calls t)
  have hsz := Tm.sizes_le ps
  have hZ := t.size_le
  have HSZ : Hid (Tm.sizes ps ≤ 2097152) := by show _ ≤ _; omega
  have HPL : Hid (ps.length ≤ 2097152) := by show _ ≤ _; omega
  have HPM := hide hpl
  have HPZ : Hid (∀ x ∈ ps, x.size ≤ 2097152) := fun x hx => by have := Tm.size_mem hx; omega
  have HTZ : Hid (t.size ≤ 2097152) := by show _ ≤ _; omega
  have hb0 := abD (w := w) (.cells #[.int .i64 op, .int .i64 n, .string s, .slice a len cap] 31)
  have HB0 := hide hb0
  have HR0 := hide (RowT.new 31 w op n s a len cap)
  have HPS := hide hps
  have HL := hide hl
  have HTB := hide htab
  have HER := hide herr
  have hwt : ((ps.length + Tm.wts ps : Nat) : Int) ≤ 1048576 := by omega
  have hs1 := szv_yes (left := 1048576) hwt
  generalize hg1 : ps.length + Tm.wts ps = wp at *
  have hwp : (0 : Int) ≤ (wp : Int) := by omega
  have hs2 := szv_yes (left := 1048576 - (wp : Int)) (wt := t.wt) (by omega)
  generalize hplen : ps.length = plen at *
  generalize hg2 : (1048576 : Int) - (wp : Int) = left1 at *
  have hl1 : 0 ≤ left1 := by omega
  have hl1' : left1 ≤ 1048576 := by omega
  generalize hg3 : left1 - (t.wt : Int) = left2 at *
  have hl2 : 0 ≤ left2 := by omega
  clear hps hl htab herr hb0 hB hpl hsz hZ hw hw2 hwt hwp
  go_enter Tryz.func4, Tryz.ntmps4
  go_wp2_with fail
  refine (unhide h4 _ _ ((unhide HPS).below (unhide HB0)) (unhide HPM) (by omega) (by omega)).mono ?_
  rintro e w1 ⟨rfl, hb1⟩
  rw [hs1]
  have HB1 := hide (bt (unhide HB0) hb1 (Nat.le_refl _))
  obtain ⟨c0, c1, c2, c3⟩ := ((unhide HR0).below hb1).facts
  have HR1 := hide ((unhide HR0).below hb1)
  clear hb1 HB0 HR0 hs1 h4
  go_wp2_with fail
  refine (unhide h5 _ _ ((unhide HL).below (unhide HB1)) hl1 hl1').mono ?_
  rintro e w2 ⟨rfl, hb2⟩
  rw [hs2]
  have HB2 := hide (bt (unhide HB1) hb2 (Nat.le_refl _))
  have HR2 := hide ((unhide HR1).below hb2)
  clear hb2 HB1 HR1 hs2 h5 c0 c1 c2 c3
  obtain ⟨c0, c1, c2, c3⟩ := (unhide HR2).facts
  go_wp2_with fail
  go_region_held3 (fun y => y.cell? ⟨w.heap.size, 0, none⟩ = some (.int .i64 op) ∧ y.cell? ⟨w.heap.size, 1, none⟩ = some (.int .i64 n) ∧ y.cell? ⟨w.heap.size, 2, none⟩ = some (.string s) ∧ y.cell? ⟨w.heap.size, 3, none⟩ = some (.slice a len cap)) (go_keep)
    (first
      | (go_at_call 7
         refine (unhide h7 _ ((unhide HPS).below (unhide HB2).drew) (unhide HSZ)).mono ?_
         rintro e w3 ⟨rfl, hL3, hb3⟩
         have hb3' := hide (below_drew' hb3)
         have HB3 := hide (bt (unhide HB2) (unhide hb3') (Nat.le_refl _))
         have HL3 := hide (hL3.any0)
         obtain ⟨f0, f1, f2, f3⟩ := ((unhide HR2).below (unhide hb3')).facts)
      | (go_at_call 14
         refine (unhide h8 _ ((unhide HL).below (unhide HB3)) (unhide HTZ)).mono ?_
         rintro e w4 ⟨a4, rfl, hL4, hb4⟩
         have hb4' := hide hb4
         have HB4 := hide (bt (unhide HB3) hb4 (Nat.le_refl _))
         have HL4 := hide (hL4.any (Nat.zero_le _))
         have HL34 := hide ((unhide HL3).below hb4)
         obtain ⟨g0, g1, g2, g3⟩ := (((unhide HR2).below (unhide hb3')).below hb4).facts)
      | (go_at_call 13
         refine (unhide h6 _ _ op n s _ len len _ (unhide HL34) (unhide HL4) (unhide HPL) (unhide HPZ) (unhide HTZ)).mono ?_
         rintro e w5 ⟨rfl, hb5⟩
         have HB5 := hide (bt (unhide HB4) hb5 (Nat.le_refl _))
         have HR5 := hide ((((unhide HR2).below (unhide hb3')).below (unhide hb4')).below hb5)
         obtain ⟨j0, j1, j2, j3⟩ := (unhide HR5).facts))
  clear f0 f1 f2 f3 g0 g1 g2 g3 c0 c1 c2 c3 HB3 HB4 HL3 HL4 HL34 hb3' hb4'
  go_wp2_with fail
  refine (unhide h7 _ ((unhide HPS).below (unhide HB5)) (unhide HSZ)).mono ?_
  rintro e w6 ⟨rfl, hL6, hb6⟩
  have HB6 := hide (bt (unhide HB5) hb6 (Nat.le_refl _))
  have HL6 := hide hL6.any0
  have HR6 := hide ((unhide HR5).below hb6)
  generalize hg5 : w5.heap.size = bx at *
  clear hL6 hb6 j0 j1 j2 j3 HR5
  obtain ⟨c0, c1, c2, c3⟩ := (unhide HR6).facts
  go_wp2_with fail
  refine (unhide h8 _ ((unhide HL).below (unhide HB6)) (unhide HTZ)).mono ?_
  rintro e w7 ⟨a7, rfl, hL7, hb7⟩
  have hb7' := bt hb7 (abD (.cells #[.int .i64 op, .int .i64 n, .string s, .slice a7 len len] 35)) (Nat.le_refl _)
  have HB7 := hide (bt (unhide HB6) hb7' (Nat.le_refl _))
  have HR7 := hide ((unhide HR6).below hb7')
  have HL67 := hide ((unhide HL6).below hb7')
  have HL7 := hide ((hL7.any (Nat.zero_le _)).below (abD (.cells #[.int .i64 op, .int .i64 n, .string s, .slice a7 len len] 35)))
  have HX7 := hide (RowT.new 35 w7 op n s a7 len len)
  clear hb7 hb7' hL7 c0 c1 c2 c3 HR6
  obtain ⟨c0, c1, c2, c3⟩ := (unhide HX7).facts
  go_wp2_with fail
  generalize w7.alloc (.cells #[.int .i64 op, .int .i64 n, .string s, .slice a7 len len] 35) = V7 at *
  generalize w7.heap.size = b7 at *
  refine (unhide h9 _ _ op n s a7 len len _ (unhide HL67) (unhide HPL) (unhide HPZ) (unhide HL7) (unhide HTZ) ((unhide HTB).on (unhide HB7)) ((unhide HER).on (unhide HB7))).mono ?_
  rintro e w8 ⟨rfl, hb8⟩
  have HB8 := hide (bt (unhide HB7) hb8 (Nat.le_refl _))
  have HR8 := hide ((unhide HR7).below hb8)
  have HL68 := hide ((unhide HL67).below hb8)
  have HL8 := hide ((unhide HL7).below hb8)
  have HX8 := hide ((unhide HX7).below hb8)
  clear hb8 c0 c1 c2 c3 HR7 HL67 HL7 HX7
  go_wp2_with fail
  refine (unhide h7 _ ((unhide HPS).below (unhide HB8)) (unhide HSZ)).mono ?_
  rintro e w9 ⟨rfl, hL9, hb9⟩
  have HB9 := hide (bt (unhide HB8) hb9 (Nat.le_refl _))
  have HR9 := hide ((unhide HR8).below hb9)
  have HL69 := hide ((unhide HL68).below hb9)
  have HL9 := hide ((unhide HL8).below hb9)
  have HX9 := hide ((unhide HX8).below hb9)
  have HN9 := hide hL9.any0
  clear hb9 hL9 HR8 HL68 HL8 HX8
  go_wp2_with fail
  refine (unhide h10 _ _ _ _ _ (unhide HL69) (unhide HN9) (unhide HPM)).mono ?_
  rintro e w10 ⟨rfl, hb10⟩
  have HB10 := hide (bt (unhide HB9) hb10 (Nat.le_refl _))
  have HR10 := hide ((unhide HR9).below hb10)
  have HL10 := hide ((unhide HL9).below hb10)
  have HX10 := hide ((unhide HX9).below hb10)
  clear hb10 HR9 HL69 HL9 HX9 HN9
  obtain ⟨c0, c1, c2, c3⟩ := (unhide HX10).facts
  obtain ⟨d0, d1, d2, d3⟩ := (unhide HR10).facts
  go_wp2_with fail
  go_region_held3 (fun y => y.cell? ⟨b7, 0, none⟩ = some (.int .i64 op) ∧ y.cell? ⟨b7, 1, none⟩ = some (.int .i64 n) ∧ y.cell? ⟨b7, 2, none⟩ = some (.string s) ∧ y.cell? ⟨b7, 3, none⟩ = some (.slice a7 len len) ∧ y.cell? ⟨w.heap.size, 0, none⟩ = some (.int .i64 op) ∧ y.cell? ⟨w.heap.size, 1, none⟩ = some (.int .i64 n) ∧ y.cell? ⟨w.heap.size, 2, none⟩ = some (.string s) ∧ y.cell? ⟨w.heap.size, 3, none⟩ = some (.slice a len cap)) (go_keep)
    (first
      | (go_at_call 14
         refine (unhide h8 _ ((unhide HL).below (unhide HB10).drew) (unhide HTZ)).mono ?_
         rintro e w11 ⟨a11, rfl, hL11, hb11⟩
         have hb11' := hide (below_drew' hb11)
         have HB11 := hide (bt (unhide HB10) (unhide hb11') (Nat.le_refl _))
         have HN11 := hide (hL11.any (Nat.zero_le _))
         have HL11 := hide ((unhide HL10).below (unhide hb11'))
         obtain ⟨f0, f1, f2, f3⟩ := ((unhide HX10).below (unhide hb11')).facts
         obtain ⟨f4, f5, f6, f7⟩ := ((unhide HR10).below (unhide hb11')).facts)
      | (go_at_call 16
         refine (unhide h11 op n s a7 len len op n s a11 len len _ (unhide HL11) (unhide HN11)).mono ?_
         rintro e w12 ⟨rfl, hb12⟩
         have HB12 := hide (bt (unhide HB11) hb12 (Nat.le_refl _))
         obtain ⟨g0, g1, g2, g3⟩ := (((unhide HX10).below (unhide hb11')).below hb12).facts
         obtain ⟨g4, g5, g6, g7⟩ := (((unhide HR10).below (unhide hb11')).below hb12).facts))
  go_wp2_with fail
  go_ret
  exact ⟨rfl, unhide HB12⟩

set_option maxRecDepth 100000 in
set_option maxHeartbeats 2000000 in
theorem lawCan (ps : List Tm) (t : Tm) (pa : Option Addr) (pcap : Nat) (op n : Int) (s : ByteArray) (a : Option Addr) (len cap : Nat) (w : World) (hps : LiesAll w 0 pa 0 ps) (hpl : ps.length ≤ maxLen) (hl : Lies w 0 t (tmCells op n s a len cap)) (htab : Tab w) (herr : Err w) :
    Calls Tryz.prog 4 #[.slice pa ps.length pcap, .agg #[.int .i64 op, .int .i64 n, .string s, .slice a len cap]] w fun e w' => e = .returned (.bool true) ∧ Below w.heap.size w w' := by
  by_cases hw : (ps.length : Int) + (Tm.wts ps : Int) ≤ 1048576
  · by_cases hw2 : (t.wt : Int) ≤ 1048576 - ((ps.length : Int) + (Tm.wts ps : Int))
    · cases hB : canB ps t with
      | true => exact lawCan_true ps t pa pcap op n s a len cap w hps hpl hl htab herr hB hw hw2
      | false => exact lawCan_false ps t pa pcap op n s a len cap w hps hpl hl htab herr hB hw hw2
    · have h4 := hide (szS_any ps (fun x _ => sz_calls x) pa pcap)
      have h5 := hide (sz_calls t op n s a len cap)
      have hb0 := abD (w := w) (.cells #[.int .i64 op, .int .i64 n, .string s, .slice a len cap] 31)
      have HB0 := hide hb0
      have HR0 := hide (RowT.new 31 w op n s a len cap)
      have HPS := hide hps
      have HPM := hide hpl
      have HL := hide hl
      have hwt : ((ps.length + Tm.wts ps : Nat) : Int) ≤ 1048576 := by omega
      have hs1 := szv_yes (left := 1048576) hwt
      generalize hg1 : ps.length + Tm.wts ps = wp at *
      have hwp : (0 : Int) ≤ (wp : Int) := by omega
      have hs2 := szv_no (left := 1048576 - (wp : Int)) (wt := t.wt) (by omega)
      generalize hplen : ps.length = plen at *
      generalize hg2 : (1048576 : Int) - (wp : Int) = left1 at *
      have hl1 : 0 ≤ left1 := by omega
      have hl1' : left1 ≤ 1048576 := by omega
      clear hps hl htab herr hb0 hpl hw hw2 hwt hwp
      go_enter Tryz.func4, Tryz.ntmps4
      go_wp2_with fail
      refine (unhide h4 _ _ ((unhide HPS).below (unhide HB0)) (unhide HPM) (by omega) (by omega)).mono ?_
      rintro e w1 ⟨rfl, hb1⟩
      rw [hs1]
      have HB1 := hide (bt (unhide HB0) hb1 (Nat.le_refl _))
      obtain ⟨c0, c1, c2, c3⟩ := ((unhide HR0).below hb1).facts
      clear hb1 HB0 HR0 hs1 h4
      go_wp2_with fail
      refine (unhide h5 _ _ ((unhide HL).below (unhide HB1)) hl1 hl1').mono ?_
      rintro e w2 ⟨rfl, hb2⟩
      rw [hs2]
      have HB2 := hide (bt (unhide HB1) hb2 (Nat.le_refl _))
      clear hb2
      go_wp2_with fail
      go_ret
      exact ⟨rfl, unhide HB2⟩
  · have h4 := hide (szS_any ps (fun x _ => sz_calls x) pa pcap)
    have hb0 := abD (w := w) (.cells #[.int .i64 op, .int .i64 n, .string s, .slice a len cap] 31)
    have HB0 := hide hb0
    have HPS := hide hps
    have HPM := hide hpl
    have hs1 := szv_no (left := 1048576) (wt := ps.length + Tm.wts ps) (by omega)
    generalize hplen : ps.length = plen at *
    clear hps hl htab herr hb0 hpl hw
    go_enter Tryz.func4, Tryz.ntmps4
    go_wp2_with fail
    refine (unhide h4 _ _ ((unhide HPS).below (unhide HB0)) (unhide HPM) (by omega) (by omega)).mono ?_
    rintro e w1 ⟨rfl, hb1⟩
    rw [hs1]
    have HB1 := hide (bt (unhide HB0) hb1 (Nat.le_refl _))
    clear hb1
    go_wp2_with fail
    go_ret
    exact ⟨rfl, unhide HB1⟩

end Go.Proofs.YteminklafghgpaaGreatDoor
