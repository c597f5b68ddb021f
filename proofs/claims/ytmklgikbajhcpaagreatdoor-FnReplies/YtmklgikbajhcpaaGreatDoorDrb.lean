/- Draws of one and of two terms; what holds beside a cursor, carried as one. -/
import Derived.Test.YtmklgikbajhcpaaGreatDoorDra
import Derived.Test.YtmklgikbajhcpaaGreatDoorRy
import Derived.Test.YtmklgikbajhcpaaGreatDoorSa
namespace Go.Proofs.YtmklgikbajhcpaaGreatDoor
open Go.RowKit Go.Deep

/-- What is carried by calls that write new blocks, and by such as turn a cursor. -/
def Car (c : Nat) (P : World → Prop) : Prop := (∀ w w', P w → Below w.heap.size w w' → P w') ∧ ∀ w w', P w → Only [c] w w' → P w'
theorem Car.and {c : Nat} {P Q : World → Prop} (h : Car c P) (k : Car c Q) : Car c fun y => P y ∧ Q y := ⟨fun w w' x hb => ⟨h.1 w w' x.1 hb, k.1 w w' x.2 hb⟩, fun w w' x ho => ⟨h.2 w w' x.1 ho, k.2 w w' x.2 ho⟩⟩
theorem Car.row {c g : Nat} {op n : Int} {s : ByteArray} {a : Option Addr} {len cap : Nat} (hg : g ≠ c) : Car c fun y => RowT 29 y g op n s a len cap := ⟨fun _ _ h hb => h.below hb, fun _ _ h ho => h.only ho (nin hg)⟩
theorem Car.lies {c L : Nat} {T : Tm} {cs : List Value} (hL : c < L) : Car c fun y => Lies y L T cs := ⟨fun _ _ h hb => h.below hb, fun _ _ h ho => h.only ho hL⟩
theorem Car.old {c : Nat} {w : World} (hc : w.heap.size ≤ c) : Car c fun y => Below w.heap.size w y := ⟨fun _ _ h hb => bt h hb (Nat.le_refl _), fun _ _ h ho => only_old h ho hc⟩
theorem Car.lt {c m : Nat} : Car c fun y => m < y.heap.size := ⟨fun _ _ h hb => Nat.lt_of_lt_of_le h hb.size, fun _ _ h ho => Nat.lt_of_lt_of_le h ho.size⟩
/-- One thing more is carried. -/
theorem Car.grow {c : Nat} {P Q : World → Prop} {w : World} (hC : Car c P) (h : P w) (hQ : Car c Q) (q : Q w) : ∃ P' : World → Prop, Car c P' ∧ P' w ∧ (∀ y, P' y → P y) ∧ ∀ y, P' y → Q y :=
  ⟨fun y => P y ∧ Q y, hC.and hQ, ⟨h, q⟩, fun _ x => x.1, fun _ x => x.2⟩
theorem Car.start {c : Nat} {P : World → Prop} {w : World} (hC : Car c P) (h : P w) : ∃ P' : World → Prop, Car c P' ∧ P' w ∧ ∀ y, P' y → P y := ⟨P, hC, h, fun _ x => x⟩

/-- One, two terms of so many at most, that lie somewhere. -/
def OneD (w : World) (q : Ending) (w' : World) : Prop := ∃ T op n s a len cap, q = .returned (.agg #[.int .i64 op, .int .i64 n, .string s, .slice a len cap]) ∧ (Lies w' w.heap.size T (tmCells op n s a len cap) ∧ T.size ≤ 61010) ∧ Below w.heap.size w w'
def TwoD (w : World) (q : Ending) (w' : World) : Prop := ∃ T0 T1 op0 n0 s0 a0 len0 cap0 op1 n1 s1 a1 len1 cap1, q = .returned (.tuple #[.agg #[.int .i64 op0, .int .i64 n0, .string s0, .slice a0 len0 cap0], .agg #[.int .i64 op1, .int .i64 n1, .string s1, .slice a1 len1 cap1]]) ∧ (Lies w' w.heap.size T0 (tmCells op0 n0 s0 a0 len0 cap0) ∧ T0.size ≤ 61010) ∧ (Lies w' w.heap.size T1 (tmCells op1 n1 s1 a1 len1 cap1) ∧ T1.size ≤ 61010) ∧ Below w.heap.size w w'
theorem results_cells2t {P : Program} {fn : Func} {c0 c1 : Tmp} {t0 t1 : TypeId} (h : fn.results = #[.cell c0 t0, .cell c1 t1]) {tmps : Array Value} {w : World} {v0 v1 : Value} {b0 b1 : Addr} (p0 : tmps.getD c0 undef = .pointer (some b0)) (p1 : tmps.getD c1 undef = .pointer (some b1))
    (l0 : (loadVar t0 b0).run P w = .ok v0 w) (l1 : (loadVar t1 b1).run P w = .ok v1 w) : (results fn tmps).run P w = .ok (.tuple #[v0, v1]) w := by
  have p0' : tmps[c0]?.getD undef = .pointer (some b0) := by simpa using p0
  have p1' : tmps[c1]?.getD undef = .pointer (some b1) := by simpa using p1
  simp [results, h, p0', p1', l0, l1, asAddr]
/-- Two boxes side by side are filled. -/
theorem fill_two {w : World} {g : Nat} {op0 n0 op1 n1 : Int} {s0 s1 : ByteArray} {a0 a1 : Option Addr} {l0 k0 l1 k1 : Nat} (h0 : RowT 29 w g 0 0 ⟨#[]⟩ none 0 0) (h1 : RowT 29 w (g + 1) 0 0 ⟨#[]⟩ none 0 0) :
    RowT 29 (fill4 (fill4 w g op0 n0 s0 a0 l0 k0) (g + 1) op1 n1 s1 a1 l1 k1) g op0 n0 s0 a0 l0 k0 ∧ RowT 29 (fill4 (fill4 w g op0 n0 s0 a0 l0 k0) (g + 1) op1 n1 s1 a1 l1 k1) (g + 1) op1 n1 s1 a1 l1 k1 :=
  ⟨RowT.other (RowT.fill h0 op0 n0 s0 a0 l0 k0) (by omega), RowT.fill (RowT.other h1 (by omega)) op1 n1 s1 a1 l1 k1⟩
theorem fill_two_lies {w : World} {L L' g : Nat} {op0 n0 op1 n1 : Int} {s0 s1 : ByteArray} {a0 a1 : Option Addr} {l0 k0 l1 k1 : Nat} {t : Tm} {cs : List Value} (h : Lies w L t cs) (hg : g + 1 < L) (hL : L' ≤ L) :
    Lies (fill4 (fill4 w g op0 n0 s0 a0 l0 k0) (g + 1) op1 n1 s1 a1 l1 k1) L' t cs :=
  (set4_lies (set4_lies h (by omega) L (Nat.le_refl _)) (by omega) L (Nat.le_refl _)).any hL
theorem fill_two_below {B : Nat} {v w : World} {g : Nat} {op0 n0 op1 n1 : Int} {s0 s1 : ByteArray} {a0 a1 : Option Addr} {l0 k0 l1 k1 : Nat} (h : Below B v w) (hg : B ≤ g) :
    Below B v (fill4 (fill4 w g op0 n0 s0 a0 l0 k0) (g + 1) op1 n1 s1 a1 l1 k1) := set4_below (set4_below h hg) (by omega)
theorem copy_at (t : Tm) (op n : Int) (s : ByteArray) (a : Option Addr) (len cap : Nat) (w : World) (hl : Lies w 0 t (tmCells op n s a len cap)) (hz : t.size ≤ 2097152) :
    Calls Tryz.prog 83 #[.agg #[.int .i64 op, .int .i64 n, .string s, .slice a len cap]] w fun e w' => ∃ a' cap', e = .returned (.agg #[.int .i64 op, .int .i64 n, .string s, .slice a' len cap']) ∧ Lies w' w.heap.size t (tmCells op n s a' len cap') ∧ Below w.heap.size w w' :=
  (cz_calls t op n s a len cap w hl hz).mono fun _ _ ⟨a', cap', fp, he, ho, ⟨_, hf⟩, hb⟩ => ⟨a', cap', he, Own.lies t _ fp ho hf, hb⟩

set_option maxRecDepth 100000 in
set_option maxHeartbeats 4000000 in
theorem hello_draw (ad : Option Addr) (ln cp : Nat) (w : World) (hB : Bytes w w.heap.size ad ln) (hl : ln ≤ 1048576) (hlc : ln ≤ cp) :
    Calls Tryz.prog 26 #[.slice ad ln cp] w fun q w' => OneD w q w' := by
  have hnew := hide (new_calls ad ln cp)
  have hdr := hide draw_calls
  have HBY := hide (bytes_up hB (ab (.cells #[.int .i64 0, .int .i64 0, .string ⟨#[]⟩, .slice none 0 0] 29)) (show w.heap.size ≤ (w.alloc (.cells #[.int .i64 0, .int .i64 0, .string ⟨#[]⟩, .slice none 0 0] 29)).heap.size from (ab _).size))
  have HX := hide (ZBox.new w)
  have HL := hide hl
  have HLC := hide hlc
  clear hB hl hlc
  go_enter Tryz.func26, Tryz.ntmps26
  go_wp2_with fail
  refine (unhide hnew _ (unhide HBY) (unhide HL) (unhide HLC)).mono ?_
  rintro e w1 ⟨rfl, hc1, hb1, _⟩
  have hb1 : Below (w.alloc (.cells #[.int .i64 0, .int .i64 0, .string ⟨#[]⟩, .slice none 0 0] 29)).heap.size (w.alloc (.cells #[.int .i64 0, .int .i64 0, .string ⟨#[]⟩, .slice none 0 0] 29)) w1 := hb1
  simp only [heap_size_alloc] at hc1 ⊢
  have HX1 := hide ((unhide HX).below hb1)
  have HB1 := hide (bt (ab (w := w) (.cells #[.int .i64 0, .int .i64 0, .string ⟨#[]⟩, .slice none 0 0] 29)) hb1 (Nat.le_refl _))
  have HC1 := hide hc1
  have hs1 := hc1.lt
  clear hc1 hb1
  go_wp2_with fail
  refine (unhide hdr _ _ (unhide HC1)).mono ?_
  rintro e w2 ⟨v, rfl, ⟨T, op, n, s, a, len, cap, rfl, hl2, -, hz2⟩, hc2, ho2⟩
  obtain ⟨p0, p1, p2, p3, q0, q1, q2, q3⟩ := ((unhide HX1).only ho2 (by omega)).facts
  have HT := hide hl2
  have HZ := hide hz2
  have HB2 := hide ((unhide HB1).trans (ho2.below (unhide HB1).size (by intro x hx; simp only [List.mem_singleton] at hx; omega)))
  clear hl2 hz2 hc2 ho2
  go_wp2_with fail
  exact bodyPost_ret (v := .agg #[.int .i64 op, .int .i64 n, .string s, .slice a len cap]) (by simp [results, Tryz.results26, go_sem, p0, p1, p2, p3]; try rfl) rfl ⟨T, op, n, s, a, len, cap, rfl, ⟨(set4_lies (unhide HT) (by omega) _ (Nat.le_refl _)).any (by omega), Nat.le_trans (unhide HZ) (by decide)⟩, set4_below (unhide HB2) (Nat.le_refl _)⟩

set_option maxRecDepth 100000 in
set_option maxHeartbeats 4000000 in
theorem done_draw (ad : Option Addr) (ln cp : Nat) (w : World) (hB : Bytes w w.heap.size ad ln) (hl : ln ≤ 1048576) (hlc : ln ≤ cp) :
    Calls Tryz.prog 27 #[.slice ad ln cp] w fun q w' => OneD w q w' := by
  have hnew := hide (new_calls ad ln cp)
  have hdr := hide draw_calls
  have HBY := hide (bytes_up hB (ab (.cells #[.int .i64 0, .int .i64 0, .string ⟨#[]⟩, .slice none 0 0] 29)) (show w.heap.size ≤ (w.alloc (.cells #[.int .i64 0, .int .i64 0, .string ⟨#[]⟩, .slice none 0 0] 29)).heap.size from (ab _).size))
  have HX := hide (ZBox.new w)
  have HL := hide hl
  have HLC := hide hlc
  clear hB hl hlc
  go_enter Tryz.func27, Tryz.ntmps27
  go_wp2_with fail
  refine (unhide hnew _ (unhide HBY) (unhide HL) (unhide HLC)).mono ?_
  rintro e w1 ⟨rfl, hc1, hb1, _⟩
  have hb1 : Below (w.alloc (.cells #[.int .i64 0, .int .i64 0, .string ⟨#[]⟩, .slice none 0 0] 29)).heap.size (w.alloc (.cells #[.int .i64 0, .int .i64 0, .string ⟨#[]⟩, .slice none 0 0] 29)) w1 := hb1
  simp only [heap_size_alloc] at hc1 ⊢
  have HX1 := hide ((unhide HX).below hb1)
  have HB1 := hide (bt (ab (w := w) (.cells #[.int .i64 0, .int .i64 0, .string ⟨#[]⟩, .slice none 0 0] 29)) hb1 (Nat.le_refl _))
  have HC1 := hide hc1
  have hs1 := hc1.lt
  clear hc1 hb1
  go_wp2_with fail
  refine (unhide hdr _ _ (unhide HC1)).mono ?_
  rintro e w2 ⟨v, rfl, ⟨T, op, n, s, a, len, cap, rfl, hl2, -, hz2⟩, hc2, ho2⟩
  obtain ⟨p0, p1, p2, p3, q0, q1, q2, q3⟩ := ((unhide HX1).only ho2 (by omega)).facts
  have HT := hide hl2
  have HZ := hide hz2
  have HB2 := hide ((unhide HB1).trans (ho2.below (unhide HB1).size (by intro x hx; simp only [List.mem_singleton] at hx; omega)))
  clear hl2 hz2 hc2 ho2
  go_wp2_with fail
  exact bodyPost_ret (v := .agg #[.int .i64 op, .int .i64 n, .string s, .slice a len cap]) (by simp [results, Tryz.results27, go_sem, p0, p1, p2, p3]; try rfl) rfl ⟨T, op, n, s, a, len, cap, rfl, ⟨(set4_lies (unhide HT) (by omega) _ (Nat.le_refl _)).any (by omega), Nat.le_trans (unhide HZ) (by decide)⟩, set4_below (unhide HB2) (Nat.le_refl _)⟩

set_option maxRecDepth 100000 in
set_option maxHeartbeats 4000000 in
theorem two_draw (ad : Option Addr) (ln cp : Nat) (w : World) (hB : Bytes w w.heap.size ad ln) (hl : ln ≤ 1048576) (hlc : ln ≤ cp) :
    Calls Tryz.prog 89 #[.slice ad ln cp] w fun q w' => TwoD w q w' := by
  have hb0 : Below w.heap.size w ((w.alloc (.cells #[.int .i64 0, .int .i64 0, .string ⟨#[]⟩, .slice none 0 0] 29)).alloc (.cells #[.int .i64 0, .int .i64 0, .string ⟨#[]⟩, .slice none 0 0] 29)) := bt (ab _) (ab _) (Nat.le_refl _)
  have HZ0 : Hid (RowT 29 ((w.alloc (.cells #[.int .i64 0, .int .i64 0, .string ⟨#[]⟩, .slice none 0 0] 29)).alloc (.cells #[.int .i64 0, .int .i64 0, .string ⟨#[]⟩, .slice none 0 0] 29)) (w.heap.size) 0 0 ⟨#[]⟩ none 0 0) := by
    have := (RowT.new 29 w 0 0 ⟨#[]⟩ none 0 0).below (ab (.cells #[.int .i64 0, .int .i64 0, .string ⟨#[]⟩, .slice none 0 0] 29))
    exact this
  have HZ1 : Hid (RowT 29 ((w.alloc (.cells #[.int .i64 0, .int .i64 0, .string ⟨#[]⟩, .slice none 0 0] 29)).alloc (.cells #[.int .i64 0, .int .i64 0, .string ⟨#[]⟩, .slice none 0 0] 29)) (w.heap.size + 1) 0 0 ⟨#[]⟩ none 0 0) := by
    have := RowT.new 29 (w.alloc (.cells #[.int .i64 0, .int .i64 0, .string ⟨#[]⟩, .slice none 0 0] 29)) 0 0 ⟨#[]⟩ none 0 0
    rwa [heap_size_alloc] at this
  have hNew := hide (new_calls ad ln cp ((w.alloc (.cells #[.int .i64 0, .int .i64 0, .string ⟨#[]⟩, .slice none 0 0] 29)).alloc (.cells #[.int .i64 0, .int .i64 0, .string ⟨#[]⟩, .slice none 0 0] 29)) (bytes_up hB hb0 hb0.size) hl hlc)
  have HB0 := hide hb0
  clear hb0 hB
  go_enter Tryz.func89, Tryz.ntmps89
  go_wp2_with fail
  generalize hgw : ((w.alloc (.cells #[.int .i64 0, .int .i64 0, .string ⟨#[]⟩, .slice none 0 0] 29)).alloc (.cells #[.int .i64 0, .int .i64 0, .string ⟨#[]⟩, .slice none 0 0] 29)) = W0 at *
  clear hgw
  refine (unhide hNew).mono ?_
  rintro q w1 ⟨rfl, hc1, hb1, -⟩
  have HWL : Hid (w.heap.size ≤ W0.heap.size) := (unhide HB0).size
  have HCN : Hid (w.heap.size + 1 < W0.heap.size) := (unhide HZ1).lt
  obtain ⟨P0, hC0, hP0, hI0⟩ := Car.start ((Car.old (unhide HWL)).and ((Car.row (Nat.ne_of_lt (unhide HZ0).lt)).and (Car.row (Nat.ne_of_lt (unhide HZ1).lt)))) ⟨bt (unhide HB0) hb1 (Nat.le_refl _), (unhide HZ0).below hb1, (unhide HZ1).below hb1⟩
  have IW := hide (fun y h => (hI0 y h).1)
  have IZ0 := hide (fun y h => (hI0 y h).2.1)
  have IZ1 := hide (fun y h => (hI0 y h).2.2)
  have CAR := hide hC0
  have HP := hide hP0
  have HC := hide hc1
  clear hc1 hb1 hI0 hC0 hP0 HB0 hNew HZ0 HZ1
  generalize W0.heap.size = c at *
  have hD1 := hide (draw_calls c)
  have hOn := hide (once_calls c 3)
  go_wp2_with fail
  have M0 : Hid (c < w1.heap.size) := (unhide HC).lt
  refine (unhide hD1 _ (unhide HC)).mono ?_
  rintro q v1 ⟨v, rfl, ⟨T, op5, n5, s5, a5, len5, cap5, rfl, hlT, -, hzT⟩, hc2, ho2⟩
  replace HP := hide ((unhide CAR).2 _ _ (unhide HP) ho2)
  replace HC := hide hc2
  clear hc2 ho2
  obtain ⟨P1, hC1, hP1, hJ1, hQ1⟩ := Car.grow (unhide CAR) (unhide HP) (Car.lies (unhide M0)) (hlT)
  have J1 := hide hJ1
  have QL := hide hQ1
  replace CAR := hide hC1
  replace HP := hide hP1
  clear hC1 hP1 hJ1 hQ1
  have HZT := hide hzT
  clear hlT hzT
  have hp := ab (w := v1) (.cells #[.int .i64 op5, .int .i64 n5, .string s5, .slice a5 len5 cap5] 29)
  have hrow := RowT.new 29 v1 op5 n5 s5 a5 len5 cap5
  have NbB : Hid (v1.heap.size ≠ c) := Ne.symm (Nat.ne_of_lt (unhide HC).lt)
  have MbB : Hid (c < v1.heap.size) := (unhide HC).lt
  replace HP := hide ((unhide CAR).1 _ _ (unhide HP) hp)
  replace HC := hide ((unhide HC).below hp)
  obtain ⟨P2, hC2, hP2, hJ2, hQ2⟩ := Car.grow (unhide CAR) (unhide HP) (Car.row (unhide NbB)) (hrow)
  have J2 := hide hJ2
  have QB := hide hQ2
  replace CAR := hide hC2
  replace HP := hide hP2
  clear hC2 hP2 hJ2 hQ2
  clear hp hrow
  go_wp2_with fail
  generalize hgw : v1.alloc (.cells #[.int .i64 op5, .int .i64 n5, .string s5, .slice a5 len5 cap5] 29) = V1 at *
  clear hgw
  generalize v1.heap.size = bB at *
  generalize w1.heap.size = lT at *
  refine (unhide hOn _ (unhide HC) (by decide)).mono ?_
  rintro q v2 ⟨b, rfl, hc2, ho2⟩
  replace HP := hide ((unhide CAR).2 _ _ (unhide HP) ho2)
  replace HC := hide hc2
  clear hc2 ho2
  have hcw := unhide HWL
  have hc0 := unhide HCN
  have hc1 := unhide MbB
  have hc2 := unhide M0
  cases b with
  | true =>
    go_wp2_with fail
    have hd0 : Below v2.heap.size v2 v2.drew := (Below.refl _ _).drew
    have HPD := hide ((unhide CAR).1 _ _ (unhide HP) hd0)
    refine wp_region_held (S := fun y => RowT 29 y bB op5 n5 s5 a5 len5 cap5) (by kernel_rfl) ?_
    have hS : (fun y : World => RowT 29 y bB op5 n5 s5 a5 len5 cap5) v2.drew := (unhide QB _ (unhide HPD))
    show wpAnyH _ _ _ _ _ _ _ _ v2.drew
    refine take_load (i := 0) rfl rfl (fun y h => h) (by kernel_rfl) (by kernel_rfl) (by kernel_rfl) (fun _ _ _ _ h => h) hS ?_
    simp only [Act.put, List.setIfInBounds_toArray, List.set_cons_succ, List.set_cons_zero]
    refine take_load (i := 1) rfl rfl (fun y h => h) (by kernel_rfl) (by kernel_rfl) (by kernel_rfl) (fun _ _ _ _ h => h) hS ?_
    simp only [Act.put, List.setIfInBounds_toArray, List.set_cons_succ, List.set_cons_zero]
    refine all_call1 (i := 2) (by kernel_rfl) rfl Tryz.func83 (by kernel_rfl) (by kernel_rfl) rfl ?_
    refine (copy_at T op5 n5 s5 a5 len5 cap5 _ ((unhide QL _ (unhide J2 _ (unhide HPD))).any (Nat.zero_le _)) (Nat.le_trans (unhide HZT) (by decide))).mono ?_
    rintro q y1 ⟨a6, cap6, rfl, hl6, hb6⟩
    have hb6 : Below v2.heap.size v2 y1 := bt hd0 hb6 (Nat.le_refl _)
    have HPV := hide ((unhide CAR).1 _ _ (unhide HP) hb6)
    have hl6 : Lies y1 v2.heap.size T (tmCells op5 n5 s5 a6 len5 cap6) := hl6
    have hcv := (unhide HC).lt
    refine ⟨_, rfl, (unhide QB _ (unhide HPV)), fun hS => ?_⟩
    simp only [Act.put, List.setIfInBounds_toArray, List.set_cons_succ, List.set_cons_zero]
    refine all_store (i := 3) (by kernel_rfl) rfl rfl rfl ((unhide IZ0 _ (unhide J1 _ (unhide J2 _ (unhide HPV))))) (RowT.other hS (by omega)) fun hS => ?_
    refine all_store (i := 4) (by kernel_rfl) rfl rfl rfl (RowT.other ((unhide IZ1 _ (unhide J1 _ (unhide J2 _ (unhide HPV))))) (by omega)) (RowT.other hS (by omega)) fun _ => ?_
    refine wpAnyH_done (by kernel_rfl) ?_ _
    go_wp2_with fail
    obtain ⟨r0, r1⟩ := fill_two (w := y1) (op0 := op5) (n0 := n5) (s0 := s5) (a0 := a5) (l0 := len5) (k0 := cap5) (op1 := op5) (n1 := n5) (s1 := s5) (a1 := a6) (l1 := len5) (k1 := cap6) (unhide IZ0 _ (unhide J1 _ (unhide J2 _ (unhide HPV)))) (unhide IZ1 _ (unhide J1 _ (unhide J2 _ (unhide HPV))))
    exact bodyPost_ret (v := .tuple #[.agg #[.int .i64 op5, .int .i64 n5, .string s5, .slice a5 len5 cap5], .agg #[.int .i64 op5, .int .i64 n5, .string s5, .slice a6 len5 cap6]]) (results_cells2t Tryz.results89 rfl rfl (RowT.load r0) (RowT.load r1)) rfl ⟨T, T, _, _, _, _, _, _, _, _, _, _, _, _, rfl, ⟨fill_two_lies (unhide QL _ (unhide J2 _ (unhide HPV))) (by omega) (by omega), Nat.le_trans (unhide HZT) (by decide)⟩, ⟨fill_two_lies hl6 (by omega) (by omega), Nat.le_trans (unhide HZT) (by decide)⟩, fill_two_below (unhide IW _ (unhide J1 _ (unhide J2 _ (unhide HPV)))) (Nat.le_refl _)⟩
  | false =>
    go_wp2_with fail
    have hd0 : Below v2.heap.size v2 v2.drew := (Below.refl _ _).drew
    have HPD := hide ((unhide CAR).1 _ _ (unhide HP) hd0)
    refine wp_region_held (S := fun y => RowT 29 y bB op5 n5 s5 a5 len5 cap5) (by kernel_rfl) ?_
    have hS : (fun y : World => RowT 29 y bB op5 n5 s5 a5 len5 cap5) v2.drew := (unhide QB _ (unhide HPD))
    show wpAnyH _ _ _ _ _ _ _ _ v2.drew
    refine take_load (i := 0) rfl rfl (fun y h => h) (by kernel_rfl) (by kernel_rfl) (by kernel_rfl) (fun _ _ _ _ h => h) hS ?_
    simp only [Act.put, List.setIfInBounds_toArray, List.set_cons_succ, List.set_cons_zero]
    refine take_move (i := 1) rfl rfl (by kernel_rfl) (by kernel_rfl) (by kernel_rfl) (fun _ _ _ _ h => h) hS ?_
    simp only [Act.put, List.setIfInBounds_toArray, List.set_cons_succ, List.set_cons_zero]
    refine all_call1 (i := 2) (by kernel_rfl) rfl Tryz.func70 (by kernel_rfl) (by kernel_rfl) rfl ?_
    refine (unhide hD1 _ (unhide HC).drew).mono ?_
    rintro q y1 ⟨v, rfl, ⟨T1, op6, n6, s6, a6, len6, cap6, rfl, hl6, -, hz6⟩, hc6, ho6⟩
    have ho6 : Only [c] v2 y1 := ho6.drewl
    have HPV := hide ((unhide CAR).2 _ _ (unhide HP) ho6)
    have hl6 : Lies y1 v2.heap.size T1 (tmCells op6 n6 s6 a6 len6 cap6) := hl6
    have hcv := (unhide HC).lt
    refine ⟨_, rfl, (unhide QB _ (unhide HPV)), fun hS => ?_⟩
    simp only [Act.put, List.setIfInBounds_toArray, List.set_cons_succ, List.set_cons_zero]
    refine all_store (i := 3) (by kernel_rfl) rfl rfl rfl ((unhide IZ0 _ (unhide J1 _ (unhide J2 _ (unhide HPV))))) (RowT.other hS (by omega)) fun hS => ?_
    refine all_store (i := 4) (by kernel_rfl) rfl rfl rfl (RowT.other ((unhide IZ1 _ (unhide J1 _ (unhide J2 _ (unhide HPV))))) (by omega)) (RowT.other hS (by omega)) fun _ => ?_
    refine wpAnyH_done (by kernel_rfl) ?_ _
    go_wp2_with fail
    obtain ⟨r0, r1⟩ := fill_two (w := y1) (op0 := op5) (n0 := n5) (s0 := s5) (a0 := a5) (l0 := len5) (k0 := cap5) (op1 := op6) (n1 := n6) (s1 := s6) (a1 := a6) (l1 := len6) (k1 := cap6) (unhide IZ0 _ (unhide J1 _ (unhide J2 _ (unhide HPV)))) (unhide IZ1 _ (unhide J1 _ (unhide J2 _ (unhide HPV))))
    exact bodyPost_ret (v := .tuple #[.agg #[.int .i64 op5, .int .i64 n5, .string s5, .slice a5 len5 cap5], .agg #[.int .i64 op6, .int .i64 n6, .string s6, .slice a6 len6 cap6]]) (results_cells2t Tryz.results89 rfl rfl (RowT.load r0) (RowT.load r1)) rfl ⟨T, T1, _, _, _, _, _, _, _, _, _, _, _, _, rfl, ⟨fill_two_lies (unhide QL _ (unhide J2 _ (unhide HPV))) (by omega) (by omega), Nat.le_trans (unhide HZT) (by decide)⟩, ⟨fill_two_lies hl6 (by omega) (by omega), Nat.le_trans hz6 (by decide)⟩, fill_two_below (unhide IW _ (unhide J1 _ (unhide J2 _ (unhide HPV)))) (Nat.le_refl _)⟩

set_option maxRecDepth 100000 in
set_option maxHeartbeats 4000000 in
theorem both_draw (ad : Option Addr) (ln cp : Nat) (w : World) (hB : Bytes w w.heap.size ad ln) (hl : ln ≤ 1048576) (hlc : ln ≤ cp) :
    Calls Tryz.prog 28 #[.slice ad ln cp] w fun q w' => TwoD w q w' := by
  have hb0 : Below w.heap.size w ((w.alloc (.cells #[.int .i64 0, .int .i64 0, .string ⟨#[]⟩, .slice none 0 0] 29)).alloc (.cells #[.int .i64 0, .int .i64 0, .string ⟨#[]⟩, .slice none 0 0] 29)) := bt (ab _) (ab _) (Nat.le_refl _)
  have hD := hide (two_draw ad ln cp ((w.alloc (.cells #[.int .i64 0, .int .i64 0, .string ⟨#[]⟩, .slice none 0 0] 29)).alloc (.cells #[.int .i64 0, .int .i64 0, .string ⟨#[]⟩, .slice none 0 0] 29)) (bytes_up hB hb0 hb0.size) hl hlc)
  have HZ0 : Hid (RowT 29 ((w.alloc (.cells #[.int .i64 0, .int .i64 0, .string ⟨#[]⟩, .slice none 0 0] 29)).alloc (.cells #[.int .i64 0, .int .i64 0, .string ⟨#[]⟩, .slice none 0 0] 29)) w.heap.size 0 0 ⟨#[]⟩ none 0 0) := (RowT.new 29 w 0 0 ⟨#[]⟩ none 0 0).below (ab (.cells #[.int .i64 0, .int .i64 0, .string ⟨#[]⟩, .slice none 0 0] 29))
  have HZ1 : Hid (RowT 29 ((w.alloc (.cells #[.int .i64 0, .int .i64 0, .string ⟨#[]⟩, .slice none 0 0] 29)).alloc (.cells #[.int .i64 0, .int .i64 0, .string ⟨#[]⟩, .slice none 0 0] 29)) (w.heap.size + 1) 0 0 ⟨#[]⟩ none 0 0) := by
    have := RowT.new 29 (w.alloc (.cells #[.int .i64 0, .int .i64 0, .string ⟨#[]⟩, .slice none 0 0] 29)) 0 0 ⟨#[]⟩ none 0 0
    rwa [heap_size_alloc] at this
  have HB0 := hide hb0
  clear hb0 hB hl hlc
  go_enter Tryz.func28, Tryz.ntmps28
  go_wp2_with fail
  generalize hgw : ((w.alloc (.cells #[.int .i64 0, .int .i64 0, .string ⟨#[]⟩, .slice none 0 0] 29)).alloc (.cells #[.int .i64 0, .int .i64 0, .string ⟨#[]⟩, .slice none 0 0] 29)) = W0 at *
  clear hgw
  refine (unhide hD).mono ?_
  rintro q w1 ⟨T0, T1, op0, n0, s0, a0, len0, cap0, op1, n1, s1, a1, len1, cap1, rfl, ⟨hl0, hz0⟩, ⟨hl1, hz1⟩, hb1⟩
  have r0 := (unhide HZ0).below hb1
  have r1 := (unhide HZ1).below hb1
  have HBX := hide (bt (unhide HB0) hb1 (Nat.le_refl _))
  have hlt0 := r0.lt
  have hlt1 := r1.lt
  have hsw := (unhide HZ1).lt
  clear HZ0 HZ1 HB0 hD
  go_wp2_with fail
  have hq0 := ab (w := w1) (.cells #[.int .i64 op0, .int .i64 n0, .string s0, .slice a0 len0 cap0] 29)
  have hq := bt hq0 (ab (w := w1.alloc (.cells #[.int .i64 op0, .int .i64 n0, .string s0, .slice a0 len0 cap0] 29)) (.cells #[.int .i64 op1, .int .i64 n1, .string s1, .slice a1 len1 cap1] 29)) (Nat.le_refl _)
  have S0 := (RowT.new 29 w1 op0 n0 s0 a0 len0 cap0).below (ab (w := w1.alloc (.cells #[.int .i64 op0, .int .i64 n0, .string s0, .slice a0 len0 cap0] 29)) (.cells #[.int .i64 op1, .int .i64 n1, .string s1, .slice a1 len1 cap1] 29))
  have S1 := RowT.new 29 (w1.alloc (.cells #[.int .i64 op0, .int .i64 n0, .string s0, .slice a0 len0 cap0] 29)) op1 n1 s1 a1 len1 cap1
  rw [heap_size_alloc] at S1
  replace r0 := r0.below hq
  replace r1 := r1.below hq
  replace hl0 := hl0.below hq
  replace hl1 := hl1.below hq
  have HBX := hide (bt (unhide HBX) hq (Nat.le_refl _))
  clear hq0 hq hb1
  generalize hgw : (w1.alloc (.cells #[.int .i64 op0, .int .i64 n0, .string s0, .slice a0 len0 cap0] 29)).alloc (.cells #[.int .i64 op1, .int .i64 n1, .string s1, .slice a1 len1 cap1] 29) = V at *
  clear hgw
  have hd0 : Below V.heap.size V V.drew := (Below.refl _ _).drew
  refine wp_region_held (S := fun y => RowT 29 y w1.heap.size op0 n0 s0 a0 len0 cap0 ∧ RowT 29 y (w1.heap.size + 1) op1 n1 s1 a1 len1 cap1) (by kernel_rfl) ?_
  have hS : (fun y : World => RowT 29 y w1.heap.size op0 n0 s0 a0 len0 cap0 ∧ RowT 29 y (w1.heap.size + 1) op1 n1 s1 a1 len1 cap1) V.drew := ⟨S0.below hd0, S1.below hd0⟩
  replace r0 := r0.below hd0
  replace r1 := r1.below hd0
  replace hl0 := hl0.below hd0
  replace hl1 := hl1.below hd0
  show wpAnyH _ _ _ _ _ _ _ _ V.drew
  refine take_load (i := 0) rfl rfl (fun y h => h.1) (by kernel_rfl) (by kernel_rfl) (by kernel_rfl) (fun _ _ _ _ h => h) hS ?_
  simp only [Act.put, List.setIfInBounds_toArray, List.set_cons_succ, List.set_cons_zero]
  refine take_load (i := 1) rfl rfl (fun y h => h.2) (by kernel_rfl) (by kernel_rfl) (by kernel_rfl) (fun _ _ _ _ h => h) hS ?_
  simp only [Act.put, List.setIfInBounds_toArray, List.set_cons_succ, List.set_cons_zero]
  refine all_store (i := 2) (by kernel_rfl) rfl rfl rfl r0 ⟨RowT.other hS.1 (by omega), RowT.other hS.2 (by omega)⟩ fun hS => ?_
  refine all_store (i := 3) (by kernel_rfl) rfl rfl rfl (RowT.other r1 (by omega)) ⟨RowT.other hS.1 (by omega), RowT.other hS.2 (by omega)⟩ fun _ => ?_
  refine wpAnyH_done (by kernel_rfl) ?_ _
  go_wp2_with fail
  obtain ⟨f0, f1⟩ := fill_two (w := V.drew) (op0 := op0) (n0 := n0) (s0 := s0) (a0 := a0) (l0 := len0) (k0 := cap0) (op1 := op1) (n1 := n1) (s1 := s1) (a1 := a1) (l1 := len1) (k1 := cap1) r0 r1
  exact bodyPost_ret (v := .tuple #[.agg #[.int .i64 op0, .int .i64 n0, .string s0, .slice a0 len0 cap0], .agg #[.int .i64 op1, .int .i64 n1, .string s1, .slice a1 len1 cap1]]) (results_cells2t Tryz.results28 rfl rfl (RowT.load f0) (RowT.load f1)) rfl ⟨T0, T1, _, _, _, _, _, _, _, _, _, _, _, _, rfl, ⟨fill_two_lies hl0 (by omega) (by omega), hz0⟩, ⟨fill_two_lies hl1 (by omega) (by omega), hz1⟩, fill_two_below (bt (unhide HBX) hd0 (Nat.le_refl _)) (Nat.le_refl _)⟩

end Go.Proofs.YtmklgikbajhcpaaGreatDoor
