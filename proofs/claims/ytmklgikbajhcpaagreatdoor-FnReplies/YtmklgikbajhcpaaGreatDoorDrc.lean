/- Draws of a secret and a reply to it. -/
import Derived.Test.YtmklgikbajhcpaaGreatDoorDrb
import Derived.Test.YtmklgikbajhcpaaGreatDoorR1
import Derived.Test.YtmklgikbajhcpaaGreatDoorR1y
namespace Go.Proofs.YtmklgikbajhcpaaGreatDoor
open Go.RowKit Go.Deep

theorem Car.only {c : Nat} {w : World} : Car c fun y => Only [c] w y := ⟨fun _ _ h hb => h.trans (Only.of_below hb), fun _ _ h ho => h.trans ho⟩
theorem fill_two_only {c g : Nat} {w v : World} {op0 n0 op1 n1 : Int} {s0 s1 : ByteArray} {a0 a1 : Option Addr} {l0 k0 l1 k1 : Nat} (h : Only [c] w v) (hg : w.heap.size ≤ g) : Only [c] w (fill4 (fill4 v g op0 n0 s0 a0 l0 k0) (g + 1) op1 n1 s1 a1 l1 k1) :=
  only_set (only_set (only_set (only_set (only_set (only_set (only_set (only_set h hg) hg) hg) hg) (by omega)) (by omega)) (by omega)) (by omega)
theorem fill_two_cur {c g : Nat} {v : World} {op0 n0 op1 n1 : Int} {s0 s1 : ByteArray} {a0 a1 : Option Addr} {l0 k0 l1 k1 : Nat} (h : Cur v c) (hg : c < g) : Cur (fill4 (fill4 v g op0 n0 s0 a0 l0 k0) (g + 1) op1 n1 s1 a1 l1 k1) c :=
  (((((((h.set hg).set hg).set hg).set hg).set (by omega)).set (by omega)).set (by omega)).set (by omega)
/-- A secret and a term that is a reply to it, mostly. -/
def SecD (c : Nat) (w : World) (q : Ending) (w' : World) : Prop := ∃ T0 T1 op0 n0 s0 a0 len0 cap0 op1 n1 s1 a1 len1 cap1, q = .returned (.tuple #[.agg #[.int .i64 op0, .int .i64 n0, .string s0, .slice a0 len0 cap0], .agg #[.int .i64 op1, .int .i64 n1, .string s1, .slice a1 len1 cap1]]) ∧ (Lies w' w.heap.size T0 (tmCells op0 n0 s0 a0 len0 cap0) ∧ T0.size ≤ 61010) ∧ (Lies w' w.heap.size T1 (tmCells op1 n1 s1 a1 len1 cap1) ∧ T1.size ≤ 61010) ∧ Cur w' c ∧ Only [c] w w'

theorem sz4 {a b : Int} {u ce : Tm} (hu : u.size ≤ 200) (hc : ce.size ≤ 61010) : (Tm.node 1 a ByteArray.empty []).size + u.size + (Tm.node 1 b ByteArray.empty []).size + ce.size ≤ 1100000 := by
  simp only [Tm.size, Tm.sizes]
  omega
theorem take_extract {ops : Array Oper} {Q : Exit → Act → World → Prop} {S : World → Prop} {md : Region.Mode} {i d t k : Nat} {ty : TypeId} {pos : String} {after : Array Edge} {fuel : Nat} {listed : Array Bool} {a : Act} {w : World} {xs : Array Value} {v : Value}
    (ho : ops[i]? = some { dst := some d, op := .extract (.tmp t) k, type := ty, pos := pos, after := after, guard := none })
    (hx : a.eval (.tmp t) = .tuple xs) (hk : xs[k]? = some v)
    (hs : Region.noSelect ops = true) (hf : Region.free md ops listed i = true) (hy : (Region.ready md ops listed).contains i = true) (hQ : ∀ c a w v, Q (.panic c) (a.put (some d) v) w → Q (.panic c) a w) (hS : S w)
    (h : wpAnyH Tryz.prog md ops Q S fuel (listed.setIfInBounds i true) (a.put (some d) v) w) : wpAnyH Tryz.prog md ops Q S (fuel + 1) listed a w := by
  refine wpAnyH_take (v := v) ho hs hf hy (fun c a w hq => hQ c a w _ hq) (Or.inl ⟨by rfl, ?_⟩) hS h
  intro y hSy
  have hx' : a.tmps[t]?.getD undef = .tuple xs := by simpa [Act.eval] using hx
  clear hx ho hf hy hQ hS h hSy
  go_simp
theorem take_add10 {ops : Array Oper} {Q : Exit → Act → World → Prop} {S : World → Prop} {md : Region.Mode} {i d t : Nat} {ty : TypeId} {pos : String} {after : Array Edge} {fuel : Nat} {listed : Array Bool} {a : Act} {w : World} {z : Int}
    (ho : ops[i]? = some { dst := some d, op := .binOp .add 3 (.const (.int .i64 10)) (.tmp t) 3, type := ty, pos := pos, after := after, guard := none })
    (hx : a.eval (.tmp t) = .int .i64 z) (h0 : 0 ≤ z) (h1 : z < 3)
    (hs : Region.noSelect ops = true) (hf : Region.free md ops listed i = true) (hy : (Region.ready md ops listed).contains i = true) (hQ : ∀ c a w v, Q (.panic c) (a.put (some d) v) w → Q (.panic c) a w) (hS : S w)
    (h : wpAnyH Tryz.prog md ops Q S fuel (listed.setIfInBounds i true) (a.put (some d) (.int .i64 (10 + z))) w) : wpAnyH Tryz.prog md ops Q S (fuel + 1) listed a w := by
  refine wpAnyH_take (v := .int .i64 (10 + z)) ho hs hf hy (fun c a w hq => hQ c a w _ hq) (Or.inl ⟨by rfl, ?_⟩) hS h
  intro y hSy
  have hx' : a.tmps[t]?.getD undef = .int .i64 z := by simpa [Act.eval] using hx
  clear hx ho hf hy hQ hS h hSy
  rcases (by omega : z = 0 ∨ z = 1 ∨ z = 2) with rfl | rfl | rfl <;> go_simp <;> decide
theorem reply_any (t u ky ce : Tm) (op1 n1 : Int) (s1 : ByteArray) (a1 : Option Addr) (len1 cap1 : Nat) (op2 n2 : Int) (s2 : ByteArray) (a2 : Option Addr) (len2 cap2 : Nat) (op5 n5 : Int) (s5 : ByteArray) (a5 : Option Addr) (len5 cap5 : Nat) (op6 n6 : Int) (s6 : ByteArray) (a6 : Option Addr) (len6 cap6 : Nat) (w : World) (hl1 : Lies w 0 t (tmCells op1 n1 s1 a1 len1 cap1)) (hl2 : Lies w 0 u (tmCells op2 n2 s2 a2 len2 cap2)) (hl5 : Lies w 0 ky (tmCells op5 n5 s5 a5 len5 cap5)) (hl6 : Lies w 0 ce (tmCells op6 n6 s6 a6 len6 cap6)) (hs : t.size + u.size + ky.size + ce.size ≤ 1100000) :
    Calls Tryz.prog 17 #[.agg #[.int .i64 op1, .int .i64 n1, .string s1, .slice a1 len1 cap1], .agg #[.int .i64 op2, .int .i64 n2, .string s2, .slice a2 len2 cap2], .agg #[.int .i64 op5, .int .i64 n5, .string s5, .slice a5 len5 cap5], .agg #[.int .i64 op6, .int .i64 n6, .string s6, .slice a6 len6 cap6]] w fun e w' =>
      ∃ R op n s a len cap ok, e = .returned (.tuple #[.agg #[.int .i64 op, .int .i64 n, .string s, .slice a len cap], .bool ok]) ∧ (Lies w' w.heap.size R (tmCells op n s a len cap) ∧ R.size ≤ 200) ∧ Below w.heap.size w w' := by
  cases hag : agreeB t u with
  | false =>
    refine (replyS_no t u ky ce op1 n1 s1 a1 len1 cap1 op2 n2 s2 a2 len2 cap2 op5 n5 s5 a5 len5 cap5 op6 n6 s6 a6 len6 cap6 w hl1 hl2 hl5 hl6 hs hag).mono ?_
    rintro e w' ⟨rfl, hb⟩
    exact ⟨_, _, _, _, _, _, _, _, rfl, ⟨zero_lies _ _, by decide⟩, hb⟩
  | true =>
    obtain ⟨R, hR⟩ : ∃ R, R = replyR t u ky ce (agreeT t u) := ⟨_, rfl⟩
    refine (replyS_yes t u ky ce op1 n1 s1 a1 len1 cap1 op2 n2 s2 a2 len2 cap2 op5 n5 s5 a5 len5 cap5 op6 n6 s6 a6 len6 cap6 w hl1 hl2 hl5 hl6 hs hag R hR).mono ?_
    rintro e w' ⟨op, n, s, a, len, cap, rfl, hl, hb⟩
    exact ⟨_, op, n, s, a, len, cap, okT R, rfl, ⟨hl, pick200 _⟩, hb⟩

set_option maxRecDepth 100000 in
set_option maxHeartbeats 4000000 in
theorem secret_draw (c : Nat) (w : World) (hc : Cur w c) :
    Calls Tryz.prog 79 #[.pointer (some ⟨c, 0, none⟩)] w fun q w' => SecD c w q w' := by
  have hb0 : Below w.heap.size w ((w.alloc (.cells #[.int .i64 0, .int .i64 0, .string ⟨#[]⟩, .slice none 0 0] 29)).alloc (.cells #[.int .i64 0, .int .i64 0, .string ⟨#[]⟩, .slice none 0 0] 29)) := bt (ab _) (ab _) (Nat.le_refl _)
  have hz0 : RowT 29 ((w.alloc (.cells #[.int .i64 0, .int .i64 0, .string ⟨#[]⟩, .slice none 0 0] 29)).alloc (.cells #[.int .i64 0, .int .i64 0, .string ⟨#[]⟩, .slice none 0 0] 29)) w.heap.size 0 0 ⟨#[]⟩ none 0 0 := (RowT.new 29 w 0 0 ⟨#[]⟩ none 0 0).below (ab (.cells #[.int .i64 0, .int .i64 0, .string ⟨#[]⟩, .slice none 0 0] 29))
  have hz1 : RowT 29 ((w.alloc (.cells #[.int .i64 0, .int .i64 0, .string ⟨#[]⟩, .slice none 0 0] 29)).alloc (.cells #[.int .i64 0, .int .i64 0, .string ⟨#[]⟩, .slice none 0 0] 29)) (w.heap.size + 1) 0 0 ⟨#[]⟩ none 0 0 := by
    have := RowT.new 29 (w.alloc (.cells #[.int .i64 0, .int .i64 0, .string ⟨#[]⟩, .slice none 0 0] 29)) 0 0 ⟨#[]⟩ none 0 0
    rwa [heap_size_alloc] at this
  have hcl := hc.lt
  have HC := hide (hc.below hb0)
  have hA := hide (atom_draw c)
  have hBl := hide (below_calls c)
  have hCT := hide (term_draw c)
  have hD1 := hide (draw_calls c)
  obtain ⟨P0, hC0, hP0, hI0⟩ := Car.start ((Car.only (c := c) (w := w)).and ((Car.row (Nat.ne_of_gt hcl)).and (Car.row (g := w.heap.size + 1) (Nat.ne_of_gt (Nat.lt_succ_of_lt hcl))))) ⟨Only.of_below hb0, hz0, hz1⟩
  have IW := hide (fun y h => (hI0 y h).1)
  have IZ0 := hide (fun y h => (hI0 y h).2.1)
  have IZ1 := hide (fun y h => (hI0 y h).2.2)
  have CAR := hide hC0
  have HP := hide hP0
  clear hC0 hP0 hI0 hz0 hz1 hc hb0
  go_enter Tryz.func79, Tryz.ntmps79
  go_wp2_with fail
  generalize hgw : ((w.alloc (.cells #[.int .i64 0, .int .i64 0, .string ⟨#[]⟩, .slice none 0 0] 29)).alloc (.cells #[.int .i64 0, .int .i64 0, .string ⟨#[]⟩, .slice none 0 0] 29)) = W0 at *
  clear hgw
  refine (unhide hA _ (unhide HC)).mono ?_
  rintro q v1 ⟨x, rfl, hx, hc2, ho2⟩
  replace HP := hide ((unhide CAR).2 _ _ (unhide HP) ho2)
  replace HC := hide hc2
  clear hc2 ho2
  have WE : Hid (w.heap.size + 1 < v1.heap.size) := ((unhide IZ1 _ (unhide HP))).lt
  have hp := ab (w := v1) (.cells #[.int .i64 1, .int .i64 (20 + x), .string ByteArray.empty, .slice none 0 0] 29)
  have hrow := RowT.new 29 v1 1 (20 + x) ByteArray.empty none 0 0
  have NbE : Hid (v1.heap.size ≠ c) := Ne.symm (Nat.ne_of_lt (unhide HC).lt)
  have MbE : Hid (c < v1.heap.size) := (unhide HC).lt
  replace HP := hide ((unhide CAR).1 _ _ (unhide HP) hp)
  replace HC := hide ((unhide HC).below hp)
  obtain ⟨P1, hC1, hP1, hJ1, hQ1⟩ := Car.grow (unhide CAR) (unhide HP) (Car.row (unhide NbE)) (hrow)
  have J1 := hide hJ1
  have QE := hide hQ1
  replace CAR := hide hC1
  replace HP := hide hP1
  clear hC1 hP1 hJ1 hQ1
  clear hp hrow
  go_wp2_with fail
  generalize hgw : v1.alloc (.cells #[.int .i64 1, .int .i64 (20 + x), .string ByteArray.empty, .slice none 0 0] 29) = V1 at *
  clear hgw
  generalize v1.heap.size = bE at *
  have MV1 : Hid (c < V1.heap.size) := (unhide HC).lt
  refine (unhide hCT _ (unhide HC)).mono ?_
  rintro q v2 ⟨T3, op3, n3, s3, a3, len3, cap3, rfl, ⟨hlT, hzT⟩, hc2, ho2⟩
  replace HP := hide ((unhide CAR).2 _ _ (unhide HP) ho2)
  replace HC := hide hc2
  clear hc2 ho2
  obtain ⟨P2, hC2, hP2, hJ2, hQ2⟩ := Car.grow (unhide CAR) (unhide HP) (Car.lies (unhide MV1)) (hlT)
  have J2 := hide hJ2
  have QT := hide hQ2
  replace CAR := hide hC2
  replace HP := hide hP2
  clear hC2 hP2 hJ2 hQ2
  have HZT := hide hzT
  clear hlT hzT
  have hp := ab (w := v2) (.cells #[.int .i64 op3, .int .i64 n3, .string s3, .slice a3 len3 cap3] 29)
  have hrow := RowT.new 29 v2 op3 n3 s3 a3 len3 cap3
  have NbC : Hid (v2.heap.size ≠ c) := Ne.symm (Nat.ne_of_lt (unhide HC).lt)
  have MbC : Hid (c < v2.heap.size) := (unhide HC).lt
  replace HP := hide ((unhide CAR).1 _ _ (unhide HP) hp)
  replace HC := hide ((unhide HC).below hp)
  obtain ⟨P3, hC3, hP3, hJ3, hQ3⟩ := Car.grow (unhide CAR) (unhide HP) (Car.row (unhide NbC)) (hrow)
  have J3 := hide hJ3
  have QC := hide hQ3
  replace CAR := hide hC3
  replace HP := hide hP3
  clear hC3 hP3 hJ3 hQ3
  clear hp hrow
  go_wp2_with fail
  generalize hgw : v2.alloc (.cells #[.int .i64 op3, .int .i64 n3, .string s3, .slice a3 len3 cap3] 29) = V2 at *
  clear hgw
  generalize v2.heap.size = bC at *
  rename_i K hK
  have WV : Hid (w.heap.size + 1 < V2.heap.size) := ((unhide IZ1 _ (unhide J1 _ (unhide J2 _ (unhide J3 _ (unhide HP)))))).lt
  have HSW : Hid (w.heap.size ≤ V2.heap.size) := ((unhide IW _ (unhide J1 _ (unhide J2 _ (unhide J3 _ (unhide HP)))))).size
  have HSf : Hid (∀ y, Only [c] V2 y → RowT 29 y bE 1 (20 + x) ByteArray.empty none 0 0 ∧ RowT 29 y bC op3 n3 s3 a3 len3 cap3) := fun y ho => ⟨(unhide QE _ (unhide J2 _ (unhide J3 _ ((unhide CAR).2 _ _ (unhide HP) ho)))), (unhide QC _ ((unhide CAR).2 _ _ (unhide HP) ho))⟩
  have HTf : Hid (∀ y, Only [c] V2 y → Lies y V1.heap.size T3 (tmCells op3 n3 s3 a3 len3 cap3)) := fun y ho => (unhide QT _ (unhide J3 _ ((unhide CAR).2 _ _ (unhide HP) ho)))
  have FIN : Hid (∀ (y : World) (bT : Nat) (R : Tm) (op n : Int) (s : ByteArray) (a : Option Addr) (len cap : Nat) (ok : Bool) (L : Nat) (e1 e8 e9 e10 e11 e12 e13 e14 e15 e16 e17 e18 e19 e20 e21 e22 e23 e24 : Value), Only [c] V2 y → Cur y c → RowT 29 y bT op n s a len cap → (Lies y L R (tmCells op n s a len cap) ∧ R.size ≤ 200) → V2.heap.size ≤ bT → V2.heap.size ≤ L → K ⟨#[.pointer (some ⟨c, 0, none⟩), e1, .pointer (some ⟨w.heap.size, 0, none⟩), .pointer (some ⟨w.heap.size + 1, 0, none⟩), .pointer (some ⟨bE, 0, none⟩), .pointer (some ⟨bC, 0, none⟩), .pointer (some ⟨bT, 0, none⟩), .bool ok, e8, e9, e10, e11, e12, e13, e14, e15, e16, e17, e18, e19, e20, e21, e22, e23, e24, undef, undef, undef, undef, undef, undef, undef, undef, undef, undef, undef, undef, undef, undef], []⟩ y) := by
    have hcV := (unhide HC).lt
    intro y bT R op8 n8 s8 a8 len8 cap8 ok L e1 e8 e9 e10 e11 e12 e13 e14 e15 e16 e17 e18 e19 e20 e21 e22 e23 e24 hO hC hT hR hbT hVL
    have NbT : Hid (bT ≠ c) := by show bT ≠ c; omega
    have MbT : Hid (c < bT) := by show c < bT; omega
    have ML : Hid (c < L) := by show c < L; omega
    have WbT : Hid (w.heap.size + 1 < bT) := by have := (unhide WV); show w.heap.size + 1 < bT; omega
    replace HP := hide ((unhide CAR).2 _ _ (unhide HP) hO)
    replace HC := hide hC
    obtain ⟨P4, hC4, hP4, hJ4, hQ4⟩ := Car.grow (unhide CAR) (unhide HP) (Car.row (unhide NbT)) (hT)
    have J4 := hide hJ4
    have QR := hide hQ4
    replace CAR := hide hC4
    replace HP := hide hP4
    clear hC4 hP4 hJ4 hQ4
    obtain ⟨P5, hC5, hP5, hJ5, hQ5⟩ := Car.grow (unhide CAR) (unhide HP) (Car.lies (unhide ML)) (hR.1)
    have J5 := hide hJ5
    have QL := hide hQ5
    replace CAR := hide hC5
    replace HP := hide hP5
    clear hC5 hP5 hJ5 hQ5
    have HZR := hide hR.2
    have HVL := hide hVL
    have HVW : Hid (w.heap.size ≤ V2.heap.size) := (unhide HSW)
    clear hR hT hO hC hVL hbT hcV HSf HTf
    refine hK _ _ ?_
    clear hK
    go_wp2_with fail
    refine (unhide hBl _ _ (unhide HC) (by omega)).mono ?_
    rintro q y1 ⟨j, rfl, -, hc2, ho2⟩
    replace HP := hide ((unhide CAR).2 _ _ (unhide HP) ho2)
    replace HC := hide hc2
    clear hc2 ho2
    go_wp2_with fail
    · have hVW := unhide HVW
      have hVL := unhide HVL
      have hwv := unhide WV
      have hbw := unhide WbT
      have hbe := unhide WE
      have hd0 : Below y1.heap.size y1 y1.drew := (Below.refl _ _).drew
      have HPD := hide ((unhide CAR).1 _ _ (unhide HP) hd0)
      refine wp_region_held (S := fun y => RowT 29 y bT op8 n8 s8 a8 len8 cap8) (by kernel_rfl) ?_
      have hS : (fun y : World => RowT 29 y bT op8 n8 s8 a8 len8 cap8) y1.drew := (unhide QR _ (unhide J5 _ (unhide HPD)))
      show wpAnyH _ _ _ _ _ _ _ _ y1.drew
      refine take_move (v := .pointer (some ⟨c, 0, none⟩)) (i := 0) rfl rfl (by kernel_rfl) (by kernel_rfl) (by kernel_rfl) (fun _ _ _ _ h => h) hS ?_
      simp only [Act.put, List.setIfInBounds_toArray, List.set_cons_succ, List.set_cons_zero]
      refine take_load (i := 2) rfl rfl (fun y h => h) (by kernel_rfl) (by kernel_rfl) (by kernel_rfl) (fun _ _ _ _ h => h) hS ?_
      simp only [Act.put, List.setIfInBounds_toArray, List.set_cons_succ, List.set_cons_zero]
      refine all_call1 (i := 1) (by kernel_rfl) rfl Tryz.func66 (by kernel_rfl) (by kernel_rfl) rfl ?_
      refine (unhide hA _ (unhide HC).drew).mono ?_
      rintro q y2 ⟨x3, rfl, hx3, hc3, ho3⟩
      have ho3 : Only [c] y1 y2 := ho3.drewl
      have HPV := hide ((unhide CAR).2 _ _ (unhide HP) ho3)
      have HCV := hide hc3
      refine ⟨_, rfl, (unhide QR _ (unhide J5 _ (unhide HPV))), fun hS => ?_⟩
      simp only [Act.put, List.setIfInBounds_toArray, List.set_cons_succ, List.set_cons_zero]
      refine all_store (i := 3) (by kernel_rfl) rfl rfl rfl ((unhide IZ0 _ (unhide J1 _ (unhide J2 _ (unhide J3 _ (unhide J4 _ (unhide J5 _ (unhide HPV)))))))) (RowT.other hS (by omega)) fun hS => ?_
      refine all_store (i := 4) (by kernel_rfl) rfl rfl rfl (RowT.other ((unhide IZ1 _ (unhide J1 _ (unhide J2 _ (unhide J3 _ (unhide J4 _ (unhide J5 _ (unhide HPV)))))))) (by omega)) (RowT.other hS (by omega)) fun _ => ?_
      refine wpAnyH_done (by kernel_rfl) ?_ _
      go_wp2_with fail
      obtain ⟨r0, r1⟩ := fill_two (w := y2) (op0 := 1) (n0 := (20 + x3)) (s0 := ByteArray.empty) (a0 := none) (l0 := 0) (k0 := 0) (op1 := op8) (n1 := n8) (s1 := s8) (a1 := a8) (l1 := len8) (k1 := cap8) (unhide IZ0 _ (unhide J1 _ (unhide J2 _ (unhide J3 _ (unhide J4 _ (unhide J5 _ (unhide HPV))))))) (unhide IZ1 _ (unhide J1 _ (unhide J2 _ (unhide J3 _ (unhide J4 _ (unhide J5 _ (unhide HPV)))))))
      exact bodyPost_ret (v := .tuple #[.agg #[.int .i64 1, .int .i64 (20 + x3), .string ByteArray.empty, .slice none 0 0], .agg #[.int .i64 op8, .int .i64 n8, .string s8, .slice a8 len8 cap8]]) (results_cells2t Tryz.results79 rfl rfl (RowT.load r0) (RowT.load r1)) rfl ⟨(.node 1 (20 + x3) ByteArray.empty []), R, _, _, _, _, _, _, _, _, _, _, _, _, rfl, ⟨leaf_lies _ _ 1 (20 + x3) ByteArray.empty (by simp [maxLen]) (by decide) (WalkArith.wf_i64 (by omega)), by simp [Tm.size, Tm.sizes]⟩, ⟨fill_two_lies (unhide QL _ (unhide HPV)) (by omega) (by omega), Nat.le_trans (unhide HZR) (by decide)⟩, fill_two_cur (unhide HCV) hcl, fill_two_only (unhide IW _ (unhide J1 _ (unhide J2 _ (unhide J3 _ (unhide J4 _ (unhide J5 _ (unhide HPV))))))) (Nat.le_refl _)⟩
    · have hVW := unhide HVW
      have hVL := unhide HVL
      have hwv := unhide WV
      have hbw := unhide WbT
      have hbe := unhide WE
      have hd0 : Below y1.heap.size y1 y1.drew := (Below.refl _ _).drew
      have HPD := hide ((unhide CAR).1 _ _ (unhide HP) hd0)
      refine wp_region_held (S := fun y => RowT 29 y bE 1 (20 + x) ByteArray.empty none 0 0) (by kernel_rfl) ?_
      have hS : (fun y : World => RowT 29 y bE 1 (20 + x) ByteArray.empty none 0 0) y1.drew := (unhide QE _ (unhide J2 _ (unhide J3 _ (unhide J4 _ (unhide J5 _ (unhide HPD))))))
      show wpAnyH _ _ _ _ _ _ _ _ y1.drew
      refine take_load (i := 0) rfl rfl (fun y h => h) (by kernel_rfl) (by kernel_rfl) (by kernel_rfl) (fun _ _ _ _ h => h) hS ?_
      simp only [Act.put, List.setIfInBounds_toArray, List.set_cons_succ, List.set_cons_zero]
      refine take_move (v := .pointer (some ⟨c, 0, none⟩)) (i := 1) rfl rfl (by kernel_rfl) (by kernel_rfl) (by kernel_rfl) (fun _ _ _ _ h => h) hS ?_
      simp only [Act.put, List.setIfInBounds_toArray, List.set_cons_succ, List.set_cons_zero]
      refine all_call1 (i := 2) (by kernel_rfl) rfl Tryz.func70 (by kernel_rfl) (by kernel_rfl) rfl ?_
      refine (unhide hD1 _ (unhide HC).drew).mono ?_
      rintro q y2 ⟨v, rfl, ⟨T1, op6, n6, s6, a6, len6, cap6, rfl, hl6, -, hz6⟩, hc3, ho3⟩
      have ho3 : Only [c] y1 y2 := ho3.drewl
      have HPV := hide ((unhide CAR).2 _ _ (unhide HP) ho3)
      have HCV := hide hc3
      have hl6 : Lies y2 y1.heap.size T1 (tmCells op6 n6 s6 a6 len6 cap6) := hl6
      have hcv : w.heap.size + 1 < y1.heap.size := ((unhide IZ1 _ (unhide J1 _ (unhide J2 _ (unhide J3 _ (unhide J4 _ (unhide J5 _ (unhide HP)))))))).lt
      refine ⟨_, rfl, (unhide QE _ (unhide J2 _ (unhide J3 _ (unhide J4 _ (unhide J5 _ (unhide HPV)))))), fun hS => ?_⟩
      simp only [Act.put, List.setIfInBounds_toArray, List.set_cons_succ, List.set_cons_zero]
      refine all_store (i := 3) (by kernel_rfl) rfl rfl rfl ((unhide IZ0 _ (unhide J1 _ (unhide J2 _ (unhide J3 _ (unhide J4 _ (unhide J5 _ (unhide HPV)))))))) (RowT.other hS (by omega)) fun hS => ?_
      refine all_store (i := 4) (by kernel_rfl) rfl rfl rfl (RowT.other ((unhide IZ1 _ (unhide J1 _ (unhide J2 _ (unhide J3 _ (unhide J4 _ (unhide J5 _ (unhide HPV)))))))) (by omega)) (RowT.other hS (by omega)) fun _ => ?_
      refine wpAnyH_done (by kernel_rfl) ?_ _
      go_wp2_with fail
      obtain ⟨r0, r1⟩ := fill_two (w := y2) (op0 := 1) (n0 := (20 + x)) (s0 := ByteArray.empty) (a0 := none) (l0 := 0) (k0 := 0) (op1 := op6) (n1 := n6) (s1 := s6) (a1 := a6) (l1 := len6) (k1 := cap6) (unhide IZ0 _ (unhide J1 _ (unhide J2 _ (unhide J3 _ (unhide J4 _ (unhide J5 _ (unhide HPV))))))) (unhide IZ1 _ (unhide J1 _ (unhide J2 _ (unhide J3 _ (unhide J4 _ (unhide J5 _ (unhide HPV)))))))
      exact bodyPost_ret (v := .tuple #[.agg #[.int .i64 1, .int .i64 (20 + x), .string ByteArray.empty, .slice none 0 0], .agg #[.int .i64 op6, .int .i64 n6, .string s6, .slice a6 len6 cap6]]) (results_cells2t Tryz.results79 rfl rfl (RowT.load r0) (RowT.load r1)) rfl ⟨(.node 1 (20 + x) ByteArray.empty []), T1, _, _, _, _, _, _, _, _, _, _, _, _, rfl, ⟨leaf_lies _ _ 1 (20 + x) ByteArray.empty (by simp [maxLen]) (by decide) (WalkArith.wf_i64 (by omega)), by simp [Tm.size, Tm.sizes]⟩, ⟨fill_two_lies hl6 (by omega) (by omega), Nat.le_trans hz6 (by decide)⟩, fill_two_cur (unhide HCV) hcl, fill_two_only (unhide IW _ (unhide J1 _ (unhide J2 _ (unhide J3 _ (unhide J4 _ (unhide J5 _ (unhide HPV))))))) (Nat.le_refl _)⟩
    · have hVW := unhide HVW
      have hVL := unhide HVL
      have hwv := unhide WV
      have hbw := unhide WbT
      have hbe := unhide WE
      have hd0 : Below y1.heap.size y1 y1.drew := (Below.refl _ _).drew
      have HPD := hide ((unhide CAR).1 _ _ (unhide HP) hd0)
      refine wp_region_held (S := fun y => RowT 29 y bE 1 (20 + x) ByteArray.empty none 0 0 ∧ RowT 29 y bT op8 n8 s8 a8 len8 cap8) (by kernel_rfl) ?_
      have hS : (fun y : World => RowT 29 y bE 1 (20 + x) ByteArray.empty none 0 0 ∧ RowT 29 y bT op8 n8 s8 a8 len8 cap8) y1.drew := ⟨(unhide QE _ (unhide J2 _ (unhide J3 _ (unhide J4 _ (unhide J5 _ (unhide HPD)))))), (unhide QR _ (unhide J5 _ (unhide HPD)))⟩
      show wpAnyH _ _ _ _ _ _ _ _ y1.drew
      have HPV := HPD
      have HCV := hide (unhide HC).drew
      refine take_load (i := 0) rfl rfl (fun y h => h.1) (by kernel_rfl) (by kernel_rfl) (by kernel_rfl) (fun _ _ _ _ h => h) hS ?_
      simp only [Act.put, List.setIfInBounds_toArray, List.set_cons_succ, List.set_cons_zero]
      refine take_load (i := 1) rfl rfl (fun y h => h.2) (by kernel_rfl) (by kernel_rfl) (by kernel_rfl) (fun _ _ _ _ h => h) hS ?_
      simp only [Act.put, List.setIfInBounds_toArray, List.set_cons_succ, List.set_cons_zero]
      refine all_store (i := 2) (by kernel_rfl) rfl rfl rfl ((unhide IZ0 _ (unhide J1 _ (unhide J2 _ (unhide J3 _ (unhide J4 _ (unhide J5 _ (unhide HPV)))))))) ⟨RowT.other hS.1 (by omega), RowT.other hS.2 (by omega)⟩ fun hS => ?_
      refine all_store (i := 3) (by kernel_rfl) rfl rfl rfl (RowT.other ((unhide IZ1 _ (unhide J1 _ (unhide J2 _ (unhide J3 _ (unhide J4 _ (unhide J5 _ (unhide HPV)))))))) (by omega)) ⟨RowT.other hS.1 (by omega), RowT.other hS.2 (by omega)⟩ fun _ => ?_
      refine wpAnyH_done (by kernel_rfl) ?_ _
      go_wp2_with fail
      obtain ⟨r0, r1⟩ := fill_two (w := y1.drew) (op0 := 1) (n0 := (20 + x)) (s0 := ByteArray.empty) (a0 := none) (l0 := 0) (k0 := 0) (op1 := op8) (n1 := n8) (s1 := s8) (a1 := a8) (l1 := len8) (k1 := cap8) (unhide IZ0 _ (unhide J1 _ (unhide J2 _ (unhide J3 _ (unhide J4 _ (unhide J5 _ (unhide HPV))))))) (unhide IZ1 _ (unhide J1 _ (unhide J2 _ (unhide J3 _ (unhide J4 _ (unhide J5 _ (unhide HPV)))))))
      exact bodyPost_ret (v := .tuple #[.agg #[.int .i64 1, .int .i64 (20 + x), .string ByteArray.empty, .slice none 0 0], .agg #[.int .i64 op8, .int .i64 n8, .string s8, .slice a8 len8 cap8]]) (results_cells2t Tryz.results79 rfl rfl (RowT.load r0) (RowT.load r1)) rfl ⟨(.node 1 (20 + x) ByteArray.empty []), R, _, _, _, _, _, _, _, _, _, _, _, _, rfl, ⟨leaf_lies _ _ 1 (20 + x) ByteArray.empty (by simp [maxLen]) (by decide) (WalkArith.wf_i64 (by omega)), by simp [Tm.size, Tm.sizes]⟩, ⟨fill_two_lies (unhide QL _ (unhide HPV)) (by omega) (by omega), Nat.le_trans (unhide HZR) (by decide)⟩, fill_two_cur (unhide HCV) hcl, fill_two_only (unhide IW _ (unhide J1 _ (unhide J2 _ (unhide J3 _ (unhide J4 _ (unhide J5 _ (unhide HPV))))))) (Nat.le_refl _)⟩
  have hcV := (unhide HC).lt
  have HOV := hide (Only.of_below (fp := [c]) (Below.refl _ V2).drew)
  have hd0 : Below V2.heap.size V2 V2.drew := (Below.refl _ _).drew
  have hpS := hide (fun V => pubS (.node 1 (20 + x) ByteArray.empty []) 1 (20 + x) ByteArray.empty none 0 0 V (leaf_lies V 0 1 (20 + x) ByteArray.empty (by simp [maxLen]) (by decide) (WalkArith.wf_i64 (by omega))) (by simp [Tm.size, Tm.sizes]))
  refine wp_region_held (S := fun y => RowT 29 y bE 1 (20 + x) ByteArray.empty none 0 0 ∧ RowT 29 y bC op3 n3 s3 a3 len3 cap3) (by kernel_rfl) ?_
  have hS : (fun y : World => RowT 29 y bE 1 (20 + x) ByteArray.empty none 0 0 ∧ RowT 29 y bC op3 n3 s3 a3 len3 cap3) V2.drew := unhide HSf _ (unhide HOV)
  show wpAnyH _ _ _ _ _ _ _ _ V2.drew
  have HO0 : Hid (Only [c] V2 V2.drew) := HOV
  have HC0 := hide (unhide HC).drew
  have hV0 : V2.heap.size ≤ V2.drew.heap.size := (unhide HO0).size
  clear hd0
  generalize V2.drew = y0 at *
  refine take_move (v := .pointer (some ⟨c, 0, none⟩)) (i := 0) rfl rfl (by kernel_rfl) (by kernel_rfl) (by kernel_rfl) (fun _ _ _ _ h => h) hS ?_
  simp only [Act.put, List.setIfInBounds_toArray, List.set_cons_succ, List.set_cons_zero]
  refine take_load (i := 2) rfl rfl (fun y h => h.1) (by kernel_rfl) (by kernel_rfl) (by kernel_rfl) (fun _ _ _ _ h => h) hS ?_
  simp only [Act.put, List.setIfInBounds_toArray, List.set_cons_succ, List.set_cons_zero]
  refine take_move (v := .pointer (some ⟨c, 0, none⟩)) (i := 4) rfl rfl (by kernel_rfl) (by kernel_rfl) (by kernel_rfl) (fun _ _ _ _ h => h) hS ?_
  simp only [Act.put, List.setIfInBounds_toArray, List.set_cons_succ, List.set_cons_zero]
  refine take_load (i := 8) rfl rfl (fun y h => h.2) (by kernel_rfl) (by kernel_rfl) (by kernel_rfl) (fun _ _ _ _ h => h) hS ?_
  simp only [Act.put, List.setIfInBounds_toArray, List.set_cons_succ, List.set_cons_zero]
  refine wpAnyH_all (rs := [1, 13]) (by kernel_rfl) (by simp) fun j hj => ?_
  rcases (by simpa using hj : j = 1 ∨ j = 13) with rfl | rfl
  case inl =>
    refine step_call rfl Tryz.func66 (by kernel_rfl) (by kernel_rfl) ?_
    simp only [List.map_toArray, List.map_cons, List.map_nil]
    refine (unhide hA _ (unhide HC0)).mono ?_
    rintro q y1 ⟨x2, rfl, hx2, hc', ho'⟩
    have HO1 := hide ((unhide HO0).trans ho')
    have HC1 := hide hc'
    have hV1 : V2.heap.size ≤ y1.heap.size := (unhide HO1).size
    clear hc' ho'
    refine ⟨_, rfl, unhide HSf _ (unhide HO1), ?_⟩
    have hS := unhide HSf _ (unhide HO1)
    simp only [Act.put, List.setIfInBounds_toArray, List.set_cons_succ, List.set_cons_zero]
    refine wpAnyH_all (rs := [3, 13]) (by kernel_rfl) (by simp) fun j hj => ?_
    rcases (by simpa using hj : j = 3 ∨ j = 13) with rfl | rfl
    case inl =>
      refine step_call rfl Tryz.func61 (by kernel_rfl) (by kernel_rfl) ?_
      simp only [List.map_toArray, List.map_cons, List.map_nil]
      refine (unhide hpS _).mono ?_
      rintro q y2 ⟨op7, n7, s7, a7, len7, cap7, rfl, hlp, hb', -⟩
      have HPU := hide hlp
      have hpu : c < y1.heap.size := (unhide HC1).lt
      clear hlp
      have HO2 := hide ((unhide HO1).trans (Only.of_below hb'))
      have HC2 := hide ((unhide HC1).below hb')
      have hV2 : V2.heap.size ≤ y2.heap.size := (unhide HO2).size
      clear hb'
      refine ⟨_, rfl, unhide HSf _ (unhide HO2), ?_⟩
      have hS := unhide HSf _ (unhide HO2)
      simp only [Act.put, List.setIfInBounds_toArray, List.set_cons_succ, List.set_cons_zero]
      refine wpAnyH_all (rs := [5, 13]) (by kernel_rfl) (by simp) fun j hj => ?_
      rcases (by simpa using hj : j = 5 ∨ j = 13) with rfl | rfl
      case inl =>
        refine step_call rfl Tryz.func68 (by kernel_rfl) (by kernel_rfl) ?_
        simp only [List.map_toArray, List.map_cons, List.map_nil]
        refine (unhide hBl _ _ (unhide HC2) (by omega)).mono ?_
        rintro q y3 ⟨z, rfl, ⟨_, hz⟩, hc', ho'⟩
        replace hz := hz (by omega)
        have HO3 := hide ((unhide HO2).trans ho')
        have HC3 := hide hc'
        have hV3 : V2.heap.size ≤ y3.heap.size := (unhide HO3).size
        replace HPU := hide ((unhide HPU).only ho' (by omega))
        clear hc' ho'
        refine ⟨_, rfl, unhide HSf _ (unhide HO3), ?_⟩
        have hS := unhide HSf _ (unhide HO3)
        simp only [Act.put, List.setIfInBounds_toArray, List.set_cons_succ, List.set_cons_zero]
        refine take_add10 (i := 6) rfl rfl hz.1 hz.2 (by kernel_rfl) (by kernel_rfl) (by kernel_rfl) (fun _ _ _ _ h => h) hS ?_
        simp only [Act.put, List.setIfInBounds_toArray, List.set_cons_succ, List.set_cons_zero]
        refine wpAnyH_all (rs := [7, 13]) (by kernel_rfl) (by simp) fun j hj => ?_
        rcases (by simpa using hj : j = 7 ∨ j = 13) with rfl | rfl
        case inl =>
          refine step_call rfl Tryz.func67 (by kernel_rfl) (by kernel_rfl) ?_
          simp only [List.map_toArray, List.map_cons, List.map_nil]
          refine (atom10 z hz.1 hz.2 _).mono ?_
          rintro q y4 ⟨rfl, hb'⟩
          have HO4 := hide ((unhide HO3).trans (Only.of_below hb'))
          have HC4 := hide ((unhide HC3).below hb')
          have hV4 : V2.heap.size ≤ y4.heap.size := (unhide HO4).size
          replace HPU := hide ((unhide HPU).below hb')
          clear hb'
          refine ⟨_, rfl, unhide HSf _ (unhide HO4), ?_⟩
          have hS := unhide HSf _ (unhide HO4)
          simp only [Act.put, List.setIfInBounds_toArray, List.set_cons_succ, List.set_cons_zero]
          refine wpAnyH_all (rs := [9, 13]) (by kernel_rfl) (by simp) fun j hj => ?_
          rcases (by simpa using hj : j = 9 ∨ j = 13) with rfl | rfl
          case inl =>
            refine step_call rfl Tryz.func17 (by kernel_rfl) (by kernel_rfl) ?_
            simp only [List.map_toArray, List.map_cons, List.map_nil]
            refine (reply_any (.node 1 (20 + x2) ByteArray.empty []) _ (.node 1 (10 + z) ByteArray.empty []) _ 1 (20 + x2) ByteArray.empty none 0 0 op7 n7 s7 a7 len7 cap7 1 (10 + z) ByteArray.empty none 0 0 op3 n3 s3 a3 len3 cap3 _ (leaf_lies _ _ _ _ _ (by simp [maxLen]) (by decide) (WalkArith.wf_i64 (by omega))) ((unhide HPU).any (Nat.zero_le _)) (leaf_lies _ _ _ _ _ (by simp [maxLen]) (by decide) (WalkArith.wf_i64 (by omega))) ((unhide HTf _ (unhide HO4)).any (Nat.zero_le _)) (sz4 (made200 _ _) (unhide HZT))).mono ?_
            rintro q y5 ⟨R, op8, n8, s8, a8, len8, cap8, ok, rfl, hR, hb'⟩
            have HR := hide hR
            have hVL : V2.heap.size ≤ y4.heap.size := hV4
            clear hR
            have HO5 := hide ((unhide HO4).trans (Only.of_below hb'))
            have HC5 := hide ((unhide HC4).below hb')
            have hV5 : V2.heap.size ≤ y5.heap.size := (unhide HO5).size
            replace HPU := hide ((unhide HPU).below hb')
            clear hb'
            refine ⟨_, rfl, unhide HSf _ (unhide HO5), ?_⟩
            have hS := unhide HSf _ (unhide HO5)
            simp only [Act.put, List.setIfInBounds_toArray, List.set_cons_succ, List.set_cons_zero]
            refine take_move (v := .tuple #[.agg #[.int .i64 op8, .int .i64 n8, .string s8, .slice a8 len8 cap8], .bool ok]) (i := 10) rfl rfl (by kernel_rfl) (by kernel_rfl) (by kernel_rfl) (fun _ _ _ _ h => h) hS ?_
            simp only [Act.put, List.setIfInBounds_toArray, List.set_cons_succ, List.set_cons_zero]
            refine take_extract (i := 11) rfl rfl rfl (by kernel_rfl) (by kernel_rfl) (by kernel_rfl) (fun _ _ _ _ h => h) hS ?_
            simp only [Act.put, List.setIfInBounds_toArray, List.set_cons_succ, List.set_cons_zero]
            refine take_extract (i := 12) rfl rfl rfl (by kernel_rfl) (by kernel_rfl) (by kernel_rfl) (fun _ _ _ _ h => h) hS ?_
            simp only [Act.put, List.setIfInBounds_toArray, List.set_cons_succ, List.set_cons_zero]
            refine wpAnyH_all (rs := [13]) (by kernel_rfl) (by simp) fun j hj => ?_
            obtain rfl : j = 13 := by simpa using hj
            refine step_alloc rfl ?_
            have hb' := ab (w := y5) (.cells #[.int .i64 0, .int .i64 0, .string ByteArray.empty, .slice none 0 0] 29)
            have ht' := RowT.new 29 y5 0 0 ByteArray.empty none 0 0
            have hbT : V2.heap.size ≤ y5.heap.size := hV5
            have HOa := hide ((unhide HO5).trans (Only.of_below hb'))
            have HCa := hide ((unhide HC5).below hb')
            refine ⟨unhide HSf _ (unhide HOa), ?_⟩
            have hS := unhide HSf _ (unhide HOa)
            simp only [Act.put, List.setIfInBounds_toArray, List.set_cons_succ, List.set_cons_zero]
            have hbe : Below y5.heap.size y5 (y5.alloc (.cells #[.int .i64 0, .int .i64 0, .string ByteArray.empty, .slice none 0 0] 29)) := hb'
            have HT := hide ht'
            have HO6 := HOa
            have HC6 := HCa
            clear hb' ht'
            have hcb : c < y5.heap.size := by omega
            have HOe := hide (only_set4 (x0 := .int .i64 op8) (x1 := .int .i64 n8) (x2 := .string s8) (x3 := .slice a8 len8 cap8) (unhide HO6) hbT)
            have hSe := unhide HSf _ (unhide HOe)
            refine all_store (i := 14) (by kernel_rfl) rfl rfl rfl (unhide HT) hSe fun hS => ?_
            refine all_assign (v := .bool ok) (i := 15) (by kernel_rfl) rfl ?_ ?_ ?_
            · rfl
            · exact hS
            refine wpAnyH_done (by kernel_rfl) ?_ _
            simp only [Act.put, List.setIfInBounds_toArray, List.set_cons_succ, List.set_cons_zero]
            exact unhide FIN _ _ R _ _ _ _ _ _ _ _ _ _ _ _ _ _ _ _ _ _ _ _ _ _ _ _ _ _ (unhide HOe) (((((unhide HC6).set hcb).set hcb).set hcb).set hcb) (RowT.fill (unhide HT) _ _ _ _ _ _) ⟨(unhide HR).1.below (set4_below hbe (Nat.le_refl _)), (unhide HR).2⟩ hbT hVL
          case inr =>
            refine step_alloc rfl ?_
            have hb' := ab (w := y4) (.cells #[.int .i64 0, .int .i64 0, .string ByteArray.empty, .slice none 0 0] 29)
            have ht' := RowT.new 29 y4 0 0 ByteArray.empty none 0 0
            have hbT : V2.heap.size ≤ y4.heap.size := hV4
            have HOa := hide ((unhide HO4).trans (Only.of_below hb'))
            have HCa := hide ((unhide HC4).below hb')
            refine ⟨unhide HSf _ (unhide HOa), ?_⟩
            have hS := unhide HSf _ (unhide HOa)
            simp only [Act.put, List.setIfInBounds_toArray, List.set_cons_succ, List.set_cons_zero]
            replace HPU := hide ((unhide HPU).below hb')
            have HT := hide ht'
            have HO7 := HOa
            have HC7 := HCa
            have hV7 := (unhide HO7).size
            clear hb' ht'
            obtain ⟨bT, hbT'⟩ : ∃ b, b = y4.heap.size := ⟨_, rfl⟩
            rw [← hbT'] at HT hbT ⊢
            clear hbT'
            generalize y4.alloc (.cells #[.int .i64 0, .int .i64 0, .string ByteArray.empty, .slice none 0 0] 29) = y7 at *
            refine wpAnyH_all (rs := [9]) (by kernel_rfl) (by simp) fun j hj => ?_
            obtain rfl : j = 9 := by simpa using hj
            refine step_call rfl Tryz.func17 (by kernel_rfl) (by kernel_rfl) ?_
            simp only [List.map_toArray, List.map_cons, List.map_nil]
            have hbL := (unhide HT).lt
            refine (reply_any (.node 1 (20 + x2) ByteArray.empty []) _ (.node 1 (10 + z) ByteArray.empty []) _ 1 (20 + x2) ByteArray.empty none 0 0 op7 n7 s7 a7 len7 cap7 1 (10 + z) ByteArray.empty none 0 0 op3 n3 s3 a3 len3 cap3 _ (leaf_lies _ _ _ _ _ (by simp [maxLen]) (by decide) (WalkArith.wf_i64 (by omega))) ((unhide HPU).any (Nat.zero_le _)) (leaf_lies _ _ _ _ _ (by simp [maxLen]) (by decide) (WalkArith.wf_i64 (by omega))) ((unhide HTf _ (unhide HO7)).any (Nat.zero_le _)) (sz4 (made200 _ _) (unhide HZT))).mono ?_
            rintro q y8 ⟨R, op8, n8, s8, a8, len8, cap8, ok, rfl, hR, hb'⟩
            have HR := hide hR
            have hVL : V2.heap.size ≤ y7.heap.size := hV7
            clear hR
            have HO8 := hide ((unhide HO7).trans (Only.of_below hb'))
            have HC8 := hide ((unhide HC7).below hb')
            have hV8 : V2.heap.size ≤ y8.heap.size := (unhide HO8).size
            replace HT := hide ((unhide HT).below hb')
            replace HPU := hide ((unhide HPU).below hb')
            clear hb'
            refine ⟨_, rfl, unhide HSf _ (unhide HO8), ?_⟩
            have hS := unhide HSf _ (unhide HO8)
            simp only [Act.put, List.setIfInBounds_toArray, List.set_cons_succ, List.set_cons_zero]
            refine take_move (v := .tuple #[.agg #[.int .i64 op8, .int .i64 n8, .string s8, .slice a8 len8 cap8], .bool ok]) (i := 10) rfl rfl (by kernel_rfl) (by kernel_rfl) (by kernel_rfl) (fun _ _ _ _ h => h) hS ?_
            simp only [Act.put, List.setIfInBounds_toArray, List.set_cons_succ, List.set_cons_zero]
            refine take_extract (i := 11) rfl rfl rfl (by kernel_rfl) (by kernel_rfl) (by kernel_rfl) (fun _ _ _ _ h => h) hS ?_
            simp only [Act.put, List.setIfInBounds_toArray, List.set_cons_succ, List.set_cons_zero]
            refine take_extract (i := 12) rfl rfl rfl (by kernel_rfl) (by kernel_rfl) (by kernel_rfl) (fun _ _ _ _ h => h) hS ?_
            simp only [Act.put, List.setIfInBounds_toArray, List.set_cons_succ, List.set_cons_zero]
            have hcb : c < bT := by omega
            have HOe := hide (only_set4 (x0 := .int .i64 op8) (x1 := .int .i64 n8) (x2 := .string s8) (x3 := .slice a8 len8 cap8) (unhide HO8) hbT)
            have hSe := unhide HSf _ (unhide HOe)
            refine all_store (i := 14) (by kernel_rfl) rfl rfl rfl (unhide HT) hSe fun hS => ?_
            refine all_assign (v := .bool ok) (i := 15) (by kernel_rfl) rfl ?_ ?_ ?_
            · rfl
            · exact hS
            refine wpAnyH_done (by kernel_rfl) ?_ _
            simp only [Act.put, List.setIfInBounds_toArray, List.set_cons_succ, List.set_cons_zero]
            exact unhide FIN _ _ R _ _ _ _ _ _ _ _ _ _ _ _ _ _ _ _ _ _ _ _ _ _ _ _ _ _ (unhide HOe) (((((unhide HC8).set hcb).set hcb).set hcb).set hcb) (RowT.fill (unhide HT) _ _ _ _ _ _) ⟨set4_lies (unhide HR).1 hbL _ (Nat.le_refl _), (unhide HR).2⟩ hbT hVL
        case inr =>
          refine step_alloc rfl ?_
          have hb' := ab (w := y3) (.cells #[.int .i64 0, .int .i64 0, .string ByteArray.empty, .slice none 0 0] 29)
          have ht' := RowT.new 29 y3 0 0 ByteArray.empty none 0 0
          have hbT : V2.heap.size ≤ y3.heap.size := hV3
          have HOa := hide ((unhide HO3).trans (Only.of_below hb'))
          have HCa := hide ((unhide HC3).below hb')
          refine ⟨unhide HSf _ (unhide HOa), ?_⟩
          have hS := unhide HSf _ (unhide HOa)
          simp only [Act.put, List.setIfInBounds_toArray, List.set_cons_succ, List.set_cons_zero]
          replace HPU := hide ((unhide HPU).below hb')
          have HT := hide ht'
          have HO9 := HOa
          have HC9 := HCa
          have hV9 := (unhide HO9).size
          clear hb' ht'
          obtain ⟨bT, hbT'⟩ : ∃ b, b = y3.heap.size := ⟨_, rfl⟩
          rw [← hbT'] at HT hbT ⊢
          clear hbT'
          generalize y3.alloc (.cells #[.int .i64 0, .int .i64 0, .string ByteArray.empty, .slice none 0 0] 29) = y9 at *
          refine wpAnyH_all (rs := [7]) (by kernel_rfl) (by simp) fun j hj => ?_
          obtain rfl : j = 7 := by simpa using hj
          refine step_call rfl Tryz.func67 (by kernel_rfl) (by kernel_rfl) ?_
          simp only [List.map_toArray, List.map_cons, List.map_nil]
          refine (atom10 z hz.1 hz.2 _).mono ?_
          rintro q y10 ⟨rfl, hb'⟩
          have HO10 := hide ((unhide HO9).trans (Only.of_below hb'))
          have HC10 := hide ((unhide HC9).below hb')
          have hV10 : V2.heap.size ≤ y10.heap.size := (unhide HO10).size
          replace HT := hide ((unhide HT).below hb')
          replace HPU := hide ((unhide HPU).below hb')
          clear hb'
          refine ⟨_, rfl, unhide HSf _ (unhide HO10), ?_⟩
          have hS := unhide HSf _ (unhide HO10)
          simp only [Act.put, List.setIfInBounds_toArray, List.set_cons_succ, List.set_cons_zero]
          refine wpAnyH_all (rs := [9]) (by kernel_rfl) (by simp) fun j hj => ?_
          obtain rfl : j = 9 := by simpa using hj
          refine step_call rfl Tryz.func17 (by kernel_rfl) (by kernel_rfl) ?_
          simp only [List.map_toArray, List.map_cons, List.map_nil]
          have hbL := (unhide HT).lt
          refine (reply_any (.node 1 (20 + x2) ByteArray.empty []) _ (.node 1 (10 + z) ByteArray.empty []) _ 1 (20 + x2) ByteArray.empty none 0 0 op7 n7 s7 a7 len7 cap7 1 (10 + z) ByteArray.empty none 0 0 op3 n3 s3 a3 len3 cap3 _ (leaf_lies _ _ _ _ _ (by simp [maxLen]) (by decide) (WalkArith.wf_i64 (by omega))) ((unhide HPU).any (Nat.zero_le _)) (leaf_lies _ _ _ _ _ (by simp [maxLen]) (by decide) (WalkArith.wf_i64 (by omega))) ((unhide HTf _ (unhide HO10)).any (Nat.zero_le _)) (sz4 (made200 _ _) (unhide HZT))).mono ?_
          rintro q y11 ⟨R, op8, n8, s8, a8, len8, cap8, ok, rfl, hR, hb'⟩
          have HR := hide hR
          have hVL : V2.heap.size ≤ y10.heap.size := hV10
          clear hR
          have HO11 := hide ((unhide HO10).trans (Only.of_below hb'))
          have HC11 := hide ((unhide HC10).below hb')
          have hV11 : V2.heap.size ≤ y11.heap.size := (unhide HO11).size
          replace HT := hide ((unhide HT).below hb')
          replace HPU := hide ((unhide HPU).below hb')
          clear hb'
          refine ⟨_, rfl, unhide HSf _ (unhide HO11), ?_⟩
          have hS := unhide HSf _ (unhide HO11)
          simp only [Act.put, List.setIfInBounds_toArray, List.set_cons_succ, List.set_cons_zero]
          refine take_move (v := .tuple #[.agg #[.int .i64 op8, .int .i64 n8, .string s8, .slice a8 len8 cap8], .bool ok]) (i := 10) rfl rfl (by kernel_rfl) (by kernel_rfl) (by kernel_rfl) (fun _ _ _ _ h => h) hS ?_
          simp only [Act.put, List.setIfInBounds_toArray, List.set_cons_succ, List.set_cons_zero]
          refine take_extract (i := 11) rfl rfl rfl (by kernel_rfl) (by kernel_rfl) (by kernel_rfl) (fun _ _ _ _ h => h) hS ?_
          simp only [Act.put, List.setIfInBounds_toArray, List.set_cons_succ, List.set_cons_zero]
          refine take_extract (i := 12) rfl rfl rfl (by kernel_rfl) (by kernel_rfl) (by kernel_rfl) (fun _ _ _ _ h => h) hS ?_
          simp only [Act.put, List.setIfInBounds_toArray, List.set_cons_succ, List.set_cons_zero]
          have hcb : c < bT := by omega
          have HOe := hide (only_set4 (x0 := .int .i64 op8) (x1 := .int .i64 n8) (x2 := .string s8) (x3 := .slice a8 len8 cap8) (unhide HO11) hbT)
          have hSe := unhide HSf _ (unhide HOe)
          refine all_store (i := 14) (by kernel_rfl) rfl rfl rfl (unhide HT) hSe fun hS => ?_
          refine all_assign (v := .bool ok) (i := 15) (by kernel_rfl) rfl ?_ ?_ ?_
          · rfl
          · exact hS
          refine wpAnyH_done (by kernel_rfl) ?_ _
          simp only [Act.put, List.setIfInBounds_toArray, List.set_cons_succ, List.set_cons_zero]
          exact unhide FIN _ _ R _ _ _ _ _ _ _ _ _ _ _ _ _ _ _ _ _ _ _ _ _ _ _ _ _ _ (unhide HOe) (((((unhide HC11).set hcb).set hcb).set hcb).set hcb) (RowT.fill (unhide HT) _ _ _ _ _ _) ⟨set4_lies (unhide HR).1 hbL _ (Nat.le_refl _), (unhide HR).2⟩ hbT hVL
      case inr =>
        refine step_alloc rfl ?_
        have hb' := ab (w := y2) (.cells #[.int .i64 0, .int .i64 0, .string ByteArray.empty, .slice none 0 0] 29)
        have ht' := RowT.new 29 y2 0 0 ByteArray.empty none 0 0
        have hbT : V2.heap.size ≤ y2.heap.size := hV2
        have HOa := hide ((unhide HO2).trans (Only.of_below hb'))
        have HCa := hide ((unhide HC2).below hb')
        refine ⟨unhide HSf _ (unhide HOa), ?_⟩
        have hS := unhide HSf _ (unhide HOa)
        simp only [Act.put, List.setIfInBounds_toArray, List.set_cons_succ, List.set_cons_zero]
        replace HPU := hide ((unhide HPU).below hb')
        have HT := hide ht'
        have HO12 := HOa
        have HC12 := HCa
        have hV12 := (unhide HO12).size
        clear hb' ht'
        obtain ⟨bT, hbT'⟩ : ∃ b, b = y2.heap.size := ⟨_, rfl⟩
        rw [← hbT'] at HT hbT ⊢
        clear hbT'
        generalize y2.alloc (.cells #[.int .i64 0, .int .i64 0, .string ByteArray.empty, .slice none 0 0] 29) = y12 at *
        refine wpAnyH_all (rs := [5]) (by kernel_rfl) (by simp) fun j hj => ?_
        obtain rfl : j = 5 := by simpa using hj
        refine step_call rfl Tryz.func68 (by kernel_rfl) (by kernel_rfl) ?_
        simp only [List.map_toArray, List.map_cons, List.map_nil]
        refine (unhide hBl _ _ (unhide HC12) (by omega)).mono ?_
        rintro q y13 ⟨z, rfl, ⟨_, hz⟩, hc', ho'⟩
        replace hz := hz (by omega)
        have HO13 := hide ((unhide HO12).trans ho')
        have HC13 := hide hc'
        have hV13 : V2.heap.size ≤ y13.heap.size := (unhide HO13).size
        replace HT := hide ((unhide HT).only ho' (nin (by omega)))
        replace HPU := hide ((unhide HPU).only ho' (by omega))
        clear hc' ho'
        refine ⟨_, rfl, unhide HSf _ (unhide HO13), ?_⟩
        have hS := unhide HSf _ (unhide HO13)
        simp only [Act.put, List.setIfInBounds_toArray, List.set_cons_succ, List.set_cons_zero]
        refine take_add10 (i := 6) rfl rfl hz.1 hz.2 (by kernel_rfl) (by kernel_rfl) (by kernel_rfl) (fun _ _ _ _ h => h) hS ?_
        simp only [Act.put, List.setIfInBounds_toArray, List.set_cons_succ, List.set_cons_zero]
        refine wpAnyH_all (rs := [7]) (by kernel_rfl) (by simp) fun j hj => ?_
        obtain rfl : j = 7 := by simpa using hj
        refine step_call rfl Tryz.func67 (by kernel_rfl) (by kernel_rfl) ?_
        simp only [List.map_toArray, List.map_cons, List.map_nil]
        refine (atom10 z hz.1 hz.2 _).mono ?_
        rintro q y14 ⟨rfl, hb'⟩
        have HO14 := hide ((unhide HO13).trans (Only.of_below hb'))
        have HC14 := hide ((unhide HC13).below hb')
        have hV14 : V2.heap.size ≤ y14.heap.size := (unhide HO14).size
        replace HT := hide ((unhide HT).below hb')
        replace HPU := hide ((unhide HPU).below hb')
        clear hb'
        refine ⟨_, rfl, unhide HSf _ (unhide HO14), ?_⟩
        have hS := unhide HSf _ (unhide HO14)
        simp only [Act.put, List.setIfInBounds_toArray, List.set_cons_succ, List.set_cons_zero]
        refine wpAnyH_all (rs := [9]) (by kernel_rfl) (by simp) fun j hj => ?_
        obtain rfl : j = 9 := by simpa using hj
        refine step_call rfl Tryz.func17 (by kernel_rfl) (by kernel_rfl) ?_
        simp only [List.map_toArray, List.map_cons, List.map_nil]
        have hbL := (unhide HT).lt
        refine (reply_any (.node 1 (20 + x2) ByteArray.empty []) _ (.node 1 (10 + z) ByteArray.empty []) _ 1 (20 + x2) ByteArray.empty none 0 0 op7 n7 s7 a7 len7 cap7 1 (10 + z) ByteArray.empty none 0 0 op3 n3 s3 a3 len3 cap3 _ (leaf_lies _ _ _ _ _ (by simp [maxLen]) (by decide) (WalkArith.wf_i64 (by omega))) ((unhide HPU).any (Nat.zero_le _)) (leaf_lies _ _ _ _ _ (by simp [maxLen]) (by decide) (WalkArith.wf_i64 (by omega))) ((unhide HTf _ (unhide HO14)).any (Nat.zero_le _)) (sz4 (made200 _ _) (unhide HZT))).mono ?_
        rintro q y15 ⟨R, op8, n8, s8, a8, len8, cap8, ok, rfl, hR, hb'⟩
        have HR := hide hR
        have hVL : V2.heap.size ≤ y14.heap.size := hV14
        clear hR
        have HO15 := hide ((unhide HO14).trans (Only.of_below hb'))
        have HC15 := hide ((unhide HC14).below hb')
        have hV15 : V2.heap.size ≤ y15.heap.size := (unhide HO15).size
        replace HT := hide ((unhide HT).below hb')
        replace HPU := hide ((unhide HPU).below hb')
        clear hb'
        refine ⟨_, rfl, unhide HSf _ (unhide HO15), ?_⟩
        have hS := unhide HSf _ (unhide HO15)
        simp only [Act.put, List.setIfInBounds_toArray, List.set_cons_succ, List.set_cons_zero]
        refine take_move (v := .tuple #[.agg #[.int .i64 op8, .int .i64 n8, .string s8, .slice a8 len8 cap8], .bool ok]) (i := 10) rfl rfl (by kernel_rfl) (by kernel_rfl) (by kernel_rfl) (fun _ _ _ _ h => h) hS ?_
        simp only [Act.put, List.setIfInBounds_toArray, List.set_cons_succ, List.set_cons_zero]
        refine take_extract (i := 11) rfl rfl rfl (by kernel_rfl) (by kernel_rfl) (by kernel_rfl) (fun _ _ _ _ h => h) hS ?_
        simp only [Act.put, List.setIfInBounds_toArray, List.set_cons_succ, List.set_cons_zero]
        refine take_extract (i := 12) rfl rfl rfl (by kernel_rfl) (by kernel_rfl) (by kernel_rfl) (fun _ _ _ _ h => h) hS ?_
        simp only [Act.put, List.setIfInBounds_toArray, List.set_cons_succ, List.set_cons_zero]
        have hcb : c < bT := by omega
        have HOe := hide (only_set4 (x0 := .int .i64 op8) (x1 := .int .i64 n8) (x2 := .string s8) (x3 := .slice a8 len8 cap8) (unhide HO15) hbT)
        have hSe := unhide HSf _ (unhide HOe)
        refine all_store (i := 14) (by kernel_rfl) rfl rfl rfl (unhide HT) hSe fun hS => ?_
        refine all_assign (v := .bool ok) (i := 15) (by kernel_rfl) rfl ?_ ?_ ?_
        · rfl
        · exact hS
        refine wpAnyH_done (by kernel_rfl) ?_ _
        simp only [Act.put, List.setIfInBounds_toArray, List.set_cons_succ, List.set_cons_zero]
        exact unhide FIN _ _ R _ _ _ _ _ _ _ _ _ _ _ _ _ _ _ _ _ _ _ _ _ _ _ _ _ _ (unhide HOe) (((((unhide HC15).set hcb).set hcb).set hcb).set hcb) (RowT.fill (unhide HT) _ _ _ _ _ _) ⟨set4_lies (unhide HR).1 hbL _ (Nat.le_refl _), (unhide HR).2⟩ hbT hVL
    case inr =>
      refine step_alloc rfl ?_
      have hb' := ab (w := y1) (.cells #[.int .i64 0, .int .i64 0, .string ByteArray.empty, .slice none 0 0] 29)
      have ht' := RowT.new 29 y1 0 0 ByteArray.empty none 0 0
      have hbT : V2.heap.size ≤ y1.heap.size := hV1
      have HOa := hide ((unhide HO1).trans (Only.of_below hb'))
      have HCa := hide ((unhide HC1).below hb')
      refine ⟨unhide HSf _ (unhide HOa), ?_⟩
      have hS := unhide HSf _ (unhide HOa)
      simp only [Act.put, List.setIfInBounds_toArray, List.set_cons_succ, List.set_cons_zero]
      have HT := hide ht'
      have HO16 := HOa
      have HC16 := HCa
      have hV16 := (unhide HO16).size
      clear hb' ht'
      obtain ⟨bT, hbT'⟩ : ∃ b, b = y1.heap.size := ⟨_, rfl⟩
      rw [← hbT'] at HT hbT ⊢
      clear hbT'
      generalize y1.alloc (.cells #[.int .i64 0, .int .i64 0, .string ByteArray.empty, .slice none 0 0] 29) = y16 at *
      refine wpAnyH_all (rs := [3]) (by kernel_rfl) (by simp) fun j hj => ?_
      obtain rfl : j = 3 := by simpa using hj
      refine step_call rfl Tryz.func61 (by kernel_rfl) (by kernel_rfl) ?_
      simp only [List.map_toArray, List.map_cons, List.map_nil]
      refine (unhide hpS _).mono ?_
      rintro q y17 ⟨op7, n7, s7, a7, len7, cap7, rfl, hlp, hb', -⟩
      have HPU := hide hlp
      have hpu : c < y16.heap.size := (unhide HC16).lt
      clear hlp
      have HO17 := hide ((unhide HO16).trans (Only.of_below hb'))
      have HC17 := hide ((unhide HC16).below hb')
      have hV17 : V2.heap.size ≤ y17.heap.size := (unhide HO17).size
      replace HT := hide ((unhide HT).below hb')
      clear hb'
      refine ⟨_, rfl, unhide HSf _ (unhide HO17), ?_⟩
      have hS := unhide HSf _ (unhide HO17)
      simp only [Act.put, List.setIfInBounds_toArray, List.set_cons_succ, List.set_cons_zero]
      refine wpAnyH_all (rs := [5]) (by kernel_rfl) (by simp) fun j hj => ?_
      obtain rfl : j = 5 := by simpa using hj
      refine step_call rfl Tryz.func68 (by kernel_rfl) (by kernel_rfl) ?_
      simp only [List.map_toArray, List.map_cons, List.map_nil]
      refine (unhide hBl _ _ (unhide HC17) (by omega)).mono ?_
      rintro q y18 ⟨z, rfl, ⟨_, hz⟩, hc', ho'⟩
      replace hz := hz (by omega)
      have HO18 := hide ((unhide HO17).trans ho')
      have HC18 := hide hc'
      have hV18 : V2.heap.size ≤ y18.heap.size := (unhide HO18).size
      replace HT := hide ((unhide HT).only ho' (nin (by omega)))
      replace HPU := hide ((unhide HPU).only ho' (by omega))
      clear hc' ho'
      refine ⟨_, rfl, unhide HSf _ (unhide HO18), ?_⟩
      have hS := unhide HSf _ (unhide HO18)
      simp only [Act.put, List.setIfInBounds_toArray, List.set_cons_succ, List.set_cons_zero]
      refine take_add10 (i := 6) rfl rfl hz.1 hz.2 (by kernel_rfl) (by kernel_rfl) (by kernel_rfl) (fun _ _ _ _ h => h) hS ?_
      simp only [Act.put, List.setIfInBounds_toArray, List.set_cons_succ, List.set_cons_zero]
      refine wpAnyH_all (rs := [7]) (by kernel_rfl) (by simp) fun j hj => ?_
      obtain rfl : j = 7 := by simpa using hj
      refine step_call rfl Tryz.func67 (by kernel_rfl) (by kernel_rfl) ?_
      simp only [List.map_toArray, List.map_cons, List.map_nil]
      refine (atom10 z hz.1 hz.2 _).mono ?_
      rintro q y19 ⟨rfl, hb'⟩
      have HO19 := hide ((unhide HO18).trans (Only.of_below hb'))
      have HC19 := hide ((unhide HC18).below hb')
      have hV19 : V2.heap.size ≤ y19.heap.size := (unhide HO19).size
      replace HT := hide ((unhide HT).below hb')
      replace HPU := hide ((unhide HPU).below hb')
      clear hb'
      refine ⟨_, rfl, unhide HSf _ (unhide HO19), ?_⟩
      have hS := unhide HSf _ (unhide HO19)
      simp only [Act.put, List.setIfInBounds_toArray, List.set_cons_succ, List.set_cons_zero]
      refine wpAnyH_all (rs := [9]) (by kernel_rfl) (by simp) fun j hj => ?_
      obtain rfl : j = 9 := by simpa using hj
      refine step_call rfl Tryz.func17 (by kernel_rfl) (by kernel_rfl) ?_
      simp only [List.map_toArray, List.map_cons, List.map_nil]
      have hbL := (unhide HT).lt
      refine (reply_any (.node 1 (20 + x2) ByteArray.empty []) _ (.node 1 (10 + z) ByteArray.empty []) _ 1 (20 + x2) ByteArray.empty none 0 0 op7 n7 s7 a7 len7 cap7 1 (10 + z) ByteArray.empty none 0 0 op3 n3 s3 a3 len3 cap3 _ (leaf_lies _ _ _ _ _ (by simp [maxLen]) (by decide) (WalkArith.wf_i64 (by omega))) ((unhide HPU).any (Nat.zero_le _)) (leaf_lies _ _ _ _ _ (by simp [maxLen]) (by decide) (WalkArith.wf_i64 (by omega))) ((unhide HTf _ (unhide HO19)).any (Nat.zero_le _)) (sz4 (made200 _ _) (unhide HZT))).mono ?_
      rintro q y20 ⟨R, op8, n8, s8, a8, len8, cap8, ok, rfl, hR, hb'⟩
      have HR := hide hR
      have hVL : V2.heap.size ≤ y19.heap.size := hV19
      clear hR
      have HO20 := hide ((unhide HO19).trans (Only.of_below hb'))
      have HC20 := hide ((unhide HC19).below hb')
      have hV20 : V2.heap.size ≤ y20.heap.size := (unhide HO20).size
      replace HT := hide ((unhide HT).below hb')
      replace HPU := hide ((unhide HPU).below hb')
      clear hb'
      refine ⟨_, rfl, unhide HSf _ (unhide HO20), ?_⟩
      have hS := unhide HSf _ (unhide HO20)
      simp only [Act.put, List.setIfInBounds_toArray, List.set_cons_succ, List.set_cons_zero]
      refine take_move (v := .tuple #[.agg #[.int .i64 op8, .int .i64 n8, .string s8, .slice a8 len8 cap8], .bool ok]) (i := 10) rfl rfl (by kernel_rfl) (by kernel_rfl) (by kernel_rfl) (fun _ _ _ _ h => h) hS ?_
      simp only [Act.put, List.setIfInBounds_toArray, List.set_cons_succ, List.set_cons_zero]
      refine take_extract (i := 11) rfl rfl rfl (by kernel_rfl) (by kernel_rfl) (by kernel_rfl) (fun _ _ _ _ h => h) hS ?_
      simp only [Act.put, List.setIfInBounds_toArray, List.set_cons_succ, List.set_cons_zero]
      refine take_extract (i := 12) rfl rfl rfl (by kernel_rfl) (by kernel_rfl) (by kernel_rfl) (fun _ _ _ _ h => h) hS ?_
      simp only [Act.put, List.setIfInBounds_toArray, List.set_cons_succ, List.set_cons_zero]
      have hcb : c < bT := by omega
      have HOe := hide (only_set4 (x0 := .int .i64 op8) (x1 := .int .i64 n8) (x2 := .string s8) (x3 := .slice a8 len8 cap8) (unhide HO20) hbT)
      have hSe := unhide HSf _ (unhide HOe)
      refine all_store (i := 14) (by kernel_rfl) rfl rfl rfl (unhide HT) hSe fun hS => ?_
      refine all_assign (v := .bool ok) (i := 15) (by kernel_rfl) rfl ?_ ?_ ?_
      · rfl
      · exact hS
      refine wpAnyH_done (by kernel_rfl) ?_ _
      simp only [Act.put, List.setIfInBounds_toArray, List.set_cons_succ, List.set_cons_zero]
      exact unhide FIN _ _ R _ _ _ _ _ _ _ _ _ _ _ _ _ _ _ _ _ _ _ _ _ _ _ _ _ _ (unhide HOe) (((((unhide HC20).set hcb).set hcb).set hcb).set hcb) (RowT.fill (unhide HT) _ _ _ _ _ _) ⟨set4_lies (unhide HR).1 hbL _ (Nat.le_refl _), (unhide HR).2⟩ hbT hVL
  case inr =>
    refine step_alloc rfl ?_
    have hb' := ab (w := y0) (.cells #[.int .i64 0, .int .i64 0, .string ByteArray.empty, .slice none 0 0] 29)
    have ht' := RowT.new 29 y0 0 0 ByteArray.empty none 0 0
    have hbT : V2.heap.size ≤ y0.heap.size := hV0
    have HOa := hide ((unhide HO0).trans (Only.of_below hb'))
    have HCa := hide ((unhide HC0).below hb')
    refine ⟨unhide HSf _ (unhide HOa), ?_⟩
    have hS := unhide HSf _ (unhide HOa)
    simp only [Act.put, List.setIfInBounds_toArray, List.set_cons_succ, List.set_cons_zero]
    have HT := hide ht'
    have HO21 := HOa
    have HC21 := HCa
    have hV21 := (unhide HO21).size
    clear hb' ht'
    obtain ⟨bT, hbT'⟩ : ∃ b, b = y0.heap.size := ⟨_, rfl⟩
    rw [← hbT'] at HT hbT ⊢
    clear hbT'
    generalize y0.alloc (.cells #[.int .i64 0, .int .i64 0, .string ByteArray.empty, .slice none 0 0] 29) = y21 at *
    refine wpAnyH_all (rs := [1]) (by kernel_rfl) (by simp) fun j hj => ?_
    obtain rfl : j = 1 := by simpa using hj
    refine step_call rfl Tryz.func66 (by kernel_rfl) (by kernel_rfl) ?_
    simp only [List.map_toArray, List.map_cons, List.map_nil]
    refine (unhide hA _ (unhide HC21)).mono ?_
    rintro q y22 ⟨x2, rfl, hx2, hc', ho'⟩
    have HO22 := hide ((unhide HO21).trans ho')
    have HC22 := hide hc'
    have hV22 : V2.heap.size ≤ y22.heap.size := (unhide HO22).size
    replace HT := hide ((unhide HT).only ho' (nin (by omega)))
    clear hc' ho'
    refine ⟨_, rfl, unhide HSf _ (unhide HO22), ?_⟩
    have hS := unhide HSf _ (unhide HO22)
    simp only [Act.put, List.setIfInBounds_toArray, List.set_cons_succ, List.set_cons_zero]
    refine wpAnyH_all (rs := [3]) (by kernel_rfl) (by simp) fun j hj => ?_
    obtain rfl : j = 3 := by simpa using hj
    refine step_call rfl Tryz.func61 (by kernel_rfl) (by kernel_rfl) ?_
    simp only [List.map_toArray, List.map_cons, List.map_nil]
    refine (unhide hpS _).mono ?_
    rintro q y23 ⟨op7, n7, s7, a7, len7, cap7, rfl, hlp, hb', -⟩
    have HPU := hide hlp
    have hpu : c < y22.heap.size := (unhide HC22).lt
    clear hlp
    have HO23 := hide ((unhide HO22).trans (Only.of_below hb'))
    have HC23 := hide ((unhide HC22).below hb')
    have hV23 : V2.heap.size ≤ y23.heap.size := (unhide HO23).size
    replace HT := hide ((unhide HT).below hb')
    clear hb'
    refine ⟨_, rfl, unhide HSf _ (unhide HO23), ?_⟩
    have hS := unhide HSf _ (unhide HO23)
    simp only [Act.put, List.setIfInBounds_toArray, List.set_cons_succ, List.set_cons_zero]
    refine wpAnyH_all (rs := [5]) (by kernel_rfl) (by simp) fun j hj => ?_
    obtain rfl : j = 5 := by simpa using hj
    refine step_call rfl Tryz.func68 (by kernel_rfl) (by kernel_rfl) ?_
    simp only [List.map_toArray, List.map_cons, List.map_nil]
    refine (unhide hBl _ _ (unhide HC23) (by omega)).mono ?_
    rintro q y24 ⟨z, rfl, ⟨_, hz⟩, hc', ho'⟩
    replace hz := hz (by omega)
    have HO24 := hide ((unhide HO23).trans ho')
    have HC24 := hide hc'
    have hV24 : V2.heap.size ≤ y24.heap.size := (unhide HO24).size
    replace HT := hide ((unhide HT).only ho' (nin (by omega)))
    replace HPU := hide ((unhide HPU).only ho' (by omega))
    clear hc' ho'
    refine ⟨_, rfl, unhide HSf _ (unhide HO24), ?_⟩
    have hS := unhide HSf _ (unhide HO24)
    simp only [Act.put, List.setIfInBounds_toArray, List.set_cons_succ, List.set_cons_zero]
    refine take_add10 (i := 6) rfl rfl hz.1 hz.2 (by kernel_rfl) (by kernel_rfl) (by kernel_rfl) (fun _ _ _ _ h => h) hS ?_
    simp only [Act.put, List.setIfInBounds_toArray, List.set_cons_succ, List.set_cons_zero]
    refine wpAnyH_all (rs := [7]) (by kernel_rfl) (by simp) fun j hj => ?_
    obtain rfl : j = 7 := by simpa using hj
    refine step_call rfl Tryz.func67 (by kernel_rfl) (by kernel_rfl) ?_
    simp only [List.map_toArray, List.map_cons, List.map_nil]
    refine (atom10 z hz.1 hz.2 _).mono ?_
    rintro q y25 ⟨rfl, hb'⟩
    have HO25 := hide ((unhide HO24).trans (Only.of_below hb'))
    have HC25 := hide ((unhide HC24).below hb')
    have hV25 : V2.heap.size ≤ y25.heap.size := (unhide HO25).size
    replace HT := hide ((unhide HT).below hb')
    replace HPU := hide ((unhide HPU).below hb')
    clear hb'
    refine ⟨_, rfl, unhide HSf _ (unhide HO25), ?_⟩
    have hS := unhide HSf _ (unhide HO25)
    simp only [Act.put, List.setIfInBounds_toArray, List.set_cons_succ, List.set_cons_zero]
    refine wpAnyH_all (rs := [9]) (by kernel_rfl) (by simp) fun j hj => ?_
    obtain rfl : j = 9 := by simpa using hj
    refine step_call rfl Tryz.func17 (by kernel_rfl) (by kernel_rfl) ?_
    simp only [List.map_toArray, List.map_cons, List.map_nil]
    have hbL := (unhide HT).lt
    refine (reply_any (.node 1 (20 + x2) ByteArray.empty []) _ (.node 1 (10 + z) ByteArray.empty []) _ 1 (20 + x2) ByteArray.empty none 0 0 op7 n7 s7 a7 len7 cap7 1 (10 + z) ByteArray.empty none 0 0 op3 n3 s3 a3 len3 cap3 _ (leaf_lies _ _ _ _ _ (by simp [maxLen]) (by decide) (WalkArith.wf_i64 (by omega))) ((unhide HPU).any (Nat.zero_le _)) (leaf_lies _ _ _ _ _ (by simp [maxLen]) (by decide) (WalkArith.wf_i64 (by omega))) ((unhide HTf _ (unhide HO25)).any (Nat.zero_le _)) (sz4 (made200 _ _) (unhide HZT))).mono ?_
    rintro q y26 ⟨R, op8, n8, s8, a8, len8, cap8, ok, rfl, hR, hb'⟩
    have HR := hide hR
    have hVL : V2.heap.size ≤ y25.heap.size := hV25
    clear hR
    have HO26 := hide ((unhide HO25).trans (Only.of_below hb'))
    have HC26 := hide ((unhide HC25).below hb')
    have hV26 : V2.heap.size ≤ y26.heap.size := (unhide HO26).size
    replace HT := hide ((unhide HT).below hb')
    replace HPU := hide ((unhide HPU).below hb')
    clear hb'
    refine ⟨_, rfl, unhide HSf _ (unhide HO26), ?_⟩
    have hS := unhide HSf _ (unhide HO26)
    simp only [Act.put, List.setIfInBounds_toArray, List.set_cons_succ, List.set_cons_zero]
    refine take_move (v := .tuple #[.agg #[.int .i64 op8, .int .i64 n8, .string s8, .slice a8 len8 cap8], .bool ok]) (i := 10) rfl rfl (by kernel_rfl) (by kernel_rfl) (by kernel_rfl) (fun _ _ _ _ h => h) hS ?_
    simp only [Act.put, List.setIfInBounds_toArray, List.set_cons_succ, List.set_cons_zero]
    refine take_extract (i := 11) rfl rfl rfl (by kernel_rfl) (by kernel_rfl) (by kernel_rfl) (fun _ _ _ _ h => h) hS ?_
    simp only [Act.put, List.setIfInBounds_toArray, List.set_cons_succ, List.set_cons_zero]
    refine take_extract (i := 12) rfl rfl rfl (by kernel_rfl) (by kernel_rfl) (by kernel_rfl) (fun _ _ _ _ h => h) hS ?_
    simp only [Act.put, List.setIfInBounds_toArray, List.set_cons_succ, List.set_cons_zero]
    have hcb : c < bT := by omega
    have HOe := hide (only_set4 (x0 := .int .i64 op8) (x1 := .int .i64 n8) (x2 := .string s8) (x3 := .slice a8 len8 cap8) (unhide HO26) hbT)
    have hSe := unhide HSf _ (unhide HOe)
    refine all_store (i := 14) (by kernel_rfl) rfl rfl rfl (unhide HT) hSe fun hS => ?_
    refine all_assign (v := .bool ok) (i := 15) (by kernel_rfl) rfl ?_ ?_ ?_
    · rfl
    · exact hS
    refine wpAnyH_done (by kernel_rfl) ?_ _
    simp only [Act.put, List.setIfInBounds_toArray, List.set_cons_succ, List.set_cons_zero]
    exact unhide FIN _ _ R _ _ _ _ _ _ _ _ _ _ _ _ _ _ _ _ _ _ _ _ _ _ _ _ _ _ (unhide HOe) (((((unhide HC26).set hcb).set hcb).set hcb).set hcb) (RowT.fill (unhide HT) _ _ _ _ _ _) ⟨set4_lies (unhide HR).1 hbL _ (Nat.le_refl _), (unhide HR).2⟩ hbT hVL

end Go.Proofs.YtmklgikbajhcpaaGreatDoor
