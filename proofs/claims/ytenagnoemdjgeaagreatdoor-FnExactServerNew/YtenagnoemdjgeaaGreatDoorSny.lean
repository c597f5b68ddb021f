/- The walks of spec.Pub and impl.Pub: of whatever term lies in memory they answer its open half where that is right, else the zero term; the second in new blocks of its own; nothing that was there is written. What both ServerNew need. spec.ServerNew, walked. impl.ServerNew where it is not right, walked. impl.ServerNew where it is right, walked. -/
import Derived.Test.YtenagnoemdjgeaaGreatDoorHs
import Derived.Test.YtenagnoemdjgeaaGreatDoorSos
import Derived.Test.YtenagnoemdjgeaaGreatDoorCv
import Derived.Deep.MidRow
import Derived.Deep.RegionWith
import Derived.Deep.RegionHeld3
import Derived.Deep.DeepCutAuto
namespace Go.Proofs.YtenagnoemdjgeaaGreatDoor
open Go.RowKit Go.Deep

set_option maxRecDepth 100000 in
set_option maxHeartbeats 1000000 in
theorem pubS (t : Tm) (op n : Int) (s : ByteArray) (a : Option Addr) (len cap : Nat) (w : World) (hl : Lies w 0 t (tmCells op n s a len cap)) (hsz : t.size ≤ 2097151) :
    Calls Tryz.prog 53 #[.agg #[.int .i64 op, .int .i64 n, .string s, .slice a len cap]] w fun e w' => ∃ op' n' s' a' len' cap', e = .returned (.agg #[.int .i64 op', .int .i64 n', .string s', .slice a' len' cap']) ∧ Lies w' w.heap.size (madeT 4 [t]) (tmCells op' n' s' a' len' cap') ∧ Below w.heap.size w w' ∧ len' = cap' := by
  have h25 := hide (cz_calls t op n s a len cap)
  have h17 := hide (l3any (.node 4 0 ByteArray.empty [t]))
  have HZ : Hid ((Tm.node 4 0 ByteArray.empty [t]).size ≤ 2097152) := by show _ ≤ _; simp only [Tm.size, Tm.sizes]; omega
  have hB0 : Below w.heap.size w ((w.alloc (.cells #[.int .i64 op, .int .i64 n, .string s, .slice a len cap] 24)).alloc (.cells #[.int .i64 0, .int .i64 0, .string ByteArray.empty, .slice none 0 0] 24)) := bt (ab _) (ab _) (Nat.le_refl _)
  have HL := hide (hl.below hB0)
  have HB0 := hide hB0
  have HX : Hid (ZBox ((w.alloc (.cells #[.int .i64 op, .int .i64 n, .string s, .slice a len cap] 24)).alloc (.cells #[.int .i64 0, .int .i64 0, .string ByteArray.empty, .slice none 0 0] 24)) (w.heap.size + 1)) := by
    have := ZBox.new (w.alloc (.cells #[.int .i64 op, .int .i64 n, .string s, .slice a len cap] 24))
    rwa [heap_size_alloc] at this
  clear hl hB0
  go_enter Tryz.func53, Tryz.ntmps53
  go_wp2_with fail
  refine (unhide h25 _ (unhide HL) (by omega)).mono ?_
  rintro e w2 ⟨a2, cap2, f2, rfl, hO2, ⟨_, hge2⟩, hb2⟩
  have hB3 := bt (bt (unhide HB0) hb2 (Nat.le_refl _)) (ab (.cells #[.int .i64 op, .int .i64 n, .string s, .slice a2 len cap2] 24)) (Nat.le_refl _)
  have HB3 := hide hB3
  have HX3 := hide (((unhide HX).below hb2).below (ab (.cells #[.int .i64 op, .int .i64 n, .string s, .slice a2 len cap2] 24)))
  have HT3 := hide (lies_one (Own.lies _ _ _ hO2 hge2) hb2.size 4 (by decide))
  simp only [heap_size_alloc] at HT3
  clear hO2 hb2 hB3 HB0 HX HL hge2
  go_wp2_with fail
  refine (unhide h17 _ _ _ _ _ _ _ _ (unhide HT3) (unhide HZ)).mono ?_
  rintro e w4 ⟨op', n', s', a', len', cap', rfl, hL4, hb4, htt⟩
  have HTT := hide (htt rfl)
  have HB4 := hide (bt (unhide HB3) hb4 (Nat.le_refl _))
  have hX4 := (unhide HX3).below hb4
  have HL4 := hide hL4
  obtain ⟨d0, d1, d2, d3, e0, e1, e2, e3⟩ := hX4.facts
  clear hb4 hL4 hX4 HB3 HX3 HT3 htt
  go_wp2_with fail
  exact bodyPost_ret (v := .agg #[.int .i64 op', .int .i64 n', .string s', .slice a' len' cap']) (by simp [results, Tryz.results53, go_sem, d0, d1, d2, d3]) rfl ⟨op', n', s', a', len', cap', rfl, set4_lies (unhide HL4) (by omega) _ (by omega), set4_below (unhide HB4) (by omega), unhide HTT⟩

set_option maxRecDepth 100000 in
set_option maxHeartbeats 1000000 in
theorem pubI (t : Tm) (op n : Int) (s : ByteArray) (a : Option Addr) (len cap : Nat) (w : World) (hl : Lies w 0 t (tmCells op n s a len cap)) (hsz : t.size ≤ 2097151) (herr : Err w) :
    Calls Tryz.prog 51 #[.agg #[.int .i64 op, .int .i64 n, .string s, .slice a len cap]] w fun e w' => ∃ op' n' s' a' len' cap' fp, e = .returned (.agg #[.int .i64 op', .int .i64 n', .string s', .slice a' len' cap']) ∧ Own w' (madeT 4 [t]) (tmCells op' n' s' a' len' cap') fp ∧ (fp.Nodup ∧ ∀ x ∈ fp, w.heap.size ≤ x) ∧ Below w.heap.size w w' := by
  have HER := hide herr
  clear herr
  have h18 := hide (new_any (.node 4 0 ByteArray.empty [t]))
  have HZ : Hid ((Tm.node 4 0 ByteArray.empty [t]).size ≤ 2097152) := by show _ ≤ _; simp only [Tm.size, Tm.sizes]; omega
  have hB0 : Below w.heap.size w ((w.alloc (.cells #[.int .i64 op, .int .i64 n, .string s, .slice a len cap] 24)).alloc (.cells #[.int .i64 0, .int .i64 0, .string ByteArray.empty, .slice none 0 0] 24)) := bt (ab _) (ab _) (Nat.le_refl _)
  have hX : ZBox ((w.alloc (.cells #[.int .i64 op, .int .i64 n, .string s, .slice a len cap] 24)).alloc (.cells #[.int .i64 0, .int .i64 0, .string ByteArray.empty, .slice none 0 0] 24)) (w.heap.size + 1) := by
    have := ZBox.new (w.alloc (.cells #[.int .i64 op, .int .i64 n, .string s, .slice a len cap] 24))
    rwa [heap_size_alloc] at this
  have HB3 := hide (bt hB0 (ab (.cells #[.int .i64 op, .int .i64 n, .string s, .slice a len cap] 24)) (Nat.le_refl _))
  have HX3 := hide (hX.below (ab (.cells #[.int .i64 op, .int .i64 n, .string s, .slice a len cap] 24)))
  have HT3 := hide (lies_one (hl.below hB0) (Nat.zero_le _) 4 (by decide))
  simp only [heap_size_alloc] at HT3
  clear hl hB0 hX
  go_enter Tryz.func51, Tryz.ntmps51
  go_wp2_with fail
  refine (unhide h18 _ _ _ _ _ _ _ (unhide HT3) (unhide HZ) ((unhide HER).on (unhide HB3))).mono ?_
  rintro e w4 ⟨op', n', s', a', len', cap', fp, rfl, hO4, ⟨hnd, hge⟩, hb4⟩
  have HB4 := hide (bt (unhide HB3) hb4 (Nat.le_refl _))
  have hX4 := (unhide HX3).below hb4
  have HO4 := hide hO4
  have HND := hide hnd
  simp only [heap_size_alloc] at hge
  have HGE := hide hge
  obtain ⟨d0, d1, d2, d3, e0, e1, e2, e3⟩ := hX4.facts
  clear hb4 hO4 hX4 HB3 HX3 HT3 hnd hge
  go_wp2_with fail
  exact bodyPost_ret (v := .agg #[.int .i64 op', .int .i64 n', .string s', .slice a' len' cap']) (by simp [results, Tryz.results51, go_sem, d0, d1, d2, d3]) rfl ⟨op', n', s', a', len', cap', fp, rfl, Own.keep _ _ _ (unhide HO4) (fun b hb => set4_heap _ _ _ _ _ _ b (by have := unhide HGE b hb; omega)), ⟨unhide HND, fun x hx => by have := unhide HGE x hx; omega⟩, set4_below (unhide HB4) (by omega)⟩

theorem lies_at {ke : Int} (hw : (Lit.int .i64 ke).wf = true) (v : World) : Lies v 0 (.node (atOp ke) (atN ke) ByteArray.empty []) (tmCells (atOp ke) (atN ke) ByteArray.empty none 0 0) :=
  lies_leaf v _ _ _ (by simp [maxLen]) (at_wf hw).1 (at_wf hw).2
theorem set16 {w v : World} {b : Nat} {x0 x1 x2 x3 x4 x5 x6 x7 x8 x9 x10 x11 x12 x13 x14 x15 : Value} (h : Below w.heap.size w v) (hb : w.heap.size ≤ b) : Below w.heap.size w ((((((((((((((((v.setCell ⟨b, 0, none⟩ x0).setCell ⟨b, 1, none⟩ x1).setCell ⟨b, 2, none⟩ x2).setCell ⟨b, 3, none⟩ x3).setCell ⟨b, 4, none⟩ x4).setCell ⟨b, 5, none⟩ x5).setCell ⟨b, 6, none⟩ x6).setCell ⟨b, 7, none⟩ x7).setCell ⟨b, 8, none⟩ x8).setCell ⟨b, 9, none⟩ x9).setCell ⟨b, 10, none⟩ x10).setCell ⟨b, 11, none⟩ x11).setCell ⟨b, 12, none⟩ x12).setCell ⟨b, 13, none⟩ x13).setCell ⟨b, 14, none⟩ x14).setCell ⟨b, 15, none⟩ x15) := by
  iterate 16 refine setB ?_ hb
  exact h
theorem only16 (v : World) (b : Nat) {x0 x1 x2 x3 x4 x5 x6 x7 x8 x9 x10 x11 x12 x13 x14 x15 : Value} : Only [b] v ((((((((((((((((v.setCell ⟨b, 0, none⟩ x0).setCell ⟨b, 1, none⟩ x1).setCell ⟨b, 2, none⟩ x2).setCell ⟨b, 3, none⟩ x3).setCell ⟨b, 4, none⟩ x4).setCell ⟨b, 5, none⟩ x5).setCell ⟨b, 6, none⟩ x6).setCell ⟨b, 7, none⟩ x7).setCell ⟨b, 8, none⟩ x8).setCell ⟨b, 9, none⟩ x9).setCell ⟨b, 10, none⟩ x10).setCell ⟨b, 11, none⟩ x11).setCell ⟨b, 12, none⟩ x12).setCell ⟨b, 13, none⟩ x13).setCell ⟨b, 14, none⟩ x14).setCell ⟨b, 15, none⟩ x15) := by
  iterate 16 refine Only.set ?_ (by simp) _
  exact Only.refl _ _
theorem row_setCells {ty : TypeId} {b : Nat} : ∀ (vs : List Value) (o : Nat) (C : Array Value) (v : World), v.heap[b]? = some (.cells C ty (0, 0)) → (v.setCells b o vs).heap[b]? = some (.cells (putA C o vs) ty (0, 0))
  | [], _, _, _, h => h
  | x :: r, o, _, _, h => row_setCells r (o + 1) _ _ (row_set h x)
theorem put16 (st : Int) (h : ByteArray) (ke : Int) (ep : Int) (op : Int) (n : Int) (s : ByteArray) (a : Option Addr) (len : Nat) (cap : Nat) (oq : Int) (m : Int) (r : ByteArray) (c : Option Addr) (lem : Nat) (cat : Nat) (i : Int) (o : Int) (tl : Bool) (g : Option Addr) (gl : Nat) (gc : Nat) (x0 x1 x2 x3 x4 x5 x6 x7 x8 x9 x10 x11 x12 x13 x14 x15 : Value) : putA #[.int .i64 st, .string h, .int .i64 ke, .int .i64 ep, .int .i64 op, .int .i64 n, .string s, .slice a len cap, .int .i64 oq, .int .i64 m, .string r, .slice c lem cat, .int .i64 i, .int .i64 o, .bool tl, .slice g gl gc] 0 [x0, x1, x2, x3, x4, x5, x6, x7, x8, x9, x10, x11, x12, x13, x14, x15] = #[x0, x1, x2, x3, x4, x5, x6, x7, x8, x9, x10, x11, x12, x13, x14, x15] := by simp [putA]
set_option maxHeartbeats 1000000 in
theorem row16 {ty : TypeId} {v : World} {b : Nat} {st : Int} {h : ByteArray} {ke : Int} {ep : Int} {op : Int} {n : Int} {s : ByteArray} {a : Option Addr} {len : Nat} {cap : Nat} {oq : Int} {m : Int} {r : ByteArray} {c : Option Addr} {lem : Nat} {cat : Nat} {i : Int} {o : Int} {tl : Bool} {g : Option Addr} {gl : Nat} {gc : Nat} {x0 x1 x2 x3 x4 x5 x6 x7 x8 x9 x10 x11 x12 x13 x14 x15 : Value} (h : RowS ty v b st h ke ep op n s a len cap oq m r c lem cat i o tl g gl gc) : ((((((((((((((((v.setCell ⟨b, 0, none⟩ x0).setCell ⟨b, 1, none⟩ x1).setCell ⟨b, 2, none⟩ x2).setCell ⟨b, 3, none⟩ x3).setCell ⟨b, 4, none⟩ x4).setCell ⟨b, 5, none⟩ x5).setCell ⟨b, 6, none⟩ x6).setCell ⟨b, 7, none⟩ x7).setCell ⟨b, 8, none⟩ x8).setCell ⟨b, 9, none⟩ x9).setCell ⟨b, 10, none⟩ x10).setCell ⟨b, 11, none⟩ x11).setCell ⟨b, 12, none⟩ x12).setCell ⟨b, 13, none⟩ x13).setCell ⟨b, 14, none⟩ x14).setCell ⟨b, 15, none⟩ x15).heap[b]? = some (.cells #[x0, x1, x2, x3, x4, x5, x6, x7, x8, x9, x10, x11, x12, x13, x14, x15] ty (0, 0)) := by
  have h2 := row_setCells [x0, x1, x2, x3, x4, x5, x6, x7, x8, x9, x10, x11, x12, x13, x14, x15] 0 _ _ h
  rw [put16] at h2
  simp only [World.setCells, Nat.zero_add, Nat.reduceAdd] at h2
  exact h2

set_option maxRecDepth 100000 in
set_option maxHeartbeats 4000000 in
theorem newS_yes (h : ByteArray) (ke ep un : Int) (hw : (Lit.int .i64 ke).wf = true) (hh : h.size ≤ 2097152) (hB : serverB 1 h ke ep (certTm h (madeT 4 [.node (atOp ke) (atN ke) ByteArray.empty []]) un) zeroT 0 0 false [] = true) (w : World) :
    Calls Tryz.prog 9 #[.string h, .int .i64 ke, .int .i64 ep, .int .i64 un] w fun e w' => ∃ op n s a len cap, e = .returned (.tuple #[.agg #[.int .i64 1, .string h, .int .i64 ke, .int .i64 ep, .int .i64 op, .int .i64 n, .string s, .slice a len cap, .int .i64 0, .int .i64 0, .string ⟨#[]⟩, .slice none 0 0, .int .i64 0, .int .i64 0, .bool false, .slice none 0 0], .bool true]) ∧ Lies w' 0 (certTm h (madeT 4 [.node (atOp ke) (atN ke) ByteArray.empty []]) un) (tmCells op n s a len cap) ∧ Below w.heap.size w w' := by
  have hl1 := lies_at hw
  have g1 := hide (fun v => atom6 ke v hw)
  have g2 := hide (fun v => pubS (.node (atOp ke) (atN ke) ByteArray.empty []) (atOp ke) (atN ke) ByteArray.empty none 0 0 v (hl1 v) (by simp [Tm.size, Tm.sizes]))
  have hP2 : (madeT 4 [.node (atOp ke) (atN ke) ByteArray.empty []]).size ≤ 2097152 := Nat.le_trans (madeT_200 _ _) (by omega)
  have g3 := hide (fun op n s a len cap v hv => certTS (madeT 4 [.node (atOp ke) (atN ke) ByteArray.empty []]) h op n s a len cap un v hv hP2 hh)
  have hC2 : (certTm h (madeT 4 [.node (atOp ke) (atN ke) ByteArray.empty []]) un).size ≤ 2097152 := Nat.le_trans (certTm_200 _ _ _) (by omega)
  have g4 := hide (fun op n s a len cap v hv => serverS (certTm h (madeT 4 [.node (atOp ke) (atN ke) ByteArray.empty []]) un) zeroT [] 1 h ke ep op n s a len cap 0 0 ⟨#[]⟩ none 0 0 0 0 false none 0 v hv (lies_leaf _ 0 0 ByteArray.empty (by simp) rfl rfl) (Ints.nil _ _ _) hC2 (by simp [zeroT, Tm.size, Tm.sizes]) (by simp) hh)
  simp only [hB] at g4
  generalize (certTm h (madeT 4 [.node (atOp ke) (atN ke) ByteArray.empty []]) un) = C at *
  generalize madeT 4 [.node (atOp ke) (atN ke) ByteArray.empty []] = P at *
  generalize atOp ke = oK at *
  generalize atN ke = nK at *
  clear hl1 hP2 hC2 hB hw
  have HB0 := hide (abC (w := w) (.cells #[.int .i64 0, .string ⟨#[]⟩, .int .i64 0, .int .i64 0, .int .i64 0, .int .i64 0, .string ⟨#[]⟩, .slice none 0 0, .int .i64 0, .int .i64 0, .string ⟨#[]⟩, .slice none 0 0, .int .i64 0, .int .i64 0, .bool false, .slice none 0 0] 27))
  have HZ := hide (RowS.new 27 w 0 ⟨#[]⟩ 0 0 0 0 ⟨#[]⟩ none 0 0 0 0 ⟨#[]⟩ none 0 0 0 0 false none 0 0)
  clear hh
  go_enter Tryz.func9, Tryz.ntmps9
  go_wp2_with fail
  refine (unhide g1 _).mono ?_
  rintro e w1 ⟨rfl, hb1⟩
  have HB1 := hide (btC (unhide HB0) hb1)
  have HZ1 := hide ((unhide HZ).below hb1)
  clear hb1 HB0 HZ
  go_wp2_with fail
  refine (unhide g2 _).mono ?_
  rintro e w2 ⟨op2, n2, s2, a2, len2, cap2, rfl, hL2, hb2, -⟩
  have HB2 := hide (btC (unhide HB1) hb2)
  have HZ2 := hide ((unhide HZ1).below hb2)
  have HL2 := hide (hL2.any (Nat.zero_le _))
  clear hb2 hL2 HB1 HZ1
  go_wp2_with fail
  refine (unhide g3 op2 n2 s2 a2 len2 cap2 _ (unhide HL2)).mono ?_
  rintro e w3 ⟨op, n, s, a, len, cap, rfl, hL3, hb3⟩
  have HB3 := hide (btC (unhide HB2) hb3)
  have HZ3 := hide ((unhide HZ2).below hb3)
  have HL3 := hide (hL3.any (L' := w.heap.size + 1) (unhide HZ2).lt)
  have hbx := abC (w := w3) (.cells #[.int .i64 1, .string h, .int .i64 ke, .int .i64 ep, .int .i64 op, .int .i64 n, .string s, .slice a len cap, .int .i64 0, .int .i64 0, .string ⟨#[]⟩, .slice none 0 0, .int .i64 0, .int .i64 0, .bool false, .slice none 0 0] 27)
  have HB4 := hide (btC (unhide HB3) hbx)
  have HZ4 := hide ((unhide HZ3).below hbx)
  have HL4 := hide ((unhide HL3).below hbx)
  have HK4 := hide (RowS.new 27 w3 1 h ke ep op n s a len cap 0 0 ⟨#[]⟩ none 0 0 0 0 false none 0 0)
  have rk4 := (unhide HK4).range
  clear hb3 hL3 hbx HB2 HZ2 HL2 HB3 HZ3 HL3
  go_wp2_with (first | (refine wpList_store_new rfl (.tmp 10) (.tmp 21) rfl 1 h ke ep op n s a len cap 0 0 ⟨#[]⟩ none 0 0 0 0 false none 0 0 rfl rfl ?_) | (refine wpList_load_mid rfl 27 (.tmp 10) rfl (w3.heap.size) 0 rfl _ _ rk4 Tryz.underlying27 rfl (by rw [info16]; rfl) ?_))
  refine (unhide g4 op n s a len cap _ ((unhide HL4).any (Nat.zero_le _))).mono ?_
  rintro e w5 ⟨rfl, hb5⟩
  have HB5 := hide (btC (unhide HB4) hb5)
  have HZ5 := hide ((unhide HZ4).below hb5)
  have HL5 := hide ((unhide HL4).below hb5)
  have HK5 := hide ((unhide HK4).below hb5)
  clear hb5 HB4 HZ4 HL4 HK4 rk4
  obtain ⟨z0, z1, z2, z3, z4, z5, z6, z7, z8, z9, z10, z11, z12, z13, z14, z15⟩ := (unhide HZ5).facts
  have fz := (unhide HZ5).free
  have rk5 := (unhide HK5).range
  go_wp2_with (refine wpList_load_mid rfl 27 (.tmp 10) rfl (w3.heap.size) 0 rfl _ _ rk5 Tryz.underlying27 rfl (by rw [info16]; rfl) ?_)
  refine bodyPost_ret (v := .tuple #[.agg #[.int .i64 1, .string h, .int .i64 ke, .int .i64 ep, .int .i64 op, .int .i64 n, .string s, .slice a len cap, .int .i64 0, .int .i64 0, .string ⟨#[]⟩, .slice none 0 0, .int .i64 0, .int .i64 0, .bool false, .slice none 0 0], .bool true]) (by simp [results, Tryz.results9, go_sem, z0, z1, z2, z3, z4, z5, z6, z7, z8, z9, z10, z11, z12, z13, z14, z15]) rfl ⟨op, n, s, a, len, cap, rfl, ?_, ?_⟩
  · refine Lies.carry (L := w.heap.size + 1) (Nat.zero_le _) (fun b o hb _ => ?_) _ _ (unhide HL5)
    iterate 16 rw [cell_set_other (by omega)]
  · exact set16 (unhide HB5) (Nat.le_refl _)

set_option maxRecDepth 100000 in
set_option maxHeartbeats 4000000 in
theorem newS_no (h : ByteArray) (ke ep un : Int) (hw : (Lit.int .i64 ke).wf = true) (hh : h.size ≤ 2097152) (hB : serverB 1 h ke ep (certTm h (madeT 4 [.node (atOp ke) (atN ke) ByteArray.empty []]) un) zeroT 0 0 false [] = false) (w : World) :
    Calls Tryz.prog 9 #[.string h, .int .i64 ke, .int .i64 ep, .int .i64 un] w fun e w' => e = .returned (.tuple #[.agg #[.int .i64 0, .string ⟨#[]⟩, .int .i64 0, .int .i64 0, .int .i64 0, .int .i64 0, .string ⟨#[]⟩, .slice none 0 0, .int .i64 0, .int .i64 0, .string ⟨#[]⟩, .slice none 0 0, .int .i64 0, .int .i64 0, .bool false, .slice none 0 0], .bool false]) ∧ Below w.heap.size w w' := by
  have hl1 := lies_at hw
  have g1 := hide (fun v => atom6 ke v hw)
  have g2 := hide (fun v => pubS (.node (atOp ke) (atN ke) ByteArray.empty []) (atOp ke) (atN ke) ByteArray.empty none 0 0 v (hl1 v) (by simp [Tm.size, Tm.sizes]))
  have hP2 : (madeT 4 [.node (atOp ke) (atN ke) ByteArray.empty []]).size ≤ 2097152 := Nat.le_trans (madeT_200 _ _) (by omega)
  have g3 := hide (fun op n s a len cap v hv => certTS (madeT 4 [.node (atOp ke) (atN ke) ByteArray.empty []]) h op n s a len cap un v hv hP2 hh)
  have hC2 : (certTm h (madeT 4 [.node (atOp ke) (atN ke) ByteArray.empty []]) un).size ≤ 2097152 := Nat.le_trans (certTm_200 _ _ _) (by omega)
  have g4 := hide (fun op n s a len cap v hv => serverS (certTm h (madeT 4 [.node (atOp ke) (atN ke) ByteArray.empty []]) un) zeroT [] 1 h ke ep op n s a len cap 0 0 ⟨#[]⟩ none 0 0 0 0 false none 0 v hv (lies_leaf _ 0 0 ByteArray.empty (by simp) rfl rfl) (Ints.nil _ _ _) hC2 (by simp [zeroT, Tm.size, Tm.sizes]) (by simp) hh)
  simp only [hB] at g4
  generalize (certTm h (madeT 4 [.node (atOp ke) (atN ke) ByteArray.empty []]) un) = C at *
  generalize madeT 4 [.node (atOp ke) (atN ke) ByteArray.empty []] = P at *
  generalize atOp ke = oK at *
  generalize atN ke = nK at *
  clear hl1 hP2 hC2 hB hw
  have HB0 := hide (abC (w := w) (.cells #[.int .i64 0, .string ⟨#[]⟩, .int .i64 0, .int .i64 0, .int .i64 0, .int .i64 0, .string ⟨#[]⟩, .slice none 0 0, .int .i64 0, .int .i64 0, .string ⟨#[]⟩, .slice none 0 0, .int .i64 0, .int .i64 0, .bool false, .slice none 0 0] 27))
  have HZ := hide (RowS.new 27 w 0 ⟨#[]⟩ 0 0 0 0 ⟨#[]⟩ none 0 0 0 0 ⟨#[]⟩ none 0 0 0 0 false none 0 0)
  clear hh
  go_enter Tryz.func9, Tryz.ntmps9
  go_wp2_with fail
  refine (unhide g1 _).mono ?_
  rintro e w1 ⟨rfl, hb1⟩
  have HB1 := hide (btC (unhide HB0) hb1)
  have HZ1 := hide ((unhide HZ).below hb1)
  clear hb1 HB0 HZ
  go_wp2_with fail
  refine (unhide g2 _).mono ?_
  rintro e w2 ⟨op2, n2, s2, a2, len2, cap2, rfl, hL2, hb2, -⟩
  have HB2 := hide (btC (unhide HB1) hb2)
  have HZ2 := hide ((unhide HZ1).below hb2)
  have HL2 := hide (hL2.any (Nat.zero_le _))
  clear hb2 hL2 HB1 HZ1
  go_wp2_with fail
  refine (unhide g3 op2 n2 s2 a2 len2 cap2 _ (unhide HL2)).mono ?_
  rintro e w3 ⟨op, n, s, a, len, cap, rfl, hL3, hb3⟩
  have HB3 := hide (btC (unhide HB2) hb3)
  have HZ3 := hide ((unhide HZ2).below hb3)
  have HL3 := hide (hL3.any (L' := w.heap.size + 1) (unhide HZ2).lt)
  have hbx := abC (w := w3) (.cells #[.int .i64 1, .string h, .int .i64 ke, .int .i64 ep, .int .i64 op, .int .i64 n, .string s, .slice a len cap, .int .i64 0, .int .i64 0, .string ⟨#[]⟩, .slice none 0 0, .int .i64 0, .int .i64 0, .bool false, .slice none 0 0] 27)
  have HB4 := hide (btC (unhide HB3) hbx)
  have HZ4 := hide ((unhide HZ3).below hbx)
  have HL4 := hide ((unhide HL3).below hbx)
  have HK4 := hide (RowS.new 27 w3 1 h ke ep op n s a len cap 0 0 ⟨#[]⟩ none 0 0 0 0 false none 0 0)
  have rk4 := (unhide HK4).range
  clear hb3 hL3 hbx HB2 HZ2 HL2 HB3 HZ3 HL3
  go_wp2_with (first | (refine wpList_store_new rfl (.tmp 10) (.tmp 21) rfl 1 h ke ep op n s a len cap 0 0 ⟨#[]⟩ none 0 0 0 0 false none 0 0 rfl rfl ?_) | (refine wpList_load_mid rfl 27 (.tmp 10) rfl (w3.heap.size) 0 rfl _ _ rk4 Tryz.underlying27 rfl (by rw [info16]; rfl) ?_))
  refine (unhide g4 op n s a len cap _ ((unhide HL4).any (Nat.zero_le _))).mono ?_
  rintro e w5 ⟨rfl, hb5⟩
  have HB5 := hide (btC (unhide HB4) hb5)
  have HZ5 := hide ((unhide HZ4).below hb5)
  have HL5 := hide ((unhide HL4).below hb5)
  have HK5 := hide ((unhide HK4).below hb5)
  clear hb5 HB4 HZ4 HL4 HK4 rk4
  obtain ⟨z0, z1, z2, z3, z4, z5, z6, z7, z8, z9, z10, z11, z12, z13, z14, z15⟩ := (unhide HZ5).facts
  have fz := (unhide HZ5).free
  go_wp2_with fail
  refine bodyPost_ret (v := .tuple #[.agg #[.int .i64 0, .string ⟨#[]⟩, .int .i64 0, .int .i64 0, .int .i64 0, .int .i64 0, .string ⟨#[]⟩, .slice none 0 0, .int .i64 0, .int .i64 0, .string ⟨#[]⟩, .slice none 0 0, .int .i64 0, .int .i64 0, .bool false, .slice none 0 0], .bool false]) (by simp [results, Tryz.results9, go_sem, z0, z1, z2, z3, z4, z5, z6, z7, z8, z9, z10, z11, z12, z13, z14, z15]) rfl ⟨rfl, ?_⟩
  exact set16 (unhide HB5) (Nat.le_refl _)

set_option maxRecDepth 100000 in
set_option maxHeartbeats 4000000 in
theorem newI_no (h : ByteArray) (ke ep un : Int) (hw : (Lit.int .i64 ke).wf = true) (hh : h.size ≤ 2097152) (hB : serverB 1 h ke ep (certTm h (madeT 4 [.node (atOp ke) (atN ke) ByteArray.empty []]) un) zeroT 0 0 false [] = false) (w : World) (htab : Tab w) (herr : Err w) :
    Calls Tryz.prog 10 #[.string h, .int .i64 ke, .int .i64 ep, .int .i64 un] w fun e w' => e = .returned (.tuple #[.agg #[.int .i64 0, .string ⟨#[]⟩, .int .i64 0, .int .i64 0, .int .i64 0, .int .i64 0, .string ⟨#[]⟩, .slice none 0 0, .int .i64 0, .int .i64 0, .string ⟨#[]⟩, .slice none 0 0, .int .i64 0, .int .i64 0, .bool false, .slice none 0 0], .bool false]) ∧ Below w.heap.size w w' := by
  have HTB := hide htab
  have HER := hide herr
  have gl := hide (fun v => clone36 h v hh)
  clear htab herr
  have hl1 := lies_at hw
  have g1 := hide (fun v he => atom7 ke v hw he)
  have g2 := hide (fun v he => pubI (.node (atOp ke) (atN ke) ByteArray.empty []) (atOp ke) (atN ke) ByteArray.empty none 0 0 v (hl1 v) (by simp [Tm.size, Tm.sizes]) he)
  have hP2 : (madeT 4 [.node (atOp ke) (atN ke) ByteArray.empty []]).size ≤ 2097152 := Nat.le_trans (madeT_200 _ _) (by omega)
  have g3 := hide (fun op n s a len cap v hv ht he => certTI (madeT 4 [.node (atOp ke) (atN ke) ByteArray.empty []]) h op n s a len cap un v hv hP2 hh ht he)
  have hC2 : (certTm h (madeT 4 [.node (atOp ke) (atN ke) ByteArray.empty []]) un).size ≤ 2097152 := Nat.le_trans (certTm_200 _ _ _) (by omega)
  have g4 := hide (fun op n s a len cap v hv => serverI (certTm h (madeT 4 [.node (atOp ke) (atN ke) ByteArray.empty []]) un) zeroT [] 1 h ke ep op n s a len cap 0 0 ⟨#[]⟩ none 0 0 0 0 false none 0 v hv (lies_leaf _ 0 0 ByteArray.empty (by simp) rfl rfl) (Ints.nil _ _ _) hC2 (by simp [zeroT, Tm.size, Tm.sizes]) (by simp) hh)
  simp only [hB] at g4
  generalize (certTm h (madeT 4 [.node (atOp ke) (atN ke) ByteArray.empty []]) un) = C at *
  generalize madeT 4 [.node (atOp ke) (atN ke) ByteArray.empty []] = P at *
  generalize atOp ke = oK at *
  generalize atN ke = nK at *
  clear hl1 hP2 hC2 hB hw
  have HB0 := hide (abC (w := w) (.cells #[.int .i64 0, .string ⟨#[]⟩, .int .i64 0, .int .i64 0, .int .i64 0, .int .i64 0, .string ⟨#[]⟩, .slice none 0 0, .int .i64 0, .int .i64 0, .string ⟨#[]⟩, .slice none 0 0, .int .i64 0, .int .i64 0, .bool false, .slice none 0 0] 27))
  have HZ := hide (RowS.new 27 w 0 ⟨#[]⟩ 0 0 0 0 ⟨#[]⟩ none 0 0 0 0 ⟨#[]⟩ none 0 0 0 0 false none 0 0)
  clear hh
  go_enter Tryz.func10, Tryz.ntmps10
  go_wp2_with fail
  refine (unhide g1 _ ((unhide HER).on (unhide HB0))).mono ?_
  rintro e w1 ⟨rfl, hb1⟩
  have HB1 := hide (btC (unhide HB0) hb1)
  have HZ1 := hide ((unhide HZ).below hb1)
  clear hb1 HB0 HZ
  go_wp2_with fail
  refine (unhide g2 _ ((unhide HER).on (unhide HB1))).mono ?_
  rintro e w2 ⟨op2, n2, s2, a2, len2, cap2, fp2, rfl, hL2, -, hb2⟩
  have HB2 := hide (btC (unhide HB1) hb2)
  have HZ2 := hide ((unhide HZ1).below hb2)
  have HL2 := hide (hL2.lies0)
  clear hb2 hL2 HB1 HZ1
  go_wp2_with fail
  refine (unhide g3 op2 n2 s2 a2 len2 cap2 _ (unhide HL2) ((unhide HTB).on (unhide HB2)) ((unhide HER).on (unhide HB2))).mono ?_
  rintro e w3 ⟨op, n, s, a, len, cap, fp, rfl, hO3, ⟨hnd, hge⟩, hb3⟩
  have HB3 := hide (btC (unhide HB2) hb3)
  have HZ3 := hide ((unhide HZ2).below hb3)
  have hbt := abC (w := w3) (.cells #[.int .i64 op, .int .i64 n, .string s, .slice a len cap] 24)
  have HB4 := hide (btC (unhide HB3) hbt)
  have HZ4 := hide ((unhide HZ3).below hbt)
  have HO4 := hide (hO3.below hbt)
  have HT4 := hide (RowT.new 24 w3 op n s a len cap)
  have HND := hide hnd
  have HGE : Hid (∀ x ∈ fp, w.heap.size + 1 ≤ x) := fun x hx => by
    have h1 := hge x hx
    have h2 := (unhide HZ2).lt
    omega
  clear hb3 hO3 hnd hge hbt HB2 HZ2 HL2 HB3 HZ3
  obtain ⟨t0, t1, t2, t3⟩ := (unhide HT4).facts
  have tf0 : ∀ j, (w3.alloc (.cells #[.int .i64 op, .int .i64 n, .string s, .slice a len cap] 24)).frozen? ⟨w3.heap.size, j, none⟩ = false := fun j => frozen_of_row (unhide HT4)
  generalize hV4 : w3.alloc (.cells #[.int .i64 op, .int .i64 n, .string s, .slice a len cap] 24) = V4 at *
  have hbT : w3.heap.size < V4.heap.size := by rw [← hV4]; simp
  go_wp2_with fail
  generalize w3.heap.size = bT at *
  clear hV4
  have hxn := Nat.ne_of_lt hbT
  have hxm := Ne.symm hxn
  go_cut [11] (fun p wx => ∃ b, p = .pointer (some ⟨b, 0, none⟩) ∧ V4.heap.size ≤ b ∧ RowS 27 wx b 1 h ke ep op n s a len cap 0 0 ⟨#[]⟩ none 0 0 0 0 false none 0 0 ∧ Below V4.heap.size V4 wx)
  case first =>
    go_region_held3 (fun x => x.cell? ⟨bT, 0, none⟩ = some (.int .i64 op) ∧ x.cell? ⟨bT, 1, none⟩ = some (.int .i64 n) ∧ x.cell? ⟨bT, 2, none⟩ = some (.string s) ∧ x.cell? ⟨bT, 3, none⟩ = some (.slice a len cap)) (go_keep) (first
      | (go_at_call 57
         refine (unhide gl _).mono ?_
         rintro e w5 ⟨rfl, hb5⟩
         try have zz5 : RowS 27 w5 V4.heap.size 0 ⟨#[]⟩ 0 0 0 0 ⟨#[]⟩ none 0 0 0 0 ⟨#[]⟩ none 0 0 0 0 false none 0 0 := RowS.below (w := (V4.alloc (.cells #[.int .i64 0, .string ⟨#[]⟩, .int .i64 0, .int .i64 0, .int .i64 0, .int .i64 0, .string ⟨#[]⟩, .slice none 0 0, .int .i64 0, .int .i64 0, .string ⟨#[]⟩, .slice none 0 0, .int .i64 0, .int .i64 0, .bool false, .slice none 0 0] 27)).drew) (RowS.new 27 V4 0 ⟨#[]⟩ 0 0 0 0 ⟨#[]⟩ none 0 0 0 0 ⟨#[]⟩ none 0 0 0 0 false none 0 0) hb5
         have hb45 : Hid (Below V4.heap.size V4 w5) := by
           first
             | exact below_drew' hb5
             | exact btC (abC _) (below_drew' hb5)
         have t0 := kpc (unhide hb45) t0
         have t1 := kpc (unhide hb45) t1
         have t2 := kpc (unhide hb45) t2
         have t3 := kpc (unhide hb45) t3
         have hyt := lt_of_cell t0
         have hyn := Nat.ne_of_lt hyt
         have hym := Ne.symm hyn
         try (obtain ⟨y0, y1, y2, y3, y4, y5, y6, y7, y8, y9, y10, y11, y12, y13, y14, y15⟩ := zz5.facts)
         try have yf := zz5.free))
    all_goals
      go_wp2_with fail
      go_meet
      first
        | (refine ⟨V4.heap.size, (by with_reducible rfl), Nat.le_refl _, ?_, ?_⟩
           · unfold RowS; with_reducible exact row16 zz5
           · with_reducible exact set16 (unhide hb45) (Nat.le_refl _))
        | (refine ⟨w5.heap.size, (by with_reducible rfl), (unhide hb45).size, ?_, ?_⟩
           · with_reducible exact RowS.new 27 _ 1 h ke ep op n s a len cap 0 0 ⟨#[]⟩ none 0 0 0 0 false none 0 0
           · with_reducible exact btC (unhide hb45) (abC _))
  case rest =>
    obtain ⟨bK, rfl, hbK, hRK, hbc⟩ := hcut
    have HB4' := hide (btC (unhide HB4) hbc)
    have HZ4' := hide ((unhide HZ4).below hbc)
    have HO4' := hide ((unhide HO4).below hbc)
    have HK4 := hide hRK
    have rk4 := hRK.range
    clear hRK hbc t0 t1 t2 t3 tf0 HT4
    go_wp2_with (refine wpList_load_mid rfl 27 (.tmp 11) rfl bK 0 rfl _ _ rk4 Tryz.underlying27 rfl (by rw [info16]; rfl) ?_)
    refine (unhide g4 op n s a len cap _ (unhide HO4').lies0).mono ?_
    rintro e w5 ⟨rfl, hb5⟩
    have HB5 := hide (btC (unhide HB4') hb5)
    have HZ5 := hide ((unhide HZ4').below hb5)
    have HO5 := hide ((unhide HO4').below hb5)
    have HK5 := hide ((unhide HK4).below hb5)
    clear hb5 rk4 HB4 HB4' HZ4 HZ4' HO4 HO4' HK4
    obtain ⟨z0, z1, z2, z3, z4, z5, z6, z7, z8, z9, z10, z11, z12, z13, z14, z15⟩ := (unhide HZ5).facts
    have fz := (unhide HZ5).free
    go_wp2_with fail
    refine bodyPost_ret (v := .tuple #[.agg #[.int .i64 0, .string ⟨#[]⟩, .int .i64 0, .int .i64 0, .int .i64 0, .int .i64 0, .string ⟨#[]⟩, .slice none 0 0, .int .i64 0, .int .i64 0, .string ⟨#[]⟩, .slice none 0 0, .int .i64 0, .int .i64 0, .bool false, .slice none 0 0], .bool false]) (by simp [results, Tryz.results10, go_sem, z0, z1, z2, z3, z4, z5, z6, z7, z8, z9, z10, z11, z12, z13, z14, z15]) rfl ⟨rfl, ?_⟩
    exact set16 (unhide HB5) (Nat.le_refl _)

set_option maxRecDepth 100000 in
set_option maxHeartbeats 4000000 in
theorem newI_yes (h : ByteArray) (ke ep un : Int) (hw : (Lit.int .i64 ke).wf = true) (hh : h.size ≤ 2097152) (hB : serverB 1 h ke ep (certTm h (madeT 4 [.node (atOp ke) (atN ke) ByteArray.empty []]) un) zeroT 0 0 false [] = true) (w : World) (htab : Tab w) (herr : Err w) :
    Calls Tryz.prog 10 #[.string h, .int .i64 ke, .int .i64 ep, .int .i64 un] w fun e w' => ∃ op n s a len cap fp, e = .returned (.tuple #[.agg #[.int .i64 1, .string h, .int .i64 ke, .int .i64 ep, .int .i64 op, .int .i64 n, .string s, .slice a len cap, .int .i64 0, .int .i64 0, .string ⟨#[]⟩, .slice none 0 0, .int .i64 0, .int .i64 0, .bool false, .slice none 0 0], .bool true]) ∧ Own w' (certTm h (madeT 4 [.node (atOp ke) (atN ke) ByteArray.empty []]) un) (tmCells op n s a len cap) fp ∧ (fp.Nodup ∧ ∀ x ∈ fp, w.heap.size ≤ x) ∧ Below w.heap.size w w' := by
  have HTB := hide htab
  have HER := hide herr
  have gl := hide (fun v => clone36 h v hh)
  clear htab herr
  have hl1 := lies_at hw
  have g1 := hide (fun v he => atom7 ke v hw he)
  have g2 := hide (fun v he => pubI (.node (atOp ke) (atN ke) ByteArray.empty []) (atOp ke) (atN ke) ByteArray.empty none 0 0 v (hl1 v) (by simp [Tm.size, Tm.sizes]) he)
  have hP2 : (madeT 4 [.node (atOp ke) (atN ke) ByteArray.empty []]).size ≤ 2097152 := Nat.le_trans (madeT_200 _ _) (by omega)
  have g3 := hide (fun op n s a len cap v hv ht he => certTI (madeT 4 [.node (atOp ke) (atN ke) ByteArray.empty []]) h op n s a len cap un v hv hP2 hh ht he)
  have hC2 : (certTm h (madeT 4 [.node (atOp ke) (atN ke) ByteArray.empty []]) un).size ≤ 2097152 := Nat.le_trans (certTm_200 _ _ _) (by omega)
  have g4 := hide (fun op n s a len cap v hv => serverI (certTm h (madeT 4 [.node (atOp ke) (atN ke) ByteArray.empty []]) un) zeroT [] 1 h ke ep op n s a len cap 0 0 ⟨#[]⟩ none 0 0 0 0 false none 0 v hv (lies_leaf _ 0 0 ByteArray.empty (by simp) rfl rfl) (Ints.nil _ _ _) hC2 (by simp [zeroT, Tm.size, Tm.sizes]) (by simp) hh)
  simp only [hB] at g4
  generalize (certTm h (madeT 4 [.node (atOp ke) (atN ke) ByteArray.empty []]) un) = C at *
  generalize madeT 4 [.node (atOp ke) (atN ke) ByteArray.empty []] = P at *
  generalize atOp ke = oK at *
  generalize atN ke = nK at *
  clear hl1 hP2 hC2 hB hw
  have HB0 := hide (abC (w := w) (.cells #[.int .i64 0, .string ⟨#[]⟩, .int .i64 0, .int .i64 0, .int .i64 0, .int .i64 0, .string ⟨#[]⟩, .slice none 0 0, .int .i64 0, .int .i64 0, .string ⟨#[]⟩, .slice none 0 0, .int .i64 0, .int .i64 0, .bool false, .slice none 0 0] 27))
  have HZ := hide (RowS.new 27 w 0 ⟨#[]⟩ 0 0 0 0 ⟨#[]⟩ none 0 0 0 0 ⟨#[]⟩ none 0 0 0 0 false none 0 0)
  clear hh
  go_enter Tryz.func10, Tryz.ntmps10
  go_wp2_with fail
  refine (unhide g1 _ ((unhide HER).on (unhide HB0))).mono ?_
  rintro e w1 ⟨rfl, hb1⟩
  have HB1 := hide (btC (unhide HB0) hb1)
  have HZ1 := hide ((unhide HZ).below hb1)
  clear hb1 HB0 HZ
  go_wp2_with fail
  refine (unhide g2 _ ((unhide HER).on (unhide HB1))).mono ?_
  rintro e w2 ⟨op2, n2, s2, a2, len2, cap2, fp2, rfl, hL2, -, hb2⟩
  have HB2 := hide (btC (unhide HB1) hb2)
  have HZ2 := hide ((unhide HZ1).below hb2)
  have HL2 := hide (hL2.lies0)
  clear hb2 hL2 HB1 HZ1
  go_wp2_with fail
  refine (unhide g3 op2 n2 s2 a2 len2 cap2 _ (unhide HL2) ((unhide HTB).on (unhide HB2)) ((unhide HER).on (unhide HB2))).mono ?_
  rintro e w3 ⟨op, n, s, a, len, cap, fp, rfl, hO3, ⟨hnd, hge⟩, hb3⟩
  have HB3 := hide (btC (unhide HB2) hb3)
  have HZ3 := hide ((unhide HZ2).below hb3)
  have hbt := abC (w := w3) (.cells #[.int .i64 op, .int .i64 n, .string s, .slice a len cap] 24)
  have HB4 := hide (btC (unhide HB3) hbt)
  have HZ4 := hide ((unhide HZ3).below hbt)
  have HO4 := hide (hO3.below hbt)
  have HT4 := hide (RowT.new 24 w3 op n s a len cap)
  have HND := hide hnd
  have HGE : Hid (∀ x ∈ fp, w.heap.size + 1 ≤ x) := fun x hx => by
    have h1 := hge x hx
    have h2 := (unhide HZ2).lt
    omega
  clear hb3 hO3 hnd hge hbt HB2 HZ2 HL2 HB3 HZ3
  obtain ⟨t0, t1, t2, t3⟩ := (unhide HT4).facts
  have tf0 : ∀ j, (w3.alloc (.cells #[.int .i64 op, .int .i64 n, .string s, .slice a len cap] 24)).frozen? ⟨w3.heap.size, j, none⟩ = false := fun j => frozen_of_row (unhide HT4)
  generalize hV4 : w3.alloc (.cells #[.int .i64 op, .int .i64 n, .string s, .slice a len cap] 24) = V4 at *
  have hbT : w3.heap.size < V4.heap.size := by rw [← hV4]; simp
  go_wp2_with fail
  generalize w3.heap.size = bT at *
  clear hV4
  have hxn := Nat.ne_of_lt hbT
  have hxm := Ne.symm hxn
  go_cut [11] (fun p wx => ∃ b, p = .pointer (some ⟨b, 0, none⟩) ∧ V4.heap.size ≤ b ∧ RowS 27 wx b 1 h ke ep op n s a len cap 0 0 ⟨#[]⟩ none 0 0 0 0 false none 0 0 ∧ Below V4.heap.size V4 wx)
  case first =>
    go_region_held3 (fun x => x.cell? ⟨bT, 0, none⟩ = some (.int .i64 op) ∧ x.cell? ⟨bT, 1, none⟩ = some (.int .i64 n) ∧ x.cell? ⟨bT, 2, none⟩ = some (.string s) ∧ x.cell? ⟨bT, 3, none⟩ = some (.slice a len cap)) (go_keep) (first
      | (go_at_call 57
         refine (unhide gl _).mono ?_
         rintro e w5 ⟨rfl, hb5⟩
         try have zz5 : RowS 27 w5 V4.heap.size 0 ⟨#[]⟩ 0 0 0 0 ⟨#[]⟩ none 0 0 0 0 ⟨#[]⟩ none 0 0 0 0 false none 0 0 := RowS.below (w := (V4.alloc (.cells #[.int .i64 0, .string ⟨#[]⟩, .int .i64 0, .int .i64 0, .int .i64 0, .int .i64 0, .string ⟨#[]⟩, .slice none 0 0, .int .i64 0, .int .i64 0, .string ⟨#[]⟩, .slice none 0 0, .int .i64 0, .int .i64 0, .bool false, .slice none 0 0] 27)).drew) (RowS.new 27 V4 0 ⟨#[]⟩ 0 0 0 0 ⟨#[]⟩ none 0 0 0 0 ⟨#[]⟩ none 0 0 0 0 false none 0 0) hb5
         have hb45 : Hid (Below V4.heap.size V4 w5) := by
           first
             | exact below_drew' hb5
             | exact btC (abC _) (below_drew' hb5)
         have t0 := kpc (unhide hb45) t0
         have t1 := kpc (unhide hb45) t1
         have t2 := kpc (unhide hb45) t2
         have t3 := kpc (unhide hb45) t3
         have hyt := lt_of_cell t0
         have hyn := Nat.ne_of_lt hyt
         have hym := Ne.symm hyn
         try (obtain ⟨y0, y1, y2, y3, y4, y5, y6, y7, y8, y9, y10, y11, y12, y13, y14, y15⟩ := zz5.facts)
         try have yf := zz5.free))
    all_goals
      go_wp2_with fail
      go_meet
      first
        | (refine ⟨V4.heap.size, (by with_reducible rfl), Nat.le_refl _, ?_, ?_⟩
           · unfold RowS; with_reducible exact row16 zz5
           · with_reducible exact set16 (unhide hb45) (Nat.le_refl _))
        | (refine ⟨w5.heap.size, (by with_reducible rfl), (unhide hb45).size, ?_, ?_⟩
           · with_reducible exact RowS.new 27 _ 1 h ke ep op n s a len cap 0 0 ⟨#[]⟩ none 0 0 0 0 false none 0 0
           · with_reducible exact btC (unhide hb45) (abC _))
  case rest =>
    obtain ⟨bK, rfl, hbK, hRK, hbc⟩ := hcut
    have HB4' := hide (btC (unhide HB4) hbc)
    have HZ4' := hide ((unhide HZ4).below hbc)
    have HO4' := hide ((unhide HO4).below hbc)
    have HK4 := hide hRK
    have rk4 := hRK.range
    clear hRK hbc t0 t1 t2 t3 tf0 HT4
    go_wp2_with (refine wpList_load_mid rfl 27 (.tmp 11) rfl bK 0 rfl _ _ rk4 Tryz.underlying27 rfl (by rw [info16]; rfl) ?_)
    refine (unhide g4 op n s a len cap _ (unhide HO4').lies0).mono ?_
    rintro e w5 ⟨rfl, hb5⟩
    have HB5 := hide (btC (unhide HB4') hb5)
    have HZ5 := hide ((unhide HZ4').below hb5)
    have HO5 := hide ((unhide HO4').below hb5)
    have HK5 := hide ((unhide HK4).below hb5)
    clear hb5 rk4 HB4 HB4' HZ4 HZ4' HO4 HO4' HK4
    obtain ⟨z0, z1, z2, z3, z4, z5, z6, z7, z8, z9, z10, z11, z12, z13, z14, z15⟩ := (unhide HZ5).facts
    have fz := (unhide HZ5).free
    have rk5 := (unhide HK5).range
    go_wp2_with (refine wpList_load_mid rfl 27 (.tmp 11) rfl bK 0 rfl _ _ rk5 Tryz.underlying27 rfl (by rw [info16]; rfl) ?_)
    refine bodyPost_ret (v := .tuple #[.agg #[.int .i64 1, .string h, .int .i64 ke, .int .i64 ep, .int .i64 op, .int .i64 n, .string s, .slice a len cap, .int .i64 0, .int .i64 0, .string ⟨#[]⟩, .slice none 0 0, .int .i64 0, .int .i64 0, .bool false, .slice none 0 0], .bool true]) (by simp [results, Tryz.results10, go_sem, z0, z1, z2, z3, z4, z5, z6, z7, z8, z9, z10, z11, z12, z13, z14, z15]) rfl ⟨op, n, s, a, len, cap, fp, rfl, ?_, ⟨unhide HND, fun x hx => ?_⟩, ?_⟩
    · exact (unhide HO5).only (only16 _ _) (fun x hx hx2 => by have := unhide HGE x hx; simp at hx2; omega)
    · have := unhide HGE x hx
      omega
    · exact set16 (unhide HB5) (Nat.le_refl _)

end Go.Proofs.YtenagnoemdjgeaaGreatDoor
