/- The walks of impl.kidOfPub, impl.bodyOfSign and impl.Signed: the body of what is signed by the kid of an open half, or the named error; the last in new blocks of its own; nothing that was there is written. What is made of what is made; the walks of impl.kidOfPub and impl.shareOf: the share of a secret and the kid of an open half, or the named error; nothing that was there is written. The walk of spec.Reply: the reply and true, or zero and false; nothing that was there is written. -/
import Derived.Test.YtmklgikbajhcpaaGreatDoorSx
import Derived.Deep.RegionHeld3
import Derived.Deep.RegionWith
import Derived.Test.YtmklgikbajhcpaaGreatDoorG1
import Derived.Test.YtmklgikbajhcpaaGreatDoorDe
import Derived.Test.YtmklgikbajhcpaaGreatDoorTx
import Derived.Deep.DeepCutAuto
import Derived.Test.YtmklgikbajhcpaaGreatDoorHj
namespace Go.Proofs.YtmklgikbajhcpaaGreatDoor
open Go.RowKit Go.Deep

set_option maxRecDepth 100000 in
set_option maxHeartbeats 2000000 in
theorem kid_no (op n : Int) (s : ByteArray) (a : Option Addr) (len cap : Nat) (x : Addr) (w : World) (he : ErrAt x w) (h : op ≠ 4 ∨ len ≠ 1) :
    Calls Tryz.prog 134 #[.agg #[.int .i64 op, .int .i64 n, .string s, .slice a len cap]] w fun e w' => e = .returned (.tuple #[.agg #[.int .i64 0, .int .i64 0, .string ByteArray.empty, .slice none 0 0], .iface 202 (.pointer (some x))]) ∧ Below w.heap.size w w' := by
  have hB0 : Below w.heap.size w ((w.alloc (.cells #[.int .i64 op, .int .i64 n, .string s, .slice a len cap] 29)).alloc (.cells #[.int .i64 0, .int .i64 0, .string ByteArray.empty, .slice none 0 0] 29)) := bt (ab _) (ab _) (Nat.le_refl _)
  have HX : Hid (ZBox ((w.alloc (.cells #[.int .i64 op, .int .i64 n, .string s, .slice a len cap] 29)).alloc (.cells #[.int .i64 0, .int .i64 0, .string ByteArray.empty, .slice none 0 0] 29)) (w.heap.size + 1)) := by
    have := ZBox.new (w.alloc (.cells #[.int .i64 op, .int .i64 n, .string s, .slice a len cap] 29))
    rwa [heap_size_alloc] at this
  have HRA : Hid (RowT 29 ((w.alloc (.cells #[.int .i64 op, .int .i64 n, .string s, .slice a len cap] 29)).alloc (.cells #[.int .i64 0, .int .i64 0, .string ByteArray.empty, .slice none 0 0] 29)) w.heap.size op n s a len cap) := (RowT.new 29 w op n s a len cap).below (ab _)
  have g0 := (he.on hB0).cell
  have HB0 := hide hB0
  have hz1 : (w.heap.size + 1 = 0) = False := by simp
  have hz2 : (0 = w.heap.size + 1) = False := by simp
  clear hB0 he
  by_cases h4 : op = 4
  · have h1 : len ≠ 1 := by
      rcases h with h | h
      · exact absurd h4 h
      · exact h
    have q1 : (op != 4) = false := by simpa using h4
    have q2 : (((len : Nat) : Int) != 1) = true := by simp; omega
    clear h h1 h4
    go_enter Tryz.func134, Tryz.ntmps134
    go_wp2_with fail
    generalize hgw : ((w.alloc (.cells #[.int .i64 op, .int .i64 n, .string s, .slice a len cap] 29)).alloc (.cells #[.int .i64 0, .int .i64 0, .string ByteArray.empty, .slice none 0 0] 29)) = W0 at *
    refine gw_world hgw ?_
    clear hgw
    obtain ⟨c0, c1, c2, c3⟩ := (unhide HRA).facts
    obtain ⟨d0, d1, d2, d3, e0, e1, e2, e3⟩ := (unhide HX).facts
    go_region
    all_goals go_wp2_with fail
    all_goals
      exact bodyPost_ret (v := .tuple #[.agg #[.int .i64 0, .int .i64 0, .string ByteArray.empty, .slice none 0 0], .iface 202 (.pointer (some x))]) (by simp [results, Tryz.results134, go_sem, d0, d1, d2, d3]; try rfl) rfl ⟨rfl, set4_below (unhide HB0).drew (by omega)⟩
  · have q1 : (op != 4) = true := by simpa using h4
    clear h h4
    go_enter Tryz.func134, Tryz.ntmps134
    go_wp2_with fail
    generalize hgw : ((w.alloc (.cells #[.int .i64 op, .int .i64 n, .string s, .slice a len cap] 29)).alloc (.cells #[.int .i64 0, .int .i64 0, .string ByteArray.empty, .slice none 0 0] 29)) = W0 at *
    refine gw_world hgw ?_
    clear hgw
    obtain ⟨c0, c1, c2, c3⟩ := (unhide HRA).facts
    obtain ⟨d0, d1, d2, d3, e0, e1, e2, e3⟩ := (unhide HX).facts
    go_region
    all_goals go_wp2_with fail
    all_goals
      exact bodyPost_ret (v := .tuple #[.agg #[.int .i64 0, .int .i64 0, .string ByteArray.empty, .slice none 0 0], .iface 202 (.pointer (some x))]) (by simp [results, Tryz.results134, go_sem, d0, d1, d2, d3]; try rfl) rfl ⟨rfl, set4_below (unhide HB0).drew (by omega)⟩

set_option maxRecDepth 100000 in
set_option maxHeartbeats 2000000 in
theorem kid_yes (n : Int) (s : ByteArray) (b q cap2 : Nat) (op3 n3 : Int) (s3 : ByteArray) (a3 : Option Addr) (len3 cap3 : Nat) (w : World) (r0 : w.cell? ⟨b, q, none⟩ = some (.int .i64 op3)) (r1 : w.cell? ⟨b, q + 1, none⟩ = some (.int .i64 n3)) (r2 : w.cell? ⟨b, q + 2, none⟩ = some (.string s3)) (r3 : w.cell? ⟨b, q + 3, none⟩ = some (.slice a3 len3 cap3)) :
    Calls Tryz.prog 134 #[.agg #[.int .i64 4, .int .i64 n, .string s, .slice (some ⟨b, q, none⟩) 1 cap2]] w fun e w' => e = .returned (.tuple #[.agg #[.int .i64 op3, .int .i64 n3, .string s3, .slice a3 len3 cap3], .nilIface]) ∧ Below w.heap.size w w' := by
  have hB0 : Below w.heap.size w ((w.alloc (.cells #[.int .i64 4, .int .i64 n, .string s, .slice (some ⟨b, q, none⟩) 1 cap2] 29)).alloc (.cells #[.int .i64 0, .int .i64 0, .string ⟨#[]⟩, .slice none 0 0] 29)) := bt (ab _) (ab _) (Nat.le_refl _)
  have HB0 := hide hB0
  have hbl := lt_of_cell r0
  have n1 : b ≠ w.heap.size := by omega
  have n1' := Ne.symm n1
  have n2 : b ≠ w.heap.size + 1 := by omega
  have n2' := Ne.symm n2
  have i0 := kpc hB0 r0
  have i1 := kpc hB0 r1
  have i2 := kpc hB0 r2
  have i3 := kpc hB0 r3
  clear hB0 hbl r0 r1 r2 r3
  go_enter Tryz.func134, Tryz.ntmps134
  go_wp2_with fail
  exact bodyPost_ret (v := .tuple #[.agg #[.int .i64 op3, .int .i64 n3, .string s3, .slice a3 len3 cap3], .nilIface]) (by simp [results, Tryz.results134, go_sem]) rfl ⟨rfl, bt (ab _) (ab _) (Nat.le_refl _)⟩

set_option maxRecDepth 100000 in
set_option maxHeartbeats 2000000 in
theorem sgnb_no1 (op n : Int) (s : ByteArray) (a : Option Addr) (len cap : Nat) (op2 n2 : Int) (s2 : ByteArray) (a2 : Option Addr) (len2 cap2 : Nat) (x : Addr) (w : World) (he : ErrAt x w) (h : op ≠ 4 ∨ len ≠ 1) :
    Calls Tryz.prog 118 #[.agg #[.int .i64 op, .int .i64 n, .string s, .slice a len cap], .agg #[.int .i64 op2, .int .i64 n2, .string s2, .slice a2 len2 cap2]] w fun e w' => e = .returned (.tuple #[.agg #[.int .i64 0, .int .i64 0, .string ByteArray.empty, .slice none 0 0], .iface 202 (.pointer (some x))]) ∧ Below w.heap.size w w' := by
  have hB0 : Below w.heap.size w (((w.alloc (.cells #[.int .i64 op, .int .i64 n, .string s, .slice a len cap] 29)).alloc (.cells #[.int .i64 op2, .int .i64 n2, .string s2, .slice a2 len2 cap2] 29)).alloc (.cells #[.int .i64 0, .int .i64 0, .string ByteArray.empty, .slice none 0 0] 29)) := bt (bt (ab _) (ab _) (Nat.le_refl _)) (ab _) (Nat.le_refl _)
  have HX : Hid (ZBox (((w.alloc (.cells #[.int .i64 op, .int .i64 n, .string s, .slice a len cap] 29)).alloc (.cells #[.int .i64 op2, .int .i64 n2, .string s2, .slice a2 len2 cap2] 29)).alloc (.cells #[.int .i64 0, .int .i64 0, .string ByteArray.empty, .slice none 0 0] 29)) (w.heap.size + 1 + 1)) := by
    have := ZBox.new ((w.alloc (.cells #[.int .i64 op, .int .i64 n, .string s, .slice a len cap] 29)).alloc (.cells #[.int .i64 op2, .int .i64 n2, .string s2, .slice a2 len2 cap2] 29))
    rwa [heap_size_alloc, heap_size_alloc] at this
  have HRA : Hid (RowT 29 (((w.alloc (.cells #[.int .i64 op, .int .i64 n, .string s, .slice a len cap] 29)).alloc (.cells #[.int .i64 op2, .int .i64 n2, .string s2, .slice a2 len2 cap2] 29)).alloc (.cells #[.int .i64 0, .int .i64 0, .string ByteArray.empty, .slice none 0 0] 29)) w.heap.size op n s a len cap) := ((RowT.new 29 w op n s a len cap).below (ab _)).below (ab _)
  have HRB : Hid (RowT 29 (((w.alloc (.cells #[.int .i64 op, .int .i64 n, .string s, .slice a len cap] 29)).alloc (.cells #[.int .i64 op2, .int .i64 n2, .string s2, .slice a2 len2 cap2] 29)).alloc (.cells #[.int .i64 0, .int .i64 0, .string ByteArray.empty, .slice none 0 0] 29)) (w.heap.size + 1) op2 n2 s2 a2 len2 cap2) := by
    have := (RowT.new 29 (w.alloc (.cells #[.int .i64 op, .int .i64 n, .string s, .slice a len cap] 29)) op2 n2 s2 a2 len2 cap2).below (ab (.cells #[.int .i64 0, .int .i64 0, .string ByteArray.empty, .slice none 0 0] 29))
    rwa [heap_size_alloc] at this
  have HB0 := hide hB0
  have h61 := hide (fun V (hV : Below w.heap.size w V) => kid_no op n s a len cap x V (he.on hV) h)
  obtain ⟨c0, c1, c2, c3⟩ := (unhide HRA).facts
  clear hB0 he h HRB
  go_enter Tryz.func118, Tryz.ntmps118
  go_wp2_with fail
  refine (unhide h61 _ (unhide HB0)).mono ?_
  rintro e w2 ⟨rfl, hb2⟩
  have HB9 := hide (bt (unhide HB0) hb2 (Nat.le_refl _))
  have HX9 := hide ((unhide HX).below hb2)
  clear hb2 c0 c1 c2 c3
  have hlt : w.heap.size + 1 + 1 < w2.heap.size := lt_of_heap (unhide HX9)
  have hne := Nat.ne_of_lt hlt
  have hne' := Ne.symm hne
  obtain ⟨d0, d1, d2, d3, e0, e1, e2, e3⟩ := (unhide HX9).facts
  go_wp2_with fail
  obtain ⟨f0, f1, f2, f3⟩ := ((RowT.fill (ty := 29) (show RowT 29 w2 (w.heap.size + 1 + 1) 0 0 ByteArray.empty none 0 0 from unhide HX9) 0 0 ⟨#[]⟩ none 0 0).below (ab (.cells #[.int .i64 0, .int .i64 0, .string ByteArray.empty, .slice none 0 0] 29))).facts
  have hS := set4_below (g := w.heap.size + 1 + 1) (x0 := .int .i64 0) (x1 := .int .i64 0) (x2 := .string ⟨#[]⟩) (x3 := .slice none 0 0) (unhide HB9) (by omega)
  exact bodyPost_ret (v := .tuple #[.agg #[.int .i64 0, .int .i64 0, .string ByteArray.empty, .slice none 0 0], .iface 202 (.pointer (some x))]) (by simp [results, Tryz.results118, go_sem, f0, f1, f2, f3]; try rfl) rfl ⟨rfl, hS.alloc hS.size _⟩

set_option maxRecDepth 100000 in
set_option maxHeartbeats 2000000 in
theorem sgnb_no2 (k t : Tm) (n : Int) (s : ByteArray) (b q cap : Nat) (op3 n3 : Int) (s3 : ByteArray) (a3 : Option Addr) (len3 cap3 : Nat) (op2 n2 : Int) (s2 : ByteArray) (a2 : Option Addr) (len2 cap2 : Nat) (x : Addr) (w : World) (he : ErrAt x w) (hk : Lies w 0 k (tmCells op3 n3 s3 a3 len3 cap3)) (hl2 : Lies w 0 t (tmCells op2 n2 s2 a2 len2 cap2)) (hsz : t.size ≤ 2097152) (r0 : w.cell? ⟨b, q, none⟩ = some (.int .i64 op3)) (r1 : w.cell? ⟨b, q + 1, none⟩ = some (.int .i64 n3)) (r2 : w.cell? ⟨b, q + 2, none⟩ = some (.string s3)) (r3 : w.cell? ⟨b, q + 3, none⟩ = some (.slice a3 len3 cap3)) (hb : behO 8 k t = none) :
    Calls Tryz.prog 118 #[.agg #[.int .i64 4, .int .i64 n, .string s, .slice (some ⟨b, q, none⟩) 1 cap], .agg #[.int .i64 op2, .int .i64 n2, .string s2, .slice a2 len2 cap2]] w fun e w' => e = .returned (.tuple #[.agg #[.int .i64 0, .int .i64 0, .string ByteArray.empty, .slice none 0 0], .iface 202 (.pointer (some x))]) ∧ Below w.heap.size w w' := by
  have hB0 : Below w.heap.size w (((w.alloc (.cells #[.int .i64 4, .int .i64 n, .string s, .slice (some ⟨b, q, none⟩) 1 cap] 29)).alloc (.cells #[.int .i64 op2, .int .i64 n2, .string s2, .slice a2 len2 cap2] 29)).alloc (.cells #[.int .i64 0, .int .i64 0, .string ByteArray.empty, .slice none 0 0] 29)) := bt (bt (ab _) (ab _) (Nat.le_refl _)) (ab _) (Nat.le_refl _)
  have HX : Hid (ZBox (((w.alloc (.cells #[.int .i64 4, .int .i64 n, .string s, .slice (some ⟨b, q, none⟩) 1 cap] 29)).alloc (.cells #[.int .i64 op2, .int .i64 n2, .string s2, .slice a2 len2 cap2] 29)).alloc (.cells #[.int .i64 0, .int .i64 0, .string ByteArray.empty, .slice none 0 0] 29)) (w.heap.size + 1 + 1)) := by
    have := ZBox.new ((w.alloc (.cells #[.int .i64 4, .int .i64 n, .string s, .slice (some ⟨b, q, none⟩) 1 cap] 29)).alloc (.cells #[.int .i64 op2, .int .i64 n2, .string s2, .slice a2 len2 cap2] 29))
    rwa [heap_size_alloc, heap_size_alloc] at this
  have HRA : Hid (RowT 29 (((w.alloc (.cells #[.int .i64 4, .int .i64 n, .string s, .slice (some ⟨b, q, none⟩) 1 cap] 29)).alloc (.cells #[.int .i64 op2, .int .i64 n2, .string s2, .slice a2 len2 cap2] 29)).alloc (.cells #[.int .i64 0, .int .i64 0, .string ByteArray.empty, .slice none 0 0] 29)) w.heap.size 4 n s (some ⟨b, q, none⟩) 1 cap) := ((RowT.new 29 w 4 n s (some ⟨b, q, none⟩) 1 cap).below (ab _)).below (ab _)
  have HRB : Hid (RowT 29 (((w.alloc (.cells #[.int .i64 4, .int .i64 n, .string s, .slice (some ⟨b, q, none⟩) 1 cap] 29)).alloc (.cells #[.int .i64 op2, .int .i64 n2, .string s2, .slice a2 len2 cap2] 29)).alloc (.cells #[.int .i64 0, .int .i64 0, .string ByteArray.empty, .slice none 0 0] 29)) (w.heap.size + 1) op2 n2 s2 a2 len2 cap2) := by
    have := (RowT.new 29 (w.alloc (.cells #[.int .i64 4, .int .i64 n, .string s, .slice (some ⟨b, q, none⟩) 1 cap] 29)) op2 n2 s2 a2 len2 cap2).below (ab (.cells #[.int .i64 0, .int .i64 0, .string ByteArray.empty, .slice none 0 0] 29))
    rwa [heap_size_alloc] at this
  have HB0 := hide hB0
  have h61 := hide (fun V (hV : Below w.heap.size w V) => kid_yes n s b q cap op3 n3 s3 a3 len3 cap3 V (kpc hV r0) (kpc hV r1) (kpc hV r2) (kpc hV r3))
  have h131 := hide (fun V (hV : Below w.heap.size w V) => behind_none 8 (by decide) k t op3 n3 s3 a3 len3 cap3 op2 n2 s2 a2 len2 cap2 x V (he.on hV) (hk.below hV) (hl2.below hV) hsz hb)
  obtain ⟨c0, c1, c2, c3⟩ := (unhide HRA).facts
  clear hB0 HRA r0 r1 r2 r3
  go_enter Tryz.func118, Tryz.ntmps118
  go_wp2_with fail
  refine (unhide h61 _ (unhide HB0)).mono ?_
  rintro e w2 ⟨rfl, hb2⟩
  have hb3 := bt hb2 (ab (.cells #[.int .i64 op3, .int .i64 n3, .string s3, .slice a3 len3 cap3] 29)) (Nat.le_refl _)
  have HB2 := hide (bt (unhide HB0) hb3 (Nat.le_refl _))
  have HX2 := hide ((unhide HX).below hb3)
  have HRB2 := hide ((unhide HRB).below hb3)
  have HK2 := hide (RowT.new 29 w2 op3 n3 s3 a3 len3 cap3)
  clear hb2 hb3 c0 c1 c2 c3 HB0 HX HRB
  obtain ⟨c0, c1, c2, c3⟩ := (unhide HRB2).facts
  obtain ⟨d0, d1, d2, d3⟩ := (unhide HK2).facts
  go_wp2_with fail
  refine (unhide h131 _ (unhide HB2)).mono ?_
  rintro e w3 ⟨rfl, hb3⟩
  have HB3 := hide (bt (unhide HB2) hb3 (Nat.le_refl _))
  clear c0 c1 c2 c3 d0 d1 d2 d3
  obtain ⟨d0, d1, d2, d3, e0, e1, e2, e3⟩ := ((unhide HX2).below hb3).facts
  clear hb3
  go_wp2_with fail
  exact bodyPost_ret (v := .tuple #[.agg #[.int .i64 0, .int .i64 0, .string ByteArray.empty, .slice none 0 0], .iface 202 (.pointer (some x))]) (by simp [results, Tryz.results118, go_sem, d0, d1, d2, d3]; try rfl) rfl ⟨rfl, set4_below (unhide HB3) (by omega)⟩

set_option maxRecDepth 100000 in
set_option maxHeartbeats 2000000 in
theorem sgnb_yes (k t : Tm) (n : Int) (s : ByteArray) (b q cap : Nat) (op3 n3 : Int) (s3 : ByteArray) (a3 : Option Addr) (len3 cap3 : Nat) (op2 n2 : Int) (s2 : ByteArray) (a2 : Option Addr) (len2 cap2 : Nat) (x : Addr) (w : World) (he : ErrAt x w) (hk : Lies w 0 k (tmCells op3 n3 s3 a3 len3 cap3)) (hl2 : Lies w 0 t (tmCells op2 n2 s2 a2 len2 cap2)) (hsz : t.size ≤ 2097152) (r0 : w.cell? ⟨b, q, none⟩ = some (.int .i64 op3)) (r1 : w.cell? ⟨b, q + 1, none⟩ = some (.int .i64 n3)) (r2 : w.cell? ⟨b, q + 2, none⟩ = some (.string s3)) (r3 : w.cell? ⟨b, q + 3, none⟩ = some (.slice a3 len3 cap3)) (u : Tm) (hb : behO 8 k t = some u) :
    Calls Tryz.prog 118 #[.agg #[.int .i64 4, .int .i64 n, .string s, .slice (some ⟨b, q, none⟩) 1 cap], .agg #[.int .i64 op2, .int .i64 n2, .string s2, .slice a2 len2 cap2]] w fun e w' => ∃ op4 n4 s4 a4 len4 cap4, e = .returned (.tuple #[.agg #[.int .i64 op4, .int .i64 n4, .string s4, .slice a4 len4 cap4], .nilIface]) ∧ Lies w 0 u (tmCells op4 n4 s4 a4 len4 cap4) ∧ Below w.heap.size w w' := by
  obtain ⟨nt, st, k0, rfl, hok, hsm⟩ := behO_some hb
  obtain ⟨rfl, rfl, rfl, rfl, b2, q2, op5, n5, s5, a5, len5, cap5, op4, n4, s4, a4, len4, cap4, rfl, ⟨y0, y1, y2, y3, hk0⟩, y4, y5, y6, y7, hk1⟩ := lies_kids hl2
  refine Calls.mono (R := fun e w' => e = .returned (.tuple #[.agg #[.int .i64 op4, .int .i64 n4, .string s4, .slice a4 len4 cap4], .nilIface]) ∧ Below w.heap.size w w') ?_ (fun e w' h => ⟨_, _, _, _, _, _, h.1, hk1, h.2⟩)
  have hB0 : Below w.heap.size w (((w.alloc (.cells #[.int .i64 4, .int .i64 n, .string s, .slice (some ⟨b, q, none⟩) 1 cap] 29)).alloc (.cells #[.int .i64 8, .int .i64 n2, .string s2, .slice (some ⟨b2, q2, none⟩) 2 cap2] 29)).alloc (.cells #[.int .i64 0, .int .i64 0, .string ByteArray.empty, .slice none 0 0] 29)) := bt (bt (ab _) (ab _) (Nat.le_refl _)) (ab _) (Nat.le_refl _)
  have HX : Hid (ZBox (((w.alloc (.cells #[.int .i64 4, .int .i64 n, .string s, .slice (some ⟨b, q, none⟩) 1 cap] 29)).alloc (.cells #[.int .i64 8, .int .i64 n2, .string s2, .slice (some ⟨b2, q2, none⟩) 2 cap2] 29)).alloc (.cells #[.int .i64 0, .int .i64 0, .string ByteArray.empty, .slice none 0 0] 29)) (w.heap.size + 1 + 1)) := by
    have := ZBox.new ((w.alloc (.cells #[.int .i64 4, .int .i64 n, .string s, .slice (some ⟨b, q, none⟩) 1 cap] 29)).alloc (.cells #[.int .i64 8, .int .i64 n2, .string s2, .slice (some ⟨b2, q2, none⟩) 2 cap2] 29))
    rwa [heap_size_alloc, heap_size_alloc] at this
  have HRA : Hid (RowT 29 (((w.alloc (.cells #[.int .i64 4, .int .i64 n, .string s, .slice (some ⟨b, q, none⟩) 1 cap] 29)).alloc (.cells #[.int .i64 8, .int .i64 n2, .string s2, .slice (some ⟨b2, q2, none⟩) 2 cap2] 29)).alloc (.cells #[.int .i64 0, .int .i64 0, .string ByteArray.empty, .slice none 0 0] 29)) w.heap.size 4 n s (some ⟨b, q, none⟩) 1 cap) := ((RowT.new 29 w 4 n s (some ⟨b, q, none⟩) 1 cap).below (ab _)).below (ab _)
  have HRB : Hid (RowT 29 (((w.alloc (.cells #[.int .i64 4, .int .i64 n, .string s, .slice (some ⟨b, q, none⟩) 1 cap] 29)).alloc (.cells #[.int .i64 8, .int .i64 n2, .string s2, .slice (some ⟨b2, q2, none⟩) 2 cap2] 29)).alloc (.cells #[.int .i64 0, .int .i64 0, .string ByteArray.empty, .slice none 0 0] 29)) (w.heap.size + 1) 8 n2 s2 (some ⟨b2, q2, none⟩) 2 cap2) := by
    have := (RowT.new 29 (w.alloc (.cells #[.int .i64 4, .int .i64 n, .string s, .slice (some ⟨b, q, none⟩) 1 cap] 29)) 8 n2 s2 (some ⟨b2, q2, none⟩) 2 cap2).below (ab (.cells #[.int .i64 0, .int .i64 0, .string ByteArray.empty, .slice none 0 0] 29))
    rwa [heap_size_alloc] at this
  have HB0 := hide hB0
  have h61 := hide (fun V (hV : Below w.heap.size w V) => kid_yes n s b q cap op3 n3 s3 a3 len3 cap3 V (kpc hV r0) (kpc hV r1) (kpc hV r2) (kpc hV r3))
  have h131 := hide (fun V (hV : Below w.heap.size w V) => behind_yes k k0 u op3 n3 s3 a3 len3 cap3 8 n2 s2 b2 q2 cap2 op5 n5 s5 a5 len5 cap5 op4 n4 s4 a4 len4 cap4 x V (he.on hV) (hk.below hV) (hl2.below hV) hsz hok (kpc hV y0) (kpc hV y1) (kpc hV y2) (kpc hV y3) (hk0.below hV) (kpc hV y4) (kpc hV y5) (kpc hV y6) (kpc hV y7) hsm)
  obtain ⟨c0, c1, c2, c3⟩ := (unhide HRA).facts
  clear hB0 HRA r0 r1 r2 r3
  go_enter Tryz.func118, Tryz.ntmps118
  go_wp2_with fail
  refine (unhide h61 _ (unhide HB0)).mono ?_
  rintro e w2 ⟨rfl, hb2⟩
  have hb3 := bt hb2 (ab (.cells #[.int .i64 op3, .int .i64 n3, .string s3, .slice a3 len3 cap3] 29)) (Nat.le_refl _)
  have HB2 := hide (bt (unhide HB0) hb3 (Nat.le_refl _))
  have HX2 := hide ((unhide HX).below hb3)
  have HRB2 := hide ((unhide HRB).below hb3)
  have HK2 := hide (RowT.new 29 w2 op3 n3 s3 a3 len3 cap3)
  clear hb2 hb3 c0 c1 c2 c3 HB0 HX HRB
  obtain ⟨c0, c1, c2, c3⟩ := (unhide HRB2).facts
  obtain ⟨d0, d1, d2, d3⟩ := (unhide HK2).facts
  go_wp2_with fail
  refine (unhide h131 _ (unhide HB2)).mono ?_
  rintro e w3 ⟨rfl, hb3⟩
  have HB3 := hide (bt (unhide HB2) hb3 (Nat.le_refl _))
  clear c0 c1 c2 c3 d0 d1 d2 d3
  obtain ⟨d0, d1, d2, d3, e0, e1, e2, e3⟩ := ((unhide HX2).below hb3).facts
  clear hb3
  go_wp2_with fail
  exact bodyPost_ret (v := .tuple #[.agg #[.int .i64 op4, .int .i64 n4, .string s4, .slice a4 len4 cap4], .nilIface]) (by simp [results, Tryz.results118, go_sem, d0, d1, d2, d3]; try rfl) rfl ⟨rfl, set4_below (unhide HB3) (by omega)⟩

set_option maxRecDepth 100000 in
set_option maxHeartbeats 2000000 in
theorem signedI_no (op n : Int) (s : ByteArray) (a : Option Addr) (len cap : Nat) (op2 n2 : Int) (s2 : ByteArray) (a2 : Option Addr) (len2 cap2 : Nat) (x : Addr) (w : World) (he : ErrAt x w) (h25 : ∀ V, Below w.heap.size w V → Calls Tryz.prog 118 #[.agg #[.int .i64 op, .int .i64 n, .string s, .slice a len cap], .agg #[.int .i64 op2, .int .i64 n2, .string s2, .slice a2 len2 cap2]] V fun e w' => e = .returned (.tuple #[.agg #[.int .i64 0, .int .i64 0, .string ByteArray.empty, .slice none 0 0], .iface 202 (.pointer (some x))]) ∧ Below V.heap.size V w') :
    Calls Tryz.prog 63 #[.agg #[.int .i64 op, .int .i64 n, .string s, .slice a len cap], .agg #[.int .i64 op2, .int .i64 n2, .string s2, .slice a2 len2 cap2]] w fun e w' => e = .returned (.tuple #[.agg #[.int .i64 0, .int .i64 0, .string ByteArray.empty, .slice none 0 0], .bool false]) ∧ Below w.heap.size w w' := by
  have hB0 : Below w.heap.size w (((w.alloc (.cells #[.int .i64 op, .int .i64 n, .string s, .slice a len cap] 29)).alloc (.cells #[.int .i64 op2, .int .i64 n2, .string s2, .slice a2 len2 cap2] 29)).alloc (.cells #[.int .i64 0, .int .i64 0, .string ByteArray.empty, .slice none 0 0] 29)) := bt (bt (ab _) (ab _) (Nat.le_refl _)) (ab _) (Nat.le_refl _)
  have HX : Hid (ZBox (((w.alloc (.cells #[.int .i64 op, .int .i64 n, .string s, .slice a len cap] 29)).alloc (.cells #[.int .i64 op2, .int .i64 n2, .string s2, .slice a2 len2 cap2] 29)).alloc (.cells #[.int .i64 0, .int .i64 0, .string ByteArray.empty, .slice none 0 0] 29)) (w.heap.size + 1 + 1)) := by
    have := ZBox.new ((w.alloc (.cells #[.int .i64 op, .int .i64 n, .string s, .slice a len cap] 29)).alloc (.cells #[.int .i64 op2, .int .i64 n2, .string s2, .slice a2 len2 cap2] 29))
    rwa [heap_size_alloc, heap_size_alloc] at this
  have HRA : Hid (RowT 29 (((w.alloc (.cells #[.int .i64 op, .int .i64 n, .string s, .slice a len cap] 29)).alloc (.cells #[.int .i64 op2, .int .i64 n2, .string s2, .slice a2 len2 cap2] 29)).alloc (.cells #[.int .i64 0, .int .i64 0, .string ByteArray.empty, .slice none 0 0] 29)) w.heap.size op n s a len cap) := ((RowT.new 29 w op n s a len cap).below (ab _)).below (ab _)
  have HRB : Hid (RowT 29 (((w.alloc (.cells #[.int .i64 op, .int .i64 n, .string s, .slice a len cap] 29)).alloc (.cells #[.int .i64 op2, .int .i64 n2, .string s2, .slice a2 len2 cap2] 29)).alloc (.cells #[.int .i64 0, .int .i64 0, .string ByteArray.empty, .slice none 0 0] 29)) (w.heap.size + 1) op2 n2 s2 a2 len2 cap2) := by
    have := (RowT.new 29 (w.alloc (.cells #[.int .i64 op, .int .i64 n, .string s, .slice a len cap] 29)) op2 n2 s2 a2 len2 cap2).below (ab (.cells #[.int .i64 0, .int .i64 0, .string ByteArray.empty, .slice none 0 0] 29))
    rwa [heap_size_alloc] at this
  have HB0 := hide hB0
  obtain ⟨c0, c1, c2, c3⟩ := (unhide HRA).facts
  obtain ⟨d0, d1, d2, d3⟩ := (unhide HRB).facts
  have H25 := hide h25
  have HER := hide he
  clear h25 he hB0
  go_enter Tryz.func63, Tryz.ntmps63
  go_wp2_with fail
  refine (unhide H25 _ (unhide HB0)).mono ?_
  rintro e w2 ⟨rfl, hb2⟩
  have HB2 := hide (bt (unhide HB0) hb2 (Nat.le_refl _))
  have HX2 := hide ((unhide HX).below hb2)
  have h24 := hide (fun z he => answer_no 0 0 ByteArray.empty none 0 0 x z he)
  clear hb2 HB0 HX c0 c1 c2 c3 d0 d1 d2 d3
  go_wp2_with fail
  refine (unhide h24 _ ((unhide HER).on (unhide HB2))).mono ?_
  rintro e w3 ⟨rfl, hb3⟩
  have HB3 := hide (bt (unhide HB2) hb3 (Nat.le_refl _))
  obtain ⟨d0, d1, d2, d3, e0, e1, e2, e3⟩ := ((unhide HX2).below hb3).facts
  clear hb3
  go_wp2_with fail
  exact bodyPost_ret (v := .tuple #[.agg #[.int .i64 0, .int .i64 0, .string ByteArray.empty, .slice none 0 0], .bool false]) (by simp [results, Tryz.results63, go_sem, d0, d1, d2, d3]; try rfl) rfl ⟨rfl, set4_below (unhide HB3) (by omega)⟩

set_option maxRecDepth 100000 in
set_option maxHeartbeats 2000000 in
theorem signedI_yes (R : Tm) (op n : Int) (s : ByteArray) (a : Option Addr) (len cap : Nat) (op2 n2 : Int) (s2 : ByteArray) (a2 : Option Addr) (len2 cap2 : Nat) (x : Addr) (w : World) (he : ErrAt x w) (hok : okT R = true) (h25 : ∀ V, Below w.heap.size w V → Calls Tryz.prog 118 #[.agg #[.int .i64 op, .int .i64 n, .string s, .slice a len cap], .agg #[.int .i64 op2, .int .i64 n2, .string s2, .slice a2 len2 cap2]] V fun e w' => ∃ op4 n4 s4 a4 len4 cap4, e = .returned (.tuple #[.agg #[.int .i64 op4, .int .i64 n4, .string s4, .slice a4 len4 cap4], .nilIface]) ∧ Lies V 0 R (tmCells op4 n4 s4 a4 len4 cap4) ∧ Below V.heap.size V w') :
    Calls Tryz.prog 63 #[.agg #[.int .i64 op, .int .i64 n, .string s, .slice a len cap], .agg #[.int .i64 op2, .int .i64 n2, .string s2, .slice a2 len2 cap2]] w fun e w' => ∃ op' n' s' a' len' cap', e = .returned (.tuple #[.agg #[.int .i64 op', .int .i64 n', .string s', .slice a' len' cap'], .bool true]) ∧ Lies w' 0 R (tmCells op' n' s' a' len' cap') ∧ Below w.heap.size w w' := by
  have hB0 : Below w.heap.size w (((w.alloc (.cells #[.int .i64 op, .int .i64 n, .string s, .slice a len cap] 29)).alloc (.cells #[.int .i64 op2, .int .i64 n2, .string s2, .slice a2 len2 cap2] 29)).alloc (.cells #[.int .i64 0, .int .i64 0, .string ByteArray.empty, .slice none 0 0] 29)) := bt (bt (ab _) (ab _) (Nat.le_refl _)) (ab _) (Nat.le_refl _)
  have HX : Hid (ZBox (((w.alloc (.cells #[.int .i64 op, .int .i64 n, .string s, .slice a len cap] 29)).alloc (.cells #[.int .i64 op2, .int .i64 n2, .string s2, .slice a2 len2 cap2] 29)).alloc (.cells #[.int .i64 0, .int .i64 0, .string ByteArray.empty, .slice none 0 0] 29)) (w.heap.size + 1 + 1)) := by
    have := ZBox.new ((w.alloc (.cells #[.int .i64 op, .int .i64 n, .string s, .slice a len cap] 29)).alloc (.cells #[.int .i64 op2, .int .i64 n2, .string s2, .slice a2 len2 cap2] 29))
    rwa [heap_size_alloc, heap_size_alloc] at this
  have HRA : Hid (RowT 29 (((w.alloc (.cells #[.int .i64 op, .int .i64 n, .string s, .slice a len cap] 29)).alloc (.cells #[.int .i64 op2, .int .i64 n2, .string s2, .slice a2 len2 cap2] 29)).alloc (.cells #[.int .i64 0, .int .i64 0, .string ByteArray.empty, .slice none 0 0] 29)) w.heap.size op n s a len cap) := ((RowT.new 29 w op n s a len cap).below (ab _)).below (ab _)
  have HRB : Hid (RowT 29 (((w.alloc (.cells #[.int .i64 op, .int .i64 n, .string s, .slice a len cap] 29)).alloc (.cells #[.int .i64 op2, .int .i64 n2, .string s2, .slice a2 len2 cap2] 29)).alloc (.cells #[.int .i64 0, .int .i64 0, .string ByteArray.empty, .slice none 0 0] 29)) (w.heap.size + 1) op2 n2 s2 a2 len2 cap2) := by
    have := (RowT.new 29 (w.alloc (.cells #[.int .i64 op, .int .i64 n, .string s, .slice a len cap] 29)) op2 n2 s2 a2 len2 cap2).below (ab (.cells #[.int .i64 0, .int .i64 0, .string ByteArray.empty, .slice none 0 0] 29))
    rwa [heap_size_alloc] at this
  have HB0 := hide hB0
  obtain ⟨c0, c1, c2, c3⟩ := (unhide HRA).facts
  obtain ⟨d0, d1, d2, d3⟩ := (unhide HRB).facts
  have H25 := hide h25
  have HER := hide he
  have h24 := hide (fun op4 n4 s4 a4 len4 cap4 z hl he => answer_yes R op4 n4 s4 a4 len4 cap4 x z hl (by have := okT_small hok; omega) he)
  clear h25 he hB0 hok
  go_enter Tryz.func63, Tryz.ntmps63
  go_wp2_with fail
  refine (unhide H25 _ (unhide HB0)).mono ?_
  rintro e w2 ⟨op4, n4, s4, a4, len4, cap4, rfl, hR, hb2⟩
  have HLR := hide (hR.below hb2)
  have HB2 := hide (bt (unhide HB0) hb2 (Nat.le_refl _))
  have HX2 := hide ((unhide HX).below hb2)
  have HLT := hide (lt_of_heap (unhide HX2))
  clear hR hb2 HB0 HX c0 c1 c2 c3 d0 d1 d2 d3
  go_wp2_with fail
  refine (unhide h24 _ _ _ _ _ _ _ (unhide HLR) ((unhide HER).on (unhide HB2))).mono ?_
  rintro e w3 ⟨a7, cap7, fp, rfl, hO, ⟨_, hge⟩, hb3⟩
  have HB3 := hide (bt (unhide HB2) hb3 (Nat.le_refl _))
  have HO := hide hO
  have HGE := hide hge
  obtain ⟨d0, d1, d2, d3, e0, e1, e2, e3⟩ := ((unhide HX2).below hb3).facts
  clear hb3 hO hge
  go_wp2_with fail
  exact bodyPost_ret (v := .tuple #[.agg #[.int .i64 op4, .int .i64 n4, .string s4, .slice a7 len4 cap7], .bool true]) (by simp [results, Tryz.results63, go_sem, d0, d1, d2, d3]; try rfl) rfl ⟨_, _, _, _, _, _, rfl, (Own.keep _ _ _ (unhide HO) (fun b hb => set4_heap _ _ _ _ _ _ b (by have := unhide HGE b hb; have := unhide HLT; omega))).lies0, set4_below (unhide HB3) (by omega)⟩

theorem zeroT_last (op n : Int) (s : ByteArray) (a : Tm) : okT (.node op n s [a, .node 0 0 ByteArray.empty []]) = false := by
  cases h : okT (.node op n s [a, .node 0 0 ByteArray.empty []]) with
  | false => rfl
  | true =>
    have := okT_kid h (x := .node 0 0 ByteArray.empty []) (by simp)
    revert this
    decide
theorem made_last (op o : Int) (a : Tm) (ks : List Tm) : madeT op [a, madeT o ks] = madeT op [a, .node o 0 ByteArray.empty ks] := by
  cases h : okT (.node o 0 ByteArray.empty ks) with
  | true => simp only [madeT, h, pickT, if_true]
  | false =>
    have h1 : madeT o ks = .node 0 0 ByteArray.empty [] := by simp [madeT, h, pickT]
    have h2 : okT (.node op 0 ByteArray.empty [a, .node o 0 ByteArray.empty ks]) = false := by
      cases h3 : okT (.node op 0 ByteArray.empty [a, .node o 0 ByteArray.empty ks]) with
      | false => rfl
      | true =>
        rw [okT_kid h3 (x := .node o 0 ByteArray.empty ks) (by simp)] at h
        cases h
    rw [h1]
    simp only [madeT, zeroT_last, h2, pickT, Bool.false_eq_true, if_false]

def replyW : ByteArray := ⟨#[114, 101, 112, 108, 121]⟩
/-- A reply, as it is put together. -/
def replyR (t u key cert sh : Tm) : Tm := twoT (textT replyW) (twoT (madeT 4 [t]) (sealT (keyT sh 0) 0 (twoT cert (madeT 8 [key, bothT u (madeT 4 [t])]))))
theorem reply_made (t u key cert sh : Tm) : madeT 3 [textT replyW, madeT 3 [madeT 4 [t], sealT (keyT sh 0) 0 (madeT 3 [cert, madeT 8 [key, bothT u (madeT 4 [t])]])]] = pickT (okT (replyR t u key cert sh)) (replyR t u key cert sh) := by
  have h1 : ∀ (k : Tm) (m : Int) (c z : Tm), sealT k m (madeT 3 [c, z]) = sealT k m (twoT c z) := fun k m c z => by
    unfold sealT
    rw [made_last 3 3 (numT m) [c, z]]
    rfl
  rw [h1, made_last 3 3]
  rfl

set_option maxRecDepth 100000 in
set_option maxHeartbeats 2000000 in
theorem share_no1 (op n : Int) (s : ByteArray) (a : Option Addr) (len cap : Nat) (op2 n2 : Int) (s2 : ByteArray) (a2 : Option Addr) (len2 cap2 : Nat) (x : Addr) (w : World) (he : ErrAt x w) (h : op2 ≠ 4 ∨ len2 ≠ 1) :
    Calls Tryz.prog 100 #[.agg #[.int .i64 op, .int .i64 n, .string s, .slice a len cap], .agg #[.int .i64 op2, .int .i64 n2, .string s2, .slice a2 len2 cap2]] w fun e w' => e = .returned (.tuple #[.agg #[.int .i64 0, .int .i64 0, .string ByteArray.empty, .slice none 0 0], .iface 202 (.pointer (some x))]) ∧ Below w.heap.size w w' := by
  have hB0 : Below w.heap.size w (((w.alloc (.cells #[.int .i64 op, .int .i64 n, .string s, .slice a len cap] 29)).alloc (.cells #[.int .i64 op2, .int .i64 n2, .string s2, .slice a2 len2 cap2] 29)).alloc (.cells #[.int .i64 0, .int .i64 0, .string ByteArray.empty, .slice none 0 0] 29)) := bt (bt (ab _) (ab _) (Nat.le_refl _)) (ab _) (Nat.le_refl _)
  have HX : Hid (ZBox (((w.alloc (.cells #[.int .i64 op, .int .i64 n, .string s, .slice a len cap] 29)).alloc (.cells #[.int .i64 op2, .int .i64 n2, .string s2, .slice a2 len2 cap2] 29)).alloc (.cells #[.int .i64 0, .int .i64 0, .string ByteArray.empty, .slice none 0 0] 29)) (w.heap.size + 1 + 1)) := by
    have := ZBox.new ((w.alloc (.cells #[.int .i64 op, .int .i64 n, .string s, .slice a len cap] 29)).alloc (.cells #[.int .i64 op2, .int .i64 n2, .string s2, .slice a2 len2 cap2] 29))
    rwa [heap_size_alloc, heap_size_alloc] at this
  have HRA : Hid (RowT 29 (((w.alloc (.cells #[.int .i64 op, .int .i64 n, .string s, .slice a len cap] 29)).alloc (.cells #[.int .i64 op2, .int .i64 n2, .string s2, .slice a2 len2 cap2] 29)).alloc (.cells #[.int .i64 0, .int .i64 0, .string ByteArray.empty, .slice none 0 0] 29)) w.heap.size op n s a len cap) := ((RowT.new 29 w op n s a len cap).below (ab _)).below (ab _)
  have HRB : Hid (RowT 29 (((w.alloc (.cells #[.int .i64 op, .int .i64 n, .string s, .slice a len cap] 29)).alloc (.cells #[.int .i64 op2, .int .i64 n2, .string s2, .slice a2 len2 cap2] 29)).alloc (.cells #[.int .i64 0, .int .i64 0, .string ByteArray.empty, .slice none 0 0] 29)) (w.heap.size + 1) op2 n2 s2 a2 len2 cap2) := by
    have := (RowT.new 29 (w.alloc (.cells #[.int .i64 op, .int .i64 n, .string s, .slice a len cap] 29)) op2 n2 s2 a2 len2 cap2).below (ab (.cells #[.int .i64 0, .int .i64 0, .string ByteArray.empty, .slice none 0 0] 29))
    rwa [heap_size_alloc] at this
  have HB0 := hide hB0
  have h61 := hide (fun V (hV : Below w.heap.size w V) => kid_no op2 n2 s2 a2 len2 cap2 x V (he.on hV) h)
  obtain ⟨c0, c1, c2, c3⟩ := (unhide HRB).facts
  clear hB0 he h
  go_enter Tryz.func100, Tryz.ntmps100
  go_wp2_with fail
  refine (unhide h61 _ (unhide HB0)).mono ?_
  rintro e w2 ⟨rfl, hb2⟩
  have HB9 := hide (bt (unhide HB0) hb2 (Nat.le_refl _))
  have HX9 := hide ((unhide HX).below hb2)
  clear hb2 c0 c1 c2 c3
  have hlt : w.heap.size + 1 + 1 < w2.heap.size := lt_of_heap (unhide HX9)
  have hne := Nat.ne_of_lt hlt
  have hne' := Ne.symm hne
  obtain ⟨d0, d1, d2, d3, e0, e1, e2, e3⟩ := (unhide HX9).facts
  go_wp2_with fail
  obtain ⟨f0, f1, f2, f3⟩ := ((RowT.fill (ty := 29) (show RowT 29 w2 (w.heap.size + 1 + 1) 0 0 ByteArray.empty none 0 0 from unhide HX9) 0 0 ⟨#[]⟩ none 0 0).below (ab (.cells #[.int .i64 0, .int .i64 0, .string ByteArray.empty, .slice none 0 0] 29))).facts
  have hS := set4_below (g := w.heap.size + 1 + 1) (x0 := .int .i64 0) (x1 := .int .i64 0) (x2 := .string ⟨#[]⟩) (x3 := .slice none 0 0) (unhide HB9) (by omega)
  exact bodyPost_ret (v := .tuple #[.agg #[.int .i64 0, .int .i64 0, .string ByteArray.empty, .slice none 0 0], .iface 202 (.pointer (some x))]) (by simp [results, Tryz.results100, go_sem, f0, f1, f2, f3]; try rfl) rfl ⟨rfl, hS.alloc hS.size _⟩

set_option maxRecDepth 100000 in
set_option maxHeartbeats 2000000 in
theorem share_no2 (t k : Tm) (op n : Int) (s : ByteArray) (a : Option Addr) (len cap : Nat) (n2 : Int) (s2 : ByteArray) (b q cap2 : Nat) (op3 n3 : Int) (s3 : ByteArray) (a3 : Option Addr) (len3 cap3 : Nat) (x : Addr) (w : World) (he : ErrAt x w) (hl : Lies w 0 t (tmCells op n s a len cap)) (hk : Lies w 0 k (tmCells op3 n3 s3 a3 len3 cap3)) (hsz : t.size + k.size ≤ 2097140) (r0 : w.cell? ⟨b, q, none⟩ = some (.int .i64 op3)) (r1 : w.cell? ⟨b, q + 1, none⟩ = some (.int .i64 n3)) (r2 : w.cell? ⟨b, q + 2, none⟩ = some (.string s3)) (r3 : w.cell? ⟨b, q + 3, none⟩ = some (.slice a3 len3 cap3)) (hok : okT t = false) :
    Calls Tryz.prog 100 #[.agg #[.int .i64 op, .int .i64 n, .string s, .slice a len cap], .agg #[.int .i64 4, .int .i64 n2, .string s2, .slice (some ⟨b, q, none⟩) 1 cap2]] w fun e w' => e = .returned (.tuple #[.agg #[.int .i64 0, .int .i64 0, .string ByteArray.empty, .slice none 0 0], .iface 202 (.pointer (some x))]) ∧ Below w.heap.size w w' := by
  have hB0 : Below w.heap.size w (((w.alloc (.cells #[.int .i64 op, .int .i64 n, .string s, .slice a len cap] 29)).alloc (.cells #[.int .i64 4, .int .i64 n2, .string s2, .slice (some ⟨b, q, none⟩) 1 cap2] 29)).alloc (.cells #[.int .i64 0, .int .i64 0, .string ByteArray.empty, .slice none 0 0] 29)) := bt (bt (ab _) (ab _) (Nat.le_refl _)) (ab _) (Nat.le_refl _)
  have HX : Hid (ZBox (((w.alloc (.cells #[.int .i64 op, .int .i64 n, .string s, .slice a len cap] 29)).alloc (.cells #[.int .i64 4, .int .i64 n2, .string s2, .slice (some ⟨b, q, none⟩) 1 cap2] 29)).alloc (.cells #[.int .i64 0, .int .i64 0, .string ByteArray.empty, .slice none 0 0] 29)) (w.heap.size + 1 + 1)) := by
    have := ZBox.new ((w.alloc (.cells #[.int .i64 op, .int .i64 n, .string s, .slice a len cap] 29)).alloc (.cells #[.int .i64 4, .int .i64 n2, .string s2, .slice (some ⟨b, q, none⟩) 1 cap2] 29))
    rwa [heap_size_alloc, heap_size_alloc] at this
  have HRA : Hid (RowT 29 (((w.alloc (.cells #[.int .i64 op, .int .i64 n, .string s, .slice a len cap] 29)).alloc (.cells #[.int .i64 4, .int .i64 n2, .string s2, .slice (some ⟨b, q, none⟩) 1 cap2] 29)).alloc (.cells #[.int .i64 0, .int .i64 0, .string ByteArray.empty, .slice none 0 0] 29)) w.heap.size op n s a len cap) := ((RowT.new 29 w op n s a len cap).below (ab _)).below (ab _)
  have HRB : Hid (RowT 29 (((w.alloc (.cells #[.int .i64 op, .int .i64 n, .string s, .slice a len cap] 29)).alloc (.cells #[.int .i64 4, .int .i64 n2, .string s2, .slice (some ⟨b, q, none⟩) 1 cap2] 29)).alloc (.cells #[.int .i64 0, .int .i64 0, .string ByteArray.empty, .slice none 0 0] 29)) (w.heap.size + 1) 4 n2 s2 (some ⟨b, q, none⟩) 1 cap2) := by
    have := (RowT.new 29 (w.alloc (.cells #[.int .i64 op, .int .i64 n, .string s, .slice a len cap] 29)) 4 n2 s2 (some ⟨b, q, none⟩) 1 cap2).below (ab (.cells #[.int .i64 0, .int .i64 0, .string ByteArray.empty, .slice none 0 0] 29))
    rwa [heap_size_alloc] at this
  have HB0 := hide hB0
  have h61 := hide (fun V (hV : Below w.heap.size w V) => kid_yes n2 s2 b q cap2 op3 n3 s3 a3 len3 cap3 V (kpc hV r0) (kpc hV r1) (kpc hV r2) (kpc hV r3))
  have HLT := hide hl
  have HLK := hide hk
  have HER := hide he
  obtain ⟨c0, c1, c2, c3⟩ := (unhide HRB).facts
  have h46 := hide (fun V (hV : Below w.heap.size w V) => checked_no t op n s a len cap x V (hl.below hV) (by omega) hok (he.on hV))
  clear hB0 he hl hk hsz hok r0 r1 r2 r3
  go_enter Tryz.func100, Tryz.ntmps100
  go_wp2_with fail
  refine (unhide h61 _ (unhide HB0)).mono ?_
  rintro e w2 ⟨rfl, hb2⟩
  have hb3 := bt hb2 (ab (.cells #[.int .i64 op3, .int .i64 n3, .string s3, .slice a3 len3 cap3] 29)) (Nat.le_refl _)
  have HB2 := hide (bt (unhide HB0) hb3 (Nat.le_refl _))
  have HX2 := hide ((unhide HX).below hb3)
  have HRA2 := hide ((unhide HRA).below hb3)
  have HK2 := hide (RowT.new 29 w2 op3 n3 s3 a3 len3 cap3)
  have HLTK : Hid (w.heap.size + 1 + 1 < w2.heap.size) := lt_of_heap ((unhide HX).below hb2)
  have HGK : Hid (w2.heap.size < (w2.alloc (.cells #[.int .i64 op3, .int .i64 n3, .string s3, .slice a3 len3 cap3] 29)).heap.size) := by show _ < _; simp
  clear hb2 hb3 c0 c1 c2 c3 HB0 HX HRA HRB
  obtain ⟨c0, c1, c2, c3⟩ := (unhide HRA2).facts
  go_wp2_with fail
  generalize hgw : w2.alloc (.cells #[.int .i64 op3, .int .i64 n3, .string s3, .slice a3 len3 cap3] 29) = W2 at *
  clear hgw
  generalize w2.heap.size = bK at *
  refine (unhide h46 _ (unhide HB2)).mono ?_
  rintro e w3 ⟨rfl, hb3⟩
  have HB9 := hide (bt (unhide HB2) hb3 (Nat.le_refl _))
  have HX9 := hide ((unhide HX2).below hb3)
  clear hb3 c0 c1 c2 c3
  have hlt : w.heap.size + 1 + 1 < w3.heap.size := lt_of_heap (unhide HX9)
  have hne := Nat.ne_of_lt hlt
  have hne' := Ne.symm hne
  obtain ⟨d0, d1, d2, d3, e0, e1, e2, e3⟩ := (unhide HX9).facts
  go_wp2_with fail
  obtain ⟨f0, f1, f2, f3⟩ := ((RowT.fill (ty := 29) (show RowT 29 w3 (w.heap.size + 1 + 1) 0 0 ByteArray.empty none 0 0 from unhide HX9) 0 0 ⟨#[]⟩ none 0 0).below (ab (.cells #[.int .i64 0, .int .i64 0, .string ByteArray.empty, .slice none 0 0] 29))).facts
  have hS := set4_below (g := w.heap.size + 1 + 1) (x0 := .int .i64 0) (x1 := .int .i64 0) (x2 := .string ⟨#[]⟩) (x3 := .slice none 0 0) (unhide HB9) (by omega)
  exact bodyPost_ret (v := .tuple #[.agg #[.int .i64 0, .int .i64 0, .string ByteArray.empty, .slice none 0 0], .iface 202 (.pointer (some x))]) (by simp [results, Tryz.results100, go_sem, f0, f1, f2, f3]; try rfl) rfl ⟨rfl, hS.alloc hS.size _⟩

theorem ZBox.set4 {w : World} {g b : Nat} {x0 x1 x2 x3 : Value} (h : ZBox w g) (hn : g ≠ b) : ZBox ((((w.setCell ⟨b, 0, none⟩ x0).setCell ⟨b, 1, none⟩ x1).setCell ⟨b, 2, none⟩ x2).setCell ⟨b, 3, none⟩ x3) g := (set4_heap w b x0 x1 x2 x3 g hn).trans h

theorem pick200 (x : Tm) : (pickT (okT x) x).size ≤ 200 := by
  unfold pickT
  split
  · rename_i h
    simp only [okT, Bool.and_eq_true, decide_eq_true_eq] at h
    exact h.1
  · simp [Tm.size, Tm.sizes]
theorem made200 (op : Int) (ks : List Tm) : (madeT op ks).size ≤ 200 := pick200 _
theorem agree200 (t u : Tm) : (agreeT t u).size ≤ 200 := by
  obtain ⟨o, n, s, ks⟩ := u
  match ks with
  | [] => simp [agreeT, Tm.size, Tm.sizes]
  | [k] =>
    show (pickT (agreeB t (.node o n s [k])) (shareT t k)).size ≤ 200
    cases h : agreeB t (.node o n s [k]) with
    | true =>
      have h2 : okT (shareT t k) = true := by
        simp only [agreeB, Bool.and_eq_true] at h
        exact h.2
      have := pick200 (shareT t k)
      rwa [h2] at this
    | false => simp [pickT, Tm.size, Tm.sizes]
  | _ :: _ :: _ => simp [agreeT, Tm.size, Tm.sizes]
/-- Whether there is a reply, and which. -/
def replyB (t u ky ce : Tm) : Bool := agreeB t u && okT (replyR t u ky ce (agreeT t u))
def replyT (t u ky ce : Tm) : Tm := pickT (replyB t u ky ce) (replyR t u ky ce (agreeT t u))
theorem replyT200 (t u ky ce : Tm) : (replyT t u ky ce).size ≤ 200 := by
  unfold replyT
  cases h : replyB t u ky ce with
  | false => simp [pickT, Tm.size, Tm.sizes]
  | true =>
    simp only [replyB, Bool.and_eq_true] at h
    have := pick200 (replyR t u ky ce (agreeT t u))
    rwa [h.2] at this
def Tm.opOf' : Tm → Int | .node o _ _ _ => o
theorem pick_op {w : World} {L : Nat} {R : Tm} {op n : Int} {s : ByteArray} {a : Option Addr} {len cap : Nat} (h : Lies w L (pickT (okT R) R) (tmCells op n s a len cap)) (hR : R.opOf' = 3) : (op == 3) = okT R := by
  have h0 := h.any (Nat.zero_le L)
  cases hk : okT R with
  | true =>
    rw [hk] at h0
    obtain ⟨o, m, z, ks⟩ := R
    simp only [pickT, if_true, Lies, tmCells, List.cons.injEq, Value.int.injEq, true_and] at h0
    obtain ⟨_, _, ⟨h1, _⟩, _⟩ := h0
    simp only [Tm.opOf'] at hR
    simp [h1, hR]
  | false =>
    rw [hk] at h0
    simp only [pickT, Bool.false_eq_true, if_false, Lies, tmCells, List.cons.injEq, Value.int.injEq, true_and] at h0
    obtain ⟨_, _, ⟨h1, _⟩, _⟩ := h0
    simp [h1]
/-- What an order of the makings leaves: the box of the answer, which lies in memory; what was there stays. -/
def RpCut (X : Tm) (w2 : World) (p : Value) (wx : World) : Prop := ∃ bW opW nW sW aW lenW capW, p = .pointer (some ⟨bW, 0, none⟩) ∧ RowT 29 wx bW opW nW sW aW lenW capW ∧ Lies wx w2.heap.size X (tmCells opW nW sW aW lenW capW) ∧ w2.heap.size ≤ bW ∧ Below w2.heap.size w2 wx
theorem RpCut.late {X : Tm} {w2 w5 : World} {op n : Int} {s : ByteArray} {a : Option Addr} {len cap : Nat} (hb : Below w2.heap.size w2 w5) (hl : Lies w5 w2.heap.size X (tmCells op n s a len cap)) : RpCut X w2 (.pointer (some ⟨w5.heap.size, 0, none⟩)) (w5.alloc (.cells #[.int .i64 op, .int .i64 n, .string s, .slice a len cap] 29)) :=
  ⟨_, _, _, _, _, _, _, rfl, RowT.new 29 w5 op n s a len cap, hl.below (ab _), hb.size, bt hb (ab _) (Nat.le_refl _)⟩
theorem RpCut.early {X : Tm} {w2 w5 : World} {g L : Nat} {op n : Int} {s : ByteArray} {a : Option Addr} {len cap : Nat} (hb : Below w2.heap.size w2 w5) (hz : ZBox w5 g) (hg : w2.heap.size ≤ g) (hl : Lies w5 L X (tmCells op n s a len cap)) (hL : g < L) (hLL : w2.heap.size ≤ L) :
    RpCut X w2 (.pointer (some ⟨g, 0, none⟩)) ((((w5.setCell ⟨g, 0, none⟩ (.int .i64 op)).setCell ⟨g, 1, none⟩ (.int .i64 n)).setCell ⟨g, 2, none⟩ (.string s)).setCell ⟨g, 3, none⟩ (.slice a len cap)) :=
  ⟨_, _, _, _, _, _, _, rfl, fill26 hz op n s a len cap, set4_lies hl hL _ hLL, hg, set4_below hb hg⟩

end Go.Proofs.YtmklgikbajhcpaaGreatDoor
