
/- What is made of what is made; the walks of impl.kidOfPub and impl.shareOf: the share of a secret and the kid of an open half, or the named error; nothing that was there is written. -/
import Derived.Test.YtacmpodanebglaaGreatDoorG1
import Derived.Test.YtacmpodanebglaaGreatDoorDq
import Derived.Test.YtacmpodanebglaaGreatDoorNw
import Derived.Deep.RegionHeld3
import Derived.Deep.RegionWith
import Derived.Deep.DeepCutAuto
namespace Go.Proofs.YtacmpodanebglaaGreatDoor
open Go.RowKit Go.Deep

theorem zeroT_last (op n : Int) (s : ByteArray) (a : Tm) : okT (.node op n s [a, .node 0 0 ByteArray.empty []]) = false := by
  cases h : okT (.node op n s [a, .node 0 0 ByteArray.empty []]) with
  | false => rfl
  | true =>
    have := okT_kid h (x := .node 0 0 ByteArray.empty []) (by simp)
    revert this
    decide
theorem made_last (op o : Int) (a : Tm) (ks : List Tm) : madeT op [a, madeT o ks] = madeT op [a, .node o 0 ByteArray.empty ks] := by
  cases h : okT (.node o 0 ByteArray.empty ks) with
  | true => simp only [madeT, h, pickT, if_true]
  | false =>
    have h1 : madeT o ks = .node 0 0 ByteArray.empty [] := by simp [madeT, h, pickT]
    have h2 : okT (.node op 0 ByteArray.empty [a, .node o 0 ByteArray.empty ks]) = false := by
      cases h3 : okT (.node op 0 ByteArray.empty [a, .node o 0 ByteArray.empty ks]) with
      | false => rfl
      | true =>
        rw [okT_kid h3 (x := .node o 0 ByteArray.empty ks) (by simp)] at h
        cases h
    rw [h1]
    simp only [madeT, zeroT_last, h2, pickT, Bool.false_eq_true, if_false]

def replyW : ByteArray := ⟨#[114, 101, 112, 108, 121]⟩
/-- A reply, as it is put together. -/
def replyR (t u key cert sh : Tm) : Tm := twoT (textT replyW) (twoT (madeT 4 [t]) (sealT (keyT sh 0) 0 (twoT cert (madeT 8 [key, bothT u (madeT 4 [t])]))))
theorem reply_made (t u key cert sh : Tm) : madeT 3 [textT replyW, madeT 3 [madeT 4 [t], sealT (keyT sh 0) 0 (madeT 3 [cert, madeT 8 [key, bothT u (madeT 4 [t])]])]] = pickT (okT (replyR t u key cert sh)) (replyR t u key cert sh) := by
  have h1 : ∀ (k : Tm) (m : Int) (c z : Tm), sealT k m (madeT 3 [c, z]) = sealT k m (twoT c z) := fun k m c z => by
    unfold sealT
    rw [made_last 3 3 (numT m) [c, z]]
    rfl
  rw [h1, made_last 3 3]
  rfl

set_option maxRecDepth 100000 in
set_option maxHeartbeats 2000000 in
theorem kid_no (op n : Int) (s : ByteArray) (a : Option Addr) (len cap : Nat) (x : Addr) (w : World) (he : ErrAt x w) (h : op ≠ 4 ∨ len ≠ 1) :
    Calls Tryz.prog 61 #[.agg #[.int .i64 op, .int .i64 n, .string s, .slice a len cap]] w fun e w' => e = .returned (.tuple #[.agg #[.int .i64 0, .int .i64 0, .string ByteArray.empty, .slice none 0 0], .iface 133 (.pointer (some x))]) ∧ Below w.heap.size w w' := by
  have hB0 : Below w.heap.size w ((w.alloc (.cells #[.int .i64 op, .int .i64 n, .string s, .slice a len cap] 28)).alloc (.cells #[.int .i64 0, .int .i64 0, .string ByteArray.empty, .slice none 0 0] 28)) := bt (ab _) (ab _) (Nat.le_refl _)
  have HX : Hid (ZBox ((w.alloc (.cells #[.int .i64 op, .int .i64 n, .string s, .slice a len cap] 28)).alloc (.cells #[.int .i64 0, .int .i64 0, .string ByteArray.empty, .slice none 0 0] 28)) (w.heap.size + 1)) := by
    have := ZBox.new (w.alloc (.cells #[.int .i64 op, .int .i64 n, .string s, .slice a len cap] 28))
    rwa [heap_size_alloc] at this
  have HRA : Hid (RowT 28 ((w.alloc (.cells #[.int .i64 op, .int .i64 n, .string s, .slice a len cap] 28)).alloc (.cells #[.int .i64 0, .int .i64 0, .string ByteArray.empty, .slice none 0 0] 28)) w.heap.size op n s a len cap) := (RowT.new 28 w op n s a len cap).below (ab _)
  have g0 := (he.on hB0).cell
  have HB0 := hide hB0
  have hz1 : (w.heap.size + 1 = 0) = False := by simp
  have hz2 : (0 = w.heap.size + 1) = False := by simp
  clear hB0 he
  by_cases h4 : op = 4
  · have h1 : len ≠ 1 := by
      rcases h with h | h
      · exact absurd h4 h
      · exact h
    have q1 : (op != 4) = false := by simpa using h4
    have q2 : (((len : Nat) : Int) != 1) = true := by simp; omega
    clear h h1 h4
    go_enter Tryz.func61, Tryz.ntmps61
    go_wp2_with fail
    generalize hgw : ((w.alloc (.cells #[.int .i64 op, .int .i64 n, .string s, .slice a len cap] 28)).alloc (.cells #[.int .i64 0, .int .i64 0, .string ByteArray.empty, .slice none 0 0] 28)) = W0 at *
    refine gw_world hgw ?_
    clear hgw
    obtain ⟨c0, c1, c2, c3⟩ := (unhide HRA).facts
    obtain ⟨d0, d1, d2, d3, e0, e1, e2, e3⟩ := (unhide HX).facts
    go_region
    all_goals go_wp2_with fail
    all_goals
      exact bodyPost_ret (v := .tuple #[.agg #[.int .i64 0, .int .i64 0, .string ByteArray.empty, .slice none 0 0], .iface 133 (.pointer (some x))]) (by simp [results, Tryz.results61, go_sem, d0, d1, d2, d3]; try rfl) rfl ⟨rfl, set4_below (unhide HB0).drew (by omega)⟩
  · have q1 : (op != 4) = true := by simpa using h4
    clear h h4
    go_enter Tryz.func61, Tryz.ntmps61
    go_wp2_with fail
    generalize hgw : ((w.alloc (.cells #[.int .i64 op, .int .i64 n, .string s, .slice a len cap] 28)).alloc (.cells #[.int .i64 0, .int .i64 0, .string ByteArray.empty, .slice none 0 0] 28)) = W0 at *
    refine gw_world hgw ?_
    clear hgw
    obtain ⟨c0, c1, c2, c3⟩ := (unhide HRA).facts
    obtain ⟨d0, d1, d2, d3, e0, e1, e2, e3⟩ := (unhide HX).facts
    go_region
    all_goals go_wp2_with fail
    all_goals
      exact bodyPost_ret (v := .tuple #[.agg #[.int .i64 0, .int .i64 0, .string ByteArray.empty, .slice none 0 0], .iface 133 (.pointer (some x))]) (by simp [results, Tryz.results61, go_sem, d0, d1, d2, d3]; try rfl) rfl ⟨rfl, set4_below (unhide HB0).drew (by omega)⟩

set_option maxRecDepth 100000 in
set_option maxHeartbeats 2000000 in
theorem kid_yes (n : Int) (s : ByteArray) (b q cap2 : Nat) (op3 n3 : Int) (s3 : ByteArray) (a3 : Option Addr) (len3 cap3 : Nat) (w : World) (r0 : w.cell? ⟨b, q, none⟩ = some (.int .i64 op3)) (r1 : w.cell? ⟨b, q + 1, none⟩ = some (.int .i64 n3)) (r2 : w.cell? ⟨b, q + 2, none⟩ = some (.string s3)) (r3 : w.cell? ⟨b, q + 3, none⟩ = some (.slice a3 len3 cap3)) :
    Calls Tryz.prog 61 #[.agg #[.int .i64 4, .int .i64 n, .string s, .slice (some ⟨b, q, none⟩) 1 cap2]] w fun e w' => e = .returned (.tuple #[.agg #[.int .i64 op3, .int .i64 n3, .string s3, .slice a3 len3 cap3], .nilIface]) ∧ Below w.heap.size w w' := by
  have hB0 : Below w.heap.size w ((w.alloc (.cells #[.int .i64 4, .int .i64 n, .string s, .slice (some ⟨b, q, none⟩) 1 cap2] 28)).alloc (.cells #[.int .i64 0, .int .i64 0, .string ⟨#[]⟩, .slice none 0 0] 28)) := bt (ab _) (ab _) (Nat.le_refl _)
  have HB0 := hide hB0
  have hbl := lt_of_cell r0
  have n1 : b ≠ w.heap.size := by omega
  have n1' := Ne.symm n1
  have n2 : b ≠ w.heap.size + 1 := by omega
  have n2' := Ne.symm n2
  have i0 := kpc hB0 r0
  have i1 := kpc hB0 r1
  have i2 := kpc hB0 r2
  have i3 := kpc hB0 r3
  clear hB0 hbl r0 r1 r2 r3
  go_enter Tryz.func61, Tryz.ntmps61
  go_wp2_with fail
  exact bodyPost_ret (v := .tuple #[.agg #[.int .i64 op3, .int .i64 n3, .string s3, .slice a3 len3 cap3], .nilIface]) (by simp [results, Tryz.results61, go_sem]) rfl ⟨rfl, bt (ab _) (ab _) (Nat.le_refl _)⟩

set_option maxRecDepth 100000 in
set_option maxHeartbeats 2000000 in
theorem share_no1 (op n : Int) (s : ByteArray) (a : Option Addr) (len cap : Nat) (op2 n2 : Int) (s2 : ByteArray) (a2 : Option Addr) (len2 cap2 : Nat) (x : Addr) (w : World) (he : ErrAt x w) (h : op2 ≠ 4 ∨ len2 ≠ 1) :
    Calls Tryz.prog 41 #[.agg #[.int .i64 op, .int .i64 n, .string s, .slice a len cap], .agg #[.int .i64 op2, .int .i64 n2, .string s2, .slice a2 len2 cap2]] w fun e w' => e = .returned (.tuple #[.agg #[.int .i64 0, .int .i64 0, .string ByteArray.empty, .slice none 0 0], .iface 133 (.pointer (some x))]) ∧ Below w.heap.size w w' := by
  have hB0 : Below w.heap.size w (((w.alloc (.cells #[.int .i64 op, .int .i64 n, .string s, .slice a len cap] 28)).alloc (.cells #[.int .i64 op2, .int .i64 n2, .string s2, .slice a2 len2 cap2] 28)).alloc (.cells #[.int .i64 0, .int .i64 0, .string ByteArray.empty, .slice none 0 0] 28)) := bt (bt (ab _) (ab _) (Nat.le_refl _)) (ab _) (Nat.le_refl _)
  have HX : Hid (ZBox (((w.alloc (.cells #[.int .i64 op, .int .i64 n, .string s, .slice a len cap] 28)).alloc (.cells #[.int .i64 op2, .int .i64 n2, .string s2, .slice a2 len2 cap2] 28)).alloc (.cells #[.int .i64 0, .int .i64 0, .string ByteArray.empty, .slice none 0 0] 28)) (w.heap.size + 1 + 1)) := by
    have := ZBox.new ((w.alloc (.cells #[.int .i64 op, .int .i64 n, .string s, .slice a len cap] 28)).alloc (.cells #[.int .i64 op2, .int .i64 n2, .string s2, .slice a2 len2 cap2] 28))
    rwa [heap_size_alloc, heap_size_alloc] at this
  have HRA : Hid (RowT 28 (((w.alloc (.cells #[.int .i64 op, .int .i64 n, .string s, .slice a len cap] 28)).alloc (.cells #[.int .i64 op2, .int .i64 n2, .string s2, .slice a2 len2 cap2] 28)).alloc (.cells #[.int .i64 0, .int .i64 0, .string ByteArray.empty, .slice none 0 0] 28)) w.heap.size op n s a len cap) := ((RowT.new 28 w op n s a len cap).below (ab _)).below (ab _)
  have HRB : Hid (RowT 28 (((w.alloc (.cells #[.int .i64 op, .int .i64 n, .string s, .slice a len cap] 28)).alloc (.cells #[.int .i64 op2, .int .i64 n2, .string s2, .slice a2 len2 cap2] 28)).alloc (.cells #[.int .i64 0, .int .i64 0, .string ByteArray.empty, .slice none 0 0] 28)) (w.heap.size + 1) op2 n2 s2 a2 len2 cap2) := by
    have := (RowT.new 28 (w.alloc (.cells #[.int .i64 op, .int .i64 n, .string s, .slice a len cap] 28)) op2 n2 s2 a2 len2 cap2).below (ab (.cells #[.int .i64 0, .int .i64 0, .string ByteArray.empty, .slice none 0 0] 28))
    rwa [heap_size_alloc] at this
  have HB0 := hide hB0
  have h61 := hide (fun V (hV : Below w.heap.size w V) => kid_no op2 n2 s2 a2 len2 cap2 x V (he.on hV) h)
  obtain ⟨c0, c1, c2, c3⟩ := (unhide HRB).facts
  clear hB0 he h
  go_enter Tryz.func41, Tryz.ntmps41
  go_wp2_with fail
  refine (unhide h61 _ (unhide HB0)).mono ?_
  rintro e w2 ⟨rfl, hb2⟩
  have HB9 := hide (bt (unhide HB0) hb2 (Nat.le_refl _))
  have HX9 := hide ((unhide HX).below hb2)
  clear hb2 c0 c1 c2 c3
  have hlt : w.heap.size + 1 + 1 < w2.heap.size := lt_of_heap (unhide HX9)
  have hne := Nat.ne_of_lt hlt
  have hne' := Ne.symm hne
  obtain ⟨d0, d1, d2, d3, e0, e1, e2, e3⟩ := (unhide HX9).facts
  go_wp2_with fail
  obtain ⟨f0, f1, f2, f3⟩ := ((RowT.fill (ty := 28) (show RowT 28 w2 (w.heap.size + 1 + 1) 0 0 ByteArray.empty none 0 0 from unhide HX9) 0 0 ⟨#[]⟩ none 0 0).below (ab (.cells #[.int .i64 0, .int .i64 0, .string ByteArray.empty, .slice none 0 0] 28))).facts
  have hS := set4_below (g := w.heap.size + 1 + 1) (x0 := .int .i64 0) (x1 := .int .i64 0) (x2 := .string ⟨#[]⟩) (x3 := .slice none 0 0) (unhide HB9) (by omega)
  exact bodyPost_ret (v := .tuple #[.agg #[.int .i64 0, .int .i64 0, .string ByteArray.empty, .slice none 0 0], .iface 133 (.pointer (some x))]) (by simp [results, Tryz.results41, go_sem, f0, f1, f2, f3]; try rfl) rfl ⟨rfl, hS.alloc hS.size _⟩

set_option maxRecDepth 100000 in
set_option maxHeartbeats 2000000 in
theorem share_no2 (t k : Tm) (op n : Int) (s : ByteArray) (a : Option Addr) (len cap : Nat) (n2 : Int) (s2 : ByteArray) (b q cap2 : Nat) (op3 n3 : Int) (s3 : ByteArray) (a3 : Option Addr) (len3 cap3 : Nat) (x : Addr) (w : World) (he : ErrAt x w) (hl : Lies w 0 t (tmCells op n s a len cap)) (hk : Lies w 0 k (tmCells op3 n3 s3 a3 len3 cap3)) (hsz : t.size + k.size ≤ 2097140) (r0 : w.cell? ⟨b, q, none⟩ = some (.int .i64 op3)) (r1 : w.cell? ⟨b, q + 1, none⟩ = some (.int .i64 n3)) (r2 : w.cell? ⟨b, q + 2, none⟩ = some (.string s3)) (r3 : w.cell? ⟨b, q + 3, none⟩ = some (.slice a3 len3 cap3)) (hok : okT t = false) :
    Calls Tryz.prog 41 #[.agg #[.int .i64 op, .int .i64 n, .string s, .slice a len cap], .agg #[.int .i64 4, .int .i64 n2, .string s2, .slice (some ⟨b, q, none⟩) 1 cap2]] w fun e w' => e = .returned (.tuple #[.agg #[.int .i64 0, .int .i64 0, .string ByteArray.empty, .slice none 0 0], .iface 133 (.pointer (some x))]) ∧ Below w.heap.size w w' := by
  have hB0 : Below w.heap.size w (((w.alloc (.cells #[.int .i64 op, .int .i64 n, .string s, .slice a len cap] 28)).alloc (.cells #[.int .i64 4, .int .i64 n2, .string s2, .slice (some ⟨b, q, none⟩) 1 cap2] 28)).alloc (.cells #[.int .i64 0, .int .i64 0, .string ByteArray.empty, .slice none 0 0] 28)) := bt (bt (ab _) (ab _) (Nat.le_refl _)) (ab _) (Nat.le_refl _)
  have HX : Hid (ZBox (((w.alloc (.cells #[.int .i64 op, .int .i64 n, .string s, .slice a len cap] 28)).alloc (.cells #[.int .i64 4, .int .i64 n2, .string s2, .slice (some ⟨b, q, none⟩) 1 cap2] 28)).alloc (.cells #[.int .i64 0, .int .i64 0, .string ByteArray.empty, .slice none 0 0] 28)) (w.heap.size + 1 + 1)) := by
    have := ZBox.new ((w.alloc (.cells #[.int .i64 op, .int .i64 n, .string s, .slice a len cap] 28)).alloc (.cells #[.int .i64 4, .int .i64 n2, .string s2, .slice (some ⟨b, q, none⟩) 1 cap2] 28))
    rwa [heap_size_alloc, heap_size_alloc] at this
  have HRA : Hid (RowT 28 (((w.alloc (.cells #[.int .i64 op, .int .i64 n, .string s, .slice a len cap] 28)).alloc (.cells #[.int .i64 4, .int .i64 n2, .string s2, .slice (some ⟨b, q, none⟩) 1 cap2] 28)).alloc (.cells #[.int .i64 0, .int .i64 0, .string ByteArray.empty, .slice none 0 0] 28)) w.heap.size op n s a len cap) := ((RowT.new 28 w op n s a len cap).below (ab _)).below (ab _)
  have HRB : Hid (RowT 28 (((w.alloc (.cells #[.int .i64 op, .int .i64 n, .string s, .slice a len cap] 28)).alloc (.cells #[.int .i64 4, .int .i64 n2, .string s2, .slice (some ⟨b, q, none⟩) 1 cap2] 28)).alloc (.cells #[.int .i64 0, .int .i64 0, .string ByteArray.empty, .slice none 0 0] 28)) (w.heap.size + 1) 4 n2 s2 (some ⟨b, q, none⟩) 1 cap2) := by
    have := (RowT.new 28 (w.alloc (.cells #[.int .i64 op, .int .i64 n, .string s, .slice a len cap] 28)) 4 n2 s2 (some ⟨b, q, none⟩) 1 cap2).below (ab (.cells #[.int .i64 0, .int .i64 0, .string ByteArray.empty, .slice none 0 0] 28))
    rwa [heap_size_alloc] at this
  have HB0 := hide hB0
  have h61 := hide (fun V (hV : Below w.heap.size w V) => kid_yes n2 s2 b q cap2 op3 n3 s3 a3 len3 cap3 V (kpc hV r0) (kpc hV r1) (kpc hV r2) (kpc hV r3))
  have HLT := hide hl
  have HLK := hide hk
  have HER := hide he
  obtain ⟨c0, c1, c2, c3⟩ := (unhide HRB).facts
  have h46 := hide (fun V (hV : Below w.heap.size w V) => checked_no t op n s a len cap x V (hl.below hV) (by omega) hok (he.on hV))
  clear hB0 he hl hk hsz hok r0 r1 r2 r3
  go_enter Tryz.func41, Tryz.ntmps41
  go_wp2_with fail
  refine (unhide h61 _ (unhide HB0)).mono ?_
  rintro e w2 ⟨rfl, hb2⟩
  have hb3 := bt hb2 (ab (.cells #[.int .i64 op3, .int .i64 n3, .string s3, .slice a3 len3 cap3] 28)) (Nat.le_refl _)
  have HB2 := hide (bt (unhide HB0) hb3 (Nat.le_refl _))
  have HX2 := hide ((unhide HX).below hb3)
  have HRA2 := hide ((unhide HRA).below hb3)
  have HK2 := hide (RowT.new 28 w2 op3 n3 s3 a3 len3 cap3)
  have HLTK : Hid (w.heap.size + 1 + 1 < w2.heap.size) := lt_of_heap ((unhide HX).below hb2)
  have HGK : Hid (w2.heap.size < (w2.alloc (.cells #[.int .i64 op3, .int .i64 n3, .string s3, .slice a3 len3 cap3] 28)).heap.size) := by show _ < _; simp
  clear hb2 hb3 c0 c1 c2 c3 HB0 HX HRA HRB
  obtain ⟨c0, c1, c2, c3⟩ := (unhide HRA2).facts
  go_wp2_with fail
  generalize hgw : w2.alloc (.cells #[.int .i64 op3, .int .i64 n3, .string s3, .slice a3 len3 cap3] 28) = W2 at *
  clear hgw
  generalize w2.heap.size = bK at *
  refine (unhide h46 _ (unhide HB2)).mono ?_
  rintro e w3 ⟨rfl, hb3⟩
  have HB9 := hide (bt (unhide HB2) hb3 (Nat.le_refl _))
  have HX9 := hide ((unhide HX2).below hb3)
  clear hb3 c0 c1 c2 c3
  have hlt : w.heap.size + 1 + 1 < w3.heap.size := lt_of_heap (unhide HX9)
  have hne := Nat.ne_of_lt hlt
  have hne' := Ne.symm hne
  obtain ⟨d0, d1, d2, d3, e0, e1, e2, e3⟩ := (unhide HX9).facts
  go_wp2_with fail
  obtain ⟨f0, f1, f2, f3⟩ := ((RowT.fill (ty := 28) (show RowT 28 w3 (w.heap.size + 1 + 1) 0 0 ByteArray.empty none 0 0 from unhide HX9) 0 0 ⟨#[]⟩ none 0 0).below (ab (.cells #[.int .i64 0, .int .i64 0, .string ByteArray.empty, .slice none 0 0] 28))).facts
  have hS := set4_below (g := w.heap.size + 1 + 1) (x0 := .int .i64 0) (x1 := .int .i64 0) (x2 := .string ⟨#[]⟩) (x3 := .slice none 0 0) (unhide HB9) (by omega)
  exact bodyPost_ret (v := .tuple #[.agg #[.int .i64 0, .int .i64 0, .string ByteArray.empty, .slice none 0 0], .iface 133 (.pointer (some x))]) (by simp [results, Tryz.results41, go_sem, f0, f1, f2, f3]; try rfl) rfl ⟨rfl, hS.alloc hS.size _⟩

theorem ZBox.set4 {w : World} {g b : Nat} {x0 x1 x2 x3 : Value} (h : ZBox w g) (hn : g ≠ b) : ZBox ((((w.setCell ⟨b, 0, none⟩ x0).setCell ⟨b, 1, none⟩ x1).setCell ⟨b, 2, none⟩ x2).setCell ⟨b, 3, none⟩ x3) g := (set4_heap w b x0 x1 x2 x3 g hn).trans h


end Go.Proofs.YtacmpodanebglaaGreatDoor
