/- The walks of spec.Pub and impl.Pub: of whatever term lies in memory they answer its open half where that is right, else the zero term; the second in new blocks of its own; nothing that was there is written. The walks of spec.Sign and impl.Sign: of whatever two terms lie in memory they answer the second signed by the first where that is right, else the zero term; the second in new blocks of its own; nothing that was there is written. The walks of spec.Both and impl.Both: the hash of two terms in a row, where that is right, else the zero term; the second in new blocks of its own; nothing that was there is written. What is made of what is made; the walks of impl.kidOfPub and impl.shareOf: the share of a secret and the kid of an open half, or the named error; nothing that was there is written. The walk of spec.Reply: the reply and true, or zero and false; nothing that was there is written. The walk of impl.shareOf where both are right: the share, in its order, or the named error; nothing that was there is written. The walk of impl.shareOf at whatever two terms: the share, or the named error; what a reply is where the open half is not right. -/
import Derived.Test.YtafoonabmijcdaaGreatDoorHs
import Derived.Test.YtafoonabmijcdaaGreatDoorPr
import Derived.Test.YtafoonabmijcdaaGreatDoorG0
import Derived.Test.YtafoonabmijcdaaGreatDoorKo
import Derived.Deep.RegionHeld3
import Derived.Deep.RegionWith
import Derived.Test.YtafoonabmijcdaaGreatDoorDq
import Derived.Test.YtafoonabmijcdaaGreatDoorNw
import Derived.Deep.DeepCutAuto
namespace Go.Proofs.YtafoonabmijcdaaGreatDoor
open Go.RowKit Go.Deep





/-- What is signed: the hash of the pair of both. -/
def bothT (t u : Tm) : Tm := madeT 6 [madeT 3 [t, u]]

theorem zeroT_bad (op n : Int) (s : ByteArray) : okT (.node op n s [.node 0 0 ByteArray.empty []]) = false := by
  cases h : okT (.node op n s [.node 0 0 ByteArray.empty []]) with
  | false => rfl
  | true =>
    have := okT_kid h (List.mem_singleton.2 rfl)
    revert this
    decide
theorem made_one (op o : Int) (ks : List Tm) : madeT op [madeT o ks] = madeT op [.node o 0 ByteArray.empty ks] := by
  cases h : okT (.node o 0 ByteArray.empty ks) with
  | true => simp only [madeT, h, pickT, if_true]
  | false =>
    have h1 : madeT o ks = .node 0 0 ByteArray.empty [] := by simp [madeT, h, pickT]
    have h2 : okT (.node op 0 ByteArray.empty [.node o 0 ByteArray.empty ks]) = false := by
      cases h3 : okT (.node op 0 ByteArray.empty [.node o 0 ByteArray.empty ks]) with
      | false => rfl
      | true =>
        rw [okT_kid h3 (List.mem_singleton.2 rfl)] at h
        cases h
    rw [h1]
    simp only [madeT, zeroT_bad, h2, pickT, Bool.false_eq_true, if_false]
theorem both_two (t u : Tm) : madeT 6 [twoT t u] = bothT t u := (made_one 6 3 [t, u]).symm

theorem zeroT_last (op n : Int) (s : ByteArray) (a : Tm) : okT (.node op n s [a, .node 0 0 ByteArray.empty []]) = false := by
  cases h : okT (.node op n s [a, .node 0 0 ByteArray.empty []]) with
  | false => rfl
  | true =>
    have := okT_kid h (x := .node 0 0 ByteArray.empty []) (by simp)
    revert this
    decide
theorem made_last (op o : Int) (a : Tm) (ks : List Tm) : madeT op [a, madeT o ks] = madeT op [a, .node o 0 ByteArray.empty ks] := by
  cases h : okT (.node o 0 ByteArray.empty ks) with
  | true => simp only [madeT, h, pickT, if_true]
  | false =>
    have h1 : madeT o ks = .node 0 0 ByteArray.empty [] := by simp [madeT, h, pickT]
    have h2 : okT (.node op 0 ByteArray.empty [a, .node o 0 ByteArray.empty ks]) = false := by
      cases h3 : okT (.node op 0 ByteArray.empty [a, .node o 0 ByteArray.empty ks]) with
      | false => rfl
      | true =>
        rw [okT_kid h3 (x := .node o 0 ByteArray.empty ks) (by simp)] at h
        cases h
    rw [h1]
    simp only [madeT, zeroT_last, h2, pickT, Bool.false_eq_true, if_false]

def replyW : ByteArray := ⟨#[114, 101, 112, 108, 121]⟩
/-- A reply, as it is put together. -/
def replyR (t u key cert sh : Tm) : Tm := twoT (textT replyW) (twoT (madeT 4 [t]) (sealT (keyT sh 0) 0 (twoT cert (madeT 8 [key, bothT u (madeT 4 [t])]))))
theorem reply_made (t u key cert sh : Tm) : madeT 3 [textT replyW, madeT 3 [madeT 4 [t], sealT (keyT sh 0) 0 (madeT 3 [cert, madeT 8 [key, bothT u (madeT 4 [t])]])]] = pickT (okT (replyR t u key cert sh)) (replyR t u key cert sh) := by
  have h1 : ∀ (k : Tm) (m : Int) (c z : Tm), sealT k m (madeT 3 [c, z]) = sealT k m (twoT c z) := fun k m c z => by
    unfold sealT
    rw [made_last 3 3 (numT m) [c, z]]
    rfl
  rw [h1, made_last 3 3]
  rfl

set_option maxRecDepth 100000 in
set_option maxHeartbeats 2000000 in
theorem kid_no (op n : Int) (s : ByteArray) (a : Option Addr) (len cap : Nat) (x : Addr) (w : World) (he : ErrAt x w) (h : op ≠ 4 ∨ len ≠ 1) :
    Calls Tryz.prog 46 #[.agg #[.int .i64 op, .int .i64 n, .string s, .slice a len cap]] w fun e w' => e = .returned (.tuple #[.agg #[.int .i64 0, .int .i64 0, .string ByteArray.empty, .slice none 0 0], .iface 128 (.pointer (some x))]) ∧ Below w.heap.size w w' := by
  have hB0 : Below w.heap.size w ((w.alloc (.cells #[.int .i64 op, .int .i64 n, .string s, .slice a len cap] 28)).alloc (.cells #[.int .i64 0, .int .i64 0, .string ByteArray.empty, .slice none 0 0] 28)) := bt (ab _) (ab _) (Nat.le_refl _)
  have HX : Hid (ZBox ((w.alloc (.cells #[.int .i64 op, .int .i64 n, .string s, .slice a len cap] 28)).alloc (.cells #[.int .i64 0, .int .i64 0, .string ByteArray.empty, .slice none 0 0] 28)) (w.heap.size + 1)) := by
    have := ZBox.new (w.alloc (.cells #[.int .i64 op, .int .i64 n, .string s, .slice a len cap] 28))
    rwa [heap_size_alloc] at this
  have HRA : Hid (RowT 28 ((w.alloc (.cells #[.int .i64 op, .int .i64 n, .string s, .slice a len cap] 28)).alloc (.cells #[.int .i64 0, .int .i64 0, .string ByteArray.empty, .slice none 0 0] 28)) w.heap.size op n s a len cap) := (RowT.new 28 w op n s a len cap).below (ab _)
  have g0 := (he.on hB0).cell
  have HB0 := hide hB0
  have hz1 : (w.heap.size + 1 = 0) = False := by simp
  have hz2 : (0 = w.heap.size + 1) = False := by simp
  clear hB0 he
  by_cases h4 : op = 4
  · have h1 : len ≠ 1 := by
      rcases h with h | h
      · exact absurd h4 h
      · exact h
    have q1 : (op != 4) = false := by simpa using h4
    have q2 : (((len : Nat) : Int) != 1) = true := by simp; omega
    clear h h1 h4
    go_enter Tryz.func46, Tryz.ntmps46
    go_wp2_with fail
    generalize hgw : ((w.alloc (.cells #[.int .i64 op, .int .i64 n, .string s, .slice a len cap] 28)).alloc (.cells #[.int .i64 0, .int .i64 0, .string ByteArray.empty, .slice none 0 0] 28)) = W0 at *
    refine gw_world hgw ?_
    clear hgw
    obtain ⟨c0, c1, c2, c3⟩ := (unhide HRA).facts
    obtain ⟨d0, d1, d2, d3, e0, e1, e2, e3⟩ := (unhide HX).facts
    go_region
    all_goals go_wp2_with fail
    all_goals
      exact bodyPost_ret (v := .tuple #[.agg #[.int .i64 0, .int .i64 0, .string ByteArray.empty, .slice none 0 0], .iface 128 (.pointer (some x))]) (by simp [results, Tryz.results46, go_sem, d0, d1, d2, d3]; try rfl) rfl ⟨rfl, set4_below (unhide HB0).drew (by omega)⟩
  · have q1 : (op != 4) = true := by simpa using h4
    clear h h4
    go_enter Tryz.func46, Tryz.ntmps46
    go_wp2_with fail
    generalize hgw : ((w.alloc (.cells #[.int .i64 op, .int .i64 n, .string s, .slice a len cap] 28)).alloc (.cells #[.int .i64 0, .int .i64 0, .string ByteArray.empty, .slice none 0 0] 28)) = W0 at *
    refine gw_world hgw ?_
    clear hgw
    obtain ⟨c0, c1, c2, c3⟩ := (unhide HRA).facts
    obtain ⟨d0, d1, d2, d3, e0, e1, e2, e3⟩ := (unhide HX).facts
    go_region
    all_goals go_wp2_with fail
    all_goals
      exact bodyPost_ret (v := .tuple #[.agg #[.int .i64 0, .int .i64 0, .string ByteArray.empty, .slice none 0 0], .iface 128 (.pointer (some x))]) (by simp [results, Tryz.results46, go_sem, d0, d1, d2, d3]; try rfl) rfl ⟨rfl, set4_below (unhide HB0).drew (by omega)⟩

set_option maxRecDepth 100000 in
set_option maxHeartbeats 2000000 in
theorem kid_yes (n : Int) (s : ByteArray) (b q cap2 : Nat) (op3 n3 : Int) (s3 : ByteArray) (a3 : Option Addr) (len3 cap3 : Nat) (w : World) (r0 : w.cell? ⟨b, q, none⟩ = some (.int .i64 op3)) (r1 : w.cell? ⟨b, q + 1, none⟩ = some (.int .i64 n3)) (r2 : w.cell? ⟨b, q + 2, none⟩ = some (.string s3)) (r3 : w.cell? ⟨b, q + 3, none⟩ = some (.slice a3 len3 cap3)) :
    Calls Tryz.prog 46 #[.agg #[.int .i64 4, .int .i64 n, .string s, .slice (some ⟨b, q, none⟩) 1 cap2]] w fun e w' => e = .returned (.tuple #[.agg #[.int .i64 op3, .int .i64 n3, .string s3, .slice a3 len3 cap3], .nilIface]) ∧ Below w.heap.size w w' := by
  have hB0 : Below w.heap.size w ((w.alloc (.cells #[.int .i64 4, .int .i64 n, .string s, .slice (some ⟨b, q, none⟩) 1 cap2] 28)).alloc (.cells #[.int .i64 0, .int .i64 0, .string ⟨#[]⟩, .slice none 0 0] 28)) := bt (ab _) (ab _) (Nat.le_refl _)
  have HB0 := hide hB0
  have hbl := lt_of_cell r0
  have n1 : b ≠ w.heap.size := by omega
  have n1' := Ne.symm n1
  have n2 : b ≠ w.heap.size + 1 := by omega
  have n2' := Ne.symm n2
  have i0 := kpc hB0 r0
  have i1 := kpc hB0 r1
  have i2 := kpc hB0 r2
  have i3 := kpc hB0 r3
  clear hB0 hbl r0 r1 r2 r3
  go_enter Tryz.func46, Tryz.ntmps46
  go_wp2_with fail
  exact bodyPost_ret (v := .tuple #[.agg #[.int .i64 op3, .int .i64 n3, .string s3, .slice a3 len3 cap3], .nilIface]) (by simp [results, Tryz.results46, go_sem]) rfl ⟨rfl, bt (ab _) (ab _) (Nat.le_refl _)⟩

set_option maxRecDepth 100000 in
set_option maxHeartbeats 2000000 in
theorem share_no1 (op n : Int) (s : ByteArray) (a : Option Addr) (len cap : Nat) (op2 n2 : Int) (s2 : ByteArray) (a2 : Option Addr) (len2 cap2 : Nat) (x : Addr) (w : World) (he : ErrAt x w) (h : op2 ≠ 4 ∨ len2 ≠ 1) :
    Calls Tryz.prog 34 #[.agg #[.int .i64 op, .int .i64 n, .string s, .slice a len cap], .agg #[.int .i64 op2, .int .i64 n2, .string s2, .slice a2 len2 cap2]] w fun e w' => e = .returned (.tuple #[.agg #[.int .i64 0, .int .i64 0, .string ByteArray.empty, .slice none 0 0], .iface 128 (.pointer (some x))]) ∧ Below w.heap.size w w' := by
  have hB0 : Below w.heap.size w (((w.alloc (.cells #[.int .i64 op, .int .i64 n, .string s, .slice a len cap] 28)).alloc (.cells #[.int .i64 op2, .int .i64 n2, .string s2, .slice a2 len2 cap2] 28)).alloc (.cells #[.int .i64 0, .int .i64 0, .string ByteArray.empty, .slice none 0 0] 28)) := bt (bt (ab _) (ab _) (Nat.le_refl _)) (ab _) (Nat.le_refl _)
  have HX : Hid (ZBox (((w.alloc (.cells #[.int .i64 op, .int .i64 n, .string s, .slice a len cap] 28)).alloc (.cells #[.int .i64 op2, .int .i64 n2, .string s2, .slice a2 len2 cap2] 28)).alloc (.cells #[.int .i64 0, .int .i64 0, .string ByteArray.empty, .slice none 0 0] 28)) (w.heap.size + 1 + 1)) := by
    have := ZBox.new ((w.alloc (.cells #[.int .i64 op, .int .i64 n, .string s, .slice a len cap] 28)).alloc (.cells #[.int .i64 op2, .int .i64 n2, .string s2, .slice a2 len2 cap2] 28))
    rwa [heap_size_alloc, heap_size_alloc] at this
  have HRA : Hid (RowT 28 (((w.alloc (.cells #[.int .i64 op, .int .i64 n, .string s, .slice a len cap] 28)).alloc (.cells #[.int .i64 op2, .int .i64 n2, .string s2, .slice a2 len2 cap2] 28)).alloc (.cells #[.int .i64 0, .int .i64 0, .string ByteArray.empty, .slice none 0 0] 28)) w.heap.size op n s a len cap) := ((RowT.new 28 w op n s a len cap).below (ab _)).below (ab _)
  have HRB : Hid (RowT 28 (((w.alloc (.cells #[.int .i64 op, .int .i64 n, .string s, .slice a len cap] 28)).alloc (.cells #[.int .i64 op2, .int .i64 n2, .string s2, .slice a2 len2 cap2] 28)).alloc (.cells #[.int .i64 0, .int .i64 0, .string ByteArray.empty, .slice none 0 0] 28)) (w.heap.size + 1) op2 n2 s2 a2 len2 cap2) := by
    have := (RowT.new 28 (w.alloc (.cells #[.int .i64 op, .int .i64 n, .string s, .slice a len cap] 28)) op2 n2 s2 a2 len2 cap2).below (ab (.cells #[.int .i64 0, .int .i64 0, .string ByteArray.empty, .slice none 0 0] 28))
    rwa [heap_size_alloc] at this
  have HB0 := hide hB0
  have h61 := hide (fun V (hV : Below w.heap.size w V) => kid_no op2 n2 s2 a2 len2 cap2 x V (he.on hV) h)
  obtain ⟨c0, c1, c2, c3⟩ := (unhide HRB).facts
  clear hB0 he h
  go_enter Tryz.func34, Tryz.ntmps34
  go_wp2_with fail
  refine (unhide h61 _ (unhide HB0)).mono ?_
  rintro e w2 ⟨rfl, hb2⟩
  have HB9 := hide (bt (unhide HB0) hb2 (Nat.le_refl _))
  have HX9 := hide ((unhide HX).below hb2)
  clear hb2 c0 c1 c2 c3
  have hlt : w.heap.size + 1 + 1 < w2.heap.size := lt_of_heap (unhide HX9)
  have hne := Nat.ne_of_lt hlt
  have hne' := Ne.symm hne
  obtain ⟨d0, d1, d2, d3, e0, e1, e2, e3⟩ := (unhide HX9).facts
  go_wp2_with fail
  obtain ⟨f0, f1, f2, f3⟩ := ((RowT.fill (ty := 28) (show RowT 28 w2 (w.heap.size + 1 + 1) 0 0 ByteArray.empty none 0 0 from unhide HX9) 0 0 ⟨#[]⟩ none 0 0).below (ab (.cells #[.int .i64 0, .int .i64 0, .string ByteArray.empty, .slice none 0 0] 28))).facts
  have hS := set4_below (g := w.heap.size + 1 + 1) (x0 := .int .i64 0) (x1 := .int .i64 0) (x2 := .string ⟨#[]⟩) (x3 := .slice none 0 0) (unhide HB9) (by omega)
  exact bodyPost_ret (v := .tuple #[.agg #[.int .i64 0, .int .i64 0, .string ByteArray.empty, .slice none 0 0], .iface 128 (.pointer (some x))]) (by simp [results, Tryz.results34, go_sem, f0, f1, f2, f3]; try rfl) rfl ⟨rfl, hS.alloc hS.size _⟩

set_option maxRecDepth 100000 in
set_option maxHeartbeats 2000000 in
theorem share_no2 (t k : Tm) (op n : Int) (s : ByteArray) (a : Option Addr) (len cap : Nat) (n2 : Int) (s2 : ByteArray) (b q cap2 : Nat) (op3 n3 : Int) (s3 : ByteArray) (a3 : Option Addr) (len3 cap3 : Nat) (x : Addr) (w : World) (he : ErrAt x w) (hl : Lies w 0 t (tmCells op n s a len cap)) (hk : Lies w 0 k (tmCells op3 n3 s3 a3 len3 cap3)) (hsz : t.size + k.size ≤ 2097140) (r0 : w.cell? ⟨b, q, none⟩ = some (.int .i64 op3)) (r1 : w.cell? ⟨b, q + 1, none⟩ = some (.int .i64 n3)) (r2 : w.cell? ⟨b, q + 2, none⟩ = some (.string s3)) (r3 : w.cell? ⟨b, q + 3, none⟩ = some (.slice a3 len3 cap3)) (hok : okT t = false) :
    Calls Tryz.prog 34 #[.agg #[.int .i64 op, .int .i64 n, .string s, .slice a len cap], .agg #[.int .i64 4, .int .i64 n2, .string s2, .slice (some ⟨b, q, none⟩) 1 cap2]] w fun e w' => e = .returned (.tuple #[.agg #[.int .i64 0, .int .i64 0, .string ByteArray.empty, .slice none 0 0], .iface 128 (.pointer (some x))]) ∧ Below w.heap.size w w' := by
  have hB0 : Below w.heap.size w (((w.alloc (.cells #[.int .i64 op, .int .i64 n, .string s, .slice a len cap] 28)).alloc (.cells #[.int .i64 4, .int .i64 n2, .string s2, .slice (some ⟨b, q, none⟩) 1 cap2] 28)).alloc (.cells #[.int .i64 0, .int .i64 0, .string ByteArray.empty, .slice none 0 0] 28)) := bt (bt (ab _) (ab _) (Nat.le_refl _)) (ab _) (Nat.le_refl _)
  have HX : Hid (ZBox (((w.alloc (.cells #[.int .i64 op, .int .i64 n, .string s, .slice a len cap] 28)).alloc (.cells #[.int .i64 4, .int .i64 n2, .string s2, .slice (some ⟨b, q, none⟩) 1 cap2] 28)).alloc (.cells #[.int .i64 0, .int .i64 0, .string ByteArray.empty, .slice none 0 0] 28)) (w.heap.size + 1 + 1)) := by
    have := ZBox.new ((w.alloc (.cells #[.int .i64 op, .int .i64 n, .string s, .slice a len cap] 28)).alloc (.cells #[.int .i64 4, .int .i64 n2, .string s2, .slice (some ⟨b, q, none⟩) 1 cap2] 28))
    rwa [heap_size_alloc, heap_size_alloc] at this
  have HRA : Hid (RowT 28 (((w.alloc (.cells #[.int .i64 op, .int .i64 n, .string s, .slice a len cap] 28)).alloc (.cells #[.int .i64 4, .int .i64 n2, .string s2, .slice (some ⟨b, q, none⟩) 1 cap2] 28)).alloc (.cells #[.int .i64 0, .int .i64 0, .string ByteArray.empty, .slice none 0 0] 28)) w.heap.size op n s a len cap) := ((RowT.new 28 w op n s a len cap).below (ab _)).below (ab _)
  have HRB : Hid (RowT 28 (((w.alloc (.cells #[.int .i64 op, .int .i64 n, .string s, .slice a len cap] 28)).alloc (.cells #[.int .i64 4, .int .i64 n2, .string s2, .slice (some ⟨b, q, none⟩) 1 cap2] 28)).alloc (.cells #[.int .i64 0, .int .i64 0, .string ByteArray.empty, .slice none 0 0] 28)) (w.heap.size + 1) 4 n2 s2 (some ⟨b, q, none⟩) 1 cap2) := by
    have := (RowT.new 28 (w.alloc (.cells #[.int .i64 op, .int .i64 n, .string s, .slice a len cap] 28)) 4 n2 s2 (some ⟨b, q, none⟩) 1 cap2).below (ab (.cells #[.int .i64 0, .int .i64 0, .string ByteArray.empty, .slice none 0 0] 28))
    rwa [heap_size_alloc] at this
  have HB0 := hide hB0
  have h61 := hide (fun V (hV : Below w.heap.size w V) => kid_yes n2 s2 b q cap2 op3 n3 s3 a3 len3 cap3 V (kpc hV r0) (kpc hV r1) (kpc hV r2) (kpc hV r3))
  have HLT := hide hl
  have HLK := hide hk
  have HER := hide he
  obtain ⟨c0, c1, c2, c3⟩ := (unhide HRB).facts
  have h46 := hide (fun V (hV : Below w.heap.size w V) => checked_no t op n s a len cap x V (hl.below hV) (by omega) hok (he.on hV))
  clear hB0 he hl hk hsz hok r0 r1 r2 r3
  go_enter Tryz.func34, Tryz.ntmps34
  go_wp2_with fail
  refine (unhide h61 _ (unhide HB0)).mono ?_
  rintro e w2 ⟨rfl, hb2⟩
  have hb3 := bt hb2 (ab (.cells #[.int .i64 op3, .int .i64 n3, .string s3, .slice a3 len3 cap3] 28)) (Nat.le_refl _)
  have HB2 := hide (bt (unhide HB0) hb3 (Nat.le_refl _))
  have HX2 := hide ((unhide HX).below hb3)
  have HRA2 := hide ((unhide HRA).below hb3)
  have HK2 := hide (RowT.new 28 w2 op3 n3 s3 a3 len3 cap3)
  have HLTK : Hid (w.heap.size + 1 + 1 < w2.heap.size) := lt_of_heap ((unhide HX).below hb2)
  have HGK : Hid (w2.heap.size < (w2.alloc (.cells #[.int .i64 op3, .int .i64 n3, .string s3, .slice a3 len3 cap3] 28)).heap.size) := by show _ < _; simp
  clear hb2 hb3 c0 c1 c2 c3 HB0 HX HRA HRB
  obtain ⟨c0, c1, c2, c3⟩ := (unhide HRA2).facts
  go_wp2_with fail
  generalize hgw : w2.alloc (.cells #[.int .i64 op3, .int .i64 n3, .string s3, .slice a3 len3 cap3] 28) = W2 at *
  clear hgw
  generalize w2.heap.size = bK at *
  refine (unhide h46 _ (unhide HB2)).mono ?_
  rintro e w3 ⟨rfl, hb3⟩
  have HB9 := hide (bt (unhide HB2) hb3 (Nat.le_refl _))
  have HX9 := hide ((unhide HX2).below hb3)
  clear hb3 c0 c1 c2 c3
  have hlt : w.heap.size + 1 + 1 < w3.heap.size := lt_of_heap (unhide HX9)
  have hne := Nat.ne_of_lt hlt
  have hne' := Ne.symm hne
  obtain ⟨d0, d1, d2, d3, e0, e1, e2, e3⟩ := (unhide HX9).facts
  go_wp2_with fail
  obtain ⟨f0, f1, f2, f3⟩ := ((RowT.fill (ty := 28) (show RowT 28 w3 (w.heap.size + 1 + 1) 0 0 ByteArray.empty none 0 0 from unhide HX9) 0 0 ⟨#[]⟩ none 0 0).below (ab (.cells #[.int .i64 0, .int .i64 0, .string ByteArray.empty, .slice none 0 0] 28))).facts
  have hS := set4_below (g := w.heap.size + 1 + 1) (x0 := .int .i64 0) (x1 := .int .i64 0) (x2 := .string ⟨#[]⟩) (x3 := .slice none 0 0) (unhide HB9) (by omega)
  exact bodyPost_ret (v := .tuple #[.agg #[.int .i64 0, .int .i64 0, .string ByteArray.empty, .slice none 0 0], .iface 128 (.pointer (some x))]) (by simp [results, Tryz.results34, go_sem, f0, f1, f2, f3]; try rfl) rfl ⟨rfl, hS.alloc hS.size _⟩

theorem ZBox.set4 {w : World} {g b : Nat} {x0 x1 x2 x3 : Value} (h : ZBox w g) (hn : g ≠ b) : ZBox ((((w.setCell ⟨b, 0, none⟩ x0).setCell ⟨b, 1, none⟩ x1).setCell ⟨b, 2, none⟩ x2).setCell ⟨b, 3, none⟩ x3) g := (set4_heap w b x0 x1 x2 x3 g hn).trans h

theorem pick200 (x : Tm) : (pickT (okT x) x).size ≤ 200 := by
  unfold pickT
  split
  · rename_i h
    simp only [okT, Bool.and_eq_true, decide_eq_true_eq] at h
    exact h.1
  · simp [Tm.size, Tm.sizes]
theorem made200 (op : Int) (ks : List Tm) : (madeT op ks).size ≤ 200 := pick200 _
theorem agree200 (t u : Tm) : (agreeT t u).size ≤ 200 := by
  obtain ⟨o, n, s, ks⟩ := u
  match ks with
  | [] => simp [agreeT, Tm.size, Tm.sizes]
  | [k] =>
    show (pickT (agreeB t (.node o n s [k])) (shareT t k)).size ≤ 200
    cases h : agreeB t (.node o n s [k]) with
    | true =>
      have h2 : okT (shareT t k) = true := by
        simp only [agreeB, Bool.and_eq_true] at h
        exact h.2
      have := pick200 (shareT t k)
      rwa [h2] at this
    | false => simp [pickT, Tm.size, Tm.sizes]
  | _ :: _ :: _ => simp [agreeT, Tm.size, Tm.sizes]
/-- Whether there is a reply, and which. -/
def replyB (t u ky ce : Tm) : Bool := agreeB t u && okT (replyR t u ky ce (agreeT t u))
def replyT (t u ky ce : Tm) : Tm := pickT (replyB t u ky ce) (replyR t u ky ce (agreeT t u))
theorem replyT200 (t u ky ce : Tm) : (replyT t u ky ce).size ≤ 200 := by
  unfold replyT
  cases h : replyB t u ky ce with
  | false => simp [pickT, Tm.size, Tm.sizes]
  | true =>
    simp only [replyB, Bool.and_eq_true] at h
    have := pick200 (replyR t u ky ce (agreeT t u))
    rwa [h.2] at this
def Tm.opOf' : Tm → Int | .node o _ _ _ => o
theorem pick_op {w : World} {L : Nat} {R : Tm} {op n : Int} {s : ByteArray} {a : Option Addr} {len cap : Nat} (h : Lies w L (pickT (okT R) R) (tmCells op n s a len cap)) (hR : R.opOf' = 3) : (op == 3) = okT R := by
  have h0 := h.any (Nat.zero_le L)
  cases hk : okT R with
  | true =>
    rw [hk] at h0
    obtain ⟨o, m, z, ks⟩ := R
    simp only [pickT, if_true, Lies, tmCells, List.cons.injEq, Value.int.injEq, true_and] at h0
    obtain ⟨_, _, ⟨h1, _⟩, _⟩ := h0
    simp only [Tm.opOf'] at hR
    simp [h1, hR]
  | false =>
    rw [hk] at h0
    simp only [pickT, Bool.false_eq_true, if_false, Lies, tmCells, List.cons.injEq, Value.int.injEq, true_and] at h0
    obtain ⟨_, _, ⟨h1, _⟩, _⟩ := h0
    simp [h1]
/-- What an order of the makings leaves: the box of the answer, which lies in memory; what was there stays. -/
def RpCut (X : Tm) (w2 : World) (p : Value) (wx : World) : Prop := ∃ bW opW nW sW aW lenW capW, p = .pointer (some ⟨bW, 0, none⟩) ∧ RowT 28 wx bW opW nW sW aW lenW capW ∧ Lies wx w2.heap.size X (tmCells opW nW sW aW lenW capW) ∧ w2.heap.size ≤ bW ∧ Below w2.heap.size w2 wx
theorem RpCut.late {X : Tm} {w2 w5 : World} {op n : Int} {s : ByteArray} {a : Option Addr} {len cap : Nat} (hb : Below w2.heap.size w2 w5) (hl : Lies w5 w2.heap.size X (tmCells op n s a len cap)) : RpCut X w2 (.pointer (some ⟨w5.heap.size, 0, none⟩)) (w5.alloc (.cells #[.int .i64 op, .int .i64 n, .string s, .slice a len cap] 28)) :=
  ⟨_, _, _, _, _, _, _, rfl, RowT.new 28 w5 op n s a len cap, hl.below (ab _), hb.size, bt hb (ab _) (Nat.le_refl _)⟩
theorem RpCut.early {X : Tm} {w2 w5 : World} {g L : Nat} {op n : Int} {s : ByteArray} {a : Option Addr} {len cap : Nat} (hb : Below w2.heap.size w2 w5) (hz : ZBox w5 g) (hg : w2.heap.size ≤ g) (hl : Lies w5 L X (tmCells op n s a len cap)) (hL : g < L) (hLL : w2.heap.size ≤ L) :
    RpCut X w2 (.pointer (some ⟨g, 0, none⟩)) ((((w5.setCell ⟨g, 0, none⟩ (.int .i64 op)).setCell ⟨g, 1, none⟩ (.int .i64 n)).setCell ⟨g, 2, none⟩ (.string s)).setCell ⟨g, 3, none⟩ (.slice a len cap)) :=
  ⟨_, _, _, _, _, _, _, rfl, fill26 hz op n s a len cap, set4_lies hl hL _ hLL, hg, set4_below hb hg⟩

set_option maxRecDepth 100000 in
set_option maxHeartbeats 2000000 in
theorem share_no3_a (t k : Tm) (op n : Int) (s : ByteArray) (a : Option Addr) (len cap : Nat) (n2 : Int) (s2 : ByteArray) (b q cap2 : Nat) (op3 n3 : Int) (s3 : ByteArray) (a3 : Option Addr) (len3 cap3 : Nat) (x : Addr) (w : World) (he : ErrAt x w) (hl : Lies w 0 t (tmCells op n s a len cap)) (hk : Lies w 0 k (tmCells op3 n3 s3 a3 len3 cap3)) (hsz : t.size + k.size ≤ 2097140) (r0 : w.cell? ⟨b, q, none⟩ = some (.int .i64 op3)) (r1 : w.cell? ⟨b, q + 1, none⟩ = some (.int .i64 n3)) (r2 : w.cell? ⟨b, q + 2, none⟩ = some (.string s3)) (r3 : w.cell? ⟨b, q + 3, none⟩ = some (.slice a3 len3 cap3)) (hok : okT t = true) (hbf : beforeB k t = false) (hsh : okT (Tm.node 5 0 ByteArray.empty [t, k]) = false) :
    Calls Tryz.prog 34 #[.agg #[.int .i64 op, .int .i64 n, .string s, .slice a len cap], .agg #[.int .i64 4, .int .i64 n2, .string s2, .slice (some ⟨b, q, none⟩) 1 cap2]] w fun e w' => e = .returned (.tuple #[.agg #[.int .i64 0, .int .i64 0, .string ByteArray.empty, .slice none 0 0], .iface 128 (.pointer (some x))]) ∧ Below w.heap.size w w' := by
  have hB0 : Below w.heap.size w (((w.alloc (.cells #[.int .i64 op, .int .i64 n, .string s, .slice a len cap] 28)).alloc (.cells #[.int .i64 4, .int .i64 n2, .string s2, .slice (some ⟨b, q, none⟩) 1 cap2] 28)).alloc (.cells #[.int .i64 0, .int .i64 0, .string ByteArray.empty, .slice none 0 0] 28)) := bt (bt (ab _) (ab _) (Nat.le_refl _)) (ab _) (Nat.le_refl _)
  have HX : Hid (ZBox (((w.alloc (.cells #[.int .i64 op, .int .i64 n, .string s, .slice a len cap] 28)).alloc (.cells #[.int .i64 4, .int .i64 n2, .string s2, .slice (some ⟨b, q, none⟩) 1 cap2] 28)).alloc (.cells #[.int .i64 0, .int .i64 0, .string ByteArray.empty, .slice none 0 0] 28)) (w.heap.size + 1 + 1)) := by
    have := ZBox.new ((w.alloc (.cells #[.int .i64 op, .int .i64 n, .string s, .slice a len cap] 28)).alloc (.cells #[.int .i64 4, .int .i64 n2, .string s2, .slice (some ⟨b, q, none⟩) 1 cap2] 28))
    rwa [heap_size_alloc, heap_size_alloc] at this
  have HRA : Hid (RowT 28 (((w.alloc (.cells #[.int .i64 op, .int .i64 n, .string s, .slice a len cap] 28)).alloc (.cells #[.int .i64 4, .int .i64 n2, .string s2, .slice (some ⟨b, q, none⟩) 1 cap2] 28)).alloc (.cells #[.int .i64 0, .int .i64 0, .string ByteArray.empty, .slice none 0 0] 28)) w.heap.size op n s a len cap) := ((RowT.new 28 w op n s a len cap).below (ab _)).below (ab _)
  have HRB : Hid (RowT 28 (((w.alloc (.cells #[.int .i64 op, .int .i64 n, .string s, .slice a len cap] 28)).alloc (.cells #[.int .i64 4, .int .i64 n2, .string s2, .slice (some ⟨b, q, none⟩) 1 cap2] 28)).alloc (.cells #[.int .i64 0, .int .i64 0, .string ByteArray.empty, .slice none 0 0] 28)) (w.heap.size + 1) 4 n2 s2 (some ⟨b, q, none⟩) 1 cap2) := by
    have := (RowT.new 28 (w.alloc (.cells #[.int .i64 op, .int .i64 n, .string s, .slice a len cap] 28)) 4 n2 s2 (some ⟨b, q, none⟩) 1 cap2).below (ab (.cells #[.int .i64 0, .int .i64 0, .string ByteArray.empty, .slice none 0 0] 28))
    rwa [heap_size_alloc] at this
  have HB0 := hide hB0
  have h61 := hide (fun V (hV : Below w.heap.size w V) => kid_yes n2 s2 b q cap2 op3 n3 s3 a3 len3 cap3 V (kpc hV r0) (kpc hV r1) (kpc hV r2) (kpc hV r3))
  have HLT := hide hl
  have HLK := hide hk
  have HER := hide he
  obtain ⟨c0, c1, c2, c3⟩ := (unhide HRB).facts
  have h46 := hide (fun V (hV : Below w.heap.size w V) => checked_yes t op n s a len cap V (hl.below hV) (by omega) hok)
  have h62 := hide (fun V (hV : Below w.heap.size w V) => before17 k t op3 n3 s3 a3 len3 cap3 op n s a len cap V (hk.below hV) (hl.below hV) (by omega))
  rw [hbf] at h62
  have HZ5 : Hid ((Tm.node 5 0 ByteArray.empty [t, k]).size ≤ 2097152) := by show _ ≤ _; simp only [Tm.size, Tm.sizes]; omega
  have h46' := hide (fun a5 V h he => checked_no (Tm.node 5 0 ByteArray.empty [t, k]) 5 0 ByteArray.empty a5 2 2 x V h (unhide HZ5) hsh he)
  clear hB0 he hl hk hsz hok hbf hsh r0 r1 r2 r3
  go_enter Tryz.func34, Tryz.ntmps34
  go_wp2_with fail
  refine (unhide h61 _ (unhide HB0)).mono ?_
  rintro e w2 ⟨rfl, hb2⟩
  have hb3 := bt hb2 (ab (.cells #[.int .i64 op3, .int .i64 n3, .string s3, .slice a3 len3 cap3] 28)) (Nat.le_refl _)
  have HB2 := hide (bt (unhide HB0) hb3 (Nat.le_refl _))
  have HX2 := hide ((unhide HX).below hb3)
  have HRA2 := hide ((unhide HRA).below hb3)
  have HK2 := hide (RowT.new 28 w2 op3 n3 s3 a3 len3 cap3)
  have HLTK : Hid (w.heap.size + 1 + 1 < w2.heap.size) := lt_of_heap ((unhide HX).below hb2)
  have HGK : Hid (w2.heap.size < (w2.alloc (.cells #[.int .i64 op3, .int .i64 n3, .string s3, .slice a3 len3 cap3] 28)).heap.size) := by show _ < _; simp
  clear hb2 hb3 c0 c1 c2 c3 HB0 HX HRA HRB
  obtain ⟨c0, c1, c2, c3⟩ := (unhide HRA2).facts
  go_wp2_with fail
  generalize hgw : w2.alloc (.cells #[.int .i64 op3, .int .i64 n3, .string s3, .slice a3 len3 cap3] 28) = W2 at *
  clear hgw
  generalize w2.heap.size = bK at *
  refine (unhide h46 _ (unhide HB2)).mono ?_
  rintro e w3 ⟨rfl, hb3⟩
  have hb4 := bt hb3 (ab (.cells #[.int .i64 op, .int .i64 n, .string s, .slice a len cap] 28)) (Nat.le_refl _)
  have HB3 := hide (bt (unhide HB2) hb4 (Nat.le_refl _))
  have HX3 := hide ((unhide HX2).below hb4)
  have HK3 := hide ((unhide HK2).below hb4)
  have HS3 := hide (RowT.new 28 w3 op n s a len cap)
  have HGS : Hid (w3.heap.size < (w3.alloc (.cells #[.int .i64 op, .int .i64 n, .string s, .slice a len cap] 28)).heap.size) := by show _ < _; simp
  have HLS : Hid (bK < w3.heap.size) := by have := unhide HGK; have := hb3.size; show _ < _; omega
  clear hb3 hb4 c0 c1 c2 c3 HB2 HX2 HRA2 HK2
  obtain ⟨c0, c1, c2, c3⟩ := (unhide HK3).facts
  obtain ⟨i0, i1, i2, i3⟩ := (unhide HS3).facts
  go_wp2_with fail
  generalize hgw : w3.alloc (.cells #[.int .i64 op, .int .i64 n, .string s, .slice a len cap] 28) = W3 at *
  clear hgw
  generalize w3.heap.size = bS at *
  refine (unhide h62 _ (unhide HB3)).mono ?_
  rintro e w4 ⟨rfl, hb4⟩
  have HB4 := hide (bt (unhide HB3) hb4 (Nat.le_refl _))
  have HX4 := hide ((unhide HX3).below hb4)
  have HK4 := hide ((unhide HK3).below hb4)
  have HS4 := hide ((unhide HS3).below hb4)
  have HL4 : Hid (bS < w4.heap.size) := by have := unhide HGS; have := hb4.size; show _ < _; omega
  clear hb4 c0 c1 c2 c3 i0 i1 i2 i3 HB3 HX3 HK3 HS3
  obtain ⟨c0, c1, c2, c3⟩ := (unhide HK4).facts
  obtain ⟨i0, i1, i2, i3⟩ := (unhide HS4).facts
  obtain ⟨k0, k1, k2, k3⟩ := (unhide HK4).thaw
  obtain ⟨j0, j1, j2, j3⟩ := (unhide HS4).thaw
  have m1 : bK ≠ bS := by have := unhide HLS; omega
  have m1' := Ne.symm m1
  have HGB : Hid (w.heap.size ≤ bK ∧ w.heap.size ≤ bS) := by have := unhide HLS; have := unhide HLTK; show _ ∧ _; omega
  have HNB : Hid (w.heap.size + 1 + 1 ≠ bK ∧ w.heap.size + 1 + 1 ≠ bS) := by have := unhide HLS; have := unhide HLTK; show _ ∧ _; omega
  go_wp2_with fail
  have hXs : w4.heap.size = w4.heap.size := by rfl
  have HXB : Hid (Below w.heap.size w w4) := unhide HB4
  have HXZ : Hid (ZBox w4 (w.heap.size + 1 + 1)) := unhide HX4
  have HCL : Hid (∀ (j : Nat) (v : Value), (#[.int .i64 op, .int .i64 n, .string s, .slice a len cap, .int .i64 op3, .int .i64 n3, .string s3, .slice a3 len3 cap3] : Array Value)[j]? = some v → (w4.alloc (.cells #[.int .i64 op, .int .i64 n, .string s, .slice a len cap, .int .i64 op3, .int .i64 n3, .string s3, .slice a3 len3 cap3] 28)).cell? ⟨w4.heap.size, j, none⟩ = some v) := fun j v hj => by
    rw [← hXs]
    exact row_cells w4 op n s a len cap op3 n3 s3 a3 len3 cap3 j v hj
  skip
  refine (unhide h46' _ _ ?_ ?_).mono ?_
  · refine lies_row2 ((unhide HLT).below ?_) ((unhide HLK).below ?_) (fun j v hj => unhide HCL j v hj) 5 (by decide)
    · exact bt (unhide HXB) (ab _) (Nat.le_refl _)
    · exact bt (unhide HXB) (ab _) (Nat.le_refl _)
  · exact (unhide HER).on (bt (unhide HXB) (ab _) (Nat.le_refl _))
  rintro e w5 ⟨rfl, hb5⟩
  have HB5 := hide (bt (bt (unhide HXB) (ab _) (Nat.le_refl _)) hb5 (Nat.le_refl _))
  have hX5 := ((unhide HXZ).below (ab _)).below hb5
  obtain ⟨d0, d1, d2, d3, e0, e1, e2, e3⟩ := hX5.facts
  clear hX5 hb5 c0 c1 c2 c3 i0 i1 i2 i3 k0 k1 k2 k3 j0 j1 j2 j3
  go_wp2_with fail
  exact bodyPost_ret (v := .tuple #[.agg #[.int .i64 0, .int .i64 0, .string ByteArray.empty, .slice none 0 0], .iface 128 (.pointer (some x))]) (by simp [results, Tryz.results34, go_sem, d0, d1, d2, d3]; try rfl) rfl ⟨rfl, set4_below (unhide HB5) (by omega)⟩

set_option maxRecDepth 100000 in
set_option maxHeartbeats 2000000 in
theorem share_no3_b (t k : Tm) (op n : Int) (s : ByteArray) (a : Option Addr) (len cap : Nat) (n2 : Int) (s2 : ByteArray) (b q cap2 : Nat) (op3 n3 : Int) (s3 : ByteArray) (a3 : Option Addr) (len3 cap3 : Nat) (x : Addr) (w : World) (he : ErrAt x w) (hl : Lies w 0 t (tmCells op n s a len cap)) (hk : Lies w 0 k (tmCells op3 n3 s3 a3 len3 cap3)) (hsz : t.size + k.size ≤ 2097140) (r0 : w.cell? ⟨b, q, none⟩ = some (.int .i64 op3)) (r1 : w.cell? ⟨b, q + 1, none⟩ = some (.int .i64 n3)) (r2 : w.cell? ⟨b, q + 2, none⟩ = some (.string s3)) (r3 : w.cell? ⟨b, q + 3, none⟩ = some (.slice a3 len3 cap3)) (hok : okT t = true) (hbf : beforeB k t = true) (hsh : okT (Tm.node 5 0 ByteArray.empty [k, t]) = false) :
    Calls Tryz.prog 34 #[.agg #[.int .i64 op, .int .i64 n, .string s, .slice a len cap], .agg #[.int .i64 4, .int .i64 n2, .string s2, .slice (some ⟨b, q, none⟩) 1 cap2]] w fun e w' => e = .returned (.tuple #[.agg #[.int .i64 0, .int .i64 0, .string ByteArray.empty, .slice none 0 0], .iface 128 (.pointer (some x))]) ∧ Below w.heap.size w w' := by
  have hB0 : Below w.heap.size w (((w.alloc (.cells #[.int .i64 op, .int .i64 n, .string s, .slice a len cap] 28)).alloc (.cells #[.int .i64 4, .int .i64 n2, .string s2, .slice (some ⟨b, q, none⟩) 1 cap2] 28)).alloc (.cells #[.int .i64 0, .int .i64 0, .string ByteArray.empty, .slice none 0 0] 28)) := bt (bt (ab _) (ab _) (Nat.le_refl _)) (ab _) (Nat.le_refl _)
  have HX : Hid (ZBox (((w.alloc (.cells #[.int .i64 op, .int .i64 n, .string s, .slice a len cap] 28)).alloc (.cells #[.int .i64 4, .int .i64 n2, .string s2, .slice (some ⟨b, q, none⟩) 1 cap2] 28)).alloc (.cells #[.int .i64 0, .int .i64 0, .string ByteArray.empty, .slice none 0 0] 28)) (w.heap.size + 1 + 1)) := by
    have := ZBox.new ((w.alloc (.cells #[.int .i64 op, .int .i64 n, .string s, .slice a len cap] 28)).alloc (.cells #[.int .i64 4, .int .i64 n2, .string s2, .slice (some ⟨b, q, none⟩) 1 cap2] 28))
    rwa [heap_size_alloc, heap_size_alloc] at this
  have HRA : Hid (RowT 28 (((w.alloc (.cells #[.int .i64 op, .int .i64 n, .string s, .slice a len cap] 28)).alloc (.cells #[.int .i64 4, .int .i64 n2, .string s2, .slice (some ⟨b, q, none⟩) 1 cap2] 28)).alloc (.cells #[.int .i64 0, .int .i64 0, .string ByteArray.empty, .slice none 0 0] 28)) w.heap.size op n s a len cap) := ((RowT.new 28 w op n s a len cap).below (ab _)).below (ab _)
  have HRB : Hid (RowT 28 (((w.alloc (.cells #[.int .i64 op, .int .i64 n, .string s, .slice a len cap] 28)).alloc (.cells #[.int .i64 4, .int .i64 n2, .string s2, .slice (some ⟨b, q, none⟩) 1 cap2] 28)).alloc (.cells #[.int .i64 0, .int .i64 0, .string ByteArray.empty, .slice none 0 0] 28)) (w.heap.size + 1) 4 n2 s2 (some ⟨b, q, none⟩) 1 cap2) := by
    have := (RowT.new 28 (w.alloc (.cells #[.int .i64 op, .int .i64 n, .string s, .slice a len cap] 28)) 4 n2 s2 (some ⟨b, q, none⟩) 1 cap2).below (ab (.cells #[.int .i64 0, .int .i64 0, .string ByteArray.empty, .slice none 0 0] 28))
    rwa [heap_size_alloc] at this
  have HB0 := hide hB0
  have h61 := hide (fun V (hV : Below w.heap.size w V) => kid_yes n2 s2 b q cap2 op3 n3 s3 a3 len3 cap3 V (kpc hV r0) (kpc hV r1) (kpc hV r2) (kpc hV r3))
  have HLT := hide hl
  have HLK := hide hk
  have HER := hide he
  obtain ⟨c0, c1, c2, c3⟩ := (unhide HRB).facts
  have h46 := hide (fun V (hV : Below w.heap.size w V) => checked_yes t op n s a len cap V (hl.below hV) (by omega) hok)
  have h62 := hide (fun V (hV : Below w.heap.size w V) => before17 k t op3 n3 s3 a3 len3 cap3 op n s a len cap V (hk.below hV) (hl.below hV) (by omega))
  rw [hbf] at h62
  have HZ5 : Hid ((Tm.node 5 0 ByteArray.empty [k, t]).size ≤ 2097152) := by show _ ≤ _; simp only [Tm.size, Tm.sizes]; omega
  have h46' := hide (fun a5 V h he => checked_no (Tm.node 5 0 ByteArray.empty [k, t]) 5 0 ByteArray.empty a5 2 2 x V h (unhide HZ5) hsh he)
  clear hB0 he hl hk hsz hok hbf hsh r0 r1 r2 r3
  go_enter Tryz.func34, Tryz.ntmps34
  go_wp2_with fail
  refine (unhide h61 _ (unhide HB0)).mono ?_
  rintro e w2 ⟨rfl, hb2⟩
  have hb3 := bt hb2 (ab (.cells #[.int .i64 op3, .int .i64 n3, .string s3, .slice a3 len3 cap3] 28)) (Nat.le_refl _)
  have HB2 := hide (bt (unhide HB0) hb3 (Nat.le_refl _))
  have HX2 := hide ((unhide HX).below hb3)
  have HRA2 := hide ((unhide HRA).below hb3)
  have HK2 := hide (RowT.new 28 w2 op3 n3 s3 a3 len3 cap3)
  have HLTK : Hid (w.heap.size + 1 + 1 < w2.heap.size) := lt_of_heap ((unhide HX).below hb2)
  have HGK : Hid (w2.heap.size < (w2.alloc (.cells #[.int .i64 op3, .int .i64 n3, .string s3, .slice a3 len3 cap3] 28)).heap.size) := by show _ < _; simp
  clear hb2 hb3 c0 c1 c2 c3 HB0 HX HRA HRB
  obtain ⟨c0, c1, c2, c3⟩ := (unhide HRA2).facts
  go_wp2_with fail
  generalize hgw : w2.alloc (.cells #[.int .i64 op3, .int .i64 n3, .string s3, .slice a3 len3 cap3] 28) = W2 at *
  clear hgw
  generalize w2.heap.size = bK at *
  refine (unhide h46 _ (unhide HB2)).mono ?_
  rintro e w3 ⟨rfl, hb3⟩
  have hb4 := bt hb3 (ab (.cells #[.int .i64 op, .int .i64 n, .string s, .slice a len cap] 28)) (Nat.le_refl _)
  have HB3 := hide (bt (unhide HB2) hb4 (Nat.le_refl _))
  have HX3 := hide ((unhide HX2).below hb4)
  have HK3 := hide ((unhide HK2).below hb4)
  have HS3 := hide (RowT.new 28 w3 op n s a len cap)
  have HGS : Hid (w3.heap.size < (w3.alloc (.cells #[.int .i64 op, .int .i64 n, .string s, .slice a len cap] 28)).heap.size) := by show _ < _; simp
  have HLS : Hid (bK < w3.heap.size) := by have := unhide HGK; have := hb3.size; show _ < _; omega
  clear hb3 hb4 c0 c1 c2 c3 HB2 HX2 HRA2 HK2
  obtain ⟨c0, c1, c2, c3⟩ := (unhide HK3).facts
  obtain ⟨i0, i1, i2, i3⟩ := (unhide HS3).facts
  go_wp2_with fail
  generalize hgw : w3.alloc (.cells #[.int .i64 op, .int .i64 n, .string s, .slice a len cap] 28) = W3 at *
  clear hgw
  generalize w3.heap.size = bS at *
  refine (unhide h62 _ (unhide HB3)).mono ?_
  rintro e w4 ⟨rfl, hb4⟩
  have HB4 := hide (bt (unhide HB3) hb4 (Nat.le_refl _))
  have HX4 := hide ((unhide HX3).below hb4)
  have HK4 := hide ((unhide HK3).below hb4)
  have HS4 := hide ((unhide HS3).below hb4)
  have HL4 : Hid (bS < w4.heap.size) := by have := unhide HGS; have := hb4.size; show _ < _; omega
  clear hb4 c0 c1 c2 c3 i0 i1 i2 i3 HB3 HX3 HK3 HS3
  obtain ⟨c0, c1, c2, c3⟩ := (unhide HK4).facts
  obtain ⟨i0, i1, i2, i3⟩ := (unhide HS4).facts
  obtain ⟨k0, k1, k2, k3⟩ := (unhide HK4).thaw
  obtain ⟨j0, j1, j2, j3⟩ := (unhide HS4).thaw
  have m1 : bK ≠ bS := by have := unhide HLS; omega
  have m1' := Ne.symm m1
  have HGB : Hid (w.heap.size ≤ bK ∧ w.heap.size ≤ bS) := by have := unhide HLS; have := unhide HLTK; show _ ∧ _; omega
  have HNB : Hid (w.heap.size + 1 + 1 ≠ bK ∧ w.heap.size + 1 + 1 ≠ bS) := by have := unhide HLS; have := unhide HLTK; show _ ∧ _; omega
  go_wp2_with fail
  have hXs : ((((((((w4.setCell ⟨bS, 0, none⟩ (.int .i64 op3)).setCell ⟨bS, 1, none⟩ (.int .i64 n3)).setCell ⟨bS, 2, none⟩ (.string s3)).setCell ⟨bS, 3, none⟩ (.slice a3 len3 cap3)).setCell ⟨bK, 0, none⟩ (.int .i64 op)).setCell ⟨bK, 1, none⟩ (.int .i64 n)).setCell ⟨bK, 2, none⟩ (.string s)).setCell ⟨bK, 3, none⟩ (.slice a len cap)).heap.size = w4.heap.size := by simp only [nblk_setCell]
  have HXB : Hid (Below w.heap.size w ((((((((w4.setCell ⟨bS, 0, none⟩ (.int .i64 op3)).setCell ⟨bS, 1, none⟩ (.int .i64 n3)).setCell ⟨bS, 2, none⟩ (.string s3)).setCell ⟨bS, 3, none⟩ (.slice a3 len3 cap3)).setCell ⟨bK, 0, none⟩ (.int .i64 op)).setCell ⟨bK, 1, none⟩ (.int .i64 n)).setCell ⟨bK, 2, none⟩ (.string s)).setCell ⟨bK, 3, none⟩ (.slice a len cap))) := set4_below (set4_below (unhide HB4) (unhide HGB).2) (unhide HGB).1
  have HXZ : Hid (ZBox ((((((((w4.setCell ⟨bS, 0, none⟩ (.int .i64 op3)).setCell ⟨bS, 1, none⟩ (.int .i64 n3)).setCell ⟨bS, 2, none⟩ (.string s3)).setCell ⟨bS, 3, none⟩ (.slice a3 len3 cap3)).setCell ⟨bK, 0, none⟩ (.int .i64 op)).setCell ⟨bK, 1, none⟩ (.int .i64 n)).setCell ⟨bK, 2, none⟩ (.string s)).setCell ⟨bK, 3, none⟩ (.slice a len cap)) (w.heap.size + 1 + 1)) := ZBox.set4 (ZBox.set4 (unhide HX4) (unhide HNB).2) (unhide HNB).1
  have HCL : Hid (∀ (j : Nat) (v : Value), (#[.int .i64 op3, .int .i64 n3, .string s3, .slice a3 len3 cap3, .int .i64 op, .int .i64 n, .string s, .slice a len cap] : Array Value)[j]? = some v → (((((((((w4.setCell ⟨bS, 0, none⟩ (.int .i64 op3)).setCell ⟨bS, 1, none⟩ (.int .i64 n3)).setCell ⟨bS, 2, none⟩ (.string s3)).setCell ⟨bS, 3, none⟩ (.slice a3 len3 cap3)).setCell ⟨bK, 0, none⟩ (.int .i64 op)).setCell ⟨bK, 1, none⟩ (.int .i64 n)).setCell ⟨bK, 2, none⟩ (.string s)).setCell ⟨bK, 3, none⟩ (.slice a len cap)).alloc (.cells #[.int .i64 op3, .int .i64 n3, .string s3, .slice a3 len3 cap3, .int .i64 op, .int .i64 n, .string s, .slice a len cap] 28)).cell? ⟨w4.heap.size, j, none⟩ = some v) := fun j v hj => by
    rw [← hXs]
    exact row_cells ((((((((w4.setCell ⟨bS, 0, none⟩ (.int .i64 op3)).setCell ⟨bS, 1, none⟩ (.int .i64 n3)).setCell ⟨bS, 2, none⟩ (.string s3)).setCell ⟨bS, 3, none⟩ (.slice a3 len3 cap3)).setCell ⟨bK, 0, none⟩ (.int .i64 op)).setCell ⟨bK, 1, none⟩ (.int .i64 n)).setCell ⟨bK, 2, none⟩ (.string s)).setCell ⟨bK, 3, none⟩ (.slice a len cap)) op3 n3 s3 a3 len3 cap3 op n s a len cap j v hj
  generalize ((((((((w4.setCell ⟨bS, 0, none⟩ (.int .i64 op3)).setCell ⟨bS, 1, none⟩ (.int .i64 n3)).setCell ⟨bS, 2, none⟩ (.string s3)).setCell ⟨bS, 3, none⟩ (.slice a3 len3 cap3)).setCell ⟨bK, 0, none⟩ (.int .i64 op)).setCell ⟨bK, 1, none⟩ (.int .i64 n)).setCell ⟨bK, 2, none⟩ (.string s)).setCell ⟨bK, 3, none⟩ (.slice a len cap)) = X at *
  refine (unhide h46' _ _ ?_ ?_).mono ?_
  · refine lies_row2 ((unhide HLK).below ?_) ((unhide HLT).below ?_) (fun j v hj => unhide HCL j v hj) 5 (by decide)
    · exact bt (unhide HXB) (ab _) (Nat.le_refl _)
    · exact bt (unhide HXB) (ab _) (Nat.le_refl _)
  · exact (unhide HER).on (bt (unhide HXB) (ab _) (Nat.le_refl _))
  rintro e w5 ⟨rfl, hb5⟩
  have HB5 := hide (bt (bt (unhide HXB) (ab _) (Nat.le_refl _)) hb5 (Nat.le_refl _))
  have hX5 := ((unhide HXZ).below (ab _)).below hb5
  obtain ⟨d0, d1, d2, d3, e0, e1, e2, e3⟩ := hX5.facts
  clear hX5 hb5 c0 c1 c2 c3 i0 i1 i2 i3 k0 k1 k2 k3 j0 j1 j2 j3
  go_wp2_with fail
  exact bodyPost_ret (v := .tuple #[.agg #[.int .i64 0, .int .i64 0, .string ByteArray.empty, .slice none 0 0], .iface 128 (.pointer (some x))]) (by simp [results, Tryz.results34, go_sem, d0, d1, d2, d3]; try rfl) rfl ⟨rfl, set4_below (unhide HB5) (by omega)⟩

set_option maxRecDepth 100000 in
set_option maxHeartbeats 2000000 in
theorem share_yes_a (t k : Tm) (op n : Int) (s : ByteArray) (a : Option Addr) (len cap : Nat) (n2 : Int) (s2 : ByteArray) (b q cap2 : Nat) (op3 n3 : Int) (s3 : ByteArray) (a3 : Option Addr) (len3 cap3 : Nat) (x : Addr) (w : World) (he : ErrAt x w) (hl : Lies w 0 t (tmCells op n s a len cap)) (hk : Lies w 0 k (tmCells op3 n3 s3 a3 len3 cap3)) (hsz : t.size + k.size ≤ 2097140) (r0 : w.cell? ⟨b, q, none⟩ = some (.int .i64 op3)) (r1 : w.cell? ⟨b, q + 1, none⟩ = some (.int .i64 n3)) (r2 : w.cell? ⟨b, q + 2, none⟩ = some (.string s3)) (r3 : w.cell? ⟨b, q + 3, none⟩ = some (.slice a3 len3 cap3)) (hok : okT t = true) (hbf : beforeB k t = false) (hsh : okT (Tm.node 5 0 ByteArray.empty [t, k]) = true) :
    Calls Tryz.prog 34 #[.agg #[.int .i64 op, .int .i64 n, .string s, .slice a len cap], .agg #[.int .i64 4, .int .i64 n2, .string s2, .slice (some ⟨b, q, none⟩) 1 cap2]] w fun e w' => ∃ a', e = .returned (.tuple #[.agg #[.int .i64 5, .int .i64 0, .string ByteArray.empty, .slice a' 2 2], .nilIface]) ∧ Lies w' 0 (Tm.node 5 0 ByteArray.empty [t, k]) (tmCells 5 0 ByteArray.empty a' 2 2) ∧ Below w.heap.size w w' := by
  have hB0 : Below w.heap.size w (((w.alloc (.cells #[.int .i64 op, .int .i64 n, .string s, .slice a len cap] 28)).alloc (.cells #[.int .i64 4, .int .i64 n2, .string s2, .slice (some ⟨b, q, none⟩) 1 cap2] 28)).alloc (.cells #[.int .i64 0, .int .i64 0, .string ByteArray.empty, .slice none 0 0] 28)) := bt (bt (ab _) (ab _) (Nat.le_refl _)) (ab _) (Nat.le_refl _)
  have HX : Hid (ZBox (((w.alloc (.cells #[.int .i64 op, .int .i64 n, .string s, .slice a len cap] 28)).alloc (.cells #[.int .i64 4, .int .i64 n2, .string s2, .slice (some ⟨b, q, none⟩) 1 cap2] 28)).alloc (.cells #[.int .i64 0, .int .i64 0, .string ByteArray.empty, .slice none 0 0] 28)) (w.heap.size + 1 + 1)) := by
    have := ZBox.new ((w.alloc (.cells #[.int .i64 op, .int .i64 n, .string s, .slice a len cap] 28)).alloc (.cells #[.int .i64 4, .int .i64 n2, .string s2, .slice (some ⟨b, q, none⟩) 1 cap2] 28))
    rwa [heap_size_alloc, heap_size_alloc] at this
  have HRA : Hid (RowT 28 (((w.alloc (.cells #[.int .i64 op, .int .i64 n, .string s, .slice a len cap] 28)).alloc (.cells #[.int .i64 4, .int .i64 n2, .string s2, .slice (some ⟨b, q, none⟩) 1 cap2] 28)).alloc (.cells #[.int .i64 0, .int .i64 0, .string ByteArray.empty, .slice none 0 0] 28)) w.heap.size op n s a len cap) := ((RowT.new 28 w op n s a len cap).below (ab _)).below (ab _)
  have HRB : Hid (RowT 28 (((w.alloc (.cells #[.int .i64 op, .int .i64 n, .string s, .slice a len cap] 28)).alloc (.cells #[.int .i64 4, .int .i64 n2, .string s2, .slice (some ⟨b, q, none⟩) 1 cap2] 28)).alloc (.cells #[.int .i64 0, .int .i64 0, .string ByteArray.empty, .slice none 0 0] 28)) (w.heap.size + 1) 4 n2 s2 (some ⟨b, q, none⟩) 1 cap2) := by
    have := (RowT.new 28 (w.alloc (.cells #[.int .i64 op, .int .i64 n, .string s, .slice a len cap] 28)) 4 n2 s2 (some ⟨b, q, none⟩) 1 cap2).below (ab (.cells #[.int .i64 0, .int .i64 0, .string ByteArray.empty, .slice none 0 0] 28))
    rwa [heap_size_alloc] at this
  have HB0 := hide hB0
  have h61 := hide (fun V (hV : Below w.heap.size w V) => kid_yes n2 s2 b q cap2 op3 n3 s3 a3 len3 cap3 V (kpc hV r0) (kpc hV r1) (kpc hV r2) (kpc hV r3))
  have HLT := hide hl
  have HLK := hide hk
  have HER := hide he
  obtain ⟨c0, c1, c2, c3⟩ := (unhide HRB).facts
  have h46 := hide (fun V (hV : Below w.heap.size w V) => checked_yes t op n s a len cap V (hl.below hV) (by omega) hok)
  have h62 := hide (fun V (hV : Below w.heap.size w V) => before17 k t op3 n3 s3 a3 len3 cap3 op n s a len cap V (hk.below hV) (hl.below hV) (by omega))
  rw [hbf] at h62
  have HZ5 : Hid ((Tm.node 5 0 ByteArray.empty [t, k]).size ≤ 2097152) := by show _ ≤ _; simp only [Tm.size, Tm.sizes]; omega
  have h46' := hide (fun a5 V h => checked_yes (Tm.node 5 0 ByteArray.empty [t, k]) 5 0 ByteArray.empty a5 2 2 V h (unhide HZ5) hsh)
  clear hB0 he hl hk hsz hok hbf hsh r0 r1 r2 r3
  go_enter Tryz.func34, Tryz.ntmps34
  go_wp2_with fail
  refine (unhide h61 _ (unhide HB0)).mono ?_
  rintro e w2 ⟨rfl, hb2⟩
  have hb3 := bt hb2 (ab (.cells #[.int .i64 op3, .int .i64 n3, .string s3, .slice a3 len3 cap3] 28)) (Nat.le_refl _)
  have HB2 := hide (bt (unhide HB0) hb3 (Nat.le_refl _))
  have HX2 := hide ((unhide HX).below hb3)
  have HRA2 := hide ((unhide HRA).below hb3)
  have HK2 := hide (RowT.new 28 w2 op3 n3 s3 a3 len3 cap3)
  have HLTK : Hid (w.heap.size + 1 + 1 < w2.heap.size) := lt_of_heap ((unhide HX).below hb2)
  have HGK : Hid (w2.heap.size < (w2.alloc (.cells #[.int .i64 op3, .int .i64 n3, .string s3, .slice a3 len3 cap3] 28)).heap.size) := by show _ < _; simp
  clear hb2 hb3 c0 c1 c2 c3 HB0 HX HRA HRB
  obtain ⟨c0, c1, c2, c3⟩ := (unhide HRA2).facts
  go_wp2_with fail
  generalize hgw : w2.alloc (.cells #[.int .i64 op3, .int .i64 n3, .string s3, .slice a3 len3 cap3] 28) = W2 at *
  clear hgw
  generalize w2.heap.size = bK at *
  refine (unhide h46 _ (unhide HB2)).mono ?_
  rintro e w3 ⟨rfl, hb3⟩
  have hb4 := bt hb3 (ab (.cells #[.int .i64 op, .int .i64 n, .string s, .slice a len cap] 28)) (Nat.le_refl _)
  have HB3 := hide (bt (unhide HB2) hb4 (Nat.le_refl _))
  have HX3 := hide ((unhide HX2).below hb4)
  have HK3 := hide ((unhide HK2).below hb4)
  have HS3 := hide (RowT.new 28 w3 op n s a len cap)
  have HGS : Hid (w3.heap.size < (w3.alloc (.cells #[.int .i64 op, .int .i64 n, .string s, .slice a len cap] 28)).heap.size) := by show _ < _; simp
  have HLS : Hid (bK < w3.heap.size) := by have := unhide HGK; have := hb3.size; show _ < _; omega
  clear hb3 hb4 c0 c1 c2 c3 HB2 HX2 HRA2 HK2
  obtain ⟨c0, c1, c2, c3⟩ := (unhide HK3).facts
  obtain ⟨i0, i1, i2, i3⟩ := (unhide HS3).facts
  go_wp2_with fail
  generalize hgw : w3.alloc (.cells #[.int .i64 op, .int .i64 n, .string s, .slice a len cap] 28) = W3 at *
  clear hgw
  generalize w3.heap.size = bS at *
  refine (unhide h62 _ (unhide HB3)).mono ?_
  rintro e w4 ⟨rfl, hb4⟩
  have HB4 := hide (bt (unhide HB3) hb4 (Nat.le_refl _))
  have HX4 := hide ((unhide HX3).below hb4)
  have HK4 := hide ((unhide HK3).below hb4)
  have HS4 := hide ((unhide HS3).below hb4)
  have HL4 : Hid (bS < w4.heap.size) := by have := unhide HGS; have := hb4.size; show _ < _; omega
  clear hb4 c0 c1 c2 c3 i0 i1 i2 i3 HB3 HX3 HK3 HS3
  obtain ⟨c0, c1, c2, c3⟩ := (unhide HK4).facts
  obtain ⟨i0, i1, i2, i3⟩ := (unhide HS4).facts
  obtain ⟨k0, k1, k2, k3⟩ := (unhide HK4).thaw
  obtain ⟨j0, j1, j2, j3⟩ := (unhide HS4).thaw
  have m1 : bK ≠ bS := by have := unhide HLS; omega
  have m1' := Ne.symm m1
  have HGB : Hid (w.heap.size ≤ bK ∧ w.heap.size ≤ bS) := by have := unhide HLS; have := unhide HLTK; show _ ∧ _; omega
  have HNB : Hid (w.heap.size + 1 + 1 ≠ bK ∧ w.heap.size + 1 + 1 ≠ bS) := by have := unhide HLS; have := unhide HLTK; show _ ∧ _; omega
  go_wp2_with fail
  have hXs : w4.heap.size = w4.heap.size := by rfl
  have HXB : Hid (Below w.heap.size w w4) := unhide HB4
  have HXZ : Hid (ZBox w4 (w.heap.size + 1 + 1)) := unhide HX4
  have HCL : Hid (∀ (j : Nat) (v : Value), (#[.int .i64 op, .int .i64 n, .string s, .slice a len cap, .int .i64 op3, .int .i64 n3, .string s3, .slice a3 len3 cap3] : Array Value)[j]? = some v → (w4.alloc (.cells #[.int .i64 op, .int .i64 n, .string s, .slice a len cap, .int .i64 op3, .int .i64 n3, .string s3, .slice a3 len3 cap3] 28)).cell? ⟨w4.heap.size, j, none⟩ = some v) := fun j v hj => by
    rw [← hXs]
    exact row_cells w4 op n s a len cap op3 n3 s3 a3 len3 cap3 j v hj
  skip
  refine (unhide h46' _ _ ?_).mono ?_
  · refine lies_row2 ((unhide HLT).below ?_) ((unhide HLK).below ?_) (fun j v hj => unhide HCL j v hj) 5 (by decide)
    · exact bt (unhide HXB) (ab _) (Nat.le_refl _)
    · exact bt (unhide HXB) (ab _) (Nat.le_refl _)

  rintro e w5 ⟨rfl, hb5⟩
  have HB5 := hide (bt (bt (unhide HXB) (ab _) (Nat.le_refl _)) hb5 (Nat.le_refl _))
  have hX5 := ((unhide HXZ).below (ab _)).below hb5
  obtain ⟨d0, d1, d2, d3, e0, e1, e2, e3⟩ := hX5.facts
  have HC5 : Hid (∀ (j : Nat) (v : Value), (#[.int .i64 op, .int .i64 n, .string s, .slice a len cap, .int .i64 op3, .int .i64 n3, .string s3, .slice a3 len3 cap3] : Array Value)[j]? = some v → w5.cell? ⟨w4.heap.size, j, none⟩ = some v) := fun j v hj => kpc hb5 (unhide HCL j v hj)
  have HNG : Hid (w4.heap.size ≠ w.heap.size + 1 + 1) := by have := unhide HL4; have := unhide HLS; have := unhide HLTK; show _ ≠ _; omega
  clear hX5 hb5 c0 c1 c2 c3 i0 i1 i2 i3 k0 k1 k2 k3 j0 j1 j2 j3
  go_wp2_with fail
  have hBF := set4_below (g := w.heap.size + 1 + 1) (x0 := .int .i64 5) (x1 := .int .i64 0) (x2 := .string ByteArray.empty) (x3 := .slice (some ⟨w4.heap.size, 0, none⟩) 2 2) (unhide HB5) (by omega)
  exact bodyPost_ret (v := .tuple #[.agg #[.int .i64 5, .int .i64 0, .string ByteArray.empty, .slice (some ⟨w4.heap.size, 0, none⟩) 2 2], .nilIface]) (by simp [results, Tryz.results34, go_sem, d0, d1, d2, d3]; try rfl) rfl ⟨_, rfl, lies_row2 ((unhide HLT).below hBF) ((unhide HLK).below hBF) (fun j v hj => (World.cell?_of_block (set4_heap w5 _ _ _ _ _ w4.heap.size (unhide HNG))).trans (unhide HC5 j v hj)) 5 (by decide), hBF⟩

set_option maxRecDepth 100000 in
set_option maxHeartbeats 2000000 in
theorem share_yes_b (t k : Tm) (op n : Int) (s : ByteArray) (a : Option Addr) (len cap : Nat) (n2 : Int) (s2 : ByteArray) (b q cap2 : Nat) (op3 n3 : Int) (s3 : ByteArray) (a3 : Option Addr) (len3 cap3 : Nat) (x : Addr) (w : World) (he : ErrAt x w) (hl : Lies w 0 t (tmCells op n s a len cap)) (hk : Lies w 0 k (tmCells op3 n3 s3 a3 len3 cap3)) (hsz : t.size + k.size ≤ 2097140) (r0 : w.cell? ⟨b, q, none⟩ = some (.int .i64 op3)) (r1 : w.cell? ⟨b, q + 1, none⟩ = some (.int .i64 n3)) (r2 : w.cell? ⟨b, q + 2, none⟩ = some (.string s3)) (r3 : w.cell? ⟨b, q + 3, none⟩ = some (.slice a3 len3 cap3)) (hok : okT t = true) (hbf : beforeB k t = true) (hsh : okT (Tm.node 5 0 ByteArray.empty [k, t]) = true) :
    Calls Tryz.prog 34 #[.agg #[.int .i64 op, .int .i64 n, .string s, .slice a len cap], .agg #[.int .i64 4, .int .i64 n2, .string s2, .slice (some ⟨b, q, none⟩) 1 cap2]] w fun e w' => ∃ a', e = .returned (.tuple #[.agg #[.int .i64 5, .int .i64 0, .string ByteArray.empty, .slice a' 2 2], .nilIface]) ∧ Lies w' 0 (Tm.node 5 0 ByteArray.empty [k, t]) (tmCells 5 0 ByteArray.empty a' 2 2) ∧ Below w.heap.size w w' := by
  have hB0 : Below w.heap.size w (((w.alloc (.cells #[.int .i64 op, .int .i64 n, .string s, .slice a len cap] 28)).alloc (.cells #[.int .i64 4, .int .i64 n2, .string s2, .slice (some ⟨b, q, none⟩) 1 cap2] 28)).alloc (.cells #[.int .i64 0, .int .i64 0, .string ByteArray.empty, .slice none 0 0] 28)) := bt (bt (ab _) (ab _) (Nat.le_refl _)) (ab _) (Nat.le_refl _)
  have HX : Hid (ZBox (((w.alloc (.cells #[.int .i64 op, .int .i64 n, .string s, .slice a len cap] 28)).alloc (.cells #[.int .i64 4, .int .i64 n2, .string s2, .slice (some ⟨b, q, none⟩) 1 cap2] 28)).alloc (.cells #[.int .i64 0, .int .i64 0, .string ByteArray.empty, .slice none 0 0] 28)) (w.heap.size + 1 + 1)) := by
    have := ZBox.new ((w.alloc (.cells #[.int .i64 op, .int .i64 n, .string s, .slice a len cap] 28)).alloc (.cells #[.int .i64 4, .int .i64 n2, .string s2, .slice (some ⟨b, q, none⟩) 1 cap2] 28))
    rwa [heap_size_alloc, heap_size_alloc] at this
  have HRA : Hid (RowT 28 (((w.alloc (.cells #[.int .i64 op, .int .i64 n, .string s, .slice a len cap] 28)).alloc (.cells #[.int .i64 4, .int .i64 n2, .string s2, .slice (some ⟨b, q, none⟩) 1 cap2] 28)).alloc (.cells #[.int .i64 0, .int .i64 0, .string ByteArray.empty, .slice none 0 0] 28)) w.heap.size op n s a len cap) := ((RowT.new 28 w op n s a len cap).below (ab _)).below (ab _)
  have HRB : Hid (RowT 28 (((w.alloc (.cells #[.int .i64 op, .int .i64 n, .string s, .slice a len cap] 28)).alloc (.cells #[.int .i64 4, .int .i64 n2, .string s2, .slice (some ⟨b, q, none⟩) 1 cap2] 28)).alloc (.cells #[.int .i64 0, .int .i64 0, .string ByteArray.empty, .slice none 0 0] 28)) (w.heap.size + 1) 4 n2 s2 (some ⟨b, q, none⟩) 1 cap2) := by
    have := (RowT.new 28 (w.alloc (.cells #[.int .i64 op, .int .i64 n, .string s, .slice a len cap] 28)) 4 n2 s2 (some ⟨b, q, none⟩) 1 cap2).below (ab (.cells #[.int .i64 0, .int .i64 0, .string ByteArray.empty, .slice none 0 0] 28))
    rwa [heap_size_alloc] at this
  have HB0 := hide hB0
  have h61 := hide (fun V (hV : Below w.heap.size w V) => kid_yes n2 s2 b q cap2 op3 n3 s3 a3 len3 cap3 V (kpc hV r0) (kpc hV r1) (kpc hV r2) (kpc hV r3))
  have HLT := hide hl
  have HLK := hide hk
  have HER := hide he
  obtain ⟨c0, c1, c2, c3⟩ := (unhide HRB).facts
  have h46 := hide (fun V (hV : Below w.heap.size w V) => checked_yes t op n s a len cap V (hl.below hV) (by omega) hok)
  have h62 := hide (fun V (hV : Below w.heap.size w V) => before17 k t op3 n3 s3 a3 len3 cap3 op n s a len cap V (hk.below hV) (hl.below hV) (by omega))
  rw [hbf] at h62
  have HZ5 : Hid ((Tm.node 5 0 ByteArray.empty [k, t]).size ≤ 2097152) := by show _ ≤ _; simp only [Tm.size, Tm.sizes]; omega
  have h46' := hide (fun a5 V h => checked_yes (Tm.node 5 0 ByteArray.empty [k, t]) 5 0 ByteArray.empty a5 2 2 V h (unhide HZ5) hsh)
  clear hB0 he hl hk hsz hok hbf hsh r0 r1 r2 r3
  go_enter Tryz.func34, Tryz.ntmps34
  go_wp2_with fail
  refine (unhide h61 _ (unhide HB0)).mono ?_
  rintro e w2 ⟨rfl, hb2⟩
  have hb3 := bt hb2 (ab (.cells #[.int .i64 op3, .int .i64 n3, .string s3, .slice a3 len3 cap3] 28)) (Nat.le_refl _)
  have HB2 := hide (bt (unhide HB0) hb3 (Nat.le_refl _))
  have HX2 := hide ((unhide HX).below hb3)
  have HRA2 := hide ((unhide HRA).below hb3)
  have HK2 := hide (RowT.new 28 w2 op3 n3 s3 a3 len3 cap3)
  have HLTK : Hid (w.heap.size + 1 + 1 < w2.heap.size) := lt_of_heap ((unhide HX).below hb2)
  have HGK : Hid (w2.heap.size < (w2.alloc (.cells #[.int .i64 op3, .int .i64 n3, .string s3, .slice a3 len3 cap3] 28)).heap.size) := by show _ < _; simp
  clear hb2 hb3 c0 c1 c2 c3 HB0 HX HRA HRB
  obtain ⟨c0, c1, c2, c3⟩ := (unhide HRA2).facts
  go_wp2_with fail
  generalize hgw : w2.alloc (.cells #[.int .i64 op3, .int .i64 n3, .string s3, .slice a3 len3 cap3] 28) = W2 at *
  clear hgw
  generalize w2.heap.size = bK at *
  refine (unhide h46 _ (unhide HB2)).mono ?_
  rintro e w3 ⟨rfl, hb3⟩
  have hb4 := bt hb3 (ab (.cells #[.int .i64 op, .int .i64 n, .string s, .slice a len cap] 28)) (Nat.le_refl _)
  have HB3 := hide (bt (unhide HB2) hb4 (Nat.le_refl _))
  have HX3 := hide ((unhide HX2).below hb4)
  have HK3 := hide ((unhide HK2).below hb4)
  have HS3 := hide (RowT.new 28 w3 op n s a len cap)
  have HGS : Hid (w3.heap.size < (w3.alloc (.cells #[.int .i64 op, .int .i64 n, .string s, .slice a len cap] 28)).heap.size) := by show _ < _; simp
  have HLS : Hid (bK < w3.heap.size) := by have := unhide HGK; have := hb3.size; show _ < _; omega
  clear hb3 hb4 c0 c1 c2 c3 HB2 HX2 HRA2 HK2
  obtain ⟨c0, c1, c2, c3⟩ := (unhide HK3).facts
  obtain ⟨i0, i1, i2, i3⟩ := (unhide HS3).facts
  go_wp2_with fail
  generalize hgw : w3.alloc (.cells #[.int .i64 op, .int .i64 n, .string s, .slice a len cap] 28) = W3 at *
  clear hgw
  generalize w3.heap.size = bS at *
  refine (unhide h62 _ (unhide HB3)).mono ?_
  rintro e w4 ⟨rfl, hb4⟩
  have HB4 := hide (bt (unhide HB3) hb4 (Nat.le_refl _))
  have HX4 := hide ((unhide HX3).below hb4)
  have HK4 := hide ((unhide HK3).below hb4)
  have HS4 := hide ((unhide HS3).below hb4)
  have HL4 : Hid (bS < w4.heap.size) := by have := unhide HGS; have := hb4.size; show _ < _; omega
  clear hb4 c0 c1 c2 c3 i0 i1 i2 i3 HB3 HX3 HK3 HS3
  obtain ⟨c0, c1, c2, c3⟩ := (unhide HK4).facts
  obtain ⟨i0, i1, i2, i3⟩ := (unhide HS4).facts
  obtain ⟨k0, k1, k2, k3⟩ := (unhide HK4).thaw
  obtain ⟨j0, j1, j2, j3⟩ := (unhide HS4).thaw
  have m1 : bK ≠ bS := by have := unhide HLS; omega
  have m1' := Ne.symm m1
  have HGB : Hid (w.heap.size ≤ bK ∧ w.heap.size ≤ bS) := by have := unhide HLS; have := unhide HLTK; show _ ∧ _; omega
  have HNB : Hid (w.heap.size + 1 + 1 ≠ bK ∧ w.heap.size + 1 + 1 ≠ bS) := by have := unhide HLS; have := unhide HLTK; show _ ∧ _; omega
  go_wp2_with fail
  have hXs : ((((((((w4.setCell ⟨bS, 0, none⟩ (.int .i64 op3)).setCell ⟨bS, 1, none⟩ (.int .i64 n3)).setCell ⟨bS, 2, none⟩ (.string s3)).setCell ⟨bS, 3, none⟩ (.slice a3 len3 cap3)).setCell ⟨bK, 0, none⟩ (.int .i64 op)).setCell ⟨bK, 1, none⟩ (.int .i64 n)).setCell ⟨bK, 2, none⟩ (.string s)).setCell ⟨bK, 3, none⟩ (.slice a len cap)).heap.size = w4.heap.size := by simp only [nblk_setCell]
  have HXB : Hid (Below w.heap.size w ((((((((w4.setCell ⟨bS, 0, none⟩ (.int .i64 op3)).setCell ⟨bS, 1, none⟩ (.int .i64 n3)).setCell ⟨bS, 2, none⟩ (.string s3)).setCell ⟨bS, 3, none⟩ (.slice a3 len3 cap3)).setCell ⟨bK, 0, none⟩ (.int .i64 op)).setCell ⟨bK, 1, none⟩ (.int .i64 n)).setCell ⟨bK, 2, none⟩ (.string s)).setCell ⟨bK, 3, none⟩ (.slice a len cap))) := set4_below (set4_below (unhide HB4) (unhide HGB).2) (unhide HGB).1
  have HXZ : Hid (ZBox ((((((((w4.setCell ⟨bS, 0, none⟩ (.int .i64 op3)).setCell ⟨bS, 1, none⟩ (.int .i64 n3)).setCell ⟨bS, 2, none⟩ (.string s3)).setCell ⟨bS, 3, none⟩ (.slice a3 len3 cap3)).setCell ⟨bK, 0, none⟩ (.int .i64 op)).setCell ⟨bK, 1, none⟩ (.int .i64 n)).setCell ⟨bK, 2, none⟩ (.string s)).setCell ⟨bK, 3, none⟩ (.slice a len cap)) (w.heap.size + 1 + 1)) := ZBox.set4 (ZBox.set4 (unhide HX4) (unhide HNB).2) (unhide HNB).1
  have HCL : Hid (∀ (j : Nat) (v : Value), (#[.int .i64 op3, .int .i64 n3, .string s3, .slice a3 len3 cap3, .int .i64 op, .int .i64 n, .string s, .slice a len cap] : Array Value)[j]? = some v → (((((((((w4.setCell ⟨bS, 0, none⟩ (.int .i64 op3)).setCell ⟨bS, 1, none⟩ (.int .i64 n3)).setCell ⟨bS, 2, none⟩ (.string s3)).setCell ⟨bS, 3, none⟩ (.slice a3 len3 cap3)).setCell ⟨bK, 0, none⟩ (.int .i64 op)).setCell ⟨bK, 1, none⟩ (.int .i64 n)).setCell ⟨bK, 2, none⟩ (.string s)).setCell ⟨bK, 3, none⟩ (.slice a len cap)).alloc (.cells #[.int .i64 op3, .int .i64 n3, .string s3, .slice a3 len3 cap3, .int .i64 op, .int .i64 n, .string s, .slice a len cap] 28)).cell? ⟨w4.heap.size, j, none⟩ = some v) := fun j v hj => by
    rw [← hXs]
    exact row_cells ((((((((w4.setCell ⟨bS, 0, none⟩ (.int .i64 op3)).setCell ⟨bS, 1, none⟩ (.int .i64 n3)).setCell ⟨bS, 2, none⟩ (.string s3)).setCell ⟨bS, 3, none⟩ (.slice a3 len3 cap3)).setCell ⟨bK, 0, none⟩ (.int .i64 op)).setCell ⟨bK, 1, none⟩ (.int .i64 n)).setCell ⟨bK, 2, none⟩ (.string s)).setCell ⟨bK, 3, none⟩ (.slice a len cap)) op3 n3 s3 a3 len3 cap3 op n s a len cap j v hj
  generalize ((((((((w4.setCell ⟨bS, 0, none⟩ (.int .i64 op3)).setCell ⟨bS, 1, none⟩ (.int .i64 n3)).setCell ⟨bS, 2, none⟩ (.string s3)).setCell ⟨bS, 3, none⟩ (.slice a3 len3 cap3)).setCell ⟨bK, 0, none⟩ (.int .i64 op)).setCell ⟨bK, 1, none⟩ (.int .i64 n)).setCell ⟨bK, 2, none⟩ (.string s)).setCell ⟨bK, 3, none⟩ (.slice a len cap)) = X at *
  refine (unhide h46' _ _ ?_).mono ?_
  · refine lies_row2 ((unhide HLK).below ?_) ((unhide HLT).below ?_) (fun j v hj => unhide HCL j v hj) 5 (by decide)
    · exact bt (unhide HXB) (ab _) (Nat.le_refl _)
    · exact bt (unhide HXB) (ab _) (Nat.le_refl _)

  rintro e w5 ⟨rfl, hb5⟩
  have HB5 := hide (bt (bt (unhide HXB) (ab _) (Nat.le_refl _)) hb5 (Nat.le_refl _))
  have hX5 := ((unhide HXZ).below (ab _)).below hb5
  obtain ⟨d0, d1, d2, d3, e0, e1, e2, e3⟩ := hX5.facts
  have HC5 : Hid (∀ (j : Nat) (v : Value), (#[.int .i64 op3, .int .i64 n3, .string s3, .slice a3 len3 cap3, .int .i64 op, .int .i64 n, .string s, .slice a len cap] : Array Value)[j]? = some v → w5.cell? ⟨w4.heap.size, j, none⟩ = some v) := fun j v hj => kpc hb5 (unhide HCL j v hj)
  have HNG : Hid (w4.heap.size ≠ w.heap.size + 1 + 1) := by have := unhide HL4; have := unhide HLS; have := unhide HLTK; show _ ≠ _; omega
  clear hX5 hb5 c0 c1 c2 c3 i0 i1 i2 i3 k0 k1 k2 k3 j0 j1 j2 j3
  go_wp2_with fail
  have hBF := set4_below (g := w.heap.size + 1 + 1) (x0 := .int .i64 5) (x1 := .int .i64 0) (x2 := .string ByteArray.empty) (x3 := .slice (some ⟨w4.heap.size, 0, none⟩) 2 2) (unhide HB5) (by omega)
  exact bodyPost_ret (v := .tuple #[.agg #[.int .i64 5, .int .i64 0, .string ByteArray.empty, .slice (some ⟨w4.heap.size, 0, none⟩) 2 2], .nilIface]) (by simp [results, Tryz.results34, go_sem, d0, d1, d2, d3]; try rfl) rfl ⟨_, rfl, lies_row2 ((unhide HLK).below hBF) ((unhide HLT).below hBF) (fun j v hj => (World.cell?_of_block (set4_heap w5 _ _ _ _ _ w4.heap.size (unhide HNG))).trans (unhide HC5 j v hj)) 5 (by decide), hBF⟩

/-- Whether there is a share of a secret and an open half, and which. -/
def shrB (t : Tm) : Tm → Bool
  | .node op _ _ ks => match ks with
    | [k] => decide (op = 4) && okT (shareT t k)
    | _ => false
def shrT (t : Tm) : Tm → Tm
  | .node _ _ _ ks => match ks with
    | [k] => shareT t k
    | _ => .node 0 0 ByteArray.empty []

theorem share_okt {t k : Tm} (h : okT (shareT t k) = true) : okT t = true := by
  unfold shareT at h
  split at h
  · exact okT_kid h (by simp)
  · exact okT_kid h (by simp)

theorem lies_kid1 {w : World} {op n : Int} {s : ByteArray} {k : Tm} {op2 n2 : Int} {s2 : ByteArray} {a2 : Option Addr} {len2 cap2 : Nat} (hl : Lies w 0 (.node op n s [k]) (tmCells op2 n2 s2 a2 len2 cap2)) :
    op2 = op ∧ n2 = n ∧ s2 = s ∧ len2 = 1 ∧ ∃ b q op3 n3 s3 a3 len3 cap3, a2 = some ⟨b, q, none⟩ ∧
      (w.cell? ⟨b, q, none⟩ = some (.int .i64 op3) ∧ w.cell? ⟨b, q + 1, none⟩ = some (.int .i64 n3) ∧ w.cell? ⟨b, q + 2, none⟩ = some (.string s3) ∧ w.cell? ⟨b, q + 3, none⟩ = some (.slice a3 len3 cap3) ∧ Lies w 0 k (tmCells op3 n3 s3 a3 len3 cap3)) := by
  have hx := hl
  simp only [Lies, tmCells, List.cons.injEq, Value.int.injEq, Value.string.injEq, Value.slice.injEq, true_and, and_true] at hx
  obtain ⟨a9, c9, ⟨rfl, rfl, rfl, rfl, rfl, rfl⟩, _, _, hka⟩ := hx
  obtain ⟨b, q, op3, n3, s3, a3, len3, cap3, rfl, _, _, r0, r1, r2, r3, hk0⟩ := hka.elem (k := 0) (by simp)
  simp only [Nat.zero_mul, Nat.add_zero] at r0 r1 r2 r3
  exact ⟨rfl, rfl, rfl, by simp, b, q, op3, n3, s3, a3, len3, cap3, rfl, r0, r1, r2, r3, hk0⟩

theorem shareI_no (t u : Tm) (op n : Int) (s : ByteArray) (a : Option Addr) (len cap : Nat) (op2 n2 : Int) (s2 : ByteArray) (a2 : Option Addr) (len2 cap2 : Nat) (x : Addr) (w : World) (he : ErrAt x w) (hl : Lies w 0 t (tmCells op n s a len cap)) (hl2 : Lies w 0 u (tmCells op2 n2 s2 a2 len2 cap2)) (hsz : t.size + u.size ≤ 2097140) (h : shrB t u = false) :
    Calls Tryz.prog 34 #[.agg #[.int .i64 op, .int .i64 n, .string s, .slice a len cap], .agg #[.int .i64 op2, .int .i64 n2, .string s2, .slice a2 len2 cap2]] w fun e w' => e = .returned (.tuple #[.agg #[.int .i64 0, .int .i64 0, .string ByteArray.empty, .slice none 0 0], .iface 128 (.pointer (some x))]) ∧ Below w.heap.size w w' := by
  obtain ⟨o, m, z, ks⟩ := u
  match ks, hl2, hsz, h with
  | [k], hl2, hsz, h =>
    obtain ⟨rfl, rfl, rfl, rfl, b, q, op3, n3, s3, a3, len3, cap3, rfl, r0, r1, r2, r3, hk⟩ := lies_kid1 hl2
    by_cases h4 : op2 = 4
    · subst h4
      simp only [shrB, decide_true, Bool.true_and] at h
      simp only [Tm.size, Tm.sizes] at hsz
      cases hok : okT t with
      | false => exact share_no2 t k op n s a len cap n2 s2 b q cap2 op3 n3 s3 a3 len3 cap3 x w he hl hk (by omega) r0 r1 r2 r3 hok
      | true =>
        cases hb : beforeB k t with
        | false =>
          simp only [shareT, hb, Bool.false_eq_true, if_false] at h
          exact share_no3_a t k op n s a len cap n2 s2 b q cap2 op3 n3 s3 a3 len3 cap3 x w he hl hk (by omega) r0 r1 r2 r3 hok hb h
        | true =>
          simp only [shareT, hb, if_true] at h
          exact share_no3_b t k op n s a len cap n2 s2 b q cap2 op3 n3 s3 a3 len3 cap3 x w he hl hk (by omega) r0 r1 r2 r3 hok hb h
    · exact share_no1 op n s a len cap op2 n2 s2 (some ⟨b, q, none⟩) 1 cap2 x w he (Or.inl h4)
  | [], hl2, _, _ =>
    refine share_no1 op n s a len cap op2 n2 s2 a2 len2 cap2 x w he (Or.inr ?_)
    simp only [Lies, tmCells, List.cons.injEq, Value.slice.injEq] at hl2
    obtain ⟨_, _, ⟨_, _, _, ⟨_, hl, _⟩, _⟩, _⟩ := hl2
    simp only [List.length_nil] at hl
    omega
  | _ :: _ :: _, hl2, _, _ =>
    refine share_no1 op n s a len cap op2 n2 s2 a2 len2 cap2 x w he (Or.inr ?_)
    simp only [Lies, tmCells, List.cons.injEq, Value.slice.injEq] at hl2
    obtain ⟨_, _, ⟨_, _, _, ⟨_, hl, _⟩, _⟩, _⟩ := hl2
    simp only [List.length_cons] at hl
    omega

theorem shareI_yes (t u : Tm) (op n : Int) (s : ByteArray) (a : Option Addr) (len cap : Nat) (op2 n2 : Int) (s2 : ByteArray) (a2 : Option Addr) (len2 cap2 : Nat) (x : Addr) (w : World) (he : ErrAt x w) (hl : Lies w 0 t (tmCells op n s a len cap)) (hl2 : Lies w 0 u (tmCells op2 n2 s2 a2 len2 cap2)) (hsz : t.size + u.size ≤ 2097140) (h : shrB t u = true) :
    Calls Tryz.prog 34 #[.agg #[.int .i64 op, .int .i64 n, .string s, .slice a len cap], .agg #[.int .i64 op2, .int .i64 n2, .string s2, .slice a2 len2 cap2]] w fun e w' => ∃ a', e = .returned (.tuple #[.agg #[.int .i64 5, .int .i64 0, .string ByteArray.empty, .slice a' 2 2], .nilIface]) ∧ Lies w' 0 (shrT t u) (tmCells 5 0 ByteArray.empty a' 2 2) ∧ Below w.heap.size w w' := by
  obtain ⟨o, m, z, ks⟩ := u
  match ks, hl2, hsz, h with
  | [k], hl2, hsz, h9 =>
    obtain ⟨rfl, rfl, rfl, rfl, b, q, op3, n3, s3, a3, len3, cap3, rfl, r0, r1, r2, r3, hk⟩ := lies_kid1 hl2
    simp only [shrB, Bool.and_eq_true, decide_eq_true_eq] at h9
    obtain ⟨rfl, h8⟩ := h9
    have hok := share_okt h8
    simp only [Tm.size, Tm.sizes] at hsz
    cases hb : beforeB k t with
    | false =>
      simp only [shrT, shareT, hb, Bool.false_eq_true, if_false] at h8 ⊢
      exact share_yes_a t k op n s a len cap n2 s2 b q cap2 op3 n3 s3 a3 len3 cap3 x w he hl hk (by omega) r0 r1 r2 r3 hok hb h8
    | true =>
      simp only [shrT, shareT, hb, if_true] at h8 ⊢
      exact share_yes_b t k op n s a len cap n2 s2 b q cap2 op3 n3 s3 a3 len3 cap3 x w he hl hk (by omega) r0 r1 r2 r3 hok hb h8
  | [], _, _, h9 => simp [shrB] at h9
  | _ :: _ :: _, _, _, h9 => simp [shrB] at h9

theorem agree_sh {t u : Tm} (h : agreeB t u = true) : shrB t u = true ∧ agreeT t u = shrT t u := by
  obtain ⟨o, m, z, ks⟩ := u
  match ks, h with
  | [k], h =>
    have h' := h
    simp only [agreeB, Bool.and_eq_true, decide_eq_true_eq] at h'
    refine ⟨by simp [shrB, h'.1.1, h'.2], ?_⟩
    show pickT (agreeB t (.node o m z [k])) (shareT t k) = shareT t k
    rw [h]
    rfl
  | [], h => simp [agreeB] at h
  | _ :: _ :: _, h => simp [agreeB] at h
theorem sh_agree {t u : Tm} (h : shrB t u = true) (ha : agreeB t u = false) : okT u = false := by
  obtain ⟨o, m, z, ks⟩ := u
  match ks, h, ha with
  | [k], h, ha =>
    simp only [shrB, Bool.and_eq_true, decide_eq_true_eq] at h
    cases hk : okT (.node o m z [k]) with
    | false => rfl
    | true =>
      simp only [agreeB] at ha
      rw [hk, h.2] at ha
      simp [h.1] at ha
  | [], h, _ => simp [shrB] at h
  | _ :: _ :: _, h, _ => simp [shrB] at h

end Go.Proofs.YtafoonabmijcdaaGreatDoor
