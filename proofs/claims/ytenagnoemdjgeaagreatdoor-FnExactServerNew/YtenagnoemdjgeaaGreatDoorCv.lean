
/- What a certificate comes to as a term, and the walks of spec.CertTerm: the term in memory; nothing that was there is written. The walks of spec.CertTerm where the certificate is not right, and of impl.hostText and impl.CertTerm: what a certificate comes to, in new blocks of its own; zero where it is not right; nothing that was there is written. The walks of impl.CertTerm where the certificate is not right, and at any; of laws.toCert, in new blocks of its own; of laws.markCert. -/
import Derived.Test.YtenagnoemdjgeaaGreatDoorCa
import Derived.Test.YtenagnoemdjgeaaGreatDoorSg
import Derived.Test.YtenagnoemdjgeaaGreatDoorSl
import Derived.Test.YtenagnoemdjgeaaGreatDoorLg
import Derived.Test.YtenagnoemdjgeaaGreatDoorMk
import Derived.Test.YtenagnoemdjgeaaGreatDoorTp
namespace Go.Proofs.YtenagnoemdjgeaaGreatDoor
open Go.RowKit Go.Deep

/-- The text. -/
def textT (h : ByteArray) : Tm := .node 2 0 h []
/-- The atom that signs. -/
def oneT : Tm := .node 1 1 ByteArray.empty []
/-- What a certificate comes to. -/
def certT (h : ByteArray) (t : Tm) (u : Int) : Tm := madeT 8 [oneT, madeT 3 [textT h, madeT 3 [t, numT u]]]
set_option maxRecDepth 100000 in
theorem madeT_200 (op : Int) (ks : List Tm) : (madeT op ks).size ≤ 200 := by
  unfold madeT pickT
  split
  · rename_i h
    simp only [okT, Bool.and_eq_true, decide_eq_true_eq] at h
    exact h.1
  · simp [Tm.size, Tm.sizes]
set_option maxRecDepth 100000 in
theorem made_in (op : Int) (k : Tm) (op2 : Int) (ks : List Tm) : madeT op [k, madeT op2 ks] = madeT op [k, .node op2 0 ByteArray.empty ks] := by
  cases h : okT (.node op2 0 ByteArray.empty ks) with
  | true =>
    have e : madeT op2 ks = .node op2 0 ByteArray.empty ks := by unfold madeT; rw [h]; rfl
    rw [e]
  | false =>
    have e : madeT op2 ks = .node 0 0 ByteArray.empty [] := by unfold madeT; rw [h]; rfl
    have h1 : okT (.node op 0 ByteArray.empty [k, .node op2 0 ByteArray.empty ks]) = false := by
      cases h2 : okT (.node op 0 ByteArray.empty [k, .node op2 0 ByteArray.empty ks]) with
      | false => rfl
      | true =>
        have := okT_kid h2 (x := .node op2 0 ByteArray.empty ks) (by simp)
        rw [h] at this
        cases this
    rw [e]
    unfold madeT
    rw [h1, okT_zero]
    rfl
set_option maxRecDepth 100000 in
theorem cert_one (h : ByteArray) (t : Tm) (u : Int) : madeT 8 [oneT, .node 3 0 ByteArray.empty [textT h, .node 3 0 ByteArray.empty [t, numT u]]] = certT h t u := by
  unfold certT
  rw [made_in 3 (textT h), made_in 8 oneT]
set_option maxRecDepth 100000 in
theorem certT_200 (h : ByteArray) (t : Tm) (u : Int) : (certT h t u).size ≤ 200 := madeT_200 _ _
set_option maxRecDepth 100000 in
theorem okT_200 {t : Tm} (h : okT t = true) : t.size ≤ 200 := by
  simp only [okT, Bool.and_eq_true, decide_eq_true_eq] at h
  exact h.1
set_option maxRecDepth 100000 in
theorem certB_ok {h : ByteArray} {t : Tm} {u : Int} (hc : certB h t u = true) : hostP h ∧ opT t = 4 ∧ okT t = true ∧ 0 ≤ u ∧ u ≤ 100000 := by
  simp only [certB, Bool.and_eq_true, beq_iff_eq, decide_eq_true_eq] at hc
  exact ⟨hostB_iff.1 hc.1, hc.2.1, hc.2.2.1, hc.2.2.2.1, hc.2.2.2.2⟩

set_option maxRecDepth 100000 in
theorem atom1S (w : World) : Calls Tryz.prog 54 #[.int .i64 1] w fun e w' => e = .returned (.agg #[.int .i64 1, .int .i64 1, .string ByteArray.empty, .slice none 0 0]) ∧ Below w.heap.size w w' :=
  (atom6 1 w (by decide)).mono fun _ _ ⟨he, hb⟩ => ⟨by rw [he, show atOp 1 = 1 from by unfold atOp; rw [if_pos (by decide)], show atN 1 = 1 from by unfold atN; rw [if_pos (by decide)]], hb⟩

set_option maxRecDepth 100000 in
theorem RowC.only6 {ty : TypeId} {w : World} {b : Nat} {h : ByteArray} {op n : Int} {s : ByteArray} {a : Option Addr} {len cap : Nat} {u : Int} (hr : RowC ty w b h op n s a len cap u) : b < w.heap.size := hr.lt

set_option maxRecDepth 100000 in
set_option maxHeartbeats 4000000 in
theorem certTS_yes (t : Tm) (h : ByteArray) (op n : Int) (s : ByteArray) (a : Option Addr) (len cap : Nat) (u : Int) (w : World) (hl : Lies w 0 t (tmCells op n s a len cap)) (hc : certB h t u = true) :
    Calls Tryz.prog 15 #[.agg #[.string h, .int .i64 op, .int .i64 n, .string s, .slice a len cap, .int .i64 u]] w fun e w' => ∃ op' n' s' a' len' cap', e = .returned (.agg #[.int .i64 op', .int .i64 n', .string s', .slice a' len' cap']) ∧ Lies w' w.heap.size (certT h t u) (tmCells op' n' s' a' len' cap') ∧ Below w.heap.size w w' ∧ len' = cap' := by
  obtain ⟨hh, _, hok, hu0, hu1⟩ := certB_ok hc
  have ht := okT_200 hok
  have hhs : h.size ≤ 60 := hh.1
  have h14 := hide (fun v hv => certS t h op n s a len cap u v hv (by omega) (by omega))
  rw [hc] at h14
  have h16 := hide atom1S
  have h18 := hide (fun v => num_calls u v (by omega) (by omega))
  have h17 := hide (fun v hl1 hl2 => pair12 t (numT u) op n s a len cap 2 0 ⟨(Lib.itoa u).toArray⟩ none 0 0 v hl1 hl2 (by rw [numT_size]; omega))
  have h17' := hide (fun op3 n3 s3 a3 len3 cap3 v hl1 hl2 => pair12 (textT h) (madeT 3 [t, numT u]) 2 0 h none 0 0 op3 n3 s3 a3 len3 cap3 v hl1 hl2 (by have := madeT_200 3 [t, numT u]; simp only [textT, Tm.size, Tm.sizes]; omega))
  have h15 := hide (fun op4 n4 s4 a4 len4 cap4 v hl1 hl2 => signS oneT (madeT 3 [textT h, madeT 3 [t, numT u]]) 1 1 ByteArray.empty none 0 0 op4 n4 s4 a4 len4 cap4 v hl1 hl2 (by have := madeT_200 3 [textT h, madeT 3 [t, numT u]]; simp only [oneT, Tm.size, Tm.sizes]; omega))
  have HNL : Hid (∀ v : World, Lies v 0 (numT u) (tmCells 2 0 ⟨(Lib.itoa u).toArray⟩ none 0 0)) := fun v => lies_leaf v 2 0 _ (itoa_size u (by omega) (by omega)) (by decide) (by decide)
  have HTL : Hid (∀ v : World, Lies v 0 (textT h) (tmCells 2 0 h none 0 0)) := fun v => lies_leaf v 2 0 _ (by unfold maxLen; omega) (by decide) (by decide)
  have HOL : Hid (∀ v : World, Lies v 0 oneT (tmCells 1 1 ByteArray.empty none 0 0)) := fun v => lies_leaf v 1 1 _ (by simp [maxLen]) (by decide) (by decide)
  have HE : Hid (certT h t u = madeT 8 [oneT, madeT 3 [textT h, madeT 3 [t, numT u]]]) := rfl
  generalize certT h t u = CT at *
  generalize madeT 8 [oneT, madeT 3 [textT h, madeT 3 [t, numT u]]] = ST at *
  generalize madeT 3 [textT h, madeT 3 [t, numT u]] = PT at *
  generalize madeT 3 [t, numT u] = QT at *
  generalize numT u = NT at *
  generalize (⟨(Lib.itoa u).toArray⟩ : ByteArray) = ns at *
  have hB0 : Below w.heap.size w ((w.alloc (.cells #[.string h, .int .i64 op, .int .i64 n, .string s, .slice a len cap, .int .i64 u] 41)).alloc (.cells #[.int .i64 0, .int .i64 0, .string ByteArray.empty, .slice none 0 0] 24)) := bt (ab _) (ab _) (Nat.le_refl _)
  have HX : Hid (ZBox ((w.alloc (.cells #[.string h, .int .i64 op, .int .i64 n, .string s, .slice a len cap, .int .i64 u] 41)).alloc (.cells #[.int .i64 0, .int .i64 0, .string ByteArray.empty, .slice none 0 0] 24)) (w.heap.size + 1)) := by
    have := ZBox.new (w.alloc (.cells #[.string h, .int .i64 op, .int .i64 n, .string s, .slice a len cap, .int .i64 u] 41))
    rwa [heap_size_alloc] at this
  have HR : Hid (RowC 41 ((w.alloc (.cells #[.string h, .int .i64 op, .int .i64 n, .string s, .slice a len cap, .int .i64 u] 41)).alloc (.cells #[.int .i64 0, .int .i64 0, .string ByteArray.empty, .slice none 0 0] 24)) w.heap.size h op n s a len cap u) := (RowC.new 41 w h op n s a len cap u).below (ab _)
  have HL := hide (hl.below hB0)
  have HB0 := hide hB0
  clear hl hB0 hc hh hok ht hhs hu0 hu1
  go_enter Tryz.func15, Tryz.ntmps15
  go_wp2_with fail
  refine (unhide h14 _ (unhide HL)).mono ?_
  rintro e W0 ⟨rfl, hb1⟩
  have HB1 := hide (bt (unhide HB0) hb1 (Nat.le_refl _))
  have HL1 := hide ((unhide HL).below hb1)
  have HX1 := hide ((unhide HX).below hb1)
  have HR1 := hide ((unhide HR).below hb1)
  clear hb1 HB0 HL HX HR h14
  obtain ⟨c0, c1, c2, c3, c4, c5⟩ := (unhide HR1).facts
  have hne1 : (w.heap.size = w.heap.size + 1) = False := by simp
  have hne2 : (w.heap.size + 1 = w.heap.size) = False := by simp
  have hsA : w.heap.size + 1 < W0.heap.size := lt_of_heap (unhide HX1)
  go_wp2_with fail
  go_region_held3 (fun x => x.cell? ⟨w.heap.size, 0, none⟩ = some (.string h) ∧ x.cell? ⟨w.heap.size, 1, none⟩ = some (.int .i64 op) ∧ x.cell? ⟨w.heap.size, 2, none⟩ = some (.int .i64 n) ∧ x.cell? ⟨w.heap.size, 3, none⟩ = some (.string s) ∧ x.cell? ⟨w.heap.size, 4, none⟩ = some (.slice a len cap) ∧ x.cell? ⟨w.heap.size, 5, none⟩ = some (.int .i64 u)) (go_keep)
    (first
      | (go_at_call 54
         refine (unhide h16 _).mono ?_
         rintro e w2 ⟨rfl, hb2⟩
         have hb2' := hide (below_drew' hb2)
         have f0 := kpc (unhide hb2') c0
         have f1 := kpc (unhide hb2') c1
         have f2 := kpc (unhide hb2') c2
         have f3 := kpc (unhide hb2') c3
         have f4 := kpc (unhide hb2') c4
         have f5 := kpc (unhide hb2') c5)
      | (go_at_call 65
         refine (unhide h18 _).mono ?_
         rintro e w3 ⟨rfl, hb3⟩
         have hb3' := hide hb3
         have g0 := kpc hb3 f0
         have g1 := kpc hb3 f1
         have g2 := kpc hb3 f2
         have g3 := kpc hb3 f3
         have g4 := kpc hb3 f4
         have g5 := kpc hb3 f5)
      | (go_at_call 64
         refine (unhide h17 _ (((unhide HL1).below (unhide hb2')).below (unhide hb3')) (unhide HNL _)).mono ?_
         rintro e w4 ⟨op3, n3, s3, a3, len3, cap3, rfl, hL4, hb4, -⟩
         have hb4' := hide hb4
         have HL4 := hide (hL4.any (Nat.zero_le _))
         have j0 := kpc hb4 g0
         have j1 := kpc hb4 g1
         have j2 := kpc hb4 g2
         have j3 := kpc hb4 g3
         have j4 := kpc hb4 g4
         have j5 := kpc hb4 g5)
      | (go_at_call 64
         refine (unhide h17' _ _ _ _ _ _ _ (unhide HTL _) (unhide HL4)).mono ?_
         rintro e w5 ⟨op4, n4, s4, a4, len4, cap4, rfl, hL5, hb5, -⟩
         have hb5' := hide hb5
         have HL5 := hide (hL5.any (Nat.zero_le _))
         have k0 := kpc hb5 j0
         have k1 := kpc hb5 j1
         have k2 := kpc hb5 j2
         have k3 := kpc hb5 j3
         have k4 := kpc hb5 j4
         have k5 := kpc hb5 j5)
      | (go_at_call 63
         refine (unhide h15 _ _ _ _ _ _ _ (unhide HOL _) (unhide HL5)).mono ?_
         rintro e w6 ⟨op', n', s', a', len', cap', rfl, hL6, hb6, htt⟩
         have HTT := hide htt
         clear htt
         have hb6' := hide hb6
         have HL6 := hide hL6
         obtain ⟨p0, p1, p2, p3, q0, q1, q2, q3⟩ := ((((((unhide HX1).below (unhide hb2')).below (unhide hb3')).below (unhide hb4')).below (unhide hb5')).below hb6).facts
         have l0 := kpc hb6 k0
         have l1 := kpc hb6 k1
         have l2 := kpc hb6 k2
         have l3 := kpc hb6 k3
         have l4 := kpc hb6 k4
         have l5 := kpc hb6 k5))
  have HSZ : Hid (w.heap.size + 1 < w5.heap.size) := by show _ < _; have := (unhide hb2').size; have := (unhide hb3').size; have := (unhide hb4').size; have := (unhide hb5').size; omega
  have HB6 := hide (bt (bt (bt (bt (bt (unhide HB1) (unhide hb2') (Nat.le_refl _)) (unhide hb3') (Nat.le_refl _)) (unhide hb4') (Nat.le_refl _)) (unhide hb5') (Nat.le_refl _)) (unhide hb6') (Nat.le_refl _))
  clear f0 f1 f2 f3 f4 f5 c0 c1 c2 c3 c4 c5 g0 g1 g2 g3 g4 g5 j0 j1 j2 j3 j4 j5 k0 k1 k2 k3 k4 k5 l0 l1 l2 l3 l4 l5 hb2' hb3' hb4' hb5' hb6'
  go_wp2_with fail
  exact bodyPost_ret (v := .agg #[.int .i64 op', .int .i64 n', .string s', .slice a' len' cap']) (by simp [results, Tryz.results15, go_sem, p0, p1, p2, p3]) rfl ⟨op', n', s', a', len', cap', rfl, by rw [unhide HE]; exact set4_lies (unhide HL6) (unhide HSZ) w.heap.size (by have := unhide HSZ; omega), set4_below (unhide HB6) (by omega), unhide HTT⟩

set_option maxRecDepth 100000 in
set_option maxHeartbeats 1000000 in
theorem certTS_no (t : Tm) (h : ByteArray) (op n : Int) (s : ByteArray) (a : Option Addr) (len cap : Nat) (u : Int) (w : World) (hl : Lies w 0 t (tmCells op n s a len cap)) (hsz : t.size ≤ 2097152) (hh : h.size ≤ 2097152) (hc : certB h t u = false) :
    Calls Tryz.prog 15 #[.agg #[.string h, .int .i64 op, .int .i64 n, .string s, .slice a len cap, .int .i64 u]] w fun e w' => e = .returned (.agg #[.int .i64 0, .int .i64 0, .string ByteArray.empty, .slice none 0 0]) ∧ Below w.heap.size w w' := by
  have h14 := hide (fun v hv => certS t h op n s a len cap u v hv hsz hh)
  rw [hc] at h14
  have hB0 : Below w.heap.size w ((w.alloc (.cells #[.string h, .int .i64 op, .int .i64 n, .string s, .slice a len cap, .int .i64 u] 41)).alloc (.cells #[.int .i64 0, .int .i64 0, .string ByteArray.empty, .slice none 0 0] 24)) := bt (ab _) (ab _) (Nat.le_refl _)
  have HX : Hid (ZBox ((w.alloc (.cells #[.string h, .int .i64 op, .int .i64 n, .string s, .slice a len cap, .int .i64 u] 41)).alloc (.cells #[.int .i64 0, .int .i64 0, .string ByteArray.empty, .slice none 0 0] 24)) (w.heap.size + 1)) := by
    have := ZBox.new (w.alloc (.cells #[.string h, .int .i64 op, .int .i64 n, .string s, .slice a len cap, .int .i64 u] 41))
    rwa [heap_size_alloc] at this
  have HL := hide (hl.below hB0)
  have HB0 := hide hB0
  clear hl hB0 hc
  go_enter Tryz.func15, Tryz.ntmps15
  go_wp2_with fail
  refine (unhide h14 _ (unhide HL)).mono ?_
  rintro e w2 ⟨rfl, hb2⟩
  obtain ⟨p0, p1, p2, p3, q0, q1, q2, q3⟩ := ((unhide HX).below hb2).facts
  have HB2 := hide (bt (unhide HB0) hb2 (Nat.le_refl _))
  clear hb2
  go_wp2_with fail
  exact bodyPost_ret (v := .agg #[.int .i64 0, .int .i64 0, .string ByteArray.empty, .slice none 0 0]) (by simp [results, Tryz.results15, go_sem, p0, p1, p2, p3]; try rfl) rfl ⟨rfl, set4_below (unhide HB2) (by omega)⟩

set_option maxRecDepth 100000 in
set_option maxHeartbeats 1000000 in
theorem hostText24 (h : ByteArray) (op n : Int) (s : ByteArray) (a : Option Addr) (len cap : Nat) (u : Int) (w : World) :
    Calls Tryz.prog 68 #[.agg #[.string h, .int .i64 op, .int .i64 n, .string s, .slice a len cap, .int .i64 u]] w fun e w' => e = .returned (.agg #[.int .i64 2, .int .i64 0, .string h, .slice none 0 0]) ∧ Below w.heap.size w w' := by
  have hB0 : Below w.heap.size w ((w.alloc (.cells #[.string h, .int .i64 op, .int .i64 n, .string s, .slice a len cap, .int .i64 u] 41)).alloc (.cells #[.int .i64 2, .int .i64 0, .string h, .slice none 0 0] 24)) := bt (ab _) (ab _) (Nat.le_refl _)
  have HB0 := hide hB0
  clear hB0
  go_enter Tryz.func68, Tryz.ntmps68
  go_wp2_with fail
  have HR := RowT.new 24 (w.alloc (.cells #[.string h, .int .i64 op, .int .i64 n, .string s, .slice a len cap, .int .i64 u] 41)) 2 0 h none 0 0
  rw [heap_size_alloc] at HR
  obtain ⟨p0, p1, p2, p3⟩ := HR.facts
  exact bodyPost_ret (v := .agg #[.int .i64 2, .int .i64 0, .string h, .slice none 0 0]) (by simp [results, Tryz.results68, go_sem, p0, p1, p2, p3]; try rfl) rfl ⟨rfl, unhide HB0⟩

set_option maxRecDepth 100000 in
theorem atom1I (w : World) (herr : Err w) : Calls Tryz.prog 56 #[.int .i64 1] w fun e w' => e = .returned (.agg #[.int .i64 1, .int .i64 1, .string ByteArray.empty, .slice none 0 0]) ∧ Below w.heap.size w w' :=
  (atom7 1 w (by decide) herr).mono fun _ _ ⟨he, hb⟩ => ⟨by rw [he, show atOp 1 = 1 from by unfold atOp; rw [if_pos (by decide)], show atN 1 = 1 from by unfold atN; rw [if_pos (by decide)]], hb⟩

set_option maxRecDepth 100000 in
theorem DcCut.mk {w2 wx : World} {g b : Nat} {NT u : Tm} {ns s2 : ByteArray} {op2 n2 : Int} {a2 : Option Addr} {len2 cap2 : Nat} (hb : Below w2.heap.size w2 wx) (hrow : RowT 24 wx g 3 0 ByteArray.empty (some ⟨b, 0, none⟩) 2 2) (hc : ∀ j v, (#[.int .i64 op2, .int .i64 n2, .string s2, .slice a2 len2 cap2, .int .i64 2, .int .i64 0, .string ns, .slice none 0 0] : Array Value)[j]? = some v → wx.cell? ⟨b, j, none⟩ = some v) (hN : ∀ v : World, Lies v 0 NT (tmCells 2 0 ns none 0 0)) (hu : Lies w2 0 u (tmCells op2 n2 s2 a2 len2 cap2)) :
    SlCut (.node 3 0 ByteArray.empty [u, NT]) w2 (.pointer (some ⟨g, 0, none⟩)) wx := ⟨g, _, rfl, hrow, lies_row2 (hu.below hb) (hN _) hc 3 (by decide), hb⟩
set_option maxRecDepth 100000 in
theorem DcCut.late {w2 X : World} {NT u : Tm} {ns s2 : ByteArray} {op2 n2 : Int} {a2 : Option Addr} {len2 cap2 : Nat} (hb : Below w2.heap.size w2 X) (hN : ∀ v : World, Lies v 0 NT (tmCells 2 0 ns none 0 0)) (hu : Lies w2 0 u (tmCells op2 n2 s2 a2 len2 cap2)) :
    SlCut (.node 3 0 ByteArray.empty [u, NT]) w2 (.pointer (some ⟨X.heap.size + 1, 0, none⟩)) ((X.alloc (.cells #[.int .i64 op2, .int .i64 n2, .string s2, .slice a2 len2 cap2, .int .i64 2, .int .i64 0, .string ns, .slice none 0 0] 24)).alloc (.cells #[.int .i64 3, .int .i64 0, .string ⟨#[]⟩, .slice (some ⟨X.heap.size, 0, none⟩) 2 2] 24)) := by
  have hr := RowT.new 24 (X.alloc (.cells #[.int .i64 op2, .int .i64 n2, .string s2, .slice a2 len2 cap2, .int .i64 2, .int .i64 0, .string ns, .slice none 0 0] 24)) 3 0 ByteArray.empty (some ⟨X.heap.size, 0, none⟩) 2 2
  rw [heap_size_alloc] at hr
  exact DcCut.mk (bt (bt hb (ab _) (Nat.le_refl _)) (ab _) (Nat.le_refl _)) hr (fun j v hj => kpc (ab _) (box_cell X _ 24 j v hj)) hN hu
set_option maxRecDepth 100000 in
theorem DcCut.mid {w2 X : World} {NT u : Tm} {ns s2 : ByteArray} {op2 n2 : Int} {a2 : Option Addr} {len2 cap2 : Nat} (hb : Below w2.heap.size w2 X) (hN : ∀ v : World, Lies v 0 NT (tmCells 2 0 ns none 0 0)) (hu : Lies w2 0 u (tmCells op2 n2 s2 a2 len2 cap2)) :
    SlCut (.node 3 0 ByteArray.empty [u, NT]) w2 (.pointer (some ⟨X.heap.size, 0, none⟩)) ((X.alloc (.cells #[.int .i64 3, .int .i64 0, .string ⟨#[]⟩, .slice (some ⟨X.heap.size + 1, 0, none⟩) 2 2] 24)).alloc (.cells #[.int .i64 op2, .int .i64 n2, .string s2, .slice a2 len2 cap2, .int .i64 2, .int .i64 0, .string ns, .slice none 0 0] 24)) := by
  have hr := (RowT.new 24 X 3 0 ByteArray.empty (some ⟨X.heap.size + 1, 0, none⟩) 2 2).below (ab (.cells #[.int .i64 op2, .int .i64 n2, .string s2, .slice a2 len2 cap2, .int .i64 2, .int .i64 0, .string ns, .slice none 0 0] 24))
  exact DcCut.mk (bt (bt hb (ab _) (Nat.le_refl _)) (ab _) (Nat.le_refl _)) hr (fun j v hj => by have := box_cell (X.alloc (.cells #[.int .i64 3, .int .i64 0, .string ByteArray.empty, .slice (some ⟨X.heap.size + 1, 0, none⟩) 2 2] 24)) _ 24 j v hj; rwa [heap_size_alloc] at this) hN hu
set_option maxRecDepth 100000 in
theorem DcCut.early {w2 X Y : World} {g : Nat} {NT u : Tm} {ns s2 : ByteArray} {op2 n2 : Int} {a2 : Option Addr} {len2 cap2 : Nat} (hb : Below w2.heap.size w2 X) (hz : ZBox X g) (hg : w2.heap.size ≤ g) (hN : ∀ v : World, Lies v 0 NT (tmCells 2 0 ns none 0 0)) (hu : Lies w2 0 u (tmCells op2 n2 s2 a2 len2 cap2))
    (hY : Y = ((((X.setCell ⟨g, 0, none⟩ (.int .i64 3)).setCell ⟨g, 1, none⟩ (.int .i64 0)).setCell ⟨g, 2, none⟩ (.string ⟨#[]⟩)).setCell ⟨g, 3, none⟩ (.slice (some ⟨X.heap.size, 0, none⟩) 2 2))) :
    SlCut (.node 3 0 ByteArray.empty [u, NT]) w2 (.pointer (some ⟨g, 0, none⟩)) (Y.alloc (.cells #[.int .i64 op2, .int .i64 n2, .string s2, .slice a2 len2 cap2, .int .i64 2, .int .i64 0, .string ns, .slice none 0 0] 24)) := by
  have hf := fill26 hz 3 0 ByteArray.empty (some ⟨X.heap.size, 0, none⟩) 2 2
  have hby := set4_below (x0 := .int .i64 3) (x1 := .int .i64 0) (x2 := .string ByteArray.empty) (x3 := .slice (some ⟨X.heap.size, 0, none⟩) 2 2) hb hg
  have hs : Y.heap.size = X.heap.size := by rw [hY]; simp
  have hf : RowT 24 ((((X.setCell ⟨g, 0, none⟩ (.int .i64 3)).setCell ⟨g, 1, none⟩ (.int .i64 0)).setCell ⟨g, 2, none⟩ (.string ⟨#[]⟩)).setCell ⟨g, 3, none⟩ (.slice (some ⟨X.heap.size, 0, none⟩) 2 2)) g 3 0 ByteArray.empty (some ⟨X.heap.size, 0, none⟩) 2 2 := hf
  have hby : Below w2.heap.size w2 ((((X.setCell ⟨g, 0, none⟩ (.int .i64 3)).setCell ⟨g, 1, none⟩ (.int .i64 0)).setCell ⟨g, 2, none⟩ (.string ⟨#[]⟩)).setCell ⟨g, 3, none⟩ (.slice (some ⟨X.heap.size, 0, none⟩) 2 2)) := hby
  rw [← hY] at hf hby
  rw [← hs] at hf
  exact DcCut.mk (bt hby (ab _) (Nat.le_refl _)) (hf.below (ab _)) (fun j v hj => box_cell Y _ 24 j v hj) hN hu

set_option maxRecDepth 100000 in
set_option maxHeartbeats 4000000 in
theorem certTI_yes (t : Tm) (h : ByteArray) (op n : Int) (s : ByteArray) (a : Option Addr) (len cap : Nat) (u : Int) (w : World) (hl : Lies w 0 t (tmCells op n s a len cap)) (hc : certB h t u = true) (htab : Tab w) (herr : Err w) :
    Calls Tryz.prog 17 #[.agg #[.string h, .int .i64 op, .int .i64 n, .string s, .slice a len cap, .int .i64 u]] w fun e w' => ∃ op' n' s' a' len' cap' fp, e = .returned (.agg #[.int .i64 op', .int .i64 n', .string s', .slice a' len' cap']) ∧ Own w' (certT h t u) (tmCells op' n' s' a' len' cap') fp ∧ (fp.Nodup ∧ ∀ x ∈ fp, w.heap.size ≤ x) ∧ Below w.heap.size w w' := by
  obtain ⟨hh, _, hok, hu0, hu1⟩ := certB_ok hc
  have ht := okT_200 hok
  have hhs : h.size ≤ 60 := hh.1
  have h20 := hide (fun v hv => certI t h op n s a len cap u v hv (by omega) (by omega))
  rw [hc] at h20
  have h21 := hide (fun v ht => digitsI u v (by omega) (by omega) ht)
  have h23 := hide atom1I
  have h24 := hide (hostText24 h op n s a len cap u)
  have h22 := hide (fun a7 v hl1 hl2 he => signI oneT (.node 3 0 ByteArray.empty [textT h, .node 3 0 ByteArray.empty [t, numT u]]) 1 1 ByteArray.empty none 0 0 3 0 ByteArray.empty a7 2 2 v hl1 hl2 (by simp only [oneT, textT, Tm.size, Tm.sizes, numT_size]; omega) he)
  rw [cert_one h t u] at h22
  have HNL : Hid (∀ v : World, Lies v 0 (numT u) (tmCells 2 0 ⟨(Lib.itoa u).toArray⟩ none 0 0)) := fun v => lies_leaf v 2 0 _ (itoa_size u (by omega) (by omega)) (by decide) (by decide)
  have HTL : Hid (∀ v : World, Lies v 0 (textT h) (tmCells 2 0 h none 0 0)) := fun v => lies_leaf v 2 0 _ (by unfold maxLen; omega) (by decide) (by decide)
  have HOL : Hid (∀ v : World, Lies v 0 oneT (tmCells 1 1 ByteArray.empty none 0 0)) := fun v => lies_leaf v 1 1 _ (by simp [maxLen]) (by decide) (by decide)
  generalize certT h t u = CT at *
  generalize numT u = NT at *
  generalize (⟨(Lib.itoa u).toArray⟩ : ByteArray) = ns at *
  have hB0 : Below w.heap.size w ((w.alloc (.cells #[.string h, .int .i64 op, .int .i64 n, .string s, .slice a len cap, .int .i64 u] 41)).alloc (.cells #[.int .i64 0, .int .i64 0, .string ByteArray.empty, .slice none 0 0] 24)) := bt (ab _) (ab _) (Nat.le_refl _)
  have HX : Hid (ZBox ((w.alloc (.cells #[.string h, .int .i64 op, .int .i64 n, .string s, .slice a len cap, .int .i64 u] 41)).alloc (.cells #[.int .i64 0, .int .i64 0, .string ByteArray.empty, .slice none 0 0] 24)) (w.heap.size + 1)) := by
    have := ZBox.new (w.alloc (.cells #[.string h, .int .i64 op, .int .i64 n, .string s, .slice a len cap, .int .i64 u] 41))
    rwa [heap_size_alloc] at this
  have HR : Hid (RowC 41 ((w.alloc (.cells #[.string h, .int .i64 op, .int .i64 n, .string s, .slice a len cap, .int .i64 u] 41)).alloc (.cells #[.int .i64 0, .int .i64 0, .string ByteArray.empty, .slice none 0 0] 24)) w.heap.size h op n s a len cap u) := (RowC.new 41 w h op n s a len cap u).below (ab _)
  have HL := hide (hl.below hB0)
  have HTB := hide (htab.on hB0)
  have HER := hide (herr.on hB0)
  have HB0 := hide hB0
  clear hl hB0 hc hh hok ht hhs hu0 hu1 htab herr
  go_enter Tryz.func17, Tryz.ntmps17
  go_wp2_with fail
  refine (unhide h20 _ (unhide HL)).mono ?_
  rintro e W0 ⟨rfl, hb1⟩
  have HB1 := hide (bt (unhide HB0) hb1 (Nat.le_refl _))
  have HL1 := hide ((unhide HL).below hb1)
  have HX1 := hide ((unhide HX).below hb1)
  have HR1 := hide ((unhide HR).below hb1)
  have HTB1 := hide ((unhide HTB).on hb1)
  have HER1 := hide ((unhide HER).on hb1)
  clear hb1 HB0 HL HX HR h20 HTB HER
  obtain ⟨c0, c1, c2, c3, c4, c5⟩ := (unhide HR1).facts
  have l0 := lt_of_cell c1
  have n0 := Nat.ne_of_lt l0
  have m0 := Ne.symm n0
  go_wp2_with fail
  go_cut [3] (fun p wx => SlCut (.node 3 0 ByteArray.empty [t, NT]) W0 p wx)
  case first =>
    go_region_held3 (fun x => x.cell? ⟨w.heap.size, 1, none⟩ = some (.int .i64 op) ∧ x.cell? ⟨w.heap.size, 2, none⟩ = some (.int .i64 n) ∧ x.cell? ⟨w.heap.size, 3, none⟩ = some (.string s) ∧ x.cell? ⟨w.heap.size, 4, none⟩ = some (.slice a len cap) ∧ x.cell? ⟨w.heap.size, 5, none⟩ = some (.int .i64 u)) (go_keep)
      (first
        | (go_at_call 67
           refine (unhide h21 _ ?_).mono ?_
           first
             | exact (unhide HTB1).on ((Below.refl _ _).drew)
             | exact (unhide HTB1).on ((ab _).drew)
           rintro e w2 ⟨rfl, hb2⟩
           try have zz2 := hide ((ZBox.new W0).drew.below hb2)
           have hb02 : Hid (Below W0.heap.size W0 w2) := by
             first
               | exact below_drew' hb2
               | exact bt (ab _) (below_drew' hb2) (Nat.le_refl _)
           have f4 := kpc (unhide hb02) c1
           have f5 := kpc (unhide hb02) c2
           have f6 := kpc (unhide hb02) c3
           have f7 := kpc (unhide hb02) c4
           have f8 := kpc (unhide hb02) c5
           try obtain ⟨p0, p1, p2, p3, q0, q1, q2, q3⟩ := (unhide zz2).facts
           try have nz := Nat.ne_of_lt (lt_of_heap (unhide zz2))
           try have mz := Ne.symm nz
           try have nz' := eq_false nz
           try have mz' := eq_false mz
           try have lz := lt_of_heap (unhide zz2)
           have l2 := lt_of_cell f4
           have n2' := Nat.ne_of_lt l2
           have m2 := Ne.symm n2'
           clear hb2))
    all_goals
      go_wp2_with fail
      go_meet
      first
        | (with_reducible refine DcCut.late ?_ ?_ ?_
           · exact unhide hb02
           · exact unhide HNL
           · exact unhide HL1)
        | (with_reducible refine DcCut.mid ?_ ?_ ?_
           · exact unhide hb02
           · exact unhide HNL
           · exact unhide HL1)
        | (with_reducible refine DcCut.early ?_ ?_ ?_ ?_ ?_ rfl
           · exact unhide hb02
           · exact unhide zz2
           · exact Nat.le_refl _
           · exact unhide HNL
           · exact unhide HL1)
  case rest =>
    obtain ⟨g7, a7, rfl, hR7, hP7, hb7⟩ := hcut
    have HX7 := hide ((unhide HX1).below hb7)
    have HER7 := hide ((unhide HER1).on hb7)
    have HB7 := hide (bt (unhide HB1) hb7 (Nat.le_refl _))
    have HP7 := hide hP7
    have HR7 := hide ((unhide HR1).below hb7)
    have HRR := hide hR7
    clear hR7 hP7 hb7 c0 c1 c2 c3 c4 c5 l0 n0 m0
    obtain ⟨c0, c1, c2, c3, c4, c5⟩ := (unhide HR7).facts
    obtain ⟨d0, d1, d2, d3⟩ := (unhide HRR).facts
    have hne1 : (w.heap.size = w.heap.size + 1) = False := by simp
    have hne2 : (w.heap.size + 1 = w.heap.size) = False := by simp
    have hneg : g7 ≠ w.heap.size + 1 := fun e => by
      have h1 : wc.heap[g7]? = _ := unhide HRR
      have h2 : wc.heap[w.heap.size + 1]? = _ := unhide HX7
      rw [e, h2] at h1
      simp at h1
    have hg1 : (g7 = w.heap.size + 1) = False := eq_false hneg
    have hg2 : (w.heap.size + 1 = g7) = False := eq_false (Ne.symm hneg)
    go_wp2_with fail
    go_region_held3 (fun x => x.cell? ⟨w.heap.size, 0, none⟩ = some (.string h) ∧ x.cell? ⟨w.heap.size, 1, none⟩ = some (.int .i64 op) ∧ x.cell? ⟨w.heap.size, 2, none⟩ = some (.int .i64 n) ∧ x.cell? ⟨w.heap.size, 3, none⟩ = some (.string s) ∧ x.cell? ⟨w.heap.size, 4, none⟩ = some (.slice a len cap) ∧ x.cell? ⟨w.heap.size, 5, none⟩ = some (.int .i64 u) ∧
        x.cell? ⟨g7, 0, none⟩ = some (.int .i64 3) ∧ x.cell? ⟨g7, 1, none⟩ = some (.int .i64 0) ∧ x.cell? ⟨g7, 2, none⟩ = some (.string ByteArray.empty) ∧ x.cell? ⟨g7, 3, none⟩ = some (.slice a7 2 2)) (go_keep)
      (first
        | (go_at_call 56
           refine (unhide h23 _ ((unhide HER7).on ((Below.refl _ _).drew))).mono ?_
           rintro e w8 ⟨rfl, hb8⟩
           have hb8' := hide (below_drew' hb8)
           obtain ⟨f0, f1, f2, f3, f4, f5⟩ := ((unhide HR7).below (unhide hb8')).facts
           obtain ⟨e0, e1, e2, e3⟩ := ((unhide HRR).below (unhide hb8')).facts)
        | (go_at_call 68
           refine (unhide h24 _).mono ?_
           rintro e w9 ⟨rfl, hb9⟩
           have hb9' := hide hb9
           obtain ⟨i0, i1, i2, i3, i4, i5⟩ := (((unhide HR7).below (unhide hb8')).below hb9).facts
           obtain ⟨j0, j1, j2, j3⟩ := (((unhide HRR).below (unhide hb8')).below hb9).facts
           have l9 := lt_of_cell j0
           have n9 := Nat.ne_of_lt l9
           have m9 := Ne.symm n9
           have l8 := lt_of_cell i0
           have n8 := Nat.ne_of_lt l8
           have m8 := Ne.symm n8)
        | (go_at_call 52
           refine (unhide h22 _ _ (unhide HOL _) (lies_row2 (unhide HTL _) ((((unhide HP7).below (unhide hb8')).below (unhide hb9')).below (ab _)) (fun j v hj => box_cell w9 _ 24 j v hj) 3 (by decide)) ((((unhide HER7).on (unhide hb8')).on (unhide hb9')).on (ab _))).mono ?_
           rintro e wx ⟨op', n', s', a', len', cap', fp, rfl, hOx, ⟨hnd, hge⟩, hbx⟩
           have HBX := hide (bt (bt (bt (bt (unhide HB7) (unhide hb8') (Nat.le_refl _)) (unhide hb9') (Nat.le_refl _)) (ab _) (Nat.le_refl _)) hbx (Nat.le_refl _))
           have hb9x := bt (ab (w := w9) (.cells #[.int .i64 2, .int .i64 0, .string h, .slice none 0 0, .int .i64 3, .int .i64 0, .string ByteArray.empty, .slice a7 2 2] 24)) hbx (Nat.le_refl _)
           have HOX := hide hOx
           have HND := hide hnd
           rw [heap_size_alloc] at hge
           have HGE := hide hge
           obtain ⟨p0, p1, p2, p3, q0, q1, q2, q3⟩ := ((((unhide HX7).below (unhide hb8')).below (unhide hb9')).below hb9x).facts
           obtain ⟨t0, t1, t2, t3, t4, t5⟩ := ((((unhide HR7).below (unhide hb8')).below (unhide hb9')).below hb9x).facts
           obtain ⟨v0, v1, v2, v3⟩ := ((((unhide HRR).below (unhide hb8')).below (unhide hb9')).below hb9x).facts
           have HS9 : Hid (w.heap.size + 1 < w9.heap.size) := lt_of_heap (((unhide HX7).below (unhide hb8')).below (unhide hb9'))
           clear hOx hnd hge hbx hb9x))
    all_goals go_wp2_with fail
    all_goals
      exact bodyPost_ret (v := .agg #[.int .i64 op', .int .i64 n', .string s', .slice a' len' cap']) (by simp [results, Tryz.results17, go_sem, p0, p1, p2, p3]) rfl ⟨op', n', s', a', len', cap', fp, rfl, Own.keep _ _ _ (unhide HOX) (fun b hb => set4_heap _ _ _ _ _ _ b (by have := unhide HGE b hb; have := unhide HS9; omega)), ⟨unhide HND, fun x hx => by have := unhide HGE x hx; have := unhide HS9; omega⟩, set4_below (unhide HBX) (by omega)⟩

set_option maxRecDepth 100000 in
set_option maxHeartbeats 1000000 in
theorem certTI_no (t : Tm) (h : ByteArray) (op n : Int) (s : ByteArray) (a : Option Addr) (len cap : Nat) (u : Int) (w : World) (hl : Lies w 0 t (tmCells op n s a len cap)) (hsz : t.size ≤ 2097152) (hh : h.size ≤ 2097152) (hc : certB h t u = false) :
    Calls Tryz.prog 17 #[.agg #[.string h, .int .i64 op, .int .i64 n, .string s, .slice a len cap, .int .i64 u]] w fun e w' => e = .returned (.agg #[.int .i64 0, .int .i64 0, .string ByteArray.empty, .slice none 0 0]) ∧ Below w.heap.size w w' := by
  have h14 := hide (fun v hv => certI t h op n s a len cap u v hv hsz hh)
  rw [hc] at h14
  have hB0 : Below w.heap.size w ((w.alloc (.cells #[.string h, .int .i64 op, .int .i64 n, .string s, .slice a len cap, .int .i64 u] 41)).alloc (.cells #[.int .i64 0, .int .i64 0, .string ByteArray.empty, .slice none 0 0] 24)) := bt (ab _) (ab _) (Nat.le_refl _)
  have HX : Hid (ZBox ((w.alloc (.cells #[.string h, .int .i64 op, .int .i64 n, .string s, .slice a len cap, .int .i64 u] 41)).alloc (.cells #[.int .i64 0, .int .i64 0, .string ByteArray.empty, .slice none 0 0] 24)) (w.heap.size + 1)) := by
    have := ZBox.new (w.alloc (.cells #[.string h, .int .i64 op, .int .i64 n, .string s, .slice a len cap, .int .i64 u] 41))
    rwa [heap_size_alloc] at this
  have HL := hide (hl.below hB0)
  have HB0 := hide hB0
  clear hl hB0 hc
  go_enter Tryz.func17, Tryz.ntmps17
  go_wp2_with fail
  refine (unhide h14 _ (unhide HL)).mono ?_
  rintro e w2 ⟨rfl, hb2⟩
  obtain ⟨p0, p1, p2, p3, q0, q1, q2, q3⟩ := ((unhide HX).below hb2).facts
  have HB2 := hide (bt (unhide HB0) hb2 (Nat.le_refl _))
  clear hb2
  go_wp2_with fail
  exact bodyPost_ret (v := .agg #[.int .i64 0, .int .i64 0, .string ByteArray.empty, .slice none 0 0]) (by simp [results, Tryz.results17, go_sem, p0, p1, p2, p3]; try rfl) rfl ⟨rfl, set4_below (unhide HB2) (by omega)⟩

/-- What a certificate comes to, or zero. -/
noncomputable def certTm (h : ByteArray) (t : Tm) (u : Int) : Tm := pickT (certB h t u) (certT h t u)
set_option maxRecDepth 100000 in
theorem certTm_200 (h : ByteArray) (t : Tm) (u : Int) : (certTm h t u).size ≤ 200 := by
  unfold certTm pickT
  split
  · exact certT_200 h t u
  · simp [Tm.size, Tm.sizes]

set_option maxRecDepth 100000 in
theorem certTS (t : Tm) (h : ByteArray) (op n : Int) (s : ByteArray) (a : Option Addr) (len cap : Nat) (u : Int) (w : World) (hl : Lies w 0 t (tmCells op n s a len cap)) (hsz : t.size ≤ 2097152) (hh : h.size ≤ 2097152) :
    Calls Tryz.prog 15 #[.agg #[.string h, .int .i64 op, .int .i64 n, .string s, .slice a len cap, .int .i64 u]] w fun e w' => ∃ op' n' s' a' len' cap', e = .returned (.agg #[.int .i64 op', .int .i64 n', .string s', .slice a' len' cap']) ∧ Lies w' w.heap.size (certTm h t u) (tmCells op' n' s' a' len' cap') ∧ Below w.heap.size w w' := by
  cases hc : certB h t u with
  | true =>
    have e : certTm h t u = certT h t u := by unfold certTm; rw [hc]; rfl
    rw [e]
    exact (certTS_yes t h op n s a len cap u w hl hc).mono fun _ _ ⟨o, n', s', a', l, c, h1, h2, h3, _⟩ => ⟨o, n', s', a', l, c, h1, h2, h3⟩
  | false =>
    have e : certTm h t u = .node 0 0 ByteArray.empty [] := by unfold certTm; rw [hc]; rfl
    rw [e]
    exact (certTS_no t h op n s a len cap u w hl hsz hh hc).mono fun _ _ ⟨h1, h2⟩ => ⟨_, _, _, _, _, _, h1, zero_lies _ _, h2⟩

set_option maxRecDepth 100000 in
theorem certTI (t : Tm) (h : ByteArray) (op n : Int) (s : ByteArray) (a : Option Addr) (len cap : Nat) (u : Int) (w : World) (hl : Lies w 0 t (tmCells op n s a len cap)) (hsz : t.size ≤ 2097152) (hh : h.size ≤ 2097152) (htab : Tab w) (herr : Err w) :
    Calls Tryz.prog 17 #[.agg #[.string h, .int .i64 op, .int .i64 n, .string s, .slice a len cap, .int .i64 u]] w fun e w' => ∃ op' n' s' a' len' cap' fp, e = .returned (.agg #[.int .i64 op', .int .i64 n', .string s', .slice a' len' cap']) ∧ Own w' (certTm h t u) (tmCells op' n' s' a' len' cap') fp ∧ (fp.Nodup ∧ ∀ x ∈ fp, w.heap.size ≤ x) ∧ Below w.heap.size w w' := by
  cases hc : certB h t u with
  | true =>
    have e : certTm h t u = certT h t u := by unfold certTm; rw [hc]; rfl
    rw [e]
    exact certTI_yes t h op n s a len cap u w hl hc htab herr
  | false =>
    have e : certTm h t u = .node 0 0 ByteArray.empty [] := by unfold certTm; rw [hc]; rfl
    rw [e]
    exact (certTI_no t h op n s a len cap u w hl hsz hh hc).mono fun _ _ ⟨h1, h2⟩ => ⟨_, _, _, _, _, _, [], h1, zero_own _, ⟨by simp, by simp⟩, h2⟩

set_option maxRecDepth 100000 in
theorem set_heap (w : World) (g o : Nat) (x : Value) (b : Nat) (h : b ≠ g) : (w.setCell ⟨g, o, none⟩ x).heap[b]? = w.heap[b]? := Below.heap_setCell _ _ _ _ h

set_option maxRecDepth 100000 in
set_option maxHeartbeats 1000000 in
theorem tpC (t : Tm) (h : ByteArray) (op n : Int) (s : ByteArray) (a : Option Addr) (len cap : Nat) (u : Int) (w : World) (hl : Lies w 0 t (tmCells op n s a len cap)) (hsz : t.size ≤ 2097152) :
    Calls Tryz.prog 16 #[.agg #[.string h, .int .i64 op, .int .i64 n, .string s, .slice a len cap, .int .i64 u]] w fun e w' => ∃ a' fp, e = .returned (.agg #[.string h, .int .i64 op, .int .i64 n, .string s, .slice a' len len, .int .i64 u]) ∧ Own w' t (tmCells op n s a' len len) fp ∧ (fp.Nodup ∧ ∀ x ∈ fp, w.heap.size ≤ x) ∧ Below w.heap.size w w' := by
  have h15 := tp_calls t
  have hb0 : Below w.heap.size w (((w.alloc (.cells #[.string h, .int .i64 op, .int .i64 n, .string s, .slice a len cap, .int .i64 u] 37)).alloc (.cells #[.string ⟨#[]⟩, .int .i64 0, .int .i64 0, .string ⟨#[]⟩, .slice none 0 0, .int .i64 0] 41)).alloc (.cells #[.string h, .int .i64 0, .int .i64 0, .string ⟨#[]⟩, .slice none 0 0, .int .i64 0] 41)) := btC (btC (abC _) (abC _)) (abC _)
  have HL := hide (hl.below hb0)
  have HB0 := hide hb0
  clear hl hb0
  go_enter Tryz.func16, Tryz.ntmps16
  go_wp2_with fail
  refine (h15 op n s a len cap _ (unhide HL) hsz).mono ?_
  rintro e w2 ⟨a2, fp, rfl, hO2, ⟨hnd, hge⟩, hb2⟩
  have HB2 := hide (btC (unhide HB0) hb2)
  have HO2 := hide hO2
  have HND := hide hnd
  obtain ⟨hc, hf⟩ := bcell hb2
  clear hb2 HB0 HL hO2 hnd
  go_wp2_with fail
  simp only [heap_size_alloc] at hge hc
  refine bodyPost_ret (v := .agg #[.string h, .int .i64 op, .int .i64 n, .string s, .slice a2 len len, .int .i64 u]) (by simp [results, Tryz.results16, go_sem, hc]) rfl ⟨_, fp, rfl, ?_, ⟨unhide HND, fun x hx => by have := hge x hx; omega⟩, ?_⟩
  · refine Own.keep _ _ _ (unhide HO2) fun b hb => ?_
    have := hge b hb
    repeat rw [set_heap _ _ _ _ _ (by omega)]
  · repeat refine Below.setCell ?_ (by simp <;> omega) _
    exact unhide HB2

set_option maxRecDepth 100000 in
set_option maxHeartbeats 1000000 in
theorem markC (t : Tm) (h : ByteArray) (op n : Int) (s : ByteArray) (a : Option Addr) (len cap : Nat) (u : Int) (w : World) (fp : List Nat) (ho : Own w t (tmCells op n s a len cap) fp) (hnd : fp.Nodup) (hz : 1 + 3 * t.size ≤ 1099511627776) :
    Calls Tryz.prog 20 #[.agg #[.string h, .int .i64 op, .int .i64 n, .string s, .slice a len cap, .int .i64 u], .int .i64 1] w fun e w' => e = .returned (.int .i64 ((1 + 3 * Tm.sizes t.kids : Nat) : Int)) ∧ Own w' (t.marked 1) (tmCells op n s a len cap) fp ∧ Only fp w w' := by
  have h11 := hide (fun v (ho : Own v t (tmCells op n s a len cap) fp) => mark_any t op n s a len cap 1 v fp ho hnd (Nat.le_refl _) hz)
  have HO := hide (ho.below (abC (.cells #[.string h, .int .i64 op, .int .i64 n, .string s, .slice a len cap, .int .i64 u] 41)))
  have HB := hide (Only.of_below (fp := fp) (abC (w := w) (.cells #[.string h, .int .i64 op, .int .i64 n, .string s, .slice a len cap, .int .i64 u] 41)))
  generalize 1 + 3 * Tm.sizes t.kids = M at *
  clear ho hnd hz
  go_enter Tryz.func20, Tryz.ntmps20
  go_wp2_with fail
  refine (unhide h11 _ (unhide HO)).mono ?_
  rintro e w2 ⟨rfl, k2, o2⟩
  have HK := hide k2
  have HOO := hide ((unhide HB).trans o2)
  clear k2 o2
  go_wp2_with fail
  go_ret
  exact ⟨rfl, unhide HK, unhide HOO⟩

end Go.Proofs.YtenagnoemdjgeaaGreatDoor
