/- The walk of impl.certFields: the three that the atom 1 has signed in a term, laid in a new row; else none and the named error; nothing that was there is written. The walks of impl.leafOf and impl.plainOf: what a certificate has of texts and numbers, as it is written; nothing that was there is written. Numbers as they are written in digits: what strconv.Atoi reads of them; and its contract at whatever text. -/
import Derived.Test.YtkjbhbhknnamjaaGreatDoorCv
import Derived.Test.YtkjbhbhknnamjaaGreatDoorBh
import Derived.ArgAppend
import Derived.Lib.AtoiTie
import Derived.Lib.AtoiAllCases
import Derived.Lib.SmallJoins
namespace Go.Proofs.YtkjbhbhknnamjaaGreatDoor
open Go.RowKit Go.Deep

/-- The box of what lies behind the signature. -/
def BodyCut (W0 : World) (p : Value) (wx : World) (op4 n4 : Int) (s4 : ByteArray) (a4 : Option Addr) (len4 cap4 : Nat) : Prop := ∃ g, p = .pointer (some ⟨g, 0, none⟩) ∧ RowT 30 wx g op4 n4 s4 a4 len4 cap4 ∧ Below W0.heap.size W0 wx
theorem BodyCut.late {W0 X : World} {op4 n4 : Int} {s4 : ByteArray} {a4 : Option Addr} {len4 cap4 : Nat} (hb : Below W0.heap.size W0 X) :
    BodyCut W0 (.pointer (some ⟨X.heap.size, 0, none⟩)) (X.alloc (.cells #[.int .i64 op4, .int .i64 n4, .string s4, .slice a4 len4 cap4] 30)) op4 n4 s4 a4 len4 cap4 := ⟨_, rfl, RowT.new 30 X op4 n4 s4 a4 len4 cap4, bt hb (ab _) (Nat.le_refl _)⟩
theorem BodyCut.early {W0 X Y : World} {g : Nat} {op4 n4 : Int} {s4 : ByteArray} {a4 : Option Addr} {len4 cap4 : Nat} (hb : Below W0.heap.size W0 X) (hz : ZBox X g) (hg : W0.heap.size ≤ g)
    (hY : Y = ((((X.setCell ⟨g, 0, none⟩ (.int .i64 op4)).setCell ⟨g, 1, none⟩ (.int .i64 n4)).setCell ⟨g, 2, none⟩ (.string s4)).setCell ⟨g, 3, none⟩ (.slice a4 len4 cap4))) : BodyCut W0 (.pointer (some ⟨g, 0, none⟩)) Y op4 n4 s4 a4 len4 cap4 :=
  ⟨g, rfl, by rw [hY]; exact fill26 hz op4 n4 s4 a4 len4 cap4, by rw [hY]; exact set4_below hb hg⟩

set_option maxRecDepth 100000 in
set_option maxHeartbeats 4000000 in
theorem fields_no1 (op2 n2 : Int) (s2 : ByteArray) (a2 : Option Addr) (len2 cap2 : Nat) (x : Addr) (w : World) (he : ErrAt x w)
    (hb54 : ∀ v, Below w.heap.size w v → ErrAt x v → Calls Tryz.prog 91 #[.int .i64 8, .agg #[.int .i64 1, .int .i64 1, .string ByteArray.empty, .slice none 0 0], .agg #[.int .i64 op2, .int .i64 n2, .string s2, .slice a2 len2 cap2]] v fun e w' => e = .returned (.tuple #[.agg #[.int .i64 0, .int .i64 0, .string ByteArray.empty, .slice none 0 0], .iface 174 (.pointer (some x))]) ∧ Below v.heap.size v w') :
    Calls Tryz.prog 71 #[.agg #[.int .i64 op2, .int .i64 n2, .string s2, .slice a2 len2 cap2]] w fun e w' => e = .returned (.tuple #[.slice none 0 0, .iface 174 (.pointer (some x))]) ∧ Below w.heap.size w w' := by
  have h54 := hide hb54
  clear hb54
  have hB0 : Below w.heap.size w (w.alloc (.cells #[.int .i64 op2, .int .i64 n2, .string s2, .slice a2 len2 cap2] 30)) := ab _
  have HR : Hid (RowT 30 (w.alloc (.cells #[.int .i64 op2, .int .i64 n2, .string s2, .slice a2 len2 cap2] 30)) w.heap.size op2 n2 s2 a2 len2 cap2) := RowT.new 30 w op2 n2 s2 a2 len2 cap2
  have HER := hide (he.on hB0)
  have HB0 := hide hB0
  have h55 := hide (fun v (h : ErrAt x v) => atom1I v ⟨x, h⟩)
  clear hB0 he
  go_enter Tryz.func71, Tryz.ntmps71
  go_wp2_with fail
  generalize hgw : w.alloc (.cells #[.int .i64 op2, .int .i64 n2, .string s2, .slice a2 len2 cap2] 30) = W0 at *
  clear hgw
  obtain ⟨c0, c1, c2, c3⟩ := (unhide HR).facts
  have l0 := lt_of_cell c0
  have n0 := Nat.ne_of_lt l0
  have m0 := Ne.symm n0
  go_cut [4, 5] (fun p e wx => e = .iface 174 (.pointer (some x)) ∧ BodyCut W0 p wx 0 0 ByteArray.empty none 0 0)
  case first =>
    go_region_held3 (fun y => y.cell? ⟨w.heap.size, 0, none⟩ = some (.int .i64 op2) ∧ y.cell? ⟨w.heap.size, 1, none⟩ = some (.int .i64 n2) ∧ y.cell? ⟨w.heap.size, 2, none⟩ = some (.string s2) ∧ y.cell? ⟨w.heap.size, 3, none⟩ = some (.slice a2 len2 cap2)) (go_keep)
      (first
        | (go_at_call 37
           refine (unhide h55 _ ?_).mono ?_
           first
             | exact (unhide HER).on ((Below.refl _ _).drew)
             | exact (unhide HER).on ((ab _).drew)
           rintro e w2 ⟨rfl, hb2⟩
           try have zz2 := hide ((ZBox.new W0).drew.below hb2)
           have hb02 : Hid (Below W0.heap.size W0 w2) := by
             first
               | exact below_drew' hb2
               | exact bt (ab _) (below_drew' hb2) (Nat.le_refl _)
           have f0 := kpc (unhide hb02) c0
           have f1 := kpc (unhide hb02) c1
           have f2 := kpc (unhide hb02) c2
           have f3 := kpc (unhide hb02) c3
           have l2 := lt_of_cell f0
           have n2' := Nat.ne_of_lt l2
           have m2 := Ne.symm n2'
           clear hb2)
        | (go_at_call 91
           refine (unhide h54 _ ?_ ?_).mono ?_
           first
             | exact bt (unhide HB0) (unhide hb02) (Nat.le_refl _)
             | exact bt (bt (unhide HB0) (unhide hb02) (Nat.le_refl _)) (ab _) (Nat.le_refl _)
           first
             | exact (unhide HER).on (unhide hb02)
             | exact (unhide HER).on (bt (unhide hb02) (ab _) (Nat.le_refl _))
           rintro e w3 ⟨rfl, hb3⟩
           first
             | (have zz3 := hide ((ZBox.new w2).below hb3)
                have hb03 : Hid (Below W0.heap.size W0 w3) := bt (bt (unhide hb02) (ab _) (Nat.le_refl _)) hb3 (Nat.le_refl _)
                have hg3 : Hid (W0.heap.size ≤ w2.heap.size) := (unhide hb02).size)
             | (have zz3 := hide ((unhide zz2).below hb3)
                have hb03 : Hid (Below W0.heap.size W0 w3) := bt (unhide hb02) hb3 (Nat.le_refl _)
                have hg3 : Hid (W0.heap.size ≤ W0.heap.size) := Nat.le_refl _)
             | have hb03 : Hid (Below W0.heap.size W0 w3) := bt (unhide hb02) hb3 (Nat.le_refl _)
           have i0 := kpc (unhide hb03) c0
           have i1 := kpc (unhide hb03) c1
           have i2 := kpc (unhide hb03) c2
           have i3 := kpc (unhide hb03) c3
           try obtain ⟨p0, p1, p2, p3, q0, q1, q2, q3⟩ := (unhide zz3).facts
           try have nz := Nat.ne_of_lt (lt_of_heap (unhide zz3))
           try have mz := Ne.symm nz
           try have nz' := eq_false nz
           try have mz' := eq_false mz
           try have lz := lt_of_heap (unhide zz3)
           have l3 := lt_of_cell i0
           have n3' := Nat.ne_of_lt l3
           have m3 := Ne.symm n3'
           clear hb3))
    all_goals
      go_wp2_with fail
      go_meet
      refine ⟨rfl, ?_⟩
      first
        | (with_reducible refine BodyCut.late ?_
           exact unhide hb03)
        | (with_reducible refine BodyCut.early ?_ ?_ ?_ rfl
           · exact unhide hb03
           · exact unhide zz3
           · exact unhide hg3)
  case rest =>
    obtain ⟨rfl, g7, rfl, hR7, hb7⟩ := hcut
    have HB7 := hide (bt (unhide HB0) hb7 (Nat.le_refl _))
    have HER7 := hide ((unhide HER).on hb7)
    have HRR := hide hR7
    clear c0 c1 c2 c3 l0 n0 m0 hb7 hR7
    obtain ⟨d0, d1, d2, d3⟩ := (unhide HRR).facts
    have g0 := (unhide HER7).cell
    go_wp2_with fail
    exact bodyPost_ret (v := .tuple #[.slice none 0 0, .iface 174 (.pointer (some x))]) (by simp [results, Tryz.results71, go_sem]; try rfl) rfl ⟨rfl, unhide HB7⟩

set_option maxRecDepth 100000 in
set_option maxHeartbeats 4000000 in
theorem fields_no2 (op2 n2 : Int) (s2 : ByteArray) (a2 : Option Addr) (len2 cap2 : Nat) (op4 n4 : Int) (s4 : ByteArray) (a4 : Option Addr) (len4 cap4 : Nat) (x : Addr) (w : World) (he : ErrAt x w) (hop : op4 ≠ 3)
    (hb54 : ∀ v, Below w.heap.size w v → ErrAt x v → Calls Tryz.prog 91 #[.int .i64 8, .agg #[.int .i64 1, .int .i64 1, .string ByteArray.empty, .slice none 0 0], .agg #[.int .i64 op2, .int .i64 n2, .string s2, .slice a2 len2 cap2]] v fun e w' => e = .returned (.tuple #[.agg #[.int .i64 op4, .int .i64 n4, .string s4, .slice a4 len4 cap4], .nilIface]) ∧ Below v.heap.size v w') :
    Calls Tryz.prog 71 #[.agg #[.int .i64 op2, .int .i64 n2, .string s2, .slice a2 len2 cap2]] w fun e w' => e = .returned (.tuple #[.slice none 0 0, .iface 174 (.pointer (some x))]) ∧ Below w.heap.size w w' := by
  have h54 := hide hb54
  have q1 : (op4 != 3) = true := by simpa using hop
  clear hb54 hop
  have hB0 : Below w.heap.size w (w.alloc (.cells #[.int .i64 op2, .int .i64 n2, .string s2, .slice a2 len2 cap2] 30)) := ab _
  have HR : Hid (RowT 30 (w.alloc (.cells #[.int .i64 op2, .int .i64 n2, .string s2, .slice a2 len2 cap2] 30)) w.heap.size op2 n2 s2 a2 len2 cap2) := RowT.new 30 w op2 n2 s2 a2 len2 cap2
  have HER := hide (he.on hB0)
  have HB0 := hide hB0
  have h55 := hide (fun v (h : ErrAt x v) => atom1I v ⟨x, h⟩)
  clear hB0 he
  go_enter Tryz.func71, Tryz.ntmps71
  go_wp2_with fail
  generalize hgw : w.alloc (.cells #[.int .i64 op2, .int .i64 n2, .string s2, .slice a2 len2 cap2] 30) = W0 at *
  clear hgw
  obtain ⟨c0, c1, c2, c3⟩ := (unhide HR).facts
  have l0 := lt_of_cell c0
  have n0 := Nat.ne_of_lt l0
  have m0 := Ne.symm n0
  go_cut [4, 5] (fun p e wx => e = .nilIface ∧ BodyCut W0 p wx op4 n4 s4 a4 len4 cap4)
  case first =>
    go_region_held3 (fun y => y.cell? ⟨w.heap.size, 0, none⟩ = some (.int .i64 op2) ∧ y.cell? ⟨w.heap.size, 1, none⟩ = some (.int .i64 n2) ∧ y.cell? ⟨w.heap.size, 2, none⟩ = some (.string s2) ∧ y.cell? ⟨w.heap.size, 3, none⟩ = some (.slice a2 len2 cap2)) (go_keep)
      (first
        | (go_at_call 37
           refine (unhide h55 _ ?_).mono ?_
           first
             | exact (unhide HER).on ((Below.refl _ _).drew)
             | exact (unhide HER).on ((ab _).drew)
           rintro e w2 ⟨rfl, hb2⟩
           try have zz2 := hide ((ZBox.new W0).drew.below hb2)
           have hb02 : Hid (Below W0.heap.size W0 w2) := by
             first
               | exact below_drew' hb2
               | exact bt (ab _) (below_drew' hb2) (Nat.le_refl _)
           have f0 := kpc (unhide hb02) c0
           have f1 := kpc (unhide hb02) c1
           have f2 := kpc (unhide hb02) c2
           have f3 := kpc (unhide hb02) c3
           have l2 := lt_of_cell f0
           have n2' := Nat.ne_of_lt l2
           have m2 := Ne.symm n2'
           clear hb2)
        | (go_at_call 91
           refine (unhide h54 _ ?_ ?_).mono ?_
           first
             | exact bt (unhide HB0) (unhide hb02) (Nat.le_refl _)
             | exact bt (bt (unhide HB0) (unhide hb02) (Nat.le_refl _)) (ab _) (Nat.le_refl _)
           first
             | exact (unhide HER).on (unhide hb02)
             | exact (unhide HER).on (bt (unhide hb02) (ab _) (Nat.le_refl _))
           rintro e w3 ⟨rfl, hb3⟩
           first
             | (have zz3 := hide ((ZBox.new w2).below hb3)
                have hb03 : Hid (Below W0.heap.size W0 w3) := bt (bt (unhide hb02) (ab _) (Nat.le_refl _)) hb3 (Nat.le_refl _)
                have hg3 : Hid (W0.heap.size ≤ w2.heap.size) := (unhide hb02).size)
             | (have zz3 := hide ((unhide zz2).below hb3)
                have hb03 : Hid (Below W0.heap.size W0 w3) := bt (unhide hb02) hb3 (Nat.le_refl _)
                have hg3 : Hid (W0.heap.size ≤ W0.heap.size) := Nat.le_refl _)
             | have hb03 : Hid (Below W0.heap.size W0 w3) := bt (unhide hb02) hb3 (Nat.le_refl _)
           have i0 := kpc (unhide hb03) c0
           have i1 := kpc (unhide hb03) c1
           have i2 := kpc (unhide hb03) c2
           have i3 := kpc (unhide hb03) c3
           try obtain ⟨p0, p1, p2, p3, q0, q1, q2, q3⟩ := (unhide zz3).facts
           try have nz := Nat.ne_of_lt (lt_of_heap (unhide zz3))
           try have mz := Ne.symm nz
           try have nz' := eq_false nz
           try have mz' := eq_false mz
           try have lz := lt_of_heap (unhide zz3)
           have l3 := lt_of_cell i0
           have n3' := Nat.ne_of_lt l3
           have m3 := Ne.symm n3'
           clear hb3))
    all_goals
      go_wp2_with fail
      go_meet
      refine ⟨rfl, ?_⟩
      first
        | (with_reducible refine BodyCut.late ?_
           exact unhide hb03)
        | (with_reducible refine BodyCut.early ?_ ?_ ?_ rfl
           · exact unhide hb03
           · exact unhide zz3
           · exact unhide hg3)
  case rest =>
    obtain ⟨rfl, g7, rfl, hR7, hb7⟩ := hcut
    have HB7 := hide (bt (unhide HB0) hb7 (Nat.le_refl _))
    have HER7 := hide ((unhide HER).on hb7)
    have HRR := hide hR7
    clear c0 c1 c2 c3 l0 n0 m0 hb7 hR7
    obtain ⟨d0, d1, d2, d3⟩ := (unhide HRR).facts
    have g0 := (unhide HER7).cell
    go_wp2_with fail
    go_region
    all_goals go_wp2_with fail
    all_goals exact bodyPost_ret (v := .tuple #[.slice none 0 0, .iface 174 (.pointer (some x))]) (by simp [results, Tryz.results71, go_sem]; try rfl) rfl ⟨rfl, (unhide HB7).drew⟩

set_option maxRecDepth 100000 in
set_option maxHeartbeats 4000000 in
theorem fields_no3 (op2 n2 : Int) (s2 : ByteArray) (a2 : Option Addr) (len2 cap2 : Nat) (n4 : Int) (s4 : ByteArray) (b q cap4 : Nat) (op6 : Int) (x : Addr) (w : World) (he : ErrAt x w) (hop : op6 ≠ 3) (r4 : w.cell? ⟨b, q + 4, none⟩ = some (.int .i64 op6))
    (hb54 : ∀ v, Below w.heap.size w v → ErrAt x v → Calls Tryz.prog 91 #[.int .i64 8, .agg #[.int .i64 1, .int .i64 1, .string ByteArray.empty, .slice none 0 0], .agg #[.int .i64 op2, .int .i64 n2, .string s2, .slice a2 len2 cap2]] v fun e w' => e = .returned (.tuple #[.agg #[.int .i64 3, .int .i64 n4, .string s4, .slice (some ⟨b, q, none⟩) 2 cap4], .nilIface]) ∧ Below v.heap.size v w') :
    Calls Tryz.prog 71 #[.agg #[.int .i64 op2, .int .i64 n2, .string s2, .slice a2 len2 cap2]] w fun e w' => e = .returned (.tuple #[.slice none 0 0, .iface 174 (.pointer (some x))]) ∧ Below w.heap.size w w' := by
  have h54 := hide hb54
  have q1 : (op6 != 3) = true := by simpa using hop
  clear hb54 hop
  have hB0 : Below w.heap.size w (w.alloc (.cells #[.int .i64 op2, .int .i64 n2, .string s2, .slice a2 len2 cap2] 30)) := ab _
  have HR : Hid (RowT 30 (w.alloc (.cells #[.int .i64 op2, .int .i64 n2, .string s2, .slice a2 len2 cap2] 30)) w.heap.size op2 n2 s2 a2 len2 cap2) := RowT.new 30 w op2 n2 s2 a2 len2 cap2
  have HER := hide (he.on hB0)
  have HB0 := hide hB0
  have h55 := hide (fun v (h : ErrAt x v) => atom1I v ⟨x, h⟩)
  clear hB0 he
  go_enter Tryz.func71, Tryz.ntmps71
  go_wp2_with fail
  generalize hgw : w.alloc (.cells #[.int .i64 op2, .int .i64 n2, .string s2, .slice a2 len2 cap2] 30) = W0 at *
  clear hgw
  obtain ⟨c0, c1, c2, c3⟩ := (unhide HR).facts
  have l0 := lt_of_cell c0
  have n0 := Nat.ne_of_lt l0
  have m0 := Ne.symm n0
  go_cut [4, 5] (fun p e wx => e = .nilIface ∧ BodyCut W0 p wx 3 n4 s4 (some ⟨b, q, none⟩) 2 cap4)
  case first =>
    go_region_held3 (fun y => y.cell? ⟨w.heap.size, 0, none⟩ = some (.int .i64 op2) ∧ y.cell? ⟨w.heap.size, 1, none⟩ = some (.int .i64 n2) ∧ y.cell? ⟨w.heap.size, 2, none⟩ = some (.string s2) ∧ y.cell? ⟨w.heap.size, 3, none⟩ = some (.slice a2 len2 cap2)) (go_keep)
      (first
        | (go_at_call 37
           refine (unhide h55 _ ?_).mono ?_
           first
             | exact (unhide HER).on ((Below.refl _ _).drew)
             | exact (unhide HER).on ((ab _).drew)
           rintro e w2 ⟨rfl, hb2⟩
           try have zz2 := hide ((ZBox.new W0).drew.below hb2)
           have hb02 : Hid (Below W0.heap.size W0 w2) := by
             first
               | exact below_drew' hb2
               | exact bt (ab _) (below_drew' hb2) (Nat.le_refl _)
           have f0 := kpc (unhide hb02) c0
           have f1 := kpc (unhide hb02) c1
           have f2 := kpc (unhide hb02) c2
           have f3 := kpc (unhide hb02) c3
           have l2 := lt_of_cell f0
           have n2' := Nat.ne_of_lt l2
           have m2 := Ne.symm n2'
           clear hb2)
        | (go_at_call 91
           refine (unhide h54 _ ?_ ?_).mono ?_
           first
             | exact bt (unhide HB0) (unhide hb02) (Nat.le_refl _)
             | exact bt (bt (unhide HB0) (unhide hb02) (Nat.le_refl _)) (ab _) (Nat.le_refl _)
           first
             | exact (unhide HER).on (unhide hb02)
             | exact (unhide HER).on (bt (unhide hb02) (ab _) (Nat.le_refl _))
           rintro e w3 ⟨rfl, hb3⟩
           first
             | (have zz3 := hide ((ZBox.new w2).below hb3)
                have hb03 : Hid (Below W0.heap.size W0 w3) := bt (bt (unhide hb02) (ab _) (Nat.le_refl _)) hb3 (Nat.le_refl _)
                have hg3 : Hid (W0.heap.size ≤ w2.heap.size) := (unhide hb02).size)
             | (have zz3 := hide ((unhide zz2).below hb3)
                have hb03 : Hid (Below W0.heap.size W0 w3) := bt (unhide hb02) hb3 (Nat.le_refl _)
                have hg3 : Hid (W0.heap.size ≤ W0.heap.size) := Nat.le_refl _)
             | have hb03 : Hid (Below W0.heap.size W0 w3) := bt (unhide hb02) hb3 (Nat.le_refl _)
           have i0 := kpc (unhide hb03) c0
           have i1 := kpc (unhide hb03) c1
           have i2 := kpc (unhide hb03) c2
           have i3 := kpc (unhide hb03) c3
           try obtain ⟨p0, p1, p2, p3, q0, q1, q2, q3⟩ := (unhide zz3).facts
           try have nz := Nat.ne_of_lt (lt_of_heap (unhide zz3))
           try have mz := Ne.symm nz
           try have nz' := eq_false nz
           try have mz' := eq_false mz
           try have lz := lt_of_heap (unhide zz3)
           have l3 := lt_of_cell i0
           have n3' := Nat.ne_of_lt l3
           have m3 := Ne.symm n3'
           clear hb3))
    all_goals
      go_wp2_with fail
      go_meet
      refine ⟨rfl, ?_⟩
      first
        | (with_reducible refine BodyCut.late ?_
           exact unhide hb03)
        | (with_reducible refine BodyCut.early ?_ ?_ ?_ rfl
           · exact unhide hb03
           · exact unhide zz3
           · exact unhide hg3)
  case rest =>
    obtain ⟨rfl, g7, rfl, hR7, hb7⟩ := hcut
    have HB7 := hide (bt (unhide HB0) hb7 (Nat.le_refl _))
    have HER7 := hide ((unhide HER).on hb7)
    have HRR := hide hR7
    clear c0 c1 c2 c3 l0 n0 m0 hb7 hR7
    obtain ⟨d0, d1, d2, d3⟩ := (unhide HRR).facts
    have g0 := (unhide HER7).cell
    have r4 := kpc (unhide HB7) r4
    go_wp2_with fail
    go_region
    all_goals go_wp2_with fail
    all_goals exact bodyPost_ret (v := .tuple #[.slice none 0 0, .iface 174 (.pointer (some x))]) (by simp [results, Tryz.results71, go_sem]; try rfl) rfl ⟨rfl, (unhide HB7).drew⟩

/-- A row of three terms, laid anew. -/
def ThreeRow (W : World) (cs : List Value) (v' : Value) (w' : World) : Prop := ∃ g cp, v' = .slice (some ⟨g, 0, none⟩) 3 cp ∧ (∀ j u, cs[j]? = some u → w'.cell? ⟨g, j, none⟩ = some u) ∧ Below W.heap.size W w'

theorem three_row (W : World) (b q cap1 b' q' cap2 : Nat) (olds news : List Value) (hlo : olds.length = 4) (hln : news.length = 8) (ho : ∀ j u, olds[j]? = some u → W.cell? ⟨b, q + j, none⟩ = some u) (hn : ∀ j u, news[j]? = some u → W.cell? ⟨b', q' + j, none⟩ = some u) (hc : cap1 < 3) (ty : TypeId) :
    ∃ v' w', (Builtin.append_ #[28, 28] ty #[.slice (some ⟨b, q, none⟩) 1 cap1, .slice (some ⟨b', q', none⟩) 2 cap2]).run Tryz.prog W = .ok v' w' ∧ ThreeRow W (olds ++ news) v' w' := by
  obtain ⟨i, hi, hzz⟩ := Option.map_eq_some_iff.1 info29
  simp only [Prod.mk.injEq] at hzz
  obtain ⟨hz, hs, hby⟩ := hzz
  obtain ⟨v', w', h1, h2, h3⟩ := run_append_arg_grows (P := Tryz.prog) W 28 ty 30 i _ 4 56 Tryz.underlying28 hi hz hs hby rfl (by omega) ⟨b, q, none⟩ 1 cap1 olds (by omega) (fun j u hj => by rw [Addr.add_mid]; exact ho j u hj) ⟨b', q', none⟩ 2 cap2 news (by omega) (fun j u hj => by rw [Addr.add_mid]; exact hn j u hj) (by omega) (by unfold maxLen; omega) (by omega)
  refine ⟨v', w', h1, ?_⟩
  rcases h2.2 with ⟨_, h⟩ | ⟨g, cap, cur, e1, e2, e3, e4, e5, e6, e7⟩
  · omega
  · refine ⟨g, cap, e1, fun j u hj => ?_, ⟨h3.os, h3.tape, h3.output, h3.size, fun k hk => h3.block k hk (by simp)⟩⟩
    have hjl : j < (olds ++ news).length := (List.getElem?_eq_some_iff.1 hj).1
    rw [List.length_append, hlo, hln] at hjl
    have hjc : j < cur.size := by omega
    have e : (cur.toList.take (3 * 4))[j]? = some u := by rw [e7]; exact hj
    rw [List.getElem?_take, if_pos (by omega), Array.getElem?_toList, Array.getElem?_eq_getElem hjc] at e
    rw [cell_of_row e3 hjc, e]

set_option maxRecDepth 100000 in
set_option maxHeartbeats 4000000 in
theorem fields_yes (op2 n2 : Int) (s2 : ByteArray) (a2 : Option Addr) (len2 cap2 : Nat) (n4 : Int) (s4 : ByteArray) (b q cap4 : Nat) (b' q' cap7 : Nat) (olds news : List Value) (hlo : olds.length = 4) (hln : news.length = 8) (x : Addr) (w : World) (he : ErrAt x w) (r4 : w.cell? ⟨b, q + 4, none⟩ = some (.int .i64 3)) (r7 : w.cell? ⟨b, q + 7, none⟩ = some (.slice (some ⟨b', q', none⟩) 2 cap7))
    (ho : ∀ j u, olds[j]? = some u → w.cell? ⟨b, q + j, none⟩ = some u) (hn : ∀ j u, news[j]? = some u → w.cell? ⟨b', q' + j, none⟩ = some u) (hcp : 2 ≤ cap4)
    (hb54 : ∀ v, Below w.heap.size w v → ErrAt x v → Calls Tryz.prog 91 #[.int .i64 8, .agg #[.int .i64 1, .int .i64 1, .string ByteArray.empty, .slice none 0 0], .agg #[.int .i64 op2, .int .i64 n2, .string s2, .slice a2 len2 cap2]] v fun e w' => e = .returned (.tuple #[.agg #[.int .i64 3, .int .i64 n4, .string s4, .slice (some ⟨b, q, none⟩) 2 cap4], .nilIface]) ∧ Below v.heap.size v w') :
    Calls Tryz.prog 71 #[.agg #[.int .i64 op2, .int .i64 n2, .string s2, .slice a2 len2 cap2]] w fun e w' => ∃ v', e = .returned (.tuple #[v', .nilIface]) ∧ ThreeRow w (olds ++ news) v' w' := by
  have h54 := hide hb54
  have HRUN : Hid (∀ W, Below w.heap.size w W → ∃ v' w', (Builtin.append_ #[28, 28] 28 #[.slice (some ⟨b, q, none⟩) 1 1, .slice (some ⟨b', q', none⟩) 2 cap7]).run Tryz.prog W = .ok v' w' ∧ ThreeRow w (olds ++ news) v' w' ∧ Below W.heap.size W w') := fun W hW => by
    obtain ⟨v', w', h1, g, cp, h2, h3, h4⟩ := three_row W b q 1 b' q' cap7 olds news hlo hln (fun j u hj => kpc hW (ho j u hj)) (fun j u hj => kpc hW (hn j u hj)) (by omega) 28
    exact ⟨v', w', h1, ⟨g, cp, h2, h3, bt hW h4 (Nat.le_refl _)⟩, h4⟩
  have hc4 : ¬ (cap4 : Int) < 1 := by omega
  clear hb54 hlo hln ho hn
  have hB0 : Below w.heap.size w (w.alloc (.cells #[.int .i64 op2, .int .i64 n2, .string s2, .slice a2 len2 cap2] 30)) := ab _
  have HR : Hid (RowT 30 (w.alloc (.cells #[.int .i64 op2, .int .i64 n2, .string s2, .slice a2 len2 cap2] 30)) w.heap.size op2 n2 s2 a2 len2 cap2) := RowT.new 30 w op2 n2 s2 a2 len2 cap2
  have HER := hide (he.on hB0)
  have HB0 := hide hB0
  have h55 := hide (fun v (h : ErrAt x v) => atom1I v ⟨x, h⟩)
  clear hB0 he
  go_enter Tryz.func71, Tryz.ntmps71
  go_wp2_with fail
  generalize hgw : w.alloc (.cells #[.int .i64 op2, .int .i64 n2, .string s2, .slice a2 len2 cap2] 30) = W0 at *
  clear hgw
  obtain ⟨c0, c1, c2, c3⟩ := (unhide HR).facts
  have l0 := lt_of_cell c0
  have n0 := Nat.ne_of_lt l0
  have m0 := Ne.symm n0
  go_cut [4, 5] (fun p e wx => e = .nilIface ∧ BodyCut W0 p wx 3 n4 s4 (some ⟨b, q, none⟩) 2 cap4)
  case first =>
    go_region_held3 (fun y => y.cell? ⟨w.heap.size, 0, none⟩ = some (.int .i64 op2) ∧ y.cell? ⟨w.heap.size, 1, none⟩ = some (.int .i64 n2) ∧ y.cell? ⟨w.heap.size, 2, none⟩ = some (.string s2) ∧ y.cell? ⟨w.heap.size, 3, none⟩ = some (.slice a2 len2 cap2)) (go_keep)
      (first
        | (go_at_call 37
           refine (unhide h55 _ ?_).mono ?_
           first
             | exact (unhide HER).on ((Below.refl _ _).drew)
             | exact (unhide HER).on ((ab _).drew)
           rintro e w2 ⟨rfl, hb2⟩
           try have zz2 := hide ((ZBox.new W0).drew.below hb2)
           have hb02 : Hid (Below W0.heap.size W0 w2) := by
             first
               | exact below_drew' hb2
               | exact bt (ab _) (below_drew' hb2) (Nat.le_refl _)
           have f0 := kpc (unhide hb02) c0
           have f1 := kpc (unhide hb02) c1
           have f2 := kpc (unhide hb02) c2
           have f3 := kpc (unhide hb02) c3
           have l2 := lt_of_cell f0
           have n2' := Nat.ne_of_lt l2
           have m2 := Ne.symm n2'
           clear hb2)
        | (go_at_call 91
           refine (unhide h54 _ ?_ ?_).mono ?_
           first
             | exact bt (unhide HB0) (unhide hb02) (Nat.le_refl _)
             | exact bt (bt (unhide HB0) (unhide hb02) (Nat.le_refl _)) (ab _) (Nat.le_refl _)
           first
             | exact (unhide HER).on (unhide hb02)
             | exact (unhide HER).on (bt (unhide hb02) (ab _) (Nat.le_refl _))
           rintro e w3 ⟨rfl, hb3⟩
           first
             | (have zz3 := hide ((ZBox.new w2).below hb3)
                have hb03 : Hid (Below W0.heap.size W0 w3) := bt (bt (unhide hb02) (ab _) (Nat.le_refl _)) hb3 (Nat.le_refl _)
                have hg3 : Hid (W0.heap.size ≤ w2.heap.size) := (unhide hb02).size)
             | (have zz3 := hide ((unhide zz2).below hb3)
                have hb03 : Hid (Below W0.heap.size W0 w3) := bt (unhide hb02) hb3 (Nat.le_refl _)
                have hg3 : Hid (W0.heap.size ≤ W0.heap.size) := Nat.le_refl _)
             | have hb03 : Hid (Below W0.heap.size W0 w3) := bt (unhide hb02) hb3 (Nat.le_refl _)
           have i0 := kpc (unhide hb03) c0
           have i1 := kpc (unhide hb03) c1
           have i2 := kpc (unhide hb03) c2
           have i3 := kpc (unhide hb03) c3
           try obtain ⟨p0, p1, p2, p3, q0, q1, q2, q3⟩ := (unhide zz3).facts
           try have nz := Nat.ne_of_lt (lt_of_heap (unhide zz3))
           try have mz := Ne.symm nz
           try have nz' := eq_false nz
           try have mz' := eq_false mz
           try have lz := lt_of_heap (unhide zz3)
           have l3 := lt_of_cell i0
           have n3' := Nat.ne_of_lt l3
           have m3 := Ne.symm n3'
           clear hb3))
    all_goals
      go_wp2_with fail
      go_meet
      refine ⟨rfl, ?_⟩
      first
        | (with_reducible refine BodyCut.late ?_
           exact unhide hb03)
        | (with_reducible refine BodyCut.early ?_ ?_ ?_ rfl
           · exact unhide hb03
           · exact unhide zz3
           · exact unhide hg3)
  case rest =>
    obtain ⟨rfl, g7, rfl, hR7, hb7⟩ := hcut
    have HB7 := hide (bt (unhide HB0) hb7 (Nat.le_refl _))
    have HER7 := hide ((unhide HER).on hb7)
    have HRR := hide hR7
    clear c0 c1 c2 c3 l0 n0 m0 hb7 hR7
    obtain ⟨d0, d1, d2, d3⟩ := (unhide HRR).facts
    have g0 := (unhide HER7).cell
    have r4 := kpc (unhide HB7) r4
    have r7 := kpc (unhide HB7) r7
    go_wp2_with fail
    go_region_held3 (fun y => y.cell? ⟨g7, 3, none⟩ = some (.slice (some ⟨b, q, none⟩) 2 cap4) ∧ y.cell? ⟨b, q + 7, none⟩ = some (.slice (some ⟨b', q', none⟩) 2 cap7)) (go_keep)
      (first
        | (refine cz_append_run rfl _ _ 28 rfl _ _ rfl rfl (fun v' w' => ThreeRow w (olds ++ news) v' w' ∧ Below wc.drew.heap.size wc.drew w') (unhide HRUN _ (unhide HB7).drew) ?_
           rintro v' w' ⟨⟨gR, cR, rfl, hR1, hR2⟩, hR3⟩
           have HR1 := hide hR1
           have HR2 := hide hR2
           have hR3' := below_drew' hR3
           have t3 := kpc hR3' d3
           have t7 := kpc hR3' r7
           clear hR1 hR2 hR3))
    all_goals go_wp2_with fail
    all_goals exact bodyPost_ret (v := .tuple #[.slice (some ⟨gR, 0, none⟩) 3 cR, .nilIface]) (by simp [results, Tryz.results71, go_sem]; try rfl) rfl ⟨_, rfl, gR, cR, rfl, unhide HR1, unhide HR2⟩

/-- Cells in a block of their own. -/
def RowV (ty : TypeId) (w : World) (b : Nat) (cs : Array Value) : Prop := w.heap[b]? = some (.cells cs ty (0, 0))
theorem RowV.new (ty : TypeId) (w : World) (cs : Array Value) : RowV ty (w.alloc (.cells cs ty)) w.heap.size cs := heap_alloc_new w _
theorem RowV.lt {ty : TypeId} {w : World} {b : Nat} {cs : Array Value} (h : RowV ty w b cs) : b < w.heap.size := lt_of_heap h
theorem RowV.below {ty : TypeId} {w w' : World} {b : Nat} {cs : Array Value} (h : RowV ty w b cs) (hb : Below w.heap.size w w') : RowV ty w' b cs := (hb.block b h.lt).trans h
theorem RowV.four {ty : TypeId} {w : World} {b : Nat} {c0 c1 c2 c3 : Value} (h : RowV ty w b #[c0, c1, c2, c3]) :
    (w.cell? ⟨b, 0, none⟩ = some c0 ∧ w.cell? ⟨b, 1, none⟩ = some c1 ∧ w.cell? ⟨b, 2, none⟩ = some c2 ∧ w.cell? ⟨b, 3, none⟩ = some c3) ∧ w.frozen? ⟨b, 0, none⟩ = false ∧ w.frozen? ⟨b, 1, none⟩ = false ∧ w.frozen? ⟨b, 2, none⟩ = false ∧ w.frozen? ⟨b, 3, none⟩ = false :=
  ⟨⟨cell_of_row h (by simp), cell_of_row h (by simp), cell_of_row h (by simp), cell_of_row h (by simp)⟩, frozen_of_row h, frozen_of_row h, frozen_of_row h, frozen_of_row h⟩

set_option maxRecDepth 100000 in
theorem leaf44 (op n : Int) (s : ByteArray) (a : Option Addr) (len cap : Nat) (w : World) :
    Calls Tryz.prog 73 #[.agg #[.int .i64 op, .int .i64 n, .string s, .slice a len cap]] w fun e w' => e = .returned (.agg #[.int .i64 op, .string s]) ∧ Below w.heap.size w w' := by
  have hB0 : Below w.heap.size w ((w.alloc (.cells #[.int .i64 op, .int .i64 n, .string s, .slice a len cap] 30)).alloc (.cells #[.int .i64 op, .string s] 90)) := bt (ab _) (ab _) (Nat.le_refl _)
  have HB0 := hide hB0
  clear hB0
  go_enter Tryz.func73, Tryz.ntmps73
  go_wp2_with fail
  have p0 := box_cell (w.alloc (.cells #[.int .i64 op, .int .i64 n, .string s, .slice a len cap] 30)) #[.int .i64 op, .string s] 90 0 _ rfl
  have p1 := box_cell (w.alloc (.cells #[.int .i64 op, .int .i64 n, .string s, .slice a len cap] 30)) #[.int .i64 op, .string s] 90 1 _ rfl
  rw [heap_size_alloc] at p0 p1
  exact bodyPost_ret (v := .agg #[.int .i64 op, .string s]) (by simp [results, Tryz.results73, go_sem, p0, p1]; try rfl) rfl ⟨rfl, unhide HB0⟩

set_option maxRecDepth 100000 in
set_option maxHeartbeats 1000000 in
theorem plain46 (h : ByteArray) (op n : Int) (s : ByteArray) (a : Option Addr) (len cap : Nat) (u : Int) (w : World) (h0 : -9223372036854775808 ≤ u) (h1 : u ≤ 9223372036854775807) (htab : Tab w) :
    Calls Tryz.prog 74 #[.agg #[.string h, .int .i64 op, .int .i64 n, .string s, .slice a len cap, .int .i64 u]] w fun e w' => e = .returned (.agg #[.int .i64 2, .string h, .int .i64 2, .string ⟨(Lib.itoa u).toArray⟩]) ∧ Below w.heap.size w w' := by
  have h60 := hide (hostText24 h op n s a len cap u)
  have h61 := hide (fun v ht => digitsI u v h0 h1 ht)
  have h44 := hide (fun s v => leaf44 2 0 s none 0 0 v)
  generalize (⟨(Lib.itoa u).toArray⟩ : ByteArray) = ns at *
  have hB0 : Below w.heap.size w ((w.alloc (.cells #[.string h, .int .i64 op, .int .i64 n, .string s, .slice a len cap, .int .i64 u] 33)).alloc (.cells #[.int .i64 0, .string ⟨#[]⟩, .int .i64 0, .string ⟨#[]⟩] 93)) := bt (ab _) (ab _) (Nat.le_refl _)
  have HX : Hid (RowV 93 ((w.alloc (.cells #[.string h, .int .i64 op, .int .i64 n, .string s, .slice a len cap, .int .i64 u] 33)).alloc (.cells #[.int .i64 0, .string ⟨#[]⟩, .int .i64 0, .string ⟨#[]⟩] 93)) (w.heap.size + 1) #[.int .i64 0, .string ⟨#[]⟩, .int .i64 0, .string ⟨#[]⟩]) := by
    have := RowV.new 93 (w.alloc (.cells #[.string h, .int .i64 op, .int .i64 n, .string s, .slice a len cap, .int .i64 u] 33)) #[.int .i64 0, .string ⟨#[]⟩, .int .i64 0, .string ⟨#[]⟩]
    rwa [heap_size_alloc] at this
  have HR : Hid (RowC 33 ((w.alloc (.cells #[.string h, .int .i64 op, .int .i64 n, .string s, .slice a len cap, .int .i64 u] 33)).alloc (.cells #[.int .i64 0, .string ⟨#[]⟩, .int .i64 0, .string ⟨#[]⟩] 93)) w.heap.size h op n s a len cap u) := (RowC.new 33 w h op n s a len cap u).below (ab _)
  have HTB := hide (htab.on hB0)
  have HB0 := hide hB0
  clear htab hB0 h0 h1
  go_enter Tryz.func74, Tryz.ntmps74
  go_wp2_with fail
  generalize hgw : (w.alloc (.cells #[.string h, .int .i64 op, .int .i64 n, .string s, .slice a len cap, .int .i64 u] 33)).alloc (.cells #[.int .i64 0, .string ⟨#[]⟩, .int .i64 0, .string ⟨#[]⟩] 93) = W0 at *
  clear hgw
  obtain ⟨c0, c1, c2, c3, c4, c5⟩ := (unhide HR).facts
  have hne1 : (w.heap.size = w.heap.size + 1) = False := by simp
  have hne2 : (w.heap.size + 1 = w.heap.size) = False := by simp
  go_region_held3 (fun x => x.cell? ⟨w.heap.size, 0, none⟩ = some (.string h) ∧ x.cell? ⟨w.heap.size, 1, none⟩ = some (.int .i64 op) ∧ x.cell? ⟨w.heap.size, 2, none⟩ = some (.int .i64 n) ∧ x.cell? ⟨w.heap.size, 3, none⟩ = some (.string s) ∧ x.cell? ⟨w.heap.size, 4, none⟩ = some (.slice a len cap) ∧ x.cell? ⟨w.heap.size, 5, none⟩ = some (.int .i64 u)) (go_keep)
    (first
      | (go_at_call 38
         refine (unhide h60 _).mono ?_
         rintro e w2 ⟨rfl, hb2⟩
         have hb2' := hide (below_drew' hb2)
         obtain ⟨f0, f1, f2, f3, f4, f5⟩ := ((unhide HR).below (unhide hb2')).facts)
      | (go_at_call 35
         refine (unhide h61 _ (((unhide HTB).on (unhide hb2')).on (unhide hb3'))).mono ?_
         rintro e w4 ⟨rfl, hb4⟩
         have hb4' := hide hb4
         obtain ⟨i0, i1, i2, i3, i4, i5⟩ := ((((unhide HR).below (unhide hb2')).below (unhide hb3')).below hb4).facts)
      | (go_at_call 73
         refine (unhide h44 ns _).mono ?_
         rintro e w5 ⟨rfl, hb5⟩
         have hb5' := hide hb5
         obtain ⟨j0, j1, j2, j3, j4, j5⟩ := (((((unhide HR).below (unhide hb2')).below (unhide hb3')).below (unhide hb4')).below hb5).facts
         obtain ⟨⟨p0, p1, p2, p3⟩, q0, q1, q2, q3⟩ := (((((unhide HX).below (unhide hb2')).below (unhide hb3')).below (unhide hb4')).below hb5).four)
      | (go_at_call 73
         refine (unhide h44 h _).mono ?_
         rintro e w3 ⟨rfl, hb3⟩
         have hb3' := hide hb3
         obtain ⟨g0, g1, g2, g3, g4, g5⟩ := (((unhide HR).below (unhide hb2')).below hb3).facts))
  have HB5 := hide (bt (bt (bt (bt (unhide HB0) (unhide hb2') (Nat.le_refl _)) (unhide hb3') (Nat.le_refl _)) (unhide hb4') (Nat.le_refl _)) (unhide hb5') (Nat.le_refl _))
  go_wp2_with fail
  exact bodyPost_ret (v := .agg #[.int .i64 2, .string h, .int .i64 2, .string ns]) (by simp [results, Tryz.results74, go_sem, p0, p1, p2, p3]; try rfl) rfl ⟨rfl, set4_below (unhide HB5) (by omega)⟩

theorem decFrom_snoc (b : UInt8) : ∀ (l : List UInt8) (acc m d : Nat), Lib.decFrom acc l = some m → Lib.digitVal b = some d → Lib.decFrom acc (l ++ [b]) = some (m * 10 + d)
  | [], acc, m, d, h, hd => by
    simp only [Lib.decFrom, Option.some.injEq] at h
    subst h
    simp [Lib.decFrom, hd]
  | c :: r, acc, m, d, h, hd => by
    simp only [List.cons_append, Lib.decFrom] at h ⊢
    cases hc : Lib.digitVal c with
    | none => rw [hc] at h; cases h
    | some x =>
      rw [hc] at h
      exact decFrom_snoc b r _ m d h hd
theorem digitVal_of (k : Nat) (h : k < 10) : Lib.digitVal (UInt8.ofNat (48 + k)) = some k := by
  have e : (UInt8.ofNat (48 + k)).toNat = 48 + k := by rw [UInt8.toNat_ofNat']; omega
  simp only [Lib.digitVal, e]
  rw [if_pos (by omega)]
  congr 1
  omega
theorem decFrom_digits : ∀ u : Nat, Lib.decFrom 0 (Lib.decDigits u) = some u := by
  intro u
  induction u using Nat.strongRecOn with
  | ind u ih =>
    by_cases h : u < 10
    · rw [Lib.decDigits_one h]
      simp only [Lib.decFrom, digitVal_of u h, Nat.zero_mul, Nat.zero_add]
    · rw [Lib.decDigits, dif_neg h, decFrom_snoc _ _ 0 (u / 10) (u % 10) (ih (u / 10) (by omega)) (digitVal_of _ (by omega))]
      congr 1
      omega
theorem digits_ne (u : Nat) : Lib.decDigits u ≠ [] := by
  rw [Lib.decDigits]
  split
  · simp
  · simp
theorem digits_first {u : Nat} {b : UInt8} {r : List UInt8} (h : Lib.decDigits u = b :: r) : ∃ d, Lib.digitVal b = some d := by
  have := decFrom_digits u
  rw [h] at this
  simp only [Lib.decFrom] at this
  cases hb : Lib.digitVal b with
  | none => rw [hb] at this; cases this
  | some d => exact ⟨d, rfl⟩
theorem atoi_digits (u : Nat) : Lib.atoi (Lib.decDigits u) = some (u : Int) := by
  have h1 := decFrom_digits u
  cases hd : Lib.decDigits u with
  | nil => exact absurd hd (digits_ne u)
  | cons b r =>
    obtain ⟨d, hb⟩ := digits_first hd
    have hr : 48 ≤ b.toNat := by
      unfold Lib.digitVal at hb
      split at hb
      · rename_i h; exact h.1
      · cases hb
    have e1 : (b == 45) = false := by
      rw [beq_eq_false_iff_ne]
      intro e
      subst e
      exact absurd hr (by decide)
    have e2 : (b == 43) = false := by
      rw [beq_eq_false_iff_ne]
      intro e
      subst e
      exact absurd hr (by decide)
    rw [hd] at h1
    simp [Lib.atoi, e1, e2, Lib.decNat, h1]
/-- The text is this number in digits, from 0 to 100000. -/
def isNum (s : ByteArray) (u : Int) : Prop := 0 ≤ u ∧ u ≤ 100000 ∧ s = ⟨(Lib.itoa u).toArray⟩
theorem isNum_digits {s : ByteArray} {u : Int} (h : isNum s u) : s = ⟨(Lib.decDigits u.toNat).toArray⟩ := by
  rw [h.2.2]
  unfold Lib.itoa
  rw [if_neg (by have := h.1; omega)]
theorem isNum_list {s : ByteArray} {u : Int} (h : isNum s u) : s.data.toList = Lib.decDigits u.toNat := by
  rw [isNum_digits h]
theorem isNum_len {s : ByteArray} {u : Int} (h : isNum s u) : s.data.toList.length ≤ 18 := by
  rw [isNum_list h]
  have h0 := h.1
  have h1 := h.2.1
  have hl : ∀ (k u : Nat), u < 10 ^ k → 1 ≤ k → (Lib.decDigits u).length ≤ k := by
    intro k
    induction k with
    | zero => intro u _ h; omega
    | succ k ih =>
      intro u hu _
      by_cases h : u < 10
      · rw [Lib.decDigits_one h]; simp
      · rw [Lib.decDigits, dif_neg h]
        have hk : 1 ≤ k := by
          rcases Nat.eq_zero_or_pos k with rfl | hp
          · simp at hu; omega
          · exact hp
        have := ih (u / 10) (by rw [Nat.pow_succ] at hu; omega) hk
        simp
        omega
  have := hl 6 u.toNat (by omega) (by omega)
  omega
theorem isNum_atoi {s : ByteArray} {u : Int} (h : isNum s u) : Lib.atoiAll s.data.toList = .ok u := by
  rw [Lib.atoiAll_short _ (isNum_len h), isNum_list h, atoi_digits]
  have : ((u.toNat : Nat) : Int) = u := by have := h.1; omega
  rw [this]
  rfl
theorem isNum_one {s : ByteArray} {u v : Int} (h : isNum s u) (h' : isNum s v) : u = v := by
  have e1 := isNum_atoi h
  rw [isNum_atoi h'] at e1
  cases e1
  rfl

/-- The two errors of strconv hold what an error may hold. -/
def Var12 (w : World) : Prop := (∃ ev, w.cell? ⟨1, 0, none⟩ = some ev ∧ (ev = .nilIface ∨ ∃ te pe, ev = .iface te pe)) ∧ (∃ ev, w.cell? ⟨2, 0, none⟩ = some ev ∧ (ev = .nilIface ∨ ∃ te pe, ev = .iface te pe))
theorem Var12.on {w w' : World} (h : Var12 w) (hb : Below w.heap.size w w') : Var12 w' := by
  obtain ⟨⟨e1, h1, k1⟩, e2, h2, k2⟩ := h
  exact ⟨⟨e1, kpc hb h1, k1⟩, e2, kpc hb h2, k2⟩

theorem atoi43 (s : ByteArray) (w : World) (hs : s.size ≤ 2097152) (hv : Var12 w) :
    Calls Tryz.prog 72 #[.string s] w fun e w' => ∃ v er, e = .returned (.tuple #[.int .i64 v, er]) ∧ Below w.heap.size w w' ∧ (-9223372036854775808 ≤ v ∧ v ≤ 9223372036854775807) ∧ ∀ u, isNum s u → v = u := by
  obtain ⟨⟨e1, h1, k1⟩, e2, h2, k2⟩ := hv
  cases h : Lib.atoiAll s.data.toList with
  | ok v =>
    refine (Tryz.strconv_Atoi_ok s (by omega) v h w).mono ?_
    rintro e w' ⟨he, hw⟩
    refine ⟨v, _, he, ?_, ?_, fun u hu => ?_⟩
    · rcases hw with rfl | ⟨t, rfl⟩
      · exact Below.refl _ _
      · exact ⟨rfl, rfl, rfl, by rw [Lib.bytesWorld_size]; omega, fun j hj => Lib.bytesWorld_at_old w 5 t j hj⟩
    · exact Lib.atoiAll_bounds h
    · have := isNum_atoi hu
      rw [h] at this
      cases this
      rfl
  | «syntax» =>
    refine (Tryz.strconv_Atoi_syntax s (by omega) h e1 w h1 k1).mono ?_
    rintro e w' ⟨N, he, _, _, hb⟩
    exact ⟨0, _, he, hb, by omega, fun u hu => by have := isNum_atoi hu; rw [h] at this; cases this⟩
  | range =>
    refine (Tryz.strconv_Atoi_range s (by omega) h e2 w h2 k2).mono ?_
    rintro e w' ⟨N, he, _, _, hb⟩
    refine ⟨_, _, he, hb, ?_, fun u hu => by have := isNum_atoi hu; rw [h] at this; cases this⟩
    unfold Lib.atoiSat
    split <;> omega

end Go.Proofs.YtkjbhbhknnamjaaGreatDoor
