/- The walk of laws.FnExactReplyOf, given what both sides answer: it answers true; nothing that was there is written. The law of FnExactReplyOf: whatever two terms lie there, laws.FnExactReplyOf answers true. -/
import Derived.Test.YtafoonabmijcdaaGreatDoorOt
import Derived.Test.YtafoonabmijcdaaGreatDoorHz
import Derived.Deep.RegionHeld3
import Derived.Deep.DeepCutAuto
namespace Go.Proofs.YtafoonabmijcdaaGreatDoor
open Go.RowKit Go.Deep

def pick4 (P0 P1 P2 P3 : Tm) : Nat → Tm
  | 0 => P0 | 1 => P1 | 2 => P2 | _ => P3
/-- Four answers, each in memory of its own, one behind the other. -/
def AnsI (P0 P1 P2 P3 : Tm) (B : Bool) (w : World) (e : Ending) (w' : World) : Prop := ∃ (r : Nat → Tc) (f0 f1 f2 f3 : List Nat) (m1 m2 m3 : Nat), e = .returned (ansV r B) ∧ (Own w' P0 (r 0).cells f0 ∧ Own w' P1 (r 1).cells f1 ∧ Own w' P2 (r 2).cells f2 ∧ Own w' P3 (r 3).cells f3) ∧ (f0.Nodup ∧ f1.Nodup ∧ f2.Nodup ∧ f3.Nodup) ∧ (w.heap.size ≤ m1 ∧ m1 ≤ m2 ∧ m2 ≤ m3 ∧ m3 ≤ w'.heap.size) ∧ (∀ y ∈ f0, w.heap.size ≤ y ∧ y < m1) ∧ (∀ y ∈ f1, m1 < y ∧ y < m2) ∧ (∀ y ∈ f2, m2 < y ∧ y < m3) ∧ (∀ y ∈ f3, m3 < y) ∧ Below w.heap.size w w'

theorem of_four {w : World} {P0 P1 P2 P3 : Tm} {r : Nat → Tc} (h0 : Lies w 0 P0 (r 0).cells) (h1 : Lies w 0 P1 (r 1).cells) (h2 : Lies w 0 P2 (r 2).cells) (h3 : Lies w 0 P3 (r 3).cells) : ∀ j, j < 4 → Lies w 0 ((pick4 P0 P1 P2 P3) j) (r j).cells
  | 0, _ => h0 | 1, _ => h1 | 2, _ => h2 | 3, _ => h3
  | j + 4, h => absurd h (by omega)

set_option maxRecDepth 100000 in
set_option maxHeartbeats 16000000 in
theorem lawReplyOf0 (t0 t1 P0 P1 P2 P3 : Tm) (B : Bool) (x : Addr) (hPZ : P0.size ≤ 200 ∧ P1.size ≤ 200 ∧ P2.size ≤ 200 ∧ P3.size ≤ 200) (hPK : ∀ j, j < 4 → KidsOk ((pick4 P0 P1 P2 P3) j))
    (hS0 : ∀ (op0 n0 : Int) (s0 : ByteArray) (a0 : Option Addr) (len0 cap0 : Nat) (op1 n1 : Int) (s1 : ByteArray) (a1 : Option Addr) (len1 cap1 : Nat) (w : World), Lies w 0 t0 (tmCells op0 n0 s0 a0 len0 cap0) → Lies w 0 t1 (tmCells op1 n1 s1 a1 len1 cap1) → t0.size + t1.size ≤ 1048578 → Calls Tryz.prog 5 #[.agg #[.int .i64 op0, .int .i64 n0, .string s0, .slice a0 len0 cap0], .agg #[.int .i64 op1, .int .i64 n1, .string s1, .slice a1 len1 cap1]] w fun e w' => ∃ r : Nat → Tc, e = .returned (ansV r B) ∧ (∀ j, j < 4 → Lies w' 0 ((pick4 P0 P1 P2 P3) j) (r j).cells) ∧ Below w.heap.size w w')
    (hI0 : ∀ (op0 n0 : Int) (s0 : ByteArray) (a0 : Option Addr) (len0 cap0 : Nat) (op1 n1 : Int) (s1 : ByteArray) (a1 : Option Addr) (len1 cap1 : Nat) (w : World), Lies w 0 t0 (tmCells op0 n0 s0 a0 len0 cap0) → Lies w 0 t1 (tmCells op1 n1 s1 a1 len1 cap1) → t0.size + t1.size ≤ 1048578 → ErrAt x w → Tab w → Calls Tryz.prog 7 #[.agg #[.int .i64 op0, .int .i64 n0, .string s0, .slice a0 len0 cap0], .agg #[.int .i64 op1, .int .i64 n1, .string s1, .slice a1 len1 cap1]] w fun e w' => AnsI P0 P1 P2 P3 B w e w')
    (op0 n0 : Int) (s0 : ByteArray) (a0 : Option Addr) (len0 cap0 : Nat) (op1 n1 : Int) (s1 : ByteArray) (a1 : Option Addr) (len1 cap1 : Nat) (w : World) (hl0 : Lies w 0 t0 (tmCells op0 n0 s0 a0 len0 cap0)) (hl1 : Lies w 0 t1 (tmCells op1 n1 s1 a1 len1 cap1)) (htab : Tab w) (herr : ErrAt x w) :
    Calls Tryz.prog 3 #[.agg #[.int .i64 op0, .int .i64 n0, .string s0, .slice a0 len0 cap0], .agg #[.int .i64 op1, .int .i64 n1, .string s1, .slice a1 len1 cap1]] w fun e w' => e = .returned (.bool true) ∧ Below w.heap.size w w' := by
  have hsz0 := hide (sz_calls t0)
  have hZ0 := t0.size_le
  have hsz1 := hide (sz_calls t1)
  have hZ1 := t1.size_le
  have heq := hide eq_calls
  have hB0 : Below w.heap.size w ((w.alloc (.cells #[.int .i64 op0, .int .i64 n0, .string s0, .slice a0 len0 cap0] 24)).alloc (.cells #[.int .i64 op1, .int .i64 n1, .string s1, .slice a1 len1 cap1] 24)) := bt (ab _) (ab _) (Nat.le_refl _)
  have HA0 : Hid (RowT 24 ((w.alloc (.cells #[.int .i64 op0, .int .i64 n0, .string s0, .slice a0 len0 cap0] 24)).alloc (.cells #[.int .i64 op1, .int .i64 n1, .string s1, .slice a1 len1 cap1] 24)) (w.heap.size) op0 n0 s0 a0 len0 cap0) := by
    have := ((RowT.new 24 w op0 n0 s0 a0 len0 cap0).below (ab (.cells #[.int .i64 op1, .int .i64 n1, .string s1, .slice a1 len1 cap1] 24)))
    exact this
  have HA1 : Hid (RowT 24 ((w.alloc (.cells #[.int .i64 op0, .int .i64 n0, .string s0, .slice a0 len0 cap0] 24)).alloc (.cells #[.int .i64 op1, .int .i64 n1, .string s1, .slice a1 len1 cap1] 24)) (w.heap.size + 1) op1 n1 s1 a1 len1 cap1) := by
    have := (RowT.new 24 (w.alloc (.cells #[.int .i64 op0, .int .i64 n0, .string s0, .slice a0 len0 cap0] 24)) op1 n1 s1 a1 len1 cap1)
    rwa [heap_size_alloc] at this
  have HL0 := hide (hl0.below hB0)
  have HL1 := hide (hl1.below hB0)
  have HER := hide (herr.on hB0)
  have HTB := hide (htab.on hB0)
  have HB0 := hide hB0
  clear hl0 hl1 hB0 herr htab
  by_cases hw0 : (t0.wt : Int) ≤ 1048576
  · obtain ⟨left1, hgl0⟩ : ∃ left1 : Int, (1048576 : Int) - t0.wt = left1 := ⟨_, rfl⟩
    have hln0 : 0 ≤ left1 := by omega
    by_cases hw1 : (t1.wt : Int) ≤ left1
    · obtain ⟨left2, hgl1⟩ : ∃ left2 : Int, (left1 : Int) - t1.wt = left2 := ⟨_, rfl⟩
      have hln1 : 0 ≤ left2 := by omega
      have hto0 := hide (fun a cap v hv => tp_calls t0 op0 n0 s0 a len0 cap v hv (by omega))
      have hto1 := hide (fun a cap v hv => tp_calls t1 op1 n1 s1 a len1 cap v hv (by omega))
      have hS := hide (fun op0 n0 s0 a0 len0 cap0 op1 n1 s1 a1 len1 cap1 V g0 g1 => hS0 op0 n0 s0 a0 len0 cap0 op1 n1 s1 a1 len1 cap1 V g0 g1 (by omega))
      have hI := hide (fun op0 n0 s0 a0 len0 cap0 op1 n1 s1 a1 len1 cap1 V g0 g1 he ht => hI0 op0 n0 s0 a0 len0 cap0 op1 n1 s1 a1 len1 cap1 V g0 g1 (by omega) he ht)
      clear hS0 hI0
      have hk0 := size_kids t0
      have hk1 := size_kids t1
      have hm0 : Hid (∀ (a : Option Addr) (w : World) (fp : List Nat), Own w t0 (tmCells op0 n0 s0 a len0 len0) fp → fp.Nodup → Calls Tryz.prog 9 #[.agg #[.int .i64 op0, .int .i64 n0, .string s0, .slice a len0 len0], .int .i64 (((1 : Nat)) : Int)] w fun e w' => e = .returned (.int .i64 (((1 + 3 * Tm.sizes t0.kids : Nat)) : Int)) ∧ Only fp w w') :=
        fun a w fp ho hnd => (mark_any t0 op0 n0 s0 a len0 len0 (1) w fp ho hnd (by omega) (by omega)).mono fun e w' h => ⟨h.1, h.2.2⟩
      have hm1 : Hid (∀ (a : Option Addr) (w : World) (fp : List Nat), Own w t1 (tmCells op1 n1 s1 a len1 len1) fp → fp.Nodup → Calls Tryz.prog 9 #[.agg #[.int .i64 op1, .int .i64 n1, .string s1, .slice a len1 len1], .int .i64 (((1 + 3 * Tm.sizes t0.kids : Nat)) : Int)] w fun e w' => e = .returned (.int .i64 (((1 + 3 * Tm.sizes t0.kids + 3 * Tm.sizes t1.kids : Nat)) : Int)) ∧ Only fp w w') :=
        fun a w fp ho hnd => (mark_any t1 op1 n1 s1 a len1 len1 (1 + 3 * Tm.sizes t0.kids) w fp ho hnd (by omega) (by omega)).mono fun e w' h => ⟨h.1, h.2.2⟩
      have hkP0 := size_kids P0
      have hkP1 := size_kids P1
      have hkP2 := size_kids P2
      have hkP3 := size_kids P3
      have hmG0 : Hid (∀ (op n : Int) (s : ByteArray) (a : Option Addr) (len cap : Nat) (w : World) (fp : List Nat), Own w P0 (tmCells op n s a len cap) fp → fp.Nodup → Calls Tryz.prog 9 #[.agg #[.int .i64 op, .int .i64 n, .string s, .slice a len cap], .int .i64 (((1 : Nat)) : Int)] w fun e w' => e = .returned (.int .i64 (((1 + 3 * Tm.sizes P0.kids : Nat)) : Int)) ∧ Own w' (P0.marked (1)) (tmCells op n s a len cap) fp ∧ Only fp w w') :=
        fun op n s a len cap w fp ho hnd => mark_any P0 op n s a len cap (1) w fp ho hnd (by omega) (by omega)
      have hhG0 : Hid (∀ (op n : Int) (s : ByteArray) (a : Option Addr) (len cap : Nat) (w : World), Lies w 0 (P0.marked (1)) (tmCells op n s a len cap) → Calls Tryz.prog 10 #[.agg #[.int .i64 op, .int .i64 n, .string s, .slice a len cap], .int .i64 (((1 : Nat)) : Int)] w fun e w' => e = .returned (.int .i64 (((1 + 3 * Tm.sizes P0.kids : Nat)) : Int)) ∧ Below w.heap.size w w') :=
        fun op n s a len cap w hl => held_marked P0 op n s a len cap (1) w hl (by omega) (by omega)
      have hmG1 : Hid (∀ (op n : Int) (s : ByteArray) (a : Option Addr) (len cap : Nat) (w : World) (fp : List Nat), Own w P1 (tmCells op n s a len cap) fp → fp.Nodup → Calls Tryz.prog 9 #[.agg #[.int .i64 op, .int .i64 n, .string s, .slice a len cap], .int .i64 (((1 + 3 * Tm.sizes P0.kids : Nat)) : Int)] w fun e w' => e = .returned (.int .i64 (((1 + 3 * Tm.sizes P0.kids + 3 * Tm.sizes P1.kids : Nat)) : Int)) ∧ Own w' (P1.marked (1 + 3 * Tm.sizes P0.kids)) (tmCells op n s a len cap) fp ∧ Only fp w w') :=
        fun op n s a len cap w fp ho hnd => mark_any P1 op n s a len cap (1 + 3 * Tm.sizes P0.kids) w fp ho hnd (by omega) (by omega)
      have hhG1 : Hid (∀ (op n : Int) (s : ByteArray) (a : Option Addr) (len cap : Nat) (w : World), Lies w 0 (P1.marked (1 + 3 * Tm.sizes P0.kids)) (tmCells op n s a len cap) → Calls Tryz.prog 10 #[.agg #[.int .i64 op, .int .i64 n, .string s, .slice a len cap], .int .i64 (((1 + 3 * Tm.sizes P0.kids : Nat)) : Int)] w fun e w' => e = .returned (.int .i64 (((1 + 3 * Tm.sizes P0.kids + 3 * Tm.sizes P1.kids : Nat)) : Int)) ∧ Below w.heap.size w w') :=
        fun op n s a len cap w hl => held_marked P1 op n s a len cap (1 + 3 * Tm.sizes P0.kids) w hl (by omega) (by omega)
      have hmG2 : Hid (∀ (op n : Int) (s : ByteArray) (a : Option Addr) (len cap : Nat) (w : World) (fp : List Nat), Own w P2 (tmCells op n s a len cap) fp → fp.Nodup → Calls Tryz.prog 9 #[.agg #[.int .i64 op, .int .i64 n, .string s, .slice a len cap], .int .i64 (((1 + 3 * Tm.sizes P0.kids + 3 * Tm.sizes P1.kids : Nat)) : Int)] w fun e w' => e = .returned (.int .i64 (((1 + 3 * Tm.sizes P0.kids + 3 * Tm.sizes P1.kids + 3 * Tm.sizes P2.kids : Nat)) : Int)) ∧ Own w' (P2.marked (1 + 3 * Tm.sizes P0.kids + 3 * Tm.sizes P1.kids)) (tmCells op n s a len cap) fp ∧ Only fp w w') :=
        fun op n s a len cap w fp ho hnd => mark_any P2 op n s a len cap (1 + 3 * Tm.sizes P0.kids + 3 * Tm.sizes P1.kids) w fp ho hnd (by omega) (by omega)
      have hhG2 : Hid (∀ (op n : Int) (s : ByteArray) (a : Option Addr) (len cap : Nat) (w : World), Lies w 0 (P2.marked (1 + 3 * Tm.sizes P0.kids + 3 * Tm.sizes P1.kids)) (tmCells op n s a len cap) → Calls Tryz.prog 10 #[.agg #[.int .i64 op, .int .i64 n, .string s, .slice a len cap], .int .i64 (((1 + 3 * Tm.sizes P0.kids + 3 * Tm.sizes P1.kids : Nat)) : Int)] w fun e w' => e = .returned (.int .i64 (((1 + 3 * Tm.sizes P0.kids + 3 * Tm.sizes P1.kids + 3 * Tm.sizes P2.kids : Nat)) : Int)) ∧ Below w.heap.size w w') :=
        fun op n s a len cap w hl => held_marked P2 op n s a len cap (1 + 3 * Tm.sizes P0.kids + 3 * Tm.sizes P1.kids) w hl (by omega) (by omega)
      have hmG3 : Hid (∀ (op n : Int) (s : ByteArray) (a : Option Addr) (len cap : Nat) (w : World) (fp : List Nat), Own w P3 (tmCells op n s a len cap) fp → fp.Nodup → Calls Tryz.prog 9 #[.agg #[.int .i64 op, .int .i64 n, .string s, .slice a len cap], .int .i64 (((1 + 3 * Tm.sizes P0.kids + 3 * Tm.sizes P1.kids + 3 * Tm.sizes P2.kids : Nat)) : Int)] w fun e w' => e = .returned (.int .i64 (((1 + 3 * Tm.sizes P0.kids + 3 * Tm.sizes P1.kids + 3 * Tm.sizes P2.kids + 3 * Tm.sizes P3.kids : Nat)) : Int)) ∧ Own w' (P3.marked (1 + 3 * Tm.sizes P0.kids + 3 * Tm.sizes P1.kids + 3 * Tm.sizes P2.kids)) (tmCells op n s a len cap) fp ∧ Only fp w w') :=
        fun op n s a len cap w fp ho hnd => mark_any P3 op n s a len cap (1 + 3 * Tm.sizes P0.kids + 3 * Tm.sizes P1.kids + 3 * Tm.sizes P2.kids) w fp ho hnd (by omega) (by omega)
      have hhG3 : Hid (∀ (op n : Int) (s : ByteArray) (a : Option Addr) (len cap : Nat) (w : World), Lies w 0 (P3.marked (1 + 3 * Tm.sizes P0.kids + 3 * Tm.sizes P1.kids + 3 * Tm.sizes P2.kids)) (tmCells op n s a len cap) → Calls Tryz.prog 10 #[.agg #[.int .i64 op, .int .i64 n, .string s, .slice a len cap], .int .i64 (((1 + 3 * Tm.sizes P0.kids + 3 * Tm.sizes P1.kids + 3 * Tm.sizes P2.kids : Nat)) : Int)] w fun e w' => e = .returned (.int .i64 (((1 + 3 * Tm.sizes P0.kids + 3 * Tm.sizes P1.kids + 3 * Tm.sizes P2.kids + 3 * Tm.sizes P3.kids : Nat)) : Int)) ∧ Below w.heap.size w w') :=
        fun op n s a len cap w hl => held_marked P3 op n s a len cap (1 + 3 * Tm.sizes P0.kids + 3 * Tm.sizes P1.kids + 3 * Tm.sizes P2.kids) w hl (by omega) (by omega)
      have hmb0 : (1 + 3 * Tm.sizes P0.kids : Nat) ≤ 4194304 := by omega
      have hmb1 : (1 + 3 * Tm.sizes P0.kids + 3 * Tm.sizes P1.kids : Nat) ≤ 4194304 := by omega
      have hmb2 : (1 + 3 * Tm.sizes P0.kids + 3 * Tm.sizes P1.kids + 3 * Tm.sizes P2.kids : Nat) ≤ 4194304 := by omega
      have hmb3 : (1 + 3 * Tm.sizes P0.kids + 3 * Tm.sizes P1.kids + 3 * Tm.sizes P2.kids + 3 * Tm.sizes P3.kids : Nat) ≤ 4194304 := by omega
      have hkb : (1 + 3 * Tm.sizes t0.kids + 3 * Tm.sizes t1.kids : Nat) ≤ 8388608 := by omega
      have hBB : (B != B) = false := by simp
      clear hZ0 hZ1 hk0 hk1 hPZ hkP0 hkP1 hkP2 hkP3
      generalize 1 + 3 * Tm.sizes P0.kids + 3 * Tm.sizes P1.kids + 3 * Tm.sizes P2.kids + 3 * Tm.sizes P3.kids = g4 at *
      generalize 1 + 3 * Tm.sizes P0.kids + 3 * Tm.sizes P1.kids + 3 * Tm.sizes P2.kids = g3 at *
      generalize 1 + 3 * Tm.sizes P0.kids + 3 * Tm.sizes P1.kids = g2 at *
      generalize 1 + 3 * Tm.sizes P0.kids = g1 at *
      generalize 1 + 3 * Tm.sizes t0.kids + 3 * Tm.sizes t1.kids = k2 at *
      generalize 1 + 3 * Tm.sizes t0.kids = k1 at *
      go_enter Tryz.func3, Tryz.ntmps3
      go_wp2_with fail
      generalize hgw : ((w.alloc (.cells #[.int .i64 op0, .int .i64 n0, .string s0, .slice a0 len0 cap0] 24)).alloc (.cells #[.int .i64 op1, .int .i64 n1, .string s1, .slice a1 len1 cap1] 24)) = W1 at *
      clear hgw
      refine (unhide hsz0 op0 n0 s0 a0 len0 cap0 _ _ (unhide HL0) (by omega) (by omega)).mono ?_
      rintro e v0 ⟨rfl, hb⟩
      rw [szv_yes hw0, hgl0]
      have hv0 : Hid (Below W1.heap.size W1 v0) := hb
      clear hb
      obtain ⟨c0, c1, c2, c3⟩ := ((unhide HA1).below (unhide hv0)).facts
      go_wp2_with fail
      clear c0 c1 c2 c3
      refine (unhide hsz1 op1 n1 s1 a1 len1 cap1 _ _ ((unhide HL1).below (unhide hv0)) (by omega) (by omega)).mono ?_
      rintro e v1 ⟨rfl, hb⟩
      rw [szv_yes hw1, hgl1]
      have hv1 : Hid (Below W1.heap.size W1 v1) := bt (unhide hv0) hb (Nat.le_refl _)
      clear hb
      have HB1 := hide (bt (unhide HB0) (unhide hv1) (Nat.le_refl _))
      have HA0 := hide ((unhide HA0).below (unhide hv1))
      have HL0 := hide ((unhide HL0).below (unhide hv1))
      have HA1 := hide ((unhide HA1).below (unhide hv1))
      have HL1 := hide ((unhide HL1).below (unhide hv1))
      have HER := hide ((unhide HER).on (unhide hv1))
      have HTB := hide ((unhide HTB).on (unhide hv1))
      clear hv0 hv1 hw0 hgl0 hsz0 hw1 hgl1 hsz1 HB0
      go_wp2_with fail
      refine wp_region_any (by kernel_rfl) ?_
      have hd0 : Below v1.heap.size v1 v1.drew := (Below.refl _ _).drew
      refine rowsSp _ v1.drew rfl (w.heap.size) (w.heap.size + 1) op0 n0 op1 n1 s0 s1 a0 a1 len0 cap0 len1 cap1 t0 t1 (pick4 P0 P1 P2 P3) B rfl rfl (unhide HA0) (unhide HA1) hPK ?_ ?_ ?_ ?_
      · intro V hV
        refine (unhide hto0 a0 cap0 V ((unhide HL0).below (hd0.trans hV))).mono ?_
        rintro e w' ⟨b', f', rfl, hO, -, hb⟩
        exact ⟨⟨op0, n0, s0, b', len0, len0⟩, rfl, hO.lies0, hb⟩
      · intro V hV
        refine (unhide hto1 a1 cap1 V ((unhide HL1).below (hd0.trans hV))).mono ?_
        rintro e w' ⟨b', f', rfl, hO, -, hb⟩
        exact ⟨⟨op1, n1, s1, b', len1, len1⟩, rfl, hO.lies0, hb⟩
      · intro p q V hV hl hl'
        exact unhide hS p.op p.n p.s p.a p.len p.cap q.op q.n q.s q.a q.len q.cap V hl hl'
      intro pW0 pW1 pW2 pW3 q0 q1 r yW R0 R1 R2 R3 HLs HBy
      simp only [Act.put, List.setIfInBounds_toArray, List.set_cons_succ, List.set_cons_zero]
      have hBy : Below v1.heap.size v1 yW := hd0.trans HBy
      have Q0 : Lies yW 0 P0 (r 0).cells := HLs 0 (by omega)
      have Q1 : Lies yW 0 P1 (r 1).cells := HLs 1 (by omega)
      have Q2 : Lies yW 0 P2 (r 2).cells := HLs 2 (by omega)
      have Q3 : Lies yW 0 P3 (r 3).cells := HLs 3 (by omega)
      clear HLs HBy hd0
      generalize r 0 = c0 at *
      obtain ⟨opW0, nW0, sW0, aW0, lenW0, capW0⟩ := c0
      generalize r 1 = c1 at *
      obtain ⟨opW1, nW1, sW1, aW1, lenW1, capW1⟩ := c1
      generalize r 2 = c2 at *
      obtain ⟨opW2, nW2, sW2, aW2, lenW2, capW2⟩ := c2
      generalize r 3 = c3 at *
      obtain ⟨opW3, nW3, sW3, aW3, lenW3, capW3⟩ := c3
      have HW0 : Hid (RowT 28 yW pW0 opW0 nW0 sW0 aW0 lenW0 capW0) := R0
      have HLW0 : Hid (Lies yW 0 P0 (tmCells opW0 nW0 sW0 aW0 lenW0 capW0)) := Q0
      have HW1 : Hid (RowT 28 yW pW1 opW1 nW1 sW1 aW1 lenW1 capW1) := R1
      have HLW1 : Hid (Lies yW 0 P1 (tmCells opW1 nW1 sW1 aW1 lenW1 capW1)) := Q1
      have HW2 : Hid (RowT 28 yW pW2 opW2 nW2 sW2 aW2 lenW2 capW2) := R2
      have HLW2 : Hid (Lies yW 0 P2 (tmCells opW2 nW2 sW2 aW2 lenW2 capW2)) := Q2
      have HW3 : Hid (RowT 28 yW pW3 opW3 nW3 sW3 aW3 lenW3 capW3) := R3
      have HLW3 : Hid (Lies yW 0 P3 (tmCells opW3 nW3 sW3 aW3 lenW3 capW3)) := Q3
      clear R0 R1 R2 R3 Q0 Q1 Q2 Q3
      have HVB := hide (bt (unhide HB1) hBy (Nat.le_refl _))
      have HA0 := hide ((unhide HA0).below hBy)
      have HL0 := hide ((unhide HL0).below hBy)
      have HA1 := hide ((unhide HA1).below hBy)
      have HL1 := hide ((unhide HL1).below hBy)
      have HER := hide ((unhide HER).on hBy)
      have HTB := hide ((unhide HTB).on hBy)
      clear hBy HB1 hS
      generalize hyw : yW = wc at *
      clear hyw
      have hV0 := hide (Below.refl wc.heap.size wc)
      obtain ⟨c0, c1, c2, c3⟩ := ((unhide HA0).below (unhide hV0)).facts
      go_wp2_with fail
      clear c0 c1 c2 c3
      refine (unhide hto0 a0 cap0 _ ((unhide HL0).below (unhide hV0))).mono ?_
      rintro e z0 ⟨b0, f0, rfl, hO, ⟨hnd, hge⟩, hb⟩
      have hp := bt hb (ab (.cells #[.int .i64 op0, .int .i64 n0, .string s0, .slice b0 len0 len0] 28)) (Nat.le_refl _)
      have hX0 := hide (bt (unhide hV0) hp (Nat.le_refl _))
      have HND0 := hide hnd
      have HI0 : Hid (∀ y ∈ f0, wc.heap.size ≤ y ∧ y < z0.heap.size) := fun y hy => ⟨hge y hy, Own.lt _ _ _ hO y hy⟩
      have HJ0 : Hid (wc.heap.size ≤ z0.heap.size) := hb.size
      have HX0 := hide (RowT.new 28 z0 op0 n0 s0 b0 len0 len0)
      have HO0 := hide (hO.below (ab (.cells #[.int .i64 op0, .int .i64 n0, .string s0, .slice b0 len0 len0] 28)))
      have HK0 : Hid (z0.heap.size + 1 = (z0.alloc (.cells #[.int .i64 op0, .int .i64 n0, .string s0, .slice b0 len0 len0] 28)).heap.size) := by show _ = _; rw [heap_size_alloc]
      clear hb hp hO hnd hge hV0
      obtain ⟨c0, c1, c2, c3⟩ := ((unhide HA1).below (unhide hX0)).facts
      go_wp2_with fail
      clear c0 c1 c2 c3
      generalize hgw : z0.alloc (.cells #[.int .i64 op0, .int .i64 n0, .string s0, .slice b0 len0 len0] 28) = Z0 at *
      clear hgw
      generalize z0.heap.size = bX0 at *
      refine (unhide hto1 a1 cap1 _ ((unhide HL1).below (unhide hX0))).mono ?_
      rintro e z1 ⟨b1, f1, rfl, hO, ⟨hnd, hge⟩, hb⟩
      have hp := bt hb (ab (.cells #[.int .i64 op1, .int .i64 n1, .string s1, .slice b1 len1 len1] 28)) (Nat.le_refl _)
      have hX1 := hide (bt (unhide hX0) hp (Nat.le_refl _))
      have HND1 := hide hnd
      have HI1 : Hid (∀ y ∈ f1, bX0 < y ∧ y < z1.heap.size) := fun y hy => ⟨by have := hge y hy; have := unhide HK0; omega, Own.lt _ _ _ hO y hy⟩
      have HJ1 : Hid (bX0 < z1.heap.size) := by have := unhide HK0; have := hb.size; show _ < _; omega
      have HX0 := hide ((unhide HX0).below hp)
      have HO0 := hide ((unhide HO0).below hp)
      have HX1 := hide (RowT.new 28 z1 op1 n1 s1 b1 len1 len1)
      have HO1 := hide (hO.below (ab (.cells #[.int .i64 op1, .int .i64 n1, .string s1, .slice b1 len1 len1] 28)))
      have HK1 : Hid (z1.heap.size + 1 = (z1.alloc (.cells #[.int .i64 op1, .int .i64 n1, .string s1, .slice b1 len1 len1] 28)).heap.size) := by show _ = _; rw [heap_size_alloc]
      clear hb hp hO hnd hge hX0
      obtain ⟨d00, d01, d02, d03⟩ := (unhide HX0).facts
      obtain ⟨d10, d11, d12, d13⟩ := (unhide HX1).facts
      go_wp2_with fail
      generalize hgw : z1.alloc (.cells #[.int .i64 op1, .int .i64 n1, .string s1, .slice b1 len1 len1] 28) = Z1 at *
      clear hgw
      generalize z1.heap.size = bX1 at *
      clear d00 d01 d02 d03 d10 d11 d12 d13
      refine (unhide hI op0 n0 s0 b0 len0 len0 op1 n1 s1 b1 len1 len1 _ (unhide HO0).lies0 (unhide HO1).lies0 ((unhide HER).on (unhide hX1)) ((unhide HTB).on (unhide hX1))).mono ?_
      rintro e zG ⟨r, fG0, fG1, fG2, fG3, m1, m2, m3, rfl, ⟨hO0, hO1, hO2, hO3⟩, ⟨hn0, hn1, hn2, hn3⟩, ⟨hm1, hm2, hm3, hm4⟩, hi0, hi1, hi2, hi3, hb⟩
      unfold ansV
      generalize r 0 = c0 at *
      obtain ⟨opG0, nG0, sG0, aG0, lenG0, capG0⟩ := c0
      generalize r 1 = c1 at *
      obtain ⟨opG1, nG1, sG1, aG1, lenG1, capG1⟩ := c1
      generalize r 2 = c2 at *
      obtain ⟨opG2, nG2, sG2, aG2, lenG2, capG2⟩ := c2
      generalize r 3 = c3 at *
      obtain ⟨opG3, nG3, sG3, aG3, lenG3, capG3⟩ := c3
      simp only [Tc.agg]
      have hp : Below zG.heap.size zG ((((zG.alloc (.cells #[.int .i64 opG0, .int .i64 nG0, .string sG0, .slice aG0 lenG0 capG0] 28)).alloc (.cells #[.int .i64 opG1, .int .i64 nG1, .string sG1, .slice aG1 lenG1 capG1] 28)).alloc (.cells #[.int .i64 opG2, .int .i64 nG2, .string sG2, .slice aG2 lenG2 capG2] 28)).alloc (.cells #[.int .i64 opG3, .int .i64 nG3, .string sG3, .slice aG3 lenG3 capG3] 28)) := bt (bt (bt (ab _) (ab _) (Nat.le_refl _)) (ab _) (Nat.le_refl _)) (ab _) (Nat.le_refl _)
      have hp2 := bt hb hp (Nat.le_refl _)
      have hVG := hide (bt (unhide hX1) hp2 (Nat.le_refl _))
      have HX0 := hide ((unhide HX0).below hp2)
      have HO0 := hide ((unhide HO0).below hp2)
      have HX1 := hide ((unhide HX1).below hp2)
      have HO1 := hide ((unhide HO1).below hp2)
      have HG0 : Hid (RowT 28 ((((zG.alloc (.cells #[.int .i64 opG0, .int .i64 nG0, .string sG0, .slice aG0 lenG0 capG0] 28)).alloc (.cells #[.int .i64 opG1, .int .i64 nG1, .string sG1, .slice aG1 lenG1 capG1] 28)).alloc (.cells #[.int .i64 opG2, .int .i64 nG2, .string sG2, .slice aG2 lenG2 capG2] 28)).alloc (.cells #[.int .i64 opG3, .int .i64 nG3, .string sG3, .slice aG3 lenG3 capG3] 28)) (zG.heap.size) opG0 nG0 sG0 aG0 lenG0 capG0) := by
        have := ((((RowT.new 28 zG opG0 nG0 sG0 aG0 lenG0 capG0).below (ab (.cells #[.int .i64 opG1, .int .i64 nG1, .string sG1, .slice aG1 lenG1 capG1] 28))).below (ab (.cells #[.int .i64 opG2, .int .i64 nG2, .string sG2, .slice aG2 lenG2 capG2] 28))).below (ab (.cells #[.int .i64 opG3, .int .i64 nG3, .string sG3, .slice aG3 lenG3 capG3] 28)))
        exact this
      have HOG0 : Hid (Own ((((zG.alloc (.cells #[.int .i64 opG0, .int .i64 nG0, .string sG0, .slice aG0 lenG0 capG0] 28)).alloc (.cells #[.int .i64 opG1, .int .i64 nG1, .string sG1, .slice aG1 lenG1 capG1] 28)).alloc (.cells #[.int .i64 opG2, .int .i64 nG2, .string sG2, .slice aG2 lenG2 capG2] 28)).alloc (.cells #[.int .i64 opG3, .int .i64 nG3, .string sG3, .slice aG3 lenG3 capG3] 28)) P0 (tmCells opG0 nG0 sG0 aG0 lenG0 capG0) fG0) := Own.below (w := zG) hO0 hp
      have HNDG0 := hide hn0
      have HG1 : Hid (RowT 28 ((((zG.alloc (.cells #[.int .i64 opG0, .int .i64 nG0, .string sG0, .slice aG0 lenG0 capG0] 28)).alloc (.cells #[.int .i64 opG1, .int .i64 nG1, .string sG1, .slice aG1 lenG1 capG1] 28)).alloc (.cells #[.int .i64 opG2, .int .i64 nG2, .string sG2, .slice aG2 lenG2 capG2] 28)).alloc (.cells #[.int .i64 opG3, .int .i64 nG3, .string sG3, .slice aG3 lenG3 capG3] 28)) (zG.heap.size + 1) opG1 nG1 sG1 aG1 lenG1 capG1) := by
        have := (((RowT.new 28 (zG.alloc (.cells #[.int .i64 opG0, .int .i64 nG0, .string sG0, .slice aG0 lenG0 capG0] 28)) opG1 nG1 sG1 aG1 lenG1 capG1).below (ab (.cells #[.int .i64 opG2, .int .i64 nG2, .string sG2, .slice aG2 lenG2 capG2] 28))).below (ab (.cells #[.int .i64 opG3, .int .i64 nG3, .string sG3, .slice aG3 lenG3 capG3] 28)))
        rwa [heap_size_alloc] at this
      have HOG1 : Hid (Own ((((zG.alloc (.cells #[.int .i64 opG0, .int .i64 nG0, .string sG0, .slice aG0 lenG0 capG0] 28)).alloc (.cells #[.int .i64 opG1, .int .i64 nG1, .string sG1, .slice aG1 lenG1 capG1] 28)).alloc (.cells #[.int .i64 opG2, .int .i64 nG2, .string sG2, .slice aG2 lenG2 capG2] 28)).alloc (.cells #[.int .i64 opG3, .int .i64 nG3, .string sG3, .slice aG3 lenG3 capG3] 28)) P1 (tmCells opG1 nG1 sG1 aG1 lenG1 capG1) fG1) := Own.below (w := zG) hO1 hp
      have HNDG1 := hide hn1
      have HG2 : Hid (RowT 28 ((((zG.alloc (.cells #[.int .i64 opG0, .int .i64 nG0, .string sG0, .slice aG0 lenG0 capG0] 28)).alloc (.cells #[.int .i64 opG1, .int .i64 nG1, .string sG1, .slice aG1 lenG1 capG1] 28)).alloc (.cells #[.int .i64 opG2, .int .i64 nG2, .string sG2, .slice aG2 lenG2 capG2] 28)).alloc (.cells #[.int .i64 opG3, .int .i64 nG3, .string sG3, .slice aG3 lenG3 capG3] 28)) (zG.heap.size + 1 + 1) opG2 nG2 sG2 aG2 lenG2 capG2) := by
        have := ((RowT.new 28 ((zG.alloc (.cells #[.int .i64 opG0, .int .i64 nG0, .string sG0, .slice aG0 lenG0 capG0] 28)).alloc (.cells #[.int .i64 opG1, .int .i64 nG1, .string sG1, .slice aG1 lenG1 capG1] 28)) opG2 nG2 sG2 aG2 lenG2 capG2).below (ab (.cells #[.int .i64 opG3, .int .i64 nG3, .string sG3, .slice aG3 lenG3 capG3] 28)))
        rwa [heap_size_alloc, heap_size_alloc] at this
      have HOG2 : Hid (Own ((((zG.alloc (.cells #[.int .i64 opG0, .int .i64 nG0, .string sG0, .slice aG0 lenG0 capG0] 28)).alloc (.cells #[.int .i64 opG1, .int .i64 nG1, .string sG1, .slice aG1 lenG1 capG1] 28)).alloc (.cells #[.int .i64 opG2, .int .i64 nG2, .string sG2, .slice aG2 lenG2 capG2] 28)).alloc (.cells #[.int .i64 opG3, .int .i64 nG3, .string sG3, .slice aG3 lenG3 capG3] 28)) P2 (tmCells opG2 nG2 sG2 aG2 lenG2 capG2) fG2) := Own.below (w := zG) hO2 hp
      have HNDG2 := hide hn2
      have HG3 : Hid (RowT 28 ((((zG.alloc (.cells #[.int .i64 opG0, .int .i64 nG0, .string sG0, .slice aG0 lenG0 capG0] 28)).alloc (.cells #[.int .i64 opG1, .int .i64 nG1, .string sG1, .slice aG1 lenG1 capG1] 28)).alloc (.cells #[.int .i64 opG2, .int .i64 nG2, .string sG2, .slice aG2 lenG2 capG2] 28)).alloc (.cells #[.int .i64 opG3, .int .i64 nG3, .string sG3, .slice aG3 lenG3 capG3] 28)) (zG.heap.size + 1 + 1 + 1) opG3 nG3 sG3 aG3 lenG3 capG3) := by
        have := (RowT.new 28 (((zG.alloc (.cells #[.int .i64 opG0, .int .i64 nG0, .string sG0, .slice aG0 lenG0 capG0] 28)).alloc (.cells #[.int .i64 opG1, .int .i64 nG1, .string sG1, .slice aG1 lenG1 capG1] 28)).alloc (.cells #[.int .i64 opG2, .int .i64 nG2, .string sG2, .slice aG2 lenG2 capG2] 28)) opG3 nG3 sG3 aG3 lenG3 capG3)
        rwa [heap_size_alloc, heap_size_alloc, heap_size_alloc] at this
      have HOG3 : Hid (Own ((((zG.alloc (.cells #[.int .i64 opG0, .int .i64 nG0, .string sG0, .slice aG0 lenG0 capG0] 28)).alloc (.cells #[.int .i64 opG1, .int .i64 nG1, .string sG1, .slice aG1 lenG1 capG1] 28)).alloc (.cells #[.int .i64 opG2, .int .i64 nG2, .string sG2, .slice aG2 lenG2 capG2] 28)).alloc (.cells #[.int .i64 opG3, .int .i64 nG3, .string sG3, .slice aG3 lenG3 capG3] 28)) P3 (tmCells opG3 nG3 sG3 aG3 lenG3 capG3) fG3) := Own.below (w := zG) hO3 hp
      have HNDG3 := hide hn3
      have HIG0 : Hid (∀ y ∈ fG0, bX1 < y ∧ y < m1) := fun y hy => ⟨by have := hi0 y hy; have := unhide HK1; omega, (hi0 y hy).2⟩
      have HIG1 := hide hi1
      have HIG2 := hide hi2
      have HIG3 : Hid (∀ y ∈ fG3, m3 < y ∧ y < zG.heap.size) := fun y hy => ⟨hi3 y hy, Own.lt _ _ _ hO3 y hy⟩
      have HJG : Hid (bX1 < m1 ∧ m1 ≤ m2 ∧ m2 ≤ m3 ∧ m3 ≤ zG.heap.size) := ⟨by have := unhide HK1; omega, hm2, hm3, hm4⟩
      clear hb hp hp2 hO0 hO1 hO2 hO3 hn0 hn1 hn2 hn3 hm1 hm2 hm3 hm4 hi0 hi1 hi2 hi3 hX1
      obtain ⟨c0, c1, c2, c3⟩ := (unhide HG0).facts
      obtain ⟨d0, d1, d2, d3⟩ := ((unhide HW0).below (unhide hVG)).facts
      go_wp2_with fail
      clear c0 c1 c2 c3 d0 d1 d2 d3
      generalize hgw : ((((zG.alloc (.cells #[.int .i64 opG0, .int .i64 nG0, .string sG0, .slice aG0 lenG0 capG0] 28)).alloc (.cells #[.int .i64 opG1, .int .i64 nG1, .string sG1, .slice aG1 lenG1 capG1] 28)).alloc (.cells #[.int .i64 opG2, .int .i64 nG2, .string sG2, .slice aG2 lenG2 capG2] 28)).alloc (.cells #[.int .i64 opG3, .int .i64 nG3, .string sG3, .slice aG3 lenG3 capG3] 28)) = YG at *
      clear hgw
      generalize zG.heap.size = bG at *
      have hY := hide (Below.refl YG.heap.size YG)
      have hYV := hide (bt (unhide hVG) (unhide hY) (Nat.le_refl _))
      refine (unhide heq P0 opG0 nG0 sG0 aG0 lenG0 capG0 opW0 nW0 sW0 aW0 lenW0 capW0 _ ((unhide HOG0).lies0.below (unhide hY)) ((unhide HLW0).below (unhide hYV))).mono ?_
      rintro e ua0 ⟨rfl, hb⟩
      have hY := hide (bt (unhide hY) hb (Nat.le_refl _))
      have hYV := hide (bt (unhide hYV) hb (Nat.le_refl _))
      clear hb
      obtain ⟨c0, c1, c2, c3⟩ := ((unhide HG1).below (unhide hY)).facts
      obtain ⟨d0, d1, d2, d3⟩ := ((unhide HW1).below (unhide hYV)).facts
      go_wp2_with fail
      clear c0 c1 c2 c3 d0 d1 d2 d3
      refine (unhide heq P1 opG1 nG1 sG1 aG1 lenG1 capG1 opW1 nW1 sW1 aW1 lenW1 capW1 _ ((unhide HOG1).lies0.below (unhide hY)) ((unhide HLW1).below (unhide hYV))).mono ?_
      rintro e ua1 ⟨rfl, hb⟩
      have hY := hide (bt (unhide hY) hb (Nat.le_refl _))
      have hYV := hide (bt (unhide hYV) hb (Nat.le_refl _))
      clear hb
      obtain ⟨c0, c1, c2, c3⟩ := ((unhide HG2).below (unhide hY)).facts
      obtain ⟨d0, d1, d2, d3⟩ := ((unhide HW2).below (unhide hYV)).facts
      go_wp2_with fail
      clear c0 c1 c2 c3 d0 d1 d2 d3
      refine (unhide heq P2 opG2 nG2 sG2 aG2 lenG2 capG2 opW2 nW2 sW2 aW2 lenW2 capW2 _ ((unhide HOG2).lies0.below (unhide hY)) ((unhide HLW2).below (unhide hYV))).mono ?_
      rintro e ua2 ⟨rfl, hb⟩
      have hY := hide (bt (unhide hY) hb (Nat.le_refl _))
      have hYV := hide (bt (unhide hYV) hb (Nat.le_refl _))
      clear hb
      obtain ⟨c0, c1, c2, c3⟩ := ((unhide HG3).below (unhide hY)).facts
      obtain ⟨d0, d1, d2, d3⟩ := ((unhide HW3).below (unhide hYV)).facts
      go_wp2_with fail
      clear c0 c1 c2 c3 d0 d1 d2 d3
      refine (unhide heq P3 opG3 nG3 sG3 aG3 lenG3 capG3 opW3 nW3 sW3 aW3 lenW3 capW3 _ ((unhide HOG3).lies0.below (unhide hY)) ((unhide HLW3).below (unhide hYV))).mono ?_
      rintro e ua3 ⟨rfl, hb⟩
      have hY := hide (bt (unhide hY) hb (Nat.le_refl _))
      have hYV := hide (bt (unhide hYV) hb (Nat.le_refl _))
      clear hb
      obtain ⟨c0, c1, c2, c3⟩ := ((unhide HX0).below (unhide hY)).facts
      obtain ⟨d0, d1, d2, d3⟩ := ((unhide HA0).below (unhide hYV)).facts
      go_wp2_with fail
      go_region_held3 (fun x => x.cell? ⟨bX0, 0, none⟩ = some (.int .i64 op0) ∧ x.cell? ⟨bX0, 1, none⟩ = some (.int .i64 n0) ∧ x.cell? ⟨bX0, 2, none⟩ = some (.string s0) ∧ x.cell? ⟨bX0, 3, none⟩ = some (.slice b0 len0 len0) ∧ x.cell? ⟨w.heap.size, 0, none⟩ = some (.int .i64 op0) ∧ x.cell? ⟨w.heap.size, 1, none⟩ = some (.int .i64 n0) ∧ x.cell? ⟨w.heap.size, 2, none⟩ = some (.string s0) ∧ x.cell? ⟨w.heap.size, 3, none⟩ = some (.slice a0 len0 cap0)) (go_keep)
        (first
          | (go_at_call 6
             refine (unhide hto0 a0 cap0 _ ((unhide HL0).below (unhide hYV).drew)).mono ?_
             rintro e w7 ⟨a7, f7, rfl, hO7, _, hb7⟩
             have hb7' := hide (below_drew' hb7)
             have HO7 := hide hO7.lies0
             have HX7 := hide (((unhide HO0).below (unhide hY).drew).below hb7).lies0
             have e0 := kpc (unhide hb7') c0
             have e1 := kpc (unhide hb7') c1
             have e2 := kpc (unhide hb7') c2
             have e3 := kpc (unhide hb7') c3
             have g0 := kpc (unhide hb7') d0
             have g1 := kpc (unhide hb7') d1
             have g2 := kpc (unhide hb7') d2
             have g3 := kpc (unhide hb7') d3)
          | (go_at_call 8
             refine (unhide heq t0 op0 n0 s0 b0 len0 len0 op0 n0 s0 a7 len0 len0 _ (unhide HX7) (unhide HO7)).mono ?_
             rintro e w8 ⟨rfl, hb8⟩
             have i0 := kpc hb8 e0
             have i1 := kpc hb8 e1
             have i2 := kpc hb8 e2
             have i3 := kpc hb8 e3
             have j0 := kpc hb8 g0
             have j1 := kpc hb8 g1
             have j2 := kpc hb8 g2
             have j3 := kpc hb8 g3
             have hb8' := hide hb8))
      have hY := hide (bt (bt (unhide hY) (unhide hb7') (Nat.le_refl _)) (unhide hb8') (Nat.le_refl _))
      have hYV := hide (bt (unhide hVG) (unhide hY) (Nat.le_refl _))
      clear c0 c1 c2 c3 d0 d1 d2 d3 e0 e1 e2 e3 g0 g1 g2 g3 i0 i1 i2 i3 j0 j1 j2 j3 hb7' hb8' HO7 HX7
      obtain ⟨c0, c1, c2, c3⟩ := ((unhide HX1).below (unhide hY)).facts
      obtain ⟨d0, d1, d2, d3⟩ := ((unhide HA1).below (unhide hYV)).facts
      go_wp2_with fail
      go_region_held3 (fun x => x.cell? ⟨bX1, 0, none⟩ = some (.int .i64 op1) ∧ x.cell? ⟨bX1, 1, none⟩ = some (.int .i64 n1) ∧ x.cell? ⟨bX1, 2, none⟩ = some (.string s1) ∧ x.cell? ⟨bX1, 3, none⟩ = some (.slice b1 len1 len1) ∧ x.cell? ⟨w.heap.size + 1, 0, none⟩ = some (.int .i64 op1) ∧ x.cell? ⟨w.heap.size + 1, 1, none⟩ = some (.int .i64 n1) ∧ x.cell? ⟨w.heap.size + 1, 2, none⟩ = some (.string s1) ∧ x.cell? ⟨w.heap.size + 1, 3, none⟩ = some (.slice a1 len1 cap1)) (go_keep)
        (first
          | (go_at_call 6
             refine (unhide hto1 a1 cap1 _ ((unhide HL1).below (unhide hYV).drew)).mono ?_
             rintro e w7 ⟨a7, f7, rfl, hO7, _, hb7⟩
             have hb7' := hide (below_drew' hb7)
             have HO7 := hide hO7.lies0
             have HX7 := hide (((unhide HO1).below (unhide hY).drew).below hb7).lies0
             have e0 := kpc (unhide hb7') c0
             have e1 := kpc (unhide hb7') c1
             have e2 := kpc (unhide hb7') c2
             have e3 := kpc (unhide hb7') c3
             have g0 := kpc (unhide hb7') d0
             have g1 := kpc (unhide hb7') d1
             have g2 := kpc (unhide hb7') d2
             have g3 := kpc (unhide hb7') d3)
          | (go_at_call 8
             refine (unhide heq t1 op1 n1 s1 b1 len1 len1 op1 n1 s1 a7 len1 len1 _ (unhide HX7) (unhide HO7)).mono ?_
             rintro e w8 ⟨rfl, hb8⟩
             have i0 := kpc hb8 e0
             have i1 := kpc hb8 e1
             have i2 := kpc hb8 e2
             have i3 := kpc hb8 e3
             have j0 := kpc hb8 g0
             have j1 := kpc hb8 g1
             have j2 := kpc hb8 g2
             have j3 := kpc hb8 g3
             have hb8' := hide hb8))
      have hY := hide (bt (bt (unhide hY) (unhide hb7') (Nat.le_refl _)) (unhide hb8') (Nat.le_refl _))
      have hYV := hide (bt (unhide hVG) (unhide hY) (Nat.le_refl _))
      clear c0 c1 c2 c3 d0 d1 d2 d3 e0 e1 e2 e3 g0 g1 g2 g3 i0 i1 i2 i3 j0 j1 j2 j3 hb7' hb8' HO7 HX7
      have HX0 := hide ((unhide HX0).below (unhide hY))
      have HO0 := hide ((unhide HO0).below (unhide hY))
      have HX1 := hide ((unhide HX1).below (unhide hY))
      have HO1 := hide ((unhide HO1).below (unhide hY))
      have HG0 := hide ((unhide HG0).below (unhide hY))
      have HOG0 := hide ((unhide HOG0).below (unhide hY))
      have HG1 := hide ((unhide HG1).below (unhide hY))
      have HOG1 := hide ((unhide HOG1).below (unhide hY))
      have HG2 := hide ((unhide HG2).below (unhide hY))
      have HOG2 := hide ((unhide HOG2).below (unhide hY))
      have HG3 := hide ((unhide HG3).below (unhide hY))
      have HOG3 := hide ((unhide HOG3).below (unhide hY))
      have hV := hYV
      clear hY hVG hYV
      obtain ⟨c0, c1, c2, c3⟩ := (unhide HX0).facts
      go_wp2_with fail
      clear c0 c1 c2 c3
      refine (unhide hm0 b0 _ _ (unhide HO0) (unhide HND0)).mono ?_
      rintro e x0 ⟨rfl, o⟩
      have hV := hide ((unhide hV).trans (o.below (unhide hV).size (fun y hy => (unhide HI0 y hy).1)))
      have HX1 := hide ((unhide HX1).only o (fun hx => by have := unhide HI0 _ hx; have := unhide HJ0; have := unhide HJ1; have := unhide HJG; omega))
      have HO1 := hide ((unhide HO1).only o (fun y hy hx => by have := unhide HI0 _ hx; have := unhide HI1 _ hy; have := unhide HJ0; have := unhide HJ1; have := unhide HJG; omega))
      have HG0 := hide ((unhide HG0).only o (fun hx => by have := unhide HI0 _ hx; have := unhide HJ0; have := unhide HJ1; have := unhide HJG; omega))
      have HOG0 := hide ((unhide HOG0).only o (fun y hy hx => by have := unhide HI0 _ hx; have := unhide HIG0 _ hy; have := unhide HJ0; have := unhide HJ1; have := unhide HJG; omega))
      have HG1 := hide ((unhide HG1).only o (fun hx => by have := unhide HI0 _ hx; have := unhide HJ0; have := unhide HJ1; have := unhide HJG; omega))
      have HOG1 := hide ((unhide HOG1).only o (fun y hy hx => by have := unhide HI0 _ hx; have := unhide HIG1 _ hy; have := unhide HJ0; have := unhide HJ1; have := unhide HJG; omega))
      have HG2 := hide ((unhide HG2).only o (fun hx => by have := unhide HI0 _ hx; have := unhide HJ0; have := unhide HJ1; have := unhide HJG; omega))
      have HOG2 := hide ((unhide HOG2).only o (fun y hy hx => by have := unhide HI0 _ hx; have := unhide HIG2 _ hy; have := unhide HJ0; have := unhide HJ1; have := unhide HJG; omega))
      have HG3 := hide ((unhide HG3).only o (fun hx => by have := unhide HI0 _ hx; have := unhide HJ0; have := unhide HJ1; have := unhide HJG; omega))
      have HOG3 := hide ((unhide HOG3).only o (fun y hy hx => by have := unhide HI0 _ hx; have := unhide HIG3 _ hy; have := unhide HJ0; have := unhide HJ1; have := unhide HJG; omega))
      clear o HX0 HO0
      obtain ⟨c0, c1, c2, c3⟩ := (unhide HX1).facts
      go_wp2_with fail
      clear c0 c1 c2 c3
      refine (unhide hm1 b1 _ _ (unhide HO1) (unhide HND1)).mono ?_
      rintro e x1 ⟨rfl, o⟩
      have hV := hide ((unhide hV).trans (o.below (unhide hV).size (fun y hy => by have := unhide HI1 y hy; have := unhide HJ0; have := unhide HJ1; have := unhide HJG; omega)))
      have HG0 := hide ((unhide HG0).only o (fun hx => by have := unhide HI1 _ hx; have := unhide HJ0; have := unhide HJ1; have := unhide HJG; omega))
      have HOG0 := hide ((unhide HOG0).only o (fun y hy hx => by have := unhide HI1 _ hx; have := unhide HIG0 _ hy; have := unhide HJ0; have := unhide HJ1; have := unhide HJG; omega))
      have HG1 := hide ((unhide HG1).only o (fun hx => by have := unhide HI1 _ hx; have := unhide HJ0; have := unhide HJ1; have := unhide HJG; omega))
      have HOG1 := hide ((unhide HOG1).only o (fun y hy hx => by have := unhide HI1 _ hx; have := unhide HIG1 _ hy; have := unhide HJ0; have := unhide HJ1; have := unhide HJG; omega))
      have HG2 := hide ((unhide HG2).only o (fun hx => by have := unhide HI1 _ hx; have := unhide HJ0; have := unhide HJ1; have := unhide HJG; omega))
      have HOG2 := hide ((unhide HOG2).only o (fun y hy hx => by have := unhide HI1 _ hx; have := unhide HIG2 _ hy; have := unhide HJ0; have := unhide HJ1; have := unhide HJG; omega))
      have HG3 := hide ((unhide HG3).only o (fun hx => by have := unhide HI1 _ hx; have := unhide HJ0; have := unhide HJ1; have := unhide HJG; omega))
      have HOG3 := hide ((unhide HOG3).only o (fun y hy hx => by have := unhide HI1 _ hx; have := unhide HIG3 _ hy; have := unhide HJ0; have := unhide HJ1; have := unhide HJG; omega))
      clear o HX1 HO1
      have hkn : ¬ ((k2 : Nat) : Int) < 0 := by omega
      obtain ⟨c0, c1, c2, c3⟩ := (unhide HG0).facts
      obtain ⟨d0, d1, d2, d3⟩ := ((unhide HW0).below (unhide hV)).facts
      go_wp2_with fail
      clear c0 c1 c2 c3 d0 d1 d2 d3
      have hY := hide (Below.refl x1.heap.size x1)
      have hYV := hide (bt (unhide hV) (unhide hY) (Nat.le_refl _))
      refine (unhide heq P0 opG0 nG0 sG0 aG0 lenG0 capG0 opW0 nW0 sW0 aW0 lenW0 capW0 _ ((unhide HOG0).lies0.below (unhide hY)) ((unhide HLW0).below (unhide hYV))).mono ?_
      rintro e ub0 ⟨rfl, hb⟩
      have hY := hide (bt (unhide hY) hb (Nat.le_refl _))
      have hYV := hide (bt (unhide hYV) hb (Nat.le_refl _))
      clear hb
      obtain ⟨c0, c1, c2, c3⟩ := ((unhide HG1).below (unhide hY)).facts
      obtain ⟨d0, d1, d2, d3⟩ := ((unhide HW1).below (unhide hYV)).facts
      go_wp2_with fail
      clear c0 c1 c2 c3 d0 d1 d2 d3
      refine (unhide heq P1 opG1 nG1 sG1 aG1 lenG1 capG1 opW1 nW1 sW1 aW1 lenW1 capW1 _ ((unhide HOG1).lies0.below (unhide hY)) ((unhide HLW1).below (unhide hYV))).mono ?_
      rintro e ub1 ⟨rfl, hb⟩
      have hY := hide (bt (unhide hY) hb (Nat.le_refl _))
      have hYV := hide (bt (unhide hYV) hb (Nat.le_refl _))
      clear hb
      obtain ⟨c0, c1, c2, c3⟩ := ((unhide HG2).below (unhide hY)).facts
      obtain ⟨d0, d1, d2, d3⟩ := ((unhide HW2).below (unhide hYV)).facts
      go_wp2_with fail
      clear c0 c1 c2 c3 d0 d1 d2 d3
      refine (unhide heq P2 opG2 nG2 sG2 aG2 lenG2 capG2 opW2 nW2 sW2 aW2 lenW2 capW2 _ ((unhide HOG2).lies0.below (unhide hY)) ((unhide HLW2).below (unhide hYV))).mono ?_
      rintro e ub2 ⟨rfl, hb⟩
      have hY := hide (bt (unhide hY) hb (Nat.le_refl _))
      have hYV := hide (bt (unhide hYV) hb (Nat.le_refl _))
      clear hb
      obtain ⟨c0, c1, c2, c3⟩ := ((unhide HG3).below (unhide hY)).facts
      obtain ⟨d0, d1, d2, d3⟩ := ((unhide HW3).below (unhide hYV)).facts
      go_wp2_with fail
      clear c0 c1 c2 c3 d0 d1 d2 d3
      refine (unhide heq P3 opG3 nG3 sG3 aG3 lenG3 capG3 opW3 nW3 sW3 aW3 lenW3 capW3 _ ((unhide HOG3).lies0.below (unhide hY)) ((unhide HLW3).below (unhide hYV))).mono ?_
      rintro e ub3 ⟨rfl, hb⟩
      have hY := hide (bt (unhide hY) hb (Nat.le_refl _))
      have hYV := hide (bt (unhide hYV) hb (Nat.le_refl _))
      clear hb
      have HG0 := hide ((unhide HG0).below (unhide hY))
      have HOG0 := hide ((unhide HOG0).below (unhide hY))
      have HG1 := hide ((unhide HG1).below (unhide hY))
      have HOG1 := hide ((unhide HOG1).below (unhide hY))
      have HG2 := hide ((unhide HG2).below (unhide hY))
      have HOG2 := hide ((unhide HOG2).below (unhide hY))
      have HG3 := hide ((unhide HG3).below (unhide hY))
      have HOG3 := hide ((unhide HOG3).below (unhide hY))
      have hV := hYV
      clear hY hYV
      obtain ⟨c0, c1, c2, c3⟩ := (unhide HG0).facts
      go_wp2_with fail
      clear c0 c1 c2 c3
      refine (unhide hmG0 opG0 nG0 sG0 aG0 lenG0 capG0 _ _ (unhide HOG0) (unhide HNDG0)).mono ?_
      rintro e r0 ⟨rfl, hM, o⟩
      have hV := hide ((unhide hV).trans (o.below (unhide hV).size (fun y hy => by have := unhide HIG0 y hy; have := unhide HJ0; have := unhide HJ1; have := unhide HJG; omega)))
      have HG0 := hide ((unhide HG0).only o (fun hx => by have := unhide HIG0 _ hx; have := unhide HJ0; have := unhide HJ1; have := unhide HJG; omega))
      have HG1 := hide ((unhide HG1).only o (fun hx => by have := unhide HIG0 _ hx; have := unhide HJ0; have := unhide HJ1; have := unhide HJG; omega))
      have HOG1 := hide ((unhide HOG1).only o (fun y hy hx => by have := unhide HIG0 _ hx; have := unhide HIG1 _ hy; have := unhide HJ0; have := unhide HJ1; have := unhide HJG; omega))
      have HG2 := hide ((unhide HG2).only o (fun hx => by have := unhide HIG0 _ hx; have := unhide HJ0; have := unhide HJ1; have := unhide HJG; omega))
      have HOG2 := hide ((unhide HOG2).only o (fun y hy hx => by have := unhide HIG0 _ hx; have := unhide HIG2 _ hy; have := unhide HJ0; have := unhide HJ1; have := unhide HJG; omega))
      have HG3 := hide ((unhide HG3).only o (fun hx => by have := unhide HIG0 _ hx; have := unhide HJ0; have := unhide HJ1; have := unhide HJG; omega))
      have HOG3 := hide ((unhide HOG3).only o (fun y hy hx => by have := unhide HIG0 _ hx; have := unhide HIG3 _ hy; have := unhide HJ0; have := unhide HJ1; have := unhide HJG; omega))
      have HOG0 := hide hM
      clear o hM
      obtain ⟨c0, c1, c2, c3⟩ := (unhide HG1).facts
      go_wp2_with fail
      clear c0 c1 c2 c3
      refine (unhide hmG1 opG1 nG1 sG1 aG1 lenG1 capG1 _ _ (unhide HOG1) (unhide HNDG1)).mono ?_
      rintro e r1 ⟨rfl, hM, o⟩
      have hV := hide ((unhide hV).trans (o.below (unhide hV).size (fun y hy => by have := unhide HIG1 y hy; have := unhide HJ0; have := unhide HJ1; have := unhide HJG; omega)))
      have HG0 := hide ((unhide HG0).only o (fun hx => by have := unhide HIG1 _ hx; have := unhide HJ0; have := unhide HJ1; have := unhide HJG; omega))
      have HOG0 := hide ((unhide HOG0).only o (fun y hy hx => by have := unhide HIG1 _ hx; have := unhide HIG0 _ hy; have := unhide HJ0; have := unhide HJ1; have := unhide HJG; omega))
      have HG1 := hide ((unhide HG1).only o (fun hx => by have := unhide HIG1 _ hx; have := unhide HJ0; have := unhide HJ1; have := unhide HJG; omega))
      have HG2 := hide ((unhide HG2).only o (fun hx => by have := unhide HIG1 _ hx; have := unhide HJ0; have := unhide HJ1; have := unhide HJG; omega))
      have HOG2 := hide ((unhide HOG2).only o (fun y hy hx => by have := unhide HIG1 _ hx; have := unhide HIG2 _ hy; have := unhide HJ0; have := unhide HJ1; have := unhide HJG; omega))
      have HG3 := hide ((unhide HG3).only o (fun hx => by have := unhide HIG1 _ hx; have := unhide HJ0; have := unhide HJ1; have := unhide HJG; omega))
      have HOG3 := hide ((unhide HOG3).only o (fun y hy hx => by have := unhide HIG1 _ hx; have := unhide HIG3 _ hy; have := unhide HJ0; have := unhide HJ1; have := unhide HJG; omega))
      have HOG1 := hide hM
      clear o hM
      obtain ⟨c0, c1, c2, c3⟩ := (unhide HG2).facts
      go_wp2_with fail
      clear c0 c1 c2 c3
      refine (unhide hmG2 opG2 nG2 sG2 aG2 lenG2 capG2 _ _ (unhide HOG2) (unhide HNDG2)).mono ?_
      rintro e r2 ⟨rfl, hM, o⟩
      have hV := hide ((unhide hV).trans (o.below (unhide hV).size (fun y hy => by have := unhide HIG2 y hy; have := unhide HJ0; have := unhide HJ1; have := unhide HJG; omega)))
      have HG0 := hide ((unhide HG0).only o (fun hx => by have := unhide HIG2 _ hx; have := unhide HJ0; have := unhide HJ1; have := unhide HJG; omega))
      have HOG0 := hide ((unhide HOG0).only o (fun y hy hx => by have := unhide HIG2 _ hx; have := unhide HIG0 _ hy; have := unhide HJ0; have := unhide HJ1; have := unhide HJG; omega))
      have HG1 := hide ((unhide HG1).only o (fun hx => by have := unhide HIG2 _ hx; have := unhide HJ0; have := unhide HJ1; have := unhide HJG; omega))
      have HOG1 := hide ((unhide HOG1).only o (fun y hy hx => by have := unhide HIG2 _ hx; have := unhide HIG1 _ hy; have := unhide HJ0; have := unhide HJ1; have := unhide HJG; omega))
      have HG2 := hide ((unhide HG2).only o (fun hx => by have := unhide HIG2 _ hx; have := unhide HJ0; have := unhide HJ1; have := unhide HJG; omega))
      have HG3 := hide ((unhide HG3).only o (fun hx => by have := unhide HIG2 _ hx; have := unhide HJ0; have := unhide HJ1; have := unhide HJG; omega))
      have HOG3 := hide ((unhide HOG3).only o (fun y hy hx => by have := unhide HIG2 _ hx; have := unhide HIG3 _ hy; have := unhide HJ0; have := unhide HJ1; have := unhide HJG; omega))
      have HOG2 := hide hM
      clear o hM
      obtain ⟨c0, c1, c2, c3⟩ := (unhide HG3).facts
      go_wp2_with fail
      clear c0 c1 c2 c3
      refine (unhide hmG3 opG3 nG3 sG3 aG3 lenG3 capG3 _ _ (unhide HOG3) (unhide HNDG3)).mono ?_
      rintro e r3 ⟨rfl, hM, o⟩
      have hV := hide ((unhide hV).trans (o.below (unhide hV).size (fun y hy => by have := unhide HIG3 y hy; have := unhide HJ0; have := unhide HJ1; have := unhide HJG; omega)))
      have HG0 := hide ((unhide HG0).only o (fun hx => by have := unhide HIG3 _ hx; have := unhide HJ0; have := unhide HJ1; have := unhide HJG; omega))
      have HOG0 := hide ((unhide HOG0).only o (fun y hy hx => by have := unhide HIG3 _ hx; have := unhide HIG0 _ hy; have := unhide HJ0; have := unhide HJ1; have := unhide HJG; omega))
      have HG1 := hide ((unhide HG1).only o (fun hx => by have := unhide HIG3 _ hx; have := unhide HJ0; have := unhide HJ1; have := unhide HJG; omega))
      have HOG1 := hide ((unhide HOG1).only o (fun y hy hx => by have := unhide HIG3 _ hx; have := unhide HIG1 _ hy; have := unhide HJ0; have := unhide HJ1; have := unhide HJG; omega))
      have HG2 := hide ((unhide HG2).only o (fun hx => by have := unhide HIG3 _ hx; have := unhide HJ0; have := unhide HJ1; have := unhide HJG; omega))
      have HOG2 := hide ((unhide HOG2).only o (fun y hy hx => by have := unhide HIG3 _ hx; have := unhide HIG2 _ hy; have := unhide HJ0; have := unhide HJ1; have := unhide HJG; omega))
      have HG3 := hide ((unhide HG3).only o (fun hx => by have := unhide HIG3 _ hx; have := unhide HJ0; have := unhide HJ1; have := unhide HJG; omega))
      have HOG3 := hide hM
      clear o hM
      have HGM0 := hide (unhide HOG0).lies0
      have hgn0 : ¬ ((g1 : Nat) : Int) < 0 := by omega
      have HGM1 := hide (unhide HOG1).lies0
      have hgn1 : ¬ ((g2 : Nat) : Int) < 0 := by omega
      have HGM2 := hide (unhide HOG2).lies0
      have hgn2 : ¬ ((g3 : Nat) : Int) < 0 := by omega
      have HGM3 := hide (unhide HOG3).lies0
      have hgn3 : ¬ ((g4 : Nat) : Int) < 0 := by omega
      clear HOG0 HOG1 HOG2 HOG3 HNDG0 HNDG1 HNDG2 HNDG3 hmG0 hmG1 hmG2 hmG3 hm0 hm1 HND0 HND1
      obtain ⟨c0, c1, c2, c3⟩ := (unhide HG0).facts
      go_wp2_with fail
      clear c0 c1 c2 c3
      have hY := hide (Below.refl r3.heap.size r3)
      refine (unhide hhG0 opG0 nG0 sG0 aG0 lenG0 capG0 _ ((unhide HGM0).below (unhide hY))).mono ?_
      rintro e q0 ⟨rfl, hb⟩
      have hY := hide (bt (unhide hY) hb (Nat.le_refl _))
      clear hb
      obtain ⟨c0, c1, c2, c3⟩ := ((unhide HG1).below (unhide hY)).facts
      go_wp2_with fail
      clear c0 c1 c2 c3
      refine (unhide hhG1 opG1 nG1 sG1 aG1 lenG1 capG1 _ ((unhide HGM1).below (unhide hY))).mono ?_
      rintro e q1 ⟨rfl, hb⟩
      have hY := hide (bt (unhide hY) hb (Nat.le_refl _))
      clear hb
      obtain ⟨c0, c1, c2, c3⟩ := ((unhide HG2).below (unhide hY)).facts
      go_wp2_with fail
      clear c0 c1 c2 c3
      refine (unhide hhG2 opG2 nG2 sG2 aG2 lenG2 capG2 _ ((unhide HGM2).below (unhide hY))).mono ?_
      rintro e q2 ⟨rfl, hb⟩
      have hY := hide (bt (unhide hY) hb (Nat.le_refl _))
      clear hb
      obtain ⟨c0, c1, c2, c3⟩ := ((unhide HG3).below (unhide hY)).facts
      go_wp2_with fail
      clear c0 c1 c2 c3
      refine (unhide hhG3 opG3 nG3 sG3 aG3 lenG3 capG3 _ ((unhide HGM3).below (unhide hY))).mono ?_
      rintro e q3 ⟨rfl, hb⟩
      have hY := hide (bt (unhide hY) hb (Nat.le_refl _))
      clear hb
      have hV := hide (bt (unhide hV) (unhide hY) (Nat.le_refl _))
      have HG0 := hide ((unhide HG0).below (unhide hY))
      have HGM0 := hide ((unhide HGM0).below (unhide hY))
      have HG1 := hide ((unhide HG1).below (unhide hY))
      have HGM1 := hide ((unhide HGM1).below (unhide hY))
      have HG2 := hide ((unhide HG2).below (unhide hY))
      have HGM2 := hide ((unhide HGM2).below (unhide hY))
      have HG3 := hide ((unhide HG3).below (unhide hY))
      have HGM3 := hide ((unhide HGM3).below (unhide hY))
      have HA0 := hide ((unhide HA0).below (unhide hV))
      have HL0 := hide ((unhide HL0).below (unhide hV))
      have HA1 := hide ((unhide HA1).below (unhide hV))
      have HL1 := hide ((unhide HL1).below (unhide hV))
      have HW0 := hide ((unhide HW0).below (unhide hV))
      have HLW0 := hide ((unhide HLW0).below (unhide hV))
      have HW1 := hide ((unhide HW1).below (unhide hV))
      have HLW1 := hide ((unhide HLW1).below (unhide hV))
      have HW2 := hide ((unhide HW2).below (unhide hV))
      have HLW2 := hide ((unhide HLW2).below (unhide hV))
      have HW3 := hide ((unhide HW3).below (unhide hV))
      have HLW3 := hide ((unhide HLW3).below (unhide hV))
      have HER := hide ((unhide HER).on (unhide hV))
      have HTB := hide ((unhide HTB).on (unhide hV))
      have HVB := hide (bt (unhide HVB) (unhide hV) (Nat.le_refl _))
      clear hY hV HI0 HI1 HJ0 HJ1 HK0 HK1 HIG0 HIG1 HIG2 HIG3 HJG
      go_wp2_with fail
      refine wp_region_any (by kernel_rfl) ?_
      have hd0 : Below q3.heap.size q3 q3.drew := (Below.refl _ _).drew
      refine rowsIm _ q3.drew rfl (w.heap.size) (w.heap.size + 1) op0 n0 op1 n1 s0 s1 a0 a1 len0 cap0 len1 cap1 t0 t1 (pick4 P0 P1 P2 P3) B rfl rfl (unhide HA0) (unhide HA1) hPK ?_ ?_ ?_ ?_
      · intro V hV
        refine (unhide hto0 a0 cap0 V ((unhide HL0).below (hd0.trans hV))).mono ?_
        rintro e w' ⟨b', f', rfl, hO, -, hb⟩
        exact ⟨⟨op0, n0, s0, b', len0, len0⟩, rfl, hO.lies0, hb⟩
      · intro V hV
        refine (unhide hto1 a1 cap1 V ((unhide HL1).below (hd0.trans hV))).mono ?_
        rintro e w' ⟨b', f', rfl, hO, -, hb⟩
        exact ⟨⟨op1, n1, s1, b', len1, len1⟩, rfl, hO.lies0, hb⟩
      · intro p q V hV hl hl'
        refine (unhide hI p.op p.n p.s p.a p.len p.cap q.op q.n q.s q.a q.len q.cap V hl hl' ((unhide HER).on (hd0.trans hV)) ((unhide HTB).on (hd0.trans hV))).mono ?_
        rintro e w' ⟨r, fG0, fG1, fG2, fG3, m1, m2, m3, rfl, ⟨hO0, hO1, hO2, hO3⟩, -, -, -, -, -, -, hb⟩
        exact ⟨r, rfl, of_four hO0.lies0 hO1.lies0 hO2.lies0 hO3.lies0, hb⟩
      intro pH0 pH1 pH2 pH3 q0 q1 r yH R0 R1 R2 R3 HLs HBy
      simp only [Act.put, List.setIfInBounds_toArray, List.set_cons_succ, List.set_cons_zero]
      have hBy : Below q3.heap.size q3 yH := hd0.trans HBy
      have Q0 : Lies yH 0 P0 (r 0).cells := HLs 0 (by omega)
      have Q1 : Lies yH 0 P1 (r 1).cells := HLs 1 (by omega)
      have Q2 : Lies yH 0 P2 (r 2).cells := HLs 2 (by omega)
      have Q3 : Lies yH 0 P3 (r 3).cells := HLs 3 (by omega)
      clear HLs HBy hd0
      generalize r 0 = c0 at *
      obtain ⟨opH0, nH0, sH0, aH0, lenH0, capH0⟩ := c0
      generalize r 1 = c1 at *
      obtain ⟨opH1, nH1, sH1, aH1, lenH1, capH1⟩ := c1
      generalize r 2 = c2 at *
      obtain ⟨opH2, nH2, sH2, aH2, lenH2, capH2⟩ := c2
      generalize r 3 = c3 at *
      obtain ⟨opH3, nH3, sH3, aH3, lenH3, capH3⟩ := c3
      have HH0 : Hid (RowT 28 yH pH0 opH0 nH0 sH0 aH0 lenH0 capH0) := R0
      have HLH0 : Hid (Lies yH 0 P0 (tmCells opH0 nH0 sH0 aH0 lenH0 capH0)) := Q0
      have HH1 : Hid (RowT 28 yH pH1 opH1 nH1 sH1 aH1 lenH1 capH1) := R1
      have HLH1 : Hid (Lies yH 0 P1 (tmCells opH1 nH1 sH1 aH1 lenH1 capH1)) := Q1
      have HH2 : Hid (RowT 28 yH pH2 opH2 nH2 sH2 aH2 lenH2 capH2) := R2
      have HLH2 : Hid (Lies yH 0 P2 (tmCells opH2 nH2 sH2 aH2 lenH2 capH2)) := Q2
      have HH3 : Hid (RowT 28 yH pH3 opH3 nH3 sH3 aH3 lenH3 capH3) := R3
      have HLH3 : Hid (Lies yH 0 P3 (tmCells opH3 nH3 sH3 aH3 lenH3 capH3)) := Q3
      clear R0 R1 R2 R3 Q0 Q1 Q2 Q3
      have HVB := hide (bt (unhide HVB) hBy (Nat.le_refl _))
      have HG0 := hide ((unhide HG0).below hBy)
      have HGM0 := hide ((unhide HGM0).below hBy)
      have HW0 := hide ((unhide HW0).below hBy)
      have HLW0 := hide ((unhide HLW0).below hBy)
      have HG1 := hide ((unhide HG1).below hBy)
      have HGM1 := hide ((unhide HGM1).below hBy)
      have HW1 := hide ((unhide HW1).below hBy)
      have HLW1 := hide ((unhide HLW1).below hBy)
      have HG2 := hide ((unhide HG2).below hBy)
      have HGM2 := hide ((unhide HGM2).below hBy)
      have HW2 := hide ((unhide HW2).below hBy)
      have HLW2 := hide ((unhide HLW2).below hBy)
      have HG3 := hide ((unhide HG3).below hBy)
      have HGM3 := hide ((unhide HGM3).below hBy)
      have HW3 := hide ((unhide HW3).below hBy)
      have HLW3 := hide ((unhide HLW3).below hBy)
      clear hBy hI HA0 HA1 HL0 HL1 HER HTB
      generalize hyw : yH = wd at *
      clear hyw
      have hY := hide (Below.refl wd.heap.size wd)
      have hYV := hY
      obtain ⟨c0, c1, c2, c3⟩ := (unhide HH0).facts
      obtain ⟨d0, d1, d2, d3⟩ := (unhide HW0).facts
      go_wp2_with fail
      clear c0 c1 c2 c3 d0 d1 d2 d3
      refine (unhide heq P0 opH0 nH0 sH0 aH0 lenH0 capH0 opW0 nW0 sW0 aW0 lenW0 capW0 _ ((unhide HLH0).below (unhide hY)) ((unhide HLW0).below (unhide hYV))).mono ?_
      rintro e ud0 ⟨rfl, hb⟩
      have hY := hide (bt (unhide hY) hb (Nat.le_refl _))
      have hYV := hide (bt (unhide hYV) hb (Nat.le_refl _))
      clear hb
      obtain ⟨c0, c1, c2, c3⟩ := ((unhide HH1).below (unhide hY)).facts
      obtain ⟨d0, d1, d2, d3⟩ := ((unhide HW1).below (unhide hYV)).facts
      go_wp2_with fail
      clear c0 c1 c2 c3 d0 d1 d2 d3
      refine (unhide heq P1 opH1 nH1 sH1 aH1 lenH1 capH1 opW1 nW1 sW1 aW1 lenW1 capW1 _ ((unhide HLH1).below (unhide hY)) ((unhide HLW1).below (unhide hYV))).mono ?_
      rintro e ud1 ⟨rfl, hb⟩
      have hY := hide (bt (unhide hY) hb (Nat.le_refl _))
      have hYV := hide (bt (unhide hYV) hb (Nat.le_refl _))
      clear hb
      obtain ⟨c0, c1, c2, c3⟩ := ((unhide HH2).below (unhide hY)).facts
      obtain ⟨d0, d1, d2, d3⟩ := ((unhide HW2).below (unhide hYV)).facts
      go_wp2_with fail
      clear c0 c1 c2 c3 d0 d1 d2 d3
      refine (unhide heq P2 opH2 nH2 sH2 aH2 lenH2 capH2 opW2 nW2 sW2 aW2 lenW2 capW2 _ ((unhide HLH2).below (unhide hY)) ((unhide HLW2).below (unhide hYV))).mono ?_
      rintro e ud2 ⟨rfl, hb⟩
      have hY := hide (bt (unhide hY) hb (Nat.le_refl _))
      have hYV := hide (bt (unhide hYV) hb (Nat.le_refl _))
      clear hb
      obtain ⟨c0, c1, c2, c3⟩ := ((unhide HH3).below (unhide hY)).facts
      obtain ⟨d0, d1, d2, d3⟩ := ((unhide HW3).below (unhide hYV)).facts
      go_wp2_with fail
      clear c0 c1 c2 c3 d0 d1 d2 d3
      refine (unhide heq P3 opH3 nH3 sH3 aH3 lenH3 capH3 opW3 nW3 sW3 aW3 lenW3 capW3 _ ((unhide HLH3).below (unhide hY)) ((unhide HLW3).below (unhide hYV))).mono ?_
      rintro e ud3 ⟨rfl, hb⟩
      have hY := hide (bt (unhide hY) hb (Nat.le_refl _))
      have hYV := hide (bt (unhide hYV) hb (Nat.le_refl _))
      clear hb
      obtain ⟨c0, c1, c2, c3⟩ := ((unhide HG0).below (unhide hY)).facts
      go_wp2_with fail
      clear c0 c1 c2 c3
      refine (unhide hhG0 opG0 nG0 sG0 aG0 lenG0 capG0 _ ((unhide HGM0).below (unhide hY))).mono ?_
      rintro e o0 ⟨rfl, hb⟩
      have hY := hide (bt (unhide hY) hb (Nat.le_refl _))
      clear hb
      obtain ⟨c0, c1, c2, c3⟩ := ((unhide HG1).below (unhide hY)).facts
      go_wp2_with fail
      clear c0 c1 c2 c3
      refine (unhide hhG1 opG1 nG1 sG1 aG1 lenG1 capG1 _ ((unhide HGM1).below (unhide hY))).mono ?_
      rintro e o1 ⟨rfl, hb⟩
      have hY := hide (bt (unhide hY) hb (Nat.le_refl _))
      clear hb
      obtain ⟨c0, c1, c2, c3⟩ := ((unhide HG2).below (unhide hY)).facts
      go_wp2_with fail
      clear c0 c1 c2 c3
      refine (unhide hhG2 opG2 nG2 sG2 aG2 lenG2 capG2 _ ((unhide HGM2).below (unhide hY))).mono ?_
      rintro e o2 ⟨rfl, hb⟩
      have hY := hide (bt (unhide hY) hb (Nat.le_refl _))
      clear hb
      obtain ⟨c0, c1, c2, c3⟩ := ((unhide HG3).below (unhide hY)).facts
      go_wp2_with fail
      clear c0 c1 c2 c3
      refine (unhide hhG3 opG3 nG3 sG3 aG3 lenG3 capG3 _ ((unhide HGM3).below (unhide hY))).mono ?_
      rintro e o3 ⟨rfl, hb⟩
      have hY := hide (bt (unhide hY) hb (Nat.le_refl _))
      clear hb
      go_wp2_with fail
      go_ret
      exact ⟨rfl, bt (unhide HVB) (unhide hY) (Nat.le_refl _)⟩
    · clear hS0 hI0
      go_enter Tryz.func3, Tryz.ntmps3
      go_wp2_with fail
      generalize hgw : ((w.alloc (.cells #[.int .i64 op0, .int .i64 n0, .string s0, .slice a0 len0 cap0] 24)).alloc (.cells #[.int .i64 op1, .int .i64 n1, .string s1, .slice a1 len1 cap1] 24)) = W1 at *
      clear hgw
      refine (unhide hsz0 op0 n0 s0 a0 len0 cap0 _ _ (unhide HL0) (by omega) (by omega)).mono ?_
      rintro e v0 ⟨rfl, hb⟩
      rw [szv_yes hw0, hgl0]
      have hv0 : Hid (Below W1.heap.size W1 v0) := hb
      clear hb
      obtain ⟨c0, c1, c2, c3⟩ := ((unhide HA1).below (unhide hv0)).facts
      go_wp2_with fail
      clear c0 c1 c2 c3
      refine (unhide hsz1 op1 n1 s1 a1 len1 cap1 _ _ ((unhide HL1).below (unhide hv0)) (by omega) (by omega)).mono ?_
      rintro e v1 ⟨rfl, hb⟩
      rw [szv_no (by omega)]
      go_wp2_with fail
      go_ret
      exact ⟨rfl, bt (unhide HB0) (bt (unhide hv0) hb (Nat.le_refl _)) (Nat.le_refl _)⟩
  · clear hS0 hI0
    go_enter Tryz.func3, Tryz.ntmps3
    go_wp2_with fail
    generalize hgw : ((w.alloc (.cells #[.int .i64 op0, .int .i64 n0, .string s0, .slice a0 len0 cap0] 24)).alloc (.cells #[.int .i64 op1, .int .i64 n1, .string s1, .slice a1 len1 cap1] 24)) = W1 at *
    clear hgw
    refine (unhide hsz0 op0 n0 s0 a0 len0 cap0 _ _ (unhide HL0) (by omega) (by omega)).mono ?_
    rintro e v0 ⟨rfl, hb⟩
    rw [szv_no (by omega)]
    go_wp2_with fail
    go_ret
    exact ⟨rfl, bt (unhide HB0) (hb) (Nat.le_refl _)⟩

def r4 (c0 c1 c2 c3 : Tc) : Nat → Tc
  | 0 => c0 | 1 => c1 | 2 => c2 | _ => c3
theorem ok200 {t : Tm} (h : okT t = true) : t.size ≤ 200 := by
  unfold okT at h
  simp only [Bool.and_eq_true, decide_eq_true_eq] at h
  exact h.1
theorem own_zero (w : World) : Own w (.node 0 0 ByteArray.empty []) (tmCells 0 0 ByteArray.empty none 0 0) [] := by
  simp only [Own]
  exact ⟨none, 0, rfl, ⟨by simp [maxLen], by simp, by simp [maxLen]⟩, ⟨by decide, by decide⟩, by simp⟩

set_option maxRecDepth 100000 in
theorem lawReplyOf (t0 t1 : Tm) (op0 n0 : Int) (s0 : ByteArray) (a0 : Option Addr) (len0 cap0 : Nat) (op1 n1 : Int) (s1 : ByteArray) (a1 : Option Addr) (len1 cap1 : Nat) (w : World) (hl0 : Lies w 0 t0 (tmCells op0 n0 s0 a0 len0 cap0)) (hl1 : Lies w 0 t1 (tmCells op1 n1 s1 a1 len1 cap1)) (htab : Tab w) (herr : Err w) :
    Calls Tryz.prog 3 #[.agg #[.int .i64 op0, .int .i64 n0, .string s0, .slice a0 len0 cap0], .agg #[.int .i64 op1, .int .i64 n1, .string s1, .slice a1 len1 cap1]] w fun e w' => e = .returned (.bool true) ∧ Below w.heap.size w w' := by
  obtain ⟨x, hx⟩ := herr
  cases h : replyO t0 t1 with
  | none =>
    refine lawReplyOf0 t0 t1 (.node 0 0 ByteArray.empty []) (.node 0 0 ByteArray.empty []) (.node 0 0 ByteArray.empty []) (.node 0 0 ByteArray.empty []) false x ⟨by simp [Tm.size, Tm.sizes], by simp [Tm.size, Tm.sizes], by simp [Tm.size, Tm.sizes], by simp [Tm.size, Tm.sizes]⟩ ?_ ?_ ?_ op0 n0 s0 a0 len0 cap0 op1 n1 s1 a1 len1 cap1 w hl0 hl1 htab hx
    · intro j hj
      match j, hj with
      | 0, _ => exact KidsOk.zero
      | 1, _ => exact KidsOk.zero
      | 2, _ => exact KidsOk.zero
      | 3, _ => exact KidsOk.zero
    · intro op0 n0 s0 a0 len0 cap0 op1 n1 s1 a1 len1 cap1 w g0 g1 hs
      refine (replyS_no t0 t1 op0 n0 s0 a0 len0 cap0 op1 n1 s1 a1 len1 cap1 w g0 g1 hs h).mono ?_
      rintro e w' ⟨rfl, hb⟩
      exact ⟨fun _ => ⟨0, 0, ByteArray.empty, none, 0, 0⟩, rfl, of_four (r := fun _ => ⟨0, 0, ByteArray.empty, none, 0, 0⟩) (zero_lies w' 0) (zero_lies w' 0) (zero_lies w' 0) (zero_lies w' 0), hb⟩
    · intro op0 n0 s0 a0 len0 cap0 op1 n1 s1 a1 len1 cap1 w g0 g1 hs he ht
      refine (replyI_no t0 t1 op0 n0 s0 a0 len0 cap0 op1 n1 s1 a1 len1 cap1 x w he ht g0 g1 hs h).mono ?_
      rintro e w' ⟨rfl, hb⟩
      exact ⟨fun _ => ⟨0, 0, ByteArray.empty, none, 0, 0⟩, [], [], [], [], w.heap.size, w.heap.size, w.heap.size, rfl, ⟨own_zero w', own_zero w', own_zero w', own_zero w'⟩, ⟨List.nodup_nil, List.nodup_nil, List.nodup_nil, List.nodup_nil⟩, ⟨Nat.le_refl _, Nat.le_refl _, Nat.le_refl _, hb.size⟩, nofun, nofun, nofun, nofun, hb⟩
  | some o =>
    obtain ⟨pub, sh, c, g⟩ := o
    obtain ⟨k0, k1, k2, k3⟩ := replyO_ok h
    refine lawReplyOf0 t0 t1 pub sh c g true x ⟨ok200 k0, ok200 k1, ok200 k2, ok200 k3⟩ ?_ ?_ ?_ op0 n0 s0 a0 len0 cap0 op1 n1 s1 a1 len1 cap1 w hl0 hl1 htab hx
    · intro j hj
      match j, hj with
      | 0, _ => exact KidsOk.of k0
      | 1, _ => exact KidsOk.of k1
      | 2, _ => exact KidsOk.of k2
      | 3, _ => exact KidsOk.of k3
    · intro op0 n0 s0 a0 len0 cap0 op1 n1 s1 a1 len1 cap1 w g0 g1 hs
      refine (replyS_yes t0 t1 pub sh c g op0 n0 s0 a0 len0 cap0 op1 n1 s1 a1 len1 cap1 w g0 g1 hs h).mono ?_
      rintro e w' ⟨op4, n4, s4, a4, len4, cap4, op6, n6, s6, a6, len6, cap6, op9, n9, s9, a9, len9, cap9, op10, n10, s10, a10, len10, cap10, rfl, h0, h1, h2, h3, hb⟩
      exact ⟨(r4 ⟨op4, n4, s4, a4, len4, cap4⟩ ⟨op6, n6, s6, a6, len6, cap6⟩ ⟨op9, n9, s9, a9, len9, cap9⟩ ⟨op10, n10, s10, a10, len10, cap10⟩), rfl, of_four (r := (r4 ⟨op4, n4, s4, a4, len4, cap4⟩ ⟨op6, n6, s6, a6, len6, cap6⟩ ⟨op9, n9, s9, a9, len9, cap9⟩ ⟨op10, n10, s10, a10, len10, cap10⟩)) h0 h1 h2 h3, hb⟩
    · intro op0 n0 s0 a0 len0 cap0 op1 n1 s1 a1 len1 cap1 w g0 g1 hs he ht
      refine (replyI_yes t0 t1 pub sh c g op0 n0 s0 a0 len0 cap0 op1 n1 s1 a1 len1 cap1 x w he ht g0 g1 hs h).mono ?_
      rintro e w' ⟨op4, n4, s4, a4, len4, cap4, f4, op6, n6, s6, a6, len6, cap6, f6, op9, n9, s9, a9, len9, cap9, f9, op10, n10, s10, a10, len10, cap10, f10, rfl, o0, o1, o2, o3, ⟨d0, d1, d2, d3⟩, ⟨m0, m1, m2, m3, hm0, hm1, hm2, hm3, hm4, i0, i1, i2, i3⟩, hb⟩
      exact ⟨(r4 ⟨op4, n4, s4, a4, len4, cap4⟩ ⟨op6, n6, s6, a6, len6, cap6⟩ ⟨op9, n9, s9, a9, len9, cap9⟩ ⟨op10, n10, s10, a10, len10, cap10⟩), f4, f6, f9, f10, m1, m2, m3, rfl, ⟨o0, o1, o2, o3⟩, ⟨d0, d1, d2, d3⟩, ⟨Nat.le_trans hm0 hm1, hm2, hm3, hm4⟩, fun y hy => ⟨Nat.le_trans hm0 (i0 y hy).1, (i0 y hy).2⟩, i1, i2, i3, hb⟩

end Go.Proofs.YtafoonabmijcdaaGreatDoor
