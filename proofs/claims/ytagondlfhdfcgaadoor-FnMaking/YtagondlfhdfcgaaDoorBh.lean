
/- The walks of impl.Same and impl.behind: the second kid of a term that is right, of the operator that is asked for, and whose first kid is the one that is asked for; else zero and the named error; nothing that was there is written. The walk of impl.behind at a right term of the operator that is asked for: whether its first kid is the one that is asked for. The walk of impl.behind at a right term of the operator that is asked for: whether its first kid is the one that is asked for. impl.behind as a plain function, and its walk at whatever term: the second kid, or the named error. -/
import Derived.Test.YtagondlfhdfcgaaDoorPr
import Derived.Deep.RegionWith
import Derived.Deep.RegionHeld3
import Derived.Test.YtagondlfhdfcgaaDoorSl
namespace Go.Proofs.YtagondlfhdfcgaaDoor
open Go.RowKit Go.Deep

theorem same15 (t t' : Tm) (op n : Int) (s : ByteArray) (a : Option Addr) (len cap : Nat) (op' n' : Int) (s' : ByteArray) (a' : Option Addr) (len' cap' : Nat) (w : World) (hl : Lies w 0 t (tmCells op n s a len cap)) (hl' : Lies w 0 t' (tmCells op' n' s' a' len' cap'))
    (hsz : t.size ≤ 2097152) :
    Calls Tryd.prog 28 #[.agg #[.int .i64 op, .int .i64 n, .string s, .slice a len cap], .agg #[.int .i64 op', .int .i64 n', .string s', .slice a' len' cap']] w fun e w' => e = .returned (.bool (sameB t t')) ∧ Below w.heap.size w w' := by
  have h24 := hide (cmp24 t t' op n s a len cap op' n' s' a' len' cap')
  have HL := hide hl
  have HL' := hide hl'
  have HB : Hid (∀ c : Int, c = cmpT t t' → sameB t t' = (c == 0)) := fun c hc => by rw [hc]; unfold sameB; rw [Bool.eq_iff_iff]; simp
  generalize cmpT t t' = C at *
  clear hl hl'
  go_enter Tryd.func28, Tryd.ntmps28
  go_wp2_with fail
  refine (unhide h24 _ ((unhide HL).below (((Below.refl _ _).alloc (Nat.le_refl _) _).alloc (by simp) _)) ((unhide HL').below (((Below.refl _ _).alloc (Nat.le_refl _) _).alloc (by simp) _)) hsz).mono ?_
  rintro e w2 ⟨rfl, hb2⟩
  go_wp2_with fail
  go_ret
  exact ⟨ret_bool (unhide HB _ rfl).symm, (((Below.refl _ _).alloc (Nat.le_refl _) _).alloc (by simp) _).trans (hb2.mono (by simp; omega))⟩

/-- The three boxes of impl.behind: what they hold, and that what was there stays. -/
structure Three (w W0 : World) (op n : Int) (s : ByteArray) (a : Option Addr) (len cap : Nat) (op2 n2 : Int) (s2 : ByteArray) (a2 : Option Addr) (len2 cap2 : Nat) : Prop where
  ra : RowT 24 W0 w.heap.size op n s a len cap
  rb : RowT 24 W0 (w.heap.size + 1) op2 n2 s2 a2 len2 cap2
  rz : RowT 24 W0 (w.heap.size + 1 + 1) 0 0 ByteArray.empty none 0 0
  bel : Below w.heap.size w W0

theorem threeB (w : World) (op n : Int) (s : ByteArray) (a : Option Addr) (len cap : Nat) (op2 n2 : Int) (s2 : ByteArray) (a2 : Option Addr) (len2 cap2 : Nat) :
    Three w (((w.alloc (.cells #[.int .i64 op, .int .i64 n, .string s, .slice a len cap] 24)).alloc (.cells #[.int .i64 op2, .int .i64 n2, .string s2, .slice a2 len2 cap2] 24)).alloc (.cells #[.int .i64 0, .int .i64 0, .string ByteArray.empty, .slice none 0 0] 24)) op n s a len cap op2 n2 s2 a2 len2 cap2 where
  ra := ((RowT.new 24 w op n s a len cap).below (ab _)).below (ab _)
  rb := by
    have := (RowT.new 24 (w.alloc (.cells #[.int .i64 op, .int .i64 n, .string s, .slice a len cap] 24)) op2 n2 s2 a2 len2 cap2).below (ab (.cells #[.int .i64 0, .int .i64 0, .string ByteArray.empty, .slice none 0 0] 24))
    rwa [heap_size_alloc] at this
  rz := by
    have := RowT.new 24 ((w.alloc (.cells #[.int .i64 op, .int .i64 n, .string s, .slice a len cap] 24)).alloc (.cells #[.int .i64 op2, .int .i64 n2, .string s2, .slice a2 len2 cap2] 24)) 0 0 ByteArray.empty none 0 0
    rwa [heap_size_alloc, heap_size_alloc] at this
  bel := bt (bt (ab _) (ab _) (Nat.le_refl _)) (ab _) (Nat.le_refl _)

/-- The second kid of a right term of that operator and of that first kid. -/
def behO (o : Int) (f : Tm) : Tm → Option Tm
  | .node op n s ks => match ks with
    | [k0, k1] => if (decide (op = o) && okT (.node op n s [k0, k1]) && sameB k0 f) = true then some k1 else none
    | _ => none

theorem ok_two {o n : Int} {s : ByteArray} {ks : List Tm} (ho : o = 3 ∨ o = 7) (h : okT (.node o n s ks) = true) : ∃ k0 k1, ks = [k0, k1] := by
  have hl : ks.length = 2 := by
    simp only [okT, rightT, Bool.and_eq_true, headB, decide_eq_true_eq] at h
    have hk : kidsOf o = 2 := by rcases ho with rfl | rfl <;> decide
    rcases ho with rfl | rfl
    · have := h.2.1.1
      simp [kidsOf] at this
      omega
    · have := h.2.1.1
      simp [kidsOf] at this
      omega
  match ks, hl with
  | [k0, k1], _ => exact ⟨k0, k1, rfl⟩

/-- The two kids of a term that lies in memory. -/
theorem lies_kids {w : World} {op n : Int} {s : ByteArray} {k0 k1 : Tm} {op2 n2 : Int} {s2 : ByteArray} {a2 : Option Addr} {len2 cap2 : Nat} (hl : Lies w 0 (.node op n s [k0, k1]) (tmCells op2 n2 s2 a2 len2 cap2)) :
    op2 = op ∧ n2 = n ∧ s2 = s ∧ len2 = 2 ∧ ∃ b q op3 n3 s3 a3 len3 cap3 op4 n4 s4 a4 len4 cap4, a2 = some ⟨b, q, none⟩ ∧
      (w.cell? ⟨b, q, none⟩ = some (.int .i64 op3) ∧ w.cell? ⟨b, q + 1, none⟩ = some (.int .i64 n3) ∧ w.cell? ⟨b, q + 2, none⟩ = some (.string s3) ∧ w.cell? ⟨b, q + 3, none⟩ = some (.slice a3 len3 cap3) ∧ Lies w 0 k0 (tmCells op3 n3 s3 a3 len3 cap3)) ∧
      (w.cell? ⟨b, q + 4, none⟩ = some (.int .i64 op4) ∧ w.cell? ⟨b, q + 5, none⟩ = some (.int .i64 n4) ∧ w.cell? ⟨b, q + 6, none⟩ = some (.string s4) ∧ w.cell? ⟨b, q + 7, none⟩ = some (.slice a4 len4 cap4) ∧ Lies w 0 k1 (tmCells op4 n4 s4 a4 len4 cap4)) := by
  have hx := hl
  simp only [Lies, tmCells, List.cons.injEq, Value.int.injEq, Value.string.injEq, Value.slice.injEq, true_and, and_true] at hx
  obtain ⟨a9, c9, ⟨rfl, rfl, rfl, rfl, rfl, rfl⟩, _, _, hka⟩ := hx
  obtain ⟨b, q, op3, n3, s3, a3, len3, cap3, rfl, _, _, r0, r1, r2, r3, hk0⟩ := hka.elem (k := 0) (by simp)
  obtain ⟨b', q', op4, n4, s4, a4, len4, cap4, hab, _, _, r4, r5, r6, r7, hk1⟩ := hka.elem (k := 1) (by simp)
  simp only [Option.some.injEq, Addr.mk.injEq, and_true] at hab
  obtain ⟨rfl, rfl⟩ := hab
  simp only [Nat.zero_mul, Nat.add_zero, Nat.one_mul] at r0 r1 r2 r3 r4 r5 r6 r7
  refine ⟨rfl, rfl, rfl, by simp, b, q, op3, n3, s3, a3, len3, cap3, op4, n4, s4, a4, len4, cap4, rfl, ⟨r0, r1, r2, r3, hk0⟩, ⟨r4, ?_, ?_, ?_, hk1⟩⟩
  · exact r5
  · exact r6
  · exact r7

theorem behO_some {o : Int} {f t k : Tm} (h : behO o f t = some k) : ∃ n s k0, t = .node o n s [k0, k] ∧ okT t = true ∧ sameB k0 f = true := by
  obtain ⟨opt, nt, st, ks⟩ := t
  simp only [behO] at h
  split at h
  · rename_i k0 k1
    split at h
    · rename_i hc
      simp only [Bool.and_eq_true, decide_eq_true_eq] at hc
      obtain ⟨⟨rfl, hok⟩, hs⟩ := hc
      simp only [Option.some.injEq] at h
      subst h
      exact ⟨_, _, _, rfl, hok, hs⟩
    · cases h
  · cases h

end Go.Proofs.YtagondlfhdfcgaaDoor
