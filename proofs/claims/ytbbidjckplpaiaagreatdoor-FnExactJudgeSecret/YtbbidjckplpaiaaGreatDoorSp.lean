
/- What a server that is right is; impl.gotOk and impl.shareOk, walked. -/
import Derived.Test.YtbbidjckplpaiaaGreatDoorSo0
import Derived.Test.YtbbidjckplpaiaaGreatDoorOw
namespace Go.Proofs.YtbbidjckplpaiaaGreatDoor
open Go.RowKit Go.Deep

theorem same15 (t t' : Tm) (op n : Int) (s : ByteArray) (a : Option Addr) (len cap : Nat) (op' n' : Int) (s' : ByteArray) (a' : Option Addr) (len' cap' : Nat) (w : World) (hl : Lies w 0 t (tmCells op n s a len cap)) (hl' : Lies w 0 t' (tmCells op' n' s' a' len' cap'))
    (hsz : t.size ≤ 2097152) :
    Calls Tryz.prog 162 #[.agg #[.int .i64 op, .int .i64 n, .string s, .slice a len cap], .agg #[.int .i64 op', .int .i64 n', .string s', .slice a' len' cap']] w fun e w' => e = .returned (.bool (sameB t t')) ∧ Below w.heap.size w w' := by
  have h24 := hide (cmp24 t t' op n s a len cap op' n' s' a' len' cap')
  have HL := hide hl
  have HL' := hide hl'
  have HB : Hid (∀ c : Int, c = cmpT t t' → sameB t t' = (c == 0)) := fun c hc => by rw [hc]; unfold sameB; rw [Bool.eq_iff_iff]; simp
  generalize cmpT t t' = C at *
  clear hl hl'
  go_enter Tryz.func162, Tryz.ntmps162
  go_wp2_with fail
  refine (unhide h24 _ ((unhide HL).below (((Below.refl _ _).alloc (Nat.le_refl _) _).alloc (by simp) _)) ((unhide HL').below (((Below.refl _ _).alloc (Nat.le_refl _) _).alloc (by simp) _)) hsz).mono ?_
  rintro e w2 ⟨rfl, hb2⟩
  go_wp2_with fail
  go_ret
  exact ⟨ret_bool (unhide HB _ rfl).symm, (((Below.refl _ _).alloc (Nat.le_refl _) _).alloc (by simp) _).trans (hb2.mono (by simp; omega))⟩


theorem below_drewC {w v : World} (h : Below w.drew.heap.size w.drew v) : Below w.heap.size w v := ((Below.refl _ _).drew).trans h

def zeroT : Tm := .node 0 0 ByteArray.empty []
/-- Each of them is an atom's number. -/
def gotB (l : List Int) : Bool := l.all fun x => inB x 0 1000000
theorem gotB_no {l : List Int} {k : Nat} {x : Int} (h : l[k]? = some x) (hx : inB x 0 1000000 = false) : gotB l = false := by
  unfold gotB
  rw [List.all_eq_false]
  exact ⟨x, List.mem_of_getElem? h, by simp [hx]⟩
theorem gotB_yes {l : List Int} (h : ∀ k x, k < l.length → l[k]? = some x → inB x 0 1000000 = true) : gotB l = true := by
  unfold gotB
  rw [List.all_eq_true]
  intro x hx
  obtain ⟨k, hk⟩ := List.mem_iff_getElem?.1 hx
  exact h k x (List.getElem?_eq_some_iff.1 hk).1 hk
/-- Its share: a right term where it has one, zero else. -/
noncomputable def svB (st : Int) (tl : Bool) (u : Tm) : Bool := if tl || st == 3 then okT u else sameB u zeroT
/-- A server that is right. -/
noncomputable def serverB (st : Int) (h : ByteArray) (ke ep : Int) (t u : Tm) (i o : Int) (tl : Bool) (l : List Int) : Bool :=
  inB st 1 5 && (hostB h && (inB ke 0 1000000 && (inB ep 0 1000000 && (gotB l && (decide (l.length ≤ 20) && (okT t && (svB st tl u && (inB i 0 100 && inB o 0 100))))))))

theorem atomI (x : Int) (w : World) : Calls Tryz.prog 117 #[.int .i64 x] w fun e w' => e = .returned (.bool (inB x 0 1000000)) ∧ w' = w := by
  by_cases h1 : 0 ≤ x
  · by_cases h2 : x ≤ 1000000
    · rw [show inB x 0 1000000 = true from decide_eq_true ⟨h1, h2⟩]
      go_enter Tryz.func117, Tryz.ntmps117
      go_wp2_with fail
      go_ret
      exact ⟨retB (by simp), rfl⟩
    · rw [show inB x 0 1000000 = false from decide_eq_false (by omega)]
      go_enter Tryz.func117, Tryz.ntmps117
      go_wp2_with fail
      go_ret
      exact ⟨retB (by simp), rfl⟩
  · rw [show inB x 0 1000000 = false from decide_eq_false (by omega)]
    go_enter Tryz.func117, Tryz.ntmps117
    go_wp2_with fail
    go_ret
    exact ⟨rfl, rfl⟩

theorem cntI (x : Int) (w : World) : Calls Tryz.prog 150 #[.int .i64 x] w fun e w' => e = .returned (.bool (inB x 0 100)) ∧ w' = w := by
  by_cases h1 : 0 ≤ x
  · by_cases h2 : x ≤ 100
    · rw [show inB x 0 100 = true from decide_eq_true ⟨h1, h2⟩]
      go_enter Tryz.func150, Tryz.ntmps150
      go_wp2_with fail
      go_ret
      exact ⟨retB (by simp), rfl⟩
    · rw [show inB x 0 100 = false from decide_eq_false (by omega)]
      go_enter Tryz.func150, Tryz.ntmps150
      go_wp2_with fail
      go_ret
      exact ⟨retB (by simp), rfl⟩
  · rw [show inB x 0 100 = false from decide_eq_false (by omega)]
    go_enter Tryz.func150, Tryz.ntmps150
    go_wp2_with fail
    go_ret
    exact ⟨rfl, rfl⟩

set_option maxRecDepth 100000 in
set_option maxHeartbeats 4000000 in
theorem gotI (l : List Int) (g : Option Addr) (gc : Nat) (w : World) (hi : Ints w 0 g l) (hsl : l.length ≤ 2097152) :
    Calls Tryz.prog 152 #[.slice g l.length gc] w fun e w' => e = .returned (.bool (gotB l && decide (l.length ≤ 20))) ∧ w' = w := by
  by_cases h20 : (20 : Int) < (l.length : Int)
  · have HE : Hid ((gotB l && decide (l.length ≤ 20)) = false) := by
      show _ = _
      rw [decide_eq_false (show ¬ l.length ≤ 20 by omega)]; simp
    generalize hL : l.length = L at *
    go_enter Tryz.func152, Tryz.ntmps152
    go_wp2_with fail
    go_ret
    exact ⟨retB (unhide HE), rfl⟩
  · have HE : Hid ((gotB l && decide (l.length ≤ 20)) = gotB l) := by
      show _ = _
      rw [decide_eq_true (show l.length ≤ 20 by omega)]; simp
    have HI := hide hi
    clear hi
    generalize hL : l.length = L at *
    have HL : Hid (l.length = L) := hL
    clear hL
    go_enter Tryz.func152, Tryz.ntmps152
    go_wp2_with fail
    go_loopw [10] (fun n wr => ∃ k : Nat, n = .int .i64 k ∧ k ≤ L ∧ (∀ j x, j < k → l[j]? = some x → inB x 0 1000000 = true) ∧ wr = w) (fun n _ => L - (intOf n).toNat)
    case atStart => exact ⟨0, rfl, by omega, fun j x hj => by omega, rfl⟩
    case round =>
      obtain ⟨k, rfl, hk, hd, rfl⟩ := hrel
      have HD := hide hd
      clear hd
      by_cases hp : k < L
      · have hp' : k < l.length := by have := HL.out; omega
        obtain ⟨x, hx⟩ : ∃ x, l[k]? = some x := ⟨_, List.getElem?_eq_getElem hp'⟩
        obtain ⟨b, o, rfl, -, c0⟩ := unhide HI k x hx
        have HK := hide hx
        have c2 : (k : Int) < (L : Int) := by omega
        have c3 : (0 : Int) ≤ (k : Int) := by omega
        have w1 : wrap64 ((k : Int) + 1) = ((k + 1 : Nat) : Int) := by unfold wrap64; omega
        clear hx hp'
        go_wp2_with fail
        refine (atomI x _).mono ?_
        rintro e w2 ⟨rfl, rfl⟩
        cases hB : inB x 0 1000000 with
        | true =>
          go_wp2_with fail
          go_roundw
          case rel => exact ⟨k + 1, rfl, by omega, fun j y hj hy => by
            by_cases hjk : j = k
            · subst hjk; rw [unhide HK] at hy; cases hy; exact hB
            · exact unhide HD j y (by omega) hy, trivial⟩
          case measure => simp only [intOf]; omega
        | false =>
          go_wp2_with fail
          go_ret
          exact ⟨retB (by rw [unhide HE]; exact gotB_no (unhide HK) hB), rfl⟩
      · have c2 : ¬ (k : Int) < (L : Int) := by omega
        go_wp2_with fail
        go_ret
        exact ⟨retB (by rw [unhide HE]; exact gotB_yes fun j x hj hx => unhide HD j x (by have := HL.out; omega) hx), rfl⟩

set_option maxRecDepth 100000 in
set_option maxHeartbeats 4000000 in
theorem shareI (u : Tm) (st : Int) (h : ByteArray) (ke : Int) (ep : Int) (op : Int) (n : Int) (s : ByteArray) (a : Option Addr) (len : Nat) (cap : Nat) (oq : Int) (m : Int) (r : ByteArray) (c : Option Addr) (lem : Nat) (cat : Nat) (i : Int) (o : Int) (tl : Bool) (g : Option Addr) (gl : Nat) (gc : Nat) (w : World) (hu : Lies w 0 u (tmCells oq m r c lem cat)) (hsu : u.size ≤ 2097152) :
    Calls Tryz.prog 153 #[.agg #[.int .i64 st, .string h, .int .i64 ke, .int .i64 ep, .int .i64 op, .int .i64 n, .string s, .slice a len cap, .int .i64 oq, .int .i64 m, .string r, .slice c lem cat, .int .i64 i, .int .i64 o, .bool tl, .slice g gl gc]] w fun e w' => e = .returned (.bool (svB st tl u)) ∧ Below w.heap.size w w' := by
  have gs := hide (fun v hv hz => same15 u zeroT oq m r c lem cat 0 0 ByteArray.empty none 0 0 v hv hz hsu)
  have gk := hide (fun v hv => ok10 u oq m r c lem cat v hv hsu)
  have hb0 := abC (w := w) (.cells #[.int .i64 st, .string h, .int .i64 ke, .int .i64 ep, .int .i64 op, .int .i64 n, .string s, .slice a len cap, .int .i64 oq, .int .i64 m, .string r, .slice c lem cat, .int .i64 i, .int .i64 o, .bool tl, .slice g gl gc] 115)
  have HB0 := hide hb0
  have HU := hide (hu.below hb0)
  clear hu hb0 hsu
  cases tl with
  | true =>
    have HE : Hid (svB st true u = okT u) := by show _ = _; simp [svB]
    generalize okT u = Z at *
    go_enter Tryz.func153, Tryz.ntmps153
    go_wp2_with fail
    refine (unhide gk _ (unhide HU)).mono ?_
    rintro e w2 ⟨rfl, hb2⟩
    have HB2 := hide hb2
    clear hb2
    go_wp2_with fail
    go_ret
    exact ⟨retB (unhide HE), btC (unhide HB0) (unhide HB2)⟩
  | false =>
    by_cases h3 : st = 3
    · subst h3
      have HE : Hid (svB 3 false u = okT u) := by show _ = _; simp [svB]
      generalize okT u = Z at *
      go_enter Tryz.func153, Tryz.ntmps153
      go_wp2_with fail
      refine (unhide gk _ (unhide HU)).mono ?_
      rintro e w2 ⟨rfl, hb2⟩
      have HB2 := hide hb2
      clear hb2
      go_wp2_with fail
      go_ret
      exact ⟨retB (unhide HE), btC (unhide HB0) (unhide HB2)⟩
    · have HE : Hid (svB st false u = sameB u zeroT) := by show _ = _; simp [svB, h3]
      have h3b : (st == 3) = false := by simpa using h3
      generalize sameB u zeroT = Z at *
      go_enter Tryz.func153, Tryz.ntmps153
      go_wp2_with fail
      refine (unhide gs _ (unhide HU) (lies_leaf _ 0 0 ByteArray.empty (by simp) rfl rfl)).mono ?_
      rintro e w2 ⟨rfl, hb2⟩
      have HB2 := hide hb2
      clear hb2
      go_wp2_with fail
      go_ret
      exact ⟨retB (unhide HE), btC (unhide HB0) (unhide HB2)⟩

end Go.Proofs.YtbbidjckplpaiaaGreatDoor
