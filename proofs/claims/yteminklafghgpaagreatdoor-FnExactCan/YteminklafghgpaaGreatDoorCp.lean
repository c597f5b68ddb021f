
/- How two terms are compared, as plain functions; and the walks of cmp.Compare at int and at string, of cmp.Or at int, and of impl.compareHeads: they answer as those functions say; nothing that was there is written. -/
import Derived.Test.YteminklafghgpaaGreatDoorTs
import Derived.Deep.RegionHeld3
import Derived.Laws.Cover1
namespace Go.Proofs.YteminklafghgpaaGreatDoor
open Go.RowKit Go.Deep

def cmpI (a b : Int) : Int := if a < b then -1 else if b < a then 1 else 0
def cmpS (x y : ByteArray) : Int := if x = y then 0 else if Op.bytesLess x.toList y.toList = true then -1 else 1
def orI (a b : Int) : Int := if a = 0 then b else a
def headC (op n : Int) (s : ByteArray) (len : Nat) (op' n' : Int) (s' : ByteArray) (len' : Nat) : Int := orI (cmpI op op') (orI (cmpI n n') (orI (cmpS s s') (cmpI len len')))

theorem orI_zero {a b : Int} (h : a = 0) : orI a b = b := by unfold orI; rw [if_pos h]
theorem orI_not {a b : Int} (h : a ≠ 0) : orI a b = a := by unfold orI; rw [if_neg h]
theorem orI_eq_zero {a b : Int} : orI a b = 0 ↔ a = 0 ∧ b = 0 := by unfold orI; split <;> omega
theorem cmpI_lt {a b : Int} (h : a < b) : cmpI a b = -1 := by unfold cmpI; rw [if_pos h]
theorem cmpI_gt {a b : Int} (h : b < a) : cmpI a b = 1 := by unfold cmpI; rw [if_neg (by omega), if_pos h]
theorem cmpI_eq {a b : Int} (h : a = b) : cmpI a b = 0 := by unfold cmpI; rw [if_neg (by omega), if_neg (by omega)]
theorem cmpI_zero {a b : Int} : cmpI a b = 0 ↔ a = b := by unfold cmpI; split <;> (try split) <;> omega

theorem toList_inj {x y : ByteArray} (h : x.toList = y.toList) : x = y := by
  rw [ByteArray.toList_eq, ByteArray.toList_eq] at h
  exact Go.WideShapes.bytes_inj h

theorem bytesLess_self : ∀ l : List UInt8, Op.bytesLess l l = false
  | [] => rfl
  | a :: r => by simp [Op.bytesLess, bytesLess_self r]

theorem cmpS_eq {x y : ByteArray} (h : x = y) : cmpS x y = 0 := by unfold cmpS; rw [if_pos h]
theorem cmpS_zero {x y : ByteArray} : cmpS x y = 0 ↔ x = y := by unfold cmpS; split <;> (try split) <;> simp_all
theorem cmpS_lt {x y : ByteArray} (h : Op.bytesLess x.toList y.toList = true) : cmpS x y = -1 := by
  unfold cmpS
  rw [if_neg (fun e => by rw [e, bytesLess_self] at h; cases h), if_pos h]
theorem cmpS_gt {x y : ByteArray} (hn : x ≠ y) (h : Op.bytesLess x.toList y.toList = false) : cmpS x y = 1 := by
  unfold cmpS
  rw [if_neg hn, if_neg (by rw [h]; simp)]

mutual
/-- Below 0, 0 or above 0: the one before the other, alike, behind it. -/
def cmpT : Tm → Tm → Int
  | .node op n s ks, .node op' n' s' ks' => orI (headC op n s ks.length op' n' s' ks'.length) (cmpL ks ks')
def cmpL : List Tm → List Tm → Int
  | t :: r, u :: r' => orI (cmpT t u) (cmpL r r')
  | _, _ => 0
end

/-- Of a list of pairs the first that is not alike. -/
def cmpPs : List (Tm × Tm) → Int
  | [] => 0
  | p :: r => orI (cmpT p.1 p.2) (cmpPs r)

theorem cmpPs_append (a b : List (Tm × Tm)) : cmpPs (a ++ b) = orI (cmpPs a) (cmpPs b) := by
  induction a with
  | nil => simp [cmpPs, orI]
  | cons p r ih =>
    simp only [List.cons_append, cmpPs, ih]
    unfold orI
    split <;> simp_all

theorem cmpPs_zip : ∀ (ks ks' : List Tm), cmpPs (ks.zip ks') = cmpL ks ks'
  | [], _ => by simp [cmpPs, cmpL]
  | _ :: _, [] => by simp [cmpPs, cmpL]
  | t :: r, u :: r' => by simp only [List.zip_cons_cons, cmpPs, cmpL, cmpPs_zip r r']

theorem headC_zero {op n : Int} {s : ByteArray} {len : Nat} {op' n' : Int} {s' : ByteArray} {len' : Nat} : headC op n s len op' n' s' len' = 0 ↔ op = op' ∧ n = n' ∧ s = s' ∧ len = len' := by
  unfold headC
  rw [orI_eq_zero, orI_eq_zero, orI_eq_zero, cmpI_zero, cmpI_zero, cmpS_zero, cmpI_zero]
  exact ⟨fun ⟨a, b, c, d⟩ => ⟨a, b, c, by omega⟩, fun ⟨a, b, c, d⟩ => ⟨a, b, c, by omega⟩⟩

theorem nan32 (x : Int) (w : World) : Calls Tryz.prog 50 #[.int .i64 x] w fun e w' => e = .returned (.bool false) ∧ w' = w := by
  have h : (x != x) = false := by simp
  go_enter Tryz.func50, Tryz.ntmps50
  go_wp2_with fail
  go_ret
  exact ⟨rfl, rfl⟩

theorem nan33 (x : ByteArray) (w : World) : Calls Tryz.prog 121 #[.string x] w fun e w' => e = .returned (.bool false) ∧ w' = w := by
  go_enter Tryz.func121, Tryz.ntmps121
  go_wp2_with fail
  go_ret
  exact ⟨by simp, rfl⟩

theorem cmp30 (x y : Int) (w : World) : Calls Tryz.prog 38 #[.int .i64 x, .int .i64 y] w fun e w' => e = .returned (.int .i64 (cmpI x y)) ∧ w' = w := by
  rcases Int.lt_trichotomy x y with h | h | h
  · go_enter Tryz.func38, Tryz.ntmps38
    go_wp2_with (go_at_call 50; refine (nan32 _ _).mono ?_; rintro e w' ⟨rfl, rfl⟩)
    go_ret
    exact ⟨ret_int (cmpI_lt h).symm, rfl⟩
  · subst h
    have h1 : ¬ x < x := by omega
    go_enter Tryz.func38, Tryz.ntmps38
    go_wp2_with (go_at_call 50; refine (nan32 _ _).mono ?_; rintro e w' ⟨rfl, rfl⟩)
    go_ret
    exact ⟨ret_int (cmpI_eq rfl).symm, rfl⟩
  · have h1 : ¬ x < y := by omega
    go_enter Tryz.func38, Tryz.ntmps38
    go_wp2_with (go_at_call 50; refine (nan32 _ _).mono ?_; rintro e w' ⟨rfl, rfl⟩)
    go_ret
    exact ⟨ret_int (cmpI_gt h).symm, rfl⟩

theorem cmp31 (x y : ByteArray) (w : World) : Calls Tryz.prog 120 #[.string x, .string y] w fun e w' => e = .returned (.int .i64 (cmpS x y)) ∧ w' = w := by
  by_cases he : x = y
  · subst he
    have HE : Hid (cmpS x x = 0) := cmpS_eq rfl
    have hb := bytesLess_self x.toList
    have h2 : (x.toList == x.toList) = true := by simp
    go_enter Tryz.func120, Tryz.ntmps120
    go_wp2_with (go_at_call 121; refine (nan33 _ _).mono ?_; rintro e w' ⟨rfl, rfl⟩)
    go_ret
    exact ⟨ret_int HE.out.symm, rfl⟩
  · have h2 : (x.toList == y.toList) = false := by simpa using fun e => he (toList_inj e)
    cases hb : Op.bytesLess x.toList y.toList with
    | true =>
      have HE : Hid (cmpS x y = -1) := cmpS_lt hb
      clear he h2
      go_enter Tryz.func120, Tryz.ntmps120
      go_wp2_with (go_at_call 121; refine (nan33 _ _).mono ?_; rintro e w' ⟨rfl, rfl⟩)
      go_ret
      exact ⟨ret_int HE.out.symm, rfl⟩
    | false =>
      have HE : Hid (cmpS x y = 1) := cmpS_gt he hb
      clear he
      go_enter Tryz.func120, Tryz.ntmps120
      go_wp2_with (go_at_call 121; refine (nan33 _ _).mono ?_; rintro e w' ⟨rfl, rfl⟩)
      go_ret
      exact ⟨ret_int HE.out.symm, rfl⟩

def orL : List Int → Int
  | [] => 0
  | z :: r => orI z (orL r)

set_option maxHeartbeats 400000 in
theorem or29 (zs : List Int) (b : Nat) (w : World) (hn : zs.length ≤ 1000) (hc : ∀ i, i < zs.length → w.cell? ⟨b, i, none⟩ = some (.int .i64 (zs.getD i 0))) :
    Calls Tryz.prog 119 #[.slice (some ⟨b, 0, none⟩) zs.length zs.length] w fun e w' => e = .returned (.int .i64 (orL zs)) ∧ w' = w := by
  have HC : Hid (∀ i, i < zs.length → w.cell? ⟨b, i, none⟩ = some (.int .i64 (zs.getD i 0))) := hc
  clear hc
  generalize hlen : zs.length = len at *
  have HL : Hid (zs.length = len) := hlen
  clear hlen
  go_enter Tryz.func119, Tryz.ntmps119
  go_wp2_with fail
  go_loop [8] (fun i => ∃ k : Nat, k ≤ len ∧ i = .int .i64 k ∧ orL zs = orL (zs.drop k)) (fun i => len - (intOf i).toNat)
  case atStart => exact ⟨0, Nat.zero_le _, rfl, rfl⟩
  case round =>
    obtain ⟨k, hk, rfl, he⟩ := hrel
    have HE : Hid (orL zs = orL (zs.drop k)) := he
    clear he
    by_cases hlt : k < len
    · have hlt' : k < zs.length := by have := HL.out; omega
      have hcell : w.cell? ⟨b, k, none⟩ = some (.int .i64 zs[k]) := by rw [HC.out k hlt]; simp [hlt']
      have hd : zs.drop k = zs[k] :: zs.drop (k + 1) := (List.getElem_cons_drop hlt').symm
      have HD : Hid (orL (zs.drop k) = orI zs[k] (orL (zs.drop (k + 1)))) := by show _ = _; rw [hd]; rfl
      clear hd
      generalize zs[k] = z at *
      by_cases hz : z = 0
      · subst hz
        have hz2 : ((0 : Int) != 0) = false := rfl
        go_wp2_with fail
        go_round
        case rel => exact ⟨k + 1, by omega, by go_num, by rw [HE.out, HD.out, orI_zero rfl]⟩
        case measure => simp [intOf]; omega
      · have hz2 : (z != 0) = true := by simpa using hz
        have HZ : Hid (z ≠ 0) := hz
        clear hz
        go_wp2_with fail
        go_ret
        exact ⟨ret_int (by rw [HE.out, HD.out, orI_not HZ.out]), rfl⟩
    · go_wp2_with fail
      go_ret
      exact ⟨ret_int (by rw [HE.out, List.drop_of_length_le (by have := HL.out; omega)]; rfl), rfl⟩

theorem or29_4 (c0 c1 c2 c3 : Int) (b : Nat) (w : World) (h0 : w.cell? ⟨b, 0, none⟩ = some (.int .i64 c0)) (h1 : w.cell? ⟨b, 1, none⟩ = some (.int .i64 c1)) (h2 : w.cell? ⟨b, 2, none⟩ = some (.int .i64 c2)) (h3 : w.cell? ⟨b, 3, none⟩ = some (.int .i64 c3)) :
    Calls Tryz.prog 119 #[.slice (some ⟨b, 0, none⟩) 4 4] w fun e w' => e = .returned (.int .i64 (orL [c0, c1, c2, c3])) ∧ w' = w :=
  or29 [c0, c1, c2, c3] b w (by simp) fun i hi => by
    match i, hi with
    | 0, _ => exact h0
    | 1, _ => exact h1
    | 2, _ => exact h2
    | 3, _ => exact h3

theorem box_drew (w : World) (cs : Array Value) (t : TypeId) (j : Nat) (v : Value) (b : Nat) (hb : b = w.heap.size) (h : cs[j]? = some v) : (w.alloc (.cells cs t)).drew.cell? ⟨b, j, none⟩ = some v := by
  rw [hb]
  exact box_cell w cs t j v h

theorem heads_list (op n : Int) (s : ByteArray) (len : Nat) (op' n' : Int) (s' : ByteArray) (len' : Nat) :
    orL [cmpI op op', cmpI n n', cmpS s s', cmpI len len'] = headC op n s len op' n' s' len' := by
  simp only [orL, headC]
  congr 3
  unfold orI
  split <;> simp_all

set_option maxHeartbeats 2000000 in
theorem heads28 (op n : Int) (s : ByteArray) (a : Option Addr) (len cap : Nat) (op' n' : Int) (s' : ByteArray) (a' : Option Addr) (len' cap' : Nat) (w : World) :
    Calls Tryz.prog 118 #[.agg #[.int .i64 op, .int .i64 n, .string s, .slice a len cap], .agg #[.int .i64 op', .int .i64 n', .string s', .slice a' len' cap']] w fun e w' => e = .returned (.int .i64 (headC op n s len op' n' s' len')) ∧ Below w.heap.size w w' := by
  have HH := heads_list op n s len op' n' s' len'
  have HH' : Hid (orL [cmpI op op', cmpI n n', cmpS s s', cmpI len len'] = headC op n s len op' n' s' len') := HH
  clear HH
  go_enter Tryz.func118, Tryz.ntmps118
  go_wp2_with fail
  go_region_held3 (fun v => v.cell? ⟨w.heap.size, 0, none⟩ = some (.int .i64 op) ∧ v.cell? ⟨w.heap.size, 1, none⟩ = some (.int .i64 n) ∧ v.cell? ⟨w.heap.size, 2, none⟩ = some (.string s) ∧ v.cell? ⟨w.heap.size, 3, none⟩ = some (.slice a len cap) ∧
      v.cell? ⟨w.heap.size + 1, 0, none⟩ = some (.int .i64 op') ∧ v.cell? ⟨w.heap.size + 1, 1, none⟩ = some (.int .i64 n') ∧ v.cell? ⟨w.heap.size + 1, 2, none⟩ = some (.string s') ∧ v.cell? ⟨w.heap.size + 1, 3, none⟩ = some (.slice a' len' cap')) (go_keep)
    (first
      | (go_at_call 38; refine (cmp30 _ _ _).mono ?_; rintro e w' ⟨rfl, rfl⟩)
      | (go_at_call 120; refine (cmp31 _ _ _).mono ?_; rintro e w' ⟨rfl, rfl⟩)
      | (go_at_call 119
         refine (or29_4 (cmpI op op') (cmpI n n') (cmpS s s') (cmpI len len') _ _ ?_ ?_ ?_ ?_).mono ?_
         · exact box_drew _ _ _ 0 _ _ (by simp) rfl
         · exact box_drew _ _ _ 1 _ _ (by simp) rfl
         · exact box_drew _ _ _ 2 _ _ (by simp) rfl
         · exact box_drew _ _ _ 3 _ _ (by simp) rfl
         rintro e w' ⟨rfl, rfl⟩))
  go_wp2_with fail
  go_ret
  exact ⟨ret_int HH'.out, ((((Below.refl _ _).alloc (Nat.le_refl _) _).alloc (by simp) _).alloc (by simp; omega) _).drew⟩

end Go.Proofs.YteminklafghgpaaGreatDoor
