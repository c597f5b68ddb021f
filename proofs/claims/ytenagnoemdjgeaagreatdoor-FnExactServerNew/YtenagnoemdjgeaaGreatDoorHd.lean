
/- The walks of laws.heldTermS and laws.heldTerm: where the marks from k on stand in a term's kids, they answer the mark behind the last; nothing that was there is written. -/
import Derived.Test.YtenagnoemdjgeaaGreatDoorMw
namespace Go.Proofs.YtenagnoemdjgeaaGreatDoor
open Go.RowKit Go.Deep

theorem markL_get : ∀ (ks : List Tm) (k j : Nat) (t : Tm), ks[j]? = some t → (markL ks k)[j]? = some (markK t (k + 3 * Tm.sizes (ks.take j)))
  | [], _, _, _, h => by simp at h
  | x :: r, k, 0, t, h => by
    simp at h
    subst h
    simp [markL, Tm.sizes]
  | x :: r, k, j + 1, t, h => by
    have := markL_get r (k + 3 * x.size) j t (by simpa using h)
    simp only [markL, List.getElem?_cons_succ, List.take_succ_cons, Tm.sizes]
    rw [this]
    congr 2
    omega

theorem sizes_take_succ {ks : List Tm} {j : Nat} (h : j < ks.length) : Tm.sizes (ks.take (j + 1)) = Tm.sizes (ks.take j) + ks[j].size := by
  rw [Tm.take_succ_get (by simp [h] : ks[j]? = some ks[j]), Tm.sizes_append]; simp [Tm.sizes]

theorem sizes_take_le (ks : List Tm) (j : Nat) : Tm.sizes (ks.take j) ≤ Tm.sizes ks := by
  have := Tm.sizes_append (ks.take j) (ks.drop j)
  rw [List.take_append_drop] at this
  omega

theorem size_kids (t : Tm) : t.size = 1 + Tm.sizes t.kids := by cases t; simp [Tm.size, Tm.kids]

/-- A kid that bears its marks. -/
theorem marked_elem {w : World} {a : Option Addr} {ks : List Tm} {k j : Nat} (h : LiesAll w 0 a 0 (markL ks k)) (hj : j < ks.length) :
    ∃ kj, kj = k + 3 * Tm.sizes (ks.take j) ∧ ∃ b o a' cap, a = some ⟨b, o, none⟩ ∧ b < w.heap.size ∧ w.cell? ⟨b, o + j * 4, none⟩ = some (.int .i64 (kj : Int)) ∧ w.cell? ⟨b, o + j * 4 + 1, none⟩ = some (.int .i64 ((kj + 1 : Nat) : Int)) ∧
      w.cell? ⟨b, o + j * 4 + 2, none⟩ = some (.string (mtx (kj + 2))) ∧ w.cell? ⟨b, o + j * 4 + 3, none⟩ = some (.slice a' (ks[j].kids).length cap) ∧ (ks[j].kids).length ≤ maxLen ∧ LiesAll w 0 a' 0 (markL ks[j].kids (kj + 3)) := by
  refine ⟨_, rfl, ?_⟩
  obtain ⟨b, o, cs, ha, _, hr, hl⟩ := h.get (k := j) (markL_get ks k j ks[j] (by simp [hj]))
  generalize k + 3 * Tm.sizes (ks.take j) = kj at *
  generalize ks[j] = tj at *
  obtain ⟨op, n, s, kk⟩ := tj
  simp only [markK, Lies, markL_length] at hl
  obtain ⟨a', cap, rfl, ⟨_, h2, h3⟩, _, hk⟩ := hl
  rw [Nat.zero_add] at hr
  refine ⟨b, o, a', cap, ha, rangeAt_lt hr (by simp [tmCells]), hr 0 _ rfl, hr 1 _ rfl, hr 2 _ rfl, hr 3 _ rfl, by simp [Tm.kids]; omega, hk⟩

def HdOk (ks : List Tm) : Prop := ∀ (a : Option Addr) (cap k : Nat) (w : World), LiesAll w 0 a 0 (markL ks k) → ks.length ≤ maxLen → 1 ≤ k → k + 3 * Tm.sizes ks ≤ 1099511627776 →
  Calls Tryz.prog 71 #[.slice a ks.length cap, .int .i64 (k : Int)] w fun e w' => e = .returned (.int .i64 ((k + 3 * Tm.sizes ks : Nat) : Int)) ∧ Below w.heap.size w w'

set_option maxHeartbeats 1000000 in
theorem hd_step (ks : List Tm) (hks : ∀ t ∈ ks, HdOk t.kids) : HdOk ks := by
  intro a cap k w hl hm h1 hz
  have HK := hide hks
  have HLL := hide hl
  have HTL := hide (sizes_take_le ks)
  generalize hlen : ks.length = len at *
  have HL := hide hlen
  generalize htot : Tm.sizes ks = tot at *
  unfold maxLen at hm
  clear hks hl hlen
  go_enter Tryz.func71, Tryz.ntmps71
  go_wp2_with fail
  go_loopw [1, 5] (fun l i wr => ∃ j : Nat, j ≤ len ∧ i = .int .i64 j ∧ l = .int .i64 ((k + 3 * Tm.sizes (ks.take j) : Nat) : Int) ∧ Below w.heap.size w wr) (fun _ i _ => len - (intOf i).toNat)
  case atStart => exact ⟨0, Nat.zero_le _, rfl, by simp [Tm.sizes], Below.refl _ _⟩
  case round =>
    obtain ⟨j, hj, rfl, rfl, hb⟩ := hrel
    by_cases hlt : j < len
    · have hlt' : j < ks.length := by have := unhide HL; omega
      obtain ⟨kj, hkj, b, o, a', cap', rfl, hbs, c0, c1, c2, c3, hml, hkk⟩ := marked_elem (unhide HLL) hlt'
      have hsj := sizes_take_succ hlt'
      have hsk := size_kids ks[j]
      have htl := unhide HTL (j + 1)
      have c0' := (hb.cell (p := ⟨b, o + j * 4, none⟩) hbs).trans c0
      have c1' := (hb.cell (p := ⟨b, o + j * 4 + 1, none⟩) hbs).trans c1
      have c2' := (hb.cell (p := ⟨b, o + j * 4 + 2, none⟩) hbs).trans c2
      have c3' := (hb.cell (p := ⟨b, o + j * 4 + 3, none⟩) hbs).trans c3
      have HKK := hide (hkk.below hb)
      rw [← hkj]
      have hks1 : kj + 3 + 3 * Tm.sizes ks[j].kids = k + 3 * Tm.sizes (ks.take (j + 1)) := by omega
      have hkb : kj + 3 + 3 * Tm.sizes ks[j].kids ≤ 1099511627776 := by omega
      have hk1 : 1 ≤ kj := by omega
      have hkb2 : kj + 3 ≤ 1099511627776 := by omega
      have HB := hide hb
      have HR : Hid (∀ (x : Int) (v : World), x = ((kj + 3 : Nat) : Int) → LiesAll v 0 a' 0 (markL ks[j].kids (kj + 3)) →
          Calls Tryz.prog 71 #[.slice a' ks[j].kids.length cap', .int .i64 x] v fun e w' => e = .returned (.int .i64 ((k + 3 * Tm.sizes (ks.take (j + 1)) : Nat) : Int)) ∧ Below v.heap.size v w') := fun x v hx hv => by
        rw [hx, ← hks1]
        exact unhide HK ks[j] (List.getElem_mem hlt') a' cap' (kj + 3) v hv hml (by omega) hkb
      generalize ks[j].kids.length = kl at *
      have hnb : k + 3 * Tm.sizes (ks.take (j + 1)) ≤ 1099511627776 := by omega
      generalize hkn : k + 3 * Tm.sizes (ks.take (j + 1)) = kn at *
      have HN := hide hkn
      clear hkn
      clear c0 c1 c2 c3 hkk hkj hsj hsk htl hb hks1 hkb
      have HM : Hid (∀ (x : Int) (v : World), x = ((kj + 2 : Nat) : Int) → Calls Tryz.prog 126 #[.int .i64 x] v fun e w' => e = .returned (.string (mtx (kj + 2))) ∧ Below v.heap.size v w') := fun x v hx => by
        rw [hx]; exact mark29 (kj + 2) v (by omega) (by omega)
      generalize mtx (kj + 2) = mt at *
      go_wp2_with fail
      go_region_with (go_at_call 126; refine (unhide HM _ _ (by omega)).mono ?_; rintro e w2 ⟨rfl, hb2⟩; have c2' := kpc (below_drew' hb2) c2'; have c3' := kpc (below_drew' hb2) c3'; have HKK := hide ((unhide HKK).below (below_drew' hb2)); have HB := hide ((unhide HB).trans ((below_drew' hb2).mono (unhide HB).size)))
      all_goals
        go_wp2_with fail
        refine (unhide HR _ _ (by omega) (unhide HKK)).mono ?_
        rintro e w3 ⟨rfl, hb3⟩
        go_wp2_with fail
        go_roundw
        case rel => exact ⟨j + 1, by omega, by go_num, by rw [unhide HN], (unhide HB).trans (hb3.mono (unhide HB).size)⟩
        case measure => simp [intOf]; omega
    · go_wp2_with fail
      go_ret
      exact ⟨ret_int (by rw [List.take_of_length_le (by have := unhide HL; omega), htot]), hb⟩

theorem hd_any : ∀ (m : Nat) (ks : List Tm), Tm.sizes ks ≤ m → HdOk ks
  | 0, ks, h => hd_step ks fun t ht => by have := Tm.size_mem ht; have := t.size_pos; omega
  | m + 1, ks, h => hd_step ks fun t ht => hd_any m t.kids (by have := Tm.size_mem ht; have := size_kids t; omega)

theorem held_any (op n : Int) (s : ByteArray) (ks : List Tm) (a : Option Addr) (len cap k : Nat) (w : World) (hl : Lies w 0 (.node op n s (markL ks k)) (tmCells op n s a len cap)) (h1 : 1 ≤ k) (hz : k + 3 * Tm.sizes ks ≤ 1099511627776) :
    Calls Tryz.prog 22 #[.agg #[.int .i64 op, .int .i64 n, .string s, .slice a len cap], .int .i64 (k : Int)] w fun e w' => e = .returned (.int .i64 ((k + 3 * Tm.sizes ks : Nat) : Int)) ∧ Below w.heap.size w w' := by
  simp only [Lies, tmCells, markL_length] at hl
  obtain ⟨a', cap', he, ⟨_, h2, h3⟩, _, hk⟩ := hl
  simp only [List.cons.injEq, Value.slice.injEq, true_and, and_true] at he
  obtain ⟨rfl, rfl, rfl⟩ := he
  have HS := hide (hd_any _ ks (Nat.le_refl _) a cap k)
  have HK := hide hk
  have hm : ks.length ≤ maxLen := by omega
  clear hk h2 h3
  generalize ks.length = len at *
  generalize Tm.sizes ks = sz at *
  go_enter Tryz.func22, Tryz.ntmps22
  go_wp2_with fail
  refine (unhide HS _ ((unhide HK).below ((Below.refl _ _).alloc (Nat.le_refl _) _)) hm h1 hz).mono ?_
  rintro e w2 ⟨rfl, hb2⟩
  go_wp2_with fail
  go_ret
  exact ⟨rfl, ((Below.refl _ _).alloc (Nat.le_refl _) _).trans (hb2.mono (by simp))⟩

end Go.Proofs.YtenagnoemdjgeaaGreatDoor
