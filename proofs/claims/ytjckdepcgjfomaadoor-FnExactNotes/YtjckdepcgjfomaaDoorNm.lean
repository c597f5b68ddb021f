/- Marks of notes and of letters in blocks of their own: the walks of laws.markNoteS, markLetterS, heldNoteS, heldLetterS. -/
import Derived.Test.YtjckdepcgjfomaaDoorNl
namespace Go.Proofs.YtjckdepcgjfomaaDoor
open Go.RowKit Go.Deep

theorem EO.raw {α : Type} {c : α → List Value} {ty : TypeId} {w : World} {b n : Nat} {Q : Nat → α} (h : EO c ty w b n Q) : EO (α := List Value) (fun x => x) ty w b n (fun i => c (Q i)) := ⟨h.row, h.at_⟩
theorem EO.cook {α : Type} {c : α → List Value} {ty : TypeId} {w : World} {b n : Nat} {Q : Nat → α} {R : Nat → List Value} (h : EO (α := List Value) (fun x => x) ty w b n R) (he : ∀ i, i < n → R i = c (Q i)) : EO c ty w b n Q := ⟨h.row, fun i hi => by rw [← he i hi]; exact h.at_ i hi⟩
theorem EO.cell {ty : TypeId} {w : World} {b n : Nat} {R : Nat → List Value} (h : EO (α := List Value) (fun x => x) ty w b n R) {j : Nat} (hj : j < n) {o : Nat} {v : Value} (hv : (R j)[o]? = some v) : w.cell? ⟨b, j * 5 + o, none⟩ = some v := h.at_ j hj o v hv
theorem EO.free {α : Type} {c : α → List Value} {ty : TypeId} {w : World} {b n : Nat} {Q : Nat → α} (h : EO c ty w b n Q) (j : Nat) : w.frozen? ⟨b, j, none⟩ = false := by
  obtain ⟨C, h1, _⟩ := h.row
  exact frozen_of_row h1
theorem EO.set1 {ty : TypeId} {w : World} {b n : Nat} {R : Nat → List Value} (h : EO (α := List Value) (fun x => x) ty w b n R) (h5 : ∀ i, i < n → (R i).length = 5) {j : Nat} (hj : j < n) {o : Nat} (ho : o < 5) (v : Value) {x : Nat} (hx : x = j * 5 + o) : EO (α := List Value) (fun x => x) ty (w.setCell ⟨b, x, none⟩ v) b n (fun i => if i = j then (R j).set o v else R i) := by
  subst hx
  obtain ⟨C, h1, h2⟩ := h.row
  have e := heap_setCell_same w b (j * 5 + o) C ty v h1
  refine ⟨⟨_, e, by simpa using h2⟩, fun i hi q u hu => ?_⟩
  by_cases hij : i = j
  · subst hij
    rw [if_pos rfl] at hu
    by_cases hq : q = o
    · subst hq
      have hl : q < (R i).length := by rw [h5 i hi]; exact ho
      rw [List.getElem?_set_self hl] at hu
      cases hu
      rw [cell_of_row e (by simp; omega)]
      simp
    · rw [List.getElem?_set_ne (by omega)] at hu
      rw [World.cell?_setCell_other _ _ _ _ (fun e => hq (by have := (Addr.mk.inj e).2.1; omega))]
      exact h.at_ i hi q u hu
  · rw [if_neg hij] at hu
    have hq : q < 5 := by have := (List.getElem?_eq_some_iff.1 hu).1; rw [h5 i hi] at this; exact this
    rw [World.cell?_setCell_other _ _ _ _ (fun e => hij (by have := (Addr.mk.inj e).2.1; omega))]
    exact h.at_ i hi q u hu
theorem set1_len {n j o : Nat} {R : Nat → List Value} {v : Value} (h5 : ∀ i, i < n → (R i).length = 5) (hj : j < n) : ∀ i, i < n → (if i = j then (R j).set o v else R i).length = 5 := fun i hi => by
  by_cases e : i = j
  · rw [if_pos e, List.length_set, h5 j hj]
  · rw [if_neg e, h5 i hi]
/-- The marks from k on. -/
def mN (k i : Nat) : Nt := ⟨((k + i * 5 : Nat) : Int), ((k + i * 5 + 1 : Nat) : Int), mtx (k + i * 5 + 2), ((k + i * 5 + 3 : Nat) : Int), ((k + i * 5 + 4 : Nat) : Int)⟩
def mL (k i : Nat) : Lt := ⟨mtx (k + i * 5), ((k + i * 5 + 1 : Nat) : Int), ((k + i * 5 + 2 : Nat) : Int), ((k + i * 5 + 3 : Nat) : Int), ((k + i * 5 + 4 : Nat) : Int)⟩
theorem wrapM {x y : Nat} (h : x ≤ 1099511627776) (e : y = x + 1) : wrap64 ((x : Int) + 1) = (y : Int) := by
  subst e
  unfold wrap64
  omega
theorem bndM {k j n : Nat} (h : k + n * 5 ≤ 1099511627776) (hj : j < n) (h1 : 1 ≤ k) : ∃ k0 k1 k2 k3 k4 k5, k + j * 5 = k0 ∧ k0 + 1 = k1 ∧ k0 + 2 = k2 ∧ k0 + 3 = k3 ∧ k0 + 4 = k4 ∧ k + (j + 1) * 5 = k5 ∧ wrap64 ((k0 : Int) + 1) = (k1 : Int) ∧ wrap64 ((k1 : Int) + 1) = (k2 : Int) ∧ wrap64 ((k2 : Int) + 1) = (k3 : Int) ∧ wrap64 ((k3 : Int) + 1) = (k4 : Int) ∧ wrap64 ((k4 : Int) + 1) = (k5 : Int) ∧ k0 ≠ 0 ∧ (k0 : Int) ≤ 9223372036854775807 ∧ k2 ≠ 0 ∧ (k2 : Int) ≤ 9223372036854775807 ∧ n ≤ 1099511627776 :=
  ⟨_, _, _, _, _, _, rfl, rfl, rfl, rfl, rfl, rfl, wrapM (by omega) rfl, wrapM (by omega) rfl, wrapM (by omega) rfl, wrapM (by omega) rfl, wrapM (by omega) (by omega), by omega, by omega, by omega, by omega, by omega⟩
theorem wrapJ {j n : Nat} (h : n ≤ 1099511627776) (hj : j < n) : wrap64 ((j : Int) + 1) = ((j + 1 : Nat) : Int) := wrapM (by omega) rfl

set_option maxRecDepth 100000 in
set_option maxHeartbeats 2000000 in
theorem markNs (n b c k : Nat) (Q : Nat → Nt) (w : World) (h1 : 1 ≤ k) (hk : k + n * 5 ≤ 1099511627776) (h : EO ntC 26 w b n Q) :
    Calls Tryd.prog 16 #[.slice (some ⟨b, 0, none⟩) n c, .int .i64 (k : Int)] w fun e w' => e = .returned (.int .i64 ((k + n * 5 : Nat) : Int)) ∧ EO ntC 26 w' b n (mN k) ∧ Chg (fun y => y = b) w w' := by
  have H := hide h
  have HK := hide (fun j (hj : j < n) => bndM hk hj h1)
  have HJ := hide (fun j (hj : j < n) => wrapJ (by omega) hj)
  clear h
  go_enter Tryd.func16, Tryd.ntmps16
  go_wp2_with fail
  go_loopw [1, 5] (fun m i wr => ∃ j : Nat, m = .int .i64 ((k + j * 5 : Nat) : Int) ∧ i = .int .i64 (j : Int) ∧ EO ntC 26 wr b n (fun i => if i < j then mN k i else Q i) ∧ Chg (fun y => y = b) w wr ∧ j ≤ n) (fun _ i _ => n - (intOf i).toNat)
  case atStart => exact ⟨0, rfl, rfl, (unhide H).eqQ fun i _ => by simp, Chg.refl _ _, by omega⟩
  case round =>
    obtain ⟨j, rfl, rfl, hpo, hch, hj⟩ := hrel
    have HC := hide hch
    by_cases hp : j < n
    · have q2 : (j : Int) < (n : Int) := by omega
      have q3 : (0 : Int) ≤ (j : Int) := by omega
      have w1 := unhide HJ j hp
      obtain ⟨k0, k1, k2, k3, k4, k5, e0, e1, e2, e3, e4, e5, v0, v1, v2, v3, v4, n0, n0', n2, n2', -⟩ := unhide HK j hp
      have HEQ : Hid (mN k j = ⟨((k0 : Nat) : Int), ((k1 : Nat) : Int), mtx k2, ((k3 : Nat) : Int), ((k4 : Nat) : Int)⟩) := by
        show _ = _
        unfold mN
        rw [e0, e1, e2, e3, e4]
      rw [e0]
      have hc := hide (fun v => mark29 k2 v n2 n2')
      have HE0 := hide hpo.raw
      have H5 : Hid (∀ i, i < n → (ntC (if i < j then mN k i else Q i)).length = 5) := fun i _ => rfl
      generalize hR : (fun i => ntC (if i < j then mN k i else Q i)) = R at HE0
      have HR := hide (fun i => (congrFun hR i).symm)
      have H5' : Hid (∀ i, i < n → (R i).length = 5) := fun i hi => by rw [unhide HR i]; exact unhide H5 i hi
      clear hR H5 hpo hch e0 e1 e2 e3 e4 n0 n0' n2 n2'
      have HE5 := hide e5
      clear e5
      have HLHE0 : (R j).length = 5 := unhide H5' j hp
      obtain ⟨u0, c0⟩ : ∃ u, wr.cell? ⟨b, j * 5, none⟩ = some u := ⟨_, (unhide HE0).cell hp (o := 0) (List.getElem?_eq_getElem (by rw [HLHE0]; omega))⟩
      have f0 : wr.frozen? ⟨b, j * 5, none⟩ = false := (unhide HE0).free _
      obtain ⟨u1, c1⟩ : ∃ u, wr.cell? ⟨b, j * 5 + 1, none⟩ = some u := ⟨_, (unhide HE0).cell hp (o := 1) (List.getElem?_eq_getElem (by rw [HLHE0]; omega))⟩
      have f1 : wr.frozen? ⟨b, j * 5 + 1, none⟩ = false := (unhide HE0).free _
      clear HLHE0
      have HE1 := hide (((unhide HE0).set1 (unhide H5') hp (o := 0) (by omega) (.int .i64 (k0 : Int)) (x := j * 5) rfl).set1 (set1_len (o := 0) (v := (.int .i64 (k0 : Int))) (unhide H5') hp) hp (o := 1) (by omega) (.int .i64 (k1 : Int)) (x := j * 5 + 1) rfl)
      have HL1 := hide (set1_len (o := 1) (v := (.int .i64 (k1 : Int))) (set1_len (o := 0) (v := (.int .i64 (k0 : Int))) (unhide H5') hp) hp)
      have HC1 := hide (Chg.set (Chg.set (unhide HC) (p := ⟨b, j * 5, none⟩) rfl (.int .i64 (k0 : Int))) (p := ⟨b, j * 5 + 1, none⟩) rfl (.int .i64 (k1 : Int)))
      go_wp2_with fail
      refine (unhide hc _).mono ?_
      rintro e wa ⟨rfl, hba⟩
      have HE2 := hide ((unhide HE1).on hba)
      have HC2 := hide ((unhide HC1).on hba)
      have HLHE2 := unhide HL1 j hp
      obtain ⟨u2, c2⟩ : ∃ u, wa.cell? ⟨b, j * 5 + 2, none⟩ = some u := ⟨_, (unhide HE2).cell hp (o := 2) (List.getElem?_eq_getElem (by rw [HLHE2]; omega))⟩
      have f2 : wa.frozen? ⟨b, j * 5 + 2, none⟩ = false := (unhide HE2).free _
      obtain ⟨u3, c3⟩ : ∃ u, wa.cell? ⟨b, j * 5 + 3, none⟩ = some u := ⟨_, (unhide HE2).cell hp (o := 3) (List.getElem?_eq_getElem (by rw [HLHE2]; omega))⟩
      have f3 : wa.frozen? ⟨b, j * 5 + 3, none⟩ = false := (unhide HE2).free _
      obtain ⟨u4, c4⟩ : ∃ u, wa.cell? ⟨b, j * 5 + 4, none⟩ = some u := ⟨_, (unhide HE2).cell hp (o := 4) (List.getElem?_eq_getElem (by rw [HLHE2]; omega))⟩
      have f4 : wa.frozen? ⟨b, j * 5 + 4, none⟩ = false := (unhide HE2).free _
      have HE3 := hide ((((unhide HE2).set1 (unhide HL1) hp (o := 2) (by omega) (.string (mtx k2)) (x := j * 5 + 2) rfl).set1 (set1_len (o := 2) (v := (.string (mtx k2))) (unhide HL1) hp) hp (o := 3) (by omega) (.int .i64 (k3 : Int)) (x := j * 5 + 3) rfl).set1 (set1_len (o := 3) (v := (.int .i64 (k3 : Int))) (set1_len (o := 2) (v := (.string (mtx k2))) (unhide HL1) hp) hp) hp (o := 4) (by omega) (.int .i64 (k4 : Int)) (x := j * 5 + 4) rfl)
      have HC3 := hide (Chg.set (Chg.set (Chg.set (unhide HC2) (p := ⟨b, j * 5 + 2, none⟩) rfl (.string (mtx k2))) (p := ⟨b, j * 5 + 3, none⟩) rfl (.int .i64 (k3 : Int))) (p := ⟨b, j * 5 + 4, none⟩) rfl (.int .i64 (k4 : Int)))
      clear HLHE2 hba
      go_wp2_with fail
      go_roundw
      case rel =>
        refine ⟨j + 1, by rw [unhide HE5, v4], rfl, (unhide HE3).cook fun i hi => ?_, unhide HC3, by omega⟩
        by_cases e : i = j
        · subst e
          simp only [if_true, Nat.lt_succ_self]
          rw [unhide HEQ, unhide HR i, if_neg (Nat.lt_irrefl i)]
          rfl
        · simp only [if_neg e]
          rw [unhide HR i]
          by_cases e2 : i < j
          · rw [if_pos e2, if_pos (by omega)]
          · rw [if_neg e2, if_neg (by omega)]
      case measure => simp only [intOf]; omega
    · have q2 : ¬ (j : Int) < (n : Int) := by omega
      have hjn : j = n := by omega
      subst hjn
      have HP := hide hpo
      clear hpo hch
      go_wp2_with fail
      go_ret
      exact ⟨rfl, (unhide HP).eqQ fun i hi => by simp [hi], unhide HC⟩

set_option maxRecDepth 100000 in
set_option maxHeartbeats 2000000 in
theorem heldNs (n b c k : Nat) (w : World) (h1 : 1 ≤ k) (hk : k + n * 5 ≤ 1099511627776) (h : EO ntC 26 w b n (mN k)) :
    Calls Tryd.prog 17 #[.slice (some ⟨b, 0, none⟩) n c, .int .i64 (k : Int)] w fun e w' => e = .returned (.int .i64 ((k + n * 5 : Nat) : Int)) ∧ Below w.heap.size w w' := by
  have H := hide h
  have HK := hide (fun j (hj : j < n) => bndM hk hj h1)
  have HJ := hide (fun j (hj : j < n) => wrapJ (by omega) hj)
  clear h
  go_enter Tryd.func17, Tryd.ntmps17
  go_wp2_with fail
  go_loopw [1, 5] (fun m i wr => ∃ j : Nat, m = .int .i64 ((k + j * 5 : Nat) : Int) ∧ i = .int .i64 (j : Int) ∧ Below w.heap.size w wr ∧ j ≤ n) (fun _ i _ => n - (intOf i).toNat)
  case atStart => exact ⟨0, rfl, rfl, Below.refl _ _, by omega⟩
  case round =>
    obtain ⟨j, rfl, rfl, hb, hj⟩ := hrel
    have HB := hide hb
    by_cases hp : j < n
    · have q2 : (j : Int) < (n : Int) := by omega
      have q3 : (0 : Int) ≤ (j : Int) := by omega
      have w1 := unhide HJ j hp
      obtain ⟨k0, k1, k2, k3, k4, k5, e0, e1, e2, e3, e4, e5, v0, v1, v2, v3, v4, n0, n0', n2, n2', -⟩ := unhide HK j hp
      have hx := ((unhide H).on hb).raw
      have c0 := hx.cell hp (o := 0) (v := _) rfl
      have c1 := hx.cell hp (o := 1) (v := _) rfl
      have c2 := hx.cell hp (o := 2) (v := _) rfl
      have c3 := hx.cell hp (o := 3) (v := _) rfl
      have c4 := hx.cell hp (o := 4) (v := _) rfl
      rw [Nat.add_zero] at c0
      simp only [mN] at c0 c1 c2 c3 c4
      rw [e0] at c0 c1 c2 c3 c4
      rw [e1] at c1
      rw [e2] at c2
      rw [e3] at c3
      rw [e4] at c4
      rw [e0]
      have hc := hide (fun v => mark29 k2 v n2 n2')
      have HE5 := hide e5
      clear hx hb e0 e1 e2 e3 e4 e5 n0 n0' n2 n2'
      generalize mtx k2 = M at *
      go_wp2_with fail
      go_region_held3 (fun y => y.cell? ⟨b, j * 5 + 2, none⟩ = some (.string M)) (go_keep) ((go_at_call 28; refine (unhide hc _).mono ?_; rintro e wa ⟨rfl, hb3⟩; have k0' := below_some (below_drewX hb3) c0; have k1' := below_some (below_drewX hb3) c1; have k2' := below_some (below_drewX hb3) c2; have k3' := below_some (below_drewX hb3) c3; have k4' := below_some (below_drewX hb3) c4; have HB3 := hide (btP (unhide HB) (below_drewX hb3)); clear hb3))
      all_goals
        clear c0 c1 c2 c3 c4
        go_wp2_with fail
        go_roundw
        case rel => exact ⟨j + 1, by rw [unhide HE5, v4], rfl, unhide HB3, by omega⟩
        case measure => simp only [intOf]; omega
    · have q2 : ¬ (j : Int) < (n : Int) := by omega
      have hjn : j = n := by omega
      subst hjn
      clear hb
      go_wp2_with fail
      go_ret
      exact ⟨rfl, unhide HB⟩


end Go.Proofs.YtjckdepcgjfomaaDoor
