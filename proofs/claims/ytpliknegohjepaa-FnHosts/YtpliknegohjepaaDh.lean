/- Draws of chapter 5: texts and hosts out of a list, each of at most 300 bytes; nothing that was there is written. -/
import Derived.Test.YtpliknegohjepaaDr
import Derived.Test.YtpliknegohjepaaHm
import Derived.Test.YtpliknegohjepaaMx
namespace Go.Proofs.Ytpliknegohjepaa
open Go.RowKit Go.Deep

theorem only_allocH {c : Nat} {w w1 : World} (x : Obj) (h : Only [c] (w.alloc x) w1) : Only [c] w w1 := (Only.of_below (abH x)).trans h
theorem below_only {c : Nat} {w a b : World} (h : Below w.heap.size w a) (ho : Only [c] a b) (hc : w.heap.size ≤ c) : Below w.heap.size w b :=
  h.trans ⟨ho.os, ho.tape, ho.output, ho.size, fun k hk => ho.block k (by have := h.size; omega) (by simp; omega)⟩

theorem texts_at (w : World) : ∀ k, k < 14 → ∃ s, (w.alloc (.cells #[.string ⟨#[109, 120, 46, 97]⟩, .string ⟨#[42, 46, 97]⟩, .string ⟨#[42, 46, 98]⟩, .string ⟨#[97]⟩, .string ⟨#[42, 46, 42, 46, 97]⟩, .string ⟨#[]⟩, .string ⟨#[46]⟩, .string ⟨#[97, 46]⟩, .string ⟨#[45, 97, 46, 98]⟩, .string ⟨#[97, 45, 98, 46, 99]⟩, .string ⟨#[65, 46, 98]⟩, .string ⟨#[109, 120, 46, 98]⟩, .string ⟨#[97, 98, 99, 100, 101, 102, 103, 104, 105, 106, 107, 46, 108]⟩, .string ⟨#[42, 46]⟩] 9)).cell? ⟨w.heap.size, k, none⟩ = some (.string s) ∧ s.size ≤ 300
  | 0, _ => ⟨_, box_cell w _ 9 0 _ rfl, by decide⟩
  | 1, _ => ⟨_, box_cell w _ 9 1 _ rfl, by decide⟩
  | 2, _ => ⟨_, box_cell w _ 9 2 _ rfl, by decide⟩
  | 3, _ => ⟨_, box_cell w _ 9 3 _ rfl, by decide⟩
  | 4, _ => ⟨_, box_cell w _ 9 4 _ rfl, by decide⟩
  | 5, _ => ⟨_, box_cell w _ 9 5 _ rfl, by decide⟩
  | 6, _ => ⟨_, box_cell w _ 9 6 _ rfl, by decide⟩
  | 7, _ => ⟨_, box_cell w _ 9 7 _ rfl, by decide⟩
  | 8, _ => ⟨_, box_cell w _ 9 8 _ rfl, by decide⟩
  | 9, _ => ⟨_, box_cell w _ 9 9 _ rfl, by decide⟩
  | 10, _ => ⟨_, box_cell w _ 9 10 _ rfl, by decide⟩
  | 11, _ => ⟨_, box_cell w _ 9 11 _ rfl, by decide⟩
  | 12, _ => ⟨_, box_cell w _ 9 12 _ rfl, by decide⟩
  | 13, _ => ⟨_, box_cell w _ 9 13 _ rfl, by decide⟩
  | k + 14, h => absurd h (by omega)
theorem hosts_at (w : World) : ∀ k, k < 6 → ∃ s, (w.alloc (.cells #[.string ⟨#[109, 120, 46, 97]⟩, .string ⟨#[109, 50, 46, 97]⟩, .string ⟨#[109, 120, 46, 98]⟩, .string ⟨#[120, 46, 109, 120, 46, 97]⟩, .string ⟨#[101, 118, 105, 108, 46, 101]⟩, .string ⟨#[97, 46, 98]⟩] 9)).cell? ⟨w.heap.size, k, none⟩ = some (.string s) ∧ s.size ≤ 300
  | 0, _ => ⟨_, box_cell w _ 9 0 _ rfl, by decide⟩
  | 1, _ => ⟨_, box_cell w _ 9 1 _ rfl, by decide⟩
  | 2, _ => ⟨_, box_cell w _ 9 2 _ rfl, by decide⟩
  | 3, _ => ⟨_, box_cell w _ 9 3 _ rfl, by decide⟩
  | 4, _ => ⟨_, box_cell w _ 9 4 _ rfl, by decide⟩
  | 5, _ => ⟨_, box_cell w _ 9 5 _ rfl, by decide⟩
  | k + 6, h => absurd h (by omega)

set_option maxRecDepth 100000 in
set_option maxHeartbeats 1000000 in
theorem text_draw (c : Nat) (w : World) (hc : Cur w c) :
    Calls Try.prog 45 #[.pointer (some ⟨c, 0, none⟩)] w fun e w' => ∃ h, e = .returned (.string h) ∧ h.size ≤ 300 ∧ Cur w' c ∧ Only [c] w w' := by
  have hpk := hide (pick_calls c)
  have hcl := hc.lt
  have HC := hide hc
  clear hc
  go_enter Try.func45, Try.ntmps45
  go_wp2_with fail
  refine (unhide hpk w.heap.size 14 14 _ ((unhide HC).below (abH (.cells #[.string ⟨#[109, 120, 46, 97]⟩, .string ⟨#[42, 46, 97]⟩, .string ⟨#[42, 46, 98]⟩, .string ⟨#[97]⟩, .string ⟨#[42, 46, 42, 46, 97]⟩, .string ⟨#[]⟩, .string ⟨#[46]⟩, .string ⟨#[97, 46]⟩, .string ⟨#[45, 97, 46, 98]⟩, .string ⟨#[97, 45, 98, 46, 99]⟩, .string ⟨#[65, 46, 98]⟩, .string ⟨#[109, 120, 46, 98]⟩, .string ⟨#[97, 98, 99, 100, 101, 102, 103, 104, 105, 106, 107, 46, 108]⟩, .string ⟨#[42, 46]⟩] 9))) (by omega) (by omega) (by omega) (by omega) (by omega) (texts_at w)).mono ?_
  rintro e w3 ⟨s, rfl, hs, hc3, ho3⟩
  have HO3 := hide (only_allocH _ ho3)
  have HC3 := hide hc3
  clear ho3 hc3
  go_wp2_with fail
  go_ret
  exact ⟨_, rfl, hs, unhide HC3, unhide HO3⟩

set_option maxRecDepth 100000 in
set_option maxHeartbeats 1000000 in
theorem host_draw (c : Nat) (w : World) (hc : Cur w c) :
    Calls Try.prog 47 #[.pointer (some ⟨c, 0, none⟩)] w fun e w' => ∃ h, e = .returned (.string h) ∧ h.size ≤ 300 ∧ Cur w' c ∧ Only [c] w w' := by
  have hpk := hide (pick_calls c)
  have hcl := hc.lt
  have HC := hide hc
  clear hc
  go_enter Try.func47, Try.ntmps47
  go_wp2_with fail
  refine (unhide hpk w.heap.size 6 6 _ ((unhide HC).below (abH (.cells #[.string ⟨#[109, 120, 46, 97]⟩, .string ⟨#[109, 50, 46, 97]⟩, .string ⟨#[109, 120, 46, 98]⟩, .string ⟨#[120, 46, 109, 120, 46, 97]⟩, .string ⟨#[101, 118, 105, 108, 46, 101]⟩, .string ⟨#[97, 46, 98]⟩] 9))) (by omega) (by omega) (by omega) (by omega) (by omega) (hosts_at w)).mono ?_
  rintro e w3 ⟨s, rfl, hs, hc3, ho3⟩
  have HO3 := hide (only_allocH _ ho3)
  have HC3 := hide hc3
  clear ho3 hc3
  go_wp2_with fail
  go_ret
  exact ⟨_, rfl, hs, unhide HC3, unhide HO3⟩

set_option maxRecDepth 100000 in
set_option maxHeartbeats 1000000 in
theorem draw27 (a : Option Addr) (len cap : Nat) (w : World) (hB : Bytes w w.heap.size a len) (hl : len ≤ 1048576) (hlc : len ≤ cap) :
    Calls Try.prog 27 #[.slice a len cap] w fun e w' => ∃ h, e = .returned (.string h) ∧ h.size ≤ 300 ∧ Below w.heap.size w w' := by
  have hn := hide (new_calls a len cap w hB hl hlc)
  have ht := hide (fun c v h => text_draw c v h)
  go_enter Try.func27, Try.ntmps27
  go_wp2_with fail
  refine (unhide hn).mono ?_
  rintro e w1 ⟨rfl, hc1, hb1, hz1⟩
  have HC1 := hide hc1
  have HB1 := hide hb1
  clear hc1 hb1
  go_wp2_with fail
  refine (unhide ht _ _ (unhide HC1)).mono ?_
  rintro e w2 ⟨s, rfl, hs, -, ho2⟩
  have HB2 := hide (below_only (unhide HB1) ho2 (Nat.le_refl _))
  clear ho2
  go_wp2_with fail
  go_ret
  exact ⟨_, rfl, hs, unhide HB2⟩

set_option maxRecDepth 100000 in
set_option maxHeartbeats 1000000 in
theorem draw28 (a : Option Addr) (len cap : Nat) (w : World) (hB : Bytes w w.heap.size a len) (hl : len ≤ 1048576) (hlc : len ≤ cap) :
    Calls Try.prog 28 #[.slice a len cap] w fun e w' => ∃ h, e = .returned (.string h) ∧ h.size ≤ 300 ∧ Below w.heap.size w w' := by
  have hn := hide (new_calls a len cap w hB hl hlc)
  have ht := hide (fun c v h => text_draw c v h)
  go_enter Try.func28, Try.ntmps28
  go_wp2_with fail
  refine (unhide hn).mono ?_
  rintro e w1 ⟨rfl, hc1, hb1, hz1⟩
  have HC1 := hide hc1
  have HB1 := hide hb1
  clear hc1 hb1
  go_wp2_with fail
  refine (unhide ht _ _ (unhide HC1)).mono ?_
  rintro e w2 ⟨s, rfl, hs, -, ho2⟩
  have HB2 := hide (below_only (unhide HB1) ho2 (Nat.le_refl _))
  clear ho2
  go_wp2_with fail
  go_ret
  exact ⟨_, rfl, hs, unhide HB2⟩

set_option maxRecDepth 100000 in
set_option maxHeartbeats 1000000 in
theorem draw29 (a : Option Addr) (len cap : Nat) (w : World) (hB : Bytes w w.heap.size a len) (hl : len ≤ 1048576) (hlc : len ≤ cap) :
    Calls Try.prog 29 #[.slice a len cap] w fun e w' => ∃ h, e = .returned (.string h) ∧ h.size ≤ 300 ∧ Below w.heap.size w w' := by
  have hn := hide (new_calls a len cap w hB hl hlc)
  have ht := hide (fun c v h => text_draw c v h)
  go_enter Try.func29, Try.ntmps29
  go_wp2_with fail
  refine (unhide hn).mono ?_
  rintro e w1 ⟨rfl, hc1, hb1, hz1⟩
  have HC1 := hide hc1
  have HB1 := hide hb1
  clear hc1 hb1
  go_wp2_with fail
  refine (unhide ht _ _ (unhide HC1)).mono ?_
  rintro e w2 ⟨s, rfl, hs, -, ho2⟩
  have HB2 := hide (below_only (unhide HB1) ho2 (Nat.le_refl _))
  clear ho2
  go_wp2_with fail
  go_ret
  exact ⟨_, rfl, hs, unhide HB2⟩

set_option maxRecDepth 100000 in
set_option maxHeartbeats 1000000 in
theorem draw26 (a : Option Addr) (len cap : Nat) (w : World) (hB : Bytes w w.heap.size a len) (hl : len ≤ 1048576) (hlc : len ≤ cap) :
    Calls Try.prog 26 #[.slice a len cap] w fun e w' => ∃ p h, e = .returned (.tuple #[.string p, .string h]) ∧ p.size ≤ 300 ∧ h.size ≤ 300 ∧ Below w.heap.size w w' := by
  have hn := hide (new_calls a len cap w hB hl hlc)
  have ht := hide (fun c v h => text_draw c v h)
  have hh := hide (fun c v h => host_draw c v h)
  have ho := hide (fun c v h => once_calls c 4 v h (by omega))
  go_enter Try.func26, Try.ntmps26
  go_wp2_with fail
  refine (unhide hn).mono ?_
  rintro e w1 ⟨rfl, hc1, hb1, hz1⟩
  have HC1 := hide hc1
  have HB1 := hide hb1
  clear hc1 hb1
  go_wp2_with fail
  refine (unhide ht _ _ (unhide HC1)).mono ?_
  rintro e w2 ⟨s, rfl, hs, hc2, ho2⟩
  have HB2 := hide (below_only (unhide HB1) ho2 (Nat.le_refl _))
  have HC2 := hide hc2
  clear ho2 hc2
  go_wp2_with fail
  refine (unhide ho _ _ (unhide HC2)).mono ?_
  rintro e w3 ⟨b, rfl, hc3, ho3⟩
  have HB3 := hide (below_only (unhide HB2) ho3 (Nat.le_refl _))
  have HC3 := hide hc3
  clear ho3 hc3
  cases b
  · go_wp2_with fail
    refine (unhide hh _ _ (unhide HC3)).mono ?_
    rintro e w4 ⟨s', rfl, hs', -, ho4⟩
    have HB4 := hide (below_only (unhide HB3) ho4 (Nat.le_refl _))
    clear ho4
    go_wp2_with fail
    go_ret2
    exact ⟨_, _, rfl, hs, hs', unhide HB4⟩
  · go_wp2_with fail
    refine (unhide ht _ _ (unhide HC3)).mono ?_
    rintro e w4 ⟨s', rfl, hs', -, ho4⟩
    have HB4 := hide (below_only (unhide HB3) ho4 (Nat.le_refl _))
    clear ho4
    go_wp2_with fail
    go_ret2
    exact ⟨_, _, rfl, hs, hs', unhide HB4⟩

end Go.Proofs.Ytpliknegohjepaa
