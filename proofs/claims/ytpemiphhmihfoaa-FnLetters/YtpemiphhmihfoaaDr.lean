
/- The cursor of the draws, as it lies in memory; the walks of spec.l1Byte, l1Below, l1Once: what is drawn lies within its bounds; only the cursor's own block is written. -/
import Derived.Test.YtpemiphhmihfoaaOx
import Derived.Deep.QuietTactic
import Derived.BigQuiet
import Derived.Laws.Bits64b
namespace Go.Proofs.Ytpemiphhmihfoaa
open Go.RowKit Go.Deep

theorem and255 (x : Int) : 0 ≤ bits .and .i64 x 255 ∧ bits .and .i64 x 255 < 256 := by
  have h : (BitVec.ofInt 64 x &&& BitVec.ofInt 64 255).toNat ≤ 255 := by
    rw [BitVec.toNat_and]
    exact Nat.and_le_right
  have e : bits .and .i64 x 255 = IntKind.i64.wrap ((BitVec.ofInt 64 x &&& BitVec.ofInt 64 255).toNat : Int) := rfl
  rw [e, IntKind.wrap_i64]
  omega

theorem set_row {w : World} {b o : Nat} {C : Array Value} {t : TypeId} {fr : Nat × Nat} (v : Value) (h : w.heap[b]? = some (.cells C t fr)) : (w.setCell ⟨b, o, none⟩ v).heap[b]? = some (.cells (C.setIfInBounds o v) t fr) := by
  simp only [World.setCell, Array.getElem?_modify]
  simp [h]

/-- The bytes of a slice, in blocks below c. -/
def Bytes (w : World) (c : Nat) (a : Option Addr) (len : Nat) : Prop := ∀ k, k < len → ∃ b o z, a = some ⟨b, o, none⟩ ∧ b < c ∧ w.cell? ⟨b, o + k, none⟩ = some (.int .u8 z) ∧ 0 ≤ z ∧ z < 256
/-- The cursor lies in the block c; what it reads lies below. -/
def Cur (w : World) (c : Nat) : Prop := ∃ (a : Option Addr) (len cap : Nat) (i h : Int), w.heap[c]? = some (.cells #[.slice a len cap, .int .i64 i, .int .i64 h] 50 (0, 0)) ∧ (0 ≤ i ∧ i ≤ len ∧ len ≤ 1048576) ∧ Bytes w c a len

theorem Cur.lt {w : World} {c : Nat} (h : Cur w c) : c < w.heap.size := by
  obtain ⟨a, len, cap, i, h, hc, _⟩ := h
  exact lt_of_cell (cell_of_row (j := 0) hc (by simp))
theorem Bytes.only {w w' : World} {c : Nat} {a : Option Addr} {len : Nat} (h : Bytes w c a len) (ho : Only [c] w w') : Bytes w' c a len := fun k hk => by
  obtain ⟨b, o, z, h1, h2, h3, h4⟩ := h k hk
  exact ⟨b, o, z, h1, h2, (World.cell?_of_block (ho.block b (lt_of_cell h3) (by simp; omega))).trans h3, h4⟩
theorem Cur.below {w w' : World} {c : Nat} (h : Cur w c) (hb : Below w.heap.size w w') : Cur w' c := by
  have hlt := h.lt
  obtain ⟨a, len, cap, i, h, hc, hr, hB⟩ := h
  exact ⟨a, len, cap, i, h, (hb.block c hlt).trans hc, hr, hB.only (Only.of_below hb)⟩

theorem setCell_only (w : World) (c o : Nat) (v : Value) : Only [c] w (w.setCell ⟨c, o, none⟩ v) := (Only.refl _ _).set (by simp) v
theorem Only.drewN {f : List Nat} {w v : World} (h : Only f w v) (k : Nat) : Only f w (v.drewN k) := ⟨h.os, h.tape, h.output, h.size, h.block⟩

theorem cur_seed {w : World} {c : Nat} {a : Option Addr} {len cap : Nat} {i h : Int} (hrow : w.heap[c]? = some (.cells #[.slice a len cap, .int .i64 i, .int .i64 h] 50 (0, 0))) (hr : 0 ≤ i ∧ i ≤ len ∧ len ≤ 1048576) (hB : Bytes w c a len) (h' : Int) (k1 k2 : Nat) :
    Cur (((w.setCell ⟨c, 2, none⟩ (.int .i64 h')).drewN k1).drewN k2) c :=
  ⟨a, len, cap, i, h', set_row (o := 2) (.int .i64 h') hrow, hr, hB.only (((setCell_only w c 2 _).drewN k1).drewN k2)⟩
theorem cur_next {w : World} {c : Nat} {a : Option Addr} {len cap : Nat} {i h : Int} (hrow : w.heap[c]? = some (.cells #[.slice a len cap, .int .i64 i, .int .i64 h] 50 (0, 0))) (hr : 0 ≤ i ∧ i < len ∧ len ≤ 1048576) (hB : Bytes w c a len) (h' : Int) (k : Nat) :
    Cur (((w.setCell ⟨c, 2, none⟩ (.int .i64 h')).drewN k).setCell ⟨c, 1, none⟩ (.int .i64 (i + 1))) c := by
  have h2 : ((w.setCell ⟨c, 2, none⟩ (.int .i64 h')).drewN k).heap[c]? = some (.cells #[.slice a len cap, .int .i64 i, .int .i64 h'] 50 (0, 0)) := set_row (o := 2) (.int .i64 h') hrow
  exact ⟨a, len, cap, i + 1, h', set_row (o := 1) (.int .i64 (i + 1)) h2, ⟨by omega, by omega, hr.2.2⟩, hB.only (((setCell_only w c 2 _).drewN k).set (by simp) _)⟩

set_option maxHeartbeats 1000000 in
theorem byte_calls (c : Nat) (w : World) (hc : Cur w c) :
    Calls Try.prog 38 #[.pointer (some ⟨c, 0, none⟩)] w fun e w' => ∃ x, e = .returned (.int .i64 x) ∧ (0 ≤ x ∧ x < 256) ∧ Cur w' c ∧ Only [c] w w' := by
  obtain ⟨a, len, cap, i, h, hrow, ⟨hi0, hi1, hlen⟩, hB⟩ := hc
  have c0 : w.cell? ⟨c, 0, none⟩ = some (.slice a len cap) := cell_of_row hrow (by simp)
  have c1 : w.cell? ⟨c, 1, none⟩ = some (.int .i64 i) := cell_of_row hrow (by simp)
  have c2 : w.cell? ⟨c, 2, none⟩ = some (.int .i64 h) := cell_of_row hrow (by simp)
  have f1 : w.frozen? ⟨c, 1, none⟩ = false := frozen_of_row hrow
  have f2 : w.frozen? ⟨c, 2, none⟩ = false := frozen_of_row hrow
  have hlen' : (len : Int) ≤ 1048576 := by omega
  by_cases hlt : i < len
  · obtain ⟨b, o, z, rfl, hbc, hz, hz0, hz1⟩ := hB i.toNat (by omega)
    have hne1 : b ≠ c := by omega
    have hne2 : c ≠ b := by omega
    go_enter Try.func38, Try.ntmps38
    go_wp2_with fail
    go_quiet (fail)
    go_wp2
    go_quiet (fail)
    go_wp2
    go_quiet (fail)
    go_wp2
    go_ret
    exact ⟨_, rfl, and255 _, cur_next hrow ⟨hi0, hlt, hlen⟩ hB _ _, ((setCell_only w c 2 _).drewN _).set (by simp) _⟩
  · have hge : (len : Int) ≤ i := by omega
    go_enter Try.func38, Try.ntmps38
    go_wp2_with fail
    go_quiet (fail)
    go_wp2
    go_quiet (fail)
    go_wp2
    go_ret
    exact ⟨_, rfl, and255 _, cur_seed hrow ⟨hi0, hi1, hlen⟩ hB _ _ _, ((setCell_only w c 2 _).drewN _).drewN _⟩

def belowB (n x : Int) : Prop := (n ≤ 0 → x = 0) ∧ (0 < n → 0 ≤ x ∧ x < n)
theorem belowB_mod (n x : Int) (h : 0 < n) : belowB n (x % n) := ⟨fun h' => by omega, fun _ => ⟨Int.emod_nonneg _ (by omega), Int.emod_lt_of_pos _ h⟩⟩

set_option maxHeartbeats 1000000 in
theorem below_calls (c : Nat) (n : Int) (w : World) (hc : Cur w c) (hn : n ≤ 1000000000) :
    Calls Try.prog 34 #[.pointer (some ⟨c, 0, none⟩), .int .i64 n] w fun e w' => ∃ x, e = .returned (.int .i64 x) ∧ belowB n x ∧ Cur w' c ∧ Only [c] w w' := by
  have hb := hide (byte_calls c)
  have HC := hide hc
  clear hc
  by_cases h0 : n ≤ 0
  · go_enter Try.func34, Try.ntmps34
    go_wp2_with fail
    go_ret
    exact ⟨0, rfl, ⟨fun _ => rfl, fun h => by omega⟩, unhide HC, Only.refl _ _⟩
  · by_cases h1 : n ≤ 256
    · go_enter Try.func34, Try.ntmps34
      go_wp2_with fail
      refine (unhide hb _ (unhide HC)).mono ?_
      rintro e w1 ⟨x, rfl, ⟨hx0, hx1⟩, hc1, ho1⟩
      have HC1 := hide hc1
      have HO1 := hide ho1
      clear hc1 ho1
      go_wp2_with fail
      go_ret
      exact ⟨_, rfl, belowB_mod _ _ (by omega), unhide HC1, unhide HO1⟩
    · go_enter Try.func34, Try.ntmps34
      go_wp2_with fail
      refine (unhide hb _ (unhide HC)).mono ?_
      rintro e w1 ⟨x, rfl, ⟨hx0, hx1⟩, hc1, ho1⟩
      have HC1 := hide hc1
      have HO1 := hide ho1
      clear hc1 ho1
      go_wp2_with fail
      refine (unhide hb _ (unhide HC1)).mono ?_
      rintro e w2 ⟨y, rfl, ⟨hy0, hy1⟩, hc2, ho2⟩
      have HC2 := hide hc2
      have HO2 := hide ((unhide HO1).trans ho2)
      clear hc2 ho2
      go_wp2_with fail
      refine (unhide hb _ (unhide HC2)).mono ?_
      rintro e w3 ⟨z, rfl, ⟨hz0, hz1⟩, hc3, ho3⟩
      have HC3 := hide hc3
      have HO3 := hide ((unhide HO2).trans ho3)
      clear hc3 ho3
      go_wp2_with fail
      refine (unhide hb _ (unhide HC3)).mono ?_
      rintro e w4 ⟨u, rfl, ⟨hu0, hu1⟩, hc4, ho4⟩
      have HC4 := hide hc4
      have HO4 := hide ((unhide HO3).trans ho4)
      clear hc4 ho4
      go_wp2_with fail
      go_ret
      exact ⟨_, rfl, belowB_mod _ _ (by omega), unhide HC4, unhide HO4⟩

set_option maxHeartbeats 1000000 in
theorem once_calls (c : Nat) (n : Int) (w : World) (hc : Cur w c) (hn : n ≤ 1000000000) :
    Calls Try.prog 24 #[.pointer (some ⟨c, 0, none⟩), .int .i64 n] w fun e w' => ∃ b, e = .returned (.bool b) ∧ Cur w' c ∧ Only [c] w w' := by
  have hb := hide (below_calls c n)
  go_enter Try.func24, Try.ntmps24
  go_wp2_with fail
  refine (unhide hb _ hc hn).mono ?_
  rintro e w1 ⟨x, rfl, _, hc1, ho1⟩
  go_wp2_with fail
  go_ret
  exact ⟨_, rfl, hc1, ho1⟩

set_option maxHeartbeats 1000000 in
theorem pick_calls (c b n cap : Nat) (w : World) (hc : Cur w c) (hb : b ≠ c) (hn : 0 < n) (_hn1 : n ≤ 1000) (_hcap : n ≤ cap) (_hcap1 : cap ≤ 1000) (hi : ∀ k, k < n → ∃ s, w.cell? ⟨b, k, none⟩ = some (.string s) ∧ s.size ≤ 300) :
    Calls Try.prog 40 #[.pointer (some ⟨c, 0, none⟩), .slice (some ⟨b, 0, none⟩) n cap] w fun e w' => ∃ s, e = .returned (.string s) ∧ s.size ≤ 300 ∧ Cur w' c ∧ Only [c] w w' := by
  have hB := hide (below_calls c n)
  have HC := hide hc
  have hn' : (n : Int) ≤ 1000 := by omega
  clear hc
  go_enter Try.func40, Try.ntmps40
  go_wp2_with fail
  refine (unhide hB _ (unhide HC) (by omega)).mono ?_
  rintro e w1 ⟨x, rfl, ⟨_, hx⟩, hc1, ho1⟩
  obtain ⟨hx0, hx1⟩ := hx (by omega)
  obtain ⟨z, hz, hwf⟩ := hi x.toNat (by omega)
  have hz1 : w1.cell? ⟨b, x.toNat, none⟩ = some (.string z) := (World.cell?_of_block (ho1.block b (lt_of_cell hz) (by simpa using hb))).trans hz
  have HC1 := hide hc1
  have HO1 := hide ho1
  clear hc1 ho1 hi hz
  go_wp2_with fail
  go_ret
  exact ⟨_, rfl, hwf, unhide HC1, unhide HO1⟩

theorem cur_new {w : World} {a : Option Addr} {len cap : Nat} (hB : Bytes w w.heap.size a len) (hl : len ≤ 1048576) (z : Int) : Cur (w.alloc (.cells #[.slice a len cap, .int .i64 0, .int .i64 z] 50)) w.heap.size ∧ Below w.heap.size w (w.alloc (.cells #[.slice a len cap, .int .i64 0, .int .i64 z] 50)) ∧ w.heap.size < (w.alloc (.cells #[.slice a len cap, .int .i64 0, .int .i64 z] 50)).heap.size := by
  have hb : Below w.heap.size w (w.alloc (.cells #[.slice a len cap, .int .i64 0, .int .i64 z] 50)) := (Below.refl _ _).alloc (Nat.le_refl _) _
  exact ⟨⟨a, len, cap, 0, z, heap_alloc_new w _, ⟨by omega, by omega, hl⟩, hB.only (Only.of_below hb)⟩, hb, by simp⟩

set_option maxRecDepth 100000 in
set_option maxHeartbeats 1000000 in
theorem new_calls (a : Option Addr) (len cap : Nat) (w : World) (hB : Bytes w w.heap.size a len) (hl : len ≤ 1048576) (_hlc : len ≤ cap) :
    Calls Try.prog 17 #[.slice a len cap] w fun e w' => e = .returned (.pointer (some ⟨w.heap.size, 0, none⟩)) ∧ Cur w' w.heap.size ∧ Below w.heap.size w w' ∧ w.heap.size < w'.heap.size := by
  have hl' : (len : Int) ≤ 1048576 := by omega
  go_enter Try.func17, Try.ntmps17
  go_wp2_with fail
  go_loopw [3, 4] (fun h i wr => ∃ (k : Nat) (z : Int), k ≤ len ∧ i = .int .i64 k ∧ h = .int .i64 z ∧ wr = w) (fun _ i _ => len - (intOf i).toNat)
  case atStart => exact ⟨0, _, Nat.zero_le _, rfl, rfl, rfl⟩
  case round =>
    obtain ⟨k, z, hk, rfl, rfl, rfl⟩ := hrel
    by_cases hlt : k < len
    · by_cases h4 : k < 4000
      · obtain ⟨b, o, y, rfl, hbc, hy, hy0, hy1⟩ := hB k hlt
        go_wp2_with fail
        go_roundw
        case rel => exact ⟨k + 1, _, by omega, by go_num, rfl, trivial⟩
        case measure => simp [intOf]; omega
      · go_wp2_with fail
        go_ret
        exact ⟨rfl, cur_new hB hl _⟩
    · go_wp2_with fail
      go_ret
      exact ⟨rfl, cur_new hB hl _⟩
end Go.Proofs.Ytpemiphhmihfoaa
