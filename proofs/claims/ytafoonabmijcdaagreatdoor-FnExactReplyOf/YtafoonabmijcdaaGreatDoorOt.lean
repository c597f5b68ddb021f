/- A row of two made arguments, a call that answers four terms and a flag, four new boxes and their stores: what holds in each state, whatever order is drawn. The two rows of laws.FnExactReplyOf whose order is drawn: four new boxes, two made arguments, a call, in whatever order, come to one state. -/
import Derived.Test.YtafoonabmijcdaaGreatDoorRy
namespace Go.Proofs.YtafoonabmijcdaaGreatDoor
open Go.RowKit Go.Deep

def isP (i : Nat) : Bool := i == 0 || i == 2 || (decide (4 ≤ i) && decide (i ≤ 10)) || i == 19
/-- What the call answers. -/
def ansV (r : Nat → Tc) (B : Bool) : Value := .tuple #[(r 0).agg, (r 1).agg, (r 2).agg, (r 3).agg, .bool B]
def valP (A0 A1 : Value) (r : Nat → Tc) (B : Bool) : Nat → Value
  | 0 => A0 | 2 => A1 | 4 => ansV r B | 5 => ansV r B | 6 => (r 0).agg | 7 => (r 1).agg | 8 => (r 2).agg | 9 => (r 3).agg | 10 => .bool B | 19 => .bool B | _ => undef
theorem valP_r {A0 A1 : Value} {r r' : Nat → Tc} {B : Bool} {i : Nat} (h : ¬ (4 ≤ i ∧ i ≤ 9)) : valP A0 A1 r B i = valP A0 A1 r' B i := by
  unfold valP
  split <;> first | rfl | (exfalso; omega)
def Rw (w : World) (p : Nat) (c : Tc) : Prop := RowT 28 w p c.op c.n c.s c.a c.len c.cap
abbrev fillT (w : World) (p : Nat) (c : Tc) : World := fill4 w p c.op c.n c.s c.a c.len c.cap

structure Sta (D : Nat → Nat) (w0 : World) (A0 A1 : Value) (t0 t1 : Tm) (PT : Nat → Tm) (B : Bool) (b : Nat → Bool) (σ : Nat → Option Value) (r : Nat → Tc) (w : World) : Prop where
  other : ∀ k, (∀ i, (i < 15 ∨ i = 19) → D i ≠ k) → σ k = none
  below : Below w0.heap.size w0 w
  pure : ∀ i, i < 20 → isP i = true → b i = true → σ (D i) = some (valP A0 A1 r B i)
  arg0 : b 1 = true → ∃ p : Tc, σ (D 1) = some p.agg ∧ (b 4 = false → Lies w 0 t0 p.cells)
  arg1 : b 3 = true → ∃ p : Tc, σ (D 3) = some p.agg ∧ (b 4 = false → Lies w 0 t1 p.cells)
  res : b 4 = true → ∀ j, j < 4 → Lies w 0 (PT j) (r j).cells
  box : ∀ j, j < 4 → b (11 + j) = true → ∃ p, σ (D (11 + j)) = some (ptr p) ∧ w0.heap.size ≤ p ∧ (b (15 + j) = false → ZBox w p) ∧ (b (15 + j) = true → Rw w p (r j))
  nob : ∀ j, j < 4 → b (11 + j) = false → σ (D (11 + j)) = none
  apart : ∀ j k p, j < 4 → k < 4 → j ≠ k → σ (D (11 + j)) = some (ptr p) → σ (D (11 + k)) ≠ some (ptr p)
  ord : ∀ k, k < 20 → (5 ≤ k ∧ k ≤ 10 ∨ 15 ≤ k) → b k = true → b 4 = true
  ordS : ∀ j, j < 4 → b (15 + j) = true → b (11 + j) = true

section
variable {D : Nat → Nat} {w0 : World} {A0 A1 : Value} {t0 t1 : Tm} {PT : Nat → Tm} {B : Bool} {b : Nat → Bool} {σ : Nat → Option Value} {r : Nat → Tc} {w w' : World}

theorem Sta.start (D : Nat → Nat) (w0 : World) (A0 A1 : Value) (t0 t1 : Tm) (PT : Nat → Tm) (B : Bool) (r : Nat → Tc) : Sta D w0 A0 A1 t0 t1 PT B (fun _ => false) (fun _ => none) r w0 :=
  ⟨fun _ _ => rfl, Below.refl _ _, nofun, nofun, nofun, nofun, nofun, fun _ _ _ => rfl, nofun, nofun, nofun⟩

theorem Sta.world (h : Sta D w0 A0 A1 t0 t1 PT B b σ r w) (hb : Below w.heap.size w w') : Sta D w0 A0 A1 t0 t1 PT B b σ r w' := by
  refine { h with below := bt h.below hb (Nat.le_refl _), arg0 := fun h1 => ?_, arg1 := fun h1 => ?_, res := fun h4 j hj => (h.res h4 j hj).below hb, box := fun j hj h1 => ?_ }
  · obtain ⟨p, hp, hl⟩ := h.arg0 h1
    exact ⟨p, hp, fun h4 => (hl h4).below hb⟩
  · obtain ⟨p, hp, hl⟩ := h.arg1 h1
    exact ⟨p, hp, fun h4 => (hl h4).below hb⟩
  · obtain ⟨p, hp, hg, hz, hr⟩ := h.box j hj h1
    exact ⟨p, hp, hg, fun hs => (hz hs).below hb, fun hs => RowT.below (hr hs) hb⟩

theorem Sta.put (hD : ∀ i, i < 20 → ∀ k, k < 20 → i ≠ k → D i ≠ D k) (h : Sta D w0 A0 A1 t0 t1 PT B b σ r w) (i : Nat) (hi : i < 20) (hP : isP i = true) (h4 : i ≠ 4) (ho : (5 ≤ i ∧ i ≤ 10 ∨ 15 ≤ i) → b 4 = true) :
    Sta D w0 A0 A1 t0 t1 PT B (bUpd b i) (upd σ (D i) (valP A0 A1 r B i)) r w := by
  have h1 : i ≠ 1 := by rintro rfl; simp [isP] at hP
  have h3 : i ≠ 3 := by rintro rfl; simp [isP] at hP
  have h11 : ∀ j, j < 4 → i ≠ 11 + j := by rintro j hj rfl; simp [isP] at hP; omega
  have h15 : ∀ j, j < 4 → i ≠ 15 + j := by rintro j hj rfl; simp [isP] at hP; omega
  refine ⟨fun k hk => ?_, h.below, fun k hk hp hb => ?_, fun hb => ?_, fun hb => ?_, fun hb => ?_, fun j hj hb => ?_, fun j hj hb => ?_, fun j k p hj hk hne hs => ?_, fun k hk hc hb => ?_, fun j hj hb => ?_⟩
  · rw [upd_ne _ _ (Ne.symm (hk i (by simp [isP] at hP; omega)))]; exact h.other k hk
  · by_cases he : k = i
    · subst he; exact upd_eq _ _ _
    · rw [upd_ne _ _ (hD k hk i hi he)]; rw [bUpd_ne _ he] at hb; exact h.pure k hk hp hb
  · rw [bUpd_ne _ (Ne.symm h1)] at hb
    obtain ⟨p, hp, hl⟩ := h.arg0 hb
    exact ⟨p, by rw [upd_ne _ _ (hD 1 (by omega) i hi (Ne.symm h1))]; exact hp, fun h5 => hl (by rwa [bUpd_ne _ (Ne.symm h4)] at h5)⟩
  · rw [bUpd_ne _ (Ne.symm h3)] at hb
    obtain ⟨p, hp, hl⟩ := h.arg1 hb
    exact ⟨p, by rw [upd_ne _ _ (hD 3 (by omega) i hi (Ne.symm h3))]; exact hp, fun h5 => hl (by rwa [bUpd_ne _ (Ne.symm h4)] at h5)⟩
  · rw [bUpd_ne _ (Ne.symm h4)] at hb; exact h.res hb
  · rw [bUpd_ne _ (Ne.symm (h11 j hj))] at hb
    obtain ⟨p, hp, hg, hz, hr⟩ := h.box j hj hb
    refine ⟨p, by rw [upd_ne _ _ (hD (11 + j) (by omega) i hi (Ne.symm (h11 j hj)))]; exact hp, hg, ?_⟩
    rw [bUpd_ne _ (Ne.symm (h15 j hj))]
    exact ⟨hz, hr⟩
  · rw [bUpd_ne _ (Ne.symm (h11 j hj))] at hb
    rw [upd_ne _ _ (hD (11 + j) (by omega) i hi (Ne.symm (h11 j hj)))]
    exact h.nob j hj hb
  · rw [upd_ne _ _ (hD (11 + j) (by omega) i hi (Ne.symm (h11 j hj)))] at hs
    rw [upd_ne _ _ (hD (11 + k) (by omega) i hi (Ne.symm (h11 k hk)))]
    exact h.apart j k p hj hk hne hs
  · by_cases he : k = i
    · subst he; exact bUpd_of (ho hc)
    · rw [bUpd_ne _ he] at hb; exact bUpd_of (h.ord k hk hc hb)
  · rw [bUpd_ne _ (Ne.symm (h15 j hj))] at hb; exact bUpd_of (h.ordS j hj hb)

theorem Sta.argS (hD : ∀ i, i < 20 → ∀ k, k < 20 → i ≠ k → D i ≠ D k) (h : Sta D w0 A0 A1 t0 t1 PT B b σ r w) (i : Nat) (hi : i = 1 ∨ i = 3) (p : Tc) (hl : Lies w 0 (if i = 1 then t0 else t1) p.cells) :
    Sta D w0 A0 A1 t0 t1 PT B (bUpd b i) (upd σ (D i) p.agg) r w := by
  have hi20 : i < 20 := by omega
  refine ⟨fun k hk => ?_, h.below, fun k hk hp hb => ?_, fun hb => ?_, fun hb => ?_, fun hb => ?_, fun j hj hb => ?_, fun j hj hb => ?_, fun j k q hj hk hne hs => ?_, fun k hk hc hb => ?_, fun j hj hb => ?_⟩
  · rw [upd_ne _ _ (Ne.symm (hk i (by omega)))]; exact h.other k hk
  · have he : k ≠ i := by rintro rfl; rcases hi with rfl | rfl <;> simp [isP] at hp
    rw [upd_ne _ _ (hD k hk i hi20 he)]; rw [bUpd_ne _ he] at hb; exact h.pure k hk hp hb
  · by_cases he : i = 1
    · subst he; exact ⟨p, upd_eq _ _ _, fun _ => by simpa using hl⟩
    · rw [bUpd_ne _ (Ne.symm he)] at hb
      obtain ⟨q, hq, hl'⟩ := h.arg0 hb
      exact ⟨q, by rw [upd_ne _ _ (hD 1 (by omega) i hi20 (Ne.symm he))]; exact hq, fun h5 => hl' (by rwa [bUpd_ne _ (by omega)] at h5)⟩
  · by_cases he : i = 3
    · subst he; exact ⟨p, upd_eq _ _ _, fun _ => by simpa using hl⟩
    · rw [bUpd_ne _ (Ne.symm he)] at hb
      obtain ⟨q, hq, hl'⟩ := h.arg1 hb
      exact ⟨q, by rw [upd_ne _ _ (hD 3 (by omega) i hi20 (Ne.symm he))]; exact hq, fun h5 => hl' (by rwa [bUpd_ne _ (by omega)] at h5)⟩
  · rw [bUpd_ne _ (by omega)] at hb; exact h.res hb
  · rw [bUpd_ne _ (by omega)] at hb
    obtain ⟨q, hq, hg, hz, hr⟩ := h.box j hj hb
    refine ⟨q, by rw [upd_ne _ _ (hD (11 + j) (by omega) i hi20 (by omega))]; exact hq, hg, ?_⟩
    rw [bUpd_ne _ (by omega)]
    exact ⟨hz, hr⟩
  · rw [bUpd_ne _ (by omega)] at hb
    rw [upd_ne _ _ (hD (11 + j) (by omega) i hi20 (by omega))]
    exact h.nob j hj hb
  · rw [upd_ne _ _ (hD (11 + j) (by omega) i hi20 (by omega))] at hs
    rw [upd_ne _ _ (hD (11 + k) (by omega) i hi20 (by omega))]
    exact h.apart j k q hj hk hne hs
  · rw [bUpd_ne _ (by omega)] at hb; exact bUpd_of (h.ord k hk hc hb)
  · rw [bUpd_ne _ (by omega)] at hb; exact bUpd_of (h.ordS j hj hb)

theorem Sta.call (hD : ∀ i, i < 20 → ∀ k, k < 20 → i ≠ k → D i ≠ D k) (h : Sta D w0 A0 A1 t0 t1 PT B b σ r w) (h4 : b 4 = false) (r' : Nat → Tc) (hl : ∀ j, j < 4 → Lies w 0 (PT j) (r' j).cells) :
    Sta D w0 A0 A1 t0 t1 PT B (bUpd b 4) (upd σ (D 4) (ansV r' B)) r' w := by
  have hno : ∀ k, k < 20 → (5 ≤ k ∧ k ≤ 10 ∨ 15 ≤ k) → b k = false := fun k hk hc => by
    cases hb : b k with
    | false => rfl
    | true => rw [h.ord k hk hc hb] at h4; cases h4
  refine ⟨fun k hk => ?_, h.below, fun k hk hp hb => ?_, fun hb => ?_, fun hb => ?_, fun _ => hl, fun j hj hb => ?_, fun j hj hb => ?_, fun j k q hj hk hne hs => ?_, fun k hk hc hb => bUpd_eq _ _, fun j hj hb => ?_⟩
  · rw [upd_ne _ _ (Ne.symm (hk 4 (by omega)))]; exact h.other k hk
  · by_cases he : k = 4
    · subst he; exact upd_eq _ _ _
    · rw [upd_ne _ _ (hD k hk 4 (by omega) he)]
      rw [bUpd_ne _ he] at hb
      have hk9 : ¬ (4 ≤ k ∧ k ≤ 9) := fun hc => by rw [hno k hk (Or.inl ⟨by omega, by omega⟩)] at hb; cases hb
      rw [valP_r (r' := r) hk9]
      exact h.pure k hk hp hb
  · rw [bUpd_ne _ (by omega)] at hb
    obtain ⟨q, hq, hl'⟩ := h.arg0 hb
    exact ⟨q, by rw [upd_ne _ _ (hD 1 (by omega) 4 (by omega) (by omega))]; exact hq, fun h5 => by rw [bUpd_eq] at h5; cases h5⟩
  · rw [bUpd_ne _ (by omega)] at hb
    obtain ⟨q, hq, hl'⟩ := h.arg1 hb
    exact ⟨q, by rw [upd_ne _ _ (hD 3 (by omega) 4 (by omega) (by omega))]; exact hq, fun h5 => by rw [bUpd_eq] at h5; cases h5⟩
  · rw [bUpd_ne _ (by omega)] at hb
    obtain ⟨q, hq, hg, hz, hr⟩ := h.box j hj hb
    refine ⟨q, by rw [upd_ne _ _ (hD (11 + j) (by omega) 4 (by omega) (by omega))]; exact hq, hg, ?_⟩
    rw [bUpd_ne _ (by omega)]
    exact ⟨hz, fun hs => by rw [hno (15 + j) (by omega) (Or.inr (by omega))] at hs; cases hs⟩
  · rw [bUpd_ne _ (by omega)] at hb
    rw [upd_ne _ _ (hD (11 + j) (by omega) 4 (by omega) (by omega))]
    exact h.nob j hj hb
  · rw [upd_ne _ _ (hD (11 + j) (by omega) 4 (by omega) (by omega))] at hs
    rw [upd_ne _ _ (hD (11 + k) (by omega) 4 (by omega) (by omega))]
    exact h.apart j k q hj hk hne hs
  · rw [bUpd_ne _ (by omega)] at hb; exact bUpd_of (h.ordS j hj hb)

theorem Sta.alloc (hD : ∀ i, i < 20 → ∀ k, k < 20 → i ≠ k → D i ≠ D k) (h : Sta D w0 A0 A1 t0 t1 PT B b σ r w) (j0 : Nat) (hj0 : j0 < 4) (hb0 : b (11 + j0) = false) :
    Sta D w0 A0 A1 t0 t1 PT B (bUpd b (11 + j0)) (upd σ (D (11 + j0)) (ptr w.heap.size)) r (w.alloc (.cells #[.int .i64 0, .int .i64 0, .string ByteArray.empty, .slice none 0 0] 28)) := by
  have hs0 : b (15 + j0) = false := by
    cases hs : b (15 + j0) with
    | false => rfl
    | true => rw [h.ordS j0 hj0 hs] at hb0; cases hb0
  have hlt : ∀ j p, j < 4 → σ (D (11 + j)) = some (ptr p) → p < w.heap.size := fun j p hj hs => by
    cases hb : b (11 + j) with
    | false => rw [h.nob j hj hb] at hs; cases hs
    | true =>
      obtain ⟨q, hq, -, hz, hr⟩ := h.box j hj hb
      rw [hq] at hs
      simp only [Option.some.injEq, Value.pointer.injEq, Addr.mk.injEq, and_true] at hs
      subst hs
      cases hb2 : b (15 + j) with
      | false => exact lt_of_heap (hz hb2)
      | true => exact RowT.lt (hr hb2)
  have hw := h.world (ab (w := w) (.cells #[.int .i64 0, .int .i64 0, .string ByteArray.empty, .slice none 0 0] 28))
  have hz0 := ZBox.new w
  have hg0 := h.below.size
  refine ⟨fun k hk => ?_, hw.below, fun k hk hp hb => ?_, fun hb => ?_, fun hb => ?_, fun hb => ?_, fun j hj hb => ?_, fun j hj hb => ?_, fun j k q hj hk hne hs => ?_, fun k hk hc hb => ?_, fun j hj hb => ?_⟩
  · rw [upd_ne _ _ (Ne.symm (hk (11 + j0) (by omega)))]; exact h.other k hk
  · have he : k ≠ 11 + j0 := by rintro rfl; simp [isP] at hp; omega
    rw [upd_ne _ _ (hD k hk (11 + j0) (by omega) he)]; rw [bUpd_ne _ he] at hb; exact h.pure k hk hp hb
  · rw [bUpd_ne _ (by omega)] at hb
    obtain ⟨q, hq, hl'⟩ := hw.arg0 hb
    exact ⟨q, by rw [upd_ne _ _ (hD 1 (by omega) (11 + j0) (by omega) (by omega))]; exact hq, fun h5 => hl' (by rwa [bUpd_ne _ (by omega)] at h5)⟩
  · rw [bUpd_ne _ (by omega)] at hb
    obtain ⟨q, hq, hl'⟩ := hw.arg1 hb
    exact ⟨q, by rw [upd_ne _ _ (hD 3 (by omega) (11 + j0) (by omega) (by omega))]; exact hq, fun h5 => hl' (by rwa [bUpd_ne _ (by omega)] at h5)⟩
  · rw [bUpd_ne _ (by omega)] at hb; exact hw.res hb
  · by_cases he : j = j0
    · subst he
      refine ⟨w.heap.size, upd_eq _ _ _, hg0, fun _ => hz0, fun hs => ?_⟩
      rw [bUpd_ne _ (by omega), hs0] at hs; cases hs
    · rw [bUpd_ne _ (by omega)] at hb
      obtain ⟨q, hq, hg, hz, hr⟩ := hw.box j hj hb
      refine ⟨q, by rw [upd_ne _ _ (hD (11 + j) (by omega) (11 + j0) (by omega) (by omega))]; exact hq, hg, ?_⟩
      rw [bUpd_ne _ (by omega)]
      exact ⟨hz, hr⟩
  · by_cases he : j = j0
    · subst he; rw [bUpd_eq] at hb; cases hb
    · rw [bUpd_ne _ (by omega)] at hb
      rw [upd_ne _ _ (hD (11 + j) (by omega) (11 + j0) (by omega) (by omega))]
      exact h.nob j hj hb
  · by_cases he : j = j0
    · subst he
      rw [upd_eq] at hs
      simp only [Option.some.injEq, Value.pointer.injEq, Addr.mk.injEq, and_true] at hs
      subst hs
      rw [upd_ne _ _ (hD (11 + k) (by omega) (11 + j) (by omega) (by omega))]
      intro hc
      exact Nat.lt_irrefl _ (hlt k _ hk hc)
    · rw [upd_ne _ _ (hD (11 + j) (by omega) (11 + j0) (by omega) (by omega))] at hs
      by_cases he2 : k = j0
      · subst he2
        rw [upd_eq]
        intro hc
        simp only [Option.some.injEq, Value.pointer.injEq, Addr.mk.injEq, and_true] at hc
        have := hlt j q hj hs
        omega
      · rw [upd_ne _ _ (hD (11 + k) (by omega) (11 + j0) (by omega) (by omega))]
        exact h.apart j k q hj hk hne hs
  · rw [bUpd_ne _ (by omega)] at hb; exact bUpd_of (h.ord k hk hc hb)
  · rw [bUpd_ne _ (by omega)] at hb; exact bUpd_of (h.ordS j hj hb)

theorem Sta.store (h : Sta D w0 A0 A1 t0 t1 PT B b σ r w) (hk : ∀ j, j < 4 → KidsOk (PT j)) (j0 : Nat) (hj0 : j0 < 4) (h4 : b 4 = true) (h11 : b (11 + j0) = true) (hs0 : b (15 + j0) = false) (p : Nat) (hp : σ (D (11 + j0)) = some (ptr p)) :
    ZBox w p ∧ Sta D w0 A0 A1 t0 t1 PT B (bUpd b (15 + j0)) σ r (fillT w p (r j0)) := by
  obtain ⟨p', hp', hg, hz, -⟩ := h.box j0 hj0 h11
  rw [hp'] at hp
  simp only [Option.some.injEq, Value.pointer.injEq, Addr.mk.injEq, and_true] at hp
  subst hp
  have hz1 := hz hs0
  clear hz
  refine ⟨hz1, h.other, set4_below h.below hg, fun k hk hp hb => ?_, fun hb => ?_, fun hb => ?_, fun hb j hj => ?_, fun j hj hb => ?_, fun j hj hb => ?_, h.apart, fun k hk hc hb => bUpd_of h4, fun j hj hb => ?_⟩
  · have he : k ≠ 15 + j0 := by rintro rfl; simp [isP] at hp; omega
    rw [bUpd_ne _ he] at hb; exact h.pure k hk hp hb
  · rw [bUpd_ne _ (by omega)] at hb
    obtain ⟨q, hq, -⟩ := h.arg0 hb
    exact ⟨q, hq, fun h5 => by rw [bUpd_of h4] at h5; cases h5⟩
  · rw [bUpd_ne _ (by omega)] at hb
    obtain ⟨q, hq, -⟩ := h.arg1 hb
    exact ⟨q, hq, fun h5 => by rw [bUpd_of h4] at h5; cases h5⟩
  · exact Lies.apartK hz1 (fun b _ hne => World.cell?_of_block (set4_heap _ _ _ _ _ _ b hne)) _ _ (hk j hj) (h.res h4 j hj)
  · rw [bUpd_ne _ (by omega)] at hb
    obtain ⟨q, hq, hg2, hz2, hr2⟩ := h.box j hj hb
    by_cases he : j = j0
    · subst he
      rw [hp'] at hq
      simp only [Option.some.injEq, Value.pointer.injEq, Addr.mk.injEq, and_true] at hq
      subst hq
      exact ⟨_, hp', hg, (fun hs => by rw [bUpd_eq] at hs; cases hs), fun _ => fill26 hz1 _ _ _ _ _ _⟩
    · have hne : q ≠ p' := by
        rintro rfl
        exact h.apart j j0 q hj hj0 he hq hp'
      refine ⟨q, hq, hg2, fun hs => ?_, fun hs => ?_⟩
      · rw [bUpd_ne _ (by omega)] at hs
        exact (set4_heap _ _ _ _ _ _ q hne).trans (hz2 hs)
      · rw [bUpd_ne _ (by omega)] at hs
        exact RowT.other (hr2 hs) hne
  · rw [bUpd_ne _ (by omega)] at hb
    exact h.nob j hj hb
  · by_cases he : j = j0
    · subst he; exact bUpd_of h11
    · rw [bUpd_ne _ (by omega)] at hb; exact bUpd_of (h.ordS j hj hb)
end

def L20 (b : Nat → Bool) : Array Bool := #[b 0, b 1, b 2, b 3, b 4, b 5, b 6, b 7, b 8, b 9, b 10, b 11, b 12, b 13, b 14, b 15, b 16, b 17, b 18, b 19]
def cnt20 (b : Nat → Bool) : Nat := cond (b 0) 0 1 + cond (b 1) 0 1 + cond (b 2) 0 1 + cond (b 3) 0 1 + cond (b 4) 0 1 + cond (b 5) 0 1 + cond (b 6) 0 1 + cond (b 7) 0 1 + cond (b 8) 0 1 + cond (b 9) 0 1 + cond (b 10) 0 1 + cond (b 11) 0 1 + cond (b 12) 0 1 + cond (b 13) 0 1 + cond (b 14) 0 1 + cond (b 15) 0 1 + cond (b 16) 0 1 + cond (b 17) 0 1 + cond (b 18) 0 1 + cond (b 19) 0 1
theorem cnt20_zero {b : Nat → Bool} (h : cnt20 b = 0) : ∀ i, i < 20 → b i = true := by
  have key : ∀ x : Bool, cond x 0 1 = 0 → x = true := by decide
  intro i hi
  unfold cnt20 at h
  obtain rfl | rfl | rfl | rfl | rfl | rfl | rfl | rfl | rfl | rfl | rfl | rfl | rfl | rfl | rfl | rfl | rfl | rfl | rfl | rfl : i = 0 ∨ i = 1 ∨ i = 2 ∨ i = 3 ∨ i = 4 ∨ i = 5 ∨ i = 6 ∨ i = 7 ∨ i = 8 ∨ i = 9 ∨ i = 10 ∨ i = 11 ∨ i = 12 ∨ i = 13 ∨ i = 14 ∨ i = 15 ∨ i = 16 ∨ i = 17 ∨ i = 18 ∨ i = 19 := by omega
  all_goals exact key _ (by omega)
theorem cnt20_upd {b : Nat → Bool} {i : Nat} (hi : i < 20) (hb : b i = false) : cnt20 (bUpd b i) + 1 = cnt20 b := by
  obtain rfl | rfl | rfl | rfl | rfl | rfl | rfl | rfl | rfl | rfl | rfl | rfl | rfl | rfl | rfl | rfl | rfl | rfl | rfl | rfl : i = 0 ∨ i = 1 ∨ i = 2 ∨ i = 3 ∨ i = 4 ∨ i = 5 ∨ i = 6 ∨ i = 7 ∨ i = 8 ∨ i = 9 ∨ i = 10 ∨ i = 11 ∨ i = 12 ∨ i = 13 ∨ i = 14 ∨ i = 15 ∨ i = 16 ∨ i = 17 ∨ i = 18 ∨ i = 19 := by omega
  all_goals
    simp [cnt20, bUpd, hb]
    try omega

def opsSp : Array Oper := #[{ dst := some 37, op := Go.Op.load 24 (Go.Operand.tmp 2), type := 24, pos := "exact.go:3263", after := #[], guard := none }, { dst := some 38, op := Go.Op.call { callee := Go.Callee.value (Go.Operand.func 6), args := #[Go.Operand.tmp 37], argTypes := #[24] }, type := 28, pos := "exact.go:3263", after := #[{ on := 0, ground := Go.Ground.data }], guard := none }, { dst := some 39, op := Go.Op.load 24 (Go.Operand.tmp 3), type := 24, pos := "exact.go:3263", after := #[], guard := none }, { dst := some 40, op := Go.Op.call { callee := Go.Callee.value (Go.Operand.func 6), args := #[Go.Operand.tmp 39], argTypes := #[24] }, type := 28, pos := "exact.go:3263", after := #[{ on := 2, ground := Go.Ground.data }, { on := 1, ground := Go.Ground.chain }], guard := none }, { dst := some 41, op := Go.Op.call { callee := Go.Callee.value (Go.Operand.func 5), args := #[Go.Operand.tmp 38, Go.Operand.tmp 40], argTypes := #[28, 28] }, type := 29, pos := "exact.go:3263", after := #[{ on := 1, ground := Go.Ground.data }, { on := 3, ground := Go.Ground.data }, { on := 3, ground := Go.Ground.chain }], guard := none }, { dst := some 36, op := Go.Op.move (Go.Operand.tmp 41), type := 29, pos := "exact.go:3263", after := #[{ on := 4, ground := Go.Ground.data }], guard := none }, { dst := some 42, op := Go.Op.extract (Go.Operand.tmp 36) 0, type := 28, pos := "exact.go:3263", after := #[{ on := 5, ground := Go.Ground.data }], guard := none }, { dst := some 43, op := Go.Op.extract (Go.Operand.tmp 36) 1, type := 28, pos := "exact.go:3263", after := #[{ on := 5, ground := Go.Ground.data }, { on := 15, ground := Go.Ground.gcOnly Go.Departure.lateStores }], guard := none }, { dst := some 44, op := Go.Op.extract (Go.Operand.tmp 36) 2, type := 28, pos := "exact.go:3263", after := #[{ on := 5, ground := Go.Ground.data }, { on := 16, ground := Go.Ground.gcOnly Go.Departure.lateStores }], guard := none }, { dst := some 45, op := Go.Op.extract (Go.Operand.tmp 36) 3, type := 28, pos := "exact.go:3263", after := #[{ on := 5, ground := Go.Ground.data }, { on := 17, ground := Go.Ground.gcOnly Go.Departure.lateStores }], guard := none }, { dst := some 46, op := Go.Op.extract (Go.Operand.tmp 36) 4, type := 4, pos := "exact.go:3263", after := #[{ on := 5, ground := Go.Ground.data }, { on := 18, ground := Go.Ground.gcOnly Go.Departure.lateStores }], guard := none }, { dst := some 6, op := Go.Op.alloc 28, type := 0, pos := "exact.go:3263", after := #[], guard := none }, { dst := some 7, op := Go.Op.alloc 28, type := 0, pos := "exact.go:3263", after := #[], guard := none }, { dst := some 8, op := Go.Op.alloc 28, type := 0, pos := "exact.go:3263", after := #[], guard := none }, { dst := some 9, op := Go.Op.alloc 28, type := 0, pos := "exact.go:3263", after := #[], guard := none }, { dst := none, op := Go.Op.store 28 (Go.Operand.tmp 6) (Go.Operand.tmp 42), type := 0, pos := "exact.go:3263", after := #[{ on := 11, ground := Go.Ground.data }, { on := 6, ground := Go.Ground.data }, { on := 4, ground := Go.Ground.chain }, { on := 0, ground := Go.Ground.phase }, { on := 1, ground := Go.Ground.phase }, { on := 2, ground := Go.Ground.phase }, { on := 3, ground := Go.Ground.phase }, { on := 4, ground := Go.Ground.phase }, { on := 5, ground := Go.Ground.phase }, { on := 6, ground := Go.Ground.phase }, { on := 7, ground := Go.Ground.textOnly Go.Departure.lateStores }, { on := 8, ground := Go.Ground.textOnly Go.Departure.lateStores }, { on := 9, ground := Go.Ground.textOnly Go.Departure.lateStores }, { on := 10, ground := Go.Ground.textOnly Go.Departure.lateStores }, { on := 11, ground := Go.Ground.phase }, { on := 12, ground := Go.Ground.phase }, { on := 13, ground := Go.Ground.phase }, { on := 14, ground := Go.Ground.phase }], guard := none }, { dst := none, op := Go.Op.store 28 (Go.Operand.tmp 7) (Go.Operand.tmp 43), type := 0, pos := "exact.go:3263", after := #[{ on := 12, ground := Go.Ground.data }, { on := 7, ground := Go.Ground.data }, { on := 15, ground := Go.Ground.chain }, { on := 0, ground := Go.Ground.phase }, { on := 1, ground := Go.Ground.phase }, { on := 2, ground := Go.Ground.phase }, { on := 3, ground := Go.Ground.phase }, { on := 4, ground := Go.Ground.phase }, { on := 5, ground := Go.Ground.phase }, { on := 6, ground := Go.Ground.phase }, { on := 7, ground := Go.Ground.phase }, { on := 8, ground := Go.Ground.textOnly Go.Departure.lateStores }, { on := 9, ground := Go.Ground.textOnly Go.Departure.lateStores }, { on := 10, ground := Go.Ground.textOnly Go.Departure.lateStores }, { on := 11, ground := Go.Ground.phase }, { on := 12, ground := Go.Ground.phase }, { on := 13, ground := Go.Ground.phase }, { on := 14, ground := Go.Ground.phase }, { on := 15, ground := Go.Ground.phase }], guard := none }, { dst := none, op := Go.Op.store 28 (Go.Operand.tmp 8) (Go.Operand.tmp 44), type := 0, pos := "exact.go:3263", after := #[{ on := 13, ground := Go.Ground.data }, { on := 8, ground := Go.Ground.data }, { on := 16, ground := Go.Ground.chain }, { on := 0, ground := Go.Ground.phase }, { on := 1, ground := Go.Ground.phase }, { on := 2, ground := Go.Ground.phase }, { on := 3, ground := Go.Ground.phase }, { on := 4, ground := Go.Ground.phase }, { on := 5, ground := Go.Ground.phase }, { on := 6, ground := Go.Ground.phase }, { on := 7, ground := Go.Ground.phase }, { on := 8, ground := Go.Ground.phase }, { on := 9, ground := Go.Ground.textOnly Go.Departure.lateStores }, { on := 10, ground := Go.Ground.textOnly Go.Departure.lateStores }, { on := 11, ground := Go.Ground.phase }, { on := 12, ground := Go.Ground.phase }, { on := 13, ground := Go.Ground.phase }, { on := 14, ground := Go.Ground.phase }, { on := 15, ground := Go.Ground.phase }, { on := 16, ground := Go.Ground.phase }], guard := none }, { dst := none, op := Go.Op.store 28 (Go.Operand.tmp 9) (Go.Operand.tmp 45), type := 0, pos := "exact.go:3263", after := #[{ on := 14, ground := Go.Ground.data }, { on := 9, ground := Go.Ground.data }, { on := 17, ground := Go.Ground.chain }, { on := 0, ground := Go.Ground.phase }, { on := 1, ground := Go.Ground.phase }, { on := 2, ground := Go.Ground.phase }, { on := 3, ground := Go.Ground.phase }, { on := 4, ground := Go.Ground.phase }, { on := 5, ground := Go.Ground.phase }, { on := 6, ground := Go.Ground.phase }, { on := 7, ground := Go.Ground.phase }, { on := 8, ground := Go.Ground.phase }, { on := 9, ground := Go.Ground.phase }, { on := 10, ground := Go.Ground.textOnly Go.Departure.lateStores }, { on := 11, ground := Go.Ground.phase }, { on := 12, ground := Go.Ground.phase }, { on := 13, ground := Go.Ground.phase }, { on := 14, ground := Go.Ground.phase }, { on := 15, ground := Go.Ground.phase }, { on := 16, ground := Go.Ground.phase }, { on := 17, ground := Go.Ground.phase }], guard := none }, { dst := some 10, op := Go.Op.assign (Go.Operand.tmp 46), type := 4, pos := "exact.go:3263", after := #[{ on := 10, ground := Go.Ground.data }, { on := 18, ground := Go.Ground.chain }, { on := 0, ground := Go.Ground.phase }, { on := 1, ground := Go.Ground.phase }, { on := 2, ground := Go.Ground.phase }, { on := 3, ground := Go.Ground.phase }, { on := 4, ground := Go.Ground.phase }, { on := 5, ground := Go.Ground.phase }, { on := 6, ground := Go.Ground.phase }, { on := 7, ground := Go.Ground.phase }, { on := 8, ground := Go.Ground.phase }, { on := 9, ground := Go.Ground.phase }, { on := 10, ground := Go.Ground.phase }, { on := 11, ground := Go.Ground.phase }, { on := 12, ground := Go.Ground.phase }, { on := 13, ground := Go.Ground.phase }, { on := 14, ground := Go.Ground.phase }, { on := 15, ground := Go.Ground.phase }, { on := 16, ground := Go.Ground.phase }, { on := 17, ground := Go.Ground.phase }, { on := 18, ground := Go.Ground.phase }], guard := none }]
def dstSp : Nat → Nat
  | 0 => 37 | 1 => 38 | 2 => 39 | 3 => 40 | 4 => 41 | 5 => 36 | 6 => 42 | 7 => 43 | 8 => 44 | 9 => 45 | 10 => 46 | 11 => 6 | 12 => 7 | 13 => 8 | 14 => 9 | 19 => 10 | n => 1000 + n
theorem injSp : ∀ i, i < 20 → ∀ k, k < 20 → i ≠ k → dstSp i ≠ dstSp k := by decide
theorem argSp : ∀ i, (i < 15 ∨ i = 19) → dstSp i ≠ 2 ∧ dstSp i ≠ 3 := by
  intro i hi
  obtain rfl | rfl | rfl | rfl | rfl | rfl | rfl | rfl | rfl | rfl | rfl | rfl | rfl | rfl | rfl | rfl : i = 0 ∨ i = 1 ∨ i = 2 ∨ i = 3 ∨ i = 4 ∨ i = 5 ∨ i = 6 ∨ i = 7 ∨ i = 8 ∨ i = 9 ∨ i = 10 ∨ i = 11 ∨ i = 12 ∨ i = 13 ∨ i = 14 ∨ i = 19 := by omega
  all_goals simp [dstSp]
theorem upSp {b : Nat → Bool} {i : Nat} (hi : i ∈ Region.ready .any opsSp (L20 b)) (ons : List Nat) (ho : (opsSp[i]?).map (fun o => (o.after.toList.filter (Region.binds .any)).map (·.on)) = some ons) :
    (L20 b).getD i true = false ∧ ∀ k ∈ ons, (L20 b).getD k false = true := by
  obtain ⟨h0, o', ho', ha⟩ := mem_ready.1 hi
  rw [ho'] at ho
  cases ho
  refine ⟨h0, fun k hk => ?_⟩
  obtain ⟨e, he, rfl⟩ := List.mem_map.1 hk
  obtain ⟨h1, h2⟩ := List.mem_filter.1 he
  exact ha e (Array.mem_toList_iff.1 h1) h2
theorem ltSp {b : Nat → Bool} {i : Nat} (hi : i ∈ Region.ready .any opsSp (L20 b)) : i < 20 := by
  obtain ⟨_, o, ho, _⟩ := mem_ready.1 hi
  exact (Array.getElem?_eq_some_iff.1 ho).1
theorem doneSp (b : Nat → Bool) (h : Region.ready .any opsSp (L20 b) = []) : ∀ i, i < 20 → b i = true := by
  have key : ∀ i (ons : List Nat), (opsSp[i]?).map (fun o => (o.after.toList.filter (Region.binds .any)).map (·.on)) = some ons → (∀ k ∈ ons, (L20 b).getD k false = true) → (L20 b).getD i true = true := by
    intro i ons ho ha
    cases hc : (L20 b).getD i true with
    | true => rfl
    | false =>
      obtain ⟨o, h1, h2⟩ := Option.map_eq_some_iff.1 ho
      have : i ∈ Region.ready .any opsSp (L20 b) := mem_ready.2 ⟨hc, o, h1, fun e he hbn => ha e.on (by rw [← h2]; exact List.mem_map.2 ⟨e, List.mem_filter.2 ⟨Array.mem_toList_iff.2 he, hbn⟩, rfl⟩)⟩
      rw [h] at this
      cases this
  have r0 : b 0 = true := key 0 [] rfl (by intro k hk; cases hk)
  have r2 : b 2 = true := key 2 [] rfl (by intro k hk; cases hk)
  have r11 : b 11 = true := key 11 [] rfl (by intro k hk; cases hk)
  have r12 : b 12 = true := key 12 [] rfl (by intro k hk; cases hk)
  have r13 : b 13 = true := key 13 [] rfl (by intro k hk; cases hk)
  have r14 : b 14 = true := key 14 [] rfl (by intro k hk; cases hk)
  have r1 : b 1 = true := key 1 [0] rfl (by intro k hk; simp only [List.mem_cons, List.not_mem_nil, or_false] at hk; rcases hk with rfl <;> assumption)
  have r3 : b 3 = true := key 3 [2, 1] rfl (by intro k hk; simp only [List.mem_cons, List.not_mem_nil, or_false] at hk; rcases hk with rfl | rfl <;> assumption)
  have r4 : b 4 = true := key 4 [1, 3, 3] rfl (by intro k hk; simp only [List.mem_cons, List.not_mem_nil, or_false] at hk; rcases hk with rfl | rfl | rfl <;> assumption)
  have r5 : b 5 = true := key 5 [4] rfl (by intro k hk; simp only [List.mem_cons, List.not_mem_nil, or_false] at hk; rcases hk with rfl <;> assumption)
  have r6 : b 6 = true := key 6 [5] rfl (by intro k hk; simp only [List.mem_cons, List.not_mem_nil, or_false] at hk; rcases hk with rfl <;> assumption)
  have r7 : b 7 = true := key 7 [5] rfl (by intro k hk; simp only [List.mem_cons, List.not_mem_nil, or_false] at hk; rcases hk with rfl <;> assumption)
  have r8 : b 8 = true := key 8 [5] rfl (by intro k hk; simp only [List.mem_cons, List.not_mem_nil, or_false] at hk; rcases hk with rfl <;> assumption)
  have r9 : b 9 = true := key 9 [5] rfl (by intro k hk; simp only [List.mem_cons, List.not_mem_nil, or_false] at hk; rcases hk with rfl <;> assumption)
  have r10 : b 10 = true := key 10 [5] rfl (by intro k hk; simp only [List.mem_cons, List.not_mem_nil, or_false] at hk; rcases hk with rfl <;> assumption)
  have r15 : b 15 = true := key 15 [11, 6, 4, 0, 1, 2, 3, 4, 5, 6, 11, 12, 13, 14] rfl (by intro k hk; simp only [List.mem_cons, List.not_mem_nil, or_false] at hk; rcases hk with rfl | rfl | rfl | rfl | rfl | rfl | rfl | rfl | rfl | rfl | rfl | rfl | rfl | rfl <;> assumption)
  have r16 : b 16 = true := key 16 [12, 7, 15, 0, 1, 2, 3, 4, 5, 6, 7, 11, 12, 13, 14, 15] rfl (by intro k hk; simp only [List.mem_cons, List.not_mem_nil, or_false] at hk; rcases hk with rfl | rfl | rfl | rfl | rfl | rfl | rfl | rfl | rfl | rfl | rfl | rfl | rfl | rfl | rfl | rfl <;> assumption)
  have r17 : b 17 = true := key 17 [13, 8, 16, 0, 1, 2, 3, 4, 5, 6, 7, 8, 11, 12, 13, 14, 15, 16] rfl (by intro k hk; simp only [List.mem_cons, List.not_mem_nil, or_false] at hk; rcases hk with rfl | rfl | rfl | rfl | rfl | rfl | rfl | rfl | rfl | rfl | rfl | rfl | rfl | rfl | rfl | rfl | rfl | rfl <;> assumption)
  have r18 : b 18 = true := key 18 [14, 9, 17, 0, 1, 2, 3, 4, 5, 6, 7, 8, 9, 11, 12, 13, 14, 15, 16, 17] rfl (by intro k hk; simp only [List.mem_cons, List.not_mem_nil, or_false] at hk; rcases hk with rfl | rfl | rfl | rfl | rfl | rfl | rfl | rfl | rfl | rfl | rfl | rfl | rfl | rfl | rfl | rfl | rfl | rfl | rfl | rfl <;> assumption)
  have r19 : b 19 = true := key 19 [10, 18, 0, 1, 2, 3, 4, 5, 6, 7, 8, 9, 10, 11, 12, 13, 14, 15, 16, 17, 18] rfl (by intro k hk; simp only [List.mem_cons, List.not_mem_nil, or_false] at hk; rcases hk with rfl | rfl | rfl | rfl | rfl | rfl | rfl | rfl | rfl | rfl | rfl | rfl | rfl | rfl | rfl | rfl | rfl | rfl | rfl | rfl | rfl <;> assumption)
  intro i hi
  obtain rfl | rfl | rfl | rfl | rfl | rfl | rfl | rfl | rfl | rfl | rfl | rfl | rfl | rfl | rfl | rfl | rfl | rfl | rfl | rfl : i = 0 ∨ i = 1 ∨ i = 2 ∨ i = 3 ∨ i = 4 ∨ i = 5 ∨ i = 6 ∨ i = 7 ∨ i = 8 ∨ i = 9 ∨ i = 10 ∨ i = 11 ∨ i = 12 ∨ i = 13 ∨ i = 14 ∨ i = 15 ∨ i = 16 ∨ i = 17 ∨ i = 18 ∨ i = 19 := by omega
  all_goals assumption
theorem frameSp (a0 : Act) (σ : Nat → Option Value) (v0 v1 v2 v3 v4 v5 v6 v7 v8 v9 v10 v11 v12 v13 v14 v19 : Value) (hoth : ∀ k, (∀ i, (i < 15 ∨ i = 19) → dstSp i ≠ k) → σ k = none)
    (x0 : σ 37 = some v0) (x1 : σ 38 = some v1) (x2 : σ 39 = some v2) (x3 : σ 40 = some v3) (x4 : σ 41 = some v4) (x5 : σ 36 = some v5) (x6 : σ 42 = some v6) (x7 : σ 43 = some v7) (x8 : σ 44 = some v8) (x9 : σ 45 = some v9) (x10 : σ 46 = some v10) (x11 : σ 6 = some v11) (x12 : σ 7 = some v12) (x13 : σ 8 = some v13) (x14 : σ 9 = some v14) (x19 : σ 10 = some v19) :
    ov a0 σ = ((((((((((((((((a0.put (some 37) v0).put (some 38) v1).put (some 39) v2).put (some 40) v3).put (some 41) v4).put (some 36) v5).put (some 42) v6).put (some 43) v7).put (some 44) v8).put (some 45) v9).put (some 46) v10).put (some 6) v11).put (some 7) v12).put (some 8) v13).put (some 9) v14).put (some 10) v19) := by
  have h : σ = (upd (upd (upd (upd (upd (upd (upd (upd (upd (upd (upd (upd (upd (upd (upd (upd (fun _ => none) 37 v0) 38 v1) 39 v2) 40 v3) 41 v4) 36 v5) 42 v6) 43 v7) 44 v8) 45 v9) 46 v10) 6 v11) 7 v12) 8 v13) 9 v14) 10 v19) := by
    funext k
    by_cases h0 : k = 37
    · subst h0; simp [upd, x0]
    by_cases h1 : k = 38
    · subst h1; simp [upd, x1]
    by_cases h2 : k = 39
    · subst h2; simp [upd, x2]
    by_cases h3 : k = 40
    · subst h3; simp [upd, x3]
    by_cases h4 : k = 41
    · subst h4; simp [upd, x4]
    by_cases h5 : k = 36
    · subst h5; simp [upd, x5]
    by_cases h6 : k = 42
    · subst h6; simp [upd, x6]
    by_cases h7 : k = 43
    · subst h7; simp [upd, x7]
    by_cases h8 : k = 44
    · subst h8; simp [upd, x8]
    by_cases h9 : k = 45
    · subst h9; simp [upd, x9]
    by_cases h10 : k = 46
    · subst h10; simp [upd, x10]
    by_cases h11 : k = 6
    · subst h11; simp [upd, x11]
    by_cases h12 : k = 7
    · subst h12; simp [upd, x12]
    by_cases h13 : k = 8
    · subst h13; simp [upd, x13]
    by_cases h14 : k = 9
    · subst h14; simp [upd, x14]
    by_cases h19 : k = 10
    · subst h19; simp [upd, x19]
    rw [hoth k (fun i hi => ?_)]
    · simp [upd, h0, h1, h2, h3, h4, h5, h6, h7, h8, h9, h10, h11, h12, h13, h14, h19]
    · obtain rfl | rfl | rfl | rfl | rfl | rfl | rfl | rfl | rfl | rfl | rfl | rfl | rfl | rfl | rfl | rfl : i = 0 ∨ i = 1 ∨ i = 2 ∨ i = 3 ∨ i = 4 ∨ i = 5 ∨ i = 6 ∨ i = 7 ∨ i = 8 ∨ i = 9 ∨ i = 10 ∨ i = 11 ∨ i = 12 ∨ i = 13 ∨ i = 14 ∨ i = 19 := by omega
      all_goals (simp only [dstSp]; omega)
  rw [h]
  simp only [← ov_put, ov_none]

set_option maxRecDepth 10000 in
set_option maxHeartbeats 1000000 in
theorem rowsSp {Q : Exit → Act → World → Prop} (a0 : Act) (w0 : World) (hsz : a0.tmps.size = 230) (ga gb : Nat) (op0 n0 op1 n1 : Int) (s0 s1 : ByteArray) (a1 a2 : Option Addr) (len0 cap0 len1 cap1 : Nat) (t0 t1 : Tm) (PT : Nat → Tm) (B : Bool)
    (e0 : a0.eval (.tmp 2) = ptr ga) (e1 : a0.eval (.tmp 3) = ptr gb) (r0 : RowT 24 w0 ga op0 n0 s0 a1 len0 cap0) (r1 : RowT 24 w0 gb op1 n1 s1 a2 len1 cap1) (hK : ∀ j, j < 4 → KidsOk (PT j))
    (hT0 : ∀ V, Below w0.heap.size w0 V → Calls Tryz.prog 6 #[.agg #[.int .i64 op0, .int .i64 n0, .string s0, .slice a1 len0 cap0]] V fun e w' => ∃ p : Tc, e = .returned p.agg ∧ Lies w' 0 t0 p.cells ∧ Below V.heap.size V w')
    (hT1 : ∀ V, Below w0.heap.size w0 V → Calls Tryz.prog 6 #[.agg #[.int .i64 op1, .int .i64 n1, .string s1, .slice a2 len1 cap1]] V fun e w' => ∃ p : Tc, e = .returned p.agg ∧ Lies w' 0 t1 p.cells ∧ Below V.heap.size V w')
    (hF : ∀ (p q : Tc) V, Below w0.heap.size w0 V → Lies V 0 t0 p.cells → Lies V 0 t1 q.cells → Calls Tryz.prog 5 #[p.agg, q.agg] V fun e w' => ∃ r : Nat → Tc, e = .returned (ansV r B) ∧ (∀ j, j < 4 → Lies w' 0 (PT j) (r j).cells) ∧ Below V.heap.size V w')
    (hfin : ∀ (p0 p1 p2 p3 : Nat) (q0 q1 : Tc) (r : Nat → Tc) (y : World), Rw y p0 (r 0) → Rw y p1 (r 1) → Rw y p2 (r 2) → Rw y p3 (r 3) → (∀ j, j < 4 → Lies y 0 (PT j) (r j).cells) → Below w0.heap.size w0 y →
      Q .normal ((((((((((((((((a0.put (some 37) (.agg #[.int .i64 op0, .int .i64 n0, .string s0, .slice a1 len0 cap0])).put (some 38) (q0.agg)).put (some 39) (.agg #[.int .i64 op1, .int .i64 n1, .string s1, .slice a2 len1 cap1])).put (some 40) (q1.agg)).put (some 41) (ansV r B)).put (some 36) (ansV r B)).put (some 42) ((r 0).agg)).put (some 43) ((r 1).agg)).put (some 44) ((r 2).agg)).put (some 45) ((r 3).agg)).put (some 46) (.bool B)).put (some 6) (ptr p0)).put (some 7) (ptr p1)).put (some 8) (ptr p2)).put (some 9) (ptr p3)).put (some 10) (.bool B)) y) :
    wpAny Tryz.prog .any opsSp Q 20 (L20 fun _ => false) a0 w0 := by
  generalize hA0 : Value.agg #[.int .i64 op0, .int .i64 n0, .string s0, .slice a1 len0 cap0] = A0 at *
  generalize hA1 : Value.agg #[.int .i64 op1, .int .i64 n1, .string s1, .slice a2 len1 cap1] = A1 at *
  refine wpAny_inv (P := Tryz.prog) (md := .any) (ops := opsSp) (Q := Q) (fun n l a w => ∃ b σ r, l = L20 b ∧ a = ov a0 σ ∧ Sta dstSp w0 A0 A1 t0 t1 PT B b σ r w ∧ cnt20 b ≤ n) ?_ 20 _ _ _ ⟨fun _ => false, fun _ => none, fun _ => ⟨0, 0, ByteArray.empty, none, 0, 0⟩, rfl, (ov_none a0).symm, Sta.start _ _ _ _ _ _ _ _ _, by decide⟩
  rintro n l a w ⟨b, σ, r, rfl, rfl, hS, hn⟩
  have ev : ∀ (d : Nat) v, d < 230 → σ d = some v → (ov a0 σ).eval (.tmp d) = v := fun d v hd h => ov_new h (by omega)
  by_cases hall : ∀ i, i < 20 → b i = true
  · left
    have hl : L20 b = L20 fun _ => true := by
      unfold L20
      rw [hall 0 (by omega), hall 1 (by omega), hall 2 (by omega), hall 3 (by omega), hall 4 (by omega), hall 5 (by omega), hall 6 (by omega), hall 7 (by omega), hall 8 (by omega), hall 9 (by omega), hall 10 (by omega), hall 11 (by omega), hall 12 (by omega), hall 13 (by omega), hall 14 (by omega), hall 15 (by omega), hall 16 (by omega), hall 17 (by omega), hall 18 (by omega), hall 19 (by omega)]
    rw [hl]
    refine wpAny_done (by kernel_rfl) ?_ _
    obtain ⟨q0, x1, -⟩ := hS.arg0 (hall 1 (by omega))
    obtain ⟨q1, x3, -⟩ := hS.arg1 (hall 3 (by omega))
    obtain ⟨p0, x11, -, -, R0⟩ := hS.box 0 (by omega) (hall 11 (by omega))
    obtain ⟨p1, x12, -, -, R1⟩ := hS.box 1 (by omega) (hall 12 (by omega))
    obtain ⟨p2, x13, -, -, R2⟩ := hS.box 2 (by omega) (hall 13 (by omega))
    obtain ⟨p3, x14, -, -, R3⟩ := hS.box 3 (by omega) (hall 14 (by omega))
    have x0 := hS.pure 0 (by omega) rfl (hall 0 (by omega))
    have x2 := hS.pure 2 (by omega) rfl (hall 2 (by omega))
    have x4 := hS.pure 4 (by omega) rfl (hall 4 (by omega))
    have x5 := hS.pure 5 (by omega) rfl (hall 5 (by omega))
    have x6 := hS.pure 6 (by omega) rfl (hall 6 (by omega))
    have x7 := hS.pure 7 (by omega) rfl (hall 7 (by omega))
    have x8 := hS.pure 8 (by omega) rfl (hall 8 (by omega))
    have x9 := hS.pure 9 (by omega) rfl (hall 9 (by omega))
    have x10 := hS.pure 10 (by omega) rfl (hall 10 (by omega))
    have x19 := hS.pure 19 (by omega) rfl (hall 19 (by omega))
    rw [frameSp a0 σ _ _ _ _ _ _ _ _ _ _ _ _ _ _ _ _ hS.other x0 x1 x2 x3 x4 x5 x6 x7 x8 x9 x10 x11 x12 x13 x14 x19]
    exact hfin p0 p1 p2 p3 q0 q1 r w (R0 (hall 15 (by omega))) (R1 (hall 16 (by omega))) (R2 (hall 17 (by omega))) (R3 (hall 18 (by omega))) (hS.res (hall 4 (by omega))) hS.below
  right
  obtain ⟨m, rfl⟩ : ∃ m, n = m + 1 := by
    cases n with
    | zero => exact absurd (cnt20_zero (Nat.le_zero.1 hn)) hall
    | succ m => exact ⟨m, rfl⟩
  refine ⟨m, rfl, fun h => hall (doneSp b h), fun i hi => ?_⟩
  have hlt := ltSp hi
  have hcn : ∀ i, i < 20 → b i = false → cnt20 (bUpd b i) ≤ m := fun i hi hb => by have := cnt20_upd hi hb; omega
  have hbl := hS.below
  obtain rfl | rfl | rfl | rfl | rfl | rfl | rfl | rfl | rfl | rfl | rfl | rfl | rfl | rfl | rfl | rfl | rfl | rfl | rfl | rfl : i = 0 ∨ i = 1 ∨ i = 2 ∨ i = 3 ∨ i = 4 ∨ i = 5 ∨ i = 6 ∨ i = 7 ∨ i = 8 ∨ i = 9 ∨ i = 10 ∨ i = 11 ∨ i = 12 ∨ i = 13 ∨ i = 14 ∨ i = 15 ∨ i = 16 ∨ i = 17 ∨ i = 18 ∨ i = 19 := by omega
  · obtain ⟨f, g⟩ := upSp hi [] rfl
    have f : b 0 = false := f
    refine step_load rfl ((ov_old (hS.other 2 (fun i hi => (argSp i hi).1))).trans e0) (r0.below hbl) ?_
    rw [hA0]
    exact ⟨bUpd b 0, _, _, rfl, ov_put .., hS.put injSp 0 (by omega) rfl (by omega) (by omega), hcn 0 (by omega) f⟩
  · obtain ⟨f, g⟩ := upSp hi [0] rfl
    have f : b 1 = false := f
    have g0 : b 0 = true := g 0 (by simp)
    refine step_call rfl Tryz.func6 (by kernel_rfl) (by kernel_rfl) ?_
    simp only [List.map_toArray, List.map_cons, List.map_nil]
    rw [ev 37 A0 (by omega) (hS.pure 0 (by omega) rfl g0)]
    refine (hT0 w hbl).mono ?_
    rintro e w' ⟨p, rfl, hp, hb⟩
    exact ⟨_, rfl, ⟨bUpd b 1, _, _, rfl, ov_put .., (hS.world hb).argS injSp 1 (by omega) p (by simpa using hp), hcn 1 (by omega) f⟩⟩
  · obtain ⟨f, g⟩ := upSp hi [] rfl
    have f : b 2 = false := f
    refine step_load rfl ((ov_old (hS.other 3 (fun i hi => (argSp i hi).2))).trans e1) (r1.below hbl) ?_
    rw [hA1]
    exact ⟨bUpd b 2, _, _, rfl, ov_put .., hS.put injSp 2 (by omega) rfl (by omega) (by omega), hcn 2 (by omega) f⟩
  · obtain ⟨f, g⟩ := upSp hi [2, 1] rfl
    have f : b 3 = false := f
    have g2 : b 2 = true := g 2 (by simp)
    refine step_call rfl Tryz.func6 (by kernel_rfl) (by kernel_rfl) ?_
    simp only [List.map_toArray, List.map_cons, List.map_nil]
    rw [ev 39 A1 (by omega) (hS.pure 2 (by omega) rfl g2)]
    refine (hT1 w hbl).mono ?_
    rintro e w' ⟨p, rfl, hp, hb⟩
    exact ⟨_, rfl, ⟨bUpd b 3, _, _, rfl, ov_put .., (hS.world hb).argS injSp 3 (by omega) p (by simpa using hp), hcn 3 (by omega) f⟩⟩
  · obtain ⟨f, g⟩ := upSp hi [1, 3, 3] rfl
    have f : b 4 = false := f
    have g1 : b 1 = true := g 1 (by simp)
    have g3 : b 3 = true := g 3 (by simp)
    obtain ⟨q0, x1, y1⟩ := hS.arg0 g1
    obtain ⟨q1, x3, y3⟩ := hS.arg1 g3
    refine step_call rfl Tryz.func5 (by kernel_rfl) (by kernel_rfl) ?_
    simp only [List.map_toArray, List.map_cons, List.map_nil]
    rw [ev 38 _ (by omega) x1, ev 40 _ (by omega) x3]
    refine (hF q0 q1 w hbl (y1 f) (y3 f)).mono ?_
    rintro e w' ⟨r', rfl, hr, hb⟩
    exact ⟨_, rfl, ⟨bUpd b 4, _, _, rfl, ov_put .., (hS.world hb).call injSp f r' hr, hcn 4 (by omega) f⟩⟩
  · obtain ⟨f, g⟩ := upSp hi [4] rfl
    have f : b 5 = false := f
    have g4 : b 4 = true := g 4 (by simp)
    refine step_move rfl ?_
    rw [ev 41 _ (by omega) (hS.pure 4 (by omega) rfl g4)]
    exact ⟨bUpd b 5, _, _, rfl, ov_put .., hS.put injSp 5 (by omega) rfl (by omega) (fun _ => g4), hcn 5 (by omega) f⟩
  · obtain ⟨f, g⟩ := upSp hi [5] rfl
    have f : b 6 = false := f
    have g5 : b 5 = true := g 5 (by simp)
    exact step_extract (xs := #[(r 0).agg, (r 1).agg, (r 2).agg, (r 3).agg, .bool B]) rfl (ev 36 _ (by omega) (hS.pure 5 (by omega) rfl g5)) rfl ⟨bUpd b 6, _, _, rfl, ov_put .., hS.put injSp 6 (by omega) rfl (by omega) (fun _ => hS.ord 5 (by omega) (by omega) g5), hcn 6 (by omega) f⟩
  · obtain ⟨f, g⟩ := upSp hi [5] rfl
    have f : b 7 = false := f
    have g5 : b 5 = true := g 5 (by simp)
    exact step_extract (xs := #[(r 0).agg, (r 1).agg, (r 2).agg, (r 3).agg, .bool B]) rfl (ev 36 _ (by omega) (hS.pure 5 (by omega) rfl g5)) rfl ⟨bUpd b 7, _, _, rfl, ov_put .., hS.put injSp 7 (by omega) rfl (by omega) (fun _ => hS.ord 5 (by omega) (by omega) g5), hcn 7 (by omega) f⟩
  · obtain ⟨f, g⟩ := upSp hi [5] rfl
    have f : b 8 = false := f
    have g5 : b 5 = true := g 5 (by simp)
    exact step_extract (xs := #[(r 0).agg, (r 1).agg, (r 2).agg, (r 3).agg, .bool B]) rfl (ev 36 _ (by omega) (hS.pure 5 (by omega) rfl g5)) rfl ⟨bUpd b 8, _, _, rfl, ov_put .., hS.put injSp 8 (by omega) rfl (by omega) (fun _ => hS.ord 5 (by omega) (by omega) g5), hcn 8 (by omega) f⟩
  · obtain ⟨f, g⟩ := upSp hi [5] rfl
    have f : b 9 = false := f
    have g5 : b 5 = true := g 5 (by simp)
    exact step_extract (xs := #[(r 0).agg, (r 1).agg, (r 2).agg, (r 3).agg, .bool B]) rfl (ev 36 _ (by omega) (hS.pure 5 (by omega) rfl g5)) rfl ⟨bUpd b 9, _, _, rfl, ov_put .., hS.put injSp 9 (by omega) rfl (by omega) (fun _ => hS.ord 5 (by omega) (by omega) g5), hcn 9 (by omega) f⟩
  · obtain ⟨f, g⟩ := upSp hi [5] rfl
    have f : b 10 = false := f
    have g5 : b 5 = true := g 5 (by simp)
    exact step_extract (xs := #[(r 0).agg, (r 1).agg, (r 2).agg, (r 3).agg, .bool B]) rfl (ev 36 _ (by omega) (hS.pure 5 (by omega) rfl g5)) rfl ⟨bUpd b 10, _, _, rfl, ov_put .., hS.put injSp 10 (by omega) rfl (by omega) (fun _ => hS.ord 5 (by omega) (by omega) g5), hcn 10 (by omega) f⟩
  · obtain ⟨f, g⟩ := upSp hi [] rfl
    have f : b 11 = false := f
    exact step_alloc rfl ⟨bUpd b 11, _, _, rfl, ov_put .., hS.alloc injSp 0 (by omega) f, hcn 11 (by omega) f⟩
  · obtain ⟨f, g⟩ := upSp hi [] rfl
    have f : b 12 = false := f
    exact step_alloc rfl ⟨bUpd b 12, _, _, rfl, ov_put .., hS.alloc injSp 1 (by omega) f, hcn 12 (by omega) f⟩
  · obtain ⟨f, g⟩ := upSp hi [] rfl
    have f : b 13 = false := f
    exact step_alloc rfl ⟨bUpd b 13, _, _, rfl, ov_put .., hS.alloc injSp 2 (by omega) f, hcn 13 (by omega) f⟩
  · obtain ⟨f, g⟩ := upSp hi [] rfl
    have f : b 14 = false := f
    exact step_alloc rfl ⟨bUpd b 14, _, _, rfl, ov_put .., hS.alloc injSp 3 (by omega) f, hcn 14 (by omega) f⟩
  · obtain ⟨f, g⟩ := upSp hi [11, 6, 4, 0, 1, 2, 3, 4, 5, 6, 11, 12, 13, 14] rfl
    have f : b 15 = false := f
    have g11 : b 11 = true := g 11 (by simp)
    have g6 : b 6 = true := g 6 (by simp)
    have g4 : b 4 = true := g 4 (by simp)
    obtain ⟨p, hp, -⟩ := hS.box 0 (by omega) g11
    obtain ⟨hz, hS'⟩ := hS.store hK 0 (by omega) g4 g11 f p hp
    exact step_store rfl (ev 6 _ (by omega) hp) (ev 42 _ (by omega) (hS.pure 6 (by omega) rfl g6)) hz ⟨bUpd b 15, σ, _, rfl, rfl, hS', hcn 15 (by omega) f⟩
  · obtain ⟨f, g⟩ := upSp hi [12, 7, 15, 0, 1, 2, 3, 4, 5, 6, 7, 11, 12, 13, 14, 15] rfl
    have f : b 16 = false := f
    have g12 : b 12 = true := g 12 (by simp)
    have g7 : b 7 = true := g 7 (by simp)
    have g4 : b 4 = true := g 4 (by simp)
    obtain ⟨p, hp, -⟩ := hS.box 1 (by omega) g12
    obtain ⟨hz, hS'⟩ := hS.store hK 1 (by omega) g4 g12 f p hp
    exact step_store rfl (ev 7 _ (by omega) hp) (ev 43 _ (by omega) (hS.pure 7 (by omega) rfl g7)) hz ⟨bUpd b 16, σ, _, rfl, rfl, hS', hcn 16 (by omega) f⟩
  · obtain ⟨f, g⟩ := upSp hi [13, 8, 16, 0, 1, 2, 3, 4, 5, 6, 7, 8, 11, 12, 13, 14, 15, 16] rfl
    have f : b 17 = false := f
    have g13 : b 13 = true := g 13 (by simp)
    have g8 : b 8 = true := g 8 (by simp)
    have g4 : b 4 = true := g 4 (by simp)
    obtain ⟨p, hp, -⟩ := hS.box 2 (by omega) g13
    obtain ⟨hz, hS'⟩ := hS.store hK 2 (by omega) g4 g13 f p hp
    exact step_store rfl (ev 8 _ (by omega) hp) (ev 44 _ (by omega) (hS.pure 8 (by omega) rfl g8)) hz ⟨bUpd b 17, σ, _, rfl, rfl, hS', hcn 17 (by omega) f⟩
  · obtain ⟨f, g⟩ := upSp hi [14, 9, 17, 0, 1, 2, 3, 4, 5, 6, 7, 8, 9, 11, 12, 13, 14, 15, 16, 17] rfl
    have f : b 18 = false := f
    have g14 : b 14 = true := g 14 (by simp)
    have g9 : b 9 = true := g 9 (by simp)
    have g4 : b 4 = true := g 4 (by simp)
    obtain ⟨p, hp, -⟩ := hS.box 3 (by omega) g14
    obtain ⟨hz, hS'⟩ := hS.store hK 3 (by omega) g4 g14 f p hp
    exact step_store rfl (ev 9 _ (by omega) hp) (ev 45 _ (by omega) (hS.pure 9 (by omega) rfl g9)) hz ⟨bUpd b 18, σ, _, rfl, rfl, hS', hcn 18 (by omega) f⟩
  · obtain ⟨f, g⟩ := upSp hi [10, 18, 0, 1, 2, 3, 4, 5, 6, 7, 8, 9, 10, 11, 12, 13, 14, 15, 16, 17, 18] rfl
    have f : b 19 = false := f
    have g10 : b 10 = true := g 10 (by simp)
    refine step_assign rfl ?_
    rw [ev 46 _ (by omega) (hS.pure 10 (by omega) rfl g10)]
    exact ⟨bUpd b 19, _, _, rfl, ov_put .., hS.put injSp 19 (by omega) rfl (by omega) (fun _ => hS.ord 10 (by omega) (by omega) g10), hcn 19 (by omega) f⟩

def opsIm : Array Oper := #[{ dst := some 170, op := Go.Op.load 24 (Go.Operand.tmp 2), type := 24, pos := "exact.go:3307", after := #[], guard := none }, { dst := some 171, op := Go.Op.call { callee := Go.Callee.value (Go.Operand.func 6), args := #[Go.Operand.tmp 170], argTypes := #[24] }, type := 28, pos := "exact.go:3307", after := #[{ on := 0, ground := Go.Ground.data }], guard := none }, { dst := some 172, op := Go.Op.load 24 (Go.Operand.tmp 3), type := 24, pos := "exact.go:3307", after := #[], guard := none }, { dst := some 173, op := Go.Op.call { callee := Go.Callee.value (Go.Operand.func 6), args := #[Go.Operand.tmp 172], argTypes := #[24] }, type := 28, pos := "exact.go:3307", after := #[{ on := 2, ground := Go.Ground.data }, { on := 1, ground := Go.Ground.chain }], guard := none }, { dst := some 174, op := Go.Op.call { callee := Go.Callee.value (Go.Operand.func 7), args := #[Go.Operand.tmp 171, Go.Operand.tmp 173], argTypes := #[28, 28] }, type := 29, pos := "exact.go:3307", after := #[{ on := 1, ground := Go.Ground.data }, { on := 3, ground := Go.Ground.data }, { on := 3, ground := Go.Ground.chain }], guard := none }, { dst := some 169, op := Go.Op.move (Go.Operand.tmp 174), type := 29, pos := "exact.go:3307", after := #[{ on := 4, ground := Go.Ground.data }], guard := none }, { dst := some 175, op := Go.Op.extract (Go.Operand.tmp 169) 0, type := 28, pos := "exact.go:3307", after := #[{ on := 5, ground := Go.Ground.data }], guard := none }, { dst := some 176, op := Go.Op.extract (Go.Operand.tmp 169) 1, type := 28, pos := "exact.go:3307", after := #[{ on := 5, ground := Go.Ground.data }, { on := 15, ground := Go.Ground.gcOnly Go.Departure.lateStores }], guard := none }, { dst := some 177, op := Go.Op.extract (Go.Operand.tmp 169) 2, type := 28, pos := "exact.go:3307", after := #[{ on := 5, ground := Go.Ground.data }, { on := 16, ground := Go.Ground.gcOnly Go.Departure.lateStores }], guard := none }, { dst := some 178, op := Go.Op.extract (Go.Operand.tmp 169) 3, type := 28, pos := "exact.go:3307", after := #[{ on := 5, ground := Go.Ground.data }, { on := 17, ground := Go.Ground.gcOnly Go.Departure.lateStores }], guard := none }, { dst := some 179, op := Go.Op.extract (Go.Operand.tmp 169) 4, type := 4, pos := "exact.go:3307", after := #[{ on := 5, ground := Go.Ground.data }, { on := 18, ground := Go.Ground.gcOnly Go.Departure.lateStores }], guard := none }, { dst := some 21, op := Go.Op.alloc 28, type := 0, pos := "exact.go:3307", after := #[], guard := none }, { dst := some 22, op := Go.Op.alloc 28, type := 0, pos := "exact.go:3307", after := #[], guard := none }, { dst := some 23, op := Go.Op.alloc 28, type := 0, pos := "exact.go:3307", after := #[], guard := none }, { dst := some 24, op := Go.Op.alloc 28, type := 0, pos := "exact.go:3307", after := #[], guard := none }, { dst := none, op := Go.Op.store 28 (Go.Operand.tmp 21) (Go.Operand.tmp 175), type := 0, pos := "exact.go:3307", after := #[{ on := 11, ground := Go.Ground.data }, { on := 6, ground := Go.Ground.data }, { on := 4, ground := Go.Ground.chain }, { on := 0, ground := Go.Ground.phase }, { on := 1, ground := Go.Ground.phase }, { on := 2, ground := Go.Ground.phase }, { on := 3, ground := Go.Ground.phase }, { on := 4, ground := Go.Ground.phase }, { on := 5, ground := Go.Ground.phase }, { on := 6, ground := Go.Ground.phase }, { on := 7, ground := Go.Ground.textOnly Go.Departure.lateStores }, { on := 8, ground := Go.Ground.textOnly Go.Departure.lateStores }, { on := 9, ground := Go.Ground.textOnly Go.Departure.lateStores }, { on := 10, ground := Go.Ground.textOnly Go.Departure.lateStores }, { on := 11, ground := Go.Ground.phase }, { on := 12, ground := Go.Ground.phase }, { on := 13, ground := Go.Ground.phase }, { on := 14, ground := Go.Ground.phase }], guard := none }, { dst := none, op := Go.Op.store 28 (Go.Operand.tmp 22) (Go.Operand.tmp 176), type := 0, pos := "exact.go:3307", after := #[{ on := 12, ground := Go.Ground.data }, { on := 7, ground := Go.Ground.data }, { on := 15, ground := Go.Ground.chain }, { on := 0, ground := Go.Ground.phase }, { on := 1, ground := Go.Ground.phase }, { on := 2, ground := Go.Ground.phase }, { on := 3, ground := Go.Ground.phase }, { on := 4, ground := Go.Ground.phase }, { on := 5, ground := Go.Ground.phase }, { on := 6, ground := Go.Ground.phase }, { on := 7, ground := Go.Ground.phase }, { on := 8, ground := Go.Ground.textOnly Go.Departure.lateStores }, { on := 9, ground := Go.Ground.textOnly Go.Departure.lateStores }, { on := 10, ground := Go.Ground.textOnly Go.Departure.lateStores }, { on := 11, ground := Go.Ground.phase }, { on := 12, ground := Go.Ground.phase }, { on := 13, ground := Go.Ground.phase }, { on := 14, ground := Go.Ground.phase }, { on := 15, ground := Go.Ground.phase }], guard := none }, { dst := none, op := Go.Op.store 28 (Go.Operand.tmp 23) (Go.Operand.tmp 177), type := 0, pos := "exact.go:3307", after := #[{ on := 13, ground := Go.Ground.data }, { on := 8, ground := Go.Ground.data }, { on := 16, ground := Go.Ground.chain }, { on := 0, ground := Go.Ground.phase }, { on := 1, ground := Go.Ground.phase }, { on := 2, ground := Go.Ground.phase }, { on := 3, ground := Go.Ground.phase }, { on := 4, ground := Go.Ground.phase }, { on := 5, ground := Go.Ground.phase }, { on := 6, ground := Go.Ground.phase }, { on := 7, ground := Go.Ground.phase }, { on := 8, ground := Go.Ground.phase }, { on := 9, ground := Go.Ground.textOnly Go.Departure.lateStores }, { on := 10, ground := Go.Ground.textOnly Go.Departure.lateStores }, { on := 11, ground := Go.Ground.phase }, { on := 12, ground := Go.Ground.phase }, { on := 13, ground := Go.Ground.phase }, { on := 14, ground := Go.Ground.phase }, { on := 15, ground := Go.Ground.phase }, { on := 16, ground := Go.Ground.phase }], guard := none }, { dst := none, op := Go.Op.store 28 (Go.Operand.tmp 24) (Go.Operand.tmp 178), type := 0, pos := "exact.go:3307", after := #[{ on := 14, ground := Go.Ground.data }, { on := 9, ground := Go.Ground.data }, { on := 17, ground := Go.Ground.chain }, { on := 0, ground := Go.Ground.phase }, { on := 1, ground := Go.Ground.phase }, { on := 2, ground := Go.Ground.phase }, { on := 3, ground := Go.Ground.phase }, { on := 4, ground := Go.Ground.phase }, { on := 5, ground := Go.Ground.phase }, { on := 6, ground := Go.Ground.phase }, { on := 7, ground := Go.Ground.phase }, { on := 8, ground := Go.Ground.phase }, { on := 9, ground := Go.Ground.phase }, { on := 10, ground := Go.Ground.textOnly Go.Departure.lateStores }, { on := 11, ground := Go.Ground.phase }, { on := 12, ground := Go.Ground.phase }, { on := 13, ground := Go.Ground.phase }, { on := 14, ground := Go.Ground.phase }, { on := 15, ground := Go.Ground.phase }, { on := 16, ground := Go.Ground.phase }, { on := 17, ground := Go.Ground.phase }], guard := none }, { dst := some 25, op := Go.Op.assign (Go.Operand.tmp 179), type := 4, pos := "exact.go:3307", after := #[{ on := 10, ground := Go.Ground.data }, { on := 18, ground := Go.Ground.chain }, { on := 0, ground := Go.Ground.phase }, { on := 1, ground := Go.Ground.phase }, { on := 2, ground := Go.Ground.phase }, { on := 3, ground := Go.Ground.phase }, { on := 4, ground := Go.Ground.phase }, { on := 5, ground := Go.Ground.phase }, { on := 6, ground := Go.Ground.phase }, { on := 7, ground := Go.Ground.phase }, { on := 8, ground := Go.Ground.phase }, { on := 9, ground := Go.Ground.phase }, { on := 10, ground := Go.Ground.phase }, { on := 11, ground := Go.Ground.phase }, { on := 12, ground := Go.Ground.phase }, { on := 13, ground := Go.Ground.phase }, { on := 14, ground := Go.Ground.phase }, { on := 15, ground := Go.Ground.phase }, { on := 16, ground := Go.Ground.phase }, { on := 17, ground := Go.Ground.phase }, { on := 18, ground := Go.Ground.phase }], guard := none }]
def dstIm : Nat → Nat
  | 0 => 170 | 1 => 171 | 2 => 172 | 3 => 173 | 4 => 174 | 5 => 169 | 6 => 175 | 7 => 176 | 8 => 177 | 9 => 178 | 10 => 179 | 11 => 21 | 12 => 22 | 13 => 23 | 14 => 24 | 19 => 25 | n => 1000 + n
theorem injIm : ∀ i, i < 20 → ∀ k, k < 20 → i ≠ k → dstIm i ≠ dstIm k := by decide
theorem argIm : ∀ i, (i < 15 ∨ i = 19) → dstIm i ≠ 2 ∧ dstIm i ≠ 3 := by
  intro i hi
  obtain rfl | rfl | rfl | rfl | rfl | rfl | rfl | rfl | rfl | rfl | rfl | rfl | rfl | rfl | rfl | rfl : i = 0 ∨ i = 1 ∨ i = 2 ∨ i = 3 ∨ i = 4 ∨ i = 5 ∨ i = 6 ∨ i = 7 ∨ i = 8 ∨ i = 9 ∨ i = 10 ∨ i = 11 ∨ i = 12 ∨ i = 13 ∨ i = 14 ∨ i = 19 := by omega
  all_goals simp [dstIm]
theorem upIm {b : Nat → Bool} {i : Nat} (hi : i ∈ Region.ready .any opsIm (L20 b)) (ons : List Nat) (ho : (opsIm[i]?).map (fun o => (o.after.toList.filter (Region.binds .any)).map (·.on)) = some ons) :
    (L20 b).getD i true = false ∧ ∀ k ∈ ons, (L20 b).getD k false = true := by
  obtain ⟨h0, o', ho', ha⟩ := mem_ready.1 hi
  rw [ho'] at ho
  cases ho
  refine ⟨h0, fun k hk => ?_⟩
  obtain ⟨e, he, rfl⟩ := List.mem_map.1 hk
  obtain ⟨h1, h2⟩ := List.mem_filter.1 he
  exact ha e (Array.mem_toList_iff.1 h1) h2
theorem ltIm {b : Nat → Bool} {i : Nat} (hi : i ∈ Region.ready .any opsIm (L20 b)) : i < 20 := by
  obtain ⟨_, o, ho, _⟩ := mem_ready.1 hi
  exact (Array.getElem?_eq_some_iff.1 ho).1
theorem doneIm (b : Nat → Bool) (h : Region.ready .any opsIm (L20 b) = []) : ∀ i, i < 20 → b i = true := by
  have key : ∀ i (ons : List Nat), (opsIm[i]?).map (fun o => (o.after.toList.filter (Region.binds .any)).map (·.on)) = some ons → (∀ k ∈ ons, (L20 b).getD k false = true) → (L20 b).getD i true = true := by
    intro i ons ho ha
    cases hc : (L20 b).getD i true with
    | true => rfl
    | false =>
      obtain ⟨o, h1, h2⟩ := Option.map_eq_some_iff.1 ho
      have : i ∈ Region.ready .any opsIm (L20 b) := mem_ready.2 ⟨hc, o, h1, fun e he hbn => ha e.on (by rw [← h2]; exact List.mem_map.2 ⟨e, List.mem_filter.2 ⟨Array.mem_toList_iff.2 he, hbn⟩, rfl⟩)⟩
      rw [h] at this
      cases this
  have r0 : b 0 = true := key 0 [] rfl (by intro k hk; cases hk)
  have r2 : b 2 = true := key 2 [] rfl (by intro k hk; cases hk)
  have r11 : b 11 = true := key 11 [] rfl (by intro k hk; cases hk)
  have r12 : b 12 = true := key 12 [] rfl (by intro k hk; cases hk)
  have r13 : b 13 = true := key 13 [] rfl (by intro k hk; cases hk)
  have r14 : b 14 = true := key 14 [] rfl (by intro k hk; cases hk)
  have r1 : b 1 = true := key 1 [0] rfl (by intro k hk; simp only [List.mem_cons, List.not_mem_nil, or_false] at hk; rcases hk with rfl <;> assumption)
  have r3 : b 3 = true := key 3 [2, 1] rfl (by intro k hk; simp only [List.mem_cons, List.not_mem_nil, or_false] at hk; rcases hk with rfl | rfl <;> assumption)
  have r4 : b 4 = true := key 4 [1, 3, 3] rfl (by intro k hk; simp only [List.mem_cons, List.not_mem_nil, or_false] at hk; rcases hk with rfl | rfl | rfl <;> assumption)
  have r5 : b 5 = true := key 5 [4] rfl (by intro k hk; simp only [List.mem_cons, List.not_mem_nil, or_false] at hk; rcases hk with rfl <;> assumption)
  have r6 : b 6 = true := key 6 [5] rfl (by intro k hk; simp only [List.mem_cons, List.not_mem_nil, or_false] at hk; rcases hk with rfl <;> assumption)
  have r7 : b 7 = true := key 7 [5] rfl (by intro k hk; simp only [List.mem_cons, List.not_mem_nil, or_false] at hk; rcases hk with rfl <;> assumption)
  have r8 : b 8 = true := key 8 [5] rfl (by intro k hk; simp only [List.mem_cons, List.not_mem_nil, or_false] at hk; rcases hk with rfl <;> assumption)
  have r9 : b 9 = true := key 9 [5] rfl (by intro k hk; simp only [List.mem_cons, List.not_mem_nil, or_false] at hk; rcases hk with rfl <;> assumption)
  have r10 : b 10 = true := key 10 [5] rfl (by intro k hk; simp only [List.mem_cons, List.not_mem_nil, or_false] at hk; rcases hk with rfl <;> assumption)
  have r15 : b 15 = true := key 15 [11, 6, 4, 0, 1, 2, 3, 4, 5, 6, 11, 12, 13, 14] rfl (by intro k hk; simp only [List.mem_cons, List.not_mem_nil, or_false] at hk; rcases hk with rfl | rfl | rfl | rfl | rfl | rfl | rfl | rfl | rfl | rfl | rfl | rfl | rfl | rfl <;> assumption)
  have r16 : b 16 = true := key 16 [12, 7, 15, 0, 1, 2, 3, 4, 5, 6, 7, 11, 12, 13, 14, 15] rfl (by intro k hk; simp only [List.mem_cons, List.not_mem_nil, or_false] at hk; rcases hk with rfl | rfl | rfl | rfl | rfl | rfl | rfl | rfl | rfl | rfl | rfl | rfl | rfl | rfl | rfl | rfl <;> assumption)
  have r17 : b 17 = true := key 17 [13, 8, 16, 0, 1, 2, 3, 4, 5, 6, 7, 8, 11, 12, 13, 14, 15, 16] rfl (by intro k hk; simp only [List.mem_cons, List.not_mem_nil, or_false] at hk; rcases hk with rfl | rfl | rfl | rfl | rfl | rfl | rfl | rfl | rfl | rfl | rfl | rfl | rfl | rfl | rfl | rfl | rfl | rfl <;> assumption)
  have r18 : b 18 = true := key 18 [14, 9, 17, 0, 1, 2, 3, 4, 5, 6, 7, 8, 9, 11, 12, 13, 14, 15, 16, 17] rfl (by intro k hk; simp only [List.mem_cons, List.not_mem_nil, or_false] at hk; rcases hk with rfl | rfl | rfl | rfl | rfl | rfl | rfl | rfl | rfl | rfl | rfl | rfl | rfl | rfl | rfl | rfl | rfl | rfl | rfl | rfl <;> assumption)
  have r19 : b 19 = true := key 19 [10, 18, 0, 1, 2, 3, 4, 5, 6, 7, 8, 9, 10, 11, 12, 13, 14, 15, 16, 17, 18] rfl (by intro k hk; simp only [List.mem_cons, List.not_mem_nil, or_false] at hk; rcases hk with rfl | rfl | rfl | rfl | rfl | rfl | rfl | rfl | rfl | rfl | rfl | rfl | rfl | rfl | rfl | rfl | rfl | rfl | rfl | rfl | rfl <;> assumption)
  intro i hi
  obtain rfl | rfl | rfl | rfl | rfl | rfl | rfl | rfl | rfl | rfl | rfl | rfl | rfl | rfl | rfl | rfl | rfl | rfl | rfl | rfl : i = 0 ∨ i = 1 ∨ i = 2 ∨ i = 3 ∨ i = 4 ∨ i = 5 ∨ i = 6 ∨ i = 7 ∨ i = 8 ∨ i = 9 ∨ i = 10 ∨ i = 11 ∨ i = 12 ∨ i = 13 ∨ i = 14 ∨ i = 15 ∨ i = 16 ∨ i = 17 ∨ i = 18 ∨ i = 19 := by omega
  all_goals assumption
theorem frameIm (a0 : Act) (σ : Nat → Option Value) (v0 v1 v2 v3 v4 v5 v6 v7 v8 v9 v10 v11 v12 v13 v14 v19 : Value) (hoth : ∀ k, (∀ i, (i < 15 ∨ i = 19) → dstIm i ≠ k) → σ k = none)
    (x0 : σ 170 = some v0) (x1 : σ 171 = some v1) (x2 : σ 172 = some v2) (x3 : σ 173 = some v3) (x4 : σ 174 = some v4) (x5 : σ 169 = some v5) (x6 : σ 175 = some v6) (x7 : σ 176 = some v7) (x8 : σ 177 = some v8) (x9 : σ 178 = some v9) (x10 : σ 179 = some v10) (x11 : σ 21 = some v11) (x12 : σ 22 = some v12) (x13 : σ 23 = some v13) (x14 : σ 24 = some v14) (x19 : σ 25 = some v19) :
    ov a0 σ = ((((((((((((((((a0.put (some 170) v0).put (some 171) v1).put (some 172) v2).put (some 173) v3).put (some 174) v4).put (some 169) v5).put (some 175) v6).put (some 176) v7).put (some 177) v8).put (some 178) v9).put (some 179) v10).put (some 21) v11).put (some 22) v12).put (some 23) v13).put (some 24) v14).put (some 25) v19) := by
  have h : σ = (upd (upd (upd (upd (upd (upd (upd (upd (upd (upd (upd (upd (upd (upd (upd (upd (fun _ => none) 170 v0) 171 v1) 172 v2) 173 v3) 174 v4) 169 v5) 175 v6) 176 v7) 177 v8) 178 v9) 179 v10) 21 v11) 22 v12) 23 v13) 24 v14) 25 v19) := by
    funext k
    by_cases h0 : k = 170
    · subst h0; simp [upd, x0]
    by_cases h1 : k = 171
    · subst h1; simp [upd, x1]
    by_cases h2 : k = 172
    · subst h2; simp [upd, x2]
    by_cases h3 : k = 173
    · subst h3; simp [upd, x3]
    by_cases h4 : k = 174
    · subst h4; simp [upd, x4]
    by_cases h5 : k = 169
    · subst h5; simp [upd, x5]
    by_cases h6 : k = 175
    · subst h6; simp [upd, x6]
    by_cases h7 : k = 176
    · subst h7; simp [upd, x7]
    by_cases h8 : k = 177
    · subst h8; simp [upd, x8]
    by_cases h9 : k = 178
    · subst h9; simp [upd, x9]
    by_cases h10 : k = 179
    · subst h10; simp [upd, x10]
    by_cases h11 : k = 21
    · subst h11; simp [upd, x11]
    by_cases h12 : k = 22
    · subst h12; simp [upd, x12]
    by_cases h13 : k = 23
    · subst h13; simp [upd, x13]
    by_cases h14 : k = 24
    · subst h14; simp [upd, x14]
    by_cases h19 : k = 25
    · subst h19; simp [upd, x19]
    rw [hoth k (fun i hi => ?_)]
    · simp [upd, h0, h1, h2, h3, h4, h5, h6, h7, h8, h9, h10, h11, h12, h13, h14, h19]
    · obtain rfl | rfl | rfl | rfl | rfl | rfl | rfl | rfl | rfl | rfl | rfl | rfl | rfl | rfl | rfl | rfl : i = 0 ∨ i = 1 ∨ i = 2 ∨ i = 3 ∨ i = 4 ∨ i = 5 ∨ i = 6 ∨ i = 7 ∨ i = 8 ∨ i = 9 ∨ i = 10 ∨ i = 11 ∨ i = 12 ∨ i = 13 ∨ i = 14 ∨ i = 19 := by omega
      all_goals (simp only [dstIm]; omega)
  rw [h]
  simp only [← ov_put, ov_none]

set_option maxRecDepth 10000 in
set_option maxHeartbeats 1000000 in
theorem rowsIm {Q : Exit → Act → World → Prop} (a0 : Act) (w0 : World) (hsz : a0.tmps.size = 230) (ga gb : Nat) (op0 n0 op1 n1 : Int) (s0 s1 : ByteArray) (a1 a2 : Option Addr) (len0 cap0 len1 cap1 : Nat) (t0 t1 : Tm) (PT : Nat → Tm) (B : Bool)
    (e0 : a0.eval (.tmp 2) = ptr ga) (e1 : a0.eval (.tmp 3) = ptr gb) (r0 : RowT 24 w0 ga op0 n0 s0 a1 len0 cap0) (r1 : RowT 24 w0 gb op1 n1 s1 a2 len1 cap1) (hK : ∀ j, j < 4 → KidsOk (PT j))
    (hT0 : ∀ V, Below w0.heap.size w0 V → Calls Tryz.prog 6 #[.agg #[.int .i64 op0, .int .i64 n0, .string s0, .slice a1 len0 cap0]] V fun e w' => ∃ p : Tc, e = .returned p.agg ∧ Lies w' 0 t0 p.cells ∧ Below V.heap.size V w')
    (hT1 : ∀ V, Below w0.heap.size w0 V → Calls Tryz.prog 6 #[.agg #[.int .i64 op1, .int .i64 n1, .string s1, .slice a2 len1 cap1]] V fun e w' => ∃ p : Tc, e = .returned p.agg ∧ Lies w' 0 t1 p.cells ∧ Below V.heap.size V w')
    (hF : ∀ (p q : Tc) V, Below w0.heap.size w0 V → Lies V 0 t0 p.cells → Lies V 0 t1 q.cells → Calls Tryz.prog 7 #[p.agg, q.agg] V fun e w' => ∃ r : Nat → Tc, e = .returned (ansV r B) ∧ (∀ j, j < 4 → Lies w' 0 (PT j) (r j).cells) ∧ Below V.heap.size V w')
    (hfin : ∀ (p0 p1 p2 p3 : Nat) (q0 q1 : Tc) (r : Nat → Tc) (y : World), Rw y p0 (r 0) → Rw y p1 (r 1) → Rw y p2 (r 2) → Rw y p3 (r 3) → (∀ j, j < 4 → Lies y 0 (PT j) (r j).cells) → Below w0.heap.size w0 y →
      Q .normal ((((((((((((((((a0.put (some 170) (.agg #[.int .i64 op0, .int .i64 n0, .string s0, .slice a1 len0 cap0])).put (some 171) (q0.agg)).put (some 172) (.agg #[.int .i64 op1, .int .i64 n1, .string s1, .slice a2 len1 cap1])).put (some 173) (q1.agg)).put (some 174) (ansV r B)).put (some 169) (ansV r B)).put (some 175) ((r 0).agg)).put (some 176) ((r 1).agg)).put (some 177) ((r 2).agg)).put (some 178) ((r 3).agg)).put (some 179) (.bool B)).put (some 21) (ptr p0)).put (some 22) (ptr p1)).put (some 23) (ptr p2)).put (some 24) (ptr p3)).put (some 25) (.bool B)) y) :
    wpAny Tryz.prog .any opsIm Q 20 (L20 fun _ => false) a0 w0 := by
  generalize hA0 : Value.agg #[.int .i64 op0, .int .i64 n0, .string s0, .slice a1 len0 cap0] = A0 at *
  generalize hA1 : Value.agg #[.int .i64 op1, .int .i64 n1, .string s1, .slice a2 len1 cap1] = A1 at *
  refine wpAny_inv (P := Tryz.prog) (md := .any) (ops := opsIm) (Q := Q) (fun n l a w => ∃ b σ r, l = L20 b ∧ a = ov a0 σ ∧ Sta dstIm w0 A0 A1 t0 t1 PT B b σ r w ∧ cnt20 b ≤ n) ?_ 20 _ _ _ ⟨fun _ => false, fun _ => none, fun _ => ⟨0, 0, ByteArray.empty, none, 0, 0⟩, rfl, (ov_none a0).symm, Sta.start _ _ _ _ _ _ _ _ _, by decide⟩
  rintro n l a w ⟨b, σ, r, rfl, rfl, hS, hn⟩
  have ev : ∀ (d : Nat) v, d < 230 → σ d = some v → (ov a0 σ).eval (.tmp d) = v := fun d v hd h => ov_new h (by omega)
  by_cases hall : ∀ i, i < 20 → b i = true
  · left
    have hl : L20 b = L20 fun _ => true := by
      unfold L20
      rw [hall 0 (by omega), hall 1 (by omega), hall 2 (by omega), hall 3 (by omega), hall 4 (by omega), hall 5 (by omega), hall 6 (by omega), hall 7 (by omega), hall 8 (by omega), hall 9 (by omega), hall 10 (by omega), hall 11 (by omega), hall 12 (by omega), hall 13 (by omega), hall 14 (by omega), hall 15 (by omega), hall 16 (by omega), hall 17 (by omega), hall 18 (by omega), hall 19 (by omega)]
    rw [hl]
    refine wpAny_done (by kernel_rfl) ?_ _
    obtain ⟨q0, x1, -⟩ := hS.arg0 (hall 1 (by omega))
    obtain ⟨q1, x3, -⟩ := hS.arg1 (hall 3 (by omega))
    obtain ⟨p0, x11, -, -, R0⟩ := hS.box 0 (by omega) (hall 11 (by omega))
    obtain ⟨p1, x12, -, -, R1⟩ := hS.box 1 (by omega) (hall 12 (by omega))
    obtain ⟨p2, x13, -, -, R2⟩ := hS.box 2 (by omega) (hall 13 (by omega))
    obtain ⟨p3, x14, -, -, R3⟩ := hS.box 3 (by omega) (hall 14 (by omega))
    have x0 := hS.pure 0 (by omega) rfl (hall 0 (by omega))
    have x2 := hS.pure 2 (by omega) rfl (hall 2 (by omega))
    have x4 := hS.pure 4 (by omega) rfl (hall 4 (by omega))
    have x5 := hS.pure 5 (by omega) rfl (hall 5 (by omega))
    have x6 := hS.pure 6 (by omega) rfl (hall 6 (by omega))
    have x7 := hS.pure 7 (by omega) rfl (hall 7 (by omega))
    have x8 := hS.pure 8 (by omega) rfl (hall 8 (by omega))
    have x9 := hS.pure 9 (by omega) rfl (hall 9 (by omega))
    have x10 := hS.pure 10 (by omega) rfl (hall 10 (by omega))
    have x19 := hS.pure 19 (by omega) rfl (hall 19 (by omega))
    rw [frameIm a0 σ _ _ _ _ _ _ _ _ _ _ _ _ _ _ _ _ hS.other x0 x1 x2 x3 x4 x5 x6 x7 x8 x9 x10 x11 x12 x13 x14 x19]
    exact hfin p0 p1 p2 p3 q0 q1 r w (R0 (hall 15 (by omega))) (R1 (hall 16 (by omega))) (R2 (hall 17 (by omega))) (R3 (hall 18 (by omega))) (hS.res (hall 4 (by omega))) hS.below
  right
  obtain ⟨m, rfl⟩ : ∃ m, n = m + 1 := by
    cases n with
    | zero => exact absurd (cnt20_zero (Nat.le_zero.1 hn)) hall
    | succ m => exact ⟨m, rfl⟩
  refine ⟨m, rfl, fun h => hall (doneIm b h), fun i hi => ?_⟩
  have hlt := ltIm hi
  have hcn : ∀ i, i < 20 → b i = false → cnt20 (bUpd b i) ≤ m := fun i hi hb => by have := cnt20_upd hi hb; omega
  have hbl := hS.below
  obtain rfl | rfl | rfl | rfl | rfl | rfl | rfl | rfl | rfl | rfl | rfl | rfl | rfl | rfl | rfl | rfl | rfl | rfl | rfl | rfl : i = 0 ∨ i = 1 ∨ i = 2 ∨ i = 3 ∨ i = 4 ∨ i = 5 ∨ i = 6 ∨ i = 7 ∨ i = 8 ∨ i = 9 ∨ i = 10 ∨ i = 11 ∨ i = 12 ∨ i = 13 ∨ i = 14 ∨ i = 15 ∨ i = 16 ∨ i = 17 ∨ i = 18 ∨ i = 19 := by omega
  · obtain ⟨f, g⟩ := upIm hi [] rfl
    have f : b 0 = false := f
    refine step_load rfl ((ov_old (hS.other 2 (fun i hi => (argIm i hi).1))).trans e0) (r0.below hbl) ?_
    rw [hA0]
    exact ⟨bUpd b 0, _, _, rfl, ov_put .., hS.put injIm 0 (by omega) rfl (by omega) (by omega), hcn 0 (by omega) f⟩
  · obtain ⟨f, g⟩ := upIm hi [0] rfl
    have f : b 1 = false := f
    have g0 : b 0 = true := g 0 (by simp)
    refine step_call rfl Tryz.func6 (by kernel_rfl) (by kernel_rfl) ?_
    simp only [List.map_toArray, List.map_cons, List.map_nil]
    rw [ev 170 A0 (by omega) (hS.pure 0 (by omega) rfl g0)]
    refine (hT0 w hbl).mono ?_
    rintro e w' ⟨p, rfl, hp, hb⟩
    exact ⟨_, rfl, ⟨bUpd b 1, _, _, rfl, ov_put .., (hS.world hb).argS injIm 1 (by omega) p (by simpa using hp), hcn 1 (by omega) f⟩⟩
  · obtain ⟨f, g⟩ := upIm hi [] rfl
    have f : b 2 = false := f
    refine step_load rfl ((ov_old (hS.other 3 (fun i hi => (argIm i hi).2))).trans e1) (r1.below hbl) ?_
    rw [hA1]
    exact ⟨bUpd b 2, _, _, rfl, ov_put .., hS.put injIm 2 (by omega) rfl (by omega) (by omega), hcn 2 (by omega) f⟩
  · obtain ⟨f, g⟩ := upIm hi [2, 1] rfl
    have f : b 3 = false := f
    have g2 : b 2 = true := g 2 (by simp)
    refine step_call rfl Tryz.func6 (by kernel_rfl) (by kernel_rfl) ?_
    simp only [List.map_toArray, List.map_cons, List.map_nil]
    rw [ev 172 A1 (by omega) (hS.pure 2 (by omega) rfl g2)]
    refine (hT1 w hbl).mono ?_
    rintro e w' ⟨p, rfl, hp, hb⟩
    exact ⟨_, rfl, ⟨bUpd b 3, _, _, rfl, ov_put .., (hS.world hb).argS injIm 3 (by omega) p (by simpa using hp), hcn 3 (by omega) f⟩⟩
  · obtain ⟨f, g⟩ := upIm hi [1, 3, 3] rfl
    have f : b 4 = false := f
    have g1 : b 1 = true := g 1 (by simp)
    have g3 : b 3 = true := g 3 (by simp)
    obtain ⟨q0, x1, y1⟩ := hS.arg0 g1
    obtain ⟨q1, x3, y3⟩ := hS.arg1 g3
    refine step_call rfl Tryz.func7 (by kernel_rfl) (by kernel_rfl) ?_
    simp only [List.map_toArray, List.map_cons, List.map_nil]
    rw [ev 171 _ (by omega) x1, ev 173 _ (by omega) x3]
    refine (hF q0 q1 w hbl (y1 f) (y3 f)).mono ?_
    rintro e w' ⟨r', rfl, hr, hb⟩
    exact ⟨_, rfl, ⟨bUpd b 4, _, _, rfl, ov_put .., (hS.world hb).call injIm f r' hr, hcn 4 (by omega) f⟩⟩
  · obtain ⟨f, g⟩ := upIm hi [4] rfl
    have f : b 5 = false := f
    have g4 : b 4 = true := g 4 (by simp)
    refine step_move rfl ?_
    rw [ev 174 _ (by omega) (hS.pure 4 (by omega) rfl g4)]
    exact ⟨bUpd b 5, _, _, rfl, ov_put .., hS.put injIm 5 (by omega) rfl (by omega) (fun _ => g4), hcn 5 (by omega) f⟩
  · obtain ⟨f, g⟩ := upIm hi [5] rfl
    have f : b 6 = false := f
    have g5 : b 5 = true := g 5 (by simp)
    exact step_extract (xs := #[(r 0).agg, (r 1).agg, (r 2).agg, (r 3).agg, .bool B]) rfl (ev 169 _ (by omega) (hS.pure 5 (by omega) rfl g5)) rfl ⟨bUpd b 6, _, _, rfl, ov_put .., hS.put injIm 6 (by omega) rfl (by omega) (fun _ => hS.ord 5 (by omega) (by omega) g5), hcn 6 (by omega) f⟩
  · obtain ⟨f, g⟩ := upIm hi [5] rfl
    have f : b 7 = false := f
    have g5 : b 5 = true := g 5 (by simp)
    exact step_extract (xs := #[(r 0).agg, (r 1).agg, (r 2).agg, (r 3).agg, .bool B]) rfl (ev 169 _ (by omega) (hS.pure 5 (by omega) rfl g5)) rfl ⟨bUpd b 7, _, _, rfl, ov_put .., hS.put injIm 7 (by omega) rfl (by omega) (fun _ => hS.ord 5 (by omega) (by omega) g5), hcn 7 (by omega) f⟩
  · obtain ⟨f, g⟩ := upIm hi [5] rfl
    have f : b 8 = false := f
    have g5 : b 5 = true := g 5 (by simp)
    exact step_extract (xs := #[(r 0).agg, (r 1).agg, (r 2).agg, (r 3).agg, .bool B]) rfl (ev 169 _ (by omega) (hS.pure 5 (by omega) rfl g5)) rfl ⟨bUpd b 8, _, _, rfl, ov_put .., hS.put injIm 8 (by omega) rfl (by omega) (fun _ => hS.ord 5 (by omega) (by omega) g5), hcn 8 (by omega) f⟩
  · obtain ⟨f, g⟩ := upIm hi [5] rfl
    have f : b 9 = false := f
    have g5 : b 5 = true := g 5 (by simp)
    exact step_extract (xs := #[(r 0).agg, (r 1).agg, (r 2).agg, (r 3).agg, .bool B]) rfl (ev 169 _ (by omega) (hS.pure 5 (by omega) rfl g5)) rfl ⟨bUpd b 9, _, _, rfl, ov_put .., hS.put injIm 9 (by omega) rfl (by omega) (fun _ => hS.ord 5 (by omega) (by omega) g5), hcn 9 (by omega) f⟩
  · obtain ⟨f, g⟩ := upIm hi [5] rfl
    have f : b 10 = false := f
    have g5 : b 5 = true := g 5 (by simp)
    exact step_extract (xs := #[(r 0).agg, (r 1).agg, (r 2).agg, (r 3).agg, .bool B]) rfl (ev 169 _ (by omega) (hS.pure 5 (by omega) rfl g5)) rfl ⟨bUpd b 10, _, _, rfl, ov_put .., hS.put injIm 10 (by omega) rfl (by omega) (fun _ => hS.ord 5 (by omega) (by omega) g5), hcn 10 (by omega) f⟩
  · obtain ⟨f, g⟩ := upIm hi [] rfl
    have f : b 11 = false := f
    exact step_alloc rfl ⟨bUpd b 11, _, _, rfl, ov_put .., hS.alloc injIm 0 (by omega) f, hcn 11 (by omega) f⟩
  · obtain ⟨f, g⟩ := upIm hi [] rfl
    have f : b 12 = false := f
    exact step_alloc rfl ⟨bUpd b 12, _, _, rfl, ov_put .., hS.alloc injIm 1 (by omega) f, hcn 12 (by omega) f⟩
  · obtain ⟨f, g⟩ := upIm hi [] rfl
    have f : b 13 = false := f
    exact step_alloc rfl ⟨bUpd b 13, _, _, rfl, ov_put .., hS.alloc injIm 2 (by omega) f, hcn 13 (by omega) f⟩
  · obtain ⟨f, g⟩ := upIm hi [] rfl
    have f : b 14 = false := f
    exact step_alloc rfl ⟨bUpd b 14, _, _, rfl, ov_put .., hS.alloc injIm 3 (by omega) f, hcn 14 (by omega) f⟩
  · obtain ⟨f, g⟩ := upIm hi [11, 6, 4, 0, 1, 2, 3, 4, 5, 6, 11, 12, 13, 14] rfl
    have f : b 15 = false := f
    have g11 : b 11 = true := g 11 (by simp)
    have g6 : b 6 = true := g 6 (by simp)
    have g4 : b 4 = true := g 4 (by simp)
    obtain ⟨p, hp, -⟩ := hS.box 0 (by omega) g11
    obtain ⟨hz, hS'⟩ := hS.store hK 0 (by omega) g4 g11 f p hp
    exact step_store rfl (ev 21 _ (by omega) hp) (ev 175 _ (by omega) (hS.pure 6 (by omega) rfl g6)) hz ⟨bUpd b 15, σ, _, rfl, rfl, hS', hcn 15 (by omega) f⟩
  · obtain ⟨f, g⟩ := upIm hi [12, 7, 15, 0, 1, 2, 3, 4, 5, 6, 7, 11, 12, 13, 14, 15] rfl
    have f : b 16 = false := f
    have g12 : b 12 = true := g 12 (by simp)
    have g7 : b 7 = true := g 7 (by simp)
    have g4 : b 4 = true := g 4 (by simp)
    obtain ⟨p, hp, -⟩ := hS.box 1 (by omega) g12
    obtain ⟨hz, hS'⟩ := hS.store hK 1 (by omega) g4 g12 f p hp
    exact step_store rfl (ev 22 _ (by omega) hp) (ev 176 _ (by omega) (hS.pure 7 (by omega) rfl g7)) hz ⟨bUpd b 16, σ, _, rfl, rfl, hS', hcn 16 (by omega) f⟩
  · obtain ⟨f, g⟩ := upIm hi [13, 8, 16, 0, 1, 2, 3, 4, 5, 6, 7, 8, 11, 12, 13, 14, 15, 16] rfl
    have f : b 17 = false := f
    have g13 : b 13 = true := g 13 (by simp)
    have g8 : b 8 = true := g 8 (by simp)
    have g4 : b 4 = true := g 4 (by simp)
    obtain ⟨p, hp, -⟩ := hS.box 2 (by omega) g13
    obtain ⟨hz, hS'⟩ := hS.store hK 2 (by omega) g4 g13 f p hp
    exact step_store rfl (ev 23 _ (by omega) hp) (ev 177 _ (by omega) (hS.pure 8 (by omega) rfl g8)) hz ⟨bUpd b 17, σ, _, rfl, rfl, hS', hcn 17 (by omega) f⟩
  · obtain ⟨f, g⟩ := upIm hi [14, 9, 17, 0, 1, 2, 3, 4, 5, 6, 7, 8, 9, 11, 12, 13, 14, 15, 16, 17] rfl
    have f : b 18 = false := f
    have g14 : b 14 = true := g 14 (by simp)
    have g9 : b 9 = true := g 9 (by simp)
    have g4 : b 4 = true := g 4 (by simp)
    obtain ⟨p, hp, -⟩ := hS.box 3 (by omega) g14
    obtain ⟨hz, hS'⟩ := hS.store hK 3 (by omega) g4 g14 f p hp
    exact step_store rfl (ev 24 _ (by omega) hp) (ev 178 _ (by omega) (hS.pure 9 (by omega) rfl g9)) hz ⟨bUpd b 18, σ, _, rfl, rfl, hS', hcn 18 (by omega) f⟩
  · obtain ⟨f, g⟩ := upIm hi [10, 18, 0, 1, 2, 3, 4, 5, 6, 7, 8, 9, 10, 11, 12, 13, 14, 15, 16, 17, 18] rfl
    have f : b 19 = false := f
    have g10 : b 10 = true := g 10 (by simp)
    refine step_assign rfl ?_
    rw [ev 179 _ (by omega) (hS.pure 10 (by omega) rfl g10)]
    exact ⟨bUpd b 19, _, _, rfl, ov_put .., hS.put injIm 19 (by omega) rfl (by omega) (fun _ => hS.ord 10 (by omega) (by omega) g10), hcn 19 (by omega) f⟩

end Go.Proofs.YtafoonabmijcdaaGreatDoor
