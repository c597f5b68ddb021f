/- A row of two made arguments, a call that answers four terms and a flag, four new boxes and their stores: what holds in each state, whatever order is drawn. A row of the law of FnReplies whose order is drawn: behind its loads a call and four new boxes come up in whatever order, and come to one state. -/
import Derived.Test.YtmklgikbajhcpaaGreatDoorRu
import Derived.Test.YtmklgikbajhcpaaGreatDoorRy
namespace Go.Proofs.YtmklgikbajhcpaaGreatDoor
open Go.RowKit Go.Deep

def isP (i : Nat) : Bool := i == 0 || i == 2 || (decide (4 ≤ i) && decide (i ≤ 10)) || i == 19
/-- What the call answers. -/
def ansV (r : Nat → Tc) (B : Bool) : Value := .tuple #[(r 0).agg, (r 1).agg, (r 2).agg, (r 3).agg, .bool B]
def valP (A0 A1 : Value) (r : Nat → Tc) (B : Bool) : Nat → Value
  | 0 => A0 | 2 => A1 | 4 => ansV r B | 5 => ansV r B | 6 => (r 0).agg | 7 => (r 1).agg | 8 => (r 2).agg | 9 => (r 3).agg | 10 => .bool B | 19 => .bool B | _ => undef
theorem valP_r {A0 A1 : Value} {r r' : Nat → Tc} {B : Bool} {i : Nat} (h : ¬ (4 ≤ i ∧ i ≤ 9)) : valP A0 A1 r B i = valP A0 A1 r' B i := by
  unfold valP
  split <;> first | rfl | (exfalso; omega)
def Rw (w : World) (p : Nat) (c : Tc) : Prop := RowT 29 w p c.op c.n c.s c.a c.len c.cap
abbrev fillT (w : World) (p : Nat) (c : Tc) : World := fill4 w p c.op c.n c.s c.a c.len c.cap

structure Sta (D : Nat → Nat) (w0 : World) (A0 A1 : Value) (t0 t1 : Tm) (PT : Nat → Tm) (B : Bool) (b : Nat → Bool) (σ : Nat → Option Value) (r : Nat → Tc) (w : World) : Prop where
  other : ∀ k, (∀ i, (i < 15 ∨ i = 19) → D i ≠ k) → σ k = none
  below : Below w0.heap.size w0 w
  pure : ∀ i, i < 20 → isP i = true → b i = true → σ (D i) = some (valP A0 A1 r B i)
  arg0 : b 1 = true → ∃ p : Tc, σ (D 1) = some p.agg ∧ (b 4 = false → Lies w 0 t0 p.cells)
  arg1 : b 3 = true → ∃ p : Tc, σ (D 3) = some p.agg ∧ (b 4 = false → Lies w 0 t1 p.cells)
  res : b 4 = true → ∀ j, j < 4 → Lies w 0 (PT j) (r j).cells
  box : ∀ j, j < 4 → b (11 + j) = true → ∃ p, σ (D (11 + j)) = some (ptr p) ∧ w0.heap.size ≤ p ∧ (b (15 + j) = false → ZBox w p) ∧ (b (15 + j) = true → Rw w p (r j))
  nob : ∀ j, j < 4 → b (11 + j) = false → σ (D (11 + j)) = none
  apart : ∀ j k p, j < 4 → k < 4 → j ≠ k → σ (D (11 + j)) = some (ptr p) → σ (D (11 + k)) ≠ some (ptr p)
  ord : ∀ k, k < 20 → (5 ≤ k ∧ k ≤ 10 ∨ 15 ≤ k) → b k = true → b 4 = true
  ordS : ∀ j, j < 4 → b (15 + j) = true → b (11 + j) = true

section
variable {D : Nat → Nat} {w0 : World} {A0 A1 : Value} {t0 t1 : Tm} {PT : Nat → Tm} {B : Bool} {b : Nat → Bool} {σ : Nat → Option Value} {r : Nat → Tc} {w w' : World}

theorem Sta.start (D : Nat → Nat) (w0 : World) (A0 A1 : Value) (t0 t1 : Tm) (PT : Nat → Tm) (B : Bool) (r : Nat → Tc) : Sta D w0 A0 A1 t0 t1 PT B (fun _ => false) (fun _ => none) r w0 :=
  ⟨fun _ _ => rfl, Below.refl _ _, nofun, nofun, nofun, nofun, nofun, fun _ _ _ => rfl, nofun, nofun, nofun⟩

theorem Sta.world (h : Sta D w0 A0 A1 t0 t1 PT B b σ r w) (hb : Below w.heap.size w w') : Sta D w0 A0 A1 t0 t1 PT B b σ r w' := by
  refine { h with below := bt h.below hb (Nat.le_refl _), arg0 := fun h1 => ?_, arg1 := fun h1 => ?_, res := fun h4 j hj => (h.res h4 j hj).below hb, box := fun j hj h1 => ?_ }
  · obtain ⟨p, hp, hl⟩ := h.arg0 h1
    exact ⟨p, hp, fun h4 => (hl h4).below hb⟩
  · obtain ⟨p, hp, hl⟩ := h.arg1 h1
    exact ⟨p, hp, fun h4 => (hl h4).below hb⟩
  · obtain ⟨p, hp, hg, hz, hr⟩ := h.box j hj h1
    exact ⟨p, hp, hg, fun hs => (hz hs).below hb, fun hs => RowT.below (hr hs) hb⟩

theorem Sta.put (hD : ∀ i, i < 20 → ∀ k, k < 20 → i ≠ k → D i ≠ D k) (h : Sta D w0 A0 A1 t0 t1 PT B b σ r w) (i : Nat) (hi : i < 20) (hP : isP i = true) (h4 : i ≠ 4) (ho : (5 ≤ i ∧ i ≤ 10 ∨ 15 ≤ i) → b 4 = true) :
    Sta D w0 A0 A1 t0 t1 PT B (bUpd b i) (upd σ (D i) (valP A0 A1 r B i)) r w := by
  have h1 : i ≠ 1 := by rintro rfl; simp [isP] at hP
  have h3 : i ≠ 3 := by rintro rfl; simp [isP] at hP
  have h11 : ∀ j, j < 4 → i ≠ 11 + j := by rintro j hj rfl; simp [isP] at hP; omega
  have h15 : ∀ j, j < 4 → i ≠ 15 + j := by rintro j hj rfl; simp [isP] at hP; omega
  refine ⟨fun k hk => ?_, h.below, fun k hk hp hb => ?_, fun hb => ?_, fun hb => ?_, fun hb => ?_, fun j hj hb => ?_, fun j hj hb => ?_, fun j k p hj hk hne hs => ?_, fun k hk hc hb => ?_, fun j hj hb => ?_⟩
  · rw [upd_ne _ _ (Ne.symm (hk i (by simp [isP] at hP; omega)))]; exact h.other k hk
  · by_cases he : k = i
    · subst he; exact upd_eq _ _ _
    · rw [upd_ne _ _ (hD k hk i hi he)]; rw [bUpd_ne _ he] at hb; exact h.pure k hk hp hb
  · rw [bUpd_ne _ (Ne.symm h1)] at hb
    obtain ⟨p, hp, hl⟩ := h.arg0 hb
    exact ⟨p, by rw [upd_ne _ _ (hD 1 (by omega) i hi (Ne.symm h1))]; exact hp, fun h5 => hl (by rwa [bUpd_ne _ (Ne.symm h4)] at h5)⟩
  · rw [bUpd_ne _ (Ne.symm h3)] at hb
    obtain ⟨p, hp, hl⟩ := h.arg1 hb
    exact ⟨p, by rw [upd_ne _ _ (hD 3 (by omega) i hi (Ne.symm h3))]; exact hp, fun h5 => hl (by rwa [bUpd_ne _ (Ne.symm h4)] at h5)⟩
  · rw [bUpd_ne _ (Ne.symm h4)] at hb; exact h.res hb
  · rw [bUpd_ne _ (Ne.symm (h11 j hj))] at hb
    obtain ⟨p, hp, hg, hz, hr⟩ := h.box j hj hb
    refine ⟨p, by rw [upd_ne _ _ (hD (11 + j) (by omega) i hi (Ne.symm (h11 j hj)))]; exact hp, hg, ?_⟩
    rw [bUpd_ne _ (Ne.symm (h15 j hj))]
    exact ⟨hz, hr⟩
  · rw [bUpd_ne _ (Ne.symm (h11 j hj))] at hb
    rw [upd_ne _ _ (hD (11 + j) (by omega) i hi (Ne.symm (h11 j hj)))]
    exact h.nob j hj hb
  · rw [upd_ne _ _ (hD (11 + j) (by omega) i hi (Ne.symm (h11 j hj)))] at hs
    rw [upd_ne _ _ (hD (11 + k) (by omega) i hi (Ne.symm (h11 k hk)))]
    exact h.apart j k p hj hk hne hs
  · by_cases he : k = i
    · subst he; exact bUpd_of (ho hc)
    · rw [bUpd_ne _ he] at hb; exact bUpd_of (h.ord k hk hc hb)
  · rw [bUpd_ne _ (Ne.symm (h15 j hj))] at hb; exact bUpd_of (h.ordS j hj hb)

theorem Sta.argS (hD : ∀ i, i < 20 → ∀ k, k < 20 → i ≠ k → D i ≠ D k) (h : Sta D w0 A0 A1 t0 t1 PT B b σ r w) (i : Nat) (hi : i = 1 ∨ i = 3) (p : Tc) (hl : Lies w 0 (if i = 1 then t0 else t1) p.cells) :
    Sta D w0 A0 A1 t0 t1 PT B (bUpd b i) (upd σ (D i) p.agg) r w := by
  have hi20 : i < 20 := by omega
  refine ⟨fun k hk => ?_, h.below, fun k hk hp hb => ?_, fun hb => ?_, fun hb => ?_, fun hb => ?_, fun j hj hb => ?_, fun j hj hb => ?_, fun j k q hj hk hne hs => ?_, fun k hk hc hb => ?_, fun j hj hb => ?_⟩
  · rw [upd_ne _ _ (Ne.symm (hk i (by omega)))]; exact h.other k hk
  · have he : k ≠ i := by rintro rfl; rcases hi with rfl | rfl <;> simp [isP] at hp
    rw [upd_ne _ _ (hD k hk i hi20 he)]; rw [bUpd_ne _ he] at hb; exact h.pure k hk hp hb
  · by_cases he : i = 1
    · subst he; exact ⟨p, upd_eq _ _ _, fun _ => by simpa using hl⟩
    · rw [bUpd_ne _ (Ne.symm he)] at hb
      obtain ⟨q, hq, hl'⟩ := h.arg0 hb
      exact ⟨q, by rw [upd_ne _ _ (hD 1 (by omega) i hi20 (Ne.symm he))]; exact hq, fun h5 => hl' (by rwa [bUpd_ne _ (by omega)] at h5)⟩
  · by_cases he : i = 3
    · subst he; exact ⟨p, upd_eq _ _ _, fun _ => by simpa using hl⟩
    · rw [bUpd_ne _ (Ne.symm he)] at hb
      obtain ⟨q, hq, hl'⟩ := h.arg1 hb
      exact ⟨q, by rw [upd_ne _ _ (hD 3 (by omega) i hi20 (Ne.symm he))]; exact hq, fun h5 => hl' (by rwa [bUpd_ne _ (by omega)] at h5)⟩
  · rw [bUpd_ne _ (by omega)] at hb; exact h.res hb
  · rw [bUpd_ne _ (by omega)] at hb
    obtain ⟨q, hq, hg, hz, hr⟩ := h.box j hj hb
    refine ⟨q, by rw [upd_ne _ _ (hD (11 + j) (by omega) i hi20 (by omega))]; exact hq, hg, ?_⟩
    rw [bUpd_ne _ (by omega)]
    exact ⟨hz, hr⟩
  · rw [bUpd_ne _ (by omega)] at hb
    rw [upd_ne _ _ (hD (11 + j) (by omega) i hi20 (by omega))]
    exact h.nob j hj hb
  · rw [upd_ne _ _ (hD (11 + j) (by omega) i hi20 (by omega))] at hs
    rw [upd_ne _ _ (hD (11 + k) (by omega) i hi20 (by omega))]
    exact h.apart j k q hj hk hne hs
  · rw [bUpd_ne _ (by omega)] at hb; exact bUpd_of (h.ord k hk hc hb)
  · rw [bUpd_ne _ (by omega)] at hb; exact bUpd_of (h.ordS j hj hb)

theorem Sta.call (hD : ∀ i, i < 20 → ∀ k, k < 20 → i ≠ k → D i ≠ D k) (h : Sta D w0 A0 A1 t0 t1 PT B b σ r w) (h4 : b 4 = false) (r' : Nat → Tc) (hl : ∀ j, j < 4 → Lies w 0 (PT j) (r' j).cells) :
    Sta D w0 A0 A1 t0 t1 PT B (bUpd b 4) (upd σ (D 4) (ansV r' B)) r' w := by
  have hno : ∀ k, k < 20 → (5 ≤ k ∧ k ≤ 10 ∨ 15 ≤ k) → b k = false := fun k hk hc => by
    cases hb : b k with
    | false => rfl
    | true => rw [h.ord k hk hc hb] at h4; cases h4
  refine ⟨fun k hk => ?_, h.below, fun k hk hp hb => ?_, fun hb => ?_, fun hb => ?_, fun _ => hl, fun j hj hb => ?_, fun j hj hb => ?_, fun j k q hj hk hne hs => ?_, fun k hk hc hb => bUpd_eq _ _, fun j hj hb => ?_⟩
  · rw [upd_ne _ _ (Ne.symm (hk 4 (by omega)))]; exact h.other k hk
  · by_cases he : k = 4
    · subst he; exact upd_eq _ _ _
    · rw [upd_ne _ _ (hD k hk 4 (by omega) he)]
      rw [bUpd_ne _ he] at hb
      have hk9 : ¬ (4 ≤ k ∧ k ≤ 9) := fun hc => by rw [hno k hk (Or.inl ⟨by omega, by omega⟩)] at hb; cases hb
      rw [valP_r (r' := r) hk9]
      exact h.pure k hk hp hb
  · rw [bUpd_ne _ (by omega)] at hb
    obtain ⟨q, hq, hl'⟩ := h.arg0 hb
    exact ⟨q, by rw [upd_ne _ _ (hD 1 (by omega) 4 (by omega) (by omega))]; exact hq, fun h5 => by rw [bUpd_eq] at h5; cases h5⟩
  · rw [bUpd_ne _ (by omega)] at hb
    obtain ⟨q, hq, hl'⟩ := h.arg1 hb
    exact ⟨q, by rw [upd_ne _ _ (hD 3 (by omega) 4 (by omega) (by omega))]; exact hq, fun h5 => by rw [bUpd_eq] at h5; cases h5⟩
  · rw [bUpd_ne _ (by omega)] at hb
    obtain ⟨q, hq, hg, hz, hr⟩ := h.box j hj hb
    refine ⟨q, by rw [upd_ne _ _ (hD (11 + j) (by omega) 4 (by omega) (by omega))]; exact hq, hg, ?_⟩
    rw [bUpd_ne _ (by omega)]
    exact ⟨hz, fun hs => by rw [hno (15 + j) (by omega) (Or.inr (by omega))] at hs; cases hs⟩
  · rw [bUpd_ne _ (by omega)] at hb
    rw [upd_ne _ _ (hD (11 + j) (by omega) 4 (by omega) (by omega))]
    exact h.nob j hj hb
  · rw [upd_ne _ _ (hD (11 + j) (by omega) 4 (by omega) (by omega))] at hs
    rw [upd_ne _ _ (hD (11 + k) (by omega) 4 (by omega) (by omega))]
    exact h.apart j k q hj hk hne hs
  · rw [bUpd_ne _ (by omega)] at hb; exact bUpd_of (h.ordS j hj hb)

theorem Sta.alloc (hD : ∀ i, i < 20 → ∀ k, k < 20 → i ≠ k → D i ≠ D k) (h : Sta D w0 A0 A1 t0 t1 PT B b σ r w) (j0 : Nat) (hj0 : j0 < 4) (hb0 : b (11 + j0) = false) :
    Sta D w0 A0 A1 t0 t1 PT B (bUpd b (11 + j0)) (upd σ (D (11 + j0)) (ptr w.heap.size)) r (w.alloc (.cells #[.int .i64 0, .int .i64 0, .string ByteArray.empty, .slice none 0 0] 29)) := by
  have hs0 : b (15 + j0) = false := by
    cases hs : b (15 + j0) with
    | false => rfl
    | true => rw [h.ordS j0 hj0 hs] at hb0; cases hb0
  have hlt : ∀ j p, j < 4 → σ (D (11 + j)) = some (ptr p) → p < w.heap.size := fun j p hj hs => by
    cases hb : b (11 + j) with
    | false => rw [h.nob j hj hb] at hs; cases hs
    | true =>
      obtain ⟨q, hq, -, hz, hr⟩ := h.box j hj hb
      rw [hq] at hs
      simp only [Option.some.injEq, Value.pointer.injEq, Addr.mk.injEq, and_true] at hs
      subst hs
      cases hb2 : b (15 + j) with
      | false => exact lt_of_heap (hz hb2)
      | true => exact RowT.lt (hr hb2)
  have hw := h.world (ab (w := w) (.cells #[.int .i64 0, .int .i64 0, .string ByteArray.empty, .slice none 0 0] 29))
  have hz0 := ZBox.new w
  have hg0 := h.below.size
  refine ⟨fun k hk => ?_, hw.below, fun k hk hp hb => ?_, fun hb => ?_, fun hb => ?_, fun hb => ?_, fun j hj hb => ?_, fun j hj hb => ?_, fun j k q hj hk hne hs => ?_, fun k hk hc hb => ?_, fun j hj hb => ?_⟩
  · rw [upd_ne _ _ (Ne.symm (hk (11 + j0) (by omega)))]; exact h.other k hk
  · have he : k ≠ 11 + j0 := by rintro rfl; simp [isP] at hp; omega
    rw [upd_ne _ _ (hD k hk (11 + j0) (by omega) he)]; rw [bUpd_ne _ he] at hb; exact h.pure k hk hp hb
  · rw [bUpd_ne _ (by omega)] at hb
    obtain ⟨q, hq, hl'⟩ := hw.arg0 hb
    exact ⟨q, by rw [upd_ne _ _ (hD 1 (by omega) (11 + j0) (by omega) (by omega))]; exact hq, fun h5 => hl' (by rwa [bUpd_ne _ (by omega)] at h5)⟩
  · rw [bUpd_ne _ (by omega)] at hb
    obtain ⟨q, hq, hl'⟩ := hw.arg1 hb
    exact ⟨q, by rw [upd_ne _ _ (hD 3 (by omega) (11 + j0) (by omega) (by omega))]; exact hq, fun h5 => hl' (by rwa [bUpd_ne _ (by omega)] at h5)⟩
  · rw [bUpd_ne _ (by omega)] at hb; exact hw.res hb
  · by_cases he : j = j0
    · subst he
      refine ⟨w.heap.size, upd_eq _ _ _, hg0, fun _ => hz0, fun hs => ?_⟩
      rw [bUpd_ne _ (by omega), hs0] at hs; cases hs
    · rw [bUpd_ne _ (by omega)] at hb
      obtain ⟨q, hq, hg, hz, hr⟩ := hw.box j hj hb
      refine ⟨q, by rw [upd_ne _ _ (hD (11 + j) (by omega) (11 + j0) (by omega) (by omega))]; exact hq, hg, ?_⟩
      rw [bUpd_ne _ (by omega)]
      exact ⟨hz, hr⟩
  · by_cases he : j = j0
    · subst he; rw [bUpd_eq] at hb; cases hb
    · rw [bUpd_ne _ (by omega)] at hb
      rw [upd_ne _ _ (hD (11 + j) (by omega) (11 + j0) (by omega) (by omega))]
      exact h.nob j hj hb
  · by_cases he : j = j0
    · subst he
      rw [upd_eq] at hs
      simp only [Option.some.injEq, Value.pointer.injEq, Addr.mk.injEq, and_true] at hs
      subst hs
      rw [upd_ne _ _ (hD (11 + k) (by omega) (11 + j) (by omega) (by omega))]
      intro hc
      exact Nat.lt_irrefl _ (hlt k _ hk hc)
    · rw [upd_ne _ _ (hD (11 + j) (by omega) (11 + j0) (by omega) (by omega))] at hs
      by_cases he2 : k = j0
      · subst he2
        rw [upd_eq]
        intro hc
        simp only [Option.some.injEq, Value.pointer.injEq, Addr.mk.injEq, and_true] at hc
        have := hlt j q hj hs
        omega
      · rw [upd_ne _ _ (hD (11 + k) (by omega) (11 + j0) (by omega) (by omega))]
        exact h.apart j k q hj hk hne hs
  · rw [bUpd_ne _ (by omega)] at hb; exact bUpd_of (h.ord k hk hc hb)
  · rw [bUpd_ne _ (by omega)] at hb; exact bUpd_of (h.ordS j hj hb)

theorem Sta.store (h : Sta D w0 A0 A1 t0 t1 PT B b σ r w) (hk : ∀ j, j < 4 → KidsOk (PT j)) (j0 : Nat) (hj0 : j0 < 4) (h4 : b 4 = true) (h11 : b (11 + j0) = true) (hs0 : b (15 + j0) = false) (p : Nat) (hp : σ (D (11 + j0)) = some (ptr p)) :
    ZBox w p ∧ Sta D w0 A0 A1 t0 t1 PT B (bUpd b (15 + j0)) σ r (fillT w p (r j0)) := by
  obtain ⟨p', hp', hg, hz, -⟩ := h.box j0 hj0 h11
  rw [hp'] at hp
  simp only [Option.some.injEq, Value.pointer.injEq, Addr.mk.injEq, and_true] at hp
  subst hp
  have hz1 := hz hs0
  clear hz
  refine ⟨hz1, h.other, set4_below h.below hg, fun k hk hp hb => ?_, fun hb => ?_, fun hb => ?_, fun hb j hj => ?_, fun j hj hb => ?_, fun j hj hb => ?_, h.apart, fun k hk hc hb => bUpd_of h4, fun j hj hb => ?_⟩
  · have he : k ≠ 15 + j0 := by rintro rfl; simp [isP] at hp; omega
    rw [bUpd_ne _ he] at hb; exact h.pure k hk hp hb
  · rw [bUpd_ne _ (by omega)] at hb
    obtain ⟨q, hq, -⟩ := h.arg0 hb
    exact ⟨q, hq, fun h5 => by rw [bUpd_of h4] at h5; cases h5⟩
  · rw [bUpd_ne _ (by omega)] at hb
    obtain ⟨q, hq, -⟩ := h.arg1 hb
    exact ⟨q, hq, fun h5 => by rw [bUpd_of h4] at h5; cases h5⟩
  · exact Lies.apartK hz1 (fun b _ hne => World.cell?_of_block (set4_heap _ _ _ _ _ _ b hne)) _ _ (hk j hj) (h.res h4 j hj)
  · rw [bUpd_ne _ (by omega)] at hb
    obtain ⟨q, hq, hg2, hz2, hr2⟩ := h.box j hj hb
    by_cases he : j = j0
    · subst he
      rw [hp'] at hq
      simp only [Option.some.injEq, Value.pointer.injEq, Addr.mk.injEq, and_true] at hq
      subst hq
      exact ⟨_, hp', hg, (fun hs => by rw [bUpd_eq] at hs; cases hs), fun _ => fill26 hz1 _ _ _ _ _ _⟩
    · have hne : q ≠ p' := by
        rintro rfl
        exact h.apart j j0 q hj hj0 he hq hp'
      refine ⟨q, hq, hg2, fun hs => ?_, fun hs => ?_⟩
      · rw [bUpd_ne _ (by omega)] at hs
        exact (set4_heap _ _ _ _ _ _ q hne).trans (hz2 hs)
      · rw [bUpd_ne _ (by omega)] at hs
        exact RowT.other (hr2 hs) hne
  · rw [bUpd_ne _ (by omega)] at hb
    exact h.nob j hj hb
  · by_cases he : j = j0
    · subst he; exact bUpd_of h11
    · rw [bUpd_ne _ (by omega)] at hb; exact bUpd_of (h.ordS j hj hb)
end

theorem wpAnyH_inv {P : Program} {md : Region.Mode} {ops : Array Oper} {Q : Exit → Act → World → Prop} {S : World → Prop} (I : Nat → Array Bool → Act → World → Prop)
    (hs : ∀ n l a w, I n l a w → wpAnyH P md ops Q S n l a w ∨ ∃ m, n = m + 1 ∧ Region.ready md ops l ≠ [] ∧ ∀ i ∈ Region.ready md ops l, wpOp P ops Q i (fun a' w' => S w' ∧ I m (l.setIfInBounds i true) a' w') a w) :
    ∀ n l a w, I n l a w → wpAnyH P md ops Q S n l a w := by
  intro n
  induction n with
  | zero =>
    intro l a w h
    rcases hs 0 l a w h with h | ⟨m, hm, _⟩
    · exact h
    · cases hm
  | succ n ih =>
    intro l a w h
    rcases hs (n + 1) l a w h with h | ⟨m, hm, hne, h⟩
    · exact h
    · obtain rfl : n = m := by omega
      exact ⟨fun h0 => absurd h0 hne, fun i hi => wpOp_mono (fun a' w' h => ⟨h.1, ih _ _ _ h.2⟩) (h i hi)⟩
theorem ov_same {a0 : Act} {σ : Nat → Option Value} (h : ∀ k v, σ k = some v → k < a0.tmps.size ∧ a0.eval (.tmp k) = v) : ov a0 σ = a0 := by
  cases a0
  simp only [ov, Act.mk.injEq, and_true]
  apply Array.ext_getElem?
  intro k
  rw [Array.getElem?_mapIdx]
  cases hk : σ k with
  | none => simp
  | some v =>
    obtain ⟨h1, h2⟩ := h k v hk
    simp only [Act.eval] at h2
    simp at h1
    simp [h1] at h2 ⊢
    exact h2.symm
def L21 (b : Nat → Bool) : Array Bool := #[true, true, true, true, true, b 4, b 5, b 6, b 7, b 8, b 9, b 10, b 11, b 12, b 13, b 14, b 15, b 16, b 17, b 18, b 19]
def cnt16 (b : Nat → Bool) : Nat := cond (b 4) 0 1 + cond (b 5) 0 1 + cond (b 6) 0 1 + cond (b 7) 0 1 + cond (b 8) 0 1 + cond (b 9) 0 1 + cond (b 10) 0 1 + cond (b 11) 0 1 + cond (b 12) 0 1 + cond (b 13) 0 1 + cond (b 14) 0 1 + cond (b 15) 0 1 + cond (b 16) 0 1 + cond (b 17) 0 1 + cond (b 18) 0 1 + cond (b 19) 0 1
theorem cnt16_zero {b : Nat → Bool} (h : cnt16 b = 0) : ∀ i, 4 ≤ i → i < 20 → b i = true := by
  have key : ∀ x : Bool, cond x 0 1 = 0 → x = true := by decide
  intro i hi0 hi
  unfold cnt16 at h
  obtain rfl | rfl | rfl | rfl | rfl | rfl | rfl | rfl | rfl | rfl | rfl | rfl | rfl | rfl | rfl | rfl : i = 4 ∨ i = 5 ∨ i = 6 ∨ i = 7 ∨ i = 8 ∨ i = 9 ∨ i = 10 ∨ i = 11 ∨ i = 12 ∨ i = 13 ∨ i = 14 ∨ i = 15 ∨ i = 16 ∨ i = 17 ∨ i = 18 ∨ i = 19 := by omega
  all_goals exact key _ (by omega)
theorem cnt16_upd {b : Nat → Bool} {i : Nat} (hi0 : 4 ≤ i) (hi : i < 20) (hb : b i = false) : cnt16 (bUpd b i) + 1 = cnt16 b := by
  obtain rfl | rfl | rfl | rfl | rfl | rfl | rfl | rfl | rfl | rfl | rfl | rfl | rfl | rfl | rfl | rfl : i = 4 ∨ i = 5 ∨ i = 6 ∨ i = 7 ∨ i = 8 ∨ i = 9 ∨ i = 10 ∨ i = 11 ∨ i = 12 ∨ i = 13 ∨ i = 14 ∨ i = 15 ∨ i = 16 ∨ i = 17 ∨ i = 18 ∨ i = 19 := by omega
  all_goals
    simp [cnt16, bUpd, hb]
    try omega
def ops25 : Array Oper := #[{ dst := some 244, op := Op.fieldAddr 29 (Operand.tmp 4) 3, type := 0, pos := "laws.go:533", after := #[], guard := none }, { dst := some 245, op := Op.load 27 (Operand.tmp 244), type := 27, pos := "laws.go:533", after := #[{ on := 0, ground := Ground.data }], guard := none }, { dst := some 246, op := Op.indexAddr 27 (Operand.tmp 245) (Operand.const (Value.int IntKind.i64 0)), type := 0, pos := "laws.go:533", after := #[{ on := 1, ground := Ground.data }], guard := none }, { dst := some 247, op := Op.load 29 (Operand.tmp 246), type := 29, pos := "laws.go:533", after := #[{ on := 2, ground := Ground.data }], guard := none }, { dst := some 248, op := Op.load 29 (Operand.tmp 7), type := 29, pos := "laws.go:533", after := #[], guard := none }, { dst := some 249, op := Op.call { callee := Callee.value (Operand.func 19), args := #[Operand.tmp 247, Operand.tmp 248], argTypes := #[29, 29] }, type := 41, pos := "laws.go:533", after := #[{ on := 3, ground := Ground.data }, { on := 4, ground := Ground.data }], guard := none }, { dst := some 243, op := Op.move (Operand.tmp 249), type := 41, pos := "laws.go:533", after := #[{ on := 5, ground := Ground.data }], guard := none }, { dst := some 250, op := Op.extract (Operand.tmp 243) 0, type := 29, pos := "laws.go:533", after := #[{ on := 6, ground := Ground.data }], guard := none }, { dst := some 251, op := Op.extract (Operand.tmp 243) 1, type := 29, pos := "laws.go:533", after := #[{ on := 6, ground := Ground.data }, { on := 16, ground := Ground.gcOnly Departure.lateStores }], guard := none }, { dst := some 252, op := Op.extract (Operand.tmp 243) 2, type := 29, pos := "laws.go:533", after := #[{ on := 6, ground := Ground.data }, { on := 17, ground := Ground.gcOnly Departure.lateStores }], guard := none }, { dst := some 253, op := Op.extract (Operand.tmp 243) 3, type := 29, pos := "laws.go:533", after := #[{ on := 6, ground := Ground.data }, { on := 18, ground := Ground.gcOnly Departure.lateStores }], guard := none }, { dst := some 254, op := Op.extract (Operand.tmp 243) 4, type := 4, pos := "laws.go:533", after := #[{ on := 6, ground := Ground.data }, { on := 19, ground := Ground.gcOnly Departure.lateStores }], guard := none }, { dst := some 40, op := Op.alloc 29, type := 0, pos := "laws.go:533", after := #[], guard := none }, { dst := some 41, op := Op.alloc 29, type := 0, pos := "laws.go:533", after := #[], guard := none }, { dst := some 42, op := Op.alloc 29, type := 0, pos := "laws.go:533", after := #[], guard := none }, { dst := some 43, op := Op.alloc 29, type := 0, pos := "laws.go:533", after := #[], guard := none }, { dst := none, op := Op.store 29 (Operand.tmp 40) (Operand.tmp 250), type := 0, pos := "laws.go:533", after := #[{ on := 12, ground := Ground.data }, { on := 7, ground := Ground.data }, { on := 5, ground := Ground.chain }, { on := 0, ground := Ground.phase }, { on := 1, ground := Ground.phase }, { on := 2, ground := Ground.phase }, { on := 3, ground := Ground.phase }, { on := 4, ground := Ground.phase }, { on := 5, ground := Ground.phase }, { on := 6, ground := Ground.phase }, { on := 7, ground := Ground.phase }, { on := 8, ground := Ground.textOnly Departure.lateStores }, { on := 9, ground := Ground.textOnly Departure.lateStores }, { on := 10, ground := Ground.textOnly Departure.lateStores }, { on := 11, ground := Ground.textOnly Departure.lateStores }, { on := 12, ground := Ground.phase }, { on := 13, ground := Ground.phase }, { on := 14, ground := Ground.phase }, { on := 15, ground := Ground.phase }], guard := none }, { dst := none, op := Op.store 29 (Operand.tmp 41) (Operand.tmp 251), type := 0, pos := "laws.go:533", after := #[{ on := 13, ground := Ground.data }, { on := 8, ground := Ground.data }, { on := 16, ground := Ground.chain }, { on := 0, ground := Ground.phase }, { on := 1, ground := Ground.phase }, { on := 2, ground := Ground.phase }, { on := 3, ground := Ground.phase }, { on := 4, ground := Ground.phase }, { on := 5, ground := Ground.phase }, { on := 6, ground := Ground.phase }, { on := 7, ground := Ground.phase }, { on := 8, ground := Ground.phase }, { on := 9, ground := Ground.textOnly Departure.lateStores }, { on := 10, ground := Ground.textOnly Departure.lateStores }, { on := 11, ground := Ground.textOnly Departure.lateStores }, { on := 12, ground := Ground.phase }, { on := 13, ground := Ground.phase }, { on := 14, ground := Ground.phase }, { on := 15, ground := Ground.phase }, { on := 16, ground := Ground.phase }], guard := none }, { dst := none, op := Op.store 29 (Operand.tmp 42) (Operand.tmp 252), type := 0, pos := "laws.go:533", after := #[{ on := 14, ground := Ground.data }, { on := 9, ground := Ground.data }, { on := 17, ground := Ground.chain }, { on := 0, ground := Ground.phase }, { on := 1, ground := Ground.phase }, { on := 2, ground := Ground.phase }, { on := 3, ground := Ground.phase }, { on := 4, ground := Ground.phase }, { on := 5, ground := Ground.phase }, { on := 6, ground := Ground.phase }, { on := 7, ground := Ground.phase }, { on := 8, ground := Ground.phase }, { on := 9, ground := Ground.phase }, { on := 10, ground := Ground.textOnly Departure.lateStores }, { on := 11, ground := Ground.textOnly Departure.lateStores }, { on := 12, ground := Ground.phase }, { on := 13, ground := Ground.phase }, { on := 14, ground := Ground.phase }, { on := 15, ground := Ground.phase }, { on := 16, ground := Ground.phase }, { on := 17, ground := Ground.phase }], guard := none }, { dst := none, op := Op.store 29 (Operand.tmp 43) (Operand.tmp 253), type := 0, pos := "laws.go:533", after := #[{ on := 15, ground := Ground.data }, { on := 10, ground := Ground.data }, { on := 18, ground := Ground.chain }, { on := 0, ground := Ground.phase }, { on := 1, ground := Ground.phase }, { on := 2, ground := Ground.phase }, { on := 3, ground := Ground.phase }, { on := 4, ground := Ground.phase }, { on := 5, ground := Ground.phase }, { on := 6, ground := Ground.phase }, { on := 7, ground := Ground.phase }, { on := 8, ground := Ground.phase }, { on := 9, ground := Ground.phase }, { on := 10, ground := Ground.phase }, { on := 11, ground := Ground.textOnly Departure.lateStores }, { on := 12, ground := Ground.phase }, { on := 13, ground := Ground.phase }, { on := 14, ground := Ground.phase }, { on := 15, ground := Ground.phase }, { on := 16, ground := Ground.phase }, { on := 17, ground := Ground.phase }, { on := 18, ground := Ground.phase }], guard := none }, { dst := some 44, op := Op.assign (Operand.tmp 254), type := 4, pos := "laws.go:533", after := #[{ on := 11, ground := Ground.data }, { on := 19, ground := Ground.chain }, { on := 0, ground := Ground.phase }, { on := 1, ground := Ground.phase }, { on := 2, ground := Ground.phase }, { on := 3, ground := Ground.phase }, { on := 4, ground := Ground.phase }, { on := 5, ground := Ground.phase }, { on := 6, ground := Ground.phase }, { on := 7, ground := Ground.phase }, { on := 8, ground := Ground.phase }, { on := 9, ground := Ground.phase }, { on := 10, ground := Ground.phase }, { on := 11, ground := Ground.phase }, { on := 12, ground := Ground.phase }, { on := 13, ground := Ground.phase }, { on := 14, ground := Ground.phase }, { on := 15, ground := Ground.phase }, { on := 16, ground := Ground.phase }, { on := 17, ground := Ground.phase }, { on := 18, ground := Ground.phase }, { on := 19, ground := Ground.phase }], guard := none }]
def dst25 : Nat → Nat
  | 0 => 245 | 1 => 247 | 2 => 246 | 3 => 248 | 4 => 249 | 5 => 243 | 6 => 250 | 7 => 251 | 8 => 252 | 9 => 253 | 10 => 254 | 11 => 40 | 12 => 41 | 13 => 42 | 14 => 43 | 19 => 44 | n => 1000 + n
theorem inj25 : ∀ i, i < 20 → ∀ k, k < 20 → i ≠ k → dst25 i ≠ dst25 k := by decide
theorem up25 {b : Nat → Bool} {i : Nat} (hi : i ∈ Region.ready .any ops25 (L21 b)) (ons : List Nat) (ho : (ops25[i]?).map (fun o => (o.after.toList.filter (Region.binds .any)).map (·.on)) = some ons) :
    (L21 b).getD i true = false ∧ ∀ k ∈ ons, (L21 b).getD k false = true := by
  obtain ⟨h0, o', ho', ha⟩ := mem_ready.1 hi
  rw [ho'] at ho
  cases ho
  refine ⟨h0, fun k hk => ?_⟩
  obtain ⟨e, he, rfl⟩ := List.mem_map.1 hk
  obtain ⟨h1, h2⟩ := List.mem_filter.1 he
  exact ha e (Array.mem_toList_iff.1 h1) h2
theorem lt25 {b : Nat → Bool} {i : Nat} (hi : i ∈ Region.ready .any ops25 (L21 b)) : 5 ≤ i ∧ i < 21 := by
  obtain ⟨h0, o, ho, _⟩ := mem_ready.1 hi
  have hlt : i < 21 := (Array.getElem?_eq_some_iff.1 ho).1
  refine ⟨?_, hlt⟩
  by_cases h5 : 5 ≤ i
  · exact h5
  · obtain rfl | rfl | rfl | rfl | rfl : i = 0 ∨ i = 1 ∨ i = 2 ∨ i = 3 ∨ i = 4 := by omega
    all_goals (simp [L21] at h0)
theorem done25 (b : Nat → Bool) (h : Region.ready .any ops25 (L21 b) = []) : ∀ i, 4 ≤ i → i < 20 → b i = true := by
  have key : ∀ i (ons : List Nat), (ops25[i]?).map (fun o => (o.after.toList.filter (Region.binds .any)).map (·.on)) = some ons → (∀ k ∈ ons, (L21 b).getD k false = true) → (L21 b).getD i true = true := by
    intro i ons ho ha
    cases hc : (L21 b).getD i true with
    | true => rfl
    | false =>
      obtain ⟨o, h1, h2⟩ := Option.map_eq_some_iff.1 ho
      have : i ∈ Region.ready .any ops25 (L21 b) := mem_ready.2 ⟨hc, o, h1, fun e he hbn => ha e.on (by rw [← h2]; exact List.mem_map.2 ⟨e, List.mem_filter.2 ⟨Array.mem_toList_iff.2 he, hbn⟩, rfl⟩)⟩
      rw [h] at this
      cases this
  have r0 : (L21 b).getD 0 false = true := rfl
  have r1 : (L21 b).getD 1 false = true := rfl
  have r2 : (L21 b).getD 2 false = true := rfl
  have r3 : (L21 b).getD 3 false = true := rfl
  have r4 : (L21 b).getD 4 false = true := rfl
  have r12 : b 11 = true := key 12 [] rfl (by intro k hk; cases hk)
  have r13 : b 12 = true := key 13 [] rfl (by intro k hk; cases hk)
  have r14 : b 13 = true := key 14 [] rfl (by intro k hk; cases hk)
  have r15 : b 14 = true := key 15 [] rfl (by intro k hk; cases hk)
  have r5 : b 4 = true := key 5 [3, 4] rfl (by intro k hk; simp only [List.mem_cons, List.not_mem_nil, or_false] at hk; rcases hk with rfl | rfl <;> assumption)
  have r6 : b 5 = true := key 6 [5] rfl (by intro k hk; simp only [List.mem_cons, List.not_mem_nil, or_false] at hk; rcases hk with rfl <;> assumption)
  have r7 : b 6 = true := key 7 [6] rfl (by intro k hk; simp only [List.mem_cons, List.not_mem_nil, or_false] at hk; rcases hk with rfl <;> assumption)
  have r8 : b 7 = true := key 8 [6] rfl (by intro k hk; simp only [List.mem_cons, List.not_mem_nil, or_false] at hk; rcases hk with rfl <;> assumption)
  have r9 : b 8 = true := key 9 [6] rfl (by intro k hk; simp only [List.mem_cons, List.not_mem_nil, or_false] at hk; rcases hk with rfl <;> assumption)
  have r10 : b 9 = true := key 10 [6] rfl (by intro k hk; simp only [List.mem_cons, List.not_mem_nil, or_false] at hk; rcases hk with rfl <;> assumption)
  have r11 : b 10 = true := key 11 [6] rfl (by intro k hk; simp only [List.mem_cons, List.not_mem_nil, or_false] at hk; rcases hk with rfl <;> assumption)
  have r16 : b 15 = true := key 16 [12, 7, 5, 0, 1, 2, 3, 4, 5, 6, 7, 12, 13, 14, 15] rfl (by intro k hk; simp only [List.mem_cons, List.not_mem_nil, or_false] at hk; rcases hk with rfl | rfl | rfl | rfl | rfl | rfl | rfl | rfl | rfl | rfl | rfl | rfl | rfl | rfl | rfl <;> assumption)
  have r17 : b 16 = true := key 17 [13, 8, 16, 0, 1, 2, 3, 4, 5, 6, 7, 8, 12, 13, 14, 15, 16] rfl (by intro k hk; simp only [List.mem_cons, List.not_mem_nil, or_false] at hk; rcases hk with rfl | rfl | rfl | rfl | rfl | rfl | rfl | rfl | rfl | rfl | rfl | rfl | rfl | rfl | rfl | rfl | rfl <;> assumption)
  have r18 : b 17 = true := key 18 [14, 9, 17, 0, 1, 2, 3, 4, 5, 6, 7, 8, 9, 12, 13, 14, 15, 16, 17] rfl (by intro k hk; simp only [List.mem_cons, List.not_mem_nil, or_false] at hk; rcases hk with rfl | rfl | rfl | rfl | rfl | rfl | rfl | rfl | rfl | rfl | rfl | rfl | rfl | rfl | rfl | rfl | rfl | rfl | rfl <;> assumption)
  have r19 : b 18 = true := key 19 [15, 10, 18, 0, 1, 2, 3, 4, 5, 6, 7, 8, 9, 10, 12, 13, 14, 15, 16, 17, 18] rfl (by intro k hk; simp only [List.mem_cons, List.not_mem_nil, or_false] at hk; rcases hk with rfl | rfl | rfl | rfl | rfl | rfl | rfl | rfl | rfl | rfl | rfl | rfl | rfl | rfl | rfl | rfl | rfl | rfl | rfl | rfl | rfl <;> assumption)
  have r20 : b 19 = true := key 20 [11, 19, 0, 1, 2, 3, 4, 5, 6, 7, 8, 9, 10, 11, 12, 13, 14, 15, 16, 17, 18, 19] rfl (by intro k hk; simp only [List.mem_cons, List.not_mem_nil, or_false] at hk; rcases hk with rfl | rfl | rfl | rfl | rfl | rfl | rfl | rfl | rfl | rfl | rfl | rfl | rfl | rfl | rfl | rfl | rfl | rfl | rfl | rfl | rfl | rfl <;> assumption)
  intro i hi0 hi
  obtain rfl | rfl | rfl | rfl | rfl | rfl | rfl | rfl | rfl | rfl | rfl | rfl | rfl | rfl | rfl | rfl : i = 4 ∨ i = 5 ∨ i = 6 ∨ i = 7 ∨ i = 8 ∨ i = 9 ∨ i = 10 ∨ i = 11 ∨ i = 12 ∨ i = 13 ∨ i = 14 ∨ i = 15 ∨ i = 16 ∨ i = 17 ∨ i = 18 ∨ i = 19 := by omega
  all_goals assumption
theorem frame25 (a0 : Act) (σ : Nat → Option Value) (v0 v1 v2 v3 v4 v5 v6 v7 v8 v9 v10 v11 v12 v13 v14 v19 : Value) (hoth : ∀ k, (∀ i, (i < 15 ∨ i = 19) → dst25 i ≠ k) → σ k = none)
    (x0 : σ 245 = some v0) (x1 : σ 247 = some v1) (x2 : σ 246 = some v2) (x3 : σ 248 = some v3) (x4 : σ 249 = some v4) (x5 : σ 243 = some v5) (x6 : σ 250 = some v6) (x7 : σ 251 = some v7) (x8 : σ 252 = some v8) (x9 : σ 253 = some v9) (x10 : σ 254 = some v10) (x11 : σ 40 = some v11) (x12 : σ 41 = some v12) (x13 : σ 42 = some v13) (x14 : σ 43 = some v14) (x19 : σ 44 = some v19) :
    ov a0 σ = ((((((((((((((((a0.put (some 245) (v0)).put (some 247) (v1)).put (some 246) (v2)).put (some 248) (v3)).put (some 249) (v4)).put (some 243) (v5)).put (some 250) (v6)).put (some 251) (v7)).put (some 252) (v8)).put (some 253) (v9)).put (some 254) (v10)).put (some 40) (v11)).put (some 41) (v12)).put (some 42) (v13)).put (some 43) (v14)).put (some 44) (v19)) := by
  have h : σ = (upd (upd (upd (upd (upd (upd (upd (upd (upd (upd (upd (upd (upd (upd (upd (upd (fun _ => none) 245 v0) 247 v1) 246 v2) 248 v3) 249 v4) 243 v5) 250 v6) 251 v7) 252 v8) 253 v9) 254 v10) 40 v11) 41 v12) 42 v13) 43 v14) 44 v19) := by
    funext k
    by_cases h0 : k = 245
    · subst h0; simp [upd, x0]
    by_cases h1 : k = 247
    · subst h1; simp [upd, x1]
    by_cases h2 : k = 246
    · subst h2; simp [upd, x2]
    by_cases h3 : k = 248
    · subst h3; simp [upd, x3]
    by_cases h4 : k = 249
    · subst h4; simp [upd, x4]
    by_cases h5 : k = 243
    · subst h5; simp [upd, x5]
    by_cases h6 : k = 250
    · subst h6; simp [upd, x6]
    by_cases h7 : k = 251
    · subst h7; simp [upd, x7]
    by_cases h8 : k = 252
    · subst h8; simp [upd, x8]
    by_cases h9 : k = 253
    · subst h9; simp [upd, x9]
    by_cases h10 : k = 254
    · subst h10; simp [upd, x10]
    by_cases h11 : k = 40
    · subst h11; simp [upd, x11]
    by_cases h12 : k = 41
    · subst h12; simp [upd, x12]
    by_cases h13 : k = 42
    · subst h13; simp [upd, x13]
    by_cases h14 : k = 43
    · subst h14; simp [upd, x14]
    by_cases h19 : k = 44
    · subst h19; simp [upd, x19]
    rw [hoth k (fun i hi => ?_)]
    · simp [upd, h0, h1, h2, h3, h4, h5, h6, h7, h8, h9, h10, h11, h12, h13, h14, h19]
    · obtain rfl | rfl | rfl | rfl | rfl | rfl | rfl | rfl | rfl | rfl | rfl | rfl | rfl | rfl | rfl | rfl : i = 0 ∨ i = 1 ∨ i = 2 ∨ i = 3 ∨ i = 4 ∨ i = 5 ∨ i = 6 ∨ i = 7 ∨ i = 8 ∨ i = 9 ∨ i = 10 ∨ i = 11 ∨ i = 12 ∨ i = 13 ∨ i = 14 ∨ i = 19 := by omega
      all_goals (simp only [dst25]; omega)
  rw [h]
  simp only [← ov_put, ov_none]

set_option maxRecDepth 10000 in
set_option maxHeartbeats 1000000 in
theorem row25 {Q : Exit → Act → World → Prop} {S : World → Prop} (a0 : Act) (w0 : World) (hsz : a0.tmps.size = 288) (q0 q1 : Tc) (A0 A1 : Value) (t0 t1 : Tm) (PT : Nat → Tm) (B : Bool)
    (e0 : a0.eval (.tmp 245) = A0) (e2 : a0.eval (.tmp 246) = A1) (e1 : a0.eval (.tmp 247) = q0.agg) (e3 : a0.eval (.tmp 248) = q1.agg) (l0 : Lies w0 0 t0 q0.cells) (l1 : Lies w0 0 t1 q1.cells) (hK : ∀ j, j < 4 → KidsOk (PT j))
    (hSS : ∀ V, Below w0.heap.size w0 V → S V)
    (hF : ∀ (p q : Tc) V, Below w0.heap.size w0 V → Lies V 0 t0 p.cells → Lies V 0 t1 q.cells → Calls Tryz.prog 19 #[p.agg, q.agg] V fun e w' => ∃ r : Nat → Tc, e = .returned (ansV r B) ∧ (∀ j, j < 4 → Lies w' 0 (PT j) (r j).cells) ∧ Below V.heap.size V w')
    (hfin : ∀ (p0 p1 p2 p3 : Nat) (q0 q1 : Tc) (r : Nat → Tc) (y : World), Rw y p0 (r 0) → Rw y p1 (r 1) → Rw y p2 (r 2) → Rw y p3 (r 3) → (∀ j, j < 4 → Lies y 0 (PT j) (r j).cells) → Below w0.heap.size w0 y →
      Q .normal ((((((((((((((((a0.put (some 245) (A0)).put (some 247) (q0.agg)).put (some 246) (A1)).put (some 248) (q1.agg)).put (some 249) (ansV r B)).put (some 243) (ansV r B)).put (some 250) ((r 0).agg)).put (some 251) ((r 1).agg)).put (some 252) ((r 2).agg)).put (some 253) ((r 3).agg)).put (some 254) (.bool B)).put (some 40) (ptr p0)).put (some 41) (ptr p1)).put (some 42) (ptr p2)).put (some 43) (ptr p3)).put (some 44) (.bool B)) y) :
    wpAnyH Tryz.prog .any ops25 Q S 16 (L21 (bUpd (bUpd (bUpd (bUpd (fun _ => false) 0) 2) 1) 3)) a0 w0 := by
  have h0 : Sta dst25 w0 A0 A1 t0 t1 PT B (bUpd (bUpd (bUpd (bUpd (fun _ => false) 0) 2) 1) 3) (upd (upd (upd (upd (fun _ => none) 245 A0) 246 A1) 247 q0.agg) 248 q1.agg) (fun _ => ⟨0, 0, ByteArray.empty, none, 0, 0⟩) w0 :=
    ((((Sta.start dst25 w0 A0 A1 t0 t1 PT B (fun _ => ⟨0, 0, ByteArray.empty, none, 0, 0⟩)).put inj25 0 (by omega) rfl (by omega) (by omega)).put inj25 2 (by omega) rfl (by omega) (by omega)).argS inj25 1 (by omega) q0 (by simpa using l0)).argS inj25 3 (by omega) q1 (by simpa using l1)
  have ha : a0 = ov a0 (upd (upd (upd (upd (fun _ => none) 245 A0) 246 A1) 247 q0.agg) 248 q1.agg) := by
    refine (ov_same fun k v hk => ?_).symm
    unfold upd at hk
    split at hk
    · rename_i h; subst h; cases hk; exact ⟨by omega, e3⟩
    · split at hk
      · rename_i h; subst h; cases hk; exact ⟨by omega, e1⟩
      · split at hk
        · rename_i h; subst h; cases hk; exact ⟨by omega, e2⟩
        · split at hk
          · rename_i h; subst h; cases hk; exact ⟨by omega, e0⟩
          · cases hk
  refine wpAnyH_inv (P := Tryz.prog) (md := .any) (ops := ops25) (Q := Q) (S := S) (fun n l a w => ∃ b σ r, l = L21 b ∧ a = ov a0 σ ∧ Sta dst25 w0 A0 A1 t0 t1 PT B b σ r w ∧ (b 0 = true ∧ b 1 = true ∧ b 2 = true ∧ b 3 = true) ∧ cnt16 b ≤ n) ?_ 16 _ _ _ ⟨_, _, _, rfl, ha, h0, ⟨rfl, rfl, rfl, rfl⟩, by decide⟩
  rintro n l a w ⟨b, σ, r, rfl, rfl, hS, ⟨b0, b1, b2, b3⟩, hn⟩
  have ev : ∀ (d : Nat) v, d < 288 → σ d = some v → (ov a0 σ).eval (.tmp d) = v := fun v d hd h => ov_new h (by omega)
  by_cases hall : ∀ i, 4 ≤ i → i < 20 → b i = true
  · left
    have hl : L21 b = L21 fun _ => true := by
      unfold L21
      rw [hall 4 (by omega) (by omega), hall 5 (by omega) (by omega), hall 6 (by omega) (by omega), hall 7 (by omega) (by omega), hall 8 (by omega) (by omega), hall 9 (by omega) (by omega), hall 10 (by omega) (by omega), hall 11 (by omega) (by omega), hall 12 (by omega) (by omega), hall 13 (by omega) (by omega), hall 14 (by omega) (by omega), hall 15 (by omega) (by omega), hall 16 (by omega) (by omega), hall 17 (by omega) (by omega), hall 18 (by omega) (by omega), hall 19 (by omega) (by omega)]
    rw [hl]
    refine wpAnyH_done (by kernel_rfl) ?_ _
    obtain ⟨y0, x1, -⟩ := hS.arg0 b1
    obtain ⟨y1, x3, -⟩ := hS.arg1 b3
    obtain ⟨p0, x11, -, -, R0⟩ := hS.box 0 (by omega) (hall 11 (by omega) (by omega))
    obtain ⟨p1, x12, -, -, R1⟩ := hS.box 1 (by omega) (hall 12 (by omega) (by omega))
    obtain ⟨p2, x13, -, -, R2⟩ := hS.box 2 (by omega) (hall 13 (by omega) (by omega))
    obtain ⟨p3, x14, -, -, R3⟩ := hS.box 3 (by omega) (hall 14 (by omega) (by omega))
    have x4 := hS.pure 4 (by omega) rfl (hall 4 (by omega) (by omega))
    have x5 := hS.pure 5 (by omega) rfl (hall 5 (by omega) (by omega))
    have x6 := hS.pure 6 (by omega) rfl (hall 6 (by omega) (by omega))
    have x7 := hS.pure 7 (by omega) rfl (hall 7 (by omega) (by omega))
    have x8 := hS.pure 8 (by omega) rfl (hall 8 (by omega) (by omega))
    have x9 := hS.pure 9 (by omega) rfl (hall 9 (by omega) (by omega))
    have x10 := hS.pure 10 (by omega) rfl (hall 10 (by omega) (by omega))
    have x19 := hS.pure 19 (by omega) rfl (hall 19 (by omega) (by omega))
    have x0 := hS.pure 0 (by omega) rfl b0
    have x2 := hS.pure 2 (by omega) rfl b2
    rw [frame25 a0 σ _ _ _ _ _ _ _ _ _ _ _ _ _ _ _ _ hS.other x0 x1 x2 x3 x4 x5 x6 x7 x8 x9 x10 x11 x12 x13 x14 x19]
    exact hfin p0 p1 p2 p3 y0 y1 r w (R0 (hall 15 (by omega) (by omega))) (R1 (hall 16 (by omega) (by omega))) (R2 (hall 17 (by omega) (by omega))) (R3 (hall 18 (by omega) (by omega))) (hS.res (hall 4 (by omega) (by omega))) hS.below
  right
  obtain ⟨m, rfl⟩ : ∃ m, n = m + 1 := by
    cases n with
    | zero => exact absurd (cnt16_zero (Nat.le_zero.1 hn)) hall
    | succ m => exact ⟨m, rfl⟩
  refine ⟨m, rfl, fun h => hall (done25 b h), fun i hi => ?_⟩
  have hlt := lt25 hi
  have hcn : ∀ i, 4 ≤ i → i < 20 → b i = false → cnt16 (bUpd b i) ≤ m := fun i hi0 hi hb => by have := cnt16_upd hi0 hi hb; omega
  have hbl := hS.below
  have hb4 : ∀ i, 4 ≤ i → bUpd b i 0 = true ∧ bUpd b i 1 = true ∧ bUpd b i 2 = true ∧ bUpd b i 3 = true := fun i _ => ⟨bUpd_of b0, bUpd_of b1, bUpd_of b2, bUpd_of b3⟩
  obtain rfl | rfl | rfl | rfl | rfl | rfl | rfl | rfl | rfl | rfl | rfl | rfl | rfl | rfl | rfl | rfl : i = 5 ∨ i = 6 ∨ i = 7 ∨ i = 8 ∨ i = 9 ∨ i = 10 ∨ i = 11 ∨ i = 12 ∨ i = 13 ∨ i = 14 ∨ i = 15 ∨ i = 16 ∨ i = 17 ∨ i = 18 ∨ i = 19 ∨ i = 20 := by omega
  · obtain ⟨f, g⟩ := up25 hi [3, 4] rfl
    have f : b 4 = false := f
    obtain ⟨y0, x1, z0⟩ := hS.arg0 b1
    obtain ⟨y1, x3, z1⟩ := hS.arg1 b3
    refine step_call rfl Tryz.func19 (by kernel_rfl) (by kernel_rfl) ?_
    simp only [List.map_toArray, List.map_cons, List.map_nil]
    rw [ev 247 _ (by omega) x1, ev 248 _ (by omega) x3]
    refine (hF y0 y1 w hbl (z0 f) (z1 f)).mono ?_
    rintro e w' ⟨r', rfl, hr, hb⟩
    exact ⟨_, rfl, ⟨hSS _ (bt hbl hb (Nat.le_refl _)), bUpd b 4, _, _, rfl, ov_put .., (hS.world hb).call inj25 f r' hr, hb4 4 (by omega), hcn 4 (by omega) (by omega) f⟩⟩
  · obtain ⟨f, g⟩ := up25 hi [5] rfl
    have f : b 5 = false := f
    have g4 : b 4 = true := g 5 (by simp)
    refine step_move rfl ?_
    rw [ev 249 _ (by omega) (hS.pure 4 (by omega) rfl g4)]
    exact ⟨hSS _ hbl, bUpd b 5, _, _, rfl, ov_put .., hS.put inj25 5 (by omega) rfl (by omega) (fun _ => g4), hb4 5 (by omega), hcn 5 (by omega) (by omega) f⟩
  · obtain ⟨f, g⟩ := up25 hi [6] rfl
    have f : b 6 = false := f
    have g5 : b 5 = true := g 6 (by simp)
    exact step_extract (xs := #[(r 0).agg, (r 1).agg, (r 2).agg, (r 3).agg, .bool B]) rfl (ev 243 _ (by omega) (hS.pure 5 (by omega) rfl g5)) rfl ⟨hSS _ hbl, bUpd b 6, _, _, rfl, ov_put .., hS.put inj25 6 (by omega) rfl (by omega) (fun _ => hS.ord 5 (by omega) (by omega) g5), hb4 6 (by omega), hcn 6 (by omega) (by omega) f⟩
  · obtain ⟨f, g⟩ := up25 hi [6] rfl
    have f : b 7 = false := f
    have g5 : b 5 = true := g 6 (by simp)
    exact step_extract (xs := #[(r 0).agg, (r 1).agg, (r 2).agg, (r 3).agg, .bool B]) rfl (ev 243 _ (by omega) (hS.pure 5 (by omega) rfl g5)) rfl ⟨hSS _ hbl, bUpd b 7, _, _, rfl, ov_put .., hS.put inj25 7 (by omega) rfl (by omega) (fun _ => hS.ord 5 (by omega) (by omega) g5), hb4 7 (by omega), hcn 7 (by omega) (by omega) f⟩
  · obtain ⟨f, g⟩ := up25 hi [6] rfl
    have f : b 8 = false := f
    have g5 : b 5 = true := g 6 (by simp)
    exact step_extract (xs := #[(r 0).agg, (r 1).agg, (r 2).agg, (r 3).agg, .bool B]) rfl (ev 243 _ (by omega) (hS.pure 5 (by omega) rfl g5)) rfl ⟨hSS _ hbl, bUpd b 8, _, _, rfl, ov_put .., hS.put inj25 8 (by omega) rfl (by omega) (fun _ => hS.ord 5 (by omega) (by omega) g5), hb4 8 (by omega), hcn 8 (by omega) (by omega) f⟩
  · obtain ⟨f, g⟩ := up25 hi [6] rfl
    have f : b 9 = false := f
    have g5 : b 5 = true := g 6 (by simp)
    exact step_extract (xs := #[(r 0).agg, (r 1).agg, (r 2).agg, (r 3).agg, .bool B]) rfl (ev 243 _ (by omega) (hS.pure 5 (by omega) rfl g5)) rfl ⟨hSS _ hbl, bUpd b 9, _, _, rfl, ov_put .., hS.put inj25 9 (by omega) rfl (by omega) (fun _ => hS.ord 5 (by omega) (by omega) g5), hb4 9 (by omega), hcn 9 (by omega) (by omega) f⟩
  · obtain ⟨f, g⟩ := up25 hi [6] rfl
    have f : b 10 = false := f
    have g5 : b 5 = true := g 6 (by simp)
    exact step_extract (xs := #[(r 0).agg, (r 1).agg, (r 2).agg, (r 3).agg, .bool B]) rfl (ev 243 _ (by omega) (hS.pure 5 (by omega) rfl g5)) rfl ⟨hSS _ hbl, bUpd b 10, _, _, rfl, ov_put .., hS.put inj25 10 (by omega) rfl (by omega) (fun _ => hS.ord 5 (by omega) (by omega) g5), hb4 10 (by omega), hcn 10 (by omega) (by omega) f⟩
  · obtain ⟨f, g⟩ := up25 hi [] rfl
    have f : b 11 = false := f
    exact step_alloc rfl ⟨hSS _ (bt hbl (ab _) (Nat.le_refl _)), bUpd b 11, _, _, rfl, ov_put .., hS.alloc inj25 0 (by omega) f, hb4 11 (by omega), hcn 11 (by omega) (by omega) f⟩
  · obtain ⟨f, g⟩ := up25 hi [] rfl
    have f : b 12 = false := f
    exact step_alloc rfl ⟨hSS _ (bt hbl (ab _) (Nat.le_refl _)), bUpd b 12, _, _, rfl, ov_put .., hS.alloc inj25 1 (by omega) f, hb4 12 (by omega), hcn 12 (by omega) (by omega) f⟩
  · obtain ⟨f, g⟩ := up25 hi [] rfl
    have f : b 13 = false := f
    exact step_alloc rfl ⟨hSS _ (bt hbl (ab _) (Nat.le_refl _)), bUpd b 13, _, _, rfl, ov_put .., hS.alloc inj25 2 (by omega) f, hb4 13 (by omega), hcn 13 (by omega) (by omega) f⟩
  · obtain ⟨f, g⟩ := up25 hi [] rfl
    have f : b 14 = false := f
    exact step_alloc rfl ⟨hSS _ (bt hbl (ab _) (Nat.le_refl _)), bUpd b 14, _, _, rfl, ov_put .., hS.alloc inj25 3 (by omega) f, hb4 14 (by omega), hcn 14 (by omega) (by omega) f⟩
  · obtain ⟨f, g⟩ := up25 hi [12, 7, 5, 0, 1, 2, 3, 4, 5, 6, 7, 12, 13, 14, 15] rfl
    have f : b 15 = false := f
    have g11 : b 11 = true := g 12 (by simp)
    have g6 : b 6 = true := g 7 (by simp)
    have g4 : b 4 = true := g 5 (by simp)
    obtain ⟨p, hp, -⟩ := hS.box 0 (by omega) g11
    obtain ⟨hz, hS'⟩ := hS.store hK 0 (by omega) g4 g11 f p hp
    exact step_store rfl (ev 40 _ (by omega) hp) (ev 250 _ (by omega) (hS.pure 6 (by omega) rfl g6)) hz ⟨hSS _ hS'.below, bUpd b 15, σ, _, rfl, rfl, hS', hb4 15 (by omega), hcn 15 (by omega) (by omega) f⟩
  · obtain ⟨f, g⟩ := up25 hi [13, 8, 16, 0, 1, 2, 3, 4, 5, 6, 7, 8, 12, 13, 14, 15, 16] rfl
    have f : b 16 = false := f
    have g12 : b 12 = true := g 13 (by simp)
    have g7 : b 7 = true := g 8 (by simp)
    have g4 : b 4 = true := g 5 (by simp)
    obtain ⟨p, hp, -⟩ := hS.box 1 (by omega) g12
    obtain ⟨hz, hS'⟩ := hS.store hK 1 (by omega) g4 g12 f p hp
    exact step_store rfl (ev 41 _ (by omega) hp) (ev 251 _ (by omega) (hS.pure 7 (by omega) rfl g7)) hz ⟨hSS _ hS'.below, bUpd b 16, σ, _, rfl, rfl, hS', hb4 16 (by omega), hcn 16 (by omega) (by omega) f⟩
  · obtain ⟨f, g⟩ := up25 hi [14, 9, 17, 0, 1, 2, 3, 4, 5, 6, 7, 8, 9, 12, 13, 14, 15, 16, 17] rfl
    have f : b 17 = false := f
    have g13 : b 13 = true := g 14 (by simp)
    have g8 : b 8 = true := g 9 (by simp)
    have g4 : b 4 = true := g 5 (by simp)
    obtain ⟨p, hp, -⟩ := hS.box 2 (by omega) g13
    obtain ⟨hz, hS'⟩ := hS.store hK 2 (by omega) g4 g13 f p hp
    exact step_store rfl (ev 42 _ (by omega) hp) (ev 252 _ (by omega) (hS.pure 8 (by omega) rfl g8)) hz ⟨hSS _ hS'.below, bUpd b 17, σ, _, rfl, rfl, hS', hb4 17 (by omega), hcn 17 (by omega) (by omega) f⟩
  · obtain ⟨f, g⟩ := up25 hi [15, 10, 18, 0, 1, 2, 3, 4, 5, 6, 7, 8, 9, 10, 12, 13, 14, 15, 16, 17, 18] rfl
    have f : b 18 = false := f
    have g14 : b 14 = true := g 15 (by simp)
    have g9 : b 9 = true := g 10 (by simp)
    have g4 : b 4 = true := g 5 (by simp)
    obtain ⟨p, hp, -⟩ := hS.box 3 (by omega) g14
    obtain ⟨hz, hS'⟩ := hS.store hK 3 (by omega) g4 g14 f p hp
    exact step_store rfl (ev 43 _ (by omega) hp) (ev 253 _ (by omega) (hS.pure 9 (by omega) rfl g9)) hz ⟨hSS _ hS'.below, bUpd b 18, σ, _, rfl, rfl, hS', hb4 18 (by omega), hcn 18 (by omega) (by omega) f⟩
  · obtain ⟨f, g⟩ := up25 hi [11, 19, 0, 1, 2, 3, 4, 5, 6, 7, 8, 9, 10, 11, 12, 13, 14, 15, 16, 17, 18, 19] rfl
    have f : b 19 = false := f
    have g10 : b 10 = true := g 11 (by simp)
    refine step_assign rfl ?_
    rw [ev 254 _ (by omega) (hS.pure 10 (by omega) rfl g10)]
    exact ⟨hSS _ hbl, bUpd b 19, _, _, rfl, ov_put .., hS.put inj25 19 (by omega) rfl (by omega) (fun _ => hS.ord 10 (by omega) (by omega) g10), hb4 19 (by omega), hcn 19 (by omega) (by omega) f⟩

end Go.Proofs.YtmklgikbajhcpaaGreatDoor
