/- The walks of spec.CacheDrop and impl.CacheDrop: the policies that are not over, in memory of their own; nothing that was there is written. -/
import Derived.Test.YtdcfkbnppbeahaaQd
namespace Go.Proofs.Ytdcfkbnppbeahaa
open Go.RowKit Go.Deep

/-- A policy that was copied, boxed and put behind the others. -/
theorem GQ.more {B : Nat} {L : List Pol} {v : Value} {F : Nat → Option Nat} {wr w1 w2 : World} (h : GQ B L v F wr) (hb1 : Below wr.heap.size wr w1) (hb2 : Below w1.heap.size w1 w2) {p : Pol} {x : Option Addr} {cx : Nat} (ht : Txs w1 p.l (.slice x p.l.length cx) w2) (hn : L.length ≤ 4194304) (hB : B ≤ wr.heap.size) :
    ∃ v' w', (Builtin.append_ #[34, 34] 34 #[v, .slice (some ⟨w2.heap.size, 0, none⟩) 1 1]).run Try.prog (w2.alloc (.cells #[.string p.d, .int .i64 p.m, .slice x p.l.length cx, .int .i64 p.u] 27)) = .ok v' w' ∧ ((∃ F', GQ B (L ++ [p]) v' F' w') ∧ Below B (w2.alloc (.cells #[.string p.d, .int .i64 p.m, .slice x p.l.length cx, .int .i64 p.u] 27)) w') := by
  have hb3 := abP (w := w2) (.cells #[.string p.d, .int .i64 p.m, .slice x p.l.length cx, .int .i64 p.u] 27)
  obtain ⟨x', c', f, he, ho, hf⟩ := ht.own
  simp only [Value.slice.injEq, true_and] at he
  obtain ⟨rfl, rfl⟩ := he
  have hs1 := hb1.size
  have hs2 := hb2.size
  have hs3 := hb3.size
  have hown : ∀ g, v.ownBlock = some g → g < wr.heap.size := fun g hg => by
    obtain ⟨xs, ho, _⟩ := h.row
    exact (ho.lt g hg).2
  obtain ⟨v', w', g1, g2, g3⟩ := ((h.on hb1).on hb2).on hb3 |>.push (p := p) (x := x) (cx := cx) (f := f) (ho.on hb3) (fun g hg => by
    have := hf g hg
    refine ⟨by omega, by omega, fun e => ?_, fun i hi e => ?_⟩
    · have := hown g e; omega
    · have := (h.lt i g hi e).2.1; omega) (b := w2.heap.size) (o := 0) (fun j u hj => by
    rw [Nat.zero_add]
    refine box_cell w2 _ 27 j u ?_
    match j, hj with
    | 0, hj => exact hj
    | 1, hj => exact hj
    | 2, hj => exact hj
    | 3, hj => exact hj
    | j + 4, hj => simp [polCells] at hj) 1 hn (by omega) 34
  exact ⟨v', w', g1, ⟨_, g2⟩, g3⟩

set_option maxRecDepth 100000 in
set_option maxHeartbeats 1000000 in
theorem dropS (P : List Pol) (a : Option Addr) (cap : Nat) (now : Int) (w : World) (hl : Pols w 0 a P) (hm : P.length ≤ 2097152) (hz : ∀ p ∈ P, polZ p) :
    Calls Try.prog 22 #[.slice a P.length cap, .int .i64 now] w fun e w' => ∃ v, e = .returned v ∧ (∃ F, GQ w.heap.size (keepQ P now) v F w') ∧ Below w.heap.size w w' := by
  have H := hide hl
  have HZ := hide hz
  clear hl hz
  generalize hlen : P.length = len at *
  have HL : Hid (P.length = len) := hlen
  clear hlen
  go_enter Try.func22, Try.ntmps22
  go_wp2_with fail
  go_loopw [5, 6] (fun v i wr => ∃ k : Nat, i = .int .i64 (k : Int) ∧ (∃ F, GQ w.heap.size (keepQ (P.take k) now) v F wr) ∧ Below w.heap.size w wr ∧ k ≤ len) (fun _ i _ => len - (intOf i).toNat)
  case atStart => exact ⟨0, rfl, ⟨_, GQ.lit _ w (Nat.le_refl _)⟩, abP _, by omega⟩
  case round =>
    obtain ⟨k, rfl, ⟨F, hg⟩, hb, hk⟩ := hrel
    obtain ⟨ua, uc, rfl⟩ := hg.shape
    have HG := hide hg
    have HB := hide hb
    have hul := keepQ_len P now k
    generalize huk : (keepQ (P.take k) now).length = ul at *
    by_cases hp : k < len
    · have hp' : k < P.length := by have := HL.out; omega
      obtain ⟨p, hkp⟩ : ∃ p, P[k]? = some p := ⟨_, List.getElem?_eq_getElem hp'⟩
      obtain ⟨b, o, x, xc, rfl, -, -, c0, c1, c2, c3, hT⟩ := ((unhide H).on hb).elem hkp
      have HT := hide hT
      have hpz := unhide HZ p (List.mem_of_getElem? hkp)
      have hct := hide (fun v hv => copyS p.l p.d p.m x xc p.u v hv hpz.1)
      have q2 : (k : Int) < (len : Int) := by omega
      have q3 : (0 : Int) ≤ (k : Int) := by omega
      have w1 : wrap64 ((k : Int) + 1) = ((k + 1 : Nat) : Int) := by unfold wrap64; omega
      have HN : Hid (ul ≤ 4194304) := by show _ ≤ _; omega
      have HUK := hide huk
      have HBS : Hid (w.heap.size ≤ wr.heap.size) := hb.size
      by_cases hu : now ≤ p.u
      · have HKY := hide (keepQ_yes hkp hu)
        clear hg hb hT hpz hkp huk
        go_wp2_with fail
        refine (unhide hct _ (unhide HT)).mono ?_
        rintro e w2 ⟨v2, rfl, htx, hb2⟩
        obtain ⟨x2, c2x, rfl⟩ := htx.shape
        have HAP := hide ((unhide HG).more (Below.refl _ _) hb2 htx (by rw [unhide HUK]; exact unhide HN) (unhide HBS))
        have HB2 := hide (btP (btP (unhide HB) hb2) (abP (.cells #[.string p.d, .int .i64 p.m, .slice x2 p.l.length c2x, .int .i64 p.u] 27)))
        clear htx hb2 c0 c1 c2 c3
        go_wp2_with (at_builtin; refine wpList_append_run rfl _ _ 34 rfl (.slice ua ul uc) (.slice (some ⟨w2.heap.size, 0, none⟩) 1 1) rfl rfl (fun v' w' => (∃ F', GQ w.heap.size (keepQ (P.take k) now ++ [p]) v' F' w') ∧ Below w.heap.size (w2.alloc (.cells #[.string p.d, .int .i64 p.m, .slice x2 p.l.length c2x, .int .i64 p.u] 27)) w') (unhide HAP) ?_; rintro v3 w3 ⟨hg3, hb3⟩; have HG3 := hide hg3; have HB3 := hide ((unhide HB2).trans hb3); clear hg3 hb3)
        go_roundw
        case rel => exact ⟨k + 1, rfl, by rw [unhide HKY]; exact unhide HG3, unhide HB3, by omega⟩
        case measure => simp only [intOf]; omega
      · have HKN := hide (keepQ_no hkp hu)
        clear hg hb hT hpz hkp huk
        go_wp2_with fail
        go_roundw
        case rel => exact ⟨k + 1, rfl, by rw [unhide HKN]; exact ⟨_, unhide HG⟩, unhide HB, by omega⟩
        case measure => simp only [intOf]; omega
    · have q2 : ¬ (k : Int) < (len : Int) := by omega
      have hkl : k = len := by omega
      have HE : Hid (P.take k = P) := List.take_of_length_le (by have := HL.out; omega)
      subst hkl
      clear hg hb huk
      go_wp2_with fail
      go_ret
      refine ⟨_, rfl, ⟨F, ?_⟩, unhide HB⟩
      have := unhide HG
      rwa [unhide HE] at this

set_option maxRecDepth 100000 in
set_option maxHeartbeats 1000000 in
theorem dropI (P : List Pol) (a : Option Addr) (cap : Nat) (now : Int) (w : World) (hl : Pols w 0 a P) (hm : P.length ≤ 2097152) (hz : ∀ p ∈ P, polZ p) :
    Calls Try.prog 23 #[.slice a P.length cap, .int .i64 now] w fun e w' => ∃ v, e = .returned v ∧ (∃ F, GQ w.heap.size (keepQ P now) v F w') ∧ Below w.heap.size w w' := by
  have H := hide hl
  have HZ := hide hz
  clear hl hz
  generalize hlen : P.length = len at *
  have HL : Hid (P.length = len) := hlen
  clear hlen
  go_enter Try.func23, Try.ntmps23
  go_wp2_with fail
  go_loopw [5, 10] (fun v i wr => ∃ k : Nat, i = .int .i64 (k : Int) ∧ (∃ F, GQ w.heap.size (keepQ (P.take k) now) v F wr) ∧ Below w.heap.size w wr ∧ k ≤ len) (fun _ i _ => len - (intOf i).toNat)
  case atStart => exact ⟨0, rfl, ⟨_, GQ.empty _ w⟩, Below.refl _ _, by omega⟩
  case round =>
    obtain ⟨k, rfl, ⟨F, hg⟩, hb, hk⟩ := hrel
    obtain ⟨ua, uc, rfl⟩ := hg.shape
    have HG := hide hg
    have HB := hide hb
    have hul := keepQ_len P now k
    generalize huk : (keepQ (P.take k) now).length = ul at *
    by_cases hp : k < len
    · have hp' : k < P.length := by have := HL.out; omega
      obtain ⟨p, hkp⟩ : ∃ p, P[k]? = some p := ⟨_, List.getElem?_eq_getElem hp'⟩
      obtain ⟨b, o, x, xc, rfl, -, -, c0, c1, c2, c3, hT⟩ := ((unhide H).on hb).elem hkp
      have HT := hide hT
      have hpz := unhide HZ p (List.mem_of_getElem? hkp)
      have hct := hide (fun v hv => ownI p.l p.d p.m x xc p.u v hv hpz.1 hpz.2.1 hpz.2.2)
      have h36 := hide (fun v => lastI p.d p.m x p.l.length xc p.u now v)
      have hbx : Below wr.heap.size wr (wr.alloc (.cells #[.string p.d, .int .i64 p.m, .slice x p.l.length xc, .int .i64 p.u] 27)) := abP _
      have HBX := hide hbx
      have HR := hide (RowP.new 27 wr p.d p.m x p.l.length xc p.u)
      have q2 : (k : Int) < (len : Int) := by omega
      have q3 : (0 : Int) ≤ (k : Int) := by omega
      have w1 : wrap64 ((k : Int) + 1) = ((k + 1 : Nat) : Int) := by unfold wrap64; omega
      have HN : Hid (ul ≤ 4194304) := by show _ ≤ _; omega
      have HUK := hide huk
      have HBS : Hid (w.heap.size ≤ wr.heap.size) := hb.size
      by_cases hu : now ≤ p.u
      · have HKY := hide (keepQ_yes hkp hu)
        rw [show decide (now ≤ p.u) = true from decide_eq_true hu] at h36
        clear hg hb hT hpz hkp huk hbx hu
        go_wp2_with fail
        refine (unhide h36 _).mono ?_
        rintro e w1' ⟨rfl, hb1⟩
        obtain ⟨k0, k1, k2, k3⟩ := ((unhide HR).below hb1).facts
        have HBX1 := hide (btP (unhide HBX) hb1)
        clear hb1 c0 c1 c2 c3
        go_wp2_with fail
        refine (unhide hct _ ((unhide HT).on (unhide HBX1))).mono ?_
        rintro e w2 ⟨v2, rfl, htx, hb2⟩
        obtain ⟨x2, c2x, rfl⟩ := htx.shape
        have HAP := hide ((unhide HG).more (unhide HBX1) hb2 htx (by rw [unhide HUK]; exact unhide HN) (unhide HBS))
        have HB2 := hide (btP (btP (btP (unhide HB) (unhide HBX1)) hb2) (abP (.cells #[.string p.d, .int .i64 p.m, .slice x2 p.l.length c2x, .int .i64 p.u] 27)))
        clear htx hb2 k0 k1 k2 k3
        go_wp2_with (at_builtin; refine wpList_append_run rfl _ _ 34 rfl (.slice ua ul uc) (.slice (some ⟨w2.heap.size, 0, none⟩) 1 1) rfl rfl (fun v' w' => (∃ F', GQ w.heap.size (keepQ (P.take k) now ++ [p]) v' F' w') ∧ Below w.heap.size (w2.alloc (.cells #[.string p.d, .int .i64 p.m, .slice x2 p.l.length c2x, .int .i64 p.u] 27)) w') (unhide HAP) ?_; rintro v3 w3 ⟨hg3, hb3⟩; have HG3 := hide hg3; have HB3 := hide ((unhide HB2).trans hb3); clear hg3 hb3)
        go_roundw
        case rel => exact ⟨k + 1, rfl, by rw [unhide HKY]; exact unhide HG3, unhide HB3, by omega⟩
        case measure => simp only [intOf]; omega
      · have HKN := hide (keepQ_no hkp hu)
        rw [show decide (now ≤ p.u) = false from decide_eq_false hu] at h36
        clear hg hb hT hpz hkp huk hbx hu
        go_wp2_with fail
        refine (unhide h36 _).mono ?_
        rintro e w1' ⟨rfl, hb1⟩
        have HBX1 := hide (btP (unhide HBX) hb1)
        clear hb1 c0 c1 c2 c3
        go_wp2_with fail
        go_roundw
        case rel => exact ⟨k + 1, rfl, by rw [unhide HKN]; exact ⟨_, (unhide HG).on (unhide HBX1)⟩, btP (unhide HB) (unhide HBX1), by omega⟩
        case measure => simp only [intOf]; omega
    · have q2 : ¬ (k : Int) < (len : Int) := by omega
      have hkl : k = len := by omega
      have HE : Hid (P.take k = P) := List.take_of_length_le (by have := HL.out; omega)
      subst hkl
      clear hg hb huk
      go_wp2_with fail
      go_ret
      refine ⟨_, rfl, ⟨F, ?_⟩, unhide HB⟩
      have := unhide HG
      rwa [unhide HE] at this

set_option maxRecDepth 100000 in
theorem markQe (x : Option Addr) (c : Nat) (w : World) : Calls Try.prog 19 #[.slice x 0 c, .int .i64 1] w fun e w' => e = .returned (.int .i64 1) ∧ w' = w := by
  go_enter Try.func19, Try.ntmps19
  go_wp2_with fail
  go_loopw [1, 5] (fun m n wr => m = .int .i64 1 ∧ n = .int .i64 0 ∧ wr = w) (fun _ _ _ => 0)
  case atStart => exact ⟨rfl, rfl, rfl⟩
  case round =>
    obtain ⟨rfl, rfl, rfl⟩ := hrel
    go_wp2_with fail
    go_ret
    exact ⟨rfl, rfl⟩
set_option maxRecDepth 100000 in
theorem heldQe (x : Option Addr) (c : Nat) (w : World) : Calls Try.prog 24 #[.slice x 0 c, .int .i64 1] w fun e w' => e = .returned (.int .i64 1) ∧ w' = w := by
  go_enter Try.func24, Try.ntmps24
  go_wp2_with fail
  go_loopw [1, 5] (fun m n wr => m = .int .i64 1 ∧ n = .int .i64 0 ∧ wr = w) (fun _ _ _ => 0)
  case atStart => exact ⟨rfl, rfl, rfl⟩
  case round =>
    obtain ⟨rfl, rfl, rfl⟩ := hrel
    go_wp2_with fail
    go_ret
    exact ⟨rfl, rfl⟩

/-- Marked policies, or none. -/
def MOx (w : World) (a : Option Addr) (F : Nat → Option Nat) (P : List Pol) : Prop := P = [] ∨ ∃ g, a = some ⟨g, 0, none⟩ ∧ PO w g F P.length (mQ (listQ P) 1)
theorem MOx.on {w w' : World} {a : Option Addr} {F : Nat → Option Nat} {P : List Pol} (h : MOx w a F P) (hb : Below w.heap.size w w') : MOx w' a F P := by
  rcases h with h | ⟨g, ha, h⟩
  · exact Or.inl h
  · exact Or.inr ⟨g, ha, h.on hb⟩
/-- The blocks that it has. -/
def Has (a : Option Addr) (F : Nat → Option Nat) (P : List Pol) (y : Nat) : Prop := (a = some ⟨y, 0, none⟩ ∧ P ≠ []) ∨ ∃ i, i < P.length ∧ F i = some y
theorem POx.chg {w w' : World} {a : Option Addr} {F : Nat → Option Nat} {P : List Pol} {S : Nat → Prop} (h : POx w a F P) (hc : Chg S w w') (hs : ∀ y, Has a F P y → ¬ S y) : POx w' a F P := by
  rcases h with h | ⟨g, rfl, h⟩
  · exact Or.inl h
  · by_cases hP : P = []
    · exact Or.inl hP
    · exact Or.inr ⟨g, rfl, h.chg hc (hs g (Or.inl ⟨rfl, hP⟩)) fun i y hi hy => hs y (Or.inr ⟨i, hi, hy⟩)⟩
theorem markX (P : List Pol) (a : Option Addr) (c : Nat) (F : Nat → Option Nat) (w : World) (hk : kk (listQ P) 1 P.length ≤ 1099511627776) (h : POx w a F P) :
    Calls Try.prog 19 #[.slice a P.length c, .int .i64 1] w fun e w' => e = .returned (.int .i64 ((kk (listQ P) 1 P.length : Nat) : Int)) ∧ MOx w' a F P ∧ Chg (Has a F P) w w' := by
  by_cases hP : P = []
  · subst hP
    refine (markQe a c w).mono ?_
    rintro e w' ⟨rfl, rfl⟩
    exact ⟨rfl, Or.inl rfl, Chg.refl _ _⟩
  · rcases h with h | ⟨g, rfl, h⟩
    · exact absurd h hP
    · refine (markQs P.length g c 1 F (listQ P) w (Nat.le_refl _) hk h).mono ?_
      rintro e w' ⟨rfl, h1, h2⟩
      exact ⟨rfl, Or.inr ⟨g, rfl, h1⟩, h2.mono fun y hy => hy.elim (fun e => Or.inl ⟨by rw [e], hP⟩) Or.inr⟩
theorem heldX (P : List Pol) (a : Option Addr) (c : Nat) (F : Nat → Option Nat) (w : World) (hk : kk (listQ P) 1 P.length ≤ 1099511627776) (h : MOx w a F P) :
    Calls Try.prog 24 #[.slice a P.length c, .int .i64 1] w fun e w' => e = .returned (.int .i64 ((kk (listQ P) 1 P.length : Nat) : Int)) ∧ Below w.heap.size w w' := by
  by_cases hP : P = []
  · subst hP
    refine (heldQe a c w).mono ?_
    rintro e w' ⟨rfl, rfl⟩
    exact ⟨rfl, Below.refl _ _⟩
  · rcases h with h | ⟨g, rfl, h⟩
    · exact absurd h hP
    · exact heldQs P.length g c 1 F (listQ P) w (Nat.le_refl _) hk h

end Go.Proofs.Ytdcfkbnppbeahaa
