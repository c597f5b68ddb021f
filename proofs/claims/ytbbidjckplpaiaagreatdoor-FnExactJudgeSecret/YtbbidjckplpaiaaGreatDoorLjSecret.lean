/- What is judged: the book with the letters, each letter, each call. What is judged: the book with the letters, each letter, each call, as interface values in a row of the call's own; the walk of allJudged. The rule of JudgeSecret: of a letter that was not told, the atom of its body cannot be made of what is known; nothing that was there is written. The walks of impl.eachRight at the rule of JudgeSecret, of impl.keeps with it, and of impl.JudgeSecret; nothing that was there is written. The walk of spec.JudgeSecret: of each letter that was not told, the atom of its body is not made of what is known; nothing that was there is written. The walk of impl.JudgeSecret; nothing that was there is written. The walk of laws.FnExactJudgeSecret: whatever world lies in memory it answers true; nothing that was there is written. -/
import Derived.Test.YtbbidjckplpaiaaGreatDoorWk
import Derived.Test.YtbbidjckplpaiaaGreatDoorOk
import Derived.Test.YtbbidjckplpaiaaGreatDoorWwd
import Derived.BigQuiet
import Derived.Deep.DeepAppendWide
import Derived.Deep.RegionWith
import Derived.Test.YtbbidjckplpaiaaGreatDoorSf
import Derived.Test.YtbbidjckplpaiaaGreatDoorLg
import Derived.Test.YtbbidjckplpaiaaGreatDoorWoh
import Derived.Deep.MidRow
import Derived.Deep.RegionHeld3
import Derived.Test.YtbbidjckplpaiaaGreatDoorWoi
import Derived.Test.YtbbidjckplpaiaaGreatDoorLwo
import Derived.WalkSmall
namespace Go.Proofs.YtbbidjckplpaiaaGreatDoor
open Go.RowKit Go.Deep

/-- What a rule is held against. -/
inductive Th where
  | j (b : ByteArray) (P : List Le)
  | l (x : Le)
  | c (x : Ca)
def thAt (w : World) (L : Nat) : Th → List Value → Prop
  | .j b P, cs => P.length ≤ maxLen ∧ ∃ a cap, cs = [.iface 159 (.agg #[.string b, .slice a P.length cap])] ∧ leK.Ls w L a P
  | .l x, cs => ∃ c, cs = [.iface 52 (.agg c.toArray)] ∧ leAt w L x c
  | .c x, cs => ∃ c, cs = [.iface 112 (.agg c.toArray)] ∧ caAt w L x c
def thK : Kd Th where
  n := 1
  at_ := thAt
  pos := by omega
  len := by
    intro w L x cs h
    cases x with
    | j b P => obtain ⟨_, a, cap, rfl, _⟩ := h; rfl
    | l x => obtain ⟨c, rfl, _⟩ := h; rfl
    | c x => obtain ⟨c, rfl, _⟩ := h; rfl
  one := by
    intro w L x cs h v hv
    cases x with
    | j b P => obtain ⟨_, a, cap, rfl, _⟩ := h; obtain rfl := List.mem_singleton.1 hv; rfl
    | l x => obtain ⟨c, rfl, _⟩ := h; obtain rfl := List.mem_singleton.1 hv; rfl
    | c x => obtain ⟨c, rfl, _⟩ := h; obtain rfl := List.mem_singleton.1 hv; rfl
  carry := by
    intro w w' L L' x cs hL hc h
    cases x with
    | j b P => obtain ⟨hm, a, cap, rfl, h⟩ := h; exact ⟨hm, a, cap, rfl, h.carry hL hc⟩
    | l x => obtain ⟨c, rfl, h⟩ := h; exact ⟨c, rfl, leK.carry hL hc h⟩
    | c x => obtain ⟨c, rfl, h⟩ := h; exact ⟨c, rfl, caK.carry hL hc h⟩

def thingsOf (X : Wd) : List Th := .j X.book X.letters :: (X.letters.map .l ++ X.calls.map .c)

/-- One-cell values in a row of the call's own, in a block from B on. -/
def IRw (B : Nat) (E : List Value) (v : Value) (w : World) : Prop := w.ownsRow B 129 1 v E.length E
theorem IRw.low {B : Nat} {E : List Value} {v : Value} {w w' : World} (h : IRw B E v w) (hb : Below w.heap.size w w') : IRw B E v w' :=
  World.ownsRow.kept h (row := none) ⟨hb.os, hb.tape, hb.output, hb.size, fun k hk _ => hb.block k hk⟩ (by cases v.ownBlock <;> simp)
theorem IRw.own_ge {B : Nat} {E : List Value} {v : Value} {w : World} (h : IRw B E v w) : ∀ k, v.ownBlock = some k → B ≤ k := fun k hk => (World.ownsRow.lt h k hk).1
theorem IRw.shape {B : Nat} {E : List Value} {v : Value} {w : World} (h : IRw B E v w) : ∃ a c, v = .slice a E.length c := by
  rcases h.2 with ⟨h1, h2⟩ | ⟨g, cap, cur, h1, _⟩
  · exact ⟨none, 0, by rw [h1, h2]⟩
  · exact ⟨_, _, h1⟩
theorem IRw.get {B : Nat} {E : List Value} {a : Option Addr} {n c : Nat} {w : World} (h : IRw B E (.slice a n c) w) {i : Nat} {u : Value} (hi : E[i]? = some u) :
    ∃ g, a = some ⟨g, 0, none⟩ ∧ B ≤ g ∧ w.cell? ⟨g, i, none⟩ = some u := by
  have hlt := (List.getElem?_eq_some_iff.1 hi).1
  rcases h.2 with ⟨h1, h2⟩ | ⟨g, cap, cur, h1, h2, h3, h4, h5, h6, h7⟩
  · omega
  · injection h1 with h1 _ _
    refine ⟨g, h1, h2, ?_⟩
    rw [← h7, List.getElem?_take_of_lt (by omega)] at hi
    simp only [World.cell?, h3]
    simpa using hi
theorem infoJd : (Tryz.prog.info? 129).map (fun i => (i.zero, i.size, i.bytes)) = some (some .nilIface, 1, 16) := by kernel_rfl
theorem IRw.push {B : Nat} {E : List Value} {v : Value} {w : World} (h : IRw B E v w) (u : Value) (hu : u.oneCell' = true) (hn : E.length ≤ 4194304) (hB : B ≤ w.heap.size) (ty : TypeId) :
    ∃ v' w', (Builtin.append_ #[120, 120] ty #[v, .slice (some ⟨w.heap.size, 0, none⟩) 1 1]).run Tryz.prog (w.alloc (.cells #[u] 129)) = .ok v' w' ∧ IRw B (E ++ [u]) v' w' ∧ Below B w w' := by
  obtain ⟨i, hi, hzz⟩ := Option.map_eq_some_iff.1 infoJd
  simp only [Prod.mk.injEq] at hzz
  obtain ⟨hz, hs, hb⟩ := hzz
  have hb0 : Below w.heap.size w (w.alloc (.cells #[u] 129)) := (Below.refl _ _).alloc (Nat.le_refl _) _
  have h0 := h.low hb0
  have hB0 : B ≤ (w.alloc (.cells #[u] 129)).heap.size := by rw [heap_size_alloc]; omega
  have hnews : ∀ j x, [u][j]? = some x → (w.alloc (.cells #[u] 129)).cell? ((⟨w.heap.size, 0, none⟩ : Addr).add j) = some x := fun j x hj => by
    rw [Addr.add_mid, Nat.zero_add]
    exact box_cell w _ 129 j _ (by simpa using hj)
  obtain ⟨v2, w2, k1, k2, k3, _⟩ := run_append_own_wide (P := Tryz.prog) (w.alloc (.cells #[u] 129)) B 120 ty 129 i _ 1 16 Tryz.underlying120 hi hz hs hb rfl (by omega) v E.length _ h0 ⟨w.heap.size, 0, none⟩ 1 1 [u] (by simp) hnews (by intro x hx; obtain rfl := List.mem_singleton.1 hx; exact hu)
    (by unfold maxLen; omega) (by omega) hB0
  refine ⟨v2, w2, k1, by unfold IRw; rw [List.length_append]; simpa using k2, ?_⟩
  exact (hb0.mono hB).grown k3 hB0 (fun k hk => h0.own_ge k hk)

def OutJ (T : List Th) (w : World) (e : Ending) (w' : World) : Prop := ∃ a cap, e = .returned (.slice a T.length cap) ∧ thK.Ls w' 0 a T ∧ Below w.heap.size w w'
/-- The values stand for the things, one by one. -/
def Rel (w : World) (T : List Th) (E : List Value) : Prop := E.length = T.length ∧ ∀ (k : Nat) (x : Th), T[k]? = some x → ∃ u, E[k]? = some u ∧ thAt w 0 x [u]
theorem Rel.push {w : World} {T : List Th} {E : List Value} (h : Rel w T E) {x : Th} {u : Value} (hx : thAt w 0 x [u]) : Rel w (T ++ [x]) (E ++ [u]) := by
  refine ⟨by simp [h.1], fun k y hk => ?_⟩
  rcases Nat.lt_or_ge k T.length with q | q
  · rw [List.getElem?_append_left q] at hk
    obtain ⟨u', hu, ha⟩ := h.2 k y hk
    exact ⟨u', by rw [List.getElem?_append_left (by rw [h.1]; exact q)]; exact hu, ha⟩
  · rw [List.getElem?_append_right q] at hk
    have hk0 : k - T.length = 0 := by
      rcases Nat.eq_zero_or_pos (k - T.length) with e | e
      · exact e
      · rw [List.getElem?_eq_none (by simp; omega)] at hk; cases hk
    rw [hk0] at hk
    cases hk
    have hkE : k = E.length := by rw [h.1]; omega
    exact ⟨u, by rw [hkE]; simp, hx⟩
theorem Rel.ls {w w' : World} {T : List Th} {E : List Value} {a : Option Addr} {n c B : Nat} (h : Rel w T E) (hb : Below w.heap.size w w') (hr : IRw B E (.slice a n c) w') : thK.Ls w' 0 a T := fun k x hk => by
  obtain ⟨u, hu, hx⟩ := h.2 k x hk
  obtain ⟨g, rfl, -, hc⟩ := hr.get hu
  refine ⟨g, 0, [u], rfl, Nat.zero_le _, fun j v hj => ?_, thK.on (w := w) (L := 0) (x := x) hx hb⟩
  cases j with
  | zero => simp only [List.getElem?_cons_zero, Option.some.injEq] at hj; subst hj; show w'.cell? ⟨g, 0 + k * 1 + 0, none⟩ = _; rw [show 0 + k * 1 + 0 = k by omega]; exact hc
  | succ j => simp at hj
theorem Kd.Ls.getOn {α : Type} {K : Kd α} {w wr : World} {a : Option Addr} {P : List α} (h : K.Ls w 0 a P) {k : Nat} {x : α} (hk : P[k]? = some x) (hb : Below w.heap.size w wr) :
    ∃ b o cs, a = some ⟨b, o, none⟩ ∧ wr.rangeAt b (o + k * K.n) cs ∧ K.at_ w 0 x cs ∧ cs.length = K.n := by
  obtain ⟨b, o, cs, h1, h2, h3, h4, h5, h6⟩ := h.get hk
  exact ⟨b, o, cs, h1, fun j v hj => below_some hb (h4 j v hj), h5, h6⟩
theorem map_take_next {α β : Type} {P : List α} {k : Nat} {x : α} (f : α → β) (hk : P[k]? = some x) : (P.take (k + 1)).map f = (P.take k).map f ++ [f x] := by
  rw [List.take_add_one, hk]
  simp
theorem infoLeJ : (Tryz.prog.info? 52).map (·.size) = some 5 := by kernel_rfl
theorem infoCaJ : (Tryz.prog.info? 112).map (·.size) = some 15 := by kernel_rfl

set_option maxRecDepth 100000 in
set_option maxHeartbeats 4000000 in
theorem judgedI (X : Wd) (cs : List Value) (w : World) (h : wdAt w 0 X cs) (hz : ww X ≤ 1048576) :
    Calls Tryz.prog 57 #[.agg cs.toArray] w fun e w' => OutJ (thingsOf X) w e w' := by
  obtain ⟨hfit, ak, ck, ac, cc, ah, ch, al, cl, aa, ca, az, cz, ai, ci, rfl, hy0, hy1, hy2, hy3, hy4, hy5, hy6⟩ := h
  show Calls Tryz.prog 57 #[.agg #[.int .i64 X.time, .int .i64 X.fresh, .slice ak X.known.length ck, .slice ac X.cache.length cc, .slice ah X.hosts.length ch, .slice al X.letters.length cl, .string X.book, .int .i64 X.sure, .slice aa X.calls.length ca, .slice az X.talks.length cz, .slice ai X.told.length ci]] w _
  have HX := hide (Box.new w 40 [.int .i64 X.time, .int .i64 X.fresh, .slice ak X.known.length ck, .slice ac X.cache.length cc, .slice ah X.hosts.length ch, .slice al X.letters.length cl, .string X.book, .int .i64 X.sure, .slice aa X.calls.length ca, .slice az X.talks.length cz, .slice ai X.told.length ci])
  have HYl := hide hy3
  have HYc := hide hy4
  have hln : X.letters.length ≤ 1048576 := by unfold ww at hz; omega
  have hcn : X.calls.length ≤ 1048576 := by unfold ww at hz; omega
  have HTO : Hid (thingsOf X = .j X.book X.letters :: (X.letters.map .l ++ X.calls.map .c)) := hide rfl
  have HJ : Hid (thAt w 0 (.j X.book X.letters) [.iface 159 (.agg #[.string X.book, .slice al X.letters.length cl])]) := hide ⟨hfit.2.2.2.1, al, cl, rfl, hy3⟩
  clear hfit hy0 hy1 hy2 hy3 hy4 hy5 hy6 hz
  generalize thingsOf X = TT at *
  generalize hll : X.letters.length = ll at *
  generalize hlc : X.calls.length = lc at *
  have HLL := hide hll
  have HLC := hide hlc
  clear hll hlc
  have HYlL := HLL
  have HYcL := HLC
  go_enter Tryz.func57, Tryz.ntmps57
  go_wp2_with fail
  have hs : (w.alloc (.cells #[.int .i64 X.time, .int .i64 X.fresh, .slice ak X.known.length ck, .slice ac X.cache.length cc, .slice ah X.hosts.length ch, .slice al X.letters.length cl, .string X.book, .int .i64 X.sure, .slice aa X.calls.length ca, .slice az X.talks.length cz, .slice ai X.told.length ci] 40)).heap.size = w.heap.size + 1 := heap_size_alloc _ _
  have HB1 := hide (abG (w := w) (.cells #[.int .i64 X.time, .int .i64 X.fresh, .slice ak X.known.length ck, .slice ac X.cache.length cc, .slice ah X.hosts.length ch, .slice al X.letters.length cl, .string X.book, .int .i64 X.sure, .slice aa X.calls.length ca, .slice az X.talks.length cz, .slice ai X.told.length ci] 40))
  simp only [unhide HLL, unhide HLC] at hs HB1
  generalize hW1 : w.alloc _ = W1 at *
  rw [← hs]
  have HIR : Hid (IRw W1.heap.size [.iface 159 (.agg #[.string X.book, .slice al ll cl])] (.slice (some ⟨W1.heap.size, 0, none⟩) 1 1) (W1.alloc (.cells #[.iface 159 (.agg #[.string X.book, .slice al ll cl])] 129))) := hide (World.ownsRow_lit W1 _ 1 (Nat.le_refl _) (by decide) rfl)
  have HBW : Hid (Below W1.heap.size W1 (W1.alloc (.cells #[.iface 159 (.agg #[.string X.book, .slice al ll cl])] 129))) := hide (abG _)
  have HRJ : Hid (Rel w (.j X.book X.letters :: (X.letters.take 0).map .l) [.iface 159 (.agg #[.string X.book, .slice al ll cl])]) := hide ⟨by simp, fun k x hk => by
    cases k with
    | zero => cases hk; exact ⟨_, rfl, unhide HJ⟩
    | succ k => simp at hk⟩
  clear hs
  go_loopw [3, 18] (fun v i wr => ∃ (k : Nat) (E : List Value), i = .int .i64 k ∧ IRw W1.heap.size E v wr ∧ Rel w (.j X.book X.letters :: (X.letters.take k).map .l) E ∧ Below W1.heap.size W1 wr ∧ k ≤ ll ∧ E.length ≤ 2097153) (fun _ i _ => ll - (intOf i).toNat)
  case atStart => exact ⟨0, _, rfl, unhide HIR, unhide HRJ, unhide HBW, by omega, by simp⟩
  case round =>
    obtain ⟨k, E, rfl, hr, hR, hb, hk, hE⟩ := hrel
    obtain ⟨ra, rc, rfl⟩ := hr.shape
    have HBrp := hide hb
    have HRr := hide hr
    have HRlp := hide hR
    by_cases hp : k < ll
    · have hp' : k < X.letters.length := by have := HYlL.out; omega
      obtain ⟨x, hkx⟩ : ∃ x, X.letters[k]? = some x := ⟨_, List.getElem?_eq_getElem hp'⟩
      obtain ⟨b, o, cs, rfl, HR0, HT2, hcl0⟩ := (unhide HYl).getOn hkx (btG (unhide HB1) hb)
      have HR := hide (show wr.rangeAt b (o + k * 5) cs from HR0)
      have hcl := hide (show cs.length = 5 from hcl0)
      have hone := hide (leK.one (w := w) (L := 0) (x := x) HT2)
      have HZ := hide (Box.new wr 52 [.string ⟨#[]⟩, .int .i64 0, .int .i64 0, .int .i64 0, .int .i64 0])
      have HTH : Hid (thAt w 0 (.l x) [.iface 52 (.agg cs.toArray)]) := hide ⟨cs, rfl, HT2⟩
      have HNX := hide (map_take_next (Th.l) hkx)
      have HEL := hide hE
      have HAP := hide (fun V (hV : Below wr.heap.size wr V) => (hr.low hV).push (.iface 52 (.agg cs.toArray)) rfl (by omega) (Nat.le_trans hb.size hV.size) 120)
      have q2 : (k : Int) < (ll : Int) := by omega
      have q3 : (0 : Int) ≤ (k : Int) := by omega
      have w1 : wrap64 ((k : Int) + 1) = ((k + 1 : Nat) : Int) := by unfold wrap64; omega
      clear hkx HR0 HT2 hcl0 hb hr hR hE
      go_wp2_with (first
      | (refine wpList_load_mid rfl _ _ rfl b (o + k * 5) rfl cs _ (unhide HR) Tryz.underlying52 rfl (by rw [unhide hcl]; exact infoLeJ) ?_)
      | (refine wpList_store_box rfl _ _ rfl wr.heap.size 0 cs (unhide HZ) (by rw [unhide hcl]; exact Nat.le_refl _) rfl rfl (by rw [unhide hcl]; exact infoLeJ) (unhide hone) ?_
         intro V hV
         have HV : Hid (Box V wr.heap.size 52 cs) := (by
           rw [hV]
           have hp : puts [.string ⟨#[]⟩, .int .i64 0, .int .i64 0, .int .i64 0, .int .i64 0] 0 cs = cs := puts_all (by rw [unhide hcl]; rfl)
           have := Box.sets cs 0 _ _ (unhide HZ)
           rw [hp] at this
           exact this)
         have HBV : Hid (Below wr.heap.size wr V) := (by rw [hV]; exact setsG (abG _) (Nat.le_refl _))
         have HAV := hide (unhide HAP V (unhide HBV))
         clear hV HZ HAP)
      | (refine wpList_load_box rfl _ rfl wr.heap.size 0 cs (unhide HV) (fun j v hj => (by rw [Nat.zero_add]; exact hj)) rfl Tryz.underlying52 rfl (by rw [unhide hcl]; exact infoLeJ) ?_)
      | (at_builtin
         refine wpList_append_run rfl _ _ 120 rfl (.slice ra E.length rc) (.slice (some ⟨V.heap.size, 0, none⟩) 1 1) rfl rfl (fun v' w' => IRw W1.heap.size (E ++ [.iface 52 (.agg cs.toArray)]) v' w' ∧ Below W1.heap.size V w') (unhide HAV) ?_
         rintro v5 w5 ⟨t5, b5⟩
         have HT5 := hide t5
         have HB5 := hide (((unhide HBrp).trans ((unhide HBV).mono (unhide HBrp).size)).trans b5)
         clear t5 b5))
      go_roundw
      case rel => exact ⟨k + 1, E ++ [.iface 52 (.agg cs.toArray)], rfl, unhide HT5, (by have := (unhide HRlp).push (unhide HTH); simpa only [unhide HNX, List.cons_append, List.append_assoc] using this), unhide HB5, by omega, by have := (unhide HRlp).1; have := HLL.out; have := HLC.out; simp at this ⊢; simp_all; omega⟩
      case measure => simp only [intOf]; omega
    · have c2 : ¬ (k : Int) < (ll : Int) := by omega
      have HRa : Hid (Rel w (.j X.book X.letters :: (X.letters.map .l)) E) := by
        have h := unhide HRlp
        rw [List.take_of_length_le (by have := HLL.out; omega)] at h
        exact h
      have HEL := hide hE
      have c8 : wr.cell? ⟨w.heap.size, 8, none⟩ = some (.slice aa lc ca) := ((unhide HX).on hb).cell rfl
      clear hb hr hR hE
      go_wp2_with fail
      generalize wr = V1 at *
      go_loopw [3, 31] (fun v i wr => ∃ (k : Nat) (E : List Value), i = .int .i64 k ∧ IRw W1.heap.size E v wr ∧ Rel w (.j X.book X.letters :: (X.letters.map .l ++ (X.calls.take k).map .c)) E ∧ Below W1.heap.size W1 wr ∧ k ≤ lc ∧ E.length ≤ 2097153) (fun _ i _ => lc - (intOf i).toNat)
      case atStart => exact ⟨0, E, rfl, unhide HRr, (by simpa using unhide HRa), unhide HBrp, by omega, unhide HEL⟩
      case round =>
        obtain ⟨k, E, rfl, hr, hR, hb, hk, hE⟩ := hrel
        obtain ⟨ra, rc, rfl⟩ := hr.shape
        have HBrq := hide hb
        have HRr := hide hr
        have HRlq := hide hR
        by_cases hp : k < lc
        · have hp' : k < X.calls.length := by have := HYcL.out; omega
          obtain ⟨x, hkx⟩ : ∃ x, X.calls[k]? = some x := ⟨_, List.getElem?_eq_getElem hp'⟩
          obtain ⟨b, o, cs, rfl, HR0, HT2, hcl0⟩ := (unhide HYc).getOn hkx (btG (unhide HB1) hb)
          have HR := hide (show wr.rangeAt b (o + k * 15) cs from HR0)
          have hcl := hide (show cs.length = 15 from hcl0)
          have hone := hide (caK.one (w := w) (L := 0) (x := x) HT2)
          have HZ := hide (Box.new wr 112 [.int .i64 0, .int .i64 0, .string ⟨#[]⟩, .bool false, .int .i64 0, .int .i64 0, .int .i64 0, .int .i64 0, .string ⟨#[]⟩, .slice none 0 0, .int .i64 0, .int .i64 0, .bool false, .bool false, .bool false])
          have HTH : Hid (thAt w 0 (.c x) [.iface 112 (.agg cs.toArray)]) := hide ⟨cs, rfl, HT2⟩
          have HNX := hide (map_take_next (Th.c) hkx)
          have HEL := hide hE
          have HAP := hide (fun V (hV : Below wr.heap.size wr V) => (hr.low hV).push (.iface 112 (.agg cs.toArray)) rfl (by omega) (Nat.le_trans hb.size hV.size) 120)
          have q2 : (k : Int) < (lc : Int) := by omega
          have q3 : (0 : Int) ≤ (k : Int) := by omega
          have w1 : wrap64 ((k : Int) + 1) = ((k + 1 : Nat) : Int) := by unfold wrap64; omega
          clear hkx HR0 HT2 hcl0 hb hr hR hE
          go_wp2_with (first
          | (refine wpList_load_mid rfl _ _ rfl b (o + k * 15) rfl cs _ (unhide HR) Tryz.underlying112 rfl (by rw [unhide hcl]; exact infoCaJ) ?_)
          | (refine wpList_store_box rfl _ _ rfl wr.heap.size 0 cs (unhide HZ) (by rw [unhide hcl]; exact Nat.le_refl _) rfl rfl (by rw [unhide hcl]; exact infoCaJ) (unhide hone) ?_
             intro V hV
             have HV : Hid (Box V wr.heap.size 112 cs) := (by
               rw [hV]
               have hp : puts [.int .i64 0, .int .i64 0, .string ⟨#[]⟩, .bool false, .int .i64 0, .int .i64 0, .int .i64 0, .int .i64 0, .string ⟨#[]⟩, .slice none 0 0, .int .i64 0, .int .i64 0, .bool false, .bool false, .bool false] 0 cs = cs := puts_all (by rw [unhide hcl]; rfl)
               have := Box.sets cs 0 _ _ (unhide HZ)
               rw [hp] at this
               exact this)
             have HBV : Hid (Below wr.heap.size wr V) := (by rw [hV]; exact setsG (abG _) (Nat.le_refl _))
             have HAV := hide (unhide HAP V (unhide HBV))
             clear hV HZ HAP)
          | (refine wpList_load_box rfl _ rfl wr.heap.size 0 cs (unhide HV) (fun j v hj => (by rw [Nat.zero_add]; exact hj)) rfl Tryz.underlying112 rfl (by rw [unhide hcl]; exact infoCaJ) ?_)
          | (at_builtin
             refine wpList_append_run rfl _ _ 120 rfl (.slice ra E.length rc) (.slice (some ⟨V.heap.size, 0, none⟩) 1 1) rfl rfl (fun v' w' => IRw W1.heap.size (E ++ [.iface 112 (.agg cs.toArray)]) v' w' ∧ Below W1.heap.size V w') (unhide HAV) ?_
             rintro v5 w5 ⟨t5, b5⟩
             have HT5 := hide t5
             have HB5 := hide (((unhide HBrq).trans ((unhide HBV).mono (unhide HBrq).size)).trans b5)
             clear t5 b5))
          go_roundw
          case rel => exact ⟨k + 1, E ++ [.iface 112 (.agg cs.toArray)], rfl, unhide HT5, (by have := (unhide HRlq).push (unhide HTH); simpa only [unhide HNX, List.cons_append, List.append_assoc] using this), unhide HB5, by omega, by have := (unhide HRlq).1; have := HLL.out; have := HLC.out; simp at this ⊢; simp_all; omega⟩
          case measure => simp only [intOf]; omega
        · have c2 : ¬ (k : Int) < (lc : Int) := by omega
          have HRb : Hid (Rel w (.j X.book X.letters :: (X.letters.map .l ++ X.calls.map .c)) E) := by
            have h := unhide HRlq
            rw [List.take_of_length_le (by have := HLC.out; omega)] at h
            exact h
          have HBE := hide (btG (unhide HB1) hb)
          clear hb hR hE
          go_wp2_with fail
          go_ret
          have hT : E.length = TT.length := by rw [show TT = _ from unhide HTO]; exact (unhide HRb).1
          refine ⟨ra, rc, by rw [← hT]; rfl, ?_, unhide HBE⟩
          rw [show TT = _ from unhide HTO]
          exact (unhide HRb).ls (unhide HBE) (unhide HRr)

theorem step_callR {P : Program} {ops : Array Oper} {Q : Exit → Act → World → Prop} {i d f : Nat} {fn : Func} {xs : Array Operand} {ats : Array TypeId} {ty : TypeId} {pos : String} {after : Array Edge} {g : Option (Nat × Bool)} {K : Act → World → Prop} {a : Act} {w : World}
    (ho : ops[i]? = some { dst := some d, op := .call { callee := .value (.func f), args := xs, argTypes := ats }, type := ty, pos := pos, after := after, guard := g })
    (hw : Region.wanted { dst := some d, op := .call { callee := .value (.func f), args := xs, argTypes := ats }, type := ty, pos := pos, after := after, guard := g } (yielded ops a.tmps) = true)
    (hf : P.funcs[f]? = some fn) (hn : (fn.name == "runtime.NumGoroutine") = false) (hb : fn.body.isNone = false)
    {args : Array Value} (hx : xs.map a.eval = args) (h : Calls P f args w fun e w' => ∃ v, e = .returned v ∧ K (a.put (some d) v) w') :
    wpOp P ops Q i K a w := by
  refine wpOp_step ho fun K' hK => ?_
  rw [if_pos hw]
  unfold Oper.wp
  rw [execOp_call_go, callFunc_enter hf hn hb]
  have he : (#[] ++ xs.map a.eval ++ #[] : Array Value) = xs.map a.eval := by simp
  rw [he, hx]
  refine Calls.mono h ?_
  rintro e w' ⟨v, rfl, hv⟩
  exact hK _ _ hv
/-- A letter's own atom. -/
def atomTm (b : Int) : Tm := .node 1 b ByteArray.empty []
def secretC (X : Wd) (x : Le) : Bool := X.told.contains x.b || !mkB X.known (atomTm x.b)
def ruleS (X : Wd) : Th → Bool
  | .l x => secretC X x
  | _ => true
theorem all_thingsS (X : Wd) : (thingsOf X).all (ruleS X) = X.letters.all (secretC X) := by
  unfold thingsOf
  rw [List.all_cons, List.all_append, List.all_map, List.all_map]
  have h1 : X.calls.all (ruleS X ∘ Th.c) = true := List.all_eq_true.2 fun _ _ => rfl
  rw [h1, Bool.and_true]
  rfl
theorem okT_atom {b : Int} (h0 : 0 ≤ b) (h1 : b ≤ 1000000) : okT (atomTm b) = true := by
  unfold atomTm
  simp [okT, Tm.size, Tm.sizes, rightT, rightL, headB, shareB, h0, h1]
  rfl
theorem atom_wf {b : Int} (h0 : 0 ≤ b) (h1 : b ≤ 1000000) : (Lit.int .i64 b).wf = true := by
  simp only [Lit.wf, Bool.and_eq_true, decide_eq_true_eq]
  simp [IntKind.min, IntKind.max, IntKind.signed, IntKind.bits]
  omega
theorem containsI (l : List Int) (a : Option Addr) (cap : Nat) (x : Int) (w : World) (h : Ints w 0 a l) (hm : l.length ≤ maxLen) :
    Calls Tryz.prog 61 #[.slice a l.length cap, .int .i64 x] w fun e w' => e = .returned (.bool (l.contains x)) ∧ w' = w := by
  cases l with
  | nil => exact Tryz.slices_Contains_int_empty a cap x w
  | cons y r =>
    obtain ⟨b, o, rfl, -, -⟩ := h 0 y rfl
    have hc : ∀ j, j < (y :: r).length → w.cell? ⟨b, o + j, none⟩ = some (.int .i64 ((y :: r).getD j 0)) := fun j hj => by
      obtain ⟨b', o', e, -, hq⟩ := h j _ (List.getElem?_eq_getElem hj)
      simp only [Option.some.injEq, Addr.mk.injEq, and_true] at e
      obtain ⟨rfl, rfl⟩ := e
      rw [hq]
      simp [List.getD, List.getElem?_eq_getElem hj]
    have := Tryz.slices_Contains_int b o (y :: r).length cap (y :: r) x w (Nat.le_refl _) (by unfold maxLen at hm; omega) hc
    rwa [List.take_length] at this

theorem asLeLe (v : Value) (w : World) : (Instr.typeAssert (.iface 52 v) 129 52 true).run Tryz.prog w = .ok (.tuple #[v, .bool true]) w := by kernel_rfl
theorem asCaLe (v : Value) (w : World) : (Instr.typeAssert (.iface 112 v) 129 52 true).run Tryz.prog w = .ok (.tuple #[.agg #[.string ByteArray.empty, .int .i64 0, .int .i64 0, .int .i64 0, .int .i64 0], .bool false]) w := by kernel_rfl
theorem asJoLe (v : Value) (w : World) : (Instr.typeAssert (.iface 159 v) 129 52 true).run Tryz.prog w = .ok (.tuple #[.agg #[.string ByteArray.empty, .int .i64 0, .int .i64 0, .int .i64 0, .int .i64 0], .bool false]) w := by kernel_rfl
theorem infoLeS : (Tryz.prog.info? 52).map (·.size) = some 5 := by kernel_rfl
set_option maxRecDepth 100000 in
set_option maxHeartbeats 8000000 in
theorem ruleSI (X : Wd) (ws : List Value) (gx gk b nf : Nat) (x : Th) (u : Value) (w : World) (h : thAt w 0 x [u]) (hX : wdAt w 0 X ws) (hB : Box w gx 40 ws) (hk : w.cell? ⟨gk, 0, none⟩ = some (.map (some b))) (hF : Facts w b nf (fK X.known)) (hok : ∀ l, x = .l l → 0 ≤ l.b ∧ l.b ≤ 1000000) (ht : Tab w) (he : Err w) :
    Calls Tryz.prog 60 #[u, .pointer (some ⟨gx, 0, none⟩), .pointer (some ⟨gk, 0, none⟩)] w fun e w' => e = .returned (.bool (ruleS X x)) ∧ Below w.heap.size w w' := by
  have HZ := hide (Box.new w 52 [.string ⟨#[]⟩, .int .i64 0, .int .i64 0, .int .i64 0, .int .i64 0])
  obtain ⟨hfit, ak, ck, ac, cc, ah, ch, al, cl, aa, ca, az, cz, ai, ci, rfl, -, -, -, -, -, -, hy6⟩ := hX
  have HB := hide hB
  have HKK := hide hk
  clear hB hk
  cases x with
  | l x =>
    obtain ⟨cs, hu, hx⟩ := h
    cases hu
    obtain ⟨hb0, hb1⟩ := hok x rfl
    have hl := hide (leK.len (w := w) (L := 0) (x := x) hx)
    have hone := hide (leK.one (w := w) (L := 0) (x := x) hx)
    obtain ⟨hcs, -⟩ := hx
    have HCS := hide hcs
    have hat : atOp x.b = 1 ∧ atN x.b = x.b := by
      have := okT_atom hb0 hb1
      unfold atomTm at this
      unfold atOp atN
      rw [if_pos this, if_pos this]
      exact ⟨rfl, rfl⟩
    have HCI := hide (fun v (hv : Below w.heap.size w v) => containsI X.told ai ci x.b v (hy6.on hv) hfit.2.2.2.2.2.2.1)
    have HAT : Hid (∀ v, Below w.heap.size w v → Calls Tryz.prog 63 #[.int .i64 x.b] v fun e w' => e = .returned (.agg #[.int .i64 1, .int .i64 x.b, .string ByteArray.empty, .slice none 0 0]) ∧ Below v.heap.size v w') := fun v hv => by
      have := atom7 x.b v (atom_wf hb0 hb1) (he.on hv)
      rwa [hat.1, hat.2] at this
    have HMK : Hid (∀ v, Below w.heap.size w v → Calls Tryz.prog 62 #[.map (some b), .agg #[.int .i64 1, .int .i64 x.b, .string ByteArray.empty, .slice none 0 0]] v fun e w' => e = .returned (.bool (mkB X.known (atomTm x.b))) ∧ Below v.heap.size v w') := fun v hv =>
      makes_calls X.known b nf (atomTm x.b) 1 x.b ByteArray.empty none 0 0 v (lies_leaf v 1 x.b ByteArray.empty (by simp [maxLen]) (by decide) (atom_wf hb0 hb1)) (okT_atom hb0 hb1) (hF.low hv) (ht.on hv) (he.on hv)
    have HE0 : Hid (ruleS X (.l x) = (X.told.contains x.b || !mkB X.known (atomTm x.b))) := hide rfl
    have A1 := asLeLe (.agg cs.toArray)
    clear hcs hy6 hfit hF ht he hok hat hb0 hb1
    generalize ruleS X (.l x) = r2 at *
    generalize X.told.contains x.b = tb at *
    generalize mkB X.known (atomTm x.b) = mb at *
    obtain ⟨ld, lb, ls, lt, ln⟩ := x
    replace HCI : Hid (∀ v, Below w.heap.size w v → Calls Tryz.prog 61 #[.slice ai X.told.length ci, .int .i64 lb] v fun e w' => e = .returned (.bool tb) ∧ w' = v) := HCI
    replace HAT : Hid (∀ v, Below w.heap.size w v → Calls Tryz.prog 63 #[.int .i64 lb] v fun e w' => e = .returned (.agg #[.int .i64 1, .int .i64 lb, .string ByteArray.empty, .slice none 0 0]) ∧ Below v.heap.size v w') := HAT
    replace HMK : Hid (∀ v, Below w.heap.size w v → Calls Tryz.prog 62 #[.map (some b), .agg #[.int .i64 1, .int .i64 lb, .string ByteArray.empty, .slice none 0 0]] v fun e w' => e = .returned (.bool mb) ∧ Below v.heap.size v w') := HMK
    go_enter Tryz.func60, Tryz.ntmps60
    go_wp2_with (first
      | (refine wpList_store_box rfl _ _ rfl w.heap.size 0 cs (unhide HZ) (by rw [unhide hl]; exact Nat.le_refl _) rfl rfl (by rw [unhide hl]; exact infoLeS) (unhide hone) ?_
         intro V hV
         have HV : Hid (Box V w.heap.size 52 cs) := (by
           rw [hV]
           have hp : puts [.string ⟨#[]⟩, .int .i64 0, .int .i64 0, .int .i64 0, .int .i64 0] 0 cs = cs := puts_all (by rw [unhide hl]; rfl)
           have := Box.sets cs 0 _ _ (unhide HZ)
           rw [hp] at this
           exact this)
         have HBV : Hid (Below w.heap.size w V) := (by rw [hV]; exact setsG (abG _) (Nat.le_refl _))
         have hcs := unhide HCS
         have d1 : V.cell? ⟨w.heap.size, 1, none⟩ = some (.int .i64 lb) := (unhide HV).cell (by rw [hcs]; rfl)
         have k10 : V.cell? ⟨gx, 10, none⟩ = some (.slice ai X.told.length ci) := ((unhide HB).on (unhide HBV)).cell rfl
         have kk : V.cell? ⟨gk, 0, none⟩ = some (.map (some b)) := below_some (unhide HBV) (unhide HKK)
         clear hV HZ HV hcs))
    replace HCI : Hid (∀ v, Below V.heap.size V v → Calls Tryz.prog 61 #[.slice ai X.told.length ci, .int .i64 lb] v fun e w' => e = .returned (.bool tb) ∧ w' = v) := hide (fun v hv => unhide HCI v (btG (unhide HBV) hv))
    replace HAT : Hid (∀ v, Below V.heap.size V v → Calls Tryz.prog 63 #[.int .i64 lb] v fun e w' => e = .returned (.agg #[.int .i64 1, .int .i64 lb, .string ByteArray.empty, .slice none 0 0]) ∧ Below v.heap.size v w') := hide (fun v hv => unhide HAT v (btG (unhide HBV) hv))
    replace HMK : Hid (∀ v, Below V.heap.size V v → Calls Tryz.prog 62 #[.map (some b), .agg #[.int .i64 1, .int .i64 lb, .string ByteArray.empty, .slice none 0 0]] v fun e w' => e = .returned (.bool mb) ∧ Below v.heap.size v w') := hide (fun v hv => unhide HMK v (btG (unhide HBV) hv))
    cases tb with
    | true =>
      have HE : Hid (r2 = true) := by show r2 = true; rw [unhide HE0]; rfl
      refine wp_region_held (S := fun y => y.cell? ⟨gx, 10, none⟩ = some (.slice ai X.told.length ci) ∧ y.cell? ⟨gk, 0, none⟩ = some (.map (some b)) ∧ y.cell? ⟨w.heap.size, 1, none⟩ = some (.int .i64 lb)) (by kernel_rfl) ?_
      have hS : (fun y : World => y.cell? ⟨gx, 10, none⟩ = some (.slice ai X.told.length ci) ∧ y.cell? ⟨gk, 0, none⟩ = some (.map (some b)) ∧ y.cell? ⟨w.heap.size, 1, none⟩ = some (.int .i64 lb)) V.drew := ⟨k10, kk, d1⟩
      show wpAnyH _ _ _ _ _ _ _ _ V.drew
      refine wpAnyH_take (i := 0) (oi := { dst := some 12, op := Go.Op.move (Go.Operand.tmp 6), type := 4, pos := "l15_judge.go:75", after := #[], guard := none }) (v := ?_) rfl (by kernel_rfl) (by kernel_rfl) (by kernel_rfl) (fun _ _ _ h => h) (Or.inl ⟨by rfl, ?_⟩) hS ?_
      rotate_left
      · intro y hSy; obtain ⟨y0, y1, y2⟩ := hSy; go_simp; try with_reducible rfl
      simp only [Act.put, List.setIfInBounds_toArray, List.set_cons_succ, List.set_cons_zero]
      refine wpAnyH_take (i := 1) (oi := { dst := some 13, op := Go.Op.unOp Go.UnOp.not 4 (Go.Operand.tmp 12), type := 4, pos := "l15_judge.go:75", after := #[{ on := 0, ground := Go.Ground.data }], guard := none }) (v := ?_) rfl (by kernel_rfl) (by kernel_rfl) (by kernel_rfl) (fun _ _ _ h => h) (Or.inl ⟨by rfl, ?_⟩) hS ?_
      rotate_left
      · intro y hSy; obtain ⟨y0, y1, y2⟩ := hSy; go_simp; try with_reducible rfl
      simp only [Act.put, List.setIfInBounds_toArray, List.set_cons_succ, List.set_cons_zero]
      refine wpAnyH_take (i := 2) (oi := { dst := some 14, op := Go.Op.move (Go.Operand.tmp 13), type := 4, pos := "l15_judge.go:75", after := #[{ on := 1, ground := Go.Ground.data }], guard := none }) (v := ?_) rfl (by kernel_rfl) (by kernel_rfl) (by kernel_rfl) (fun _ _ _ h => h) (Or.inl ⟨by rfl, ?_⟩) hS ?_
      rotate_left
      · intro y hSy; obtain ⟨y0, y1, y2⟩ := hSy; go_simp; try with_reducible rfl
      simp only [Act.put, List.setIfInBounds_toArray, List.set_cons_succ, List.set_cons_zero]
      refine wpAnyH_take (i := 3) (oi := { dst := some 15, op := Go.Op.fieldAddr 40 (Go.Operand.tmp 1) 10, type := 0, pos := "l15_judge.go:75", after := #[{ on := 2, ground := Go.Ground.guard }], guard := some (2, false) }) (v := ?_) rfl (by kernel_rfl) (by kernel_rfl) (by kernel_rfl) (fun _ _ _ h => h) (Or.inl ⟨by rfl, ?_⟩) hS ?_
      rotate_left
      · intro y hSy; obtain ⟨y0, y1, y2⟩ := hSy; go_simp; try with_reducible rfl
      simp only [Act.put, List.setIfInBounds_toArray, List.set_cons_succ, List.set_cons_zero]
      refine wpAnyH_take (i := 4) (oi := { dst := some 16, op := Go.Op.load 28 (Go.Operand.tmp 15), type := 28, pos := "l15_judge.go:75", after := #[{ on := 3, ground := Go.Ground.data }, { on := 2, ground := Go.Ground.guard }], guard := some (2, false) }) (v := ?_) rfl (by kernel_rfl) (by kernel_rfl) (by kernel_rfl) (fun _ _ _ h => h) (Or.inl ⟨by rfl, ?_⟩) hS ?_
      rotate_left
      · intro y hSy; obtain ⟨y0, y1, y2⟩ := hSy; go_simp; try with_reducible rfl
      simp only [Act.put, List.setIfInBounds_toArray, List.set_cons_succ, List.set_cons_zero]
      refine wpAnyH_take (i := 5) (oi := { dst := some 17, op := Go.Op.fieldAddr 52 (Go.Operand.tmp 5) 1, type := 0, pos := "l15_judge.go:75", after := #[{ on := 2, ground := Go.Ground.guard }], guard := some (2, false) }) (v := ?_) rfl (by kernel_rfl) (by kernel_rfl) (by kernel_rfl) (fun _ _ _ h => h) (Or.inl ⟨by rfl, ?_⟩) hS ?_
      rotate_left
      · intro y hSy; obtain ⟨y0, y1, y2⟩ := hSy; go_simp; try with_reducible rfl
      simp only [Act.put, List.setIfInBounds_toArray, List.set_cons_succ, List.set_cons_zero]
      refine wpAnyH_take (i := 6) (oi := { dst := some 18, op := Go.Op.load 3 (Go.Operand.tmp 17), type := 3, pos := "l15_judge.go:75", after := #[{ on := 5, ground := Go.Ground.data }, { on := 2, ground := Go.Ground.guard }], guard := some (2, false) }) (v := ?_) rfl (by kernel_rfl) (by kernel_rfl) (by kernel_rfl) (fun _ _ _ h => h) (Or.inl ⟨by rfl, ?_⟩) hS ?_
      rotate_left
      · intro y hSy; obtain ⟨y0, y1, y2⟩ := hSy; go_simp; try with_reducible rfl
      simp only [Act.put, List.setIfInBounds_toArray, List.set_cons_succ, List.set_cons_zero]
      refine wpAnyH_all (rs := [7]) (by kernel_rfl) (by simp) ?_
      intro i hi
      simp only [List.mem_singleton] at hi
      subst hi
      refine step_callR (f := 61) (fn := Tryz.f61) (d := 19) (args := #[.slice ai X.told.length ci, .int .i64 lb]) rfl (by rfl) Tryz.func61 (by kernel_rfl) (by kernel_rfl) (by simp [Act.eval]) ?_
      refine (unhide HCI _ ((Below.refl _ _).drew)).mono ?_
      rintro e w2 ⟨rfl, rfl⟩
      refine ⟨_, rfl, ?_⟩
      refine ⟨hS, ?_⟩
      simp only [Act.put, List.setIfInBounds_toArray, List.set_cons_succ, List.set_cons_zero]
      refine wpAnyH_take (i := 8) (oi := { dst := some 20, op := Go.Op.pick (Go.Operand.tmp 14) (Go.Operand.const (Go.Value.bool true)) (Go.Operand.tmp 19), type := 4, pos := "l15_judge.go:75", after := #[{ on := 2, ground := Go.Ground.data }, { on := 7, ground := Go.Ground.data }], guard := none }) (v := ?_) rfl (by kernel_rfl) (by kernel_rfl) (by kernel_rfl) (fun _ _ _ h => h) (Or.inl ⟨by rfl, ?_⟩) hS ?_
      rotate_left
      · intro y hSy; obtain ⟨y0, y1, y2⟩ := hSy; go_simp; try with_reducible rfl
      simp only [Act.put, List.setIfInBounds_toArray, List.set_cons_succ, List.set_cons_zero]
      refine wpAnyH_take (i := 9) (oi := { dst := some 21, op := Go.Op.move (Go.Operand.tmp 20), type := 4, pos := "l15_judge.go:75", after := #[{ on := 8, ground := Go.Ground.data }, { on := 7, ground := Go.Ground.chain }], guard := none }) (v := ?_) rfl (by kernel_rfl) (by kernel_rfl) (by kernel_rfl) (fun _ _ _ h => h) (Or.inl ⟨by rfl, ?_⟩) hS ?_
      rotate_left
      · intro y hSy; obtain ⟨y0, y1, y2⟩ := hSy; go_simp; try with_reducible rfl
      simp only [Act.put, List.setIfInBounds_toArray, List.set_cons_succ, List.set_cons_zero]
      refine wpAnyH_take (i := 10) (oi := { dst := some 22, op := Go.Op.load 126 (Go.Operand.tmp 2), type := 126, pos := "l15_judge.go:75", after := #[{ on := 9, ground := Go.Ground.guard }], guard := some (9, false) }) (v := undef) rfl (by kernel_rfl) (by kernel_rfl) (by kernel_rfl) (fun _ _ _ h => h) (Or.inr ⟨by rfl, rfl⟩) hS ?_
      simp only [Act.put, List.setIfInBounds_toArray, List.set_cons_succ, List.set_cons_zero]
      refine wpAnyH_take (i := 11) (oi := { dst := some 23, op := Go.Op.fieldAddr 52 (Go.Operand.tmp 5) 1, type := 0, pos := "l15_judge.go:75", after := #[{ on := 9, ground := Go.Ground.guard }], guard := some (9, false) }) (v := undef) rfl (by kernel_rfl) (by kernel_rfl) (by kernel_rfl) (fun _ _ _ h => h) (Or.inr ⟨by rfl, rfl⟩) hS ?_
      simp only [Act.put, List.setIfInBounds_toArray, List.set_cons_succ, List.set_cons_zero]
      refine wpAnyH_take (i := 12) (oi := { dst := some 24, op := Go.Op.load 3 (Go.Operand.tmp 23), type := 3, pos := "l15_judge.go:75", after := #[{ on := 11, ground := Go.Ground.data }, { on := 9, ground := Go.Ground.guard }], guard := some (9, false) }) (v := undef) rfl (by kernel_rfl) (by kernel_rfl) (by kernel_rfl) (fun _ _ _ h => h) (Or.inr ⟨by rfl, rfl⟩) hS ?_
      simp only [Act.put, List.setIfInBounds_toArray, List.set_cons_succ, List.set_cons_zero]
      refine wpAnyH_take (i := 13) (oi := { dst := some 25, op := Go.Op.call { callee := Go.Callee.value (Go.Operand.func 63), args := #[Go.Operand.tmp 24], argTypes := #[3] }, type := 56, pos := "l15_judge.go:75", after := #[{ on := 12, ground := Go.Ground.data }, { on := 9, ground := Go.Ground.chain }, { on := 9, ground := Go.Ground.guard }], guard := some (9, false) }) (v := undef) rfl (by kernel_rfl) (by kernel_rfl) (by kernel_rfl) (fun _ _ _ h => h) (Or.inr ⟨by rfl, rfl⟩) hS ?_
      simp only [Act.put, List.setIfInBounds_toArray, List.set_cons_succ, List.set_cons_zero]
      refine wpAnyH_take (i := 14) (oi := { dst := some 26, op := Go.Op.call { callee := Go.Callee.value (Go.Operand.func 62), args := #[Go.Operand.tmp 22, Go.Operand.tmp 25], argTypes := #[126, 56] }, type := 4, pos := "l15_judge.go:75", after := #[{ on := 10, ground := Go.Ground.data }, { on := 13, ground := Go.Ground.data }, { on := 13, ground := Go.Ground.chain }, { on := 9, ground := Go.Ground.guard }], guard := some (9, false) }) (v := undef) rfl (by kernel_rfl) (by kernel_rfl) (by kernel_rfl) (fun _ _ _ h => h) (Or.inr ⟨by rfl, rfl⟩) hS ?_
      simp only [Act.put, List.setIfInBounds_toArray, List.set_cons_succ, List.set_cons_zero]
      refine wpAnyH_take (i := 15) (oi := { dst := some 27, op := Go.Op.unOp Go.UnOp.not 4 (Go.Operand.tmp 26), type := 4, pos := "l15_judge.go:75", after := #[{ on := 14, ground := Go.Ground.data }, { on := 9, ground := Go.Ground.guard }], guard := some (9, false) }) (v := undef) rfl (by kernel_rfl) (by kernel_rfl) (by kernel_rfl) (fun _ _ _ h => h) (Or.inr ⟨by rfl, rfl⟩) hS ?_
      simp only [Act.put, List.setIfInBounds_toArray, List.set_cons_succ, List.set_cons_zero]
      refine wpAnyH_take (i := 16) (oi := { dst := some 28, op := Go.Op.pick (Go.Operand.tmp 21) (Go.Operand.const (Go.Value.bool true)) (Go.Operand.tmp 27), type := 4, pos := "l15_judge.go:75", after := #[{ on := 9, ground := Go.Ground.data }, { on := 15, ground := Go.Ground.data }], guard := none }) (v := ?_) rfl (by kernel_rfl) (by kernel_rfl) (by kernel_rfl) (fun _ _ _ h => h) (Or.inl ⟨by rfl, ?_⟩) hS ?_
      rotate_left
      · intro y hSy; obtain ⟨y0, y1, y2⟩ := hSy; go_simp; try with_reducible rfl
      simp only [Act.put, List.setIfInBounds_toArray, List.set_cons_succ, List.set_cons_zero]
      refine wpAnyH_take (i := 17) (oi := { dst := some 4, op := Go.Op.assign (Go.Operand.tmp 28), type := 4, pos := "l15_judge.go:75", after := #[{ on := 16, ground := Go.Ground.data }, { on := 14, ground := Go.Ground.chain }, { on := 0, ground := Go.Ground.phase }, { on := 1, ground := Go.Ground.phase }, { on := 2, ground := Go.Ground.phase }, { on := 3, ground := Go.Ground.phase }, { on := 4, ground := Go.Ground.phase }, { on := 5, ground := Go.Ground.phase }, { on := 6, ground := Go.Ground.phase }, { on := 7, ground := Go.Ground.phase }, { on := 8, ground := Go.Ground.phase }, { on := 9, ground := Go.Ground.phase }, { on := 10, ground := Go.Ground.phase }, { on := 11, ground := Go.Ground.phase }, { on := 12, ground := Go.Ground.phase }, { on := 13, ground := Go.Ground.phase }, { on := 14, ground := Go.Ground.phase }, { on := 15, ground := Go.Ground.phase }, { on := 16, ground := Go.Ground.phase }], guard := none }) (v := ?_) rfl (by kernel_rfl) (by kernel_rfl) (by kernel_rfl) (fun _ _ _ h => h) (Or.inl ⟨by rfl, ?_⟩) hS ?_
      rotate_left
      · intro y hSy; obtain ⟨y0, y1, y2⟩ := hSy; go_simp; try with_reducible rfl
      simp only [Act.put, List.setIfInBounds_toArray, List.set_cons_succ, List.set_cons_zero]
      refine wpAnyH_done (by kernel_rfl) ?_ _
      go_wp2_with fail
      go_ret
      exact ⟨retB (unhide HE), (unhide HBV).drew⟩
    | false =>
      have HE : Hid (r2 = !mb) := by show r2 = _; rw [unhide HE0]; rfl
      refine wp_region_held (S := fun y => y.cell? ⟨gx, 10, none⟩ = some (.slice ai X.told.length ci) ∧ y.cell? ⟨gk, 0, none⟩ = some (.map (some b)) ∧ y.cell? ⟨w.heap.size, 1, none⟩ = some (.int .i64 lb)) (by kernel_rfl) ?_
      have hS : (fun y : World => y.cell? ⟨gx, 10, none⟩ = some (.slice ai X.told.length ci) ∧ y.cell? ⟨gk, 0, none⟩ = some (.map (some b)) ∧ y.cell? ⟨w.heap.size, 1, none⟩ = some (.int .i64 lb)) V.drew := ⟨k10, kk, d1⟩
      show wpAnyH _ _ _ _ _ _ _ _ V.drew
      refine wpAnyH_take (i := 0) (oi := { dst := some 12, op := Go.Op.move (Go.Operand.tmp 6), type := 4, pos := "l15_judge.go:75", after := #[], guard := none }) (v := ?_) rfl (by kernel_rfl) (by kernel_rfl) (by kernel_rfl) (fun _ _ _ h => h) (Or.inl ⟨by rfl, ?_⟩) hS ?_
      rotate_left
      · intro y hSy; obtain ⟨y0, y1, y2⟩ := hSy; go_simp; try with_reducible rfl
      simp only [Act.put, List.setIfInBounds_toArray, List.set_cons_succ, List.set_cons_zero]
      refine wpAnyH_take (i := 1) (oi := { dst := some 13, op := Go.Op.unOp Go.UnOp.not 4 (Go.Operand.tmp 12), type := 4, pos := "l15_judge.go:75", after := #[{ on := 0, ground := Go.Ground.data }], guard := none }) (v := ?_) rfl (by kernel_rfl) (by kernel_rfl) (by kernel_rfl) (fun _ _ _ h => h) (Or.inl ⟨by rfl, ?_⟩) hS ?_
      rotate_left
      · intro y hSy; obtain ⟨y0, y1, y2⟩ := hSy; go_simp; try with_reducible rfl
      simp only [Act.put, List.setIfInBounds_toArray, List.set_cons_succ, List.set_cons_zero]
      refine wpAnyH_take (i := 2) (oi := { dst := some 14, op := Go.Op.move (Go.Operand.tmp 13), type := 4, pos := "l15_judge.go:75", after := #[{ on := 1, ground := Go.Ground.data }], guard := none }) (v := ?_) rfl (by kernel_rfl) (by kernel_rfl) (by kernel_rfl) (fun _ _ _ h => h) (Or.inl ⟨by rfl, ?_⟩) hS ?_
      rotate_left
      · intro y hSy; obtain ⟨y0, y1, y2⟩ := hSy; go_simp; try with_reducible rfl
      simp only [Act.put, List.setIfInBounds_toArray, List.set_cons_succ, List.set_cons_zero]
      refine wpAnyH_take (i := 3) (oi := { dst := some 15, op := Go.Op.fieldAddr 40 (Go.Operand.tmp 1) 10, type := 0, pos := "l15_judge.go:75", after := #[{ on := 2, ground := Go.Ground.guard }], guard := some (2, false) }) (v := ?_) rfl (by kernel_rfl) (by kernel_rfl) (by kernel_rfl) (fun _ _ _ h => h) (Or.inl ⟨by rfl, ?_⟩) hS ?_
      rotate_left
      · intro y hSy; obtain ⟨y0, y1, y2⟩ := hSy; go_simp; try with_reducible rfl
      simp only [Act.put, List.setIfInBounds_toArray, List.set_cons_succ, List.set_cons_zero]
      refine wpAnyH_take (i := 4) (oi := { dst := some 16, op := Go.Op.load 28 (Go.Operand.tmp 15), type := 28, pos := "l15_judge.go:75", after := #[{ on := 3, ground := Go.Ground.data }, { on := 2, ground := Go.Ground.guard }], guard := some (2, false) }) (v := ?_) rfl (by kernel_rfl) (by kernel_rfl) (by kernel_rfl) (fun _ _ _ h => h) (Or.inl ⟨by rfl, ?_⟩) hS ?_
      rotate_left
      · intro y hSy; obtain ⟨y0, y1, y2⟩ := hSy; go_simp; try with_reducible rfl
      simp only [Act.put, List.setIfInBounds_toArray, List.set_cons_succ, List.set_cons_zero]
      refine wpAnyH_take (i := 5) (oi := { dst := some 17, op := Go.Op.fieldAddr 52 (Go.Operand.tmp 5) 1, type := 0, pos := "l15_judge.go:75", after := #[{ on := 2, ground := Go.Ground.guard }], guard := some (2, false) }) (v := ?_) rfl (by kernel_rfl) (by kernel_rfl) (by kernel_rfl) (fun _ _ _ h => h) (Or.inl ⟨by rfl, ?_⟩) hS ?_
      rotate_left
      · intro y hSy; obtain ⟨y0, y1, y2⟩ := hSy; go_simp; try with_reducible rfl
      simp only [Act.put, List.setIfInBounds_toArray, List.set_cons_succ, List.set_cons_zero]
      refine wpAnyH_take (i := 6) (oi := { dst := some 18, op := Go.Op.load 3 (Go.Operand.tmp 17), type := 3, pos := "l15_judge.go:75", after := #[{ on := 5, ground := Go.Ground.data }, { on := 2, ground := Go.Ground.guard }], guard := some (2, false) }) (v := ?_) rfl (by kernel_rfl) (by kernel_rfl) (by kernel_rfl) (fun _ _ _ h => h) (Or.inl ⟨by rfl, ?_⟩) hS ?_
      rotate_left
      · intro y hSy; obtain ⟨y0, y1, y2⟩ := hSy; go_simp; try with_reducible rfl
      simp only [Act.put, List.setIfInBounds_toArray, List.set_cons_succ, List.set_cons_zero]
      refine wpAnyH_all (rs := [7]) (by kernel_rfl) (by simp) ?_
      intro i hi
      simp only [List.mem_singleton] at hi
      subst hi
      refine step_callR (f := 61) (fn := Tryz.f61) (d := 19) (args := #[.slice ai X.told.length ci, .int .i64 lb]) rfl (by rfl) Tryz.func61 (by kernel_rfl) (by kernel_rfl) (by simp [Act.eval]) ?_
      refine (unhide HCI _ ((Below.refl _ _).drew)).mono ?_
      rintro e w2 ⟨rfl, rfl⟩
      refine ⟨_, rfl, ?_⟩
      refine ⟨hS, ?_⟩
      simp only [Act.put, List.setIfInBounds_toArray, List.set_cons_succ, List.set_cons_zero]
      refine wpAnyH_take (i := 8) (oi := { dst := some 20, op := Go.Op.pick (Go.Operand.tmp 14) (Go.Operand.const (Go.Value.bool true)) (Go.Operand.tmp 19), type := 4, pos := "l15_judge.go:75", after := #[{ on := 2, ground := Go.Ground.data }, { on := 7, ground := Go.Ground.data }], guard := none }) (v := ?_) rfl (by kernel_rfl) (by kernel_rfl) (by kernel_rfl) (fun _ _ _ h => h) (Or.inl ⟨by rfl, ?_⟩) hS ?_
      rotate_left
      · intro y hSy; obtain ⟨y0, y1, y2⟩ := hSy; go_simp; try with_reducible rfl
      simp only [Act.put, List.setIfInBounds_toArray, List.set_cons_succ, List.set_cons_zero]
      refine wpAnyH_take (i := 9) (oi := { dst := some 21, op := Go.Op.move (Go.Operand.tmp 20), type := 4, pos := "l15_judge.go:75", after := #[{ on := 8, ground := Go.Ground.data }, { on := 7, ground := Go.Ground.chain }], guard := none }) (v := ?_) rfl (by kernel_rfl) (by kernel_rfl) (by kernel_rfl) (fun _ _ _ h => h) (Or.inl ⟨by rfl, ?_⟩) hS ?_
      rotate_left
      · intro y hSy; obtain ⟨y0, y1, y2⟩ := hSy; go_simp; try with_reducible rfl
      simp only [Act.put, List.setIfInBounds_toArray, List.set_cons_succ, List.set_cons_zero]
      refine wpAnyH_take (i := 10) (oi := { dst := some 22, op := Go.Op.load 126 (Go.Operand.tmp 2), type := 126, pos := "l15_judge.go:75", after := #[{ on := 9, ground := Go.Ground.guard }], guard := some (9, false) }) (v := ?_) rfl (by kernel_rfl) (by kernel_rfl) (by kernel_rfl) (fun _ _ _ h => h) (Or.inl ⟨by rfl, ?_⟩) hS ?_
      rotate_left
      · intro y hSy; obtain ⟨y0, y1, y2⟩ := hSy; go_simp; try with_reducible rfl
      simp only [Act.put, List.setIfInBounds_toArray, List.set_cons_succ, List.set_cons_zero]
      refine wpAnyH_take (i := 11) (oi := { dst := some 23, op := Go.Op.fieldAddr 52 (Go.Operand.tmp 5) 1, type := 0, pos := "l15_judge.go:75", after := #[{ on := 9, ground := Go.Ground.guard }], guard := some (9, false) }) (v := ?_) rfl (by kernel_rfl) (by kernel_rfl) (by kernel_rfl) (fun _ _ _ h => h) (Or.inl ⟨by rfl, ?_⟩) hS ?_
      rotate_left
      · intro y hSy; obtain ⟨y0, y1, y2⟩ := hSy; go_simp; try with_reducible rfl
      simp only [Act.put, List.setIfInBounds_toArray, List.set_cons_succ, List.set_cons_zero]
      refine wpAnyH_take (i := 12) (oi := { dst := some 24, op := Go.Op.load 3 (Go.Operand.tmp 23), type := 3, pos := "l15_judge.go:75", after := #[{ on := 11, ground := Go.Ground.data }, { on := 9, ground := Go.Ground.guard }], guard := some (9, false) }) (v := ?_) rfl (by kernel_rfl) (by kernel_rfl) (by kernel_rfl) (fun _ _ _ h => h) (Or.inl ⟨by rfl, ?_⟩) hS ?_
      rotate_left
      · intro y hSy; obtain ⟨y0, y1, y2⟩ := hSy; go_simp; try with_reducible rfl
      simp only [Act.put, List.setIfInBounds_toArray, List.set_cons_succ, List.set_cons_zero]
      refine wpAnyH_all (rs := [13]) (by kernel_rfl) (by simp) ?_
      intro i hi
      simp only [List.mem_singleton] at hi
      subst hi
      refine step_callR (f := 63) (fn := Tryz.f63) (d := 25) (args := #[.int .i64 lb]) rfl (by rfl) Tryz.func63 (by kernel_rfl) (by kernel_rfl) (by simp [Act.eval]) ?_
      refine (unhide HAT _ ((Below.refl _ _).drew)).mono ?_
      rintro e w3 ⟨rfl, hb3⟩
      have HB3 := hide (below_drewG hb3)
      refine ⟨_, rfl, ?_⟩
      have hS3 : (fun y : World => y.cell? ⟨gx, 10, none⟩ = some (.slice ai X.told.length ci) ∧ y.cell? ⟨gk, 0, none⟩ = some (.map (some b)) ∧ y.cell? ⟨w.heap.size, 1, none⟩ = some (.int .i64 lb)) w3 := ⟨below_some hb3 k10, below_some hb3 kk, below_some hb3 d1⟩
      refine ⟨hS3, ?_⟩
      simp only [Act.put, List.setIfInBounds_toArray, List.set_cons_succ, List.set_cons_zero]
      refine wpAnyH_all (rs := [14]) (by kernel_rfl) (by simp) ?_
      intro i hi
      simp only [List.mem_singleton] at hi
      subst hi
      refine step_callR (f := 62) (fn := Tryz.f62) (d := 26) (args := #[.map (some b), .agg #[.int .i64 1, .int .i64 lb, .string ByteArray.empty, .slice none 0 0]]) rfl (by rfl) Tryz.func62 (by kernel_rfl) (by kernel_rfl) (by simp [Act.eval]) ?_
      refine (unhide HMK _ (unhide HB3)).mono ?_
      rintro e w4 ⟨rfl, hb4⟩
      have HB4 := hide (btG (unhide HBV) (btG (unhide HB3) hb4))
      refine ⟨_, rfl, ?_⟩
      have hS4 : (fun y : World => y.cell? ⟨gx, 10, none⟩ = some (.slice ai X.told.length ci) ∧ y.cell? ⟨gk, 0, none⟩ = some (.map (some b)) ∧ y.cell? ⟨w.heap.size, 1, none⟩ = some (.int .i64 lb)) w4 := ⟨below_some hb4 hS3.1, below_some hb4 hS3.2.1, below_some hb4 hS3.2.2⟩
      refine ⟨hS4, ?_⟩
      simp only [Act.put, List.setIfInBounds_toArray, List.set_cons_succ, List.set_cons_zero]
      refine wpAnyH_take (i := 15) (oi := { dst := some 27, op := Go.Op.unOp Go.UnOp.not 4 (Go.Operand.tmp 26), type := 4, pos := "l15_judge.go:75", after := #[{ on := 14, ground := Go.Ground.data }, { on := 9, ground := Go.Ground.guard }], guard := some (9, false) }) (v := ?_) rfl (by kernel_rfl) (by kernel_rfl) (by kernel_rfl) (fun _ _ _ h => h) (Or.inl ⟨by rfl, ?_⟩) hS4 ?_
      rotate_left
      · intro y hSy; obtain ⟨y0, y1, y2⟩ := hSy; go_simp; try with_reducible rfl
      simp only [Act.put, List.setIfInBounds_toArray, List.set_cons_succ, List.set_cons_zero]
      refine wpAnyH_take (i := 16) (oi := { dst := some 28, op := Go.Op.pick (Go.Operand.tmp 21) (Go.Operand.const (Go.Value.bool true)) (Go.Operand.tmp 27), type := 4, pos := "l15_judge.go:75", after := #[{ on := 9, ground := Go.Ground.data }, { on := 15, ground := Go.Ground.data }], guard := none }) (v := ?_) rfl (by kernel_rfl) (by kernel_rfl) (by kernel_rfl) (fun _ _ _ h => h) (Or.inl ⟨by rfl, ?_⟩) hS4 ?_
      rotate_left
      · intro y hSy; obtain ⟨y0, y1, y2⟩ := hSy; go_simp; try with_reducible rfl
      simp only [Act.put, List.setIfInBounds_toArray, List.set_cons_succ, List.set_cons_zero]
      refine wpAnyH_take (i := 17) (oi := { dst := some 4, op := Go.Op.assign (Go.Operand.tmp 28), type := 4, pos := "l15_judge.go:75", after := #[{ on := 16, ground := Go.Ground.data }, { on := 14, ground := Go.Ground.chain }, { on := 0, ground := Go.Ground.phase }, { on := 1, ground := Go.Ground.phase }, { on := 2, ground := Go.Ground.phase }, { on := 3, ground := Go.Ground.phase }, { on := 4, ground := Go.Ground.phase }, { on := 5, ground := Go.Ground.phase }, { on := 6, ground := Go.Ground.phase }, { on := 7, ground := Go.Ground.phase }, { on := 8, ground := Go.Ground.phase }, { on := 9, ground := Go.Ground.phase }, { on := 10, ground := Go.Ground.phase }, { on := 11, ground := Go.Ground.phase }, { on := 12, ground := Go.Ground.phase }, { on := 13, ground := Go.Ground.phase }, { on := 14, ground := Go.Ground.phase }, { on := 15, ground := Go.Ground.phase }, { on := 16, ground := Go.Ground.phase }], guard := none }) (v := ?_) rfl (by kernel_rfl) (by kernel_rfl) (by kernel_rfl) (fun _ _ _ h => h) (Or.inl ⟨by rfl, ?_⟩) hS4 ?_
      rotate_left
      · intro y hSy; obtain ⟨y0, y1, y2⟩ := hSy; go_simp; try with_reducible rfl
      simp only [Act.put, List.setIfInBounds_toArray, List.set_cons_succ, List.set_cons_zero]
      refine wpAnyH_done (by kernel_rfl) ?_ _
      go_wp2_with fail
      go_ret
      exact ⟨retB (unhide HE), unhide HB4⟩
  | c x =>
    obtain ⟨cs, hu, hx⟩ := h
    cases hu
    have A1 := asCaLe (.agg cs.toArray)
    clear hx hy6 hfit hF ht he hok
    go_enter Tryz.func60, Tryz.ntmps60
    go_wp2_with fail
    refine wp_region_held (S := fun _ => True) (by kernel_rfl) ?_
    refine wpAnyH_take (i := 0) (oi := { dst := some 12, op := Go.Op.move (Go.Operand.tmp 6), type := 4, pos := "l15_judge.go:75", after := #[], guard := none }) (v := ?_) rfl (by kernel_rfl) (by kernel_rfl) (by kernel_rfl) (fun _ _ _ h => h) (Or.inl ⟨by rfl, ?_⟩) trivial ?_
    rotate_left
    · intro y _; go_simp; try with_reducible rfl
    simp only [Act.put, List.setIfInBounds_toArray, List.set_cons_succ, List.set_cons_zero]
    refine wpAnyH_take (i := 1) (oi := { dst := some 13, op := Go.Op.unOp Go.UnOp.not 4 (Go.Operand.tmp 12), type := 4, pos := "l15_judge.go:75", after := #[{ on := 0, ground := Go.Ground.data }], guard := none }) (v := ?_) rfl (by kernel_rfl) (by kernel_rfl) (by kernel_rfl) (fun _ _ _ h => h) (Or.inl ⟨by rfl, ?_⟩) trivial ?_
    rotate_left
    · intro y _; go_simp; try with_reducible rfl
    simp only [Act.put, List.setIfInBounds_toArray, List.set_cons_succ, List.set_cons_zero]
    refine wpAnyH_take (i := 2) (oi := { dst := some 14, op := Go.Op.move (Go.Operand.tmp 13), type := 4, pos := "l15_judge.go:75", after := #[{ on := 1, ground := Go.Ground.data }], guard := none }) (v := ?_) rfl (by kernel_rfl) (by kernel_rfl) (by kernel_rfl) (fun _ _ _ h => h) (Or.inl ⟨by rfl, ?_⟩) trivial ?_
    rotate_left
    · intro y _; go_simp; try with_reducible rfl
    simp only [Act.put, List.setIfInBounds_toArray, List.set_cons_succ, List.set_cons_zero]
    refine wpAnyH_take (i := 3) (oi := { dst := some 15, op := Go.Op.fieldAddr 40 (Go.Operand.tmp 1) 10, type := 0, pos := "l15_judge.go:75", after := #[{ on := 2, ground := Go.Ground.guard }], guard := some (2, false) }) (v := undef) rfl (by kernel_rfl) (by kernel_rfl) (by kernel_rfl) (fun _ _ _ h => h) (Or.inr ⟨by rfl, rfl⟩) trivial ?_
    simp only [Act.put, List.setIfInBounds_toArray, List.set_cons_succ, List.set_cons_zero]
    refine wpAnyH_take (i := 4) (oi := { dst := some 16, op := Go.Op.load 28 (Go.Operand.tmp 15), type := 28, pos := "l15_judge.go:75", after := #[{ on := 3, ground := Go.Ground.data }, { on := 2, ground := Go.Ground.guard }], guard := some (2, false) }) (v := undef) rfl (by kernel_rfl) (by kernel_rfl) (by kernel_rfl) (fun _ _ _ h => h) (Or.inr ⟨by rfl, rfl⟩) trivial ?_
    simp only [Act.put, List.setIfInBounds_toArray, List.set_cons_succ, List.set_cons_zero]
    refine wpAnyH_take (i := 5) (oi := { dst := some 17, op := Go.Op.fieldAddr 52 (Go.Operand.tmp 5) 1, type := 0, pos := "l15_judge.go:75", after := #[{ on := 2, ground := Go.Ground.guard }], guard := some (2, false) }) (v := undef) rfl (by kernel_rfl) (by kernel_rfl) (by kernel_rfl) (fun _ _ _ h => h) (Or.inr ⟨by rfl, rfl⟩) trivial ?_
    simp only [Act.put, List.setIfInBounds_toArray, List.set_cons_succ, List.set_cons_zero]
    refine wpAnyH_take (i := 6) (oi := { dst := some 18, op := Go.Op.load 3 (Go.Operand.tmp 17), type := 3, pos := "l15_judge.go:75", after := #[{ on := 5, ground := Go.Ground.data }, { on := 2, ground := Go.Ground.guard }], guard := some (2, false) }) (v := undef) rfl (by kernel_rfl) (by kernel_rfl) (by kernel_rfl) (fun _ _ _ h => h) (Or.inr ⟨by rfl, rfl⟩) trivial ?_
    simp only [Act.put, List.setIfInBounds_toArray, List.set_cons_succ, List.set_cons_zero]
    refine wpAnyH_take (i := 7) (oi := { dst := some 19, op := Go.Op.call { callee := Go.Callee.value (Go.Operand.func 61), args := #[Go.Operand.tmp 16, Go.Operand.tmp 18], argTypes := #[28, 3] }, type := 4, pos := "l15_judge.go:75", after := #[{ on := 4, ground := Go.Ground.data }, { on := 6, ground := Go.Ground.data }, { on := 2, ground := Go.Ground.chain }, { on := 2, ground := Go.Ground.guard }], guard := some (2, false) }) (v := undef) rfl (by kernel_rfl) (by kernel_rfl) (by kernel_rfl) (fun _ _ _ h => h) (Or.inr ⟨by rfl, rfl⟩) trivial ?_
    simp only [Act.put, List.setIfInBounds_toArray, List.set_cons_succ, List.set_cons_zero]
    refine wpAnyH_take (i := 8) (oi := { dst := some 20, op := Go.Op.pick (Go.Operand.tmp 14) (Go.Operand.const (Go.Value.bool true)) (Go.Operand.tmp 19), type := 4, pos := "l15_judge.go:75", after := #[{ on := 2, ground := Go.Ground.data }, { on := 7, ground := Go.Ground.data }], guard := none }) (v := ?_) rfl (by kernel_rfl) (by kernel_rfl) (by kernel_rfl) (fun _ _ _ h => h) (Or.inl ⟨by rfl, ?_⟩) trivial ?_
    rotate_left
    · intro y _; go_simp; try with_reducible rfl
    simp only [Act.put, List.setIfInBounds_toArray, List.set_cons_succ, List.set_cons_zero]
    refine wpAnyH_take (i := 9) (oi := { dst := some 21, op := Go.Op.move (Go.Operand.tmp 20), type := 4, pos := "l15_judge.go:75", after := #[{ on := 8, ground := Go.Ground.data }, { on := 7, ground := Go.Ground.chain }], guard := none }) (v := ?_) rfl (by kernel_rfl) (by kernel_rfl) (by kernel_rfl) (fun _ _ _ h => h) (Or.inl ⟨by rfl, ?_⟩) trivial ?_
    rotate_left
    · intro y _; go_simp; try with_reducible rfl
    simp only [Act.put, List.setIfInBounds_toArray, List.set_cons_succ, List.set_cons_zero]
    refine wpAnyH_take (i := 10) (oi := { dst := some 22, op := Go.Op.load 126 (Go.Operand.tmp 2), type := 126, pos := "l15_judge.go:75", after := #[{ on := 9, ground := Go.Ground.guard }], guard := some (9, false) }) (v := undef) rfl (by kernel_rfl) (by kernel_rfl) (by kernel_rfl) (fun _ _ _ h => h) (Or.inr ⟨by rfl, rfl⟩) trivial ?_
    simp only [Act.put, List.setIfInBounds_toArray, List.set_cons_succ, List.set_cons_zero]
    refine wpAnyH_take (i := 11) (oi := { dst := some 23, op := Go.Op.fieldAddr 52 (Go.Operand.tmp 5) 1, type := 0, pos := "l15_judge.go:75", after := #[{ on := 9, ground := Go.Ground.guard }], guard := some (9, false) }) (v := undef) rfl (by kernel_rfl) (by kernel_rfl) (by kernel_rfl) (fun _ _ _ h => h) (Or.inr ⟨by rfl, rfl⟩) trivial ?_
    simp only [Act.put, List.setIfInBounds_toArray, List.set_cons_succ, List.set_cons_zero]
    refine wpAnyH_take (i := 12) (oi := { dst := some 24, op := Go.Op.load 3 (Go.Operand.tmp 23), type := 3, pos := "l15_judge.go:75", after := #[{ on := 11, ground := Go.Ground.data }, { on := 9, ground := Go.Ground.guard }], guard := some (9, false) }) (v := undef) rfl (by kernel_rfl) (by kernel_rfl) (by kernel_rfl) (fun _ _ _ h => h) (Or.inr ⟨by rfl, rfl⟩) trivial ?_
    simp only [Act.put, List.setIfInBounds_toArray, List.set_cons_succ, List.set_cons_zero]
    refine wpAnyH_take (i := 13) (oi := { dst := some 25, op := Go.Op.call { callee := Go.Callee.value (Go.Operand.func 63), args := #[Go.Operand.tmp 24], argTypes := #[3] }, type := 56, pos := "l15_judge.go:75", after := #[{ on := 12, ground := Go.Ground.data }, { on := 9, ground := Go.Ground.chain }, { on := 9, ground := Go.Ground.guard }], guard := some (9, false) }) (v := undef) rfl (by kernel_rfl) (by kernel_rfl) (by kernel_rfl) (fun _ _ _ h => h) (Or.inr ⟨by rfl, rfl⟩) trivial ?_
    simp only [Act.put, List.setIfInBounds_toArray, List.set_cons_succ, List.set_cons_zero]
    refine wpAnyH_take (i := 14) (oi := { dst := some 26, op := Go.Op.call { callee := Go.Callee.value (Go.Operand.func 62), args := #[Go.Operand.tmp 22, Go.Operand.tmp 25], argTypes := #[126, 56] }, type := 4, pos := "l15_judge.go:75", after := #[{ on := 10, ground := Go.Ground.data }, { on := 13, ground := Go.Ground.data }, { on := 13, ground := Go.Ground.chain }, { on := 9, ground := Go.Ground.guard }], guard := some (9, false) }) (v := undef) rfl (by kernel_rfl) (by kernel_rfl) (by kernel_rfl) (fun _ _ _ h => h) (Or.inr ⟨by rfl, rfl⟩) trivial ?_
    simp only [Act.put, List.setIfInBounds_toArray, List.set_cons_succ, List.set_cons_zero]
    refine wpAnyH_take (i := 15) (oi := { dst := some 27, op := Go.Op.unOp Go.UnOp.not 4 (Go.Operand.tmp 26), type := 4, pos := "l15_judge.go:75", after := #[{ on := 14, ground := Go.Ground.data }, { on := 9, ground := Go.Ground.guard }], guard := some (9, false) }) (v := undef) rfl (by kernel_rfl) (by kernel_rfl) (by kernel_rfl) (fun _ _ _ h => h) (Or.inr ⟨by rfl, rfl⟩) trivial ?_
    simp only [Act.put, List.setIfInBounds_toArray, List.set_cons_succ, List.set_cons_zero]
    refine wpAnyH_take (i := 16) (oi := { dst := some 28, op := Go.Op.pick (Go.Operand.tmp 21) (Go.Operand.const (Go.Value.bool true)) (Go.Operand.tmp 27), type := 4, pos := "l15_judge.go:75", after := #[{ on := 9, ground := Go.Ground.data }, { on := 15, ground := Go.Ground.data }], guard := none }) (v := ?_) rfl (by kernel_rfl) (by kernel_rfl) (by kernel_rfl) (fun _ _ _ h => h) (Or.inl ⟨by rfl, ?_⟩) trivial ?_
    rotate_left
    · intro y _; go_simp; try with_reducible rfl
    simp only [Act.put, List.setIfInBounds_toArray, List.set_cons_succ, List.set_cons_zero]
    refine wpAnyH_take (i := 17) (oi := { dst := some 4, op := Go.Op.assign (Go.Operand.tmp 28), type := 4, pos := "l15_judge.go:75", after := #[{ on := 16, ground := Go.Ground.data }, { on := 14, ground := Go.Ground.chain }, { on := 0, ground := Go.Ground.phase }, { on := 1, ground := Go.Ground.phase }, { on := 2, ground := Go.Ground.phase }, { on := 3, ground := Go.Ground.phase }, { on := 4, ground := Go.Ground.phase }, { on := 5, ground := Go.Ground.phase }, { on := 6, ground := Go.Ground.phase }, { on := 7, ground := Go.Ground.phase }, { on := 8, ground := Go.Ground.phase }, { on := 9, ground := Go.Ground.phase }, { on := 10, ground := Go.Ground.phase }, { on := 11, ground := Go.Ground.phase }, { on := 12, ground := Go.Ground.phase }, { on := 13, ground := Go.Ground.phase }, { on := 14, ground := Go.Ground.phase }, { on := 15, ground := Go.Ground.phase }, { on := 16, ground := Go.Ground.phase }], guard := none }) (v := ?_) rfl (by kernel_rfl) (by kernel_rfl) (by kernel_rfl) (fun _ _ _ h => h) (Or.inl ⟨by rfl, ?_⟩) trivial ?_
    rotate_left
    · intro y _; go_simp; try with_reducible rfl
    simp only [Act.put, List.setIfInBounds_toArray, List.set_cons_succ, List.set_cons_zero]
    refine wpAnyH_done (by kernel_rfl) ?_ _
    go_wp2_with fail
    go_ret
    exact ⟨rfl, Below.drew (by repeat (first | exact abG _ | refine setG ?_ (Nat.le_refl _)))⟩
  | j b P =>
    obtain ⟨_, a, cap, hu, hx⟩ := h
    cases hu
    have A1 := asJoLe (.agg #[.string b, .slice a P.length cap])
    clear hx hy6 hfit hF ht he hok
    go_enter Tryz.func60, Tryz.ntmps60
    go_wp2_with fail
    refine wp_region_held (S := fun _ => True) (by kernel_rfl) ?_
    refine wpAnyH_take (i := 0) (oi := { dst := some 12, op := Go.Op.move (Go.Operand.tmp 6), type := 4, pos := "l15_judge.go:75", after := #[], guard := none }) (v := ?_) rfl (by kernel_rfl) (by kernel_rfl) (by kernel_rfl) (fun _ _ _ h => h) (Or.inl ⟨by rfl, ?_⟩) trivial ?_
    rotate_left
    · intro y _; go_simp; try with_reducible rfl
    simp only [Act.put, List.setIfInBounds_toArray, List.set_cons_succ, List.set_cons_zero]
    refine wpAnyH_take (i := 1) (oi := { dst := some 13, op := Go.Op.unOp Go.UnOp.not 4 (Go.Operand.tmp 12), type := 4, pos := "l15_judge.go:75", after := #[{ on := 0, ground := Go.Ground.data }], guard := none }) (v := ?_) rfl (by kernel_rfl) (by kernel_rfl) (by kernel_rfl) (fun _ _ _ h => h) (Or.inl ⟨by rfl, ?_⟩) trivial ?_
    rotate_left
    · intro y _; go_simp; try with_reducible rfl
    simp only [Act.put, List.setIfInBounds_toArray, List.set_cons_succ, List.set_cons_zero]
    refine wpAnyH_take (i := 2) (oi := { dst := some 14, op := Go.Op.move (Go.Operand.tmp 13), type := 4, pos := "l15_judge.go:75", after := #[{ on := 1, ground := Go.Ground.data }], guard := none }) (v := ?_) rfl (by kernel_rfl) (by kernel_rfl) (by kernel_rfl) (fun _ _ _ h => h) (Or.inl ⟨by rfl, ?_⟩) trivial ?_
    rotate_left
    · intro y _; go_simp; try with_reducible rfl
    simp only [Act.put, List.setIfInBounds_toArray, List.set_cons_succ, List.set_cons_zero]
    refine wpAnyH_take (i := 3) (oi := { dst := some 15, op := Go.Op.fieldAddr 40 (Go.Operand.tmp 1) 10, type := 0, pos := "l15_judge.go:75", after := #[{ on := 2, ground := Go.Ground.guard }], guard := some (2, false) }) (v := undef) rfl (by kernel_rfl) (by kernel_rfl) (by kernel_rfl) (fun _ _ _ h => h) (Or.inr ⟨by rfl, rfl⟩) trivial ?_
    simp only [Act.put, List.setIfInBounds_toArray, List.set_cons_succ, List.set_cons_zero]
    refine wpAnyH_take (i := 4) (oi := { dst := some 16, op := Go.Op.load 28 (Go.Operand.tmp 15), type := 28, pos := "l15_judge.go:75", after := #[{ on := 3, ground := Go.Ground.data }, { on := 2, ground := Go.Ground.guard }], guard := some (2, false) }) (v := undef) rfl (by kernel_rfl) (by kernel_rfl) (by kernel_rfl) (fun _ _ _ h => h) (Or.inr ⟨by rfl, rfl⟩) trivial ?_
    simp only [Act.put, List.setIfInBounds_toArray, List.set_cons_succ, List.set_cons_zero]
    refine wpAnyH_take (i := 5) (oi := { dst := some 17, op := Go.Op.fieldAddr 52 (Go.Operand.tmp 5) 1, type := 0, pos := "l15_judge.go:75", after := #[{ on := 2, ground := Go.Ground.guard }], guard := some (2, false) }) (v := undef) rfl (by kernel_rfl) (by kernel_rfl) (by kernel_rfl) (fun _ _ _ h => h) (Or.inr ⟨by rfl, rfl⟩) trivial ?_
    simp only [Act.put, List.setIfInBounds_toArray, List.set_cons_succ, List.set_cons_zero]
    refine wpAnyH_take (i := 6) (oi := { dst := some 18, op := Go.Op.load 3 (Go.Operand.tmp 17), type := 3, pos := "l15_judge.go:75", after := #[{ on := 5, ground := Go.Ground.data }, { on := 2, ground := Go.Ground.guard }], guard := some (2, false) }) (v := undef) rfl (by kernel_rfl) (by kernel_rfl) (by kernel_rfl) (fun _ _ _ h => h) (Or.inr ⟨by rfl, rfl⟩) trivial ?_
    simp only [Act.put, List.setIfInBounds_toArray, List.set_cons_succ, List.set_cons_zero]
    refine wpAnyH_take (i := 7) (oi := { dst := some 19, op := Go.Op.call { callee := Go.Callee.value (Go.Operand.func 61), args := #[Go.Operand.tmp 16, Go.Operand.tmp 18], argTypes := #[28, 3] }, type := 4, pos := "l15_judge.go:75", after := #[{ on := 4, ground := Go.Ground.data }, { on := 6, ground := Go.Ground.data }, { on := 2, ground := Go.Ground.chain }, { on := 2, ground := Go.Ground.guard }], guard := some (2, false) }) (v := undef) rfl (by kernel_rfl) (by kernel_rfl) (by kernel_rfl) (fun _ _ _ h => h) (Or.inr ⟨by rfl, rfl⟩) trivial ?_
    simp only [Act.put, List.setIfInBounds_toArray, List.set_cons_succ, List.set_cons_zero]
    refine wpAnyH_take (i := 8) (oi := { dst := some 20, op := Go.Op.pick (Go.Operand.tmp 14) (Go.Operand.const (Go.Value.bool true)) (Go.Operand.tmp 19), type := 4, pos := "l15_judge.go:75", after := #[{ on := 2, ground := Go.Ground.data }, { on := 7, ground := Go.Ground.data }], guard := none }) (v := ?_) rfl (by kernel_rfl) (by kernel_rfl) (by kernel_rfl) (fun _ _ _ h => h) (Or.inl ⟨by rfl, ?_⟩) trivial ?_
    rotate_left
    · intro y _; go_simp; try with_reducible rfl
    simp only [Act.put, List.setIfInBounds_toArray, List.set_cons_succ, List.set_cons_zero]
    refine wpAnyH_take (i := 9) (oi := { dst := some 21, op := Go.Op.move (Go.Operand.tmp 20), type := 4, pos := "l15_judge.go:75", after := #[{ on := 8, ground := Go.Ground.data }, { on := 7, ground := Go.Ground.chain }], guard := none }) (v := ?_) rfl (by kernel_rfl) (by kernel_rfl) (by kernel_rfl) (fun _ _ _ h => h) (Or.inl ⟨by rfl, ?_⟩) trivial ?_
    rotate_left
    · intro y _; go_simp; try with_reducible rfl
    simp only [Act.put, List.setIfInBounds_toArray, List.set_cons_succ, List.set_cons_zero]
    refine wpAnyH_take (i := 10) (oi := { dst := some 22, op := Go.Op.load 126 (Go.Operand.tmp 2), type := 126, pos := "l15_judge.go:75", after := #[{ on := 9, ground := Go.Ground.guard }], guard := some (9, false) }) (v := undef) rfl (by kernel_rfl) (by kernel_rfl) (by kernel_rfl) (fun _ _ _ h => h) (Or.inr ⟨by rfl, rfl⟩) trivial ?_
    simp only [Act.put, List.setIfInBounds_toArray, List.set_cons_succ, List.set_cons_zero]
    refine wpAnyH_take (i := 11) (oi := { dst := some 23, op := Go.Op.fieldAddr 52 (Go.Operand.tmp 5) 1, type := 0, pos := "l15_judge.go:75", after := #[{ on := 9, ground := Go.Ground.guard }], guard := some (9, false) }) (v := undef) rfl (by kernel_rfl) (by kernel_rfl) (by kernel_rfl) (fun _ _ _ h => h) (Or.inr ⟨by rfl, rfl⟩) trivial ?_
    simp only [Act.put, List.setIfInBounds_toArray, List.set_cons_succ, List.set_cons_zero]
    refine wpAnyH_take (i := 12) (oi := { dst := some 24, op := Go.Op.load 3 (Go.Operand.tmp 23), type := 3, pos := "l15_judge.go:75", after := #[{ on := 11, ground := Go.Ground.data }, { on := 9, ground := Go.Ground.guard }], guard := some (9, false) }) (v := undef) rfl (by kernel_rfl) (by kernel_rfl) (by kernel_rfl) (fun _ _ _ h => h) (Or.inr ⟨by rfl, rfl⟩) trivial ?_
    simp only [Act.put, List.setIfInBounds_toArray, List.set_cons_succ, List.set_cons_zero]
    refine wpAnyH_take (i := 13) (oi := { dst := some 25, op := Go.Op.call { callee := Go.Callee.value (Go.Operand.func 63), args := #[Go.Operand.tmp 24], argTypes := #[3] }, type := 56, pos := "l15_judge.go:75", after := #[{ on := 12, ground := Go.Ground.data }, { on := 9, ground := Go.Ground.chain }, { on := 9, ground := Go.Ground.guard }], guard := some (9, false) }) (v := undef) rfl (by kernel_rfl) (by kernel_rfl) (by kernel_rfl) (fun _ _ _ h => h) (Or.inr ⟨by rfl, rfl⟩) trivial ?_
    simp only [Act.put, List.setIfInBounds_toArray, List.set_cons_succ, List.set_cons_zero]
    refine wpAnyH_take (i := 14) (oi := { dst := some 26, op := Go.Op.call { callee := Go.Callee.value (Go.Operand.func 62), args := #[Go.Operand.tmp 22, Go.Operand.tmp 25], argTypes := #[126, 56] }, type := 4, pos := "l15_judge.go:75", after := #[{ on := 10, ground := Go.Ground.data }, { on := 13, ground := Go.Ground.data }, { on := 13, ground := Go.Ground.chain }, { on := 9, ground := Go.Ground.guard }], guard := some (9, false) }) (v := undef) rfl (by kernel_rfl) (by kernel_rfl) (by kernel_rfl) (fun _ _ _ h => h) (Or.inr ⟨by rfl, rfl⟩) trivial ?_
    simp only [Act.put, List.setIfInBounds_toArray, List.set_cons_succ, List.set_cons_zero]
    refine wpAnyH_take (i := 15) (oi := { dst := some 27, op := Go.Op.unOp Go.UnOp.not 4 (Go.Operand.tmp 26), type := 4, pos := "l15_judge.go:75", after := #[{ on := 14, ground := Go.Ground.data }, { on := 9, ground := Go.Ground.guard }], guard := some (9, false) }) (v := undef) rfl (by kernel_rfl) (by kernel_rfl) (by kernel_rfl) (fun _ _ _ h => h) (Or.inr ⟨by rfl, rfl⟩) trivial ?_
    simp only [Act.put, List.setIfInBounds_toArray, List.set_cons_succ, List.set_cons_zero]
    refine wpAnyH_take (i := 16) (oi := { dst := some 28, op := Go.Op.pick (Go.Operand.tmp 21) (Go.Operand.const (Go.Value.bool true)) (Go.Operand.tmp 27), type := 4, pos := "l15_judge.go:75", after := #[{ on := 9, ground := Go.Ground.data }, { on := 15, ground := Go.Ground.data }], guard := none }) (v := ?_) rfl (by kernel_rfl) (by kernel_rfl) (by kernel_rfl) (fun _ _ _ h => h) (Or.inl ⟨by rfl, ?_⟩) trivial ?_
    rotate_left
    · intro y _; go_simp; try with_reducible rfl
    simp only [Act.put, List.setIfInBounds_toArray, List.set_cons_succ, List.set_cons_zero]
    refine wpAnyH_take (i := 17) (oi := { dst := some 4, op := Go.Op.assign (Go.Operand.tmp 28), type := 4, pos := "l15_judge.go:75", after := #[{ on := 16, ground := Go.Ground.data }, { on := 14, ground := Go.Ground.chain }, { on := 0, ground := Go.Ground.phase }, { on := 1, ground := Go.Ground.phase }, { on := 2, ground := Go.Ground.phase }, { on := 3, ground := Go.Ground.phase }, { on := 4, ground := Go.Ground.phase }, { on := 5, ground := Go.Ground.phase }, { on := 6, ground := Go.Ground.phase }, { on := 7, ground := Go.Ground.phase }, { on := 8, ground := Go.Ground.phase }, { on := 9, ground := Go.Ground.phase }, { on := 10, ground := Go.Ground.phase }, { on := 11, ground := Go.Ground.phase }, { on := 12, ground := Go.Ground.phase }, { on := 13, ground := Go.Ground.phase }, { on := 14, ground := Go.Ground.phase }, { on := 15, ground := Go.Ground.phase }, { on := 16, ground := Go.Ground.phase }], guard := none }) (v := ?_) rfl (by kernel_rfl) (by kernel_rfl) (by kernel_rfl) (fun _ _ _ h => h) (Or.inl ⟨by rfl, ?_⟩) trivial ?_
    rotate_left
    · intro y _; go_simp; try with_reducible rfl
    simp only [Act.put, List.setIfInBounds_toArray, List.set_cons_succ, List.set_cons_zero]
    refine wpAnyH_done (by kernel_rfl) ?_ _
    go_wp2_with fail
    go_ret
    exact ⟨rfl, Below.drew (by repeat (first | exact abG _ | refine setG ?_ (Nat.le_refl _)))⟩

set_option maxRecDepth 100000 in
set_option maxHeartbeats 4000000 in
theorem rightSecret (X : Wd) (ws : List Value) (gx gk bq nf : Nat) (T : List Th) (a : Option Addr) (cap : Nat) (w : World) (hl : thK.Ls w 0 a T) (hsz : T.length ≤ 4194304) (hX : wdAt w 0 X ws) (hB : Box w gx 40 ws) (hk : w.cell? ⟨gk, 0, none⟩ = some (.map (some bq))) (hF : Facts w bq nf (fK X.known)) (hok : ∀ l, Th.l l ∈ T → 0 ≤ l.b ∧ l.b ≤ 1000000) (ht : Tab w) (he : Err w) :
    Calls Tryz.prog 58 #[.slice a T.length cap, .func (.func 60) #[] #[.pointer (some ⟨gx, 0, none⟩), .pointer (some ⟨gk, 0, none⟩)]] w fun e w' => e = .returned (.bool (T.all (ruleS X))) ∧ Below w.heap.size w w' := by
  have HT := hide hl
  have HWX := hide hX
  have HWB := hide hB
  have HWK := hide hk
  have HWF := hide hF
  have HWO := hide hok
  have HWT := hide ht
  have HWE := hide he
  clear hX hB hk hF hok ht he
  clear hl
  generalize hr : T.all (ruleS X) = r at *
  have HE := hide hr
  clear hr
  generalize hlen : T.length = len at *
  have HL := hide hlen
  clear hlen
  go_enter Tryz.func58, Tryz.ntmps58
  go_wp2_with fail
  go_loopw [9] (fun i wr => ∃ k : Nat, i = .int .i64 k ∧ Below w.heap.size w wr ∧ k ≤ len ∧ ∀ j x, j < k → T[j]? = some x → ruleS X x = true) (fun i _ => len - (intOf i).toNat)
  case atStart => exact ⟨0, rfl, Below.refl _ _, by omega, fun j x hj => by omega⟩
  case round =>
    obtain ⟨k, rfl, hb, hk, ha⟩ := hrel
    have HBr := hide hb
    have HA := hide ha
    clear ha
    by_cases hp : k < len
    · have hp' : k < T.length := by have := HL.out; omega
      obtain ⟨x, hkx⟩ : ∃ x, T[k]? = some x := ⟨_, List.getElem?_eq_getElem hp'⟩
      obtain ⟨b, o, cs, rfl, -, -, HR0, HT2, hcl0⟩ := ((unhide HT).on hb).get hkx
      obtain ⟨u, rfl⟩ : ∃ u, cs = [u] := by
        match cs, hcl0 with
        | [u], _ => exact ⟨u, rfl⟩
      have c0 : wr.cell? ⟨b, o + k, none⟩ = some u := by
        have := HR0 0 u rfl
        have e : o + k * thK.n + 0 = o + k := by show o + k * 1 + 0 = o + k; omega
        rwa [e] at this
      have HFX := hide (ruleSI X ws gx gk bq nf x u wr HT2 (wdK.on (w := w) (L := 0) (x := X) (unhide HWX) hb) ((unhide HWB).on hb) (below_some hb (unhide HWK)) ((unhide HWF).low hb) (fun l hl => unhide HWO l (hl ▸ List.mem_of_getElem? hkx)) ((unhide HWT).on hb) ((unhide HWE).on hb))
      have HK := hide hkx
      have q2 : (k : Int) < (len : Int) := by omega
      have q3 : (0 : Int) ≤ (k : Int) := by omega
      have w1 : wrap64 ((k : Int) + 1) = ((k + 1 : Nat) : Int) := by unfold wrap64; omega
      have HM : Hid (ruleS X x = true → ∀ j y, j < k + 1 → T[j]? = some y → ruleS X y = true) := fun hx j y hj hy => by
        rcases Nat.lt_or_ge j k with q | q
        · exact unhide HA j y q hy
        · obtain rfl : j = k := by omega
          rw [unhide HK] at hy
          cases hy
          exact hx
      have HN : Hid (ruleS X x = false → T.all (ruleS X) = false) := fun hx => List.all_eq_false.2 ⟨x, List.mem_of_getElem? (unhide HK), by simp [hx]⟩
      clear hkx HR0 HT2 hcl0 hb
      generalize ruleS X x = fx at *
      cases fx with
      | true =>
        go_wp2_with fail
        refine (unhide HFX).mono ?_
        rintro e w3 ⟨rfl, hb3⟩
        have HB3 := hide (btG (unhide HBr) hb3)
        clear hb3
        go_wp2_with fail
        go_roundw
        case rel => exact ⟨k + 1, rfl, unhide HB3, by omega, unhide HM (by first | rfl | trivial)⟩
        case measure => simp only [intOf]; omega
      | false =>
        go_wp2_with fail
        refine (unhide HFX).mono ?_
        rintro e w3 ⟨rfl, hb3⟩
        have HB3 := hide (btG (unhide HBr) hb3)
        clear hb3
        go_wp2_with fail
        go_ret
        exact ⟨retB ((unhide HE).symm.trans (unhide HN (by first | rfl | trivial))), unhide HB3⟩
    · have c2 : ¬ (k : Int) < (len : Int) := by omega
      have HX : Hid (T.all (ruleS X) = true) := List.all_eq_true.2 fun x hx => by
        obtain ⟨j, hj⟩ := List.getElem?_of_mem hx
        exact unhide HA j x (by have := (List.getElem?_eq_some_iff.1 hj).1; have := HL.out; omega) hj
      clear hb
      go_wp2_with fail
      go_ret
      exact ⟨retB ((unhide HE).symm.trans (unhide HX)), unhide HBr⟩

theorem infoWk : (Tryz.prog.info? 40).map (·.size) = some 11 := by kernel_rfl
noncomputable def secretB (X : Wd) : Bool := worldB X && X.letters.all (secretC X)
def MakeS (X : Wd) (w : World) (e : Ending) (w' : World) : Prop := ∃ (gx gk b nf : Nat) (ws : List Value), e = .returned (.func (.func 60) #[] #[.pointer (some ⟨gx, 0, none⟩), .pointer (some ⟨gk, 0, none⟩)]) ∧ wdAt w' 0 X ws ∧ Box w' gx 40 ws ∧ w'.cell? ⟨gk, 0, none⟩ = some (.map (some b)) ∧ Facts w' b nf (fK X.known) ∧ Below w.heap.size w w'
theorem known_size (X : Wd) (hz : ww X ≤ 1048576) : ∀ t ∈ X.known, t.size ≤ 2097152 := fun t ht => by
  have h1 := wts_mem ht
  have h2 := Tm.size_le t
  unfold ww at hz
  omega
theorem letters_in (X : Wd) (h : worldB X = true) : ∀ l, Th.l l ∈ thingsOf X → 0 ≤ l.b ∧ l.b ≤ 1000000 := fun l hl => by
  have hm : l ∈ X.letters := by simpa [thingsOf] using hl
  rw [worldB_spec] at h
  simp only [Bool.and_eq_true] at h
  have := List.all_eq_true.1 h.2.2.2.2.2.2.2.2.2.1 l hm
  unfold leOk at this
  exact (letB_iff.1 this).2.1
set_option maxRecDepth 100000 in
set_option maxHeartbeats 4000000 in
theorem makeSecret (X : Wd) (cs : List Value) (w : World) (h : wdAt w 0 X cs) (hz : ww X ≤ 1048576) (ht : Tab w) :
    Calls Tryz.prog 28 #[.agg cs.toArray] w fun e w' => MakeS X w e w' := by
  have h0 := h
  obtain ⟨-, ak, ck, ac, cc, ah, ch, al, cl, aa, ca, az, cz, ai, ci, rfl, hy0, -⟩ := h
  have HX := hide (Box.new w 40 [.int .i64 X.time, .int .i64 X.fresh, .slice ak X.known.length ck, .slice ac X.cache.length cc, .slice ah X.hosts.length ch, .slice al X.letters.length cl, .string X.book, .int .i64 X.sure, .slice aa X.calls.length ca, .slice az X.talks.length cz, .slice ai X.told.length ci])
  have HF := hide (fun v (hv : Below w.heap.size w v) => factsI X.known ak ck v (tmK_all (hy0.on hv)) (by unfold ww at hz; omega) (known_size X hz) (ht.on hv))
  have H0 := hide h0
  show Calls Tryz.prog 28 #[.agg #[.int .i64 X.time, .int .i64 X.fresh, .slice ak X.known.length ck, .slice ac X.cache.length cc, .slice ah X.hosts.length ch, .slice al X.letters.length cl, .string X.book, .int .i64 X.sure, .slice aa X.calls.length ca, .slice az X.talks.length cz, .slice ai X.told.length ci]] w _
  clear h0 hy0 hz ht
  go_enter Tryz.func28, Tryz.ntmps28
  go_wp2_with fail
  refine (unhide HF _ (abG _)).mono ?_
  rintro e w2 ⟨b, n, rfl, hf, hb2⟩
  have HB2 := hide (btG (abG _) hb2)
  have HX2 := hide ((unhide HX).on hb2)
  have HF2 := hide hf
  clear hb2 hf
  go_wp2_with fail
  go_ret
  have hb3 : Below w2.heap.size w2 (w2.alloc (.cells #[.map (some b)] 126)) := abG _
  exact ⟨w.heap.size, w2.heap.size, b, n, _, rfl, wdK.on (w := w) (L := 0) (x := X) (unhide H0) (btG (unhide HB2) hb3), (unhide HX2).on hb3, box_cell w2 #[.map (some b)] 126 0 _ rfl, (unhide HF2).low hb3, btG (unhide HB2) hb3⟩
theorem things_len (X : Wd) (hz : ww X ≤ 1048576) : (thingsOf X).length ≤ 4194304 := by
  unfold thingsOf
  simp only [List.length_cons, List.length_append, List.length_map]
  unfold ww at hz
  omega
set_option maxRecDepth 100000 in
set_option maxHeartbeats 4000000 in
theorem keepSecret (X : Wd) (cs : List Value) (g : Nat) (w : World) (h : wdAt w 0 X cs) (hz : ww X ≤ 1048576) (hg : w.cell? ⟨g, 0, none⟩ = some (.func (.func 28) #[] #[])) (ht : Tab w) (he : Err w) :
    Calls Tryz.prog 27 #[.agg cs.toArray, .slice (some ⟨g, 0, none⟩) 1 1] w fun e w' => e = .returned (.bool (worldB X && (thingsOf X).all (ruleS X))) ∧ Below w.heap.size w w' := by
  have h0 := h
  obtain ⟨-, ak, ck, ac, cc, ah, ch, al, cl, aa, ca, az, cz, ai, ci, rfl, -⟩ := h
  have HS := hide (fun v hv => worldI X [.int .i64 X.time, .int .i64 X.fresh, .slice ak X.known.length ck, .slice ac X.cache.length cc, .slice ah X.hosts.length ch, .slice al X.letters.length cl, .string X.book, .int .i64 X.sure, .slice aa X.calls.length ca, .slice az X.talks.length cz, .slice ai X.told.length ci] v (wdK.on (w := w) (L := 0) (x := X) h0 hv) hz)
  have HJ := hide (fun v hv => judgedI X [.int .i64 X.time, .int .i64 X.fresh, .slice ak X.known.length ck, .slice ac X.cache.length cc, .slice ah X.hosts.length ch, .slice al X.letters.length cl, .string X.book, .int .i64 X.sure, .slice aa X.calls.length ca, .slice az X.talks.length cz, .slice ai X.told.length ci] v (wdK.on (w := w) (L := 0) (x := X) h0 hv) hz)
  have HTL := hide (things_len X hz)
  have HG := hide hg
  show Calls Tryz.prog 27 #[.agg #[.int .i64 X.time, .int .i64 X.fresh, .slice ak X.known.length ck, .slice ac X.cache.length cc, .slice ah X.hosts.length ch, .slice al X.letters.length cl, .string X.book, .int .i64 X.sure, .slice aa X.calls.length ca, .slice az X.talks.length cz, .slice ai X.told.length ci], .slice (some ⟨g, 0, none⟩) 1 1] w _
  have HX := hide (Box.new w 40 [.int .i64 X.time, .int .i64 X.fresh, .slice ak X.known.length ck, .slice ac X.cache.length cc, .slice ah X.hosts.length ch, .slice al X.letters.length cl, .string X.book, .int .i64 X.sure, .slice aa X.calls.length ca, .slice az X.talks.length cz, .slice ai X.told.length ci])
  have HMK := hide (fun v (hv : Below w.heap.size w v) => makeSecret X [.int .i64 X.time, .int .i64 X.fresh, .slice ak X.known.length ck, .slice ac X.cache.length cc, .slice ah X.hosts.length ch, .slice al X.letters.length cl, .string X.book, .int .i64 X.sure, .slice aa X.calls.length ca, .slice az X.talks.length cz, .slice ai X.told.length ci] v (wdK.on (w := w) (L := 0) (x := X) h0 hv) hz (ht.on hv))
  have HT0 := hide ht
  have HE00 := hide he
  have HOKL := hide (letters_in X)
  obtain ⟨R, hR⟩ : ∃ R, R = (worldB X && (thingsOf X).all (ruleS X)) := ⟨_, rfl⟩
  rw [← hR]
  have HW := hide hR
  have HW0 := hide h0
  have HZ0 := hide hz
  clear h0 hz hg hR ht he
  generalize worldB X = wb at *
  go_enter Tryz.func27, Tryz.ntmps27
  go_wp2_with fail
  refine (unhide HS _ (abG _)).mono ?_
  rintro e w1 ⟨rfl, hb1⟩
  have HB1 := hide (btG (abG _) hb1)
  have HX1 := hide ((unhide HX).on hb1)
  clear hb1 HX HS
  cases wb with
  | false =>
    have HE : Hid (R = false) := by show R = false; rw [unhide HW]; rfl
    go_wp2_with fail
    go_ret
    exact ⟨retB (unhide HE), unhide HB1⟩
  | true =>
    have HW2 : Hid (R = (thingsOf X).all (ruleS X)) := by show R = _; rw [unhide HW]; rfl
    clear HW
    go_wp2_with (refine wpList_load_box rfl _ rfl w.heap.size 0 [.int .i64 X.time, .int .i64 X.fresh, .slice ak X.known.length ck, .slice ac X.cache.length cc, .slice ah X.hosts.length ch, .slice al X.letters.length cl, .string X.book, .int .i64 X.sure, .slice aa X.calls.length ca, .slice az X.talks.length cz, .slice ai X.told.length ci] (unhide HX1) (fun j v hj => (by rw [Nat.zero_add]; exact hj)) rfl Tryz.underlying40 rfl infoWk ?_)
    refine (unhide HJ _ (unhide HB1)).mono ?_
    rintro e w2 ⟨ta, tc, rfl, hls, hb2⟩
    have HB2 := hide (btG (unhide HB1) hb2)
    have HX2 := hide ((unhide HX1).on hb2)
    have HLS := hide hls
    clear hb2 hls HX1 HJ HB1
    go_wp2_with fail
    go_loopw [15] (fun i wr => ∃ k : Nat, i = .int .i64 k ∧ Below w2.heap.size w2 wr ∧ k ≤ 1 ∧ (k = 1 → (thingsOf X).all (ruleS X) = true)) (fun i _ => 1 - (intOf i).toNat)
    case atStart => exact ⟨0, rfl, Below.refl _ _, by omega, fun h => by omega⟩
    case round =>
      obtain ⟨k, rfl, hb, hk, ha⟩ := hrel
      have HBr := hide hb
      have HA := hide ha
      clear ha
      by_cases hp : k < 1
      · obtain rfl : k = 0 := by omega
        have d0 : wr.cell? ⟨g, 0, none⟩ = some (.func (.func 28) #[] #[]) := below_some (btG (unhide HB2) hb) (unhide HG)
        have HXr := hide ((unhide HX2).on hb)
        have HRT := hide (fun v (hv : Below wr.heap.size wr v) gx gk b nf ws (h1 : wdAt v 0 X ws) (h2 : Box v gx 40 ws) (h3 : v.cell? ⟨gk, 0, none⟩ = some (.map (some b))) (h4 : Facts v b nf (fK X.known)) => rightSecret X ws gx gk b nf (thingsOf X) ta tc v ((unhide HLS).on (btG hb hv)) (unhide HTL) h1 h2 h3 h4 (unhide HOKL (by first | rfl | trivial)) ((unhide HT0).on (btG (btG (unhide HB2) hb) hv)) ((unhide HE00).on (btG (btG (unhide HB2) hb) hv)))
        clear hb
        cases hall : (thingsOf X).all (ruleS X) with
        | false =>
          rw [hall] at HRT
          have HE : Hid (R = false) := by show R = _; rw [unhide HW2, hall]
          clear hall
          go_wp2_with (refine wpList_load_box rfl _ rfl w.heap.size 0 [.int .i64 X.time, .int .i64 X.fresh, .slice ak X.known.length ck, .slice ac X.cache.length cc, .slice ah X.hosts.length ch, .slice al X.letters.length cl, .string X.book, .int .i64 X.sure, .slice aa X.calls.length ca, .slice az X.talks.length cz, .slice ai X.told.length ci] (unhide HXr) (fun j v hj => (by rw [Nat.zero_add]; exact hj)) rfl Tryz.underlying40 rfl infoWk ?_)
          refine (unhide HMK _ (btG (unhide HB2) (unhide HBr))).mono ?_
          rintro e w3 ⟨gx, gk, bq, nf, ws, rfl, h1, h2, h3, h4, hb3⟩
          go_wp2_with fail
          refine (unhide HRT _ hb3 gx gk bq nf ws h1 h2 h3 h4).mono ?_
          rintro e w4 ⟨rfl, hb4⟩
          have HB4 := hide (btG (btG (unhide HB2) (unhide HBr)) (btG hb3 hb4))
          clear hb3 hb4
          go_wp2_with fail
          go_ret
          exact ⟨retB (unhide HE), unhide HB4⟩
        | true =>
          rw [hall] at HRT
          have HAL := hide hall
          clear hall
          go_wp2_with (refine wpList_load_box rfl _ rfl w.heap.size 0 [.int .i64 X.time, .int .i64 X.fresh, .slice ak X.known.length ck, .slice ac X.cache.length cc, .slice ah X.hosts.length ch, .slice al X.letters.length cl, .string X.book, .int .i64 X.sure, .slice aa X.calls.length ca, .slice az X.talks.length cz, .slice ai X.told.length ci] (unhide HXr) (fun j v hj => (by rw [Nat.zero_add]; exact hj)) rfl Tryz.underlying40 rfl infoWk ?_)
          refine (unhide HMK _ (btG (unhide HB2) (unhide HBr))).mono ?_
          rintro e w3 ⟨gx, gk, bq, nf, ws, rfl, h1, h2, h3, h4, hb3⟩
          go_wp2_with fail
          refine (unhide HRT _ hb3 gx gk bq nf ws h1 h2 h3 h4).mono ?_
          rintro e w4 ⟨rfl, hb4⟩
          have HB4 := hide (btG (unhide HBr) (btG hb3 hb4))
          clear hb3 hb4
          go_wp2_with fail
          go_roundw
          case rel => exact ⟨1, rfl, unhide HB4, by omega, by first | exact fun _ => unhide HAL | exact fun _ => trivial | simp⟩
          case measure => simp only [intOf]; omega
      · obtain rfl : k = 1 := by omega
        have HE : Hid (R = true) := by show R = true; rw [unhide HW2]; exact unhide HA rfl
        clear hb
        go_wp2_with fail
        go_ret
        exact ⟨retB (unhide HE), btG (unhide HB2) (unhide HBr)⟩

set_option maxRecDepth 100000 in
set_option maxHeartbeats 4000000 in
theorem inI (l : List Int) (a : Option Addr) (cap : Nat) (x : Int) (w : World) (h : Ints w 0 a l) (hz : l.length ≤ 1048576) :
    Calls Tryz.prog 17 #[.slice a l.length cap, .int .i64 x] w fun e w' => e = .returned (.bool (l.contains x)) ∧ Below w.heap.size w w' := by
  have HT := hide h
  clear h
  obtain ⟨R, hR⟩ : ∃ R, R = l.contains x := ⟨_, rfl⟩
  rw [← hR]
  have HE0 := hide hR
  clear hR
  generalize hlen : l.length = len at *
  have HL := hide hlen
  clear hlen
  go_enter Tryz.func17, Tryz.ntmps17
  go_wp2_with fail
  go_loopw [5] (fun i wr => ∃ k : Nat, i = .int .i64 k ∧ Below w.heap.size w wr ∧ k ≤ len ∧ ∀ j y, j < k → l[j]? = some y → ¬ y = x) (fun i _ => len - (intOf i).toNat)
  case atStart => exact ⟨0, rfl, Below.refl _ _, by omega, fun j x hj => by omega⟩
  case round =>
    obtain ⟨k, rfl, hb, hk, ha⟩ := hrel
    have HBr := hide hb
    have HA := hide ha
    clear ha
    by_cases hp : k < len
    · have hp' : k < l.length := by have := HL.out; omega
      obtain ⟨y, hky⟩ : ∃ y, l[k]? = some y := ⟨_, List.getElem?_eq_getElem hp'⟩
      obtain ⟨b, o, rfl, -, hc⟩ := (unhide HT) k y hky
      have c0 := below_some hb hc
      have q2 : (k : Int) < (len : Int) := by omega
      have q3 : (0 : Int) ≤ (k : Int) := by omega
      have w1 : wrap64 ((k : Int) + 1) = ((k + 1 : Nat) : Int) := by unfold wrap64; omega
      have HK := hide hky
      clear hky hc hb
      by_cases hx : y = x
      · have HE : Hid (R = true) := by show R = true; rw [unhide HE0]; exact List.contains_iff_mem.2 (hx ▸ List.mem_of_getElem? (unhide HK))
        subst hx
        clear HK
        go_wp2_with fail
        go_ret
        exact ⟨retB (unhide HE), unhide HBr⟩
      · have HM : Hid (∀ j z, j < k + 1 → l[j]? = some z → ¬ z = x) := fun j z hj hz => by
          rcases Nat.lt_or_ge j k with q | q
          · exact unhide HA j z q hz
          · obtain rfl : j = k := by omega
            rw [unhide HK] at hz
            cases hz
            exact hx
        have hx' : (y == x) = false := by simpa using hx
        go_wp2_with fail
        go_roundw
        case rel => exact ⟨k + 1, rfl, unhide HBr, by omega, unhide HM⟩
        case measure => simp only [intOf]; omega
    · have c2 : ¬ (k : Int) < (len : Int) := by omega
      have HE : Hid (R = false) := by
        show R = false
        rw [unhide HE0]
        refine Bool.eq_false_iff.2 fun hc => ?_
        obtain ⟨j, hj⟩ := List.getElem?_of_mem (List.contains_iff_mem.1 hc)
        exact unhide HA j x (by have := (List.getElem?_eq_some_iff.1 hj).1; have := HL.out; omega) hj rfl
      clear hb
      go_wp2_with fail
      go_ret
      exact ⟨retB (unhide HE), unhide HBr⟩

set_option maxHeartbeats 2000000 in
theorem made_calls (ps : List Tm) (t : Tm) (pa : Option Addr) (pcap : Nat) (op n : Int) (s : ByteArray) (a : Option Addr) (len cap : Nat) (w : World) (hps : LiesAll w 0 pa 0 ps) (hl : Lies w 0 t (tmCells op n s a len cap)) (hlen : ps.length ≤ 2097152) (hz : t.size ≤ 2097152) :
    Calls Tryz.prog 18 #[.slice pa ps.length pcap, .agg #[.int .i64 op, .int .i64 n, .string s, .slice a len cap]] w fun e w' => e = .returned (.bool (madeB ps t)) ∧ Below w.heap.size w w' := by
  have h20 := hide (ok8 t op n s a len cap)
  have h22 : Hid (okT t = true → ∀ v, LiesAll v 0 pa 0 ps → Lies v 0 t (tmCells op n s a len cap) → Calls Tryz.prog 48 #[.slice pa ps.length pcap, .agg #[.int .i64 op, .int .i64 n, .string s, .slice a len cap]] v fun e w' => e = .returned (.bool (mkB ps t)) ∧ Below v.heap.size v w') := fun h v h1 h2 => by
    simp only [okT, Bool.and_eq_true] at h
    exact md_calls ps t hlen hz h.2 pa pcap op n s a len cap v h1 h2
  have HM : Hid (madeB ps t = (okT t && mkB ps t)) := rfl
  have HL := hide (hl.below (abM (.cells #[.int .i64 op, .int .i64 n, .string s, .slice a len cap] 56)))
  have HP := hide (hps.below (abM (.cells #[.int .i64 op, .int .i64 n, .string s, .slice a len cap] 56)))
  have HBX : Hid (∀ j v, (#[.int .i64 op, .int .i64 n, .string s, .slice a len cap] : Array Value)[j]? = some v → (w.alloc (.cells #[.int .i64 op, .int .i64 n, .string s, .slice a len cap] 56)).cell? ⟨w.heap.size, j, none⟩ = some v) := fun j v hj => box_cell w _ 56 j v hj
  generalize madeB ps t = R at *
  generalize mkB ps t = mb at *
  clear hps hl
  cases hok : okT t with
  | true =>
    have H22 := hide (unhide h22 hok)
    rw [hok] at h20 HM
    clear h22 hok
    go_enter Tryz.func18, Tryz.ntmps18
    go_wp2_with fail
    refine (unhide h20 _ (unhide HL) hz).mono ?_
    rintro e w2 ⟨rfl, hb2⟩
    have HL2 := hide ((unhide HL).below hb2)
    have HP2 := hide ((unhide HP).below hb2)
    have HB2 := hide (btM (abM _) hb2 (Nat.le_refl _))
    have d0 := keepc hb2 (unhide HBX 0 _ rfl)
    have d1 := keepc hb2 (unhide HBX 1 _ rfl)
    have d2 := keepc hb2 (unhide HBX 2 _ rfl)
    have d3 := keepc hb2 (unhide HBX 3 _ rfl)
    clear hb2
    go_wp2_with fail
    refine (unhide H22 _ (unhide HP2) (unhide HL2)).mono ?_
    rintro e w3 ⟨rfl, hb3⟩
    have HB3 := hide (btM (unhide HB2) hb3 (Nat.le_refl _))
    clear hb3 d0 d1 d2 d3
    go_wp2_with fail
    go_ret
    exact ⟨ret_bool (by rw [unhide HM]; simp), unhide HB3⟩
  | false =>
    rw [hok] at h20 HM
    clear h22 hok
    go_enter Tryz.func18, Tryz.ntmps18
    go_wp2_with fail
    refine (unhide h20 _ (unhide HL) hz).mono ?_
    rintro e w2 ⟨rfl, hb2⟩
    go_wp2_with fail
    go_ret
    exact ⟨ret_bool (by rw [unhide HM]; simp), btM (abM _) hb2 (Nat.le_refl _)⟩

set_option maxRecDepth 100000 in
set_option maxHeartbeats 8000000 in
theorem secretS (X : Wd) (cs : List Value) (w : World) (h : wdAt w 0 X cs) (hz : ww X ≤ 1048576) :
    Calls Tryz.prog 5 #[.agg cs.toArray] w fun e w' => e = .returned (.bool (secretB X)) ∧ Below w.heap.size w w' := by
  have h0 := h
  obtain ⟨-, ak, ck, ac, cc, ah, ch, al, cl, aa, ca, az, cz, ai, ci, rfl, hy0, -, -, hy3, -, -, hy6⟩ := h
  have HS := hide (fun v hv => worldS X [.int .i64 X.time, .int .i64 X.fresh, .slice ak X.known.length ck, .slice ac X.cache.length cc, .slice ah X.hosts.length ch, .slice al X.letters.length cl, .string X.book, .int .i64 X.sure, .slice aa X.calls.length ca, .slice az X.talks.length cz, .slice ai X.told.length ci] v (wdK.on (w := w) (L := 0) (x := X) h0 hv) hz)
  have hcl : X.letters.length ≤ 1048576 := by unfold ww at hz; omega
  have hKL : Hid (X.told.length ≤ 1048576 ∧ X.known.length ≤ 2097152) := hide (by unfold ww at hz; omega)
  have HOK := hide (letters_in X)
  show Calls Tryz.prog 5 #[.agg #[.int .i64 X.time, .int .i64 X.fresh, .slice ak X.known.length ck, .slice ac X.cache.length cc, .slice ah X.hosts.length ch, .slice al X.letters.length cl, .string X.book, .int .i64 X.sure, .slice aa X.calls.length ca, .slice az X.talks.length cz, .slice ai X.told.length ci]] w _
  have HX := hide (Box.new w 40 [.int .i64 X.time, .int .i64 X.fresh, .slice ak X.known.length ck, .slice ac X.cache.length cc, .slice ah X.hosts.length ch, .slice al X.letters.length cl, .string X.book, .int .i64 X.sure, .slice aa X.calls.length ca, .slice az X.talks.length cz, .slice ai X.told.length ci])
  have HY := hide hy3
  have HYI := hide hy6
  have HYK := hide hy0
  have HW : Hid (secretB X = (worldB X && X.letters.all (secretC X))) := hide rfl
  clear h0 hz hy0 hy3 hy6
  generalize secretB X = R at *
  generalize worldB X = wb at *
  go_enter Tryz.func5, Tryz.ntmps5
  go_wp2_with fail
  refine (unhide HS _ (abG _)).mono ?_
  rintro e w1 ⟨rfl, hb1⟩
  have HB1 := hide (btG (abG _) hb1)
  have HX1 := hide ((unhide HX).on hb1)
  clear hb1 HX HS
  cases wb with
  | false =>
    have HE : Hid (R = false) := by show R = false; rw [unhide HW]; rfl
    go_wp2_with fail
    go_ret
    exact ⟨retB (unhide HE), unhide HB1⟩
  | true =>
    have HW2 : Hid (R = X.letters.all (secretC X)) := by show R = _; rw [unhide HW]; rfl
    clear HW
    go_wp2_with fail
    go_loopw [3] (fun i wr => ∃ k : Nat, i = .int .i64 k ∧ Below w1.heap.size w1 wr ∧ k ≤ X.letters.length ∧ ∀ j x, j < k → X.letters[j]? = some x → secretC X x = true) (fun i _ => X.letters.length - (intOf i).toNat)
    case atStart => exact ⟨0, rfl, Below.refl _ _, by omega, fun j x hj => by omega⟩
    case round =>
      obtain ⟨k, rfl, hb, hk, ha⟩ := hrel
      have HBq := hide hb
      have HA := hide ha
      clear ha
      have c5 : wr.cell? ⟨w.heap.size, 5, none⟩ = some (.slice al X.letters.length cl) := ((unhide HX1).on hb).cell rfl
      by_cases hp : k < X.letters.length
      · obtain ⟨x, hkx⟩ : ∃ x, X.letters[k]? = some x := ⟨_, List.getElem?_eq_getElem hp⟩
        obtain ⟨b, o, cs, rfl, -, -, HR0, HT2, -⟩ := ((unhide HY).on (btG (unhide HB1) hb)).get hkx
        have HK := hide hkx
        have HM : Hid (secretC X x = true → ∀ j y, j < k + 1 → X.letters[j]? = some y → secretC X y = true) := fun hx j y hj hy => by
          rcases Nat.lt_or_ge j k with q | q
          · exact unhide HA j y q hy
          · obtain rfl : j = k := by omega
            rw [unhide HK] at hy
            cases hy
            exact hx
        have HN : Hid (secretC X x = false → X.letters.all (secretC X) = false) := fun hx => List.all_eq_false.2 ⟨x, List.mem_of_getElem? (unhide HK), by simp [hx]⟩
        obtain ⟨hb0, hb1'⟩ := unhide HOK (by first | rfl | trivial) x (by simp [thingsOf, List.mem_of_getElem? hkx])
        have HSC : Hid (secretC X x = (X.told.contains x.b || !mkB X.known (atomTm x.b))) := hide rfl
        obtain ⟨ld, lb, ls, lt, ln⟩ := x
        replace hb0 : 0 ≤ lb := hb0
        replace hb1' : lb ≤ 1000000 := hb1'
        obtain ⟨rfl, -⟩ := HT2
        have d1 : wr.cell? ⟨b, o + k * 5 + 1, none⟩ = some (.int .i64 lb) := HR0 1 _ rfl
        have c2 : wr.cell? ⟨w.heap.size, 2, none⟩ = some (.slice ak X.known.length ck) := ((unhide HX1).on hb).cell rfl
        have c10 : wr.cell? ⟨w.heap.size, 10, none⟩ = some (.slice ai X.told.length ci) := ((unhide HX1).on hb).cell rfl
        have q2 : (k : Int) < (X.letters.length : Int) := by omega
        have q3 : (0 : Int) ≤ (k : Int) := by omega
        have w1 : wrap64 ((k : Int) + 1) = ((k + 1 : Nat) : Int) := by unfold wrap64; omega
        have hat : atOp lb = 1 ∧ atN lb = lb := by
          have := okT_atom hb0 hb1'
          unfold atomTm at this
          unfold atOp atN
          rw [if_pos this, if_pos this]
          exact ⟨rfl, rfl⟩
        have HIN := hide (fun v (hv : Below wr.heap.size wr v) => inI X.told ai ci lb v ((unhide HYI).on (btG (btG (unhide HB1) hb) hv)) (unhide hKL).1)
        have HAT : Hid (∀ v, Calls Tryz.prog 19 #[.int .i64 lb] v fun e w' => e = .returned (.agg #[.int .i64 1, .int .i64 lb, .string ByteArray.empty, .slice none 0 0]) ∧ Below v.heap.size v w') := fun v => by
          have := atom6 lb v (atom_wf hb0 hb1')
          rwa [hat.1, hat.2] at this
        have HMD : Hid (∀ v, Below wr.heap.size wr v → Calls Tryz.prog 18 #[.slice ak X.known.length ck, .agg #[.int .i64 1, .int .i64 lb, .string ByteArray.empty, .slice none 0 0]] v fun e w' => e = .returned (.bool (mkB X.known (atomTm lb))) ∧ Below v.heap.size v w') := fun v hv => by
          have := made_calls X.known (atomTm lb) ak ck 1 lb ByteArray.empty none 0 0 v (tmK_all ((unhide HYK).on (btG (btG (unhide HB1) hb) hv))) (lies_leaf v 1 lb ByteArray.empty (by simp [maxLen]) (by decide) (atom_wf hb0 hb1')) (unhide hKL).2 (by simp [atomTm, Tm.size, Tm.sizes])
          unfold madeB at this
          rw [okT_atom hb0 hb1', Bool.true_and] at this
          exact this
        clear hkx HR0 hb HX1 hat hb0 hb1'
        cases htb : X.told.contains lb with
        | true =>
          rw [htb] at HIN
          have HTB := hide htb
          clear htb
          go_wp2_with fail
          refine wp_region_held (S := fun y => y.cell? ⟨w.heap.size, 2, none⟩ = some (.slice ak X.known.length ck) ∧ y.cell? ⟨w.heap.size, 10, none⟩ = some (.slice ai X.told.length ci)) (by kernel_rfl) ?_
          have hS : (fun y : World => y.cell? ⟨w.heap.size, 2, none⟩ = some (.slice ak X.known.length ck) ∧ y.cell? ⟨w.heap.size, 10, none⟩ = some (.slice ai X.told.length ci)) wr.drew := ⟨c2, c10⟩
          have HSP := hS
          show wpAnyH _ _ _ _ _ _ _ _ wr.drew
          refine wpAnyH_take (i := 0) (oi := { dst := some 21, op := Go.Op.fieldAddr 40 (Go.Operand.tmp 1) 10, type := 0, pos := "l15_judge.go:11", after := #[], guard := none }) (v := ?_) rfl (by kernel_rfl) (by kernel_rfl) (by kernel_rfl) (fun _ _ _ h => h) (Or.inl ⟨by rfl, ?_⟩) hS ?_
          rotate_left
          · intro y hSy; obtain ⟨y0, y1⟩ := hSy; go_simp; try with_reducible rfl
          simp only [Act.put, List.setIfInBounds_toArray, List.set_cons_succ, List.set_cons_zero]
          refine wpAnyH_take (i := 1) (oi := { dst := some 22, op := Go.Op.load 28 (Go.Operand.tmp 21), type := 28, pos := "l15_judge.go:11", after := #[{ on := 0, ground := Go.Ground.data }], guard := none }) (v := ?_) rfl (by kernel_rfl) (by kernel_rfl) (by kernel_rfl) (fun _ _ _ h => h) (Or.inl ⟨by rfl, ?_⟩) hS ?_
          rotate_left
          · intro y hSy; obtain ⟨y0, y1⟩ := hSy; go_simp; try with_reducible rfl
          simp only [Act.put, List.setIfInBounds_toArray, List.set_cons_succ, List.set_cons_zero]
          refine wpAnyH_take (i := 2) (oi := { dst := some 23, op := Go.Op.move (Go.Operand.tmp 4), type := 3, pos := "l15_judge.go:11", after := #[], guard := none }) (v := ?_) rfl (by kernel_rfl) (by kernel_rfl) (by kernel_rfl) (fun _ _ _ h => h) (Or.inl ⟨by rfl, ?_⟩) hS ?_
          rotate_left
          · intro y hSy; obtain ⟨y0, y1⟩ := hSy; go_simp; try with_reducible rfl
          simp only [Act.put, List.setIfInBounds_toArray, List.set_cons_succ, List.set_cons_zero]
          refine wpAnyH_all (rs := [3]) (by kernel_rfl) (by simp) ?_
          intro i hi
          simp only [List.mem_singleton] at hi
          subst hi
          refine step_callG (f := 17) (fn := Tryz.f17) (d := 24) (args := #[.slice ai X.told.length ci, .int .i64 lb]) rfl (by rfl) Tryz.func17 (by kernel_rfl) (by kernel_rfl) (by simp [Act.eval]) ?_
          refine (unhide HIN _ ((Below.refl _ _).drew)).mono ?_
          rintro e w2 ⟨rfl, hb2⟩
          have HB2 := hide (below_drewG hb2)
          refine ⟨_, rfl, ?_⟩
          have hS2 : (fun y : World => y.cell? ⟨w.heap.size, 2, none⟩ = some (.slice ak X.known.length ck) ∧ y.cell? ⟨w.heap.size, 10, none⟩ = some (.slice ai X.told.length ci)) w2 := ⟨below_some hb2 HSP.1, below_some hb2 HSP.2⟩
          have HSP := hS2
          refine ⟨hS2, ?_⟩
          simp only [Act.put, List.setIfInBounds_toArray, List.set_cons_succ, List.set_cons_zero]
          refine wpAnyH_take (i := 4) (oi := { dst := some 25, op := Go.Op.unOp Go.UnOp.not 4 (Go.Operand.tmp 24), type := 4, pos := "l15_judge.go:11", after := #[{ on := 3, ground := Go.Ground.data }], guard := none }) (v := ?_) rfl (by kernel_rfl) (by kernel_rfl) (by kernel_rfl) (fun _ _ _ h => h) (Or.inl ⟨by rfl, ?_⟩) hS2 ?_
          rotate_left
          · intro y hSy; obtain ⟨y0, y1⟩ := hSy; go_simp; try with_reducible rfl
          simp only [Act.put, List.setIfInBounds_toArray, List.set_cons_succ, List.set_cons_zero]
          refine wpAnyH_take (i := 5) (oi := { dst := some 26, op := Go.Op.move (Go.Operand.tmp 25), type := 4, pos := "l15_judge.go:11", after := #[{ on := 4, ground := Go.Ground.data }, { on := 3, ground := Go.Ground.chain }], guard := none }) (v := ?_) rfl (by kernel_rfl) (by kernel_rfl) (by kernel_rfl) (fun _ _ _ h => h) (Or.inl ⟨by rfl, ?_⟩) hS2 ?_
          rotate_left
          · intro y hSy; obtain ⟨y0, y1⟩ := hSy; go_simp; try with_reducible rfl
          simp only [Act.put, List.setIfInBounds_toArray, List.set_cons_succ, List.set_cons_zero]
          refine wpAnyH_take (i := 6) (oi := { dst := some 27, op := Go.Op.fieldAddr 40 (Go.Operand.tmp 1) 2, type := 0, pos := "l15_judge.go:11", after := #[{ on := 5, ground := Go.Ground.guard }], guard := some (5, true) }) (v := undef) rfl (by kernel_rfl) (by kernel_rfl) (by kernel_rfl) (fun _ _ _ h => h) (Or.inr ⟨by rfl, rfl⟩) hS2 ?_
          simp only [Act.put, List.setIfInBounds_toArray, List.set_cons_succ, List.set_cons_zero]
          refine wpAnyH_take (i := 7) (oi := { dst := some 28, op := Go.Op.load 33 (Go.Operand.tmp 27), type := 33, pos := "l15_judge.go:11", after := #[{ on := 6, ground := Go.Ground.data }, { on := 5, ground := Go.Ground.guard }], guard := some (5, true) }) (v := undef) rfl (by kernel_rfl) (by kernel_rfl) (by kernel_rfl) (fun _ _ _ h => h) (Or.inr ⟨by rfl, rfl⟩) hS2 ?_
          simp only [Act.put, List.setIfInBounds_toArray, List.set_cons_succ, List.set_cons_zero]
          refine wpAnyH_take (i := 8) (oi := { dst := some 29, op := Go.Op.move (Go.Operand.tmp 4), type := 3, pos := "l15_judge.go:11", after := #[{ on := 5, ground := Go.Ground.guard }], guard := some (5, true) }) (v := undef) rfl (by kernel_rfl) (by kernel_rfl) (by kernel_rfl) (fun _ _ _ h => h) (Or.inr ⟨by rfl, rfl⟩) hS2 ?_
          simp only [Act.put, List.setIfInBounds_toArray, List.set_cons_succ, List.set_cons_zero]
          refine wpAnyH_take (i := 9) (oi := { dst := some 30, op := Go.Op.call { callee := Go.Callee.value (Go.Operand.func 19), args := #[Go.Operand.tmp 29], argTypes := #[3] }, type := 56, pos := "l15_judge.go:11", after := #[{ on := 8, ground := Go.Ground.data }, { on := 5, ground := Go.Ground.chain }, { on := 5, ground := Go.Ground.guard }], guard := some (5, true) }) (v := undef) rfl (by kernel_rfl) (by kernel_rfl) (by kernel_rfl) (fun _ _ _ h => h) (Or.inr ⟨by rfl, rfl⟩) hS2 ?_
          simp only [Act.put, List.setIfInBounds_toArray, List.set_cons_succ, List.set_cons_zero]
          refine wpAnyH_take (i := 10) (oi := { dst := some 31, op := Go.Op.call { callee := Go.Callee.value (Go.Operand.func 18), args := #[Go.Operand.tmp 28, Go.Operand.tmp 30], argTypes := #[33, 56] }, type := 4, pos := "l15_judge.go:11", after := #[{ on := 7, ground := Go.Ground.data }, { on := 9, ground := Go.Ground.data }, { on := 9, ground := Go.Ground.chain }, { on := 5, ground := Go.Ground.guard }], guard := some (5, true) }) (v := undef) rfl (by kernel_rfl) (by kernel_rfl) (by kernel_rfl) (fun _ _ _ h => h) (Or.inr ⟨by rfl, rfl⟩) hS2 ?_
          simp only [Act.put, List.setIfInBounds_toArray, List.set_cons_succ, List.set_cons_zero]
          refine wpAnyH_take (i := 11) (oi := { dst := some 32, op := Go.Op.pick (Go.Operand.tmp 26) (Go.Operand.tmp 31) (Go.Operand.const (Go.Value.bool false)), type := 4, pos := "l15_judge.go:11", after := #[{ on := 5, ground := Go.Ground.data }, { on := 10, ground := Go.Ground.data }], guard := none }) (v := ?_) rfl (by kernel_rfl) (by kernel_rfl) (by kernel_rfl) (fun _ _ _ h => h) (Or.inl ⟨by rfl, ?_⟩) hS2 ?_
          rotate_left
          · intro y hSy; obtain ⟨y0, y1⟩ := hSy; go_simp; try with_reducible rfl
          simp only [Act.put, List.setIfInBounds_toArray, List.set_cons_succ, List.set_cons_zero]
          refine wpAnyH_done (by kernel_rfl) ?_ _
          go_wp2_with fail
          go_roundw
          case rel => exact ⟨k + 1, rfl, btG (unhide HBq) (unhide HB2), by omega, unhide HM (by rw [unhide HSC, unhide HTB]; rfl)⟩
          case measure => simp only [intOf]; omega
        | false =>
          rw [htb] at HIN
          have HTB := hide htb
          clear htb
          cases hmb : mkB X.known (atomTm lb) with
          | true =>
            rw [hmb] at HMD
            have HMB := hide hmb
            clear hmb
            go_wp2_with fail
            refine wp_region_held (S := fun y => y.cell? ⟨w.heap.size, 2, none⟩ = some (.slice ak X.known.length ck) ∧ y.cell? ⟨w.heap.size, 10, none⟩ = some (.slice ai X.told.length ci)) (by kernel_rfl) ?_
            have hS : (fun y : World => y.cell? ⟨w.heap.size, 2, none⟩ = some (.slice ak X.known.length ck) ∧ y.cell? ⟨w.heap.size, 10, none⟩ = some (.slice ai X.told.length ci)) wr.drew := ⟨c2, c10⟩
            have HSP := hS
            show wpAnyH _ _ _ _ _ _ _ _ wr.drew
            refine wpAnyH_take (i := 0) (oi := { dst := some 21, op := Go.Op.fieldAddr 40 (Go.Operand.tmp 1) 10, type := 0, pos := "l15_judge.go:11", after := #[], guard := none }) (v := ?_) rfl (by kernel_rfl) (by kernel_rfl) (by kernel_rfl) (fun _ _ _ h => h) (Or.inl ⟨by rfl, ?_⟩) hS ?_
            rotate_left
            · intro y hSy; obtain ⟨y0, y1⟩ := hSy; go_simp; try with_reducible rfl
            simp only [Act.put, List.setIfInBounds_toArray, List.set_cons_succ, List.set_cons_zero]
            refine wpAnyH_take (i := 1) (oi := { dst := some 22, op := Go.Op.load 28 (Go.Operand.tmp 21), type := 28, pos := "l15_judge.go:11", after := #[{ on := 0, ground := Go.Ground.data }], guard := none }) (v := ?_) rfl (by kernel_rfl) (by kernel_rfl) (by kernel_rfl) (fun _ _ _ h => h) (Or.inl ⟨by rfl, ?_⟩) hS ?_
            rotate_left
            · intro y hSy; obtain ⟨y0, y1⟩ := hSy; go_simp; try with_reducible rfl
            simp only [Act.put, List.setIfInBounds_toArray, List.set_cons_succ, List.set_cons_zero]
            refine wpAnyH_take (i := 2) (oi := { dst := some 23, op := Go.Op.move (Go.Operand.tmp 4), type := 3, pos := "l15_judge.go:11", after := #[], guard := none }) (v := ?_) rfl (by kernel_rfl) (by kernel_rfl) (by kernel_rfl) (fun _ _ _ h => h) (Or.inl ⟨by rfl, ?_⟩) hS ?_
            rotate_left
            · intro y hSy; obtain ⟨y0, y1⟩ := hSy; go_simp; try with_reducible rfl
            simp only [Act.put, List.setIfInBounds_toArray, List.set_cons_succ, List.set_cons_zero]
            refine wpAnyH_all (rs := [3]) (by kernel_rfl) (by simp) ?_
            intro i hi
            simp only [List.mem_singleton] at hi
            subst hi
            refine step_callG (f := 17) (fn := Tryz.f17) (d := 24) (args := #[.slice ai X.told.length ci, .int .i64 lb]) rfl (by rfl) Tryz.func17 (by kernel_rfl) (by kernel_rfl) (by simp [Act.eval]) ?_
            refine (unhide HIN _ ((Below.refl _ _).drew)).mono ?_
            rintro e w2 ⟨rfl, hb2⟩
            have HB2 := hide (below_drewG hb2)
            refine ⟨_, rfl, ?_⟩
            have hS2 : (fun y : World => y.cell? ⟨w.heap.size, 2, none⟩ = some (.slice ak X.known.length ck) ∧ y.cell? ⟨w.heap.size, 10, none⟩ = some (.slice ai X.told.length ci)) w2 := ⟨below_some hb2 HSP.1, below_some hb2 HSP.2⟩
            have HSP := hS2
            refine ⟨hS2, ?_⟩
            simp only [Act.put, List.setIfInBounds_toArray, List.set_cons_succ, List.set_cons_zero]
            refine wpAnyH_take (i := 4) (oi := { dst := some 25, op := Go.Op.unOp Go.UnOp.not 4 (Go.Operand.tmp 24), type := 4, pos := "l15_judge.go:11", after := #[{ on := 3, ground := Go.Ground.data }], guard := none }) (v := ?_) rfl (by kernel_rfl) (by kernel_rfl) (by kernel_rfl) (fun _ _ _ h => h) (Or.inl ⟨by rfl, ?_⟩) hS2 ?_
            rotate_left
            · intro y hSy; obtain ⟨y0, y1⟩ := hSy; go_simp; try with_reducible rfl
            simp only [Act.put, List.setIfInBounds_toArray, List.set_cons_succ, List.set_cons_zero]
            refine wpAnyH_take (i := 5) (oi := { dst := some 26, op := Go.Op.move (Go.Operand.tmp 25), type := 4, pos := "l15_judge.go:11", after := #[{ on := 4, ground := Go.Ground.data }, { on := 3, ground := Go.Ground.chain }], guard := none }) (v := ?_) rfl (by kernel_rfl) (by kernel_rfl) (by kernel_rfl) (fun _ _ _ h => h) (Or.inl ⟨by rfl, ?_⟩) hS2 ?_
            rotate_left
            · intro y hSy; obtain ⟨y0, y1⟩ := hSy; go_simp; try with_reducible rfl
            simp only [Act.put, List.setIfInBounds_toArray, List.set_cons_succ, List.set_cons_zero]
            refine wpAnyH_take (i := 6) (oi := { dst := some 27, op := Go.Op.fieldAddr 40 (Go.Operand.tmp 1) 2, type := 0, pos := "l15_judge.go:11", after := #[{ on := 5, ground := Go.Ground.guard }], guard := some (5, true) }) (v := ?_) rfl (by kernel_rfl) (by kernel_rfl) (by kernel_rfl) (fun _ _ _ h => h) (Or.inl ⟨by rfl, ?_⟩) hS2 ?_
            rotate_left
            · intro y hSy; obtain ⟨y0, y1⟩ := hSy; go_simp; try with_reducible rfl
            simp only [Act.put, List.setIfInBounds_toArray, List.set_cons_succ, List.set_cons_zero]
            refine wpAnyH_take (i := 7) (oi := { dst := some 28, op := Go.Op.load 33 (Go.Operand.tmp 27), type := 33, pos := "l15_judge.go:11", after := #[{ on := 6, ground := Go.Ground.data }, { on := 5, ground := Go.Ground.guard }], guard := some (5, true) }) (v := ?_) rfl (by kernel_rfl) (by kernel_rfl) (by kernel_rfl) (fun _ _ _ h => h) (Or.inl ⟨by rfl, ?_⟩) hS2 ?_
            rotate_left
            · intro y hSy; obtain ⟨y0, y1⟩ := hSy; go_simp; try with_reducible rfl
            simp only [Act.put, List.setIfInBounds_toArray, List.set_cons_succ, List.set_cons_zero]
            refine wpAnyH_take (i := 8) (oi := { dst := some 29, op := Go.Op.move (Go.Operand.tmp 4), type := 3, pos := "l15_judge.go:11", after := #[{ on := 5, ground := Go.Ground.guard }], guard := some (5, true) }) (v := ?_) rfl (by kernel_rfl) (by kernel_rfl) (by kernel_rfl) (fun _ _ _ h => h) (Or.inl ⟨by rfl, ?_⟩) hS2 ?_
            rotate_left
            · intro y hSy; obtain ⟨y0, y1⟩ := hSy; go_simp; try with_reducible rfl
            simp only [Act.put, List.setIfInBounds_toArray, List.set_cons_succ, List.set_cons_zero]
            refine wpAnyH_all (rs := [9]) (by kernel_rfl) (by simp) ?_
            intro i hi
            simp only [List.mem_singleton] at hi
            subst hi
            refine step_callG (f := 19) (fn := Tryz.f19) (d := 30) (args := #[.int .i64 lb]) rfl (by rfl) Tryz.func19 (by kernel_rfl) (by kernel_rfl) (by simp [Act.eval]) ?_
            refine (unhide HAT w2).mono ?_
            rintro e w3 ⟨rfl, hb3⟩
            have HB3 := hide (btG (unhide HB2) hb3)
            refine ⟨_, rfl, ?_⟩
            have hS3 : (fun y : World => y.cell? ⟨w.heap.size, 2, none⟩ = some (.slice ak X.known.length ck) ∧ y.cell? ⟨w.heap.size, 10, none⟩ = some (.slice ai X.told.length ci)) w3 := ⟨below_some hb3 HSP.1, below_some hb3 HSP.2⟩
            have HSP := hS3
            refine ⟨hS3, ?_⟩
            simp only [Act.put, List.setIfInBounds_toArray, List.set_cons_succ, List.set_cons_zero]
            refine wpAnyH_all (rs := [10]) (by kernel_rfl) (by simp) ?_
            intro i hi
            simp only [List.mem_singleton] at hi
            subst hi
            refine step_callG (f := 18) (fn := Tryz.f18) (d := 31) (args := #[.slice ak X.known.length ck, .agg #[.int .i64 1, .int .i64 lb, .string ByteArray.empty, .slice none 0 0]]) rfl (by rfl) Tryz.func18 (by kernel_rfl) (by kernel_rfl) (by simp [Act.eval]) ?_
            refine (unhide HMD _ (unhide HB3)).mono ?_
            rintro e w4 ⟨rfl, hb4⟩
            have HB4 := hide (btG (unhide HB3) hb4)
            refine ⟨_, rfl, ?_⟩
            have hS4 : (fun y : World => y.cell? ⟨w.heap.size, 2, none⟩ = some (.slice ak X.known.length ck) ∧ y.cell? ⟨w.heap.size, 10, none⟩ = some (.slice ai X.told.length ci)) w4 := ⟨below_some hb4 HSP.1, below_some hb4 HSP.2⟩
            have HSP := hS4
            refine ⟨hS4, ?_⟩
            simp only [Act.put, List.setIfInBounds_toArray, List.set_cons_succ, List.set_cons_zero]
            refine wpAnyH_take (i := 11) (oi := { dst := some 32, op := Go.Op.pick (Go.Operand.tmp 26) (Go.Operand.tmp 31) (Go.Operand.const (Go.Value.bool false)), type := 4, pos := "l15_judge.go:11", after := #[{ on := 5, ground := Go.Ground.data }, { on := 10, ground := Go.Ground.data }], guard := none }) (v := ?_) rfl (by kernel_rfl) (by kernel_rfl) (by kernel_rfl) (fun _ _ _ h => h) (Or.inl ⟨by rfl, ?_⟩) hS4 ?_
            rotate_left
            · intro y hSy; obtain ⟨y0, y1⟩ := hSy; go_simp; try with_reducible rfl
            simp only [Act.put, List.setIfInBounds_toArray, List.set_cons_succ, List.set_cons_zero]
            refine wpAnyH_done (by kernel_rfl) ?_ _
            have HE : Hid (R = false) := by show R = false; rw [unhide HW2, unhide HN (by rw [unhide HSC, unhide HTB, unhide HMB]; rfl)]
            go_wp2_with fail
            go_ret
            exact ⟨retB (unhide HE), btG (unhide HB1) (btG (unhide HBq) (unhide HB4))⟩
          | false =>
            rw [hmb] at HMD
            have HMB := hide hmb
            clear hmb
            go_wp2_with fail
            refine wp_region_held (S := fun y => y.cell? ⟨w.heap.size, 2, none⟩ = some (.slice ak X.known.length ck) ∧ y.cell? ⟨w.heap.size, 10, none⟩ = some (.slice ai X.told.length ci)) (by kernel_rfl) ?_
            have hS : (fun y : World => y.cell? ⟨w.heap.size, 2, none⟩ = some (.slice ak X.known.length ck) ∧ y.cell? ⟨w.heap.size, 10, none⟩ = some (.slice ai X.told.length ci)) wr.drew := ⟨c2, c10⟩
            have HSP := hS
            show wpAnyH _ _ _ _ _ _ _ _ wr.drew
            refine wpAnyH_take (i := 0) (oi := { dst := some 21, op := Go.Op.fieldAddr 40 (Go.Operand.tmp 1) 10, type := 0, pos := "l15_judge.go:11", after := #[], guard := none }) (v := ?_) rfl (by kernel_rfl) (by kernel_rfl) (by kernel_rfl) (fun _ _ _ h => h) (Or.inl ⟨by rfl, ?_⟩) hS ?_
            rotate_left
            · intro y hSy; obtain ⟨y0, y1⟩ := hSy; go_simp; try with_reducible rfl
            simp only [Act.put, List.setIfInBounds_toArray, List.set_cons_succ, List.set_cons_zero]
            refine wpAnyH_take (i := 1) (oi := { dst := some 22, op := Go.Op.load 28 (Go.Operand.tmp 21), type := 28, pos := "l15_judge.go:11", after := #[{ on := 0, ground := Go.Ground.data }], guard := none }) (v := ?_) rfl (by kernel_rfl) (by kernel_rfl) (by kernel_rfl) (fun _ _ _ h => h) (Or.inl ⟨by rfl, ?_⟩) hS ?_
            rotate_left
            · intro y hSy; obtain ⟨y0, y1⟩ := hSy; go_simp; try with_reducible rfl
            simp only [Act.put, List.setIfInBounds_toArray, List.set_cons_succ, List.set_cons_zero]
            refine wpAnyH_take (i := 2) (oi := { dst := some 23, op := Go.Op.move (Go.Operand.tmp 4), type := 3, pos := "l15_judge.go:11", after := #[], guard := none }) (v := ?_) rfl (by kernel_rfl) (by kernel_rfl) (by kernel_rfl) (fun _ _ _ h => h) (Or.inl ⟨by rfl, ?_⟩) hS ?_
            rotate_left
            · intro y hSy; obtain ⟨y0, y1⟩ := hSy; go_simp; try with_reducible rfl
            simp only [Act.put, List.setIfInBounds_toArray, List.set_cons_succ, List.set_cons_zero]
            refine wpAnyH_all (rs := [3]) (by kernel_rfl) (by simp) ?_
            intro i hi
            simp only [List.mem_singleton] at hi
            subst hi
            refine step_callG (f := 17) (fn := Tryz.f17) (d := 24) (args := #[.slice ai X.told.length ci, .int .i64 lb]) rfl (by rfl) Tryz.func17 (by kernel_rfl) (by kernel_rfl) (by simp [Act.eval]) ?_
            refine (unhide HIN _ ((Below.refl _ _).drew)).mono ?_
            rintro e w2 ⟨rfl, hb2⟩
            have HB2 := hide (below_drewG hb2)
            refine ⟨_, rfl, ?_⟩
            have hS2 : (fun y : World => y.cell? ⟨w.heap.size, 2, none⟩ = some (.slice ak X.known.length ck) ∧ y.cell? ⟨w.heap.size, 10, none⟩ = some (.slice ai X.told.length ci)) w2 := ⟨below_some hb2 HSP.1, below_some hb2 HSP.2⟩
            have HSP := hS2
            refine ⟨hS2, ?_⟩
            simp only [Act.put, List.setIfInBounds_toArray, List.set_cons_succ, List.set_cons_zero]
            refine wpAnyH_take (i := 4) (oi := { dst := some 25, op := Go.Op.unOp Go.UnOp.not 4 (Go.Operand.tmp 24), type := 4, pos := "l15_judge.go:11", after := #[{ on := 3, ground := Go.Ground.data }], guard := none }) (v := ?_) rfl (by kernel_rfl) (by kernel_rfl) (by kernel_rfl) (fun _ _ _ h => h) (Or.inl ⟨by rfl, ?_⟩) hS2 ?_
            rotate_left
            · intro y hSy; obtain ⟨y0, y1⟩ := hSy; go_simp; try with_reducible rfl
            simp only [Act.put, List.setIfInBounds_toArray, List.set_cons_succ, List.set_cons_zero]
            refine wpAnyH_take (i := 5) (oi := { dst := some 26, op := Go.Op.move (Go.Operand.tmp 25), type := 4, pos := "l15_judge.go:11", after := #[{ on := 4, ground := Go.Ground.data }, { on := 3, ground := Go.Ground.chain }], guard := none }) (v := ?_) rfl (by kernel_rfl) (by kernel_rfl) (by kernel_rfl) (fun _ _ _ h => h) (Or.inl ⟨by rfl, ?_⟩) hS2 ?_
            rotate_left
            · intro y hSy; obtain ⟨y0, y1⟩ := hSy; go_simp; try with_reducible rfl
            simp only [Act.put, List.setIfInBounds_toArray, List.set_cons_succ, List.set_cons_zero]
            refine wpAnyH_take (i := 6) (oi := { dst := some 27, op := Go.Op.fieldAddr 40 (Go.Operand.tmp 1) 2, type := 0, pos := "l15_judge.go:11", after := #[{ on := 5, ground := Go.Ground.guard }], guard := some (5, true) }) (v := ?_) rfl (by kernel_rfl) (by kernel_rfl) (by kernel_rfl) (fun _ _ _ h => h) (Or.inl ⟨by rfl, ?_⟩) hS2 ?_
            rotate_left
            · intro y hSy; obtain ⟨y0, y1⟩ := hSy; go_simp; try with_reducible rfl
            simp only [Act.put, List.setIfInBounds_toArray, List.set_cons_succ, List.set_cons_zero]
            refine wpAnyH_take (i := 7) (oi := { dst := some 28, op := Go.Op.load 33 (Go.Operand.tmp 27), type := 33, pos := "l15_judge.go:11", after := #[{ on := 6, ground := Go.Ground.data }, { on := 5, ground := Go.Ground.guard }], guard := some (5, true) }) (v := ?_) rfl (by kernel_rfl) (by kernel_rfl) (by kernel_rfl) (fun _ _ _ h => h) (Or.inl ⟨by rfl, ?_⟩) hS2 ?_
            rotate_left
            · intro y hSy; obtain ⟨y0, y1⟩ := hSy; go_simp; try with_reducible rfl
            simp only [Act.put, List.setIfInBounds_toArray, List.set_cons_succ, List.set_cons_zero]
            refine wpAnyH_take (i := 8) (oi := { dst := some 29, op := Go.Op.move (Go.Operand.tmp 4), type := 3, pos := "l15_judge.go:11", after := #[{ on := 5, ground := Go.Ground.guard }], guard := some (5, true) }) (v := ?_) rfl (by kernel_rfl) (by kernel_rfl) (by kernel_rfl) (fun _ _ _ h => h) (Or.inl ⟨by rfl, ?_⟩) hS2 ?_
            rotate_left
            · intro y hSy; obtain ⟨y0, y1⟩ := hSy; go_simp; try with_reducible rfl
            simp only [Act.put, List.setIfInBounds_toArray, List.set_cons_succ, List.set_cons_zero]
            refine wpAnyH_all (rs := [9]) (by kernel_rfl) (by simp) ?_
            intro i hi
            simp only [List.mem_singleton] at hi
            subst hi
            refine step_callG (f := 19) (fn := Tryz.f19) (d := 30) (args := #[.int .i64 lb]) rfl (by rfl) Tryz.func19 (by kernel_rfl) (by kernel_rfl) (by simp [Act.eval]) ?_
            refine (unhide HAT w2).mono ?_
            rintro e w3 ⟨rfl, hb3⟩
            have HB3 := hide (btG (unhide HB2) hb3)
            refine ⟨_, rfl, ?_⟩
            have hS3 : (fun y : World => y.cell? ⟨w.heap.size, 2, none⟩ = some (.slice ak X.known.length ck) ∧ y.cell? ⟨w.heap.size, 10, none⟩ = some (.slice ai X.told.length ci)) w3 := ⟨below_some hb3 HSP.1, below_some hb3 HSP.2⟩
            have HSP := hS3
            refine ⟨hS3, ?_⟩
            simp only [Act.put, List.setIfInBounds_toArray, List.set_cons_succ, List.set_cons_zero]
            refine wpAnyH_all (rs := [10]) (by kernel_rfl) (by simp) ?_
            intro i hi
            simp only [List.mem_singleton] at hi
            subst hi
            refine step_callG (f := 18) (fn := Tryz.f18) (d := 31) (args := #[.slice ak X.known.length ck, .agg #[.int .i64 1, .int .i64 lb, .string ByteArray.empty, .slice none 0 0]]) rfl (by rfl) Tryz.func18 (by kernel_rfl) (by kernel_rfl) (by simp [Act.eval]) ?_
            refine (unhide HMD _ (unhide HB3)).mono ?_
            rintro e w4 ⟨rfl, hb4⟩
            have HB4 := hide (btG (unhide HB3) hb4)
            refine ⟨_, rfl, ?_⟩
            have hS4 : (fun y : World => y.cell? ⟨w.heap.size, 2, none⟩ = some (.slice ak X.known.length ck) ∧ y.cell? ⟨w.heap.size, 10, none⟩ = some (.slice ai X.told.length ci)) w4 := ⟨below_some hb4 HSP.1, below_some hb4 HSP.2⟩
            have HSP := hS4
            refine ⟨hS4, ?_⟩
            simp only [Act.put, List.setIfInBounds_toArray, List.set_cons_succ, List.set_cons_zero]
            refine wpAnyH_take (i := 11) (oi := { dst := some 32, op := Go.Op.pick (Go.Operand.tmp 26) (Go.Operand.tmp 31) (Go.Operand.const (Go.Value.bool false)), type := 4, pos := "l15_judge.go:11", after := #[{ on := 5, ground := Go.Ground.data }, { on := 10, ground := Go.Ground.data }], guard := none }) (v := ?_) rfl (by kernel_rfl) (by kernel_rfl) (by kernel_rfl) (fun _ _ _ h => h) (Or.inl ⟨by rfl, ?_⟩) hS4 ?_
            rotate_left
            · intro y hSy; obtain ⟨y0, y1⟩ := hSy; go_simp; try with_reducible rfl
            simp only [Act.put, List.setIfInBounds_toArray, List.set_cons_succ, List.set_cons_zero]
            refine wpAnyH_done (by kernel_rfl) ?_ _
            go_wp2_with fail
            go_roundw
            case rel => exact ⟨k + 1, rfl, btG (unhide HBq) (unhide HB4), by omega, unhide HM (by rw [unhide HSC, unhide HTB, unhide HMB]; rfl)⟩
            case measure => simp only [intOf]; omega
      · have cN : ¬ (k : Int) < (X.letters.length : Int) := by omega
        have HAll : Hid (X.letters.all (secretC X) = true) := List.all_eq_true.2 fun x hx => by
          obtain ⟨j, hj⟩ := List.getElem?_of_mem hx
          exact unhide HA j x (by have := (List.getElem?_eq_some_iff.1 hj).1; omega) hj
        have HE : Hid (R = true) := by show R = true; rw [unhide HW2, unhide HAll]
        clear hb
        go_wp2_with fail
        go_ret
        exact ⟨retB (unhide HE), btG (unhide HB1) (unhide HBq)⟩

set_option maxRecDepth 100000 in
set_option maxHeartbeats 4000000 in
theorem judgeSecretI (X : Wd) (cs : List Value) (w : World) (h : wdAt w 0 X cs) (hz : ww X ≤ 1048576) (ht : Tab w) (he : Err w) :
    Calls Tryz.prog 7 #[.agg cs.toArray] w fun e w' => e = .returned (.bool (secretB X)) ∧ Below w.heap.size w w' := by
  have h0 := h
  obtain ⟨-, ak, ck, ac, cc, ah, ch, al, cl, aa, ca, az, cz, ai, ci, rfl, -⟩ := h
  have HB1 := hide (abG (w := w) (.cells #[.int .i64 X.time, .int .i64 X.fresh, .slice ak X.known.length ck, .slice ac X.cache.length cc, .slice ah X.hosts.length ch, .slice al X.letters.length cl, .string X.book, .int .i64 X.sure, .slice aa X.calls.length ca, .slice az X.talks.length cz, .slice ai X.told.length ci] 40))
  have HK := hide (fun g v hv hg => keepSecret X [.int .i64 X.time, .int .i64 X.fresh, .slice ak X.known.length ck, .slice ac X.cache.length cc, .slice ah X.hosts.length ch, .slice al X.letters.length cl, .string X.book, .int .i64 X.sure, .slice aa X.calls.length ca, .slice az X.talks.length cz, .slice ai X.told.length ci] g v (wdK.on (w := w) (L := 0) (x := X) h0 hv) hz hg (ht.on hv) (he.on hv))
  have HE : Hid (secretB X = (worldB X && (thingsOf X).all (ruleS X))) := hide (by unfold secretB; rw [all_thingsS])
  have hd : ((w.alloc (.cells #[.int .i64 X.time, .int .i64 X.fresh, .slice ak X.known.length ck, .slice ac X.cache.length cc, .slice ah X.hosts.length ch, .slice al X.letters.length cl, .string X.book, .int .i64 X.sure, .slice aa X.calls.length ca, .slice az X.talks.length cz, .slice ai X.told.length ci] 40)).alloc (.cells #[.func (.func 28) #[] #[]] 66)).cell? ⟨w.heap.size + 1, 0, none⟩ = some (.func (.func 28) #[] #[]) := by
    have := box_cell (w.alloc (.cells #[.int .i64 X.time, .int .i64 X.fresh, .slice ak X.known.length ck, .slice ac X.cache.length cc, .slice ah X.hosts.length ch, .slice al X.letters.length cl, .string X.book, .int .i64 X.sure, .slice aa X.calls.length ca, .slice az X.talks.length cz, .slice ai X.told.length ci] 40)) #[.func (.func 28) #[] #[]] 66 0 _ rfl
    rwa [heap_size_alloc] at this
  have HD := hide hd
  have HBB : Hid (Below w.heap.size w ((w.alloc (.cells #[.int .i64 X.time, .int .i64 X.fresh, .slice ak X.known.length ck, .slice ac X.cache.length cc, .slice ah X.hosts.length ch, .slice al X.letters.length cl, .string X.book, .int .i64 X.sure, .slice aa X.calls.length ca, .slice az X.talks.length cz, .slice ai X.told.length ci] 40)).alloc (.cells #[.func (.func 28) #[] #[]] 66))) := hide (btG (abG _) (abG _))
  clear h0 hz hd ht he
  generalize (worldB X && (thingsOf X).all (ruleS X)) = R at *
  generalize secretB X = R2 at *
  show Calls Tryz.prog 7 #[.agg #[.int .i64 X.time, .int .i64 X.fresh, .slice ak X.known.length ck, .slice ac X.cache.length cc, .slice ah X.hosts.length ch, .slice al X.letters.length cl, .string X.book, .int .i64 X.sure, .slice aa X.calls.length ca, .slice az X.talks.length cz, .slice ai X.told.length ci]] w _
  go_enter Tryz.func7, Tryz.ntmps7
  go_wp2_with fail
  refine (unhide HK (w.heap.size + 1) _ (unhide HBB) (unhide HD)).mono ?_
  rintro e w2 ⟨rfl, hb2⟩
  have HB2 := hide (btG (unhide HBB) hb2)
  clear hb2
  go_wp2_with fail
  go_ret
  exact ⟨retB (unhide HE), unhide HB2⟩

set_option maxRecDepth 100000 in
set_option maxHeartbeats 4000000 in
theorem lawJudgeSecret (X : Wd) (cs : List Value) (w : World) (h : wdAt w 0 X cs) (ht : Tab w) (he : Err w) :
    Calls Tryz.prog 3 #[.agg cs.toArray] w fun e w' => e = .returned (.bool true) ∧ Below w.heap.size w w' := by
  have hw0 := h
  have h4 := hide (fun v hv => szWd X cs 1048576 v hv (by omega) (by omega))
  obtain ⟨-, ak, ck, ac, cc, ah, ch, al, cl, aa, ca, az, cz, ai, ci, rfl, -⟩ := h
  have hb0 := abG (w := w) (.cells #[.int .i64 X.time, .int .i64 X.fresh, .slice ak X.known.length ck, .slice ac X.cache.length cc, .slice ah X.hosts.length ch, .slice al X.letters.length cl, .string X.book, .int .i64 X.sure, .slice aa X.calls.length ca, .slice az X.talks.length cz, .slice ai X.told.length ci] 30)
  have HB0 := hide hb0
  have HW0 := hide (wdK.on (w := w) (L := 0) (x := X) hw0 hb0)
  have HX := hide (Box.new w 30 [.int .i64 X.time, .int .i64 X.fresh, .slice ak X.known.length ck, .slice ac X.cache.length cc, .slice ah X.hosts.length ch, .slice al X.letters.length cl, .string X.book, .int .i64 X.sure, .slice aa X.calls.length ca, .slice az X.talks.length cz, .slice ai X.told.length ci])
  show Calls Tryz.prog 3 #[.agg #[.int .i64 X.time, .int .i64 X.fresh, .slice ak X.known.length ck, .slice ac X.cache.length cc, .slice ah X.hosts.length ch, .slice al X.letters.length cl, .string X.book, .int .i64 X.sure, .slice aa X.calls.length ca, .slice az X.talks.length cz, .slice ai X.told.length ci]] w _
  clear hw0 hb0
  by_cases hw : ((ww X : Nat) : Int) ≤ 1048576
  · have hz : ww X ≤ 1048576 := by omega
    have h6 := hide (fun cs v hv => toWd X cs v hv hz)
    have h5 := hide (fun cs v hv => secretS X cs v hv hz)
    have h7 := hide (fun cs v hv hb => judgeSecretI X cs v hv hz (ht.on hb) (he.on hb))
    have h8 := hide (fun cs cs' v hv hv' => eqWd X cs cs' v hv hv' hz)
    rw [szv_yes hw] at h4
    obtain ⟨left, hleft⟩ : ∃ left : Int, left = 1048576 - ((ww X : Nat) : Int) := ⟨_, rfl⟩
    rw [← hleft] at h4
    have hln : ¬ left < 0 := by omega
    generalize secretB X = ok at *
    have hne : (ok != ok) = false := by simp
    clear hleft hw hz ht he
    go_enter Tryz.func3, Tryz.ntmps3
    go_wp2_with (refine wpList_load_box rfl _ rfl w.heap.size 0 [.int .i64 X.time, .int .i64 X.fresh, .slice ak X.known.length ck, .slice ac X.cache.length cc, .slice ah X.hosts.length ch, .slice al X.letters.length cl, .string X.book, .int .i64 X.sure, .slice aa X.calls.length ca, .slice az X.talks.length cz, .slice ai X.told.length ci] (unhide HX) (fun j v hj => (by rw [Nat.zero_add]; exact hj)) rfl Tryz.underlying30 rfl infoWL ?_)
    refine (unhide h4 _ (unhide HW0)).mono ?_
    rintro e w2 ⟨rfl, hb2⟩
    have HB2 := hide (btG (unhide HB0) hb2)
    have HW2 := hide (wdK.on (w := _) (L := 0) (x := X) (unhide HW0) hb2)
    have HX2 := hide ((unhide HX).on hb2)
    clear hb2 HB0 HW0 HX h4
    go_wp2_with (refine wpList_load_box rfl _ rfl w.heap.size 0 [.int .i64 X.time, .int .i64 X.fresh, .slice ak X.known.length ck, .slice ac X.cache.length cc, .slice ah X.hosts.length ch, .slice al X.letters.length cl, .string X.book, .int .i64 X.sure, .slice aa X.calls.length ca, .slice az X.talks.length cz, .slice ai X.told.length ci] (unhide HX2) (fun j v hj => (by rw [Nat.zero_add]; exact hj)) rfl Tryz.underlying30 rfl infoWL ?_)
    refine (unhide h6 _ _ (unhide HW2)).mono ?_
    rintro e w3 ⟨c3, rfl, hx3, hb3⟩
    have HB3 := hide (btG (unhide HB2) hb3)
    have HW3 := hide (wdK.on (w := _) (L := 0) (x := X) (unhide HW2) hb3)
    have HX3 := hide ((unhide HX2).on hb3)
    have HN3 := hide (wdK.low (w := _) (x := X) hx3 (Nat.zero_le _))
    clear hb3 hx3 HB2 HW2 HX2
    go_wp2_with fail
    refine (unhide h5 _ _ (unhide HN3)).mono ?_
    rintro e w4 ⟨rfl, hb4⟩
    have HB4 := hide (btG (unhide HB3) hb4)
    have HW4 := hide (wdK.on (w := _) (L := 0) (x := X) (unhide HW3) hb4)
    have HX4 := hide ((unhide HX3).on hb4)
    clear hb4 HB3 HW3 HX3 HN3 h5
    go_wp2_with (refine wpList_load_box rfl _ rfl w.heap.size 0 [.int .i64 X.time, .int .i64 X.fresh, .slice ak X.known.length ck, .slice ac X.cache.length cc, .slice ah X.hosts.length ch, .slice al X.letters.length cl, .string X.book, .int .i64 X.sure, .slice aa X.calls.length ca, .slice az X.talks.length cz, .slice ai X.told.length ci] (unhide HX4) (fun j v hj => (by rw [Nat.zero_add]; exact hj)) rfl Tryz.underlying30 rfl infoWL ?_)
    refine (unhide h6 _ _ (unhide HW4)).mono ?_
    rintro e w5 ⟨c5, rfl, hx5, hb5⟩
    have HB5 := hide (btG (unhide HB4) hb5)
    have HW5 := hide (wdK.on (w := _) (L := 0) (x := X) (unhide HW4) hb5)
    have HX5 := hide ((unhide HX4).on hb5)
    have HO5 := hide (Box.new w5 40 [.int .i64 0, .int .i64 0, .slice none 0 0, .slice none 0 0, .slice none 0 0, .slice none 0 0, .string ⟨#[]⟩, .int .i64 0, .slice none 0 0, .slice none 0 0, .slice none 0 0])
    have HN5 := hide (wdK.low (w := _) (x := X) hx5 (Nat.zero_le _))
    have hl5 := hide (wdK.len (w := w5) (L := _) (x := X) hx5)
    have ho5 := hide (wdK.one (w := w5) (L := _) (x := X) hx5)
    have hsz : w.heap.size < w5.heap.size := by have := ((unhide HX4).on hb5).lt; exact this
    have HSZ := hide hsz
    clear hb5 hx5 HB4 HW4 HX4 hsz
    go_wp2_with (first
    | (refine wpList_store_box rfl _ _ rfl w5.heap.size 0 c5 (unhide HO5) (by rw [unhide hl5]; decide) rfl rfl (by rw [unhide hl5]; exact infoW) (unhide ho5) ?_
       intro V hV
       have HOV : Hid (Box V w5.heap.size 40 c5) := (by
         rw [hV]
         have hp : puts [.int .i64 0, .int .i64 0, .slice none 0 0, .slice none 0 0, .slice none 0 0, .slice none 0 0, .string ⟨#[]⟩, .int .i64 0, .slice none 0 0, .slice none 0 0, .slice none 0 0] 0 c5 = c5 := puts_all (by rw [unhide hl5]; rfl)
         have := Box.sets c5 0 _ _ (unhide HO5)
         rw [hp] at this
         exact this)
       have HVB : Hid (Below w5.heap.size w5 V) := (by rw [hV]; exact setsG (abG _) (Nat.le_refl _))
       have HXV := hide ((unhide HX5).on (unhide HVB))
       have HBV := hide (btG (unhide HB5) (unhide HVB))
       have HWV := hide (wdK.on (w := _) (L := 0) (x := X) (unhide HW5) (unhide HVB))
       have HNV := hide (wdK.on (w := _) (L := 0) (x := X) (unhide HN5) (unhide HVB))
       clear hV HO5 HB5 HW5 HX5 HN5 HVB)
    | (refine wpList_load_box rfl _ rfl w5.heap.size 0 c5 (unhide HOV) (fun j v hj => (by rw [Nat.zero_add]; exact hj)) rfl Tryz.underlying40 rfl (by rw [unhide hl5]; exact infoW) ?_))
    refine (unhide h7 _ _ (unhide HNV) (unhide HBV)).mono ?_
    rintro e w6 ⟨rfl, hb6⟩
    have HB6 := hide (btG (unhide HBV) hb6)
    have HW6 := hide (wdK.on (w := _) (L := 0) (x := X) (unhide HWV) hb6)
    have HX6 := hide ((unhide HXV).on hb6)
    have HO6 := hide ((unhide HOV).on hb6)
    have HN6 := hide (wdK.on (w := _) (L := 0) (x := X) (unhide HNV) hb6)
    clear hb6 HBV HWV HXV HOV HNV hl5 ho5 HSZ
    obtain ⟨g5, hg5⟩ : ∃ g : Nat, g = w5.heap.size := ⟨_, rfl⟩
    rw [← hg5] at HO6 ⊢
    clear hg5
    have hn6 : wdAt w6 0 X c5 := unhide HN6
    obtain ⟨-, ak5, ck5, ac5, cc5, ah5, ch5, al5, cl5, aa5, ca5, az5, cz5, ai5, ci5, rfl, -⟩ := hn6
    have c0 : w6.cell? ⟨w.heap.size, 0, none⟩ = some (.int .i64 X.time) := (unhide HX6).cell rfl
    have c1 : w6.cell? ⟨w.heap.size, 1, none⟩ = some (.int .i64 X.fresh) := (unhide HX6).cell rfl
    have c2 : w6.cell? ⟨w.heap.size, 2, none⟩ = some (.slice ak X.known.length ck) := (unhide HX6).cell rfl
    have c3 : w6.cell? ⟨w.heap.size, 3, none⟩ = some (.slice ac X.cache.length cc) := (unhide HX6).cell rfl
    have c4 : w6.cell? ⟨w.heap.size, 4, none⟩ = some (.slice ah X.hosts.length ch) := (unhide HX6).cell rfl
    have c5 : w6.cell? ⟨w.heap.size, 5, none⟩ = some (.slice al X.letters.length cl) := (unhide HX6).cell rfl
    have c6 : w6.cell? ⟨w.heap.size, 6, none⟩ = some (.string X.book) := (unhide HX6).cell rfl
    have c7 : w6.cell? ⟨w.heap.size, 7, none⟩ = some (.int .i64 X.sure) := (unhide HX6).cell rfl
    have c8 : w6.cell? ⟨w.heap.size, 8, none⟩ = some (.slice aa X.calls.length ca) := (unhide HX6).cell rfl
    have c9 : w6.cell? ⟨w.heap.size, 9, none⟩ = some (.slice az X.talks.length cz) := (unhide HX6).cell rfl
    have c10 : w6.cell? ⟨w.heap.size, 10, none⟩ = some (.slice ai X.told.length ci) := (unhide HX6).cell rfl
    have d0 : w6.cell? ⟨g5, 0, none⟩ = some (.int .i64 X.time) := (unhide HO6).cell rfl
    have d1 : w6.cell? ⟨g5, 1, none⟩ = some (.int .i64 X.fresh) := (unhide HO6).cell rfl
    have d2 : w6.cell? ⟨g5, 2, none⟩ = some (.slice ak5 X.known.length ck5) := (unhide HO6).cell rfl
    have d3 : w6.cell? ⟨g5, 3, none⟩ = some (.slice ac5 X.cache.length cc5) := (unhide HO6).cell rfl
    have d4 : w6.cell? ⟨g5, 4, none⟩ = some (.slice ah5 X.hosts.length ch5) := (unhide HO6).cell rfl
    have d5 : w6.cell? ⟨g5, 5, none⟩ = some (.slice al5 X.letters.length cl5) := (unhide HO6).cell rfl
    have d6 : w6.cell? ⟨g5, 6, none⟩ = some (.string X.book) := (unhide HO6).cell rfl
    have d7 : w6.cell? ⟨g5, 7, none⟩ = some (.int .i64 X.sure) := (unhide HO6).cell rfl
    have d8 : w6.cell? ⟨g5, 8, none⟩ = some (.slice aa5 X.calls.length ca5) := (unhide HO6).cell rfl
    have d9 : w6.cell? ⟨g5, 9, none⟩ = some (.slice az5 X.talks.length cz5) := (unhide HO6).cell rfl
    have d10 : w6.cell? ⟨g5, 10, none⟩ = some (.slice ai5 X.told.length ci5) := (unhide HO6).cell rfl
    go_wp2_with fail
    go_region_with (first
      | (go_at_call 6
         refine (unhide h6 _ _ (wdK.on (w := _) (L := 0) (x := X) (unhide HW6) (Below.refl _ _).drew)).mono ?_
         rintro e w7 ⟨c7, rfl, hx7, hb7⟩
         have hb7' := below_drewG hb7
         have HB7 := hide (btG (unhide HB6) hb7')
         have HN7 := hide (wdK.on (w := _) (L := 0) (x := X) (unhide HN6) hb7')
         have HM7 := hide (wdK.low (w := _) (x := X) hx7 (Nat.zero_le _))
         have HO7 := hide ((unhide HO6).on hb7')
         have e0 : w7.cell? ⟨g5, 0, none⟩ = some (.int .i64 X.time) := (unhide HO7).cell rfl
         have e1 : w7.cell? ⟨g5, 1, none⟩ = some (.int .i64 X.fresh) := (unhide HO7).cell rfl
         have e2 : w7.cell? ⟨g5, 2, none⟩ = some (.slice ak5 X.known.length ck5) := (unhide HO7).cell rfl
         have e3 : w7.cell? ⟨g5, 3, none⟩ = some (.slice ac5 X.cache.length cc5) := (unhide HO7).cell rfl
         have e4 : w7.cell? ⟨g5, 4, none⟩ = some (.slice ah5 X.hosts.length ch5) := (unhide HO7).cell rfl
         have e5 : w7.cell? ⟨g5, 5, none⟩ = some (.slice al5 X.letters.length cl5) := (unhide HO7).cell rfl
         have e6 : w7.cell? ⟨g5, 6, none⟩ = some (.string X.book) := (unhide HO7).cell rfl
         have e7 : w7.cell? ⟨g5, 7, none⟩ = some (.int .i64 X.sure) := (unhide HO7).cell rfl
         have e8 : w7.cell? ⟨g5, 8, none⟩ = some (.slice aa5 X.calls.length ca5) := (unhide HO7).cell rfl
         have e9 : w7.cell? ⟨g5, 9, none⟩ = some (.slice az5 X.talks.length cz5) := (unhide HO7).cell rfl
         have e10 : w7.cell? ⟨g5, 10, none⟩ = some (.slice ai5 X.told.length ci5) := (unhide HO7).cell rfl
         clear hx7 hb7 hb7')
      | (go_at_call 8
         refine (unhide h8 _ _ _ (unhide HN7) (unhide HM7)).mono ?_
         rintro e w8 ⟨rfl, hb8⟩
         have HB8 := hide (btG (unhide HB7) hb8)))
    all_goals
      go_wp2_with fail
      go_ret
      exact ⟨rfl, unhide HB8⟩
  · rw [szv_no (by omega)] at h4
    clear hw ht he
    go_enter Tryz.func3, Tryz.ntmps3
    go_wp2_with (refine wpList_load_box rfl _ rfl w.heap.size 0 [.int .i64 X.time, .int .i64 X.fresh, .slice ak X.known.length ck, .slice ac X.cache.length cc, .slice ah X.hosts.length ch, .slice al X.letters.length cl, .string X.book, .int .i64 X.sure, .slice aa X.calls.length ca, .slice az X.talks.length cz, .slice ai X.told.length ci] (unhide HX) (fun j v hj => (by rw [Nat.zero_add]; exact hj)) rfl Tryz.underlying30 rfl infoWL ?_)
    refine (unhide h4 _ (unhide HW0)).mono ?_
    rintro e w2 ⟨rfl, hb2⟩
    have HB2 := hide (btG (unhide HB0) hb2)
    clear hb2
    go_wp2_with fail
    go_ret
    exact ⟨rfl, unhide HB2⟩

end Go.Proofs.YtbbidjckplpaiaaGreatDoor
