
/- The walk of the method inOrder of what is known: the facts in a row of their own, by their places. The walk of the method learn of knowledge: the term is put into both maps, or into none. The walk of the method partsOf of knowledge: what a term gives, and whether it gives it by now. What is known and what of it is whole, as rows of facts; what is left to be walked. What is known by impl: both maps, and the terms that they speak of; the method learn on it. What holds in the middle of the walk of takeApart, and how it goes on. -/
import Derived.Test.YteminklafghgpaaGreatDoorIo
import Derived.Test.YteminklafghgpaaGreatDoorFb
import Derived.Test.YteminklafghgpaaGreatDoorMa
import Derived.Test.YteminklafghgpaaGreatDoorPc
import Derived.Deep.RegionHeld3
import Derived.Deep.RegionHeld
import Derived.Deep.RegionWith
namespace Go.Proofs.YteminklafghgpaaGreatDoor
open Go.RowKit Go.Deep Go.Maps Go.MapKept Go.Shelf

/-- The parts of a value that reads as a fact. -/
structure F8 where
  s : ByteArray
  o : Int
  n : Int
  s' : ByteArray
  a : Option Addr
  l : Nat
  c : Nat
  p : Int
def mkV (x : F8) : Value := .agg #[.string x.s, .int .i64 x.o, .int .i64 x.n, .string x.s', .slice x.a x.l x.c, .int .i64 x.p]
def f8 (p : Nat × Fc) : F8 := ⟨⟨(exT p.2.t).toArray⟩, p.2.op, p.2.n, p.2.s, p.2.a, p.2.len, p.2.cap, p.1⟩
theorem mkV_f8 (p : Nat × Fc) : mkV (f8 p) = fv p := rfl
theorem mkV_inj {x y : F8} (h : mkV x = mkV y) : x = y := by
  cases x; cases y
  simp only [mkV, Value.agg.injEq, Array.mk.injEq, List.cons.injEq, Value.string.injEq, Value.int.injEq, Value.slice.injEq, true_and, and_true] at h
  obtain ⟨rfl, rfl, rfl, rfl, ⟨rfl, rfl, rfl⟩, rfl⟩ := h
  rfl
theorem elemV_mkV {v : Value} {z : DataW Value × List MemPlace} (h : elemV v = some z) : ∃ c, v = mkV c := by
  obtain ⟨s, o, n, s', a, l, c, p, rfl⟩ := elemV_inv h
  exact ⟨⟨s, o, n, s', a, l, c, p⟩, rfl⟩
theorem keyS {key : Value} {kl : Lit} (h : keyOf Tryz.prog 9 key = some kl) : ∃ x : ByteArray, key = .string x ∧ kl = .string x.data.toList := by
  obtain ⟨x, h1, h2, _⟩ := WideMaps.string_of_keyOf Tryz.underlying9 h
  exact ⟨x, h1, h2⟩

/-- Which keys are still to come, when the facts C have come. -/
def leftK (D : DataW Value) (C : List (Nat × Fc)) (kl : Lit) : Bool := Maps.has D kl && !(C.any fun p => kl.sameKey (.string (exT p.2.t)))

theorem leftK_start (D : DataW Value) : Maps.has D = leftK D [] := by funext z; simp [leftK]
theorem leftK_step (D : DataW Value) (C : List (Nat × Fc)) (p : Nat × Fc) : (fun z => leftK D C z && !z.sameKey (.string (exT p.2.t))) = leftK D (C ++ [p]) := by
  funext z
  simp only [leftK, List.any_append, List.any_cons, List.any_nil, Bool.or_false]
  cases Maps.has D z <;> cases (C.any fun p => z.sameKey (.string (exT p.2.t))) <;> cases z.sameKey (.string (exT p.2.t)) <;> rfl

theorem FRw.obj {B : Nat} {C : List (Nat × Fc)} {v : Value} {w : World} (h : FRw B C v w) {g : Nat} (hv : v.ownBlock = some g) : ∃ cur, w.heap[g]? = some (.cells cur 46 (0, 0)) := by
  rcases h.2 with ⟨h1, _⟩ | ⟨g', cap, cur, h1, _, h3, _⟩
  · rw [h1] at hv; simp [Value.ownBlock] at hv
  · rw [h1] at hv
    simp only [Value.ownBlock, Option.some.injEq] at hv
    subst hv
    exact ⟨cur, h3⟩
theorem FRw.ne_map {B : Nat} {C : List (Nat × Fc)} {v : Value} {w : World} (h : FRw B C v w) {b : Nat} {es : Array MapEntry} {cl : Nat} (hb : w.heap[b]? = some (.map es cl)) : some b ≠ v.ownBlock := fun e => by
  obtain ⟨cur, hc⟩ := h.obj e.symm
  rw [hb] at hc
  cases hc
theorem FRw.ne_iter {B : Nat} {C : List (Nat × Fc)} {v : Value} {w : World} (h : FRw B C v w) {b r n cnt : Nat} {D : DataW Value} {left : Lit → Bool} (hr : w.ranges Tryz.prog 9 elemV b r n D left cnt) : some r ≠ v.ownBlock := fun e => by
  obtain ⟨cur, hc⟩ := h.obj e.symm
  obtain ⟨es, clock, since, seen, c0, _, _, _, _, hi, _⟩ := hr
  rw [hi] at hc
  cases hc
theorem FRw.ne_rmap {B : Nat} {C : List (Nat × Fc)} {v : Value} {w : World} (h : FRw B C v w) {b r n cnt : Nat} {D : DataW Value} {left : Lit → Bool} (hr : w.ranges Tryz.prog 9 elemV b r n D left cnt) : some b ≠ v.ownBlock := by
  obtain ⟨es, clock, since, seen, c0, hb, _⟩ := hr
  exact h.ne_map hb
theorem own_ne {v : Value} {r : Nat} (h : some r ≠ v.ownBlock) : v.ownBlock = none ∨ v.ownBlock ≠ some r := Or.inr fun e => h e.symm
theorem FRw.own_ge {B : Nat} {C : List (Nat × Fc)} {v : Value} {w : World} (h : FRw B C v w) : ∀ g, v.ownBlock = some g → B ≤ g := fun g hg => (World.ownsRow.lt h g hg).1

theorem abF {w : World} (x : Obj) : Below w.heap.size w (w.alloc x) := (Below.refl _ _).alloc (Nat.le_refl _) _
theorem box_fcells (w : World) (p : Nat × Fc) : (w.alloc (.cells #[.string ⟨(exT p.2.t).toArray⟩, .int .i64 p.2.op, .int .i64 p.2.n, .string p.2.s, .slice p.2.a p.2.len p.2.cap, .int .i64 p.1] 46)).rangeAt w.heap.size 0 (fcells p) := fun j v hj => by
  rw [Nat.zero_add]
  exact box_cell w _ 46 j v (by rw [← Array.getElem?_toList]; exact hj)

/-- What has come: facts of E, no text twice; which keys are still to come. -/
structure Come (E C : List (Nat × Fc)) (cnt : Nat) : Prop where
  sub : ∀ p ∈ C, p ∈ E
  apart : C.Pairwise fun p q => exT p.2.t ≠ exT q.2.t
  len : C.length + cnt ≤ E.length
theorem Come.step {E C : List (Nat × Fc)} {cnt cnt' : Nat} {D : DataW Value} {p : Nat × Fc} (h : Come E C cnt) (hp : p ∈ E) (hl : leftK D C (.string (exT p.2.t)) = true) (hc : cnt' < cnt) : Come E (C ++ [p]) cnt' := by
  refine ⟨fun q hq => ?_, ?_, by have := h.len; simp; omega⟩
  · rcases List.mem_append.1 hq with hq | hq
    · exact h.sub q hq
    · rw [List.mem_singleton.1 hq]; exact hp
  · rw [List.pairwise_append]
    refine ⟨h.apart, by simp, fun q hq r hr => ?_⟩
    rw [List.mem_singleton.1 hr]
    intro e
    simp only [leftK, Bool.and_eq_true, Bool.not_eq_true', List.any_eq_false] at hl
    exact hl.2 q hq (by rw [e]; exact WideAt.sameKey_self trivial)
theorem Come.done {E C : List (Nat × Fc)} {cnt : Nat} {D : DataW Value} (h : Come E C cnt) (hE : Asc E) (hf : ∀ l, Maps.has D (.string l) = fE E l) (hl : ∀ kl, leftK D C kl = false) : C.Nodup ∧ ∀ p, p ∈ C ↔ p ∈ E := by
  refine ⟨h.apart.imp (fun {p q} hne e => hne (by rw [e])), fun p => ⟨h.sub p, fun hp => ?_⟩⟩
  have h1 := hl (.string (exT p.2.t))
  simp only [leftK, hf, fE_mem hp, Bool.true_and, Bool.not_eq_false', List.any_eq_true] at h1
  obtain ⟨q, hq, hk⟩ := h1
  have he : exT p.2.t = exT q.2.t := by
    have := WideAt.sameKey_eq hk
    injection this
  have hqE := h.sub q hq
  have : p = q := by
    obtain ⟨x, hx, ex⟩ := List.mem_iff_getElem.1 hp
    obtain ⟨y, hy, ey⟩ := List.mem_iff_getElem.1 hqE
    rw [← ex, ← ey] at he ⊢
    rcases Nat.lt_trichotomy x y with r | r | r
    · exact absurd he (List.pairwise_iff_getElem.1 hE x y hx hy r).2
    · subst r; rfl
    · exact absurd he.symm (List.pairwise_iff_getElem.1 hE y x hy hx r).2
  rw [this]
  exact hq

set_option maxRecDepth 100000 in
/-- The range's step over facts. -/
theorem wpList_next_facts {E C : List (Nat × Fc)} {D : DataW Value} (w : World) {ops : Array Oper} {rest : List Oper} {o : Oper} {a : Act} {Q : Exit → Act → World → Prop} (hg : o.guard = none) (it : Operand) (hop : o.op = Op.next it false)
    (hf : ∀ l, Maps.has D (.string l) = fE E l) (ha : ∀ p ∈ E, ∀ zd, D.atKey (.string (exT p.2.t)) zd = .held (fv p)) (b r n cnt : Nat) (hit : a.eval it = .pointer (some ⟨r, 0, none⟩)) (h : w.ranges Tryz.prog 9 elemV b r n D (leftK D C) cnt)
    (hDone : cnt = 0 → Hid (∀ kl, leftK D C kl = false) → wpList Tryz.prog ops Q rest (a.put o.dst (.tuple #[.bool false])) w)
    (hMore : ∀ (t : Tm) (j : Nat) (op m : Int) (s : ByteArray) (ad : Option Addr) (l c : Nat) (w' : World) (cnt' : Nat), Hid ((j, ⟨t, op, m, s, ad, l, c⟩) ∈ E) → Hid (leftK D C (.string (exT t)) = true) → Hid (w'.ranges Tryz.prog 9 elemV b r n D (leftK D (C ++ [(j, ⟨t, op, m, s, ad, l, c⟩)])) cnt') → Hid (cnt' < cnt) → Hid (w.grownBy w' (some r)) → w'.heap.size = w.heap.size →
      (Instr.entry (.pointer (some ⟨r, 0, none⟩))).run Tryz.prog w' = .ok (.tuple #[.string ⟨(exT t).toArray⟩, .agg #[.string ⟨(exT t).toArray⟩, .int .i64 op, .int .i64 m, .string s, .slice ad l c, .int .i64 j]]) w' →
      wpList Tryz.prog ops Q rest (a.put o.dst (.tuple #[.bool true, .string ⟨(exT t).toArray⟩, .agg #[.string ⟨(exT t).toArray⟩, .int .i64 op, .int .i64 m, .string s, .slice ad l c, .int .i64 j]])) w') :
    wpList Tryz.prog ops Q (o :: rest) a w :=
  wpList_next_ranges w hg it hop 9 law elemV (fun x : ByteArray => Value.string x) mkV (fun key kl hk => (keyS hk).imp fun x h => h.1) (fun v y hv => elemV_mkV hv) b r n D _ _ hit h (fun h0 hl => hDone h0 hl) (fun x c kl y w' cnt' hkey hlk hv hat hrg hlt hgr hsz hen => by
    obtain ⟨x', ex, rfl⟩ := keyS hkey
    cases ex
    have hhas : fE E x.data.toList = true := by
      rw [← hf]
      simp only [leftK, Bool.and_eq_true] at hlk
      exact hlk.1
    obtain ⟨p, hpE, hpx⟩ := List.any_eq_true.1 hhas
    have hpx := of_decide_eq_true hpx
    obtain rfl : x = ⟨(exT p.2.t).toArray⟩ := by rw [hpx]
    have ex : (⟨(exT p.2.t).toArray⟩ : ByteArray).data.toList = exT p.2.t := by simp
    rw [ex] at hlk hat hrg
    obtain rfl : c = f8 p := by
      have e1 := ha p hpE .nil
      rw [hat, elemV_held hv] at e1
      injection e1 with e1
      exact mkV_inj e1
    rw [leftK_step] at hrg
    exact hMore p.2.t p.1 p.2.op p.2.n p.2.s p.2.a p.2.len p.2.cap w' cnt' hpE hlk hrg hlt hgr hsz hen)

set_option maxRecDepth 100000 in
set_option maxHeartbeats 2000000 in
theorem order_calls (b : Nat) (E : List (Nat × Fc)) (w : World) (hm : KMap w b E) (hE : Asc E) (hn : E.length ≤ 300) :
    Calls Tryz.prog 23 #[.map (some b)] w fun e w' => ∃ v, e = .returned v ∧ FRw w.heap.size E v w' ∧ Below w.heap.size w w' := by
  obtain ⟨D, hD, hf, ha, hs⟩ := hm
  have HF := hide hf
  have HA := hide ha
  have HE := hide hE
  have hbw := hD.lt
  clear hf ha hE
  go_enter Tryz.func23, Tryz.ntmps23
  go_wp2_with (first
    | (at_range; refine wpList_range_own _ rfl _ 42 rfl 9 46 law Tryz.underlying42 _ b E.length _ rfl hD ?_; intro w0 hrg0 hg0 hs0)
    | go_in)
  have hrg1 : w0.ranges Tryz.prog 9 elemV b w.heap.size E.length D (leftK D []) (Maps.size D) := by rw [← leftK_start]; exact hrg0
  have hb00 : Below w.heap.size w w0 := (Below.refl _ w).grown hg0 (Nat.le_refl _) (fun j hj => by cases hj)
  clear hrg0 hg0
  go_frame
  go_loopw [3] (fun v wr => ∃ (C : List (Nat × Fc)) (cnt : Nat), wr.ranges Tryz.prog 9 elemV b w.heap.size E.length D (leftK D C) cnt ∧ FRw w.heap.size C v wr ∧ Hid (Come E C cnt) ∧ Hid (Below w.heap.size w wr)) (fun _ wr => wr.rangeLeft b w.heap.size)
  case atStart =>
    refine ⟨[], Maps.size D, hrg1, FRw.nil _ _, ⟨fun p hp => (by cases hp), List.Pairwise.nil, by simp; omega⟩, hb00⟩
  case round =>
    obtain ⟨C, cnt, hrg, hrow, HC, HB⟩ := hrel
    go_wp2_with (first
      | (at_next; refine wpList_next_facts _ rfl _ rfl (unhide HF) (unhide HA) b w.heap.size E.length cnt rfl hrg ?_ ?_)
      | go_in)
    · intro hc0 hl0
      obtain ⟨hnd, hmem⟩ := (unhide HC).done (unhide HE) (unhide HF) (unhide hl0)
      have hC3 : C.length ≤ 300 := by have := (unhide HC).len; omega
      have hsort := sort_row hrow (by omega) ((unhide HE).imp fun h => h.1) hnd hmem
      have HS := hide hsort
      have HOG := hide (FRw.own_ge hrow)
      clear hrg hrow hsort
      go_wp2_with (go_at_call 36; refine (unhide HS).mono ?_; rintro e w' ⟨rfl, hr2, hg2⟩)
      go_ret
      exact ⟨_, rfl, hr2, (unhide HB).grown hg2 (unhide HB).size (unhide HOG)⟩
    · intro t j op m s ad l c w1 cnt1 HpE Hlk Hrg1 Hlt Hg1 hs1 hen
      have hm0 := hrg.left_eq
      have hri := hrow.ne_iter hrg
      have hrow1 := hrow.kept (unhide Hg1) (own_ne hri)
      have HC1 := hide ((unhide HC).step (unhide HpE) (unhide Hlk) (unhide Hlt))
      have HB1 := hide ((unhide HB).grown (unhide Hg1) (unhide HB).size (fun j hj => by cases hj; exact Nat.le_refl _))
      have hC3 : C.length ≤ 300 := by have := (unhide HC).len; omega
      have ab1 := abF (w := w1) (.cells #[.string ⟨(exT t).toArray⟩, .int .i64 op, .int .i64 m, .string s, .slice ad l c, .int .i64 j] 46)
      have ab2 := abF (w := w1.alloc (.cells #[.string ⟨(exT t).toArray⟩, .int .i64 op, .int .i64 m, .string s, .slice ad l c, .int .i64 j] 46)) (.cells #[.string ⟨(exT t).toArray⟩, .int .i64 op, .int .i64 m, .string s, .slice ad l c, .int .i64 j] 46)
      have HRG2 := hide (((unhide Hrg1).alloc (.cells #[.string ⟨(exT t).toArray⟩, .int .i64 op, .int .i64 m, .string s, .slice ad l c, .int .i64 j] 46)).alloc (.cells #[.string ⟨(exT t).toArray⟩, .int .i64 op, .int .i64 m, .string s, .slice ad l c, .int .i64 j] 46))
      have hrow3 := (hrow1.low ab1).low ab2
      have HN1 := hide (hrow3.ne_rmap (unhide HRG2))
      have HN2 := hide (hrow3.ne_iter (unhide HRG2))
      have HOG := hide (FRw.own_ge hrow3)
      have HB3 := hide (((unhide HB1).trans (ab1.mono (unhide HB1).size)).trans (ab2.mono (by have := (unhide HB1).size; simp; omega)))
      have hr2 := box_fcells (w1.alloc (.cells #[.string ⟨(exT t).toArray⟩, .int .i64 op, .int .i64 m, .string s, .slice ad l c, .int .i64 j] 46)) (j, ⟨t, op, m, s, ad, l, c⟩)
      rw [heap_size_alloc] at hr2
      have HP := hide (hrow3.push (j, ⟨t, op, m, s, ad, l, c⟩) hr2 1 (by omega) (unhide HB3).size 50)
      have HM0 := hide hm0
      clear hrg hrow Hg1 Hlk HpE hs1 hrow1 hrow3 hr2 ab1 ab2 hri hm0
      go_wp2_with (at_builtin; refine wpList_append_run rfl _ _ 50 rfl u3 (.slice (some ⟨w1.heap.size + 1, 0, none⟩) 1 1) rfl rfl (fun v' w' => FRw w.heap.size (C ++ [(j, ⟨t, op, m, s, ad, l, c⟩)]) v' w' ∧ ((w1.alloc (.cells #[.string ⟨(exT t).toArray⟩, .int .i64 op, .int .i64 m, .string s, .slice ad l c, .int .i64 j] 46)).alloc (.cells #[.string ⟨(exT t).toArray⟩, .int .i64 op, .int .i64 m, .string s, .slice ad l c, .int .i64 j] 46)).grownBy w' u3.ownBlock) (unhide HP) ?_; rintro v5 w5 ⟨k1, k2⟩; have HK1 := hide k1; have HK2 := hide k2; clear k1 k2)
      refine ⟨⟨_, cnt1, (unhide HRG2).kept (unhide HK2) (unhide HN1) (unhide HN2), unhide HK1, unhide HC1, (unhide HB3).grown (unhide HK2) (unhide HB3).size (unhide HOG)⟩, ?_⟩
      rw [((unhide HRG2).kept (unhide HK2) (unhide HN1) (unhide HN2)).left_eq, unhide HM0]
      exact unhide Hlt

theorem ab3 (w : World) (x y z : Obj) : Below w.heap.size w (((w.alloc x).alloc y).alloc z) := below_alloc3 w x y z

set_option maxRecDepth 100000 in
set_option maxHeartbeats 2000000 in
theorem learn_no (bk bw : Nat) (E : List (Nat × Fc)) (t : Tm) (op n : Int) (s : ByteArray) (a : Option Addr) (len cap : Nat) (w : World) (hk : KMap w bk E) (hl : Lies w 0 t (tmCells op n s a len cap)) (hr : rightT t = true) (hz : t.size ≤ 400) (ht : Tab w) (hE : E.length ≤ 300) (hno : (decide (300 ≤ E.length) || fE E (exT t)) = true) :
    Calls Tryz.prog 21 #[.agg #[.map (some bk), .map (some bw)], .agg #[.int .i64 op, .int .i64 n, .string s, .slice a len cap]] w fun e w' => e = .returned (.tuple #[.agg #[.string ByteArray.empty, .int .i64 0, .int .i64 0, .string ByteArray.empty, .slice none 0 0, .int .i64 0], .bool false]) ∧ Below w.heap.size w w' := by
  have h45 : ∀ v, Below w.heap.size w v → Calls Tryz.prog 34 #[.map (some bk), .agg #[.int .i64 op, .int .i64 n, .string s, .slice a len cap], .int .i64 300] v fun e w' => e = .returned (.tuple #[.agg #[.string ByteArray.empty, .int .i64 0, .int .i64 0, .string ByteArray.empty, .slice none 0 0, .int .i64 0], .bool false]) ∧ Below v.heap.size v w' := fun v hb => by
    cases hth : fE E (exT t) with
    | true => exact addK_there bk E t op n s a len cap v (hk.low hb) (hl.below hb) hr hz (ht.on hb) hth
    | false =>
      rw [hth, Bool.or_false] at hno
      exact addK_full bk E t op n s a len cap v (hk.low hb) (hl.below hb) hr hz (ht.on hb) hth (of_decide_eq_true hno) hE
  have H45 := hide h45
  have hb0 : Below w.heap.size w (((w.alloc (.cells #[.map (some bk), .map (some bw)] 44)).alloc (.cells #[.int .i64 op, .int .i64 n, .string s, .slice a len cap] 35)).alloc (.cells #[.string ByteArray.empty, .int .i64 0, .int .i64 0, .string ByteArray.empty, .slice none 0 0, .int .i64 0] 46)) := ab3 _ _ _ _
  have HB0 := hide hb0
  have HZ : Hid (FBox (((w.alloc (.cells #[.map (some bk), .map (some bw)] 44)).alloc (.cells #[.int .i64 op, .int .i64 n, .string s, .slice a len cap] 35)).alloc (.cells #[.string ByteArray.empty, .int .i64 0, .int .i64 0, .string ByteArray.empty, .slice none 0 0, .int .i64 0] 46)) (w.heap.size + 1 + 1)) := by
    have := FBox.new ((w.alloc (.cells #[.map (some bk), .map (some bw)] 44)).alloc (.cells #[.int .i64 op, .int .i64 n, .string s, .slice a len cap] 35))
    rwa [heap_size_alloc, heap_size_alloc] at this
  clear h45 hk hl hr hz ht hno hb0
  go_enter Tryz.func21, Tryz.ntmps21
  go_wp2_with fail
  refine (unhide H45 _ (unhide HB0)).mono ?_
  rintro e w2 ⟨rfl, hb2⟩
  have HB2 := hide ((unhide HB0).trans (hb2.mono (unhide HB0).size))
  have HZ2 := hide ((unhide HZ).below hb2)
  have lz : w.heap.size + 1 + 1 < w2.heap.size := lt_of_heap (unhide HZ2)
  have nz := Nat.ne_of_lt lz
  have mz := Ne.symm nz
  obtain ⟨p0, p1, p2, p3, p4, p5, q0, q1, q2, q3, q4, q5⟩ := (unhide HZ2).facts
  clear hb2 HB0 HZ H45
  go_wp2_with fail
  have hF : FRow _ (w.heap.size + 1 + 1) (.string ByteArray.empty) (.int .i64 0) (.int .i64 0) (.string ByteArray.empty) (.slice none 0 0) (.int .i64 0) := (unhide HZ2).fill (.string ByteArray.empty) (.int .i64 0) (.int .i64 0) (.string ByteArray.empty) (.slice none 0 0) (.int .i64 0)
  have hS := set6_below (g := w.heap.size + 1 + 1) (x0 := .string ByteArray.empty) (x1 := .int .i64 0) (x2 := .int .i64 0) (x3 := .string ByteArray.empty) (x4 := .slice none 0 0) (x5 := .int .i64 0) (unhide HB2) (by omega)
  obtain ⟨f0, f1, f2, f3, f4, f5⟩ := (hF.below (abD (.cells #[.string ByteArray.empty, .int .i64 0, .int .i64 0, .string ByteArray.empty, .slice none 0 0, .int .i64 0] 46))).cells
  exact bodyPost_ret (v := .tuple #[.agg #[.string ByteArray.empty, .int .i64 0, .int .i64 0, .string ByteArray.empty, .slice none 0 0, .int .i64 0], .bool false]) (by simp [results, Tryz.results21, go_sem, f0, f1, f2, f3, f4, f5]; try rfl) rfl ⟨rfl, hS.alloc hS.size _⟩

theorem set6_heap {v : World} {g b : Nat} {x0 x1 x2 x3 x4 x5 : Value} (h : b ≠ g) : ((((((v.setCell ⟨g, 0, none⟩ x0).setCell ⟨g, 1, none⟩ x1).setCell ⟨g, 2, none⟩ x2).setCell ⟨g, 3, none⟩ x3).setCell ⟨g, 4, none⟩ x4).setCell ⟨g, 5, none⟩ x5).heap[b]? = v.heap[b]? := by
  rw [Below.heap_setCell _ _ _ _ h, Below.heap_setCell _ _ _ _ h, Below.heap_setCell _ _ _ _ h, Below.heap_setCell _ _ _ _ h, Below.heap_setCell _ _ _ _ h, Below.heap_setCell _ _ _ _ h]

/-- Nothing that was there is written but two blocks. -/
structure Two (w w' : World) (bk bw : Nat) : Prop where
  os : w'.os = w.os
  tape : w'.tape = w.tape
  output : w'.output = w.output
  size : w.heap.size ≤ w'.heap.size
  block : ∀ k, k < w.heap.size → k ≠ bk → k ≠ bw → w'.heap[k]? = w.heap[k]?
theorem Two.refl (w : World) (bk bw : Nat) : Two w w bk bw := ⟨rfl, rfl, rfl, Nat.le_refl _, fun _ _ _ _ => rfl⟩
theorem Two.trans {w v u : World} {bk bw : Nat} (h : Two w v bk bw) (k : Two v u bk bw) : Two w u bk bw :=
  ⟨k.os.trans h.os, k.tape.trans h.tape, k.output.trans h.output, Nat.le_trans h.size k.size, fun i hi h1 h2 => (k.block i (Nat.lt_of_lt_of_le hi h.size) h1 h2).trans (h.block i hi h1 h2)⟩
theorem Two.low {w v : World} {bk bw : Nat} (h : Below w.heap.size w v) : Two w v bk bw := ⟨h.os, h.tape, h.output, h.size, fun i hi _ _ => h.block i hi⟩
theorem Two.k {w v : World} {bk bw : Nat} (h : w.grownBy v (some bk)) : Two w v bk bw := ⟨h.os, h.tape, h.output, h.size, fun i hi h1 _ => h.block i hi (by simp [h1])⟩
theorem Two.w {w v : World} {bk bw : Nat} (h : w.grownBy v (some bw)) : Two w v bk bw := ⟨h.os, h.tape, h.output, h.size, fun i hi _ h2 => h.block i hi (by simp [h2])⟩
theorem Two.below {w0 w v : World} {B bk bw : Nat} (h : Two w v bk bw) (hb : Below B w0 w) (hB : B ≤ w.heap.size) (h1 : B ≤ bk) (h2 : B ≤ bw) : Below B w0 v :=
  hb.trans ⟨h.os, h.tape, h.output, h.size, fun i hi => h.block i (by omega) (by omega) (by omega)⟩
theorem Two.set {w v : World} {bk bw g o : Nat} (h : Two w v bk bw) (hg : w.heap.size ≤ g) (x : Value) : Two w (v.setCell ⟨g, o, none⟩ x) bk bw :=
  ⟨h.os, h.tape, h.output, by simpa using h.size, fun i hi h1 h2 => by rw [Below.heap_setCell _ _ _ _ (by show i ≠ g; omega)]; exact h.block i hi h1 h2⟩

set_option maxRecDepth 100000 in
set_option maxHeartbeats 2000000 in
theorem learn_yes (bk bw : Nat) (E F : List (Nat × Fc)) (t : Tm) (op n : Int) (s : ByteArray) (a : Option Addr) (len cap : Nat) (w : World) (hk : KMap w bk E) (hw : KMap w bw F) (hne : bk ≠ bw) (hl : Lies w 0 t (tmCells op n s a len cap)) (hr : rightT t = true) (hz : t.size ≤ 400) (ht : Tab w) (hE : E.length < 300) (hF : F.length ≤ 300) (hno : fE E (exT t) = false) (hnw : fE F (exT t) = false) :
    Calls Tryz.prog 21 #[.agg #[.map (some bk), .map (some bw)], .agg #[.int .i64 op, .int .i64 n, .string s, .slice a len cap]] w fun e w' => e = .returned (.tuple #[fv (E.length, ⟨t, op, n, s, a, len, cap⟩), .bool true]) ∧ KMap w' bk (E ++ [(E.length, ⟨t, op, n, s, a, len, cap⟩)]) ∧ KMap w' bw (F ++ [(E.length, ⟨t, op, n, s, a, len, cap⟩)]) ∧ Two w w' bk bw := by
  have hb0 : Below w.heap.size w (((w.alloc (.cells #[.map (some bk), .map (some bw)] 44)).alloc (.cells #[.int .i64 op, .int .i64 n, .string s, .slice a len cap] 35)).alloc (.cells #[.string ByteArray.empty, .int .i64 0, .int .i64 0, .string ByteArray.empty, .slice none 0 0, .int .i64 0] 46)) := ab3 _ _ _ _
  have h45 := addK_new bk E t op n s a len cap _ (hk.low hb0) (hl.below hb0) hr hz (ht.on hb0) hno hE
  have H45 := hide h45
  have hx := exT_le t hr
  have HK := hide (key_mk (exT t) (by omega))
  have HB0 := hide hb0
  have HZ : Hid (FBox (((w.alloc (.cells #[.map (some bk), .map (some bw)] 44)).alloc (.cells #[.int .i64 op, .int .i64 n, .string s, .slice a len cap] 35)).alloc (.cells #[.string ByteArray.empty, .int .i64 0, .int .i64 0, .string ByteArray.empty, .slice none 0 0, .int .i64 0] 46)) (w.heap.size + 1 + 1)) := by
    have := FBox.new ((w.alloc (.cells #[.map (some bk), .map (some bw)] 44)).alloc (.cells #[.int .i64 op, .int .i64 n, .string s, .slice a len cap] 35))
    rwa [heap_size_alloc, heap_size_alloc] at this
  have HKB : Hid ((((w.alloc (.cells #[.map (some bk), .map (some bw)] 44)).alloc (.cells #[.int .i64 op, .int .i64 n, .string s, .slice a len cap] 35)).alloc (.cells #[.string ByteArray.empty, .int .i64 0, .int .i64 0, .string ByteArray.empty, .slice none 0 0, .int .i64 0] 46)).heap[w.heap.size]? = some (.cells #[.map (some bk), .map (some bw)] 44 (0, 0))) := by
    have h1 := heap_alloc_new w (.cells #[.map (some bk), .map (some bw)] 44)
    have h2 := (abD (w := w.alloc (.cells #[.map (some bk), .map (some bw)] 44)) (.cells #[.int .i64 op, .int .i64 n, .string s, .slice a len cap] 35)).block w.heap.size (by simp)
    have h3 := (abD (w := (w.alloc (.cells #[.map (some bk), .map (some bw)] 44)).alloc (.cells #[.int .i64 op, .int .i64 n, .string s, .slice a len cap] 35)) (.cells #[.string ByteArray.empty, .int .i64 0, .int .i64 0, .string ByteArray.empty, .slice none 0 0, .int .i64 0] 46)).block w.heap.size (by simp; omega)
    exact (h3.trans h2).trans h1
  have lk := hk.lt
  have lw := hw.lt
  have HW0 := hide (hw.low hb0)
  have HNW := hide hnw
  have HFV : Hid (fv (E.length, ⟨t, op, n, s, a, len, cap⟩) = .agg #[.string ⟨(exT t).toArray⟩, .int .i64 op, .int .i64 n, .string s, .slice a len cap, .int .i64 (E.length : Nat)]) := rfl
  clear h45 hk hl hr hz ht hno hb0 hw hx hnw
  go_enter Tryz.func21, Tryz.ntmps21
  go_wp2_with fail
  refine (unhide H45).mono ?_
  rintro e w2 ⟨he, hK2, hg2⟩
  rw [unhide HFV] at he
  subst he
  have HK2 := hide hK2
  have HW2 := hide ((unhide HW0).kept hg2 (Ne.symm hne))
  have HT2 := hide ((Two.low (bk := bk) (bw := bw) (unhide HB0)).trans (Two.k hg2))
  have HZ2 : Hid (FBox w2 (w.heap.size + 1 + 1)) := (hg2.block _ (by simp; try omega) (by simp; try omega)).trans (unhide HZ)
  have hkb := (hg2.block w.heap.size (by simp; try omega) (by simp; try omega)).trans (unhide HKB)
  have HKB2 := hide hkb
  have d0 := cell_of_row hkb (j := 0) (by simp)
  have d1 := cell_of_row hkb (j := 1) (by simp)
  simp only [List.getElem_toArray, List.getElem_cons_zero, List.getElem_cons_succ] at d0 d1
  have lz : w.heap.size + 1 + 1 < w2.heap.size := lt_of_heap (unhide HZ2)
  have nz := Nat.ne_of_lt lz
  have mz := Ne.symm nz
  have l0 : w.heap.size < w2.heap.size := by omega
  have n0 := Nat.ne_of_lt l0
  have m0 := Ne.symm n0
  obtain ⟨p0, p1, p2, p3, p4, p5, q0, q1, q2, q3, q4, q5⟩ := (unhide HZ2).facts
  obtain ⟨D, hD, hDf, hDa, hDs⟩ := unhide HW2
  have HD := hide hD
  have HPUT : Hid (∀ {W : World}, W.ownsMap Tryz.prog 9 elemV bw (F.length + 1) (D.put (.string (exT t)) (.held (.agg #[.string ⟨(exT t).toArray⟩, .int .i64 op, .int .i64 n, .string s, .slice a len cap, .int .i64 (E.length : Nat)]))) → KMap W bw (F ++ [(E.length, ⟨t, op, n, s, a, len, cap⟩)])) := fun {W} h => KMap.put (E.length, ⟨t, op, n, s, a, len, cap⟩) hD hDf hDa hDs (unhide HNW) h
  clear hK2 hg2 HB0 HZ H45 hkb HKB HW0 hD hDf hDa hDs HW2
  go_wp2_with (at_mapUpdate; refine wpList_mapUpdate_own _ rfl _ _ _ 42 rfl 9 46 law Tryz.underlying42 elemV bw F.length D rfl ((unhide HD).alloc _) (by unfold maxLen; omega) _ _ _ rfl rfl (unhide HK) (.held (.agg #[.string ⟨(exT t).toArray⟩, .int .i64 op, .int .i64 n, .string s, .slice a len cap, .int .i64 (E.length : Nat)])) [] rfl ?_; intro w3 hown3 hg3; have HG1 : Hid (FRow w3 w2.heap.size (.string ⟨(exT t).toArray⟩) (.int .i64 op) (.int .i64 n) (.string s) (.slice a len cap) (.int .i64 (E.length : Nat))) := (hg3.block w2.heap.size (by simp) (by simp; omega)).trans (heap_alloc_new w2 _); have HZ3 : Hid (FBox w3 (w.heap.size + 1 + 1)) := (hg3.block (w.heap.size + 1 + 1) (by simp; omega) (by simp; omega)).trans ((unhide HZ2).below (abD _)); have HO3 := hide hown3; have HK3 := hide (((unhide HK2).low (abD _)).kept hg3 hne); have HT3 := hide (((unhide HT2).trans (Two.low (abD _))).trans (Two.w hg3)); have l3 : w.heap.size + 1 + 1 < w3.heap.size := lt_of_heap (unhide HZ3); clear hown3 hg3; obtain ⟨j0, j1, j2, j3, j4, j5⟩ := (unhide HG1).cells; obtain ⟨k0, k1, k2, k3, k4, k5, i0, i1, i2, i3, i4, i5⟩ := (unhide HZ3).facts)
  have hF : FRow _ (w.heap.size + 1 + 1) (.string ⟨(exT t).toArray⟩) (.int .i64 op) (.int .i64 n) (.string s) (.slice a len cap) (.int .i64 (E.length : Nat)) := (unhide HZ3).fill (.string ⟨(exT t).toArray⟩) (.int .i64 op) (.int .i64 n) (.string s) (.slice a len cap) (.int .i64 (E.length : Nat))
  obtain ⟨f0, f1, f2, f3, f4, f5⟩ := hF.cells
  have hob : bw ≠ w.heap.size + 1 + 1 := by omega
  have hoc : bk ≠ w.heap.size + 1 + 1 := by omega
  refine bodyPost_ret (v := .tuple #[.agg #[.string ⟨(exT t).toArray⟩, .int .i64 op, .int .i64 n, .string s, .slice a len cap, .int .i64 (E.length : Nat)], .bool true]) (by simp [results, Tryz.results21, go_sem, f0, f1, f2, f3, f4, f5]; try rfl) rfl ⟨rfl, ?_, ?_, ?_⟩
  · exact KMap.block (unhide HK3) (set6_heap hoc)
  · exact KMap.block (unhide HPUT (unhide HO3)) (set6_heap hob)
  · exact (((((Two.set (unhide HT3) (by omega) _).set (by omega) _).set (by omega) _).set (by omega) _).set (by omega) _).set (by omega) _

/-- The terms of a row of facts. -/
def tmE (E : List (Nat × Fc)) : List Tm := E.map fun p => p.2.t
def OkE (E : List (Nat × Fc)) : Prop := ∀ p ∈ E, okT p.2.t = true
theorem fE_fK {E : List (Nat × Fc)} (h : OkE E) (l : List UInt8) : fE E l = fK (tmE E) l := by
  unfold fE fK tmE
  rw [List.any_map]
  apply Bool.eq_iff_iff.2
  simp only [List.any_eq_true, Function.comp]
  constructor
  · rintro ⟨p, hp, hx⟩
    exact ⟨p, hp, by rw [h p hp, Bool.true_and]; exact hx⟩
  · rintro ⟨p, hp, hx⟩
    rw [h p hp, Bool.true_and] at hx
    exact ⟨p, hp, hx⟩
theorem KMap.fk {w : World} {b : Nat} {E : List (Nat × Fc)} (h : KMap w b E) (ho : OkE E) : Facts w b E.length (fK (tmE E)) := by
  obtain ⟨D, hD, hf⟩ := h.facts
  exact ⟨D, hD, fun l => (hf l).trans (fE_fK ho l)⟩

theorem may_else {op n : Int} {s : ByteArray} {ks : List Tm} (h3 : op ≠ 3) (h7 : op ≠ 7) (h8 : op ≠ 8) : mayP (.node op n s ks) = [] := by
  match ks with
  | [] => rfl
  | [_] => rfl
  | [x, y] => simp [mayP, h3, h7, h8]
  | _ :: _ :: _ :: _ => rfl
theorem opn_else (L : List Tm) {op n : Int} {s : ByteArray} {ks : List Tm} (h7 : op ≠ 7) : opnP L (.node op n s ks) = true := by
  match ks with
  | [] => rfl
  | [_] => rfl
  | [x, y] => simp [opnP, h7]
  | _ :: _ :: _ :: _ => rfl

/-- One kid behind another. -/
theorem second {w : World} {b q : Nat} {t : Tm} {op n : Int} {s : ByteArray} {a : Option Addr} {len cap : Nat} (r4 : w.cell? ⟨b, q + 4, none⟩ = some (.int .i64 op)) (r5 : w.cell? ⟨b, q + 5, none⟩ = some (.int .i64 n)) (r6 : w.cell? ⟨b, q + 6, none⟩ = some (.string s)) (r7 : w.cell? ⟨b, q + 7, none⟩ = some (.slice a len cap)) (h : Lies w 0 t (tmCells op n s a len cap)) : LiesAll w 0 (some ⟨b, q + 4, none⟩) 0 [t] := by
  simp only [LiesAll, and_true]
  refine ⟨b, q + 4, _, rfl, Nat.zero_le _, fun j v hj => ?_, h⟩
  have hj4 : j < 4 := (List.getElem?_eq_some_iff.1 hj).1
  simp only [Nat.zero_mul, Nat.add_zero]
  match j, hj4 with
  | 0, _ => simp [tmCells] at hj; subst hj; exact r4
  | 1, _ => simp [tmCells] at hj; subst hj; exact r5
  | 2, _ => simp [tmCells] at hj; subst hj; exact r6
  | 3, _ => simp [tmCells] at hj; subst hj; exact r7

theorem below_some7 {w w' : World} {b o : Nat} {v : Value} (hb : Below w.heap.size w w') (h : w.cell? ⟨b, o, none⟩ = some v) : w'.cell? ⟨b, o, none⟩ = some v := (hb.cell (p := ⟨b, o, none⟩) (lt_of_cell h)).trans h
theorem ok_kid {op n : Int} {s : ByteArray} {ks : List Tm} (h : okT (.node op n s ks) = true) {x : Tm} (hx : x ∈ ks) : okT x = true := by
  unfold okT at *
  rw [Bool.and_eq_true] at *
  have h1 := of_decide_eq_true h.1
  have h2 := Tm.size_mem hx
  simp only [Tm.size] at h1
  refine ⟨decide_eq_true (by omega), ?_⟩
  have h3 := h.2
  simp only [rightT, Bool.and_eq_true] at h3
  have : ∀ (l : List Tm), rightL l = true → x ∈ l → rightT x = true := by
    intro l
    induction l with
    | nil => intro _ h; cases h
    | cons y r ih =>
      intro hr hm
      simp only [rightL, Bool.and_eq_true] at hr
      rcases List.mem_cons.1 hm with rfl | hm
      · exact hr.1
      · exact ih hr.2 hm
  exact this ks h3.2 hx
theorem ab2 (w : World) (x y : Obj) : Below w.heap.size w ((w.alloc x).alloc y) := (abD _).trans ((abD _).mono (abD _).size)

set_option maxRecDepth 100000 in
set_option maxHeartbeats 1000000 in
theorem parts_of (bk bw : Nat) (E : List (Nat × Fc)) (t : Tm) (op n : Int) (s : ByteArray) (a : Option Addr) (len cap : Nat) (w : World) (hk : KMap w bk E) (ho : OkE E) (hl : Lies w 0 t (tmCells op n s a len cap)) (hok : okT t = true) (ht : Tab w) (he : Err w) :
    Calls Tryz.prog 35 #[.agg #[.map (some bk), .map (some bw)], .agg #[.int .i64 op, .int .i64 n, .string s, .slice a len cap]] w fun e w' => (∃ pa pc, e = .returned (.tuple #[.slice pa (mayP t).length pc, .bool (opnP (tmE E) t)]) ∧ ∀ v, Lies v 0 t (tmCells op n s a len cap) → LiesAll v 0 pa 0 (mayP t)) ∧ Below w.heap.size w w' := by
  cases t with
  | node op' n' s' ks =>
  have hx := hl
  simp only [Lies, tmCells, List.cons.injEq, Value.int.injEq, Value.string.injEq, Value.slice.injEq, true_and, and_true] at hx
  obtain ⟨a9, c9, ⟨rfl, rfl, rfl, rfl, rfl, rfl⟩, ⟨_, hcap, hcm⟩, _, hka⟩ := hx
  have hb0 := ab2 w (.cells #[.map (some bk), .map (some bw)] 44) (.cells #[.int .i64 op, .int .i64 n, .string s, .slice a ks.length cap] 35)
  have HB0 := hide hb0
  by_cases h3 : op = 3
  · subst h3
    obtain ⟨k0, k1, rfl⟩ := ok_two (Or.inl rfl) hok
    have HA : Hid (∀ v, Lies v 0 (.node 3 n s [k0, k1]) (tmCells 3 n s a [k0, k1].length cap) → LiesAll v 0 a 0 [k0, k1]) := fun v hv => by
      simp only [Lies, tmCells, List.cons.injEq, Value.slice.injEq, true_and, and_true] at hv
      obtain ⟨a9, c9, ⟨rfl, rfl⟩, _, _, hka⟩ := hv
      exact hka
    clear hl hka hok hk ho ht he hb0
    go_enter Tryz.func35, Tryz.ntmps35
    go_wp2_with fail
    exact bodyPost_ret (v := .tuple #[.slice a 2 cap, .bool true]) (by simp [results, Tryz.results35, go_sem]) rfl ⟨⟨a, cap, by simp [mayP, opnP], fun v hv => by simpa [mayP] using unhide HA v hv⟩, unhide HB0⟩
  · by_cases h8 : op = 8
    · subst h8
      obtain ⟨k0, k1, rfl⟩ := ok_two (Or.inr (Or.inr rfl)) hok
      obtain ⟨-, -, -, -, b, q, op3, n3, s3, a3, len3, cap3, op4, n4, s4, a4, len4, cap4, rfl, _, ⟨r4, r5, r6, r7, hk1⟩⟩ := lies_kids hl
      have HA : Hid (∀ v, Lies v 0 (.node 8 n s [k0, k1]) (tmCells 8 n s (some ⟨b, q, none⟩) [k0, k1].length cap) → LiesAll v 0 (some ⟨b, q + 4, none⟩) 0 [k1]) := fun v hv => by
        obtain ⟨-, -, -, -, b', q', _, _, _, _, _, _, _, _, _, _, _, _, hbq, _, ⟨r4, r5, r6, r7, hk1⟩⟩ := lies_kids hv
        simp only [Option.some.injEq, Addr.mk.injEq, and_true] at hbq
        obtain ⟨rfl, rfl⟩ := hbq
        exact second r4 r5 r6 r7 hk1
      simp only [List.length_cons, List.length_nil] at hcap
      clear hl hka hok hk ho ht he hb0 r4 r5 r6 r7 hk1
      unfold maxLen at hcm
      go_enter Tryz.func35, Tryz.ntmps35
      go_wp2_with fail
      exact bodyPost_ret (v := .tuple #[.slice (some ⟨b, q + 4, none⟩) 1 (cap - 1), .bool true]) (by simp [results, Tryz.results35, go_sem]) rfl ⟨⟨some ⟨b, q + 4, none⟩, cap - 1, by simp [mayP, opnP], fun v hv => by simpa [mayP] using unhide HA v hv⟩, unhide HB0⟩
    · by_cases h7 : op = 7
      · subst h7
        obtain ⟨k0, k1, rfl⟩ := ok_two (Or.inr (Or.inl rfl)) hok
        have hmk := makes_calls (tmE E) bk E.length k0
        obtain ⟨-, -, -, -, b, q, op3, n3, s3, a3, len3, cap3, op4, n4, s4, a4, len4, cap4, rfl, ⟨r0, r1, r2, r3, hk0⟩, ⟨r4, r5, r6, r7, hk1⟩⟩ := lies_kids hl
        have HA : Hid (∀ v, Lies v 0 (.node 7 n s [k0, k1]) (tmCells 7 n s (some ⟨b, q, none⟩) [k0, k1].length cap) → LiesAll v 0 (some ⟨b, q + 4, none⟩) 0 [k1]) := fun v hv => by
          obtain ⟨-, -, -, -, b', q', _, _, _, _, _, _, _, _, _, _, _, _, hbq, _, ⟨r4, r5, r6, r7, hk1⟩⟩ := lies_kids hv
          simp only [Option.some.injEq, Addr.mk.injEq, and_true] at hbq
          obtain ⟨rfl, rfl⟩ := hbq
          exact second r4 r5 r6 r7 hk1
        have hok0 : okT k0 = true := ok_kid hok (by simp)
        have hopn : opnP (tmE E) (.node 7 n s [k0, k1]) = mkB (tmE E) k0 := by simp [opnP]
        have hmay : mayP (.node 7 n s [k0, k1]) = [k1] := by simp [mayP]
        rw [hopn, hmay]
        have c0 := below_some7 hb0 r0
        have c1 := below_some7 hb0 r1
        have c2 := below_some7 hb0 r2
        have c3 := below_some7 hb0 r3
        have HM := hide (fun v (hv : Below w.heap.size w v) => hmk op3 n3 s3 a3 len3 cap3 v (hk0.below hv) hok0 ((hk.low hv).fk ho) (ht.on hv) (he.on hv))
        have lb := lt_of_cell r0
        have e0 := kpc (abD (w := w.alloc (.cells #[.map (some bk), .map (some bw)] 44)) (.cells #[.int .i64 7, .int .i64 n, .string s, .slice (some ⟨b, q, none⟩) 2 cap] 35)) (box_cell w #[.map (some bk), .map (some bw)] 44 0 _ rfl)
        have e1 := box_cell (w.alloc (.cells #[.map (some bk), .map (some bw)] 44)) #[.int .i64 7, .int .i64 n, .string s, .slice (some ⟨b, q, none⟩) 2 cap] 35 3 _ rfl
        rw [heap_size_alloc] at e1
        generalize mkB (tmE E) k0 = D at *
        simp only [List.length_cons, List.length_nil] at hcap
        clear hl hka hok hk ho ht he hb0 r4 r5 r6 r7 hk1 r0 r1 r2 r3 hk0 hopn hmay hmk hok0
        unfold maxLen at hcm
        go_enter Tryz.func35, Tryz.ntmps35
        go_wp2_with fail
        generalize hgw : (w.alloc (.cells #[.map (some bk), .map (some bw)] 44)).alloc (.cells #[.int .i64 7, .int .i64 n, .string s, .slice (some ⟨b, q, none⟩) 2 cap] 35) = W0 at *
        clear hgw
        have l0 := lt_of_cell e0
        go_region_held3 (fun y => y.cell? ⟨w.heap.size, 0, none⟩ = some (.map (some bk)) ∧ y.cell? ⟨w.heap.size + 1, 3, none⟩ = some (.slice (some ⟨b, q, none⟩) 2 cap) ∧ y.cell? ⟨b, q, none⟩ = some (.int .i64 op3) ∧ y.cell? ⟨b, q + 1, none⟩ = some (.int .i64 n3) ∧ y.cell? ⟨b, q + 2, none⟩ = some (.string s3) ∧ y.cell? ⟨b, q + 3, none⟩ = some (.slice a3 len3 cap3)) (go_keep)
          (first
            | (go_at_call 41
               refine (unhide HM _ ((unhide HB0).drew)).mono ?_
               rintro e w2 ⟨rfl, hb2⟩
               have hb2' := hide (below_drew' hb2)
               have HB2 := hide ((unhide HB0).trans ((unhide hb2').mono (unhide HB0).size))
               have f0 := kpc (unhide hb2') e0
               have f1 := kpc (unhide hb2') e1
               have f2 := kpc (unhide hb2') c0
               have f3 := kpc (unhide hb2') c1
               have f4 := kpc (unhide hb2') c2
               have f5 := kpc (unhide hb2') c3))
        all_goals
          go_wp2_with fail
          exact bodyPost_ret (v := .tuple #[.slice (some ⟨b, q + 4, none⟩) 1 (cap - 1), .bool D]) (by simp [results, Tryz.results35, go_sem]) rfl ⟨⟨some ⟨b, q + 4, none⟩, cap - 1, by simp, unhide HA⟩, unhide HB2⟩
      · have hmay := may_else (n := n) (s := s) (ks := ks) h3 h7 h8
        have hopn := opn_else (tmE E) (n := n) (s := s) (ks := ks) h7
        have q3 : (op == 3) = false := by simpa using h3
        have q7 : (op == 7) = false := by simpa using h7
        have q8 : (op == 8) = false := by simpa using h8
        rw [hmay, hopn]
        generalize ks.length = len at *
        clear hl hka hok hk ho ht he hb0 h3 h7 h8 hmay hopn
        go_enter Tryz.func35, Tryz.ntmps35
        go_wp2_with fail
        exact bodyPost_ret (v := .tuple #[.slice none 0 0, .bool true]) (by simp [results, Tryz.results35, go_sem]) rfl ⟨⟨none, 0, rfl, fun v hv => by simp [LiesAll]⟩, unhide HB0⟩

/-- The facts from place i on whose mark is set. -/
def wh : Nat → List Fc → List Bool → List (Nat × Fc)
  | i, f :: r, b :: bs => (if b = true then [(i, f)] else []) ++ wh (i + 1) r bs
  | _, _, _ => []
def en (i : Nat) (K : List Fc) : List (Nat × Fc) := wh i K (K.map fun _ => true)
theorem en_cons (i : Nat) (f : Fc) (K : List Fc) : en i (f :: K) = (i, f) :: en (i + 1) K := rfl
theorem en_length : ∀ (i : Nat) (K : List Fc), (en i K).length = K.length
  | _, [] => rfl
  | i, f :: K => by rw [en_cons, List.length_cons, en_length, List.length_cons]
theorem wh_append : ∀ (i : Nat) (K L : List Fc) (B C : List Bool), B.length = K.length → wh i (K ++ L) (B ++ C) = wh i K B ++ wh (i + K.length) L C
  | i, [], L, [], C, _ => by simp [wh]
  | i, [], L, b :: B, C, h => by simp at h
  | i, f :: K, L, [], C, h => by simp at h
  | i, f :: K, L, b :: B, C, h => by
    have ih := wh_append (i + 1) K L B C (by simpa using h)
    show (if b = true then [(i, f)] else []) ++ wh (i + 1) (K ++ L) (B ++ C) = ((if b = true then [(i, f)] else []) ++ wh (i + 1) K B) ++ wh (i + (K.length + 1)) L C
    rw [ih, List.append_assoc, show i + 1 + K.length = i + (K.length + 1) by omega]
theorem en_snoc (i : Nat) (K : List Fc) (f : Fc) : en i (K ++ [f]) = en i K ++ [(i + K.length, f)] := by
  unfold en
  rw [List.map_append, wh_append i K [f] _ _ (by simp)]
  rfl
theorem wh_snoc (i : Nat) (K : List Fc) (B : List Bool) (f : Fc) (h : B.length = K.length) : wh i (K ++ [f]) (B ++ [true]) = wh i K B ++ [(i + K.length, f)] := by
  rw [wh_append i K [f] B [true] h]
  rfl
theorem wh_mem : ∀ {i : Nat} {K : List Fc} {B : List Bool} {p : Nat × Fc}, p ∈ wh i K B → ∃ j, p.1 = i + j ∧ K[j]? = some p.2 ∧ B[j]? = some true
  | i, [], B, p, h => by simp [wh] at h
  | i, f :: K, [], p, h => by simp [wh] at h
  | i, f :: K, b :: B, p, h => by
    simp only [wh, List.mem_append] at h
    rcases h with h | h
    · split at h
      · rename_i hb
        rw [List.mem_singleton] at h
        subst h
        exact ⟨0, rfl, rfl, by simp [hb]⟩
      · cases h
    · obtain ⟨j, h1, h2, h3⟩ := wh_mem h
      exact ⟨j + 1, by omega, by simpa using h2, by simpa using h3⟩
theorem wh_in : ∀ {i j : Nat} {K : List Fc} {B : List Bool} {f : Fc}, K[j]? = some f → B[j]? = some true → (i + j, f) ∈ wh i K B
  | i, j, [], B, f, h, _ => by simp at h
  | i, j, g :: K, [], f, _, h => by simp at h
  | i, 0, g :: K, b :: B, f, h, hb => by
    simp only [List.getElem?_cons_zero, Option.some.injEq] at h hb
    subst h hb
    simp [wh]
  | i, j + 1, g :: K, b :: B, f, h, hb => by
    have := wh_in (i := i + 1) (j := j) (K := K) (B := B) (f := f) (by simpa using h) (by simpa using hb)
    rw [show i + 1 + j = i + (j + 1) by omega] at this
    simp only [wh, List.mem_append]
    exact Or.inr this
theorem wh_asc : ∀ (i : Nat) (K : List Fc) (B : List Bool), K.Pairwise (fun f g => exT f.t ≠ exT g.t) → Asc (wh i K B)
  | i, [], B, _ => by simp [wh, Asc]
  | i, f :: K, [], _ => by simp [wh, Asc]
  | i, f :: K, b :: B, h => by
    obtain ⟨h1, h2⟩ := List.pairwise_cons.1 h
    have ih := wh_asc (i + 1) K B h2
    unfold Asc at *
    rw [wh, List.pairwise_append]
    refine ⟨by split <;> simp, ih, fun p hp q hq => ?_⟩
    split at hp
    · rw [List.mem_singleton] at hp
      subst hp
      obtain ⟨j, e1, e2, _⟩ := wh_mem hq
      exact ⟨by show i < q.1; omega, h1 q.2 (List.mem_of_getElem? e2)⟩
    · cases hp
theorem wh_set : ∀ (i : Nat) (K : List Fc) (B : List Bool) (j : Nat), wh i K (B.set j false) = (wh i K B).filter fun p => !decide (p.1 = i + j)
  | i, [], B, j => by simp [wh]
  | i, f :: K, [], j => by simp [wh]
  | i, f :: K, b :: B, 0 => by
    simp only [List.set_cons_zero, wh, Bool.false_eq_true, if_false, List.nil_append, List.filter_append]
    have e1 : (wh (i + 1) K B).filter (fun p => !decide (p.1 = i + 0)) = wh (i + 1) K B := by
      rw [List.filter_eq_self]
      intro p hp
      obtain ⟨j, e, _⟩ := wh_mem hp
      simp; omega
    rw [e1]
    split <;> simp
  | i, f :: K, b :: B, j + 1 => by
    have ih := wh_set (i + 1) K B j
    simp only [List.set_cons_succ, wh, List.filter_append, ih]
    congr 1
    · split
      · simp
      · rfl
    · congr 1
      funext p
      rw [show i + 1 + j = i + (j + 1) by omega]

/-- The terms of what is known. -/
def tmK (K : List Fc) : List Tm := K.map fun f => f.t
theorem tmE_en : ∀ (i : Nat) (K : List Fc), tmE (en i K) = tmK K
  | _, [] => rfl
  | i, f :: K => by
    have := tmE_en (i + 1) K
    unfold tmE tmK at *
    rw [en_cons, List.map_cons, List.map_cons, this]

theorem passI_stop (f q : Nat) (s : List Tm × List Bool) (h : s.1.length ≤ q) : passI f q s = s := by
  cases f with
  | zero => rfl
  | succ f => rw [passI, List.getElem?_eq_none h]
theorem passI_skip (s : List Tm × List Bool) (hs : s.1.length ≤ 300) : ∀ (d q : Nat), q + d ≤ s.1.length → (∀ x, q ≤ x → x < q + d → s.2[x]? ≠ some true) → passI (301 - q) q s = passI (301 - (q + d)) (q + d) s
  | 0, q, _, _ => rfl
  | d + 1, q, h, hm => by
    obtain ⟨f, hf⟩ : ∃ f, 301 - q = f + 1 := ⟨300 - q, by omega⟩
    have hq : q < s.1.length := by omega
    have e1 : passI (301 - q) q s = passI (301 - (q + 1)) (q + 1) s := by
      rw [hf, passI, List.getElem?_eq_getElem hq]
      simp only []
      rw [if_neg (fun hc => hm q (Nat.le_refl _) (by omega) hc.1), show 301 - (q + 1) = f by omega]
    rw [e1, passI_skip s hs d (q + 1) (by omega) (fun x h1 h2 => hm x (by omega) (by omega)), show q + 1 + d = q + (d + 1) by omega]
theorem passI_no {s : List Tm × List Bool} {j : Nat} {t : Tm} (hj : j < 300) (ht : s.1[j]? = some t) (ho : opnP s.1 t = false) : passI (301 - j) j s = passI (301 - (j + 1)) (j + 1) s := by
  obtain ⟨f, hf⟩ : ∃ f, 301 - j = f + 1 := ⟨300 - j, by omega⟩
  rw [hf, passI, ht]
  simp only []
  rw [if_neg (fun hc => by rw [ho] at hc; cases hc.2), show 301 - (j + 1) = f by omega]
theorem passI_yes {s : List Tm × List Bool} {j : Nat} {t : Tm} (hj : j < 300) (ht : s.1[j]? = some t) (hb : s.2[j]? = some true) (ho : opnP s.1 t = true) : passI (301 - j) j s = passI (301 - (j + 1)) (j + 1) ((mayP t).foldl learnP (s.1, s.2.set j false)) := by
  obtain ⟨f, hf⟩ : ∃ f, 301 - j = f + 1 := ⟨300 - j, by omega⟩
  rw [hf, passI, ht]
  simp only []
  rw [if_pos ⟨hb, ho⟩, show 301 - (j + 1) = f by omega]

/-- What is left of the walk: the whole facts from place q on. -/
structure Que (K : List Fc) (B : List Bool) (R : List (Nat × Fc)) (q : Nat) : Prop where
  split : ∃ F, wh 0 K B = F ++ R ∧ (∀ p ∈ F, p.1 < q) ∧ ∀ p ∈ R, q ≤ p.1

theorem Que.start (K : List Fc) (B : List Bool) : Que K B (wh 0 K B) 0 := ⟨[], rfl, by simp, fun p _ => Nat.zero_le _⟩
theorem Que.head {K : List Fc} {B : List Bool} {p : Nat × Fc} {R : List (Nat × Fc)} {q : Nat} (h : Que K B (p :: R) q) : q ≤ p.1 ∧ K[p.1]? = some p.2 ∧ B[p.1]? = some true := by
  obtain ⟨F, h1, _, h3⟩ := h.split
  obtain ⟨j, e1, e2, e3⟩ := wh_mem (show p ∈ wh 0 K B by rw [h1]; simp)
  obtain rfl : p.1 = j := by omega
  exact ⟨h3 p (by simp), e2, e3⟩
theorem Que.gap {K : List Fc} {B : List Bool} {R : List (Nat × Fc)} {q : Nat} (h : Que K B R q) (hl : B.length = K.length) {j : Nat} (hj : ∀ p ∈ R, j ≤ p.1) : ∀ x, q ≤ x → x < j → B[x]? ≠ some true := by
  intro x h1 h2 hb
  have hx : x < B.length := (List.getElem?_eq_some_iff.1 hb).1
  obtain ⟨F, e, hF, hR⟩ := h.split
  have := wh_in (i := 0) (j := x) (K := K) (B := B) (List.getElem?_eq_getElem (by omega)) hb
  rw [e, Nat.zero_add] at this
  rcases List.mem_append.1 this with h3 | h3
  · have := hF _ h3; simp at this; omega
  · have := hj _ h3; simp at this; omega
theorem Que.rest {K : List Fc} {B : List Bool} {p : Nat × Fc} {R : List (Nat × Fc)} {q : Nat} (h : Que K B (p :: R) q) (hd : K.Pairwise (fun f g => exT f.t ≠ exT g.t)) : (∀ r ∈ R, p.1 < r.1) ∧ Que K B R (p.1 + 1) := by
  obtain ⟨F, e, hF, hR⟩ := h.split
  have hA := wh_asc 0 K B hd
  unfold Asc at hA
  rw [e, List.pairwise_append] at hA
  have h1 := (List.pairwise_cons.1 hA.2.1).1
  refine ⟨fun r hr => (h1 r hr).1, ⟨F ++ [p], by rw [e]; simp, fun r hr => ?_, fun r hr => (h1 r hr).1⟩⟩
  rcases List.mem_append.1 hr with hr | hr
  · have := hF r hr; have := hR p (by simp); omega
  · rw [List.mem_singleton.1 hr]; omega
theorem Que.open {K : List Fc} {B : List Bool} {p : Nat × Fc} {R : List (Nat × Fc)} {q : Nat} (h : Que K B (p :: R) q) (hd : K.Pairwise (fun f g => exT f.t ≠ exT g.t)) : Que K (B.set p.1 false) R (p.1 + 1) ∧ ∃ F, wh 0 K B = F ++ p :: R ∧ wh 0 K (B.set p.1 false) = F ++ R := by
  obtain ⟨h1, _⟩ := h.rest hd
  obtain ⟨F, e, hF, hR⟩ := h.split
  have e2 : wh 0 K (B.set p.1 false) = F ++ R := by
    rw [wh_set, e, List.filter_append, List.filter_cons]
    have hp := hR p (by simp)
    have f1 : F.filter (fun r => !decide (r.1 = 0 + p.1)) = F := by
      rw [List.filter_eq_self]
      intro r hr
      have := hF r hr
      simp; omega
    have f2 : R.filter (fun r => !decide (r.1 = 0 + p.1)) = R := by
      rw [List.filter_eq_self]
      intro r hr
      have := h1 r hr
      simp; omega
    rw [f1, f2]
    simp
  refine ⟨⟨F, e2, fun r hr => ?_, fun r hr => h1 r hr⟩, F, e, e2⟩
  have := hF r hr
  have := hR p (by simp)
  omega
theorem Que.more {K : List Fc} {B : List Bool} {R : List (Nat × Fc)} {q : Nat} (h : Que K B R q) (hl : B.length = K.length) (hq : q ≤ K.length) (f : Fc) : Que (K ++ [f]) (B ++ [true]) (R ++ [(K.length, f)]) q := by
  obtain ⟨F, e, hF, hR⟩ := h.split
  refine ⟨F, by rw [wh_snoc 0 K B f hl, e, Nat.zero_add, List.append_assoc], hF, fun p hp => ?_⟩
  rcases List.mem_append.1 hp with hp | hp
  · exact hR p hp
  · rw [List.mem_singleton.1 hp]; exact hq

structure Kn (w0 w : World) (bk bw : Nat) (K : List Fc) (B : List Bool) : Prop where
  known : KMap w bk (en 0 K)
  whole : KMap w bw (wh 0 K B)
  len : B.length = K.length
  room : K.length ≤ 300
  ok : ∀ f ∈ K, okT f.t = true ∧ Lies w0 0 f.t (tmCells f.op f.n f.s f.a f.len f.cap)
  apart : K.Pairwise fun f g => exT f.t ≠ exT g.t
  below : Below w0.heap.size w0 w
  ne : bk ≠ bw
  gek : w0.heap.size ≤ bk
  gew : w0.heap.size ≤ bw

theorem Kn.low {w0 w v : World} {bk bw : Nat} {K : List Fc} {B : List Bool} (h : Kn w0 w bk bw K B) (hb : Below w.heap.size w v) : Kn w0 v bk bw K B :=
  ⟨h.known.low hb, h.whole.low hb, h.len, h.room, h.ok, h.apart, h.below.trans (hb.mono h.below.size), h.ne, h.gek, h.gew⟩
theorem Kn.kept {w0 w v : World} {bk bw : Nat} {K : List Fc} {B : List Bool} (h : Kn w0 w bk bw K B) {row : Option Nat} (hg : w.grownBy v row) (h1 : some bk ≠ row) (h2 : some bw ≠ row) (h3 : ∀ g, row = some g → w0.heap.size ≤ g) : Kn w0 v bk bw K B :=
  ⟨h.known.block (hg.block bk h.known.lt h1), h.whole.block (hg.block bw h.whole.lt h2), h.len, h.room, h.ok, h.apart, h.below.grown hg h.below.size h3, h.ne, h.gek, h.gew⟩
theorem en_ok {K : List Fc} (h : ∀ f ∈ K, okT f.t = true) : OkE (en 0 K) := fun p hp => by
  obtain ⟨j, _, h2, _⟩ := wh_mem hp
  exact h p.2 (List.mem_of_getElem? h2)
theorem wh_le : ∀ (i : Nat) (K : List Fc) (B : List Bool), (wh i K B).length ≤ K.length
  | i, [], B => by simp [wh]
  | i, f :: K, [] => by simp [wh]
  | i, f :: K, b :: B => by
    have := wh_le (i + 1) K B
    simp only [wh, List.length_append, List.length_cons]
    split <;> simp <;> omega
theorem has_en {K : List Fc} (h : ∀ f ∈ K, okT f.t = true) {t : Tm} (ht : okT t = true) : hasB (tmK K) t = fE (en 0 K) (exT t) := by
  rw [← hasX_hasB (tmK K) t ht, fE_fK (en_ok h), tmE_en]
  rfl
theorem wh_sub {K : List Fc} {B : List Bool} {l : List UInt8} (h : fE (en 0 K) l = false) : fE (wh 0 K B) l = false := by
  unfold fE at *
  rw [List.any_eq_false] at *
  intro p hp
  obtain ⟨j, h1, h2, _⟩ := wh_mem hp
  have : (0 + j, p.2) ∈ en 0 K := wh_in h2 (by rw [List.getElem?_map, h2]; rfl)
  rw [← h1] at this
  exact h p this

/-- impl's learn. -/
theorem learn_kn {w0 w : World} {bk bw : Nat} {K : List Fc} {B : List Bool} (h : Kn w0 w bk bw K B) (f : Fc) (hok : okT f.t = true) (hl : Lies w0 0 f.t (tmCells f.op f.n f.s f.a f.len f.cap)) (ht : Tab w0) :
    Calls Tryz.prog 21 #[.agg #[.map (some bk), .map (some bw)], .agg #[.int .i64 f.op, .int .i64 f.n, .string f.s, .slice f.a f.len f.cap]] w fun e w' =>
      (learnP (tmK K, B) f.t = (tmK K, B) ∧ e = .returned (.tuple #[.agg #[.string ByteArray.empty, .int .i64 0, .int .i64 0, .string ByteArray.empty, .slice none 0 0, .int .i64 0], .bool false]) ∧ Below w.heap.size w w') ∨
      (learnP (tmK K, B) f.t = (tmK (K ++ [f]), B ++ [true]) ∧ e = .returned (.tuple #[fv (K.length, f), .bool true]) ∧ Kn w0 w' bk bw (K ++ [f]) (B ++ [true]) ∧ Two w w' bk bw) := by
  have hz : f.t.size ≤ 200 := by unfold okT at hok; rw [Bool.and_eq_true] at hok; exact of_decide_eq_true hok.1
  have hr := okT_right hok
  have hel := en_length 0 K
  have hhas := has_en (fun g hg => (h.ok g hg).1) hok
  have hlen : (tmK K).length = K.length := by simp [tmK]
  by_cases hno : (decide (300 ≤ K.length) || fE (en 0 K) (exT f.t)) = true
  · refine (learn_no bk bw (en 0 K) f.t f.op f.n f.s f.a f.len f.cap w h.known (hl.below h.below) hr (by omega) (ht.on h.below) (by rw [hel]; exact h.room) (by rw [hel]; exact hno)).mono ?_
    rintro e w' ⟨he, hb⟩
    refine Or.inl ⟨?_, he, hb⟩
    unfold learnP
    rw [if_pos (by show (decide (300 ≤ (tmK K).length) || hasB (tmK K) f.t) = true; rw [hlen, hhas]; exact hno)]
  · have hn1 : K.length < 300 := by
      rw [Bool.or_eq_true, not_or] at hno
      have := hno.1
      simp at this
      exact this
    have hn2 : fE (en 0 K) (exT f.t) = false := by
      rw [Bool.or_eq_true, not_or] at hno
      simpa using hno.2
    have hwl := wh_le 0 K B
    refine (learn_yes bk bw (en 0 K) (wh 0 K B) f.t f.op f.n f.s f.a f.len f.cap w h.known h.whole h.ne (hl.below h.below) hr (by omega) (ht.on h.below) (by rw [hel]; exact hn1) (by omega) hn2 (wh_sub hn2)).mono ?_
    rintro e w' ⟨he, hk, hw, h2⟩
    rw [hel] at he hk hw
    refine Or.inr ⟨?_, he, ⟨?_, ?_, by simp [h.len], by simp; omega, ?_, ?_, h2.below h.below h.below.size h.gek h.gew, h.ne, h.gek, h.gew⟩, h2⟩
    · unfold learnP
      rw [if_neg (by show ¬ (decide (300 ≤ (tmK K).length) || hasB (tmK K) f.t) = true; rw [hlen, hhas]; exact hno)]
      simp [tmK]
    · rw [en_snoc, Nat.zero_add]; exact hk
    · rw [wh_snoc 0 K B f h.len, Nat.zero_add]; exact hw
    · intro g hg
      rcases List.mem_append.1 hg with hg | hg
      · exact h.ok g hg
      · rw [List.mem_singleton.1 hg]; exact ⟨hok, hl⟩
    · rw [List.pairwise_append]
      refine ⟨h.apart, by simp, fun g hg x hx => ?_⟩
      rw [List.mem_singleton.1 hx]
      intro e
      obtain ⟨j, hj, ej⟩ := List.mem_iff_getElem.1 hg
      have hm : (0 + j, g) ∈ en 0 K := wh_in (by rw [List.getElem?_eq_getElem hj, ej]) (by rw [List.getElem?_map, List.getElem?_eq_getElem hj]; rfl)
      have := fE_mem hm
      rw [show exT (0 + j, g).2.t = exT f.t from e, hn2] at this
      cases this

/-- In the middle of the walk. -/
structure TaInv (w0 w : World) (bk bw : Nat) (K : List Fc) (B : List Bool) (v : Value) (wr : World) (K1 : List Fc) (B1 : List Bool) (W : List (Nat × Fc)) (k q : Nat) : Prop where
  kn : Kn w0 wr bk bw K1 B1
  row : FRw (w.heap.size + 1) W v wr
  que : Que K1 B1 (W.drop k) q
  qle : q ≤ K1.length
  pass : passI 301 0 (tmK K, B) = passI (301 - q) q (tmK K1, B1)
  two : Two w wr bk bw
  box : wr.heap[w.heap.size]? = some (.cells #[.map (some bk), .map (some bw)] 44 (0, 0))
  len : W.length ≤ K1.length
theorem TaInv.head {w0 w : World} {bk bw : Nat} {K : List Fc} {B : List Bool} {v : Value} {wr : World} {K1 : List Fc} {B1 : List Bool} {W : List (Nat × Fc)} {k q : Nat} (_ : TaInv w0 w bk bw K B v wr K1 B1 W k q) {p : Nat × Fc} (hp : W[k]? = some p) : ∃ R, W.drop k = p :: R ∧ R = W.drop (k + 1) := by
  have hk := (List.getElem?_eq_some_iff.1 hp).1
  refine ⟨W.drop (k + 1), ?_, rfl⟩
  rw [List.drop_eq_getElem_cons hk]
  rw [List.getElem?_eq_getElem hk] at hp
  injection hp with hp
  rw [hp]
theorem TaInv.fact {w0 w : World} {bk bw : Nat} {K : List Fc} {B : List Bool} {v : Value} {wr : World} {K1 : List Fc} {B1 : List Bool} {W : List (Nat × Fc)} {k q : Nat} (h : TaInv w0 w bk bw K B v wr K1 B1 W k q) {p : Nat × Fc} (hp : W[k]? = some p) : okT p.2.t = true ∧ Lies w0 0 p.2.t (tmCells p.2.op p.2.n p.2.s p.2.a p.2.len p.2.cap) := by
  obtain ⟨R, hR, _⟩ := h.head hp
  have hq := h.que
  rw [hR] at hq
  exact h.kn.ok p.2 (List.mem_of_getElem? hq.head.2.1)

theorem TaInv.low {w0 w : World} {bk bw : Nat} {K : List Fc} {B : List Bool} {v : Value} {wr : World} {K1 : List Fc} {B1 : List Bool} {W : List (Nat × Fc)} {k q : Nat} {x : World} (h : TaInv w0 w bk bw K B v wr K1 B1 W k q) (hb : Below wr.heap.size wr x) : TaInv w0 w bk bw K B v x K1 B1 W k q :=
  ⟨h.kn.low hb, h.row.low hb, h.que, h.qle, h.pass, h.two.trans (Two.low hb), (hb.block _ (lt_of_heap h.box)).trans h.box, h.len⟩
theorem TaInv.at {w0 w : World} {bk bw : Nat} {K : List Fc} {B : List Bool} {v : Value} {wr : World} {K1 : List Fc} {B1 : List Bool} {W : List (Nat × Fc)} {k q : Nat} (h : TaInv w0 w bk bw K B v wr K1 B1 W k q) {p : Nat × Fc} (hp : W[k]? = some p) : p.1 < K1.length ∧ (tmK K1)[p.1]? = some p.2.t ∧ B1[p.1]? = some true ∧ passI 301 0 (tmK K, B) = passI (301 - p.1) p.1 (tmK K1, B1) := by
  obtain ⟨R, hR, _⟩ := h.head hp
  have hq := h.que
  rw [hR] at hq
  obtain ⟨h1, h2, h3⟩ := hq.head
  have hlt := (List.getElem?_eq_some_iff.1 h2).1
  refine ⟨hlt, by rw [tmK, List.getElem?_map, h2]; rfl, h3, ?_⟩
  have hr := (hq.rest h.kn.apart).1
  have := passI_skip (tmK K1, B1) (by simpa [tmK] using h.kn.room) (p.1 - q) q (by simp [tmK]; omega) (fun x hx1 hx2 => hq.gap h.kn.len (j := p.1) (fun r hr' => by
    rcases List.mem_cons.1 hr' with rfl | hr'
    · exact Nat.le_refl _
    · exact Nat.le_of_lt (hr r hr')) x hx1 (by omega))
  rw [h.pass, this, show q + (p.1 - q) = p.1 by omega]
theorem TaInv.no {w0 w : World} {bk bw : Nat} {K : List Fc} {B : List Bool} {v : Value} {wr : World} {K1 : List Fc} {B1 : List Bool} {W : List (Nat × Fc)} {k q : Nat} (h : TaInv w0 w bk bw K B v wr K1 B1 W k q) {p : Nat × Fc} (hp : W[k]? = some p) (ho : opnP (tmK K1) p.2.t = false) : TaInv w0 w bk bw K B v wr K1 B1 W (k + 1) (p.1 + 1) := by
  obtain ⟨h1, h2, h3, h4⟩ := h.at hp
  obtain ⟨R, hR, hR2⟩ := h.head hp
  have hq := h.que
  rw [hR] at hq
  have hroom := h.kn.room
  refine ⟨h.kn, h.row, by rw [← hR2]; exact (hq.rest h.kn.apart).2, by omega, ?_, h.two, h.box, h.len⟩
  rw [h4]
  exact passI_no (by omega) h2 ho

theorem TaInv.over {w0 w : World} {bk bw : Nat} {K : List Fc} {B : List Bool} {v : Value} {wr : World} {K1 : List Fc} {B1 : List Bool} {W : List (Nat × Fc)} {k q : Nat} (h : TaInv w0 w bk bw K B v wr K1 B1 W k q) (hk : W.length ≤ k) : passI 301 0 (tmK K, B) = (tmK K1, B1) := by
  have hq := h.que
  rw [List.drop_eq_nil_of_le hk] at hq
  have hl : (tmK K1).length = K1.length := by simp [tmK]
  have := h.qle
  rw [h.pass, passI_skip (tmK K1, B1) (by rw [hl]; exact h.kn.room) (K1.length - q) q (by rw [hl]; omega) (fun x h1 h2 => hq.gap h.kn.len (j := K1.length) (fun r hr => by cases hr) x h1 (by omega))]
  exact passI_stop _ _ _ (by rw [hl]; omega)

theorem TaInv.part {w0 w : World} {bk bw : Nat} {K : List Fc} {B : List Bool} {v : Value} {wr : World} {K1 : List Fc} {B1 : List Bool} {W : List (Nat × Fc)} {k q : Nat} (h : TaInv w0 w bk bw K B v wr K1 B1 W k q) {p : Nat × Fc} (hp : W[k]? = some p) : ∃ F, wh 0 K1 B1 = F ++ p :: W.drop (k + 1) ∧ wh 0 K1 (B1.set p.1 false) = F ++ W.drop (k + 1) := by
  obtain ⟨R, hR, hR2⟩ := h.head hp
  have hq := h.que
  rw [hR] at hq
  obtain ⟨_, F, h1, h2⟩ := hq.open h.kn.apart
  exact ⟨F, by rw [h1, hR2], by rw [h2, hR2]⟩

/-- In the middle of what a term gives. -/
structure InInv (w0 w : World) (bk bw : Nat) (s0 : List Tm × List Bool) (ps : List Tm) (v : Value) (wr : World) (K2 : List Fc) (B2 : List Bool) (W2 : List (Nat × Fc)) (k j m : Nat) : Prop where
  kn : Kn w0 wr bk bw K2 B2
  row : FRw (w.heap.size + 1) W2 v wr
  que : Que K2 B2 (W2.drop (k + 1)) (j + 1)
  qle : j + 1 ≤ K2.length
  fold : (ps.take m).foldl learnP s0 = (tmK K2, B2)
  two : Two w wr bk bw
  box : wr.heap[w.heap.size]? = some (.cells #[.map (some bk), .map (some bw)] 44 (0, 0))
  len : W2.length ≤ K2.length
  kle : k + 1 ≤ W2.length
theorem TaInv.yes {w0 w : World} {bk bw : Nat} {K : List Fc} {B : List Bool} {v : Value} {wr : World} {K1 : List Fc} {B1 : List Bool} {W : List (Nat × Fc)} {k q : Nat} (h : TaInv w0 w bk bw K B v wr K1 B1 W k q) {p : Nat × Fc} (hp : W[k]? = some p) (ho : opnP (tmK K1) p.2.t = true) {x : World} (hx : wr.grownBy x (some bw)) (hk : KMap x bw (wh 0 K1 (B1.set p.1 false))) (hbw : bw < w.heap.size) :
    InInv w0 w bk bw (tmK K1, B1.set p.1 false) (mayP p.2.t) v x K1 (B1.set p.1 false) W k p.1 0 ∧ passI 301 0 (tmK K, B) = passI (301 - (p.1 + 1)) (p.1 + 1) ((mayP p.2.t).foldl learnP (tmK K1, B1.set p.1 false)) := by
  obtain ⟨h1, h2, h3, h4⟩ := h.at hp
  obtain ⟨R, hR, hR2⟩ := h.head hp
  have hq := h.que
  rw [hR] at hq
  have hroom := h.kn.room
  have hkn := h.kn
  have hlt := (List.getElem?_eq_some_iff.1 hp).1
  refine ⟨⟨⟨hkn.known.kept hx hkn.ne, hk, by simp [hkn.len], hkn.room, hkn.ok, hkn.apart, hkn.below.grown hx hkn.below.size (fun g hg => by cases hg; exact hkn.gew), hkn.ne, hkn.gek, hkn.gew⟩,
    h.row.kept hx (Or.inr fun e => ?_), by rw [← hR2]; exact (hq.open hkn.apart).1, by omega, rfl, h.two.trans (Two.w hx), (hx.block _ (lt_of_heap h.box) (by simp; omega)).trans h.box, h.len, by omega⟩, ?_⟩
  · have := h.row.own_ge bw e
    omega
  · rw [h4]
    exact passI_yes (by omega) h2 h3 ho
theorem InInv.low {w0 w : World} {bk bw : Nat} {s0 : List Tm × List Bool} {ps : List Tm} {v : Value} {wr x : World} {K2 : List Fc} {B2 : List Bool} {W2 : List (Nat × Fc)} {k j m : Nat} (h : InInv w0 w bk bw s0 ps v wr K2 B2 W2 k j m) (hb : Below wr.heap.size wr x) : InInv w0 w bk bw s0 ps v x K2 B2 W2 k j m :=
  ⟨h.kn.low hb, h.row.low hb, h.que, h.qle, h.fold, h.two.trans (Two.low hb), (hb.block _ (lt_of_heap h.box)).trans h.box, h.len, h.kle⟩
theorem take_fold {ps : List Tm} {m : Nat} {t : Tm} (hm : ps[m]? = some t) (s0 : List Tm × List Bool) : (ps.take (m + 1)).foldl learnP s0 = learnP ((ps.take m).foldl learnP s0) t := by
  rw [List.take_add_one, hm, List.foldl_append]
  rfl
theorem InInv.same {w0 w : World} {bk bw : Nat} {s0 : List Tm × List Bool} {ps : List Tm} {v : Value} {wr x : World} {K2 : List Fc} {B2 : List Bool} {W2 : List (Nat × Fc)} {k j m : Nat} (h : InInv w0 w bk bw s0 ps v wr K2 B2 W2 k j m) {t : Tm} (ht : ps[m]? = some t) (hl : learnP (tmK K2, B2) t = (tmK K2, B2)) (hb : Below wr.heap.size wr x) : InInv w0 w bk bw s0 ps v x K2 B2 W2 k j (m + 1) := by
  have h' := h.low hb
  exact ⟨h'.kn, h'.row, h'.que, h'.qle, by rw [take_fold ht, h.fold, hl], h'.two, h'.box, h'.len, h'.kle⟩
theorem InInv.more {w0 w : World} {bk bw : Nat} {s0 : List Tm × List Bool} {ps : List Tm} {v v' : Value} {wr y z : World} {K2 : List Fc} {B2 : List Bool} {W2 : List (Nat × Fc)} {k j m : Nat} (h : InInv w0 w bk bw s0 ps v wr K2 B2 W2 k j m) {f : Fc} (ht : ps[m]? = some f.t) (hl : learnP (tmK K2, B2) f.t = (tmK (K2 ++ [f]), B2 ++ [true])) (hkn : Kn w0 y bk bw (K2 ++ [f]) (B2 ++ [true])) (h2 : Two w y bk bw) (hbox : y.heap[w.heap.size]? = some (.cells #[.map (some bk), .map (some bw)] 44 (0, 0)))
    (hr : FRw (w.heap.size + 1) (W2 ++ [(K2.length, f)]) v' z) (hg : y.grownBy z v.ownBlock) (hv : ∀ g, v.ownBlock = some g → w.heap.size + 1 ≤ g) (lk : bk < w.heap.size) (lw : bw < w.heap.size) (hw : w0.heap.size ≤ w.heap.size) : InInv w0 w bk bw s0 ps v' z (K2 ++ [f]) (B2 ++ [true]) (W2 ++ [(K2.length, f)]) k j (m + 1) := by
  have hlen := h.len
  have hkle := h.kle
  refine ⟨hkn.kept hg (fun e => by have := hv bk e.symm; omega) (fun e => by have := hv bw e.symm; omega) (fun g e => by have := hv g e; omega), hr, ?_, by have := h.qle; simp; omega, by rw [take_fold ht, h.fold, hl], ?_, (hg.block _ (lt_of_heap hbox) (fun e => by have := hv _ e.symm; omega)).trans hbox, by simp; omega, by simp; omega⟩
  · rw [List.drop_append_of_le_length hkle]
    exact h.que.more h.kn.len h.qle f
  · exact ⟨hg.os.trans h2.os, hg.tape.trans h2.tape, hg.output.trans h2.output, Nat.le_trans h2.size hg.size, fun i hi h3 h4 => (hg.block i (Nat.lt_of_lt_of_le hi h2.size) (fun e => by have := hv i e.symm; omega)).trans (h2.block i hi h3 h4)⟩
theorem InInv.done {w0 w : World} {bk bw : Nat} {K : List Fc} {B : List Bool} {s0 : List Tm × List Bool} {ps : List Tm} {v : Value} {wr : World} {K2 : List Fc} {B2 : List Bool} {W2 : List (Nat × Fc)} {k j m : Nat} (h : InInv w0 w bk bw s0 ps v wr K2 B2 W2 k j m) (hm : ps.length ≤ m) (hp : passI 301 0 (tmK K, B) = passI (301 - (j + 1)) (j + 1) (ps.foldl learnP s0)) : TaInv w0 w bk bw K B v wr K2 B2 W2 (k + 1) (j + 1) :=
  ⟨h.kn, h.row, h.que, h.qle, by rw [hp, ← h.fold, List.take_of_length_le hm], h.two, h.box, h.len⟩
theorem FRw.two {C : Nat} {E : List (Nat × Fc)} {v : Value} {w w' : World} {bk bw : Nat} (h : FRw C E v w) (h2 : Two w w' bk bw) (hk : bk < C) (hw : bw < C) : FRw C E v w' := by
  obtain ⟨h1, h3⟩ := h
  refine ⟨h1, ?_⟩
  rcases h3 with h3 | ⟨g, cap, cur, e1, e2, e3, e4⟩
  · exact Or.inl h3
  · exact Or.inr ⟨g, cap, cur, e1, e2, (h2.block g (Array.getElem?_eq_some_iff.1 e3).1 (by omega) (by omega)).trans e3, e4⟩
theorem gb_drew {w v : World} {row : Option Nat} (h : w.drew.grownBy v row) : w.grownBy v row := ⟨h.os, h.tape, h.output, h.size, h.block⟩
theorem InInv.grow {w0 w : World} {bk bw : Nat} {s0 : List Tm × List Bool} {ps : List Tm} {v : Value} {wr w5 : World} {K2 : List Fc} {B2 : List Bool} {W2 : List (Nat × Fc)} {k j m : Nat} (h : InInv w0 w bk bw s0 ps v wr K2 B2 W2 k j m) {X : Obj} {f : Fc} (ht : ps[m]? = some f.t) (hl : learnP (tmK K2, B2) f.t = (tmK (K2 ++ [f]), B2 ++ [true])) (hkn : Kn w0 w5 bk bw (K2 ++ [f]) (B2 ++ [true])) (h2 : Two (wr.alloc X) w5 bk bw) (lk : bk < w.heap.size) (lw : bw < w.heap.size) (hw : w0.heap.size ≤ w.heap.size) :
    (∃ v' w', (Builtin.append_ #[50, 50] 50 #[v, .slice (some ⟨w5.heap.size + 1, 0, none⟩) 1 1]).run Tryz.prog ((w5.alloc (.cells #[.string ⟨(exT f.t).toArray⟩, .int .i64 f.op, .int .i64 f.n, .string f.s, .slice f.a f.len f.cap, .int .i64 (K2.length : Nat)] 46)).alloc (.cells #[.string ⟨(exT f.t).toArray⟩, .int .i64 f.op, .int .i64 f.n, .string f.s, .slice f.a f.len f.cap, .int .i64 (K2.length : Nat)] 46)) = .ok v' w' ∧ FRw (w.heap.size + 1) (W2 ++ [(K2.length, f)]) v' w' ∧ ((w5.alloc (.cells #[.string ⟨(exT f.t).toArray⟩, .int .i64 f.op, .int .i64 f.n, .string f.s, .slice f.a f.len f.cap, .int .i64 (K2.length : Nat)] 46)).alloc (.cells #[.string ⟨(exT f.t).toArray⟩, .int .i64 f.op, .int .i64 f.n, .string f.s, .slice f.a f.len f.cap, .int .i64 (K2.length : Nat)] 46)).grownBy w' v.ownBlock) ∧
    ∀ v' z, FRw (w.heap.size + 1) (W2 ++ [(K2.length, f)]) v' z → ((w5.alloc (.cells #[.string ⟨(exT f.t).toArray⟩, .int .i64 f.op, .int .i64 f.n, .string f.s, .slice f.a f.len f.cap, .int .i64 (K2.length : Nat)] 46)).alloc (.cells #[.string ⟨(exT f.t).toArray⟩, .int .i64 f.op, .int .i64 f.n, .string f.s, .slice f.a f.len f.cap, .int .i64 (K2.length : Nat)] 46)).grownBy z v.ownBlock → InInv w0 w bk bw s0 ps v' z (K2 ++ [f]) (B2 ++ [true]) (W2 ++ [(K2.length, f)]) k j (m + 1) := by
  have abx := abD (w := wr) X
  have ab6 := abD (w := w5) (.cells #[.string ⟨(exT f.t).toArray⟩, .int .i64 f.op, .int .i64 f.n, .string f.s, .slice f.a f.len f.cap, .int .i64 (K2.length : Nat)] 46)
  have ab7 := abD (w := w5.alloc (.cells #[.string ⟨(exT f.t).toArray⟩, .int .i64 f.op, .int .i64 f.n, .string f.s, .slice f.a f.len f.cap, .int .i64 (K2.length : Nat)] 46)) (.cells #[.string ⟨(exT f.t).toArray⟩, .int .i64 f.op, .int .i64 f.n, .string f.s, .slice f.a f.len f.cap, .int .i64 (K2.length : Nat)] 46)
  have hrow := ((((h.row.low abx).two h2 (by omega) (by omega)).low ab6).low ab7)
  have hlb := lt_of_heap h.box
  have hs2 := h2.size
  simp at hs2
  have hr2 := box_fcells (w5.alloc (.cells #[.string ⟨(exT f.t).toArray⟩, .int .i64 f.op, .int .i64 f.n, .string f.s, .slice f.a f.len f.cap, .int .i64 (K2.length : Nat)] 46)) (K2.length, f)
  rw [heap_size_alloc] at hr2
  have hbox := (h2.block _ (by simp; omega) (by omega) (by omega)).trans ((abx.block _ hlb).trans h.box)
  have hbox7 := (ab7.block _ (by simp; omega)).trans ((ab6.block _ (by omega)).trans hbox)
  have hlen := h.len
  have hroom := h.kn.room
  refine ⟨hrow.push (K2.length, f) hr2 1 (by omega) (by simp; omega) 50, fun v' z hf hg => h.more ht hl ((hkn.low ab6).low ab7) ((((h.two.trans (Two.low abx)).trans h2).trans (Two.low ab6)).trans (Two.low ab7)) hbox7 hf hg (h.row.own_ge) lk lw hw⟩
theorem may_len (t : Tm) : (mayP t).length ≤ 2 := by
  cases t with
  | node op n s ks =>
    match ks with
    | [] => simp [mayP]
    | [_] => simp [mayP]
    | [a, b] =>
      simp only [mayP]
      split
      · simp
      · split <;> simp
    | _ :: _ :: _ :: _ => simp [mayP]
theorem may_ok {t : Tm} (h : okT t = true) : ∀ x ∈ mayP t, okT x = true := by
  intro x hx
  cases t with
  | node op n s ks =>
    have : x ∈ ks := by
      match ks, hx with
      | [], hx => simp [mayP] at hx
      | [_], hx => simp [mayP] at hx
      | [a, b], hx =>
        simp only [mayP] at hx
        split at hx
        · exact hx
        · split at hx
          · rw [List.mem_singleton.1 hx]; simp
          · cases hx
      | _ :: _ :: _ :: _, hx => simp [mayP] at hx
    exact ok_kid h this

end Go.Proofs.YteminklafghgpaaGreatDoor
