
/- What is known, to the letter: block b is a map whose entries are the facts of a row of places, each under its exact text. The walk of the method add of what is known, to the letter: what it answers, and what the map is behind it. -/
import Derived.Test.YteminklafghgpaaGreatDoorMa
import Derived.Maps.RangeWalk
namespace Go.Proofs.YteminklafghgpaaGreatDoor
open Go.RowKit Go.Deep Go.Maps Go.MapKept

/-- A term that lies in memory, by its cells. -/
structure Fc where
  t : Tm
  op : Int
  n : Int
  s : ByteArray
  a : Option Addr
  len : Nat
  cap : Nat
/-- A fact at a place, as a value. -/
def fv (p : Nat × Fc) : Value := .agg #[.string ⟨(exT p.2.t).toArray⟩, .int .i64 p.2.op, .int .i64 p.2.n, .string p.2.s, .slice p.2.a p.2.len p.2.cap, .int .i64 p.1]
def elemV : Value → Option (DataW Value × List MemPlace)
  | .agg cs => if factCells cs.toList = true then some (.held (.agg cs), []) else none
  | _ => none
theorem elemV_mk (s : ByteArray) (o n : Int) (s' : ByteArray) (a : Option Addr) (l c : Nat) (p : Int) : elemV (.agg #[.string s, .int .i64 o, .int .i64 n, .string s', .slice a l c, .int .i64 p]) = some (.held (.agg #[.string s, .int .i64 o, .int .i64 n, .string s', .slice a l c, .int .i64 p]), []) := rfl
theorem elemV_fv (p : Nat × Fc) : elemV (fv p) = some (.held (fv p), []) := rfl
theorem elemV_held {v : Value} {z : DataW Value × List MemPlace} (h : elemV v = some z) : z.1 = .held v := by
  cases v with
  | agg cs =>
    simp only [elemV] at h
    split at h
    · cases h; rfl
    · cases h
  | _ => simp [elemV] at h
theorem elemV_inv {v : Value} {z : DataW Value × List MemPlace} (h : elemV v = some z) : ∃ s o n s' a l c p, v = .agg #[.string s, .int .i64 o, .int .i64 n, .string s', .slice a l c, .int .i64 p] := by
  cases v with
  | agg cs =>
    simp only [elemV] at h
    split at h
    · rename_i hc
      unfold factCells at hc
      split at hc
      · rename_i hl
        exact ⟨_, _, _, _, _, _, _, _, congrArg Value.agg (Array.toList_inj.1 hl)⟩
      · cases hc
    · cases h
  | _ => simp [elemV] at h

/-- The places rise, and no text stands twice. -/
def Asc (E : List (Nat × Fc)) : Prop := E.Pairwise fun p q => p.1 < q.1 ∧ exT p.2.t ≠ exT q.2.t
/-- The texts of a row of facts. -/
def fE (E : List (Nat × Fc)) (l : List UInt8) : Bool := E.any fun p => decide (exT p.2.t = l)

/-- Block b is a map whose entries are the facts E. -/
def KMap (w : World) (b : Nat) (E : List (Nat × Fc)) : Prop :=
  ∃ D : DataW Value, w.ownsMap Tryz.prog 9 elemV b E.length D ∧ (∀ l, Maps.has D (.string l) = fE E l) ∧ (∀ p ∈ E, ∀ zd, D.atKey (.string (exT p.2.t)) zd = .held (fv p)) ∧ Maps.size D = E.length

theorem KMap.low {w w' : World} {b : Nat} {E : List (Nat × Fc)} (h : KMap w b E) (hb : Below w.heap.size w w') : KMap w' b E := by
  obtain ⟨D, hD, r⟩ := h
  exact ⟨D, hD.kept (row := none) ⟨hb.os, hb.tape, hb.output, hb.size, fun k hk _ => hb.block k hk⟩ (by simp), r⟩
theorem KMap.kept {w w' : World} {b g : Nat} {E : List (Nat × Fc)} (h : KMap w b E) (hb : w.grownBy w' (some g)) (hne : b ≠ g) : KMap w' b E := by
  obtain ⟨D, hD, r⟩ := h
  exact ⟨D, hD.kept hb (by simp [hne]), r⟩
theorem KMap.block {w w' : World} {b : Nat} {E : List (Nat × Fc)} (h : KMap w b E) (hb : w'.heap[b]? = w.heap[b]?) : KMap w' b E := by
  obtain ⟨D, ⟨es, cl, h1, r1⟩, r⟩ := h
  exact ⟨D, ⟨es, cl, hb.trans h1, r1⟩, r⟩
theorem KMap.lt {w : World} {b : Nat} {E : List (Nat × Fc)} (h : KMap w b E) : b < w.heap.size := by
  obtain ⟨D, hD, _⟩ := h
  exact hD.lt
theorem KMap.new (w : World) : KMap (w.alloc (.map #[] 0)) w.heap.size [] := ⟨_, World.ownsMap_made w _ _ _, fun _ => rfl, (fun p hp => by cases hp), rfl⟩

/-- Of the map as it is known to the elder texts. -/
theorem KMap.facts {w : World} {b : Nat} {E : List (Nat × Fc)} (h : KMap w b E) : Facts w b E.length (fE E) := by
  obtain ⟨D, ⟨es, cl, hb, F, hs, rfl⟩, hf, _⟩ := h
  have hr : ∀ x ∈ es.toList, ∃ kl v, keyOf Tryz.prog 9 x.key = some kl ∧ WideElems.rd Tryz.prog 9 elemV x = some (kl, v) ∧ WideElems.rd Tryz.prog 9 factElem x = some (kl, .lit (.bool true)) := by
    intro x hx
    obtain ⟨y, hy⟩ := F.reads x hx
    have hk := WideElems.rd_key hy
    obtain ⟨z, hz, _⟩ := WideElems.rd_val hy
    obtain ⟨s, o, n, s', a, l, c, p, hv⟩ := elemV_inv hz
    refine ⟨y.1, y.2, hk, hy, ?_⟩
    unfold WideElems.rd
    rw [hk, hv, factElem_mk]
    rfl
  refine ⟨_, ⟨es, cl, hb, ⟨F.size, F.stamped, fun x hx => ?_⟩, hs, rfl⟩, fun l => ?_⟩
  · obtain ⟨kl, v, _, _, h2⟩ := hr x hx
    exact ⟨_, h2⟩
  · rw [← hf l]
    have key : ∀ {H : Type} (R : Value → Option (DataW H × List MemPlace)), (∀ x ∈ es.toList, ∃ kl v, keyOf Tryz.prog 9 x.key = some kl ∧ WideElems.rd Tryz.prog 9 R x = some (kl, v)) → Maps.has (DataW.map ((es.toList.map (WideElems.rg Tryz.prog 9 R)).foldr DataW.insert [])) (.string l) = es.toList.any fun x => (keyOf Tryz.prog 9 x.key).any fun kl => kl.sameKey (.string l) := by
      intro H R hR
      have e1 : ∀ (f : Lit × DataW H → Bool) (m : List (Lit × DataW H)), (m.foldr DataW.insert []).any f = m.any f := by
        intro f m
        induction m with
        | nil => rfl
        | cons y r ih => rw [List.foldr_cons, any_insert, ih, List.any_cons]
      show (List.foldr DataW.insert [] _).any _ = _
      rw [e1, List.any_map]
      apply Bool.eq_iff_iff.2
      simp only [List.any_eq_true, Function.comp]
      constructor
      · rintro ⟨x, hx, h⟩
        obtain ⟨kl, v, h1, h2⟩ := hR x hx
        rw [WideElems.rg_of h2] at h
        exact ⟨x, hx, by rw [h1]; exact h⟩
      · rintro ⟨x, hx, h⟩
        obtain ⟨kl, v, h1, h2⟩ := hR x hx
        rw [h1] at h
        exact ⟨x, hx, by rw [WideElems.rg_of h2]; exact h⟩
    rw [key factElem (fun x hx => by obtain ⟨kl, v, h1, _, h2⟩ := hr x hx; exact ⟨kl, _, h1, h2⟩), key elemV (fun x hx => by obtain ⟨kl, v, h1, h2, _⟩ := hr x hx; exact ⟨kl, v, h1, h2⟩)]

theorem fE_mem {E : List (Nat × Fc)} {p : Nat × Fc} (h : p ∈ E) : fE E (exT p.2.t) = true := List.any_eq_true.2 ⟨p, h, by simp⟩
theorem fE_snoc (E : List (Nat × Fc)) (p : Nat × Fc) (l : List UInt8) : fE (E ++ [p]) l = (fE E l || decide (exT p.2.t = l)) := by
  unfold fE
  rw [List.any_append]
  simp

/-- A fact that was not there is put. -/
theorem KMap.put {w w' : World} {b : Nat} {E : List (Nat × Fc)} {D : DataW Value} (p : Nat × Fc) (hD : w.ownsMap Tryz.prog 9 elemV b E.length D) (hf : ∀ l, Maps.has D (.string l) = fE E l) (ha : ∀ p ∈ E, ∀ zd, D.atKey (.string (exT p.2.t)) zd = .held (fv p)) (hs : Maps.size D = E.length) (hn : fE E (exT p.2.t) = false)
    (h : w'.ownsMap Tryz.prog 9 elemV b (E.length + 1) (D.put (.string (exT p.2.t)) (.held (fv p)))) : KMap w' b (E ++ [p]) := by
  have hk : WideAt.IsKeyLit (.string (exT p.2.t)) := trivial
  refine ⟨_, by rw [List.length_append]; exact h, fun l => ?_, fun q hq zd => ?_, ?_⟩
  · rw [fE_snoc]
    by_cases hl : l = exT p.2.t
    · subst hl
      rw [has_put_same hD.isMap hk]
      simp
    · rw [has_put_other (fun e => hl (by injection e)), hf l]
      simp [Ne.symm hl]
  · rcases List.mem_append.1 hq with hq | hq
    · have hne : exT q.2.t ≠ exT p.2.t := fun e => by rw [← e, fE_mem hq] at hn; cases hn
      rw [atKey_put_other (fun e => hne (by injection e))]
      exact ha q hq zd
    · rw [List.mem_singleton.1 hq]
      exact atKey_put_same hD.isMap hk _ _
  · have := size_put (D := D) (k := .string (exT p.2.t)) (hD.tidy law) (.held (fv p))
    rw [this, hf, hn, hs]
    simp

/-- A fact is taken away. -/
theorem KMap.del {w w' : World} {b : Nat} {E F : List (Nat × Fc)} {D : DataW Value} (p : Nat × Fc) (hD : w.ownsMap Tryz.prog 9 elemV b (E ++ p :: F).length D) (hA : Asc (E ++ p :: F)) (hf : ∀ l, Maps.has D (.string l) = fE (E ++ p :: F) l) (ha : ∀ q ∈ E ++ p :: F, ∀ zd, D.atKey (.string (exT q.2.t)) zd = .held (fv q)) (hs : Maps.size D = (E ++ p :: F).length)
    {m : Nat} (h : w'.ownsMap Tryz.prog 9 elemV b m (D.del (.string (exT p.2.t)))) : KMap w' b (E ++ F) := by
  have hE : ∀ q ∈ E ++ F, exT q.2.t ≠ exT p.2.t := by
    intro q hq
    unfold Asc at hA
    rw [List.pairwise_append] at hA
    obtain ⟨_, h2, h3⟩ := hA
    rcases List.mem_append.1 hq with hq | hq
    · exact (h3 q hq p (by simp)).2
    · exact Ne.symm ((List.pairwise_cons.1 h2).1 q hq).2
  have hsz : Maps.size (D.del (.string (exT p.2.t))) = (E ++ F).length := by
    have hh : Maps.has D (.string (exT p.2.t)) = true := by rw [hf]; exact fE_mem (by simp)
    have := size_del (D := D) (k := .string (exT p.2.t)) (hD.tidy law)
    rw [hh] at this
    simp at hs this ⊢
    omega
  have hle := h.size_le
  obtain ⟨es, cl, h1, h2, h3, h4⟩ := h
  have hes : es.size = (E ++ F).length := by
    rw [← hsz, h4]
    simp [Maps.size, length_sorted]
  refine ⟨_, ⟨es, cl, h1, h2, by omega, h4⟩, fun l => ?_, fun q hq zd => ?_, hsz⟩
  · by_cases hl : l = exT p.2.t
    · subst hl
      rw [has_del_same]
      symm
      unfold fE
      rw [List.any_eq_false]
      intro q hq
      simp [hE q hq]
    · rw [has_del_other (fun e => hl (by injection e)), hf]
      unfold fE
      simp [List.any_append, Ne.symm hl]
  · have hq' : q ∈ E ++ p :: F := by
      rcases List.mem_append.1 hq with hq | hq
      · exact List.mem_append.2 (Or.inl hq)
      · exact List.mem_append.2 (Or.inr (by simp [hq]))
    rw [atKey_del_other (fun e => hE q hq (by injection e))]
    exact ha q hq' zd

theorem hDV_low {w w' : World} {b n : Nat} {D : DataW Value} (h : w.ownsMap Tryz.prog 9 elemV b n D) (hb : Below w.heap.size w w') : w'.ownsMap Tryz.prog 9 elemV b n D :=
  h.kept (row := none) ⟨hb.os, hb.tape, hb.output, hb.size, fun k hk _ => hb.block k hk⟩ (by simp)

set_option maxRecDepth 100000 in
set_option maxHeartbeats 2000000 in
theorem addK_there (b : Nat) (E : List (Nat × Fc)) (t : Tm) (op n : Int) (s : ByteArray) (a : Option Addr) (len cap : Nat) (w : World) (hf : KMap w b E) (hl : Lies w 0 t (tmCells op n s a len cap)) (hr : rightT t = true) (hz : t.size ≤ 400) (ht : Tab w) (hth : fE E (exT t) = true) :
    Calls Tryz.prog 34 #[.map (some b), .agg #[.int .i64 op, .int .i64 n, .string s, .slice a len cap], .int .i64 300] w fun e w' => e = .returned (.tuple #[.agg #[.string ByteArray.empty, .int .i64 0, .int .i64 0, .string ByteArray.empty, .slice none 0 0, .int .i64 0], .bool false]) ∧ Below w.heap.size w w' := by
  have h23 := hide (ext_calls t op n s a len cap)
  have hx := exT_le t hr
  have hb0 : Below w.heap.size w ((w.alloc (.cells #[.int .i64 op, .int .i64 n, .string s, .slice a len cap] 35)).alloc (.cells #[.string ByteArray.empty, .int .i64 0, .int .i64 0, .string ByteArray.empty, .slice none 0 0, .int .i64 0] 46)) := (abD _).trans ((abD _).mono (abD _).size)
  have HL := hide (hl.below hb0)
  have HR := hide hr
  have HT := hide (ht.on hb0)
  obtain ⟨D, hD, hDf, hDa, hDs⟩ := hf
  have HD := hide (World.ownsMap.alloc (World.ownsMap.alloc hD (.cells #[.int .i64 op, .int .i64 n, .string s, .slice a len cap] 35)) (.cells #[.string ByteArray.empty, .int .i64 0, .int .i64 0, .string ByteArray.empty, .slice none 0 0, .int .i64 0] 46))
  have HB := hide hb0
  have HK := hide (key_mk (exT t) (by omega))
  have HH : Hid (Maps.has D (.string (exT t)) = true) := (hDf _).trans hth
  have HZ : Hid (FBox ((w.alloc (.cells #[.int .i64 op, .int .i64 n, .string s, .slice a len cap] 35)).alloc (.cells #[.string ByteArray.empty, .int .i64 0, .int .i64 0, .string ByteArray.empty, .slice none 0 0, .int .i64 0] 46)) (w.heap.size + 1)) := by
    have := FBox.new (w.alloc (.cells #[.int .i64 op, .int .i64 n, .string s, .slice a len cap] 35))
    rwa [heap_size_alloc] at this
  generalize exT t = x at *
  have c0 := kpc (abD (w := w.alloc (.cells #[.int .i64 op, .int .i64 n, .string s, .slice a len cap] 35)) (.cells #[.string ByteArray.empty, .int .i64 0, .int .i64 0, .string ByteArray.empty, .slice none 0 0, .int .i64 0] 46)) (box_cell w #[.int .i64 op, .int .i64 n, .string s, .slice a len cap] 35 0 _ rfl)
  have c1 := kpc (abD (w := w.alloc (.cells #[.int .i64 op, .int .i64 n, .string s, .slice a len cap] 35)) (.cells #[.string ByteArray.empty, .int .i64 0, .int .i64 0, .string ByteArray.empty, .slice none 0 0, .int .i64 0] 46)) (box_cell w #[.int .i64 op, .int .i64 n, .string s, .slice a len cap] 35 1 _ rfl)
  have c2 := kpc (abD (w := w.alloc (.cells #[.int .i64 op, .int .i64 n, .string s, .slice a len cap] 35)) (.cells #[.string ByteArray.empty, .int .i64 0, .int .i64 0, .string ByteArray.empty, .slice none 0 0, .int .i64 0] 46)) (box_cell w #[.int .i64 op, .int .i64 n, .string s, .slice a len cap] 35 2 _ rfl)
  have c3 := kpc (abD (w := w.alloc (.cells #[.int .i64 op, .int .i64 n, .string s, .slice a len cap] 35)) (.cells #[.string ByteArray.empty, .int .i64 0, .int .i64 0, .string ByteArray.empty, .slice none 0 0, .int .i64 0] 46)) (box_cell w #[.int .i64 op, .int .i64 n, .string s, .slice a len cap] 35 3 _ rfl)
  clear hl hr ht hx hb0 hD hDf hth hDa hDs
  go_enter Tryz.func34, Tryz.ntmps34
  go_wp2_with fail
  generalize hgw : (w.alloc (.cells #[.int .i64 op, .int .i64 n, .string s, .slice a len cap] 35)).alloc (.cells #[.string ByteArray.empty, .int .i64 0, .int .i64 0, .string ByteArray.empty, .slice none 0 0, .int .i64 0] 46) = W0 at *
  refine gw_world hgw ?_
  clear hgw
  have l0 := lt_of_cell c0
  have nn0 := Nat.ne_of_lt l0
  have m0 := Ne.symm nn0
  have hln := fun ty => World.ownsMap.len (unhide HD).drew Tryz.underlying42 ty
  have hln2 := fun o ty => World.ownsMap.len ((unhide HD).drew.alloc o) Tryz.underlying42 ty
  go_cut [8] (fun p wx => AddCut ⟨x.toArray⟩ op n s a len cap (Maps.size D) W0 p wx)
  case first =>
    go_region_held (fun y => y.cell? ⟨w.heap.size, 0, none⟩ = some (.int .i64 op) ∧ y.cell? ⟨w.heap.size, 1, none⟩ = some (.int .i64 n) ∧ y.cell? ⟨w.heap.size, 2, none⟩ = some (.string s) ∧ y.cell? ⟨w.heap.size, 3, none⟩ = some (.slice a len cap)) (go_keep)
      (first
        | (go_at_call 47
           refine (unhide h23 _ ?_ (unhide HR) hz ?_).mono ?_
           first
             | exact (unhide HL).below ((Below.refl _ _).drew)
             | exact (unhide HL).below ((abD _).drew)
           first
             | exact Lib.tabBelow_of_tabIs ((unhide HT).on ((Below.refl _ _).drew))
             | exact Lib.tabBelow_of_tabIs ((unhide HT).on ((abD _).drew))
           rintro e w2 ⟨rfl, hb2⟩
           have hb02 : Hid (Below W0.heap.size W0 w2) := by
             first
               | exact below_drew' hb2
               | exact bt (abD _) (below_drew' hb2) (Nat.le_refl _)
           try have zz2 := hide ((FBox.new W0).drew.below hb2)
           try obtain ⟨p0, p1, p2, p3, p4, p5, q0, q1, q2, q3, q4, q5⟩ := (unhide zz2).facts
           try have nz := Nat.ne_of_lt (lt_of_heap (unhide zz2))
           try have mz := Ne.symm nz
           have HD2 := hide (hDV_low (unhide HD) (unhide hb02))
           have f0 := kpc (unhide hb02) c0
           have l2 := lt_of_cell f0
           have n2' := Nat.ne_of_lt l2
           have m2 := Ne.symm n2'
           have f1 := kpc (unhide hb02) c1
           have f2 := kpc (unhide hb02) c2
           have f3 := kpc (unhide hb02) c3
           have hln3 := fun ty => World.ownsMap.len (unhide HD2) Tryz.underlying42 ty
           have hln4 := fun o ty => World.ownsMap.len ((unhide HD2).alloc o) Tryz.underlying42 ty))
    all_goals
      go_wp2_with fail
      go_meet
      first
        | (with_reducible refine AddCut.late ?_
           exact unhide hb02)
        | (with_reducible refine AddCut.early ?_ ?_
           · exact unhide hb02
           · exact unhide zz2)
  case rest =>
    obtain ⟨g, rfl, hg, hbx, hge⟩ := hcut
    have HBX := hide ((unhide HB).trans (hbx.mono (unhide HB).size))
    have HDX := hide (hDV_low (unhide HD) hbx)
    have HZX := hide ((unhide HZ).below hbx)
    have e0 := cell_of_row hg (j := 0) (by simp)
    simp only [List.getElem_toArray, List.getElem_cons_zero] at e0
    have lz : w.heap.size + 1 < wc.heap.size := lt_of_heap (unhide HZX)
    have nz := Nat.ne_of_lt lz
    have mz := Ne.symm nz
    obtain ⟨p0, p1, p2, p3, p4, p5, q0, q1, q2, q3, q4, q5⟩ := (unhide HZX).facts
    clear hg hbx hge c0 c1 c2 c3 l0 nn0 m0 hln hln2 HL HT HB HD
    go_wp2_with (at_lookup; refine wpList_lookup_own_ok _ rfl _ _ 42 rfl 9 46 law Tryz.underlying42 elemV (zero40 _) (.held (.agg #[.string ByteArray.empty, .int .i64 0, .int .i64 0, .string ByteArray.empty, .slice none 0 0, .int .i64 0])) [] rfl b E.length D rfl (unhide HDX) _ _ rfl (unhide HK) ?_; intro v ps hv; obtain ⟨y1, y2, y3, y4, y5, y6, y7, y8, rfl⟩ := elemV_inv hv; rw [unhide HH])
    have hF : FRow _ (w.heap.size + 1) (.string ⟨#[]⟩) (.int .i64 0) (.int .i64 0) (.string ⟨#[]⟩) (.slice none 0 0) (.int .i64 0) := (unhide HZX).fill (.string ⟨#[]⟩) (.int .i64 0) (.int .i64 0) (.string ⟨#[]⟩) (.slice none 0 0) (.int .i64 0)
    have hS := set6_below (g := w.heap.size + 1) (x0 := .string ⟨#[]⟩) (x1 := .int .i64 0) (x2 := .int .i64 0) (x3 := .string ⟨#[]⟩) (x4 := .slice none 0 0) (x5 := .int .i64 0) (unhide HBX) (by omega)
    obtain ⟨f0, f1, f2, f3, f4, f5⟩ := (hF.below (abD (.cells #[.string y1, .int .i64 y2, .int .i64 y3, .string y4, .slice y5 y6 y7, .int .i64 y8] 46))).cells
    exact bodyPost_ret (v := .tuple #[.agg #[.string ⟨#[]⟩, .int .i64 0, .int .i64 0, .string ⟨#[]⟩, .slice none 0 0, .int .i64 0], .bool false]) (by simp [results, Tryz.results34, go_sem, f0, f1, f2, f3, f4, f5]; try rfl) rfl ⟨rfl, hS.alloc hS.size _⟩


set_option maxRecDepth 100000 in
set_option maxHeartbeats 2000000 in
theorem addK_full (b : Nat) (E : List (Nat × Fc)) (t : Tm) (op n : Int) (s : ByteArray) (a : Option Addr) (len cap : Nat) (w : World) (hf : KMap w b E) (hl : Lies w 0 t (tmCells op n s a len cap)) (hr : rightT t = true) (hz : t.size ≤ 400) (ht : Tab w) (hth : fE E (exT t) = false) (hfu : 300 ≤ E.length) (hfl : E.length ≤ 300) :
    Calls Tryz.prog 34 #[.map (some b), .agg #[.int .i64 op, .int .i64 n, .string s, .slice a len cap], .int .i64 300] w fun e w' => e = .returned (.tuple #[.agg #[.string ByteArray.empty, .int .i64 0, .int .i64 0, .string ByteArray.empty, .slice none 0 0, .int .i64 0], .bool false]) ∧ Below w.heap.size w w' := by
  have h23 := hide (ext_calls t op n s a len cap)
  have hx := exT_le t hr
  have hb0 : Below w.heap.size w ((w.alloc (.cells #[.int .i64 op, .int .i64 n, .string s, .slice a len cap] 35)).alloc (.cells #[.string ByteArray.empty, .int .i64 0, .int .i64 0, .string ByteArray.empty, .slice none 0 0, .int .i64 0] 46)) := (abD _).trans ((abD _).mono (abD _).size)
  have HL := hide (hl.below hb0)
  have HR := hide hr
  have HT := hide (ht.on hb0)
  obtain ⟨D, hD, hDf, hDa, hDs⟩ := hf
  have HD := hide (World.ownsMap.alloc (World.ownsMap.alloc hD (.cells #[.int .i64 op, .int .i64 n, .string s, .slice a len cap] 35)) (.cells #[.string ByteArray.empty, .int .i64 0, .int .i64 0, .string ByteArray.empty, .slice none 0 0, .int .i64 0] 46))
  have HB := hide hb0
  have HK := hide (key_mk (exT t) (by omega))
  have HH : Hid (Maps.has D (.string (exT t)) = false) := (hDf _).trans hth
  have HZ : Hid (FBox ((w.alloc (.cells #[.int .i64 op, .int .i64 n, .string s, .slice a len cap] 35)).alloc (.cells #[.string ByteArray.empty, .int .i64 0, .int .i64 0, .string ByteArray.empty, .slice none 0 0, .int .i64 0] 46)) (w.heap.size + 1)) := by
    have := FBox.new (w.alloc (.cells #[.int .i64 op, .int .i64 n, .string s, .slice a len cap] 35))
    rwa [heap_size_alloc] at this
  have hsd : decide ((300 : Int) ≤ ((Maps.size D : Nat) : Int)) = true := decide_eq_true (by omega)
  have hsz : ¬ ((Maps.size D : Nat) : Int) < 300 := by omega
  generalize exT t = x at *
  have c0 := kpc (abD (w := w.alloc (.cells #[.int .i64 op, .int .i64 n, .string s, .slice a len cap] 35)) (.cells #[.string ByteArray.empty, .int .i64 0, .int .i64 0, .string ByteArray.empty, .slice none 0 0, .int .i64 0] 46)) (box_cell w #[.int .i64 op, .int .i64 n, .string s, .slice a len cap] 35 0 _ rfl)
  have c1 := kpc (abD (w := w.alloc (.cells #[.int .i64 op, .int .i64 n, .string s, .slice a len cap] 35)) (.cells #[.string ByteArray.empty, .int .i64 0, .int .i64 0, .string ByteArray.empty, .slice none 0 0, .int .i64 0] 46)) (box_cell w #[.int .i64 op, .int .i64 n, .string s, .slice a len cap] 35 1 _ rfl)
  have c2 := kpc (abD (w := w.alloc (.cells #[.int .i64 op, .int .i64 n, .string s, .slice a len cap] 35)) (.cells #[.string ByteArray.empty, .int .i64 0, .int .i64 0, .string ByteArray.empty, .slice none 0 0, .int .i64 0] 46)) (box_cell w #[.int .i64 op, .int .i64 n, .string s, .slice a len cap] 35 2 _ rfl)
  have c3 := kpc (abD (w := w.alloc (.cells #[.int .i64 op, .int .i64 n, .string s, .slice a len cap] 35)) (.cells #[.string ByteArray.empty, .int .i64 0, .int .i64 0, .string ByteArray.empty, .slice none 0 0, .int .i64 0] 46)) (box_cell w #[.int .i64 op, .int .i64 n, .string s, .slice a len cap] 35 3 _ rfl)
  clear hl hr ht hx hb0 hD hDf hth hDa hDs hfu hfl
  go_enter Tryz.func34, Tryz.ntmps34
  go_wp2_with fail
  generalize hgw : (w.alloc (.cells #[.int .i64 op, .int .i64 n, .string s, .slice a len cap] 35)).alloc (.cells #[.string ByteArray.empty, .int .i64 0, .int .i64 0, .string ByteArray.empty, .slice none 0 0, .int .i64 0] 46) = W0 at *
  refine gw_world hgw ?_
  clear hgw
  have l0 := lt_of_cell c0
  have nn0 := Nat.ne_of_lt l0
  have m0 := Ne.symm nn0
  have hln := fun ty => World.ownsMap.len (unhide HD).drew Tryz.underlying42 ty
  have hln2 := fun o ty => World.ownsMap.len ((unhide HD).drew.alloc o) Tryz.underlying42 ty
  go_cut [8] (fun p wx => AddCut ⟨x.toArray⟩ op n s a len cap (Maps.size D) W0 p wx)
  case first =>
    go_region_held (fun y => y.cell? ⟨w.heap.size, 0, none⟩ = some (.int .i64 op) ∧ y.cell? ⟨w.heap.size, 1, none⟩ = some (.int .i64 n) ∧ y.cell? ⟨w.heap.size, 2, none⟩ = some (.string s) ∧ y.cell? ⟨w.heap.size, 3, none⟩ = some (.slice a len cap)) (go_keep)
      (first
        | (go_at_call 47
           refine (unhide h23 _ ?_ (unhide HR) hz ?_).mono ?_
           first
             | exact (unhide HL).below ((Below.refl _ _).drew)
             | exact (unhide HL).below ((abD _).drew)
           first
             | exact Lib.tabBelow_of_tabIs ((unhide HT).on ((Below.refl _ _).drew))
             | exact Lib.tabBelow_of_tabIs ((unhide HT).on ((abD _).drew))
           rintro e w2 ⟨rfl, hb2⟩
           have hb02 : Hid (Below W0.heap.size W0 w2) := by
             first
               | exact below_drew' hb2
               | exact bt (abD _) (below_drew' hb2) (Nat.le_refl _)
           try have zz2 := hide ((FBox.new W0).drew.below hb2)
           try obtain ⟨p0, p1, p2, p3, p4, p5, q0, q1, q2, q3, q4, q5⟩ := (unhide zz2).facts
           try have nz := Nat.ne_of_lt (lt_of_heap (unhide zz2))
           try have mz := Ne.symm nz
           have HD2 := hide (hDV_low (unhide HD) (unhide hb02))
           have f0 := kpc (unhide hb02) c0
           have l2 := lt_of_cell f0
           have n2' := Nat.ne_of_lt l2
           have m2 := Ne.symm n2'
           have f1 := kpc (unhide hb02) c1
           have f2 := kpc (unhide hb02) c2
           have f3 := kpc (unhide hb02) c3
           have hln3 := fun ty => World.ownsMap.len (unhide HD2) Tryz.underlying42 ty
           have hln4 := fun o ty => World.ownsMap.len ((unhide HD2).alloc o) Tryz.underlying42 ty))
    all_goals
      go_wp2_with fail
      go_meet
      first
        | (with_reducible refine AddCut.late ?_
           exact unhide hb02)
        | (with_reducible refine AddCut.early ?_ ?_
           · exact unhide hb02
           · exact unhide zz2)
  case rest =>
    obtain ⟨g, rfl, hg, hbx, hge⟩ := hcut
    have HBX := hide ((unhide HB).trans (hbx.mono (unhide HB).size))
    have HDX := hide (hDV_low (unhide HD) hbx)
    have HZX := hide ((unhide HZ).below hbx)
    have e0 := cell_of_row hg (j := 0) (by simp)
    simp only [List.getElem_toArray, List.getElem_cons_zero] at e0
    have lz : w.heap.size + 1 < wc.heap.size := lt_of_heap (unhide HZX)
    have nz := Nat.ne_of_lt lz
    have mz := Ne.symm nz
    obtain ⟨p0, p1, p2, p3, p4, p5, q0, q1, q2, q3, q4, q5⟩ := (unhide HZX).facts
    have hlnX := fun o ty => World.ownsMap.len ((unhide HDX).alloc o) Tryz.underlying42 ty
    clear hg hbx hge c0 c1 c2 c3 l0 nn0 m0 hln hln2 HL HT HB HD
    go_wp2_with (at_lookup; refine wpList_lookup_own_ok _ rfl _ _ 42 rfl 9 46 law Tryz.underlying42 elemV (zero40 _) (.held (.agg #[.string ByteArray.empty, .int .i64 0, .int .i64 0, .string ByteArray.empty, .slice none 0 0, .int .i64 0])) [] rfl b E.length D rfl (unhide HDX) _ _ rfl (unhide HK) ?_; intro v ps hv; obtain ⟨y1, y2, y3, y4, y5, y6, y7, y8, rfl⟩ := elemV_inv hv; rw [unhide HH])
    have hF : FRow _ (w.heap.size + 1) (.string ⟨#[]⟩) (.int .i64 0) (.int .i64 0) (.string ⟨#[]⟩) (.slice none 0 0) (.int .i64 0) := (unhide HZX).fill (.string ⟨#[]⟩) (.int .i64 0) (.int .i64 0) (.string ⟨#[]⟩) (.slice none 0 0) (.int .i64 0)
    have hS := set6_below (g := w.heap.size + 1) (x0 := .string ⟨#[]⟩) (x1 := .int .i64 0) (x2 := .int .i64 0) (x3 := .string ⟨#[]⟩) (x4 := .slice none 0 0) (x5 := .int .i64 0) (unhide HBX) (by omega)
    obtain ⟨f0, f1, f2, f3, f4, f5⟩ := (hF.below (abD (.cells #[.string y1, .int .i64 y2, .int .i64 y3, .string y4, .slice y5 y6 y7, .int .i64 y8] 46))).cells
    exact bodyPost_ret (v := .tuple #[.agg #[.string ⟨#[]⟩, .int .i64 0, .int .i64 0, .string ⟨#[]⟩, .slice none 0 0, .int .i64 0], .bool false]) (by simp [results, Tryz.results34, go_sem, f0, f1, f2, f3, f4, f5]; try rfl) rfl ⟨rfl, hS.alloc hS.size _⟩


set_option maxRecDepth 100000 in
set_option maxHeartbeats 2000000 in
theorem addK_new (b : Nat) (E : List (Nat × Fc)) (t : Tm) (op n : Int) (s : ByteArray) (a : Option Addr) (len cap : Nat) (w : World) (hf : KMap w b E) (hl : Lies w 0 t (tmCells op n s a len cap)) (hr : rightT t = true) (hz : t.size ≤ 400) (ht : Tab w) (hth : fE E (exT t) = false) (hmo : E.length < 300) :
    Calls Tryz.prog 34 #[.map (some b), .agg #[.int .i64 op, .int .i64 n, .string s, .slice a len cap], .int .i64 300] w fun e w' => e = .returned (.tuple #[fv (E.length, ⟨t, op, n, s, a, len, cap⟩), .bool true]) ∧ KMap w' b (E ++ [(E.length, ⟨t, op, n, s, a, len, cap⟩)]) ∧ w.grownBy w' (some b) := by
  have h23 := hide (ext_calls t op n s a len cap)
  have hx := exT_le t hr
  have hb0 : Below w.heap.size w ((w.alloc (.cells #[.int .i64 op, .int .i64 n, .string s, .slice a len cap] 35)).alloc (.cells #[.string ByteArray.empty, .int .i64 0, .int .i64 0, .string ByteArray.empty, .slice none 0 0, .int .i64 0] 46)) := (abD _).trans ((abD _).mono (abD _).size)
  have HL := hide (hl.below hb0)
  have HR := hide hr
  have HT := hide (ht.on hb0)
  obtain ⟨D, hD, hDf, hDa, hDs⟩ := hf
  have HD := hide (World.ownsMap.alloc (World.ownsMap.alloc hD (.cells #[.int .i64 op, .int .i64 n, .string s, .slice a len cap] 35)) (.cells #[.string ByteArray.empty, .int .i64 0, .int .i64 0, .string ByteArray.empty, .slice none 0 0, .int .i64 0] 46))
  have HB := hide hb0
  have HK := hide (key_mk (exT t) (by omega))
  have HH : Hid (Maps.has D (.string (exT t)) = false) := (hDf _).trans hth
  have hsz : ((Maps.size D : Nat) : Int) < 300 := by omega
  have hsd : decide ((300 : Int) ≤ ((Maps.size D : Nat) : Int)) = false := by simp; omega
  have hbw := hD.lt
  have hln0 : E.length ≤ 4194304 := by omega
  have HPUT : Hid (∀ {W : World} {D' : DataW Value}, W.ownsMap Tryz.prog 9 elemV b (E.length + 1) D' → D' = D.put (.string (exT t)) (.held (.agg #[.string ⟨(exT t).toArray⟩, .int .i64 op, .int .i64 n, .string s, .slice a len cap, .int .i64 (Maps.size D)])) → KMap W b (E ++ [(E.length, ⟨t, op, n, s, a, len, cap⟩)])) := fun {W D'} h e => KMap.put (E.length, ⟨t, op, n, s, a, len, cap⟩) hD hDf hDa hDs hth (by subst e; rw [hDs] at h; exact h)
  have HVAL : Hid (fv (E.length, ⟨t, op, n, s, a, len, cap⟩) = .agg #[.string ⟨(exT t).toArray⟩, .int .i64 op, .int .i64 n, .string s, .slice a len cap, .int .i64 (Maps.size D)]) := by show _ = _; rw [hDs]; rfl
  have HZ : Hid (FBox ((w.alloc (.cells #[.int .i64 op, .int .i64 n, .string s, .slice a len cap] 35)).alloc (.cells #[.string ByteArray.empty, .int .i64 0, .int .i64 0, .string ByteArray.empty, .slice none 0 0, .int .i64 0] 46)) (w.heap.size + 1)) := by
    have := FBox.new (w.alloc (.cells #[.int .i64 op, .int .i64 n, .string s, .slice a len cap] 35))
    rwa [heap_size_alloc] at this
  generalize exT t = x at *
  have c0 := kpc (abD (w := w.alloc (.cells #[.int .i64 op, .int .i64 n, .string s, .slice a len cap] 35)) (.cells #[.string ByteArray.empty, .int .i64 0, .int .i64 0, .string ByteArray.empty, .slice none 0 0, .int .i64 0] 46)) (box_cell w #[.int .i64 op, .int .i64 n, .string s, .slice a len cap] 35 0 _ rfl)
  have c1 := kpc (abD (w := w.alloc (.cells #[.int .i64 op, .int .i64 n, .string s, .slice a len cap] 35)) (.cells #[.string ByteArray.empty, .int .i64 0, .int .i64 0, .string ByteArray.empty, .slice none 0 0, .int .i64 0] 46)) (box_cell w #[.int .i64 op, .int .i64 n, .string s, .slice a len cap] 35 1 _ rfl)
  have c2 := kpc (abD (w := w.alloc (.cells #[.int .i64 op, .int .i64 n, .string s, .slice a len cap] 35)) (.cells #[.string ByteArray.empty, .int .i64 0, .int .i64 0, .string ByteArray.empty, .slice none 0 0, .int .i64 0] 46)) (box_cell w #[.int .i64 op, .int .i64 n, .string s, .slice a len cap] 35 2 _ rfl)
  have c3 := kpc (abD (w := w.alloc (.cells #[.int .i64 op, .int .i64 n, .string s, .slice a len cap] 35)) (.cells #[.string ByteArray.empty, .int .i64 0, .int .i64 0, .string ByteArray.empty, .slice none 0 0, .int .i64 0] 46)) (box_cell w #[.int .i64 op, .int .i64 n, .string s, .slice a len cap] 35 3 _ rfl)
  clear hl hr ht hx hb0 hD hDf hth hDa hDs hmo
  go_enter Tryz.func34, Tryz.ntmps34
  go_wp2_with fail
  generalize hgw : (w.alloc (.cells #[.int .i64 op, .int .i64 n, .string s, .slice a len cap] 35)).alloc (.cells #[.string ByteArray.empty, .int .i64 0, .int .i64 0, .string ByteArray.empty, .slice none 0 0, .int .i64 0] 46) = W0 at *
  refine gw_world hgw ?_
  clear hgw
  have l0 := lt_of_cell c0
  have nn0 := Nat.ne_of_lt l0
  have m0 := Ne.symm nn0
  have hln := fun ty => World.ownsMap.len (unhide HD).drew Tryz.underlying42 ty
  have hln2 := fun o ty => World.ownsMap.len ((unhide HD).drew.alloc o) Tryz.underlying42 ty
  go_cut [8] (fun p wx => AddCut ⟨x.toArray⟩ op n s a len cap (Maps.size D) W0 p wx)
  case first =>
    go_region_held (fun y => y.cell? ⟨w.heap.size, 0, none⟩ = some (.int .i64 op) ∧ y.cell? ⟨w.heap.size, 1, none⟩ = some (.int .i64 n) ∧ y.cell? ⟨w.heap.size, 2, none⟩ = some (.string s) ∧ y.cell? ⟨w.heap.size, 3, none⟩ = some (.slice a len cap)) (go_keep)
      (first
        | (go_at_call 47
           refine (unhide h23 _ ?_ (unhide HR) hz ?_).mono ?_
           first
             | exact (unhide HL).below ((Below.refl _ _).drew)
             | exact (unhide HL).below ((abD _).drew)
           first
             | exact Lib.tabBelow_of_tabIs ((unhide HT).on ((Below.refl _ _).drew))
             | exact Lib.tabBelow_of_tabIs ((unhide HT).on ((abD _).drew))
           rintro e w2 ⟨rfl, hb2⟩
           have hb02 : Hid (Below W0.heap.size W0 w2) := by
             first
               | exact below_drew' hb2
               | exact bt (abD _) (below_drew' hb2) (Nat.le_refl _)
           try have zz2 := hide ((FBox.new W0).drew.below hb2)
           try obtain ⟨p0, p1, p2, p3, p4, p5, q0, q1, q2, q3, q4, q5⟩ := (unhide zz2).facts
           try have nz := Nat.ne_of_lt (lt_of_heap (unhide zz2))
           try have mz := Ne.symm nz
           have HD2 := hide (hDV_low (unhide HD) (unhide hb02))
           have f0 := kpc (unhide hb02) c0
           have l2 := lt_of_cell f0
           have n2' := Nat.ne_of_lt l2
           have m2 := Ne.symm n2'
           have f1 := kpc (unhide hb02) c1
           have f2 := kpc (unhide hb02) c2
           have f3 := kpc (unhide hb02) c3
           have hln3 := fun ty => World.ownsMap.len (unhide HD2) Tryz.underlying42 ty
           have hln4 := fun o ty => World.ownsMap.len ((unhide HD2).alloc o) Tryz.underlying42 ty))
    all_goals
      go_wp2_with fail
      go_meet
      first
        | (with_reducible refine AddCut.late ?_
           exact unhide hb02)
        | (with_reducible refine AddCut.early ?_ ?_
           · exact unhide hb02
           · exact unhide zz2)
  case rest =>
    obtain ⟨g, rfl, hg, hbx, hge⟩ := hcut
    have HBX := hide ((unhide HB).trans (hbx.mono (unhide HB).size))
    have HDX := hide (hDV_low (unhide HD) hbx)
    have HZX := hide ((unhide HZ).below hbx)
    have HGX : Hid (FRow wc g (.string ⟨x.toArray⟩) (.int .i64 op) (.int .i64 n) (.string s) (.slice a len cap) (.int .i64 (Maps.size D))) := hg
    have lz : w.heap.size + 1 < wc.heap.size := lt_of_heap (unhide HZX)
    have lg : g < wc.heap.size := lt_of_heap hg
    have hgb : w.heap.size + 1 < g := by have := (unhide HZ : FBox W0 (w.heap.size + 1)); have := lt_of_heap this; omega
    have nz := Nat.ne_of_lt lz
    have mz := Ne.symm nz
    have ng := Nat.ne_of_lt lg
    have mg := Ne.symm ng
    have nzg : (w.heap.size + 1 = g) = False := eq_false (by omega)
    have mzg : (g = w.heap.size + 1) = False := eq_false (by omega)
    have HGB := hide hgb
    obtain ⟨e0, e1, e2, e3, e4, e5⟩ := (unhide HGX).cells
    obtain ⟨p0, p1, p2, p3, p4, p5, q0, q1, q2, q3, q4, q5⟩ := (unhide HZX).facts
    clear hg hbx hge c0 c1 c2 c3 l0 nn0 m0 hln hln2 HL HT HB HD hgb
    have hlnX := fun o ty => World.ownsMap.len ((unhide HDX).alloc o) Tryz.underlying42 ty
    go_wp2_with (first | (at_lookup; refine wpList_lookup_own_ok _ rfl _ _ 42 rfl 9 46 law Tryz.underlying42 elemV (zero40 _) (.held (.agg #[.string ByteArray.empty, .int .i64 0, .int .i64 0, .string ByteArray.empty, .slice none 0 0, .int .i64 0])) [] rfl b E.length D rfl (unhide HDX) _ _ rfl (unhide HK) ?_; intro v ps hv; obtain ⟨y1, y2, y3, y4, y5, y6, y7, y8, rfl⟩ := elemV_inv hv; rw [unhide HH]) | (at_mapUpdate; refine wpList_mapUpdate_own _ rfl _ _ _ 42 rfl 9 46 law Tryz.underlying42 elemV b E.length D rfl ((unhide HDX).alloc _) (by unfold maxLen; omega) _ _ _ rfl rfl (unhide HK) (.held (.agg #[.string ⟨x.toArray⟩, .int .i64 op, .int .i64 n, .string s, .slice a len cap, .int .i64 (Maps.size D)])) [] rfl ?_; intro w1 hown1 hgrow1; have HG1 : Hid (FRow w1 g (.string ⟨x.toArray⟩) (.int .i64 op) (.int .i64 n) (.string s) (.slice a len cap) (.int .i64 (Maps.size D))) := (hgrow1.block g (by simp; omega) (by simp; have := unhide HGB; omega)).trans ((unhide HGX).below (abD _)); have HZ1 : Hid (FBox w1 (w.heap.size + 1)) := (hgrow1.block (w.heap.size + 1) (by simp; omega) (by simp; omega)).trans ((unhide HZX).below (abD _)); have HO1 := hide hown1; have HGR1 := hide (gb_go (gb_go (gb_low (unhide HBX) (some b)) (World.grownBy_alloc _ _ _)) hgrow1); clear hown1 hgrow1; obtain ⟨j0, j1, j2, j3, j4, j5⟩ := (unhide HG1).cells; obtain ⟨k0, k1, k2, k3, k4, k5, i0, i1, i2, i3, i4, i5⟩ := (unhide HZ1).facts))
    have hF : FRow _ (w.heap.size + 1) (.string ⟨x.toArray⟩) (.int .i64 op) (.int .i64 n) (.string s) (.slice a len cap) (.int .i64 (Maps.size D)) := (unhide HZ1).fill (.string ⟨x.toArray⟩) (.int .i64 op) (.int .i64 n) (.string s) (.slice a len cap) (.int .i64 (Maps.size D))
    obtain ⟨f0, f1, f2, f3, f4, f5⟩ := hF.cells
    have hob : b ≠ w.heap.size + 1 := by omega
    exact bodyPost_ret (v := .tuple #[.agg #[.string ⟨x.toArray⟩, .int .i64 op, .int .i64 n, .string s, .slice a len cap, .int .i64 (Maps.size D)], .bool true]) (by simp [results, Tryz.results34, go_sem, f0, f1, f2, f3, f4, f5]; try rfl) rfl ⟨by rw [unhide HVAL], unhide HPUT ((((((World.ownsMap.setCell (unhide HO1) hob _).setCell hob _).setCell hob _).setCell hob _).setCell hob _).setCell hob _) rfl, gb_set (gb_set (gb_set (gb_set (gb_set (gb_set (unhide HGR1) (by omega) _) (by omega) _) (by omega) _) (by omega) _) (by omega) _) (by omega) _⟩

end Go.Proofs.YteminklafghgpaaGreatDoor
