/- Letters out of notes: what Play comes to, and the walks of impl's turn of a letter. -/
import Derived.Test.YtfbillhfbdconaaNm
import Derived.Test.YtfbillhfbdconaaYe
namespace Go.Proofs.Ytfbillhfbdconaa
open Go.RowKit Go.Deep

noncomputable def tryLt (l : Lt) (now : Int) : Lt := ⟨l.d, l.b, l.s, tryT l.d l.b l.s l.t l.n now, tryN l.d l.b l.s l.t l.n now⟩
def endLt (l : Lt) (g : Bool) : Lt := ⟨l.d, l.b, endX l.s g, l.t, l.n⟩
/-- A letter behind a note of it. -/
noncomputable def turnLt (p : Nt) (l : Lt) : Lt := if p.k = 2 then tryLt l p.t else if p.k = 3 ∨ p.k = 4 then endLt l (decide (p.k = 3)) else l
theorem turn2 {p : Nt} {l : Lt} (h : p.k = 2) : turnLt p l = tryLt l p.t := by unfold turnLt; rw [if_pos h]
theorem turn3 {p : Nt} {l : Lt} (h : p.k = 3) : turnLt p l = endLt l true := by unfold turnLt; rw [if_neg (by omega), if_pos (Or.inl h), decide_eq_true h]
theorem turn4 {p : Nt} {l : Lt} (h : p.k = 4) : turnLt p l = endLt l false := by unfold turnLt; rw [if_neg (by omega), if_pos (Or.inr h), decide_eq_false (by omega)]
theorem turn_no {p : Nt} {l : Lt} (h : ¬ p.k = 2 ∧ ¬ p.k = 3 ∧ ¬ p.k = 4) : turnLt p l = l := by unfold turnLt; rw [if_neg h.1, if_neg (by omega)]
theorem turn_d (p : Nt) (l : Lt) : (turnLt p l).d = l.d := by
  unfold turnLt
  split
  · rfl
  · split <;> rfl
noncomputable def okN (p : Nt) : Bool := noteB p.k p.h p.d p.b p.t
/-- Letters behind one more note. -/
noncomputable def playS (L : List Lt) (p : Nt) : List Lt := if okN p = true then (if p.k = 1 ∧ p.h = (L.length : Int) then L ++ [⟨p.d, p.b, 1, 0, 0⟩] else if p.h < (L.length : Int) then L.set p.h.toNat (turnLt p (listL L p.h.toNat)) else L) else L
noncomputable def playL (P : List Nt) : List Lt := P.foldl playS []
theorem playL_take {P : List Nt} {k : Nat} {p : Nt} (h : P[k]? = some p) : playL (P.take (k + 1)) = playS (playL (P.take k)) p := by
  unfold playL
  rw [List.take_add_one, h, List.foldl_append]
  rfl
theorem okN_facts {p : Nt} (h : okN p = true) : (0 ≤ p.h ∧ p.h ≤ 29) ∧ (1 ≤ p.k ∧ p.k ≤ 4) ∧ (p.k = 1 → p.d.size ≤ 10) := by
  unfold okN noteB at h
  rw [Bool.and_eq_true, decide_eq_true_iff] at h
  refine ⟨h.1, ?_, fun e => ?_⟩
  · by_cases q : 1 ≤ p.k ∧ p.k ≤ 4
    · exact q
    · rw [named_no q] at h; cases h.2
  · have h2 := h.2
    rw [e, named1, Bool.and_eq_true] at h2
    exact (domB_iff.1 h2.1).1.2
theorem play_no {L : List Lt} {p : Nt} (h : okN p = false) : playS L p = L := by unfold playS; rw [if_neg (by rw [h]; decide)]
theorem play_new {L : List Lt} {p : Nt} (h : okN p = true) (h1 : p.k = 1) (h2 : p.h = (L.length : Int)) : playS L p = L ++ [⟨p.d, p.b, 1, 0, 0⟩] := by unfold playS; rw [if_pos h, if_pos ⟨h1, h2⟩]
theorem play_set {L : List Lt} {p : Nt} {l : Lt} {i : Nat} (h : okN p = true) (hi : p.h = (i : Int)) (hl : L[i]? = some l) : playS L p = L.set i (turnLt p l) := by
  have hlt := (List.getElem?_eq_some_iff.1 hl).1
  unfold playS
  rw [if_pos h, if_neg (by omega), if_pos (by omega), hi, Int.toNat_natCast, listL_get hl]
theorem play_out {L : List Lt} {p : Nt} (h1 : ¬ (p.k = 1 ∧ p.h = (L.length : Int))) (h2 : ¬ p.h < (L.length : Int)) : playS L p = L := by unfold playS; rw [if_neg h1, if_neg h2]; simp
theorem play_same {L : List Lt} {p : Nt} (h1 : p.k = 1) (h2 : ¬ p.h = (L.length : Int)) : playS L p = L := by
  unfold playS
  split
  · rw [if_neg fun e => h2 e.2]
    split
    · rw [turn_no (by omega)]
      by_cases e : p.h.toNat < L.length
      · have : listL L p.h.toNat = L[p.h.toNat] := listL_get (List.getElem?_eq_getElem e)
        rw [this, List.set_getElem_self]
      · exact List.set_eq_of_length_le (by omega)
    · rfl
  · rfl
/-- What holds of all letters that are played. -/
def LtsOk (L : List Lt) : Prop := L.length ≤ 30 ∧ ∀ l ∈ L, l.d.size ≤ 10
theorem LtsOk.step {L : List Lt} (h : LtsOk L) (p : Nt) : LtsOk (playS L p) := by
  unfold playS
  split
  · rename_i hok
    obtain ⟨f1, f2, f3⟩ := okN_facts hok
    split
    · rename_i h1
      refine ⟨by simp; omega, fun l hl => ?_⟩
      rcases List.mem_append.1 hl with hl | hl
      · exact h.2 l hl
      · simp only [List.mem_singleton] at hl
        subst hl
        exact f3 h1.1
    · split
      · rename_i h2
        refine ⟨by rw [List.length_set]; exact h.1, fun l hl => ?_⟩
        rcases List.mem_or_eq_of_mem_set hl with hl | rfl
        · exact h.2 l hl
        · rw [turn_d]
          have e : p.h.toNat < L.length := by omega
          rw [show listL L p.h.toNat = L[p.h.toNat] from listL_get (List.getElem?_eq_getElem e)]
          exact h.2 _ (List.getElem_mem e)
      · exact h
  · exact h
theorem LtsOk.fold : ∀ (P : List Nt) (L : List Lt), LtsOk L → LtsOk (P.foldl playS L)
  | [], _, h => h
  | p :: r, _, h => LtsOk.fold r _ (h.step p)
theorem playL_ok (P : List Nt) : LtsOk (playL P) := LtsOk.fold P [] ⟨by simp, fun l hl => by simp at hl⟩

theorem infoLt : (Try.prog.info? 44).map (fun i => (i.zero, i.size, i.bytes)) = some (some (.agg #[.string ByteArray.empty, .int .i64 0, .int .i64 0, .int .i64 0, .int .i64 0]), 5, 48) := by kernel_rfl
theorem put_below {w wr w3 : World} {g o : Nat} {vs : List Value} (hb : Below w.heap.size w wr) (hb3 : Below wr.heap.size wr w3) (hg : w.heap.size ≤ g) : Below w.heap.size w (w3.setCells g o vs) :=
  (btP hb hb3).trans ((setCells_chg (S := fun y => y = g) rfl vs o w3).below (by have := hb.size; have := hb3.size; omega) fun x hx => by omega)
theorem play_next {k len : Nat} (hm : len ≤ 68719476736) (h : k < len) : ∃ kk : Nat, kk = k + 1 ∧ wrap64 ((k : Int) + 1) = (kk : Int) ∧ k + 1 ≤ len ∧ len - ((kk : Int)).toNat < len - ((k : Int)).toNat :=
  ⟨k + 1, rfl, by unfold wrap64; omega, h, by omega⟩
/-- A letter more. -/
theorem GE.pushL' {B : Nat} {L : List Lt} {v : Value} {wr W : World} (h : GE ltC 44 B L v wr) (hb : Below wr.heap.size wr W) (x : Lt) (hn : L.length ≤ 68719476736) (hB : B ≤ wr.heap.size) :
    ∃ v' w', (Builtin.append_ #[31, 31] 31 #[v, .slice (some ⟨W.heap.size, 0, none⟩) 1 1]).run Try.prog (W.alloc (.cells #[.string x.d, .int .i64 x.b, .int .i64 x.s, .int .i64 x.t, .int .i64 x.n] 44)) = .ok v' w' ∧ (GE ltC 44 B (L ++ [x]) v' w' ∧ Below B (W.alloc (.cells #[.string x.d, .int .i64 x.b, .int .i64 x.s, .int .i64 x.t, .int .i64 x.n] 44)) w' ∧ Chg (fun y => v.ownBlock = some y) (W.alloc (.cells #[.string x.d, .int .i64 x.b, .int .i64 x.s, .int .i64 x.t, .int .i64 x.n] 44)) w') :=
  GE.push' ltC_len ltC_one Try.underlying31 infoLt rfl ((h.on hb).on (abP _)) x (b := W.heap.size) (o := 0) (fun j u hj => by
    rw [Nat.zero_add]
    refine box_cell W _ 44 j u ?_
    match j, hj with
    | 0, hj => exact hj
    | 1, hj => exact hj
    | 2, hj => exact hj
    | 3, hj => exact hj
    | 4, hj => exact hj
    | j + 5, hj => simp [ltC] at hj) 1 hn (by have := hb.size; simp; omega) 31
theorem GE.pushL {B : Nat} {L : List Lt} {v : Value} {wr W : World} (h : GE ltC 44 B L v wr) (hb : Below wr.heap.size wr W) (x : Lt) (hn : L.length ≤ 68719476736) (hB : B ≤ wr.heap.size) :
    ∃ v' w', (Builtin.append_ #[31, 31] 31 #[v, .slice (some ⟨W.heap.size, 0, none⟩) 1 1]).run Try.prog (W.alloc (.cells #[.string x.d, .int .i64 x.b, .int .i64 x.s, .int .i64 x.t, .int .i64 x.n] 44)) = .ok v' w' ∧ (GE ltC 44 B (L ++ [x]) v' w' ∧ Below B (W.alloc (.cells #[.string x.d, .int .i64 x.b, .int .i64 x.s, .int .i64 x.t, .int .i64 x.n] 44)) w') := by
  obtain ⟨v', w', h1, h2, h3, _⟩ := h.pushL' hb x hn hB
  exact ⟨v', w', h1, h2, h3⟩
/-- A box beside a growing list stays where it is. -/
theorem box_chg {B : Nat} {L : List Lt} {v : Value} {wr W W' : World} {x : Obj} {o : Nat} {u : Value} (h : GE ltC 44 B L v wr) (hc : Chg (fun y => v.ownBlock = some y) (W.alloc x) W') (hx : W.cell? ⟨wr.heap.size, o, none⟩ = some u) : W'.cell? ⟨wr.heap.size, o, none⟩ = some u := by
  have hlt := lt_of_cell hx
  have e1 : (W.alloc x).heap[wr.heap.size]? = W.heap[wr.heap.size]? := (abP x).block _ hlt
  have e2 := hc.block wr.heap.size (by simp; omega) (fun e => by have := (h.own e).2; omega)
  rw [World.cell?_of_block (a := ⟨wr.heap.size, o, none⟩) (e2.trans e1)]
  exact hx

set_option maxRecDepth 100000 in
set_option maxHeartbeats 2000000 in
theorem turnI (p : Nt) (l : Lt) (w : World) (hd : l.d.size ≤ 2097152) :
    Calls Try.prog 24 #[.agg #[.int .i64 p.k, .int .i64 p.h, .string p.d, .int .i64 p.b, .int .i64 p.t], .agg #[.string l.d, .int .i64 l.b, .int .i64 l.s, .int .i64 l.t, .int .i64 l.n]] w fun e w' => e = .returned (.agg #[.string (turnLt p l).d, .int .i64 (turnLt p l).b, .int .i64 (turnLt p l).s, .int .i64 (turnLt p l).t, .int .i64 (turnLt p l).n]) ∧ Below w.heap.size w w' := by
  have hT := hide (fun v => tryI l.d l.b l.s l.t l.n p.t v hd)
  have hE := hide (fun g v => endI l.d l.b l.s l.t l.n g v hd)
  clear hd
  have h2 := fun h => turn2 (p := p) (l := l) h
  have h3 := fun h => turn3 (p := p) (l := l) h
  have h4 := fun h => turn4 (p := p) (l := l) h
  have h5 := fun h => turn_no (p := p) (l := l) h
  generalize turnLt p l = r at *
  unfold tryLt at h2
  unfold endLt at h3 h4
  obtain ⟨k, h, d, b, t⟩ := p
  obtain ⟨ld, lb, ls, lt, ln⟩ := l
  simp only at hT hE h2 h3 h4 h5 ⊢
  have HB0 := hide (btP (btP (abP (w := w) (.cells #[.int .i64 k, .int .i64 h, .string d, .int .i64 b, .int .i64 t] 26)) (abP (.cells #[.string ld, .int .i64 lb, .int .i64 ls, .int .i64 lt, .int .i64 ln] 44))) (abP (.cells #[.string ⟨#[]⟩, .int .i64 0, .int .i64 0, .int .i64 0, .int .i64 0] 44)))
  have HX : Hid (RowL 44 (((w.alloc (.cells #[.int .i64 k, .int .i64 h, .string d, .int .i64 b, .int .i64 t] 26)).alloc (.cells #[.string ld, .int .i64 lb, .int .i64 ls, .int .i64 lt, .int .i64 ln] 44)).alloc (.cells #[.string ⟨#[]⟩, .int .i64 0, .int .i64 0, .int .i64 0, .int .i64 0] 44)) (w.heap.size + 1) ld lb ls lt ln) := by
    have := (RowL.new 44 (w.alloc (.cells #[.int .i64 k, .int .i64 h, .string d, .int .i64 b, .int .i64 t] 26)) ld lb ls lt ln).below (abP (.cells #[.string ⟨#[]⟩, .int .i64 0, .int .i64 0, .int .i64 0, .int .i64 0] 44))
    rwa [heap_size_alloc] at this
  have HY : Hid (RowL 44 (((w.alloc (.cells #[.int .i64 k, .int .i64 h, .string d, .int .i64 b, .int .i64 t] 26)).alloc (.cells #[.string ld, .int .i64 lb, .int .i64 ls, .int .i64 lt, .int .i64 ln] 44)).alloc (.cells #[.string ⟨#[]⟩, .int .i64 0, .int .i64 0, .int .i64 0, .int .i64 0] 44)) (w.heap.size + 1 + 1) ⟨#[]⟩ 0 0 0 0) := by
    have := RowL.new 44 ((w.alloc (.cells #[.int .i64 k, .int .i64 h, .string d, .int .i64 b, .int .i64 t] 26)).alloc (.cells #[.string ld, .int .i64 lb, .int .i64 ls, .int .i64 lt, .int .i64 ln] 44)) ⟨#[]⟩ 0 0 0 0
    rwa [heap_size_alloc, heap_size_alloc] at this
  by_cases q2 : k = 2
  · subst q2
    rw [h2 rfl]
    clear h2 h3 h4 h5
    generalize tryT ld lb ls lt ln t = tt at *
    generalize tryN ld lb ls lt ln t = tn at *
    generalize tryB ld lb ls lt ln t = tb at *
    go_enter Try.func24, Try.ntmps24
    go_wp2_with fail
    refine (unhide hT _).mono ?_
    rintro e w1 ⟨rfl, hb1⟩
    have HB1 := hide (btP (unhide HB0) hb1)
    have HX1 := hide ((unhide HX).below hb1)
    have HY1 := hide ((unhide HY).below hb1)
    obtain ⟨c0, c1, c2, c3, c4⟩ := (unhide HX1).facts
    obtain ⟨d0, d1, d2, d3, d4⟩ := (unhide HY1).facts
    have g0 := (unhide HY1).free 0
    have g1 := (unhide HY1).free 1
    have g2 := (unhide HY1).free 2
    have g3 := (unhide HY1).free 3
    have g4 := (unhide HY1).free 4
    have f0 := (unhide HX1).free 0
    have f1 := (unhide HX1).free 1
    have f2 := (unhide HX1).free 2
    have f3 := (unhide HX1).free 3
    have f4 := (unhide HX1).free 4
    clear hb1
    go_wp2_with fail
    refine bodyPost_ret (v := .agg #[.string ld, .int .i64 lb, .int .i64 ls, .int .i64 tt, .int .i64 tn]) (by simp [results, Try.results24, go_sem, d0, d1, d2, d3, d4]) rfl ⟨rfl, ?_⟩
    iterate 10 refine setB ?_ (by omega)
    exact unhide HB1
  · by_cases q3 : k = 3
    · subst q3
      rw [h3 rfl]
      replace hE := unhide hE true
      replace hE := hide hE
      clear h2 h3 h4 h5 q2 hT
      generalize endX ls true = es at *
      go_enter Try.func24, Try.ntmps24
      go_wp2_with fail
      refine (unhide hE _).mono ?_
      rintro e w1 ⟨rfl, hb1⟩
      have HB1 := hide (btP (unhide HB0) hb1)
      have HX1 := hide ((unhide HX).below hb1)
      have HY1 := hide ((unhide HY).below hb1)
      obtain ⟨c0, c1, c2, c3, c4⟩ := (unhide HX1).facts
      obtain ⟨d0, d1, d2, d3, d4⟩ := (unhide HY1).facts
      have g0 := (unhide HY1).free 0
      have g1 := (unhide HY1).free 1
      have g2 := (unhide HY1).free 2
      have g3 := (unhide HY1).free 3
      have g4 := (unhide HY1).free 4
      have f0 := (unhide HX1).free 0
      have f1 := (unhide HX1).free 1
      have f2 := (unhide HX1).free 2
      have f3 := (unhide HX1).free 3
      have f4 := (unhide HX1).free 4
      clear hb1
      go_wp2_with fail
      refine bodyPost_ret (v := .agg #[.string ld, .int .i64 lb, .int .i64 es, .int .i64 lt, .int .i64 ln]) (by simp [results, Try.results24, go_sem, d0, d1, d2, d3, d4]) rfl ⟨rfl, ?_⟩
      iterate 10 refine setB ?_ (by omega)
      exact unhide HB1
    · by_cases q4 : k = 4
      · subst q4
        rw [h4 rfl]
        replace hE := unhide hE false
        replace hE := hide hE
        clear h2 h3 h4 h5 q2 q3 hT
        generalize endX ls false = es at *
        go_enter Try.func24, Try.ntmps24
        go_wp2_with fail
        refine (unhide hE _).mono ?_
        rintro e w1 ⟨rfl, hb1⟩
        have HB1 := hide (btP (unhide HB0) hb1)
        have HX1 := hide ((unhide HX).below hb1)
        have HY1 := hide ((unhide HY).below hb1)
        obtain ⟨c0, c1, c2, c3, c4⟩ := (unhide HX1).facts
        obtain ⟨d0, d1, d2, d3, d4⟩ := (unhide HY1).facts
        have g0 := (unhide HY1).free 0
        have g1 := (unhide HY1).free 1
        have g2 := (unhide HY1).free 2
        have g3 := (unhide HY1).free 3
        have g4 := (unhide HY1).free 4
        have f0 := (unhide HX1).free 0
        have f1 := (unhide HX1).free 1
        have f2 := (unhide HX1).free 2
        have f3 := (unhide HX1).free 3
        have f4 := (unhide HX1).free 4
        clear hb1
        go_wp2_with fail
        refine bodyPost_ret (v := .agg #[.string ld, .int .i64 lb, .int .i64 es, .int .i64 lt, .int .i64 ln]) (by simp [results, Try.results24, go_sem, d0, d1, d2, d3, d4]) rfl ⟨rfl, ?_⟩
        iterate 10 refine setB ?_ (by omega)
        exact unhide HB1
      · rw [h5 ⟨q2, q3, q4⟩]
        clear h2 h3 h4 h5 hT hE
        obtain ⟨c0, c1, c2, c3, c4⟩ := (unhide HX).facts
        obtain ⟨d0, d1, d2, d3, d4⟩ := (unhide HY).facts
        go_enter Try.func24, Try.ntmps24
        go_wp2_with fail
        refine bodyPost_ret (v := .agg #[.string ld, .int .i64 lb, .int .i64 ls, .int .i64 lt, .int .i64 ln]) (by simp [results, Try.results24, go_sem]) rfl ⟨rfl, ?_⟩
        exact btP (btP (abP _) (abP _)) (abP _)

end Go.Proofs.Ytfbillhfbdconaa
