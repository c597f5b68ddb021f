/- The walk of impl.Play: the letters of notes, in memory of their own; nothing that was there is written. -/
import Derived.Test.YtfbillhfbdconaaNp
import Derived.Test.YtfbillhfbdconaaHi
namespace Go.Proofs.Ytfbillhfbdconaa
open Go.RowKit Go.Deep

/-- An append in a region that draws its order, by what its run comes to. -/
theorem cz_append_run {P : Program} {ops : Array Oper} {o : Oper} {a : Act} {w : World} {K : Act → World → Prop} {Q : Exit → Act → World → Prop} {E : Prop}
    (hg : o.guard = none) (s x : Operand) (t : TypeId) (hop : o.op = Op.call { callee := Callee.builtin Builtin.append, args := #[s, x], argTypes := #[t, t] })
    (v xv : Value) (hs : a.eval s = v) (hx : a.eval x = xv) (R : Value → World → Prop) (hrun : ∃ v' w', (Builtin.append_ #[t, t] o.type #[v, xv]).run P w = .ok v' w' ∧ R v' w')
    (hK : ∀ v' w', R v' w' → K (a.put o.dst v') w') :
    if Region.wanted o (yielded ops a.tmps) = true then Oper.wp P o a w K Q else E := by
  have hw : Region.wanted o (yielded ops a.tmps) = true := by simp [Region.wanted, hg]
  rw [if_pos hw]
  obtain ⟨v', w', hr, h2⟩ := hrun
  unfold Oper.wp
  simp [execOp, hop, resolve, invoke, builtin, hs, hx, hr, Result.andThen]
  exact hK v' w' h2

set_option maxRecDepth 100000 in
set_option maxHeartbeats 8000000 in
theorem playIm (P : List Nt) (a : Option Addr) (cap : Nat) (w : World) (hl : Els ntC w 0 a P) (hm : P.length ≤ 68719476736) (hz : ∀ p ∈ P, p.d.size ≤ 2097152) :
    Calls Try.prog 12 #[.slice a P.length cap] w fun e w' => ∃ v, e = .returned v ∧ GE ltC 44 w.heap.size (playL P) v w' ∧ Below w.heap.size w w' := by
  have H := hide hl
  have HZ := hide hz
  clear hl hz
  generalize hlen : P.length = len at *
  have HL : Hid (P.length = len) := hlen
  have HM : Hid (len ≤ 68719476736) := hm
  clear hlen hm
  go_enter Try.func12, Try.ntmps12
  go_wp2_with fail
  go_loopw [3, 8] (fun v i wr => ∃ k : Nat, i = .int .i64 (k : Int) ∧ GE ltC 44 w.heap.size (playL (P.take k)) v wr ∧ Below w.heap.size w wr ∧ k ≤ len) (fun _ i _ => len - (intOf i).toNat)
  case atStart => exact ⟨0, rfl, GE.empty _ _ _ w, Below.refl _ _, by omega⟩
  case round =>
    obtain ⟨k, rfl, hg, hb, hk⟩ := hrel
    obtain ⟨ua, uc, rfl⟩ := hg.shape
    have HG := hide hg
    have HB := hide hb
    have HBS : Hid (w.heap.size ≤ wr.heap.size) := hb.size
    have HLO := hide (playL_ok (P.take k))
    have hul := (unhide HLO).1
    by_cases hp : k < len
    · have hp' : k < P.length := by have := HL.out; omega
      obtain ⟨p, hkp⟩ : ∃ p, P[k]? = some p := ⟨_, List.getElem?_eq_getElem hp'⟩
      obtain ⟨pk, ph, pd, pb, pt⟩ := p
      obtain ⟨bb, oo, rfl, -, c0, c1, c2, c3, c4⟩ := ((unhide H).on hb).note hkp
      simp only at c0 c1 c2 c3 c4
      have HST := hide (playL_take hkp)
      have hpz : pd.size ≤ 2097152 := unhide HZ _ (List.mem_of_getElem? hkp)
      generalize hL : playL (P.take k) = L at *
      have hct := hide (fun v => noteI pk ph pd pb pt v hpz)
      have HPZ := hide hpz
      have hok : ∃ ok, okN ⟨pk, ph, pd, pb, pt⟩ = ok := ⟨_, rfl⟩
      obtain ⟨ok, hok⟩ := hok
      rw [show noteB pk ph pd pb pt = ok from hok] at hct
      have HOK := hide hok
      have HFA := hide (fun h => okN_facts (p := ⟨pk, ph, pd, pb, pt⟩) h)
      have q2 : (k : Int) < (len : Int) := by omega
      have q3 : (0 : Int) ≤ (k : Int) := by omega
      obtain ⟨kk, hkk, w1, hk1, hms⟩ := play_next (unhide HM) hp
      have HKK := hide hkk
      have HW1 : Hid (Value.int .i64 (kk : Int) = .int .i64 ((k + 1 : Nat) : Int)) := by show _ = _; rw [hkk]
      have HW2 : Hid (Value.int .i64 (wrap64 ((k : Int) + 1)) = .int .i64 ((k + 1 : Nat) : Int)) := by show _ = _; rw [w1, hkk]
      have HMS2 : Hid (len - (intOf (Value.int .i64 (wrap64 ((k : Int) + 1)))).toNat < len - (intOf (Value.int .i64 (k : Int))).toNat) := by show _ < _; rw [w1]; exact hms
      have HK1 := hide hk1
      have HMS : Hid (len - (intOf (Value.int .i64 (kk : Int))).toNat < len - (intOf (Value.int .i64 (k : Int))).toNat) := hms
      clear hk1 hms hkk
      generalize hUL : L.length = ul at *
      have HUL := hide hUL
      have HX := hide (heap_alloc_new wr (.cells #[.int .i64 pk, .int .i64 ph, .string pd, .int .i64 pb, .int .i64 pt] 26))
      have HBX := hide (abP (w := wr) (.cells #[.int .i64 pk, .int .i64 ph, .string pd, .int .i64 pb, .int .i64 pt] 26))
      clear hg hb hkp hL hpz hok hUL hp hp'
      cases ok with
      | false =>
        have HN := hide (play_no (L := L) (unhide HOK))
        clear HOK HFA
        go_wp2_with fail
        refine (unhide hct _).mono ?_
        rintro e w2 ⟨rfl, hb1⟩
        have HB1 := hide (btP (unhide HBX) hb1)
        clear hb1 c0 c1 c2 c3 c4
        go_wp2_with fail
        go_roundw
        case rel => exact ⟨k + 1, by first | exact unhide HW1 | exact unhide HW2, by rw [unhide HST, unhide HN]; exact (unhide HG).on (unhide HB1), btP (unhide HB) (unhide HB1), unhide HK1⟩
        case measure => first | exact unhide HMS | exact unhide HMS2
      | true =>
        obtain ⟨⟨i0, i29⟩, ⟨k1, k4⟩, -⟩ := unhide HFA (unhide HOK)
        simp only at i0 i29 k1 k4
        obtain ⟨i, rfl⟩ : ∃ i : Nat, ph = (i : Int) := ⟨ph.toNat, by omega⟩
        clear i0 i29
        by_cases q1 : pk = 1
        · subst q1
          by_cases q4 : i = ul
          · subst q4
            have HN := hide (play_new (L := L) (p := ⟨1, (i : Int), pd, pb, pt⟩) (unhide HOK) rfl (by show (i : Int) = _; rw [unhide HUL]))
            have hcl := hide (fun v => clone36 pd v (unhide HPZ))
            go_wp2_with fail
            refine (unhide hct _).mono ?_
            rintro e w2 ⟨rfl, hb1⟩
            have HB1 := hide (btP (unhide HBX) hb1)
            have HX1 := hide ((hb1.block _ (by simp)).trans (unhide HX))
            have x0 : w2.cell? ⟨wr.heap.size, 0, none⟩ = some (.int .i64 1) := cell_of_row (unhide HX1) (by simp)
            have x1 : w2.cell? ⟨wr.heap.size, 1, none⟩ = some (.int .i64 (i : Int)) := cell_of_row (unhide HX1) (by simp)
            have x2 : w2.cell? ⟨wr.heap.size, 2, none⟩ = some (.string pd) := cell_of_row (unhide HX1) (by simp)
            have x3 : w2.cell? ⟨wr.heap.size, 3, none⟩ = some (.int .i64 pb) := cell_of_row (unhide HX1) (by simp)
            have x4 : w2.cell? ⟨wr.heap.size, 4, none⟩ = some (.int .i64 pt) := cell_of_row (unhide HX1) (by simp)
            clear hb1 c0 c1 c2 c3 c4
            have HAP : Hid (∀ W, Below wr.heap.size wr W → _) := fun W hW => (unhide HG).pushL' hW ⟨pd, pb, 1, 0, 0⟩ (by have := (unhide HLO).1; omega) (unhide HBS)
            go_wp2_with fail
            go_region_held3 (fun y => y.cell? ⟨wr.heap.size, 2, none⟩ = some (.string pd) ∧ y.cell? ⟨wr.heap.size, 3, none⟩ = some (.int .i64 pb)) (go_keep)
              (first
                | (go_at_call 23
                   refine (unhide hcl _).mono ?_
                   rintro e w3 ⟨rfl, hb3⟩
                   have HB3 := hide (btP (unhide HB1) (below_drew5 hb3))
                   have z2 := below_some (below_drew5 hb3) x2
                   have z3 := below_some (below_drew5 hb3) x3
                   obtain ⟨v4, w4, hrun, hg4, hb4, hc4⟩ := unhide HAP _ (unhide HB3)
                   have HRUN := hide hrun
                   have HG4 := hide hg4
                   have HB4 := hide ((btP (btP (unhide HB) (unhide HB3)) (abP (.cells #[.string pd, .int .i64 pb, .int .i64 1, .int .i64 0, .int .i64 0] 44))).trans hb4)
                   have z2' := hide (box_chg (unhide HG) hc4 z2)
                   have z3' := hide (box_chg (unhide HG) hc4 z3)
                   have hne2 := World.new_ne w3 _ z2
                   clear hb3 hg4 hb4 hrun hc4)
                | (refine cz_append_run rfl _ _ 31 rfl (.slice ua i uc) (.slice (some ⟨w3.heap.size, 0, none⟩) 1 1) rfl rfl (fun v' w' => v' = v4 ∧ w' = w4) ⟨_, _, unhide HRUN, rfl, rfl⟩ ?_
                   rintro _ _ ⟨rfl, rfl⟩
                   have y2' := unhide z2'
                   have y3' := unhide z3')
                | fail)
            all_goals
              go_wp2_with fail
              go_roundw
              case rel => exact ⟨k + 1, by first | exact unhide HW1 | exact unhide HW2, by rw [unhide HST, unhide HN]; exact unhide HG4, unhide HB4, unhide HK1⟩
              case measure => first | exact unhide HMS | exact unhide HMS2
          · have HN := hide (play_same (L := L) (p := ⟨1, (i : Int), pd, pb, pt⟩) rfl (by show ¬ (i : Int) = _; rw [unhide HUL]; omega))
            have q5 : ¬ (i : Int) = (ul : Int) := by omega
            by_cases q6 : i < ul
            · have q7 : (i : Int) < (ul : Int) := by omega
              go_wp2_with fail
              refine (unhide hct _).mono ?_
              rintro e w2 ⟨rfl, hb1⟩
              have HB1 := hide (btP (unhide HBX) hb1)
              have HX1 := hide ((hb1.block _ (by simp)).trans (unhide HX))
              have x0 : w2.cell? ⟨wr.heap.size, 0, none⟩ = some (.int .i64 1) := cell_of_row (unhide HX1) (by simp)
              have x1 : w2.cell? ⟨wr.heap.size, 1, none⟩ = some (.int .i64 (i : Int)) := cell_of_row (unhide HX1) (by simp)
              have x2 : w2.cell? ⟨wr.heap.size, 2, none⟩ = some (.string pd) := cell_of_row (unhide HX1) (by simp)
              have x3 : w2.cell? ⟨wr.heap.size, 3, none⟩ = some (.int .i64 pb) := cell_of_row (unhide HX1) (by simp)
              have x4 : w2.cell? ⟨wr.heap.size, 4, none⟩ = some (.int .i64 pt) := cell_of_row (unhide HX1) (by simp)
              clear hb1 c0 c1 c2 c3 c4
              obtain ⟨l, hl⟩ : ∃ l, L[i]? = some l := ⟨_, List.getElem?_eq_getElem (by have := unhide HUL; omega)⟩
              obtain ⟨g, rfl, hBg, hgl, hr, hfz⟩ := (unhide HG).at hl
              have HBg := hide hBg
              have Hgl := hide hgl
              have hld := Nat.le_trans ((unhide HLO).2 l (List.mem_of_getElem? hl)) (show 10 ≤ 2097152 by omega)
              have HSET := hide (play_set (unhide HOK) rfl hl)
              have HIL : Hid (i < L.length) := (List.getElem?_eq_some_iff.1 hl).1
              have HG1 := hide ((unhide HG).on (unhide HB1))
              have hr1 := rangeAt_below hr (unhide HB1)
              have y0 : w2.cell? ⟨g, i * 5, none⟩ = some (.string l.d) := hr1 0 _ rfl
              have y1 : w2.cell? ⟨g, i * 5 + 1, none⟩ = some (.int .i64 l.b) := hr1 1 _ rfl
              have y2 : w2.cell? ⟨g, i * 5 + 2, none⟩ = some (.int .i64 l.s) := hr1 2 _ rfl
              have y3 : w2.cell? ⟨g, i * 5 + 3, none⟩ = some (.int .i64 l.t) := hr1 3 _ rfl
              have y4 : w2.cell? ⟨g, i * 5 + 4, none⟩ = some (.int .i64 l.n) := hr1 4 _ rfl
              have hne : g ≠ wr.heap.size := by omega
              have q5 : (0 : Int) ≤ (i : Int) := by omega
              clear hBg hgl hr hr1 hfz hl
              have hti := hide (fun v => turnI ⟨1, (i : Int), pd, pb, pt⟩ l v hld)
              generalize turnLt ⟨1, (i : Int), pd, pb, pt⟩ l = r at *
              go_wp2_with fail
              go_region_with (first | (go_at_call 24; refine (unhide hti _).mono ?_; rintro e w3 ⟨rfl, hb3⟩; have hb3' := below_drew5 hb3; have HB3 := hide (btP (unhide HB1) hb3'); have HG3 := hide ((unhide HG1).on hb3'); have z1 := below_some hb3' x1; have t0 := below_some hb3' y0; have t1 := below_some hb3' y1; have t2 := below_some hb3' y2; have t3 := below_some hb3' y3; have t4 := below_some hb3' y4; obtain ⟨g', hg', -, hgl3, -, hfz⟩ := (unhide HG3).at (List.getElem?_eq_getElem (unhide HIL)); simp only [Option.some.injEq, Addr.mk.injEq, and_true] at hg'; subst hg'; have f0 := hfz (i * 5); have f1 := hfz (i * 5 + 1); have f2 := hfz (i * 5 + 2); have f3 := hfz (i * 5 + 3); have f4 := hfz (i * 5 + 4); have HG4 : Hid (GE ltC 44 w.heap.size (L.set i r) (.slice (some ⟨g, 0, none⟩) ul uc) ((((((w3.setCell ⟨g, i * 5, none⟩ (.string r.d)).setCell ⟨g, i * 5 + 1, none⟩ (.int .i64 r.b)).setCell ⟨g, i * 5 + 2, none⟩ (.int .i64 r.s)).setCell ⟨g, i * 5 + 3, none⟩ (.int .i64 r.t)).setCell ⟨g, i * 5 + 4, none⟩ (.int .i64 r.n)))) := (unhide HG3).put ltC_len (unhide HIL) r; have HB4 : Hid (Below w.heap.size w ((((((w3.setCell ⟨g, i * 5, none⟩ (.string r.d)).setCell ⟨g, i * 5 + 1, none⟩ (.int .i64 r.b)).setCell ⟨g, i * 5 + 2, none⟩ (.int .i64 r.s)).setCell ⟨g, i * 5 + 3, none⟩ (.int .i64 r.t)).setCell ⟨g, i * 5 + 4, none⟩ (.int .i64 r.n)))) := put_below (o := i * 5) (vs := ltC r) (unhide HB) (unhide HB3) (unhide HBg); clear hfz hgl3 hb3 hb3' x0 x1 x2 x3 x4 y0 y1 y2 y3 y4))
              all_goals
                go_wp2_with fail
                go_roundw
                case rel => exact ⟨k + 1, by first | exact unhide HW1 | exact unhide HW2, by rw [unhide HST, unhide HSET]; exact unhide HG4, unhide HB4, unhide HK1⟩
                case measure => first | exact unhide HMS | exact unhide HMS2
            · have q7 : ¬ (i : Int) < (ul : Int) := by omega
              go_wp2_with fail
              refine (unhide hct _).mono ?_
              rintro e w2 ⟨rfl, hb1⟩
              have HB1 := hide (btP (unhide HBX) hb1)
              have HX1 := hide ((hb1.block _ (by simp)).trans (unhide HX))
              have x0 : w2.cell? ⟨wr.heap.size, 0, none⟩ = some (.int .i64 1) := cell_of_row (unhide HX1) (by simp)
              have x1 : w2.cell? ⟨wr.heap.size, 1, none⟩ = some (.int .i64 (i : Int)) := cell_of_row (unhide HX1) (by simp)
              have x2 : w2.cell? ⟨wr.heap.size, 2, none⟩ = some (.string pd) := cell_of_row (unhide HX1) (by simp)
              have x3 : w2.cell? ⟨wr.heap.size, 3, none⟩ = some (.int .i64 pb) := cell_of_row (unhide HX1) (by simp)
              have x4 : w2.cell? ⟨wr.heap.size, 4, none⟩ = some (.int .i64 pt) := cell_of_row (unhide HX1) (by simp)
              clear hb1 c0 c1 c2 c3 c4
              go_wp2_with fail
              go_roundw
              case rel => exact ⟨k + 1, by first | exact unhide HW1 | exact unhide HW2, by rw [unhide HST, unhide HN]; exact (unhide HG).on (unhide HB1), btP (unhide HB) (unhide HB1), unhide HK1⟩
              case measure => first | exact unhide HMS | exact unhide HMS2
        · by_cases q4 : i < ul
          · have q7 : (i : Int) < (ul : Int) := by omega
            go_wp2_with fail
            refine (unhide hct _).mono ?_
            rintro e w2 ⟨rfl, hb1⟩
            have HB1 := hide (btP (unhide HBX) hb1)
            have HX1 := hide ((hb1.block _ (by simp)).trans (unhide HX))
            have x0 : w2.cell? ⟨wr.heap.size, 0, none⟩ = some (.int .i64 pk) := cell_of_row (unhide HX1) (by simp)
            have x1 : w2.cell? ⟨wr.heap.size, 1, none⟩ = some (.int .i64 (i : Int)) := cell_of_row (unhide HX1) (by simp)
            have x2 : w2.cell? ⟨wr.heap.size, 2, none⟩ = some (.string pd) := cell_of_row (unhide HX1) (by simp)
            have x3 : w2.cell? ⟨wr.heap.size, 3, none⟩ = some (.int .i64 pb) := cell_of_row (unhide HX1) (by simp)
            have x4 : w2.cell? ⟨wr.heap.size, 4, none⟩ = some (.int .i64 pt) := cell_of_row (unhide HX1) (by simp)
            clear hb1 c0 c1 c2 c3 c4
            obtain ⟨l, hl⟩ : ∃ l, L[i]? = some l := ⟨_, List.getElem?_eq_getElem (by have := unhide HUL; omega)⟩
            obtain ⟨g, rfl, hBg, hgl, hr, hfz⟩ := (unhide HG).at hl
            have HBg := hide hBg
            have Hgl := hide hgl
            have hld := Nat.le_trans ((unhide HLO).2 l (List.mem_of_getElem? hl)) (show 10 ≤ 2097152 by omega)
            have HSET := hide (play_set (unhide HOK) rfl hl)
            have HIL : Hid (i < L.length) := (List.getElem?_eq_some_iff.1 hl).1
            have HG1 := hide ((unhide HG).on (unhide HB1))
            have hr1 := rangeAt_below hr (unhide HB1)
            have y0 : w2.cell? ⟨g, i * 5, none⟩ = some (.string l.d) := hr1 0 _ rfl
            have y1 : w2.cell? ⟨g, i * 5 + 1, none⟩ = some (.int .i64 l.b) := hr1 1 _ rfl
            have y2 : w2.cell? ⟨g, i * 5 + 2, none⟩ = some (.int .i64 l.s) := hr1 2 _ rfl
            have y3 : w2.cell? ⟨g, i * 5 + 3, none⟩ = some (.int .i64 l.t) := hr1 3 _ rfl
            have y4 : w2.cell? ⟨g, i * 5 + 4, none⟩ = some (.int .i64 l.n) := hr1 4 _ rfl
            have hne : g ≠ wr.heap.size := by omega
            have q5 : (0 : Int) ≤ (i : Int) := by omega
            clear hBg hgl hr hr1 hfz hl
            have hti := hide (fun v => turnI ⟨pk, (i : Int), pd, pb, pt⟩ l v hld)
            generalize turnLt ⟨pk, (i : Int), pd, pb, pt⟩ l = r at *
            go_wp2_with fail
            go_region_with (first | (go_at_call 24; refine (unhide hti _).mono ?_; rintro e w3 ⟨rfl, hb3⟩; have hb3' := below_drew5 hb3; have HB3 := hide (btP (unhide HB1) hb3'); have HG3 := hide ((unhide HG1).on hb3'); have z1 := below_some hb3' x1; have t0 := below_some hb3' y0; have t1 := below_some hb3' y1; have t2 := below_some hb3' y2; have t3 := below_some hb3' y3; have t4 := below_some hb3' y4; obtain ⟨g', hg', -, hgl3, -, hfz⟩ := (unhide HG3).at (List.getElem?_eq_getElem (unhide HIL)); simp only [Option.some.injEq, Addr.mk.injEq, and_true] at hg'; subst hg'; have f0 := hfz (i * 5); have f1 := hfz (i * 5 + 1); have f2 := hfz (i * 5 + 2); have f3 := hfz (i * 5 + 3); have f4 := hfz (i * 5 + 4); have HG4 : Hid (GE ltC 44 w.heap.size (L.set i r) (.slice (some ⟨g, 0, none⟩) ul uc) ((((((w3.setCell ⟨g, i * 5, none⟩ (.string r.d)).setCell ⟨g, i * 5 + 1, none⟩ (.int .i64 r.b)).setCell ⟨g, i * 5 + 2, none⟩ (.int .i64 r.s)).setCell ⟨g, i * 5 + 3, none⟩ (.int .i64 r.t)).setCell ⟨g, i * 5 + 4, none⟩ (.int .i64 r.n)))) := (unhide HG3).put ltC_len (unhide HIL) r; have HB4 : Hid (Below w.heap.size w ((((((w3.setCell ⟨g, i * 5, none⟩ (.string r.d)).setCell ⟨g, i * 5 + 1, none⟩ (.int .i64 r.b)).setCell ⟨g, i * 5 + 2, none⟩ (.int .i64 r.s)).setCell ⟨g, i * 5 + 3, none⟩ (.int .i64 r.t)).setCell ⟨g, i * 5 + 4, none⟩ (.int .i64 r.n)))) := put_below (o := i * 5) (vs := ltC r) (unhide HB) (unhide HB3) (unhide HBg); clear hfz hgl3 hb3 hb3' x0 x1 x2 x3 x4 y0 y1 y2 y3 y4))
            all_goals
              go_wp2_with fail
              go_roundw
              case rel => exact ⟨k + 1, by first | exact unhide HW1 | exact unhide HW2, by rw [unhide HST, unhide HSET]; exact unhide HG4, unhide HB4, unhide HK1⟩
              case measure => first | exact unhide HMS | exact unhide HMS2
          · have HN := hide (play_out (L := L) (p := ⟨pk, (i : Int), pd, pb, pt⟩) (fun e => q1 e.1) (by show ¬ (i : Int) < _; rw [unhide HUL]; omega))
            have q5 : ¬ (i : Int) < (ul : Int) := by omega
            go_wp2_with fail
            refine (unhide hct _).mono ?_
            rintro e w2 ⟨rfl, hb1⟩
            have HB1 := hide (btP (unhide HBX) hb1)
            have HX1 := hide ((hb1.block _ (by simp)).trans (unhide HX))
            have x0 : w2.cell? ⟨wr.heap.size, 0, none⟩ = some (.int .i64 pk) := cell_of_row (unhide HX1) (by simp)
            have x1 : w2.cell? ⟨wr.heap.size, 1, none⟩ = some (.int .i64 (i : Int)) := cell_of_row (unhide HX1) (by simp)
            have x2 : w2.cell? ⟨wr.heap.size, 2, none⟩ = some (.string pd) := cell_of_row (unhide HX1) (by simp)
            have x3 : w2.cell? ⟨wr.heap.size, 3, none⟩ = some (.int .i64 pb) := cell_of_row (unhide HX1) (by simp)
            have x4 : w2.cell? ⟨wr.heap.size, 4, none⟩ = some (.int .i64 pt) := cell_of_row (unhide HX1) (by simp)
            clear hb1 c0 c1 c2 c3 c4
            go_wp2_with fail
            go_roundw
            case rel => exact ⟨k + 1, by first | exact unhide HW1 | exact unhide HW2, by rw [unhide HST, unhide HN]; exact (unhide HG).on (unhide HB1), btP (unhide HB) (unhide HB1), unhide HK1⟩
            case measure => first | exact unhide HMS | exact unhide HMS2
    · have q2 : ¬ (k : Int) < (len : Int) := by omega
      have hkl : k = len := by omega
      have HE : Hid (P.take k = P) := List.take_of_length_le (by have := HL.out; omega)
      subst hkl
      clear hg hb hul
      generalize (playL (P.take k)).length = ul at *
      go_wp2_with fail
      go_ret
      refine ⟨_, rfl, ?_, unhide HB⟩
      have := unhide HG
      rwa [unhide HE] at this


end Go.Proofs.Ytfbillhfbdconaa
