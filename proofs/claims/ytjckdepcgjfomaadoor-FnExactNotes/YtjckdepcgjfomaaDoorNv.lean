/- The walk of impl.Notes: a range over the lines of a text, left at the first line that is no note; nothing that was there is written. -/
import Derived.Test.YtjckdepcgjfomaaDoorLi
import Derived.Test.YtjckdepcgjfomaaDoorNs
namespace Go.Proofs.YtjckdepcgjfomaaDoor
open Go.RowKit Go.Deep Go.Shelf
attribute [local go_sem] Oper.semAt_some

/-- An append in a fenced walk, by what its run comes to. -/
theorem wpListIn_append_run {F : Fence} {n : Nat} {P : Program} {w : World} {ops : Array Oper} {rest : List Oper} {o : Oper} {a : Act} {Q : Exit → Act → World → Prop} (hgd : o.guard = none) (s x : Operand) (t : TypeId)
    (ho : o.op = .call { callee := .builtin .append, args := #[s, x], argTypes := #[t, t] }) (v xv : Value) (hs : a.eval s = v) (hx : a.eval x = xv) (R : Value → World → Prop)
    (hrun : ∃ v' w', (Builtin.append_ #[t, t] o.type #[v, xv]).run P w = .ok v' w' ∧ R v' w') (h : ∀ v' w', R v' w' → wpListIn F n P ops Q rest (a.put o.dst v') w') : wpListIn F n P ops Q (o :: rest) a w :=
  wpListIn_plain hgd fun K hK => by
    obtain ⟨v', w', hr, h2⟩ := hrun
    unfold Oper.wpIn
    refine ⟨?_, ?_⟩
    · simp [Oper.about, ho, resolve, Target.leads, Sem.run_pure]
    · rw [Oper.semAt_plain F _ _ (by rw [ho]; intro c hc'; cases hc')]
      simp [execOp, ho, resolve, invoke, builtin, hs, hx, hr, Result.andThen]
      exact hK _ _ (h v' w' h2)

theorem putB {B : Nat} {w W : World} {l : Nat} {o : Obj} (h : Below B w W) (hl : B ≤ l) : Below B w (W.putObj l o) :=
  ⟨h.os, h.tape, h.output, by rw [World.putObj_size]; exact h.size, fun j hj => by rw [World.putObj_heap_other (by omega)]; exact h.block j hj⟩
theorem put_cell {W : World} {l b j : Nat} {o : Obj} (h : b ≠ l) : (W.putObj l o).cell? ⟨b, j, none⟩ = W.cell? ⟨b, j, none⟩ := World.cell?_of_block (World.putObj_heap_other h)
theorem put_frozen {W : World} {l b j : Nat} {o : Obj} (h : b ≠ l) : (W.putObj l o).frozen? ⟨b, j, none⟩ = W.frozen? ⟨b, j, none⟩ := World.frozen?_of_block (World.putObj_heap_other h)
theorem GE.lower {B B' : Nat} {P : List Nt} {v : Value} {w : World} (h : GE ntC 26 B P v w) (hB : B' ≤ B) : GE ntC 26 B' P v w := by
  rcases h with h | ⟨g, cap, C, h1, h2, h3⟩
  · exact Or.inl h
  · exact Or.inr ⟨g, cap, C, h1, by omega, h3⟩
/-- What is no block of the list turned. -/
theorem GE.same {B : Nat} {P : List Nt} {v : Value} {w w' : World} (h : GE ntC 26 B P v w) (hb : ∀ g, B ≤ g → w'.heap[g]? = w.heap[g]?) : GE ntC 26 B P v w' := by
  rcases h with h | ⟨g, cap, C, h1, h2, h3, h4, h5, h6, h7⟩
  · exact Or.inl h
  · exact Or.inr ⟨g, cap, C, h1, h2, by rw [hb g h2, h3], h4, h5, h6, fun i p hp j u hj => by rw [World.cell?_of_block (hb g h2)]; exact h7 i p hp j u hj⟩

/-- strings.Lines: a closure over a box of its own. -/
theorem linesMade (s : ByteArray) (w : World) : Calls Tryd.prog 27 #[.string s] w fun e w' => e = .returned (.func (.func 38) #[] #[.pointer (some ⟨w.heap.size, 0, none⟩)]) ∧ w' = w.alloc (.cells #[.string s] 9) := by
  have hmf : ∀ (fn : Fn) (first cap : Array Value) (w : World), (Instr.makeFunc fn first cap).run Tryd.prog w = .ok (.func fn first cap) w := fun _ _ _ _ => rfl
  go_enter Tryd.func27, Tryd.ntmps27
  go_wp2_with fail
  go_ret
  exact ⟨rfl, rfl⟩

/-- Between two rounds: what the two boxes hold, and the record. -/
structure Mid (s : ByteArray) (w : World) (b fr : Nat) (v : Value) (ls : List Nt) (W : World) : Prop where
  list : W.heap[b]? = some (.cells #[v] 33 (0, 0))
  used : W.heap[b + 1]? = some (.cells #[.int .i64 (fr : Int)] 3 (0, 0))
  ge : GE ntC 26 (b + 5) ls v W
  def_ : W.heap[b + 3]? = some (.deferred (some []))
  below : Below b w W
  len : ls.length ≤ fr ∧ fr ≤ s.size
theorem Mid.other {s : ByteArray} {w : World} {b fr : Nat} {v : Value} {ls : List Nt} {W W' : World} (h : Mid s w b fr v ls W) (hb : ∀ g, g ≠ b + 2 → g ≠ b + 4 → W'.heap[g]? = W.heap[g]?) (hB : Below b w W') : Mid s w b fr v ls W' :=
  ⟨by rw [hb b (by omega) (by omega)]; exact h.list, by rw [hb (b + 1) (by omega) (by omega)]; exact h.used, h.ge.same fun g hg => hb g (by omega) (by omega), by rw [hb (b + 3) (by omega) (by omega)]; exact h.def_, hB, h.len⟩
def JN (s : ByteArray) (w : World) (b : Nat) (rd : Loop) (fr : Nat) (W : World) : Prop := ∃ v ls, Mid s w b fr v ls W ∧ GoneN s fr fr ls ∧ W.heap[b + 4]? = some (.loop rd)
def JxN (s : ByteArray) (w : World) (b : Nat) (rd : Loop) (fr : Nat) (W : World) : Prop := ∃ v ls, Mid s w b fr v ls W ∧ (ls = (ntsOf s).1 ∧ fr = (ntsOf s).2) ∧ W.heap[b + 4]? = some (.loop rd)
theorem JN.set {s : ByteArray} {w : World} {b fr : Nat} {rd : Loop} {W : World} (hw : b ≤ b + 2) (v : Value) (h : JN s w b rd fr W) : JN s w b rd fr (W.setCell ⟨b + 2, 0, none⟩ v) := by
  obtain ⟨x, ls, h1, h2, h3⟩ := h
  refine ⟨x, ls, h1.other (fun g hg _ => Below.heap_setCell W _ v g hg) (setB h1.below hw), h2, ?_⟩
  rw [Below.heap_setCell W _ v (b + 4) (by show b + 4 ≠ b + 2; omega)]
  exact h3
theorem JN.drew {s : ByteArray} {w : World} {b fr : Nat} {rd : Loop} {W : World} (h : JN s w b rd fr W) : JN s w b rd fr W.drew := by
  obtain ⟨x, ls, h1, h2, h3⟩ := h
  exact ⟨x, ls, h1.other (fun g _ _ => rfl) h1.below.drew, h2, h3⟩
/-- A line that ends: the notes go on behind it. -/
theorem line_gone {s : ByteArray} {fr ln : Nat} {ls : List Nt} (hl : LineAt s fr ln) (h : GoneN s fr fr ls) : ∃ k, k + 1 = fr + ln ∧ k < s.size ∧ GoneN s k fr ls := by
  obtain ⟨h0, h1, h2, h3⟩ := hl
  have go : ∀ m, fr + m + 1 ≤ fr + ln → GoneN s (fr + m) fr ls := by
    intro m
    induction m with
    | zero => intro _; exact h
    | succ m ih =>
      intro hm
      exact (ih (by omega)).next (by omega) (h2 (fr + m) (by omega) (by omega))
  exact ⟨fr + (ln - 1), by omega, by omega, go (ln - 1) (by omega)⟩
theorem line_yes {s : ByteArray} {fr ln : Nat} {ls : List Nt} {n : NoteR} (hl : LineAt s fr ln) (h : GoneN s fr fr ls) (hn : noteO (s.extract fr (fr + ln)) = some n) : GoneN s (fr + ln) (fr + ln) (ls ++ [n.nt]) := by
  obtain ⟨k, hk, hks, hg⟩ := line_gone hl h
  rw [← hk] at hn ⊢
  refine hg.step hks ?_ hn
  have hz : (s.extract fr (k + 1)).size = (k - fr) + 1 := by rw [ByteArray.size_extract]; have := hl.1; omega
  obtain ⟨h1, h2⟩ := noteO_some hn
  apply Classical.byContradiction
  intro hb
  have := noteO_bad (s := s.extract fr (k + 1)) fun m hm => by
    obtain rfl : m = k - fr := by omega
    rw [byteAt_extract (by omega) (by have := hl.1; omega), show fr + (k - fr) = k by have := hl.1; omega]
    exact hb
  rw [hn] at this
  cases this
theorem line_no {s : ByteArray} {fr ln : Nat} {ls : List Nt} (hl : LineAt s fr ln) (h : GoneN s fr fr ls) (hn : noteO (s.extract fr (fr + ln)) = none) : ls = (ntsOf s).1 ∧ fr = (ntsOf s).2 := by
  obtain ⟨k, hk, hks, hg⟩ := line_gone hl h
  rw [← hk] at hn
  by_cases hb : byteAt s k = 10
  · exact hg.stop hks hb hn
  · have he : k + 1 = s.size := by
      rcases hl.2.2.2 with h4 | h4
      · rw [show fr + ln - 1 = k by omega] at h4
        exact absurd h4 hb
      · omega
    exact (hg.next hks hb).end he

theorem Mid.on {s : ByteArray} {w : World} {b fr : Nat} {v : Value} {ls : List Nt} {W W' : World} (h : Mid s w b fr v ls W) (hb : Below W.heap.size W W') (hw : b ≤ W.heap.size) : Mid s w b fr v ls W' :=
  ⟨(hb.block _ (Array.getElem?_eq_some_iff.1 h.list).1).trans h.list, (hb.block _ (Array.getElem?_eq_some_iff.1 h.used).1).trans h.used, h.ge.on hb, (hb.block _ (Array.getElem?_eq_some_iff.1 h.def_).1).trans h.def_, h.below.trans (hb.mono hw), h.len⟩
/-- Behind an append to the list the low blocks are as they were. -/
theorem Mid.low {s : ByteArray} {w : World} {b fr : Nat} {v : Value} {ls : List Nt} {W V w' : World} (h : Mid s w b fr v ls W) (hsz : b + 5 ≤ W.heap.size) (hb : Below W.heap.size W V) (hc : Chg (fun y => v.ownBlock = some y) V w') : ∀ k, k < b + 5 → w'.heap[k]? = W.heap[k]? := fun k hk => by
  rw [hc.block k (by have := hb.size; omega) (fun ho => by have := (h.ge.own ho).1; omega)]
  exact hb.block k (by omega)
/-- The boxes are written: a round is over. -/
theorem Mid.round {s : ByteArray} {w : World} {b fr ln : Nat} {v v' : Value} {ls : List Nt} {p : Nt} {W w3 : World} (h : Mid s w b fr v ls W) (hlow : ∀ k, k < b + 5 → w3.heap[k]? = W.heap[k]?) (hge : GE ntC 26 (b + 5) (ls ++ [p]) v' w3) (hB : Below b w w3) (hline : LineAt s fr ln) :
    Mid s w b (fr + ln) v' (ls ++ [p]) ((w3.setCell ⟨b, 0, none⟩ v').setCell ⟨b + 1, 0, none⟩ (.int .i64 ((fr + ln : Nat) : Int))) ∧ (∀ k, k ≠ b → k ≠ b + 1 → k < b + 5 → ((w3.setCell ⟨b, 0, none⟩ v').setCell ⟨b + 1, 0, none⟩ (.int .i64 ((fr + ln : Nat) : Int))).heap[k]? = W.heap[k]?) := by
  have h0 : ∀ k, k ≠ b → k ≠ b + 1 → ((w3.setCell ⟨b, 0, none⟩ v').setCell ⟨b + 1, 0, none⟩ (.int .i64 ((fr + ln : Nat) : Int))).heap[k]? = w3.heap[k]? := fun k h1 h2 => by
    rw [Below.heap_setCell _ _ _ k h2, Below.heap_setCell _ _ _ k h1]
  have hl := row_setL (j := 0) (by rw [hlow b (by omega)]; exact h.list : w3.heap[b]? = some (.cells #[v] 33 (0, 0))) v'
  have hu := row_setL (j := 0) (by rw [Below.heap_setCell _ _ _ (b + 1) (by show b + 1 ≠ b; omega), hlow (b + 1) (by omega)]; exact h.used : (w3.setCell ⟨b, 0, none⟩ v').heap[b + 1]? = some (.cells #[.int .i64 (fr : Int)] 3 (0, 0))) (.int .i64 ((fr + ln : Nat) : Int))
  refine ⟨⟨?_, ?_, hge.same fun g hg => h0 g (by omega) (by omega), ?_, ?_, ?_⟩, fun k h1 h2 h3 => (h0 k h1 h2).trans (hlow k h3)⟩
  · rw [Below.heap_setCell _ _ _ b (by show b ≠ b + 1; omega)]
    exact hl.trans (by simp)
  · exact hu.trans (by simp)
  · rw [h0 (b + 3) (by omega) (by omega), hlow (b + 3) (by omega)]
    exact h.def_
  · exact setB (setB hB (Nat.le_refl _)) (by omega)
  · have := h.len
    have := hline.1
    have := hline.2.1
    simp only [List.length_append, List.length_cons, List.length_nil]
    omega

set_option maxRecDepth 100000 in
set_option maxHeartbeats 2000000 in
/-- How the body of a round may be left. -/
def endN (s : ByteArray) (w : World) (b fr ln : Nat) (W : World) : Exit → Act → World → Prop
  | .normal, _, W' => (∃ v ls, Mid s w b (fr + ln) v ls W' ∧ GoneN s (fr + ln) (fr + ln) ls) ∧ W'.heap[b + 4]? = W.heap[b + 4]? ∧ W'.heap[b + 2]? = W.heap[b + 2]?
  | .exit id, _, W' => id = 0 ∧ (∃ v ls, Mid s w b fr v ls W' ∧ (ls = (ntsOf s).1 ∧ fr = (ntsOf s).2)) ∧ W'.heap[b + 4]? = W.heap[b + 4]?
  | _, _, _ => False

theorem wpIn_lines {g : Operand} {asg body : Code} {Q : Exit → Act → World → Prop} {tm : Array Value} {w W3 : World} {b : Nat} {s : ByteArray} (hs : s.size ≤ 2097152)
    (hg : ({ tmps := tm, defers := [] } : Act).eval g = .func (.func 38) #[] #[.pointer (some ⟨b + 2, 0, none⟩)]) (h3 : W3.heap.size = b + 3)
    (hl0 : W3.heap[b]? = some (.cells #[.slice none 0 0] 33 (0, 0))) (hu0 : W3.heap[b + 1]? = some (.cells #[.int .i64 0] 3 (0, 0))) (hc0 : W3.heap[b + 2]? = some (.cells #[.string s] 9 (0, 0))) (hB : Below b w W3) (a₁ : ByteArray → Act)
    (hasg : ∀ (l : Nat) (x : ByteArray) (W : World) (K : Act → World → Prop), K (a₁ x) W → asg.wpIn (Fence.wide.inRound l) 1 Tryd.prog (Exit.then K (fun _ _ _ => False)) { tmps := (#[11].zip #[.string x]).foldl (fun t (p, v) => t.setIfInBounds p v) tm, defers := [] } W)
    (hbody : ∀ (l fr ln : Nat) (v : Value) (ls : List Nt) (W : World), Mid s w b fr v ls W → GoneN s fr fr ls → LineAt s fr ln → b + 5 ≤ W.heap.size → body.wpIn (Fence.wide.inRound l) 1 Tryd.prog (endN s w b fr ln W) (a₁ (s.extract fr (fr + ln))) W)
    (hend : ∀ (v : Value) (ls : List Nt) (fr : Nat) (W : World), Mid s w b fr v ls W → (ls = (ntsOf s).1 ∧ fr = (ntsOf s).2) → Q .normal { tmps := tm, defers := [{ target := .collected (b + 3), args := #[] }] } W)
    (hstop : ∀ (v : Value) (ls : List Nt) (fr : Nat) (W : World), Mid s w b fr v ls W → (ls = (ntsOf s).1 ∧ fr = (ntsOf s).2) → (Code.exit 0).wpIn Fence.wide 3 Tryd.prog Q { tmps := tm, defers := [{ target := .collected (b + 3), args := #[] }] } W) :
    (Code.rangeFunc g #[11] asg body).wpIn Fence.wide 3 Tryd.prog Q { tmps := tm, defers := [] } W3 := by
  refine wpIn_rangeFunc ?_
  intro fn hfn
  obtain ⟨rec, hrec⟩ : ∃ rec : LoopState → Option Code → Loop, rec = fun st pe => { state := st, pending := pe, fn, tmps := tm, params := #[11], assign := asg, body, defers := W3.heap.size } := ⟨_, rfl⟩
  obtain ⟨W1, hW1⟩ : ∃ W1, (W3.alloc (.deferred (some []))).alloc (.loop (rec .ready none)) = W1 := ⟨_, rfl⟩
  have old : ∀ k, k < b + 3 → W1.heap[k]? = W3.heap[k]? := fun k hk => by
    rw [← hW1, Below.heap_alloc _ _ k (by rw [heap_size_alloc]; omega), Below.heap_alloc _ _ k (by omega)]
  have hD1 : W1.heap[b + 3]? = some (.deferred (some [])) := by
    rw [← hW1, Below.heap_alloc _ _ (b + 3) (by rw [heap_size_alloc]; omega), ← h3]
    exact heap_alloc_new _ _
  have hL1 : W1.heap[b + 4]? = some (.loop (rec .ready none)) := by
    rw [← hW1]
    have := heap_alloc_new (W3.alloc (.deferred (some []))) (.loop (rec .ready none))
    rw [heap_size_alloc, h3] at this
    exact this
  have hB1 : Below b w W1 := by
    rw [← hW1]
    exact (hB.alloc (by omega) _).alloc (by rw [heap_size_alloc]; omega) _
  have hm1 : Mid s w b 0 (.slice none 0 0) [] W1 := ⟨by rw [old b (by omega)]; exact hl0, by rw [old (b + 1) (by omega)]; exact hu0, GE.empty _ _ _ _, hD1, hB1, ⟨Nat.le_refl _, Nat.zero_le _⟩⟩
  have hc1 : W1.heap[b + 2]? = some (.cells #[.string s] 9 (0, 0)) := by rw [old (b + 2) (by omega)]; exact hc0
  refine ⟨b + 4, [{ target := .collected (b + 3), args := #[] }], W1, { target := .fn (.func 38) #[.pointer (some ⟨b + 2, 0, none⟩)], args := #[.func (.yield (b + 4)) #[] #[]] }, W1, 38,
    #[.func (.yield (b + 4)) #[] #[]] ++ #[.pointer (some ⟨b + 2, 0, none⟩)], W1, ?_, ?_, ?_, ?_, fun h => absurd h (by decide), ?_⟩
  · rw [← hW1, hrec, show b + 4 = W3.heap.size + 1 by omega, show b + 3 = W3.heap.size by omega]
    exact run_enterLoop_outer _ _ _ _ _
  · simp only [resolve, hg]
    simp [go_sem]
  · intro f' _; trivial
  · simp [invoke, go_sem]
  · refine (lines_in 2 (b + 4) (b + 2) s (JN s w b (rec .ready none)) (JxN s w b (rec .done (some (.exit 0)))) hs (fun fr W v h => h.set (by omega) v) (fun fr W h => h.drew) ?_ W1 (by rw [cell_of_row hc1 (by simp)]; rfl) (frozen_of_row hc1) ⟨_, [], hm1, GoneN.start s, hL1⟩).mono ?_
    · rintro fr ln W ⟨v, ls, hm, hgo, hl⟩ hline hcell hfz
      have hlt : b + 4 < W.heap.size := (Array.getElem?_eq_some_iff.1 hl).1
      have hy := run_yield (P := Tryd.prog) (args := #[.string (s.extract fr (fr + ln))]) hl (by rw [hrec]; rfl)
      rw [hrec] at hy
      refine ⟨fn, _, asg, body, hy, roundIn_of_wpIn trivial (hasg _ (s.extract fr (fr + ln)) W _ ⟨_, run_beginRound hl (by rw [hrec]), ?_⟩)⟩
      have hl2 : (W.putObj (b + 4) (.loop { rec .ready none with state := .busy })).heap[b + 4]? = some (.loop { rec .ready none with state := .busy }) := World.putObj_heap_same hlt
      have ho2 : ∀ k, k ≠ b + 4 → (W.putObj (b + 4) (.loop { rec .ready none with state := .busy })).heap[k]? = W.heap[k]? := fun k hk => World.putObj_heap_other hk
      have hm2 := hm.other (W' := W.putObj (b + 4) (.loop { rec .ready none with state := .busy })) (fun k _ hk => ho2 k hk) (putB hm.below (by omega))
      refine wpIn_mono (hbody _ fr ln v ls _ hm2 hgo hline (by rw [World.putObj_size]; omega)) ?_
      rintro e a3 W4 hp
      cases e with
      | normal =>
        obtain ⟨⟨v', ls', hm4, hg4⟩, hr4, hb4⟩ := hp
        rw [hl2] at hr4
        have hlt4 : b + 4 < W4.heap.size := (Array.getElem?_eq_some_iff.1 hr4).1
        have hrun := run_endRound (P := Tryd.prog) none hr4
        rw [hrec] at hrun
        refine ⟨_, _, hrun, Or.inl ⟨rfl, ⟨v', ls', hm4.other (fun k _ hk => World.putObj_heap_other hk) (putB hm4.below (by omega)), hg4, by rw [hrec]; exact World.putObj_heap_same hlt4⟩, ?_, ?_⟩⟩
        · rw [put_cell (by omega), World.cell?_of_block (hb4.trans (ho2 _ (by omega))), hcell]
        · rw [put_frozen (by omega), World.frozen?_of_block (hb4.trans (ho2 _ (by omega))), hfz]
      | exit id =>
        obtain ⟨rfl, ⟨v', ls', hm4, hg4⟩, hr4⟩ := hp
        rw [hl2] at hr4
        have hlt4 : b + 4 < W4.heap.size := (Array.getElem?_eq_some_iff.1 hr4).1
        have hrun := run_endRound (P := Tryd.prog) (some (.exit 0)) hr4
        rw [hrec] at hrun
        exact ⟨_, _, hrun, Or.inr ⟨rfl, v', ls', hm4.other (fun k _ hk => World.putObj_heap_other hk) (putB hm4.below (by omega)), hg4, by rw [hrec]; exact World.putObj_heap_same hlt4⟩⟩
      | ret => exact hp.elim
      | goto t => exact hp.elim
      | panic ch => exact hp.elim
      | outgrown => exact hp.elim
    · rintro e W2 ⟨⟨v0, rfl⟩, (⟨v, ls, hm, hgo, hl⟩ | ⟨fr, v, ls, hm, hE, hl⟩)⟩
      · refine ⟨none, _, by have := run_endLoop (P := Tryd.prog) hl (by rw [hrec]; simp); rw [hrec] at this; exact this, hend v ls s.size _ (hm.other (fun k _ hk => World.putObj_heap_other hk) (putB hm.below (by omega))) (hgo.end rfl)⟩
      · refine ⟨some (.exit 0), _, by have := run_endLoop (P := Tryd.prog) hl (by rw [hrec]; simp); rw [hrec] at this; exact this, hstop v ls fr _ (hm.other (fun k _ hk => World.putObj_heap_other hk) (putB hm.below (by omega))) hE⟩

set_option maxRecDepth 100000 in
set_option maxHeartbeats 2000000 in
theorem notesI (s : ByteArray) (te : TypeId) (pe : Value) (w : World) (hs : s.size ≤ 2097152) (hv : Wd w te pe) :
    Calls Tryd.prog 14 #[.string s] w fun e w' => ∃ v, e = .returned (.tuple #[v, .int .i64 ((ntsOf s).2 : Int)]) ∧ GE ntC 26 w.heap.size (ntsOf s).1 v w' ∧ Below w.heap.size w w' := by
  refine (callsIn_wide (n := 3)).1 ?_
  have hLM := hide (fun u => (callsIn_wide (n := 2)).2 (linesMade s u))
  refine callsIn_of_wp_marks Tryd.func14 rfl trivial ?_ rfl
  simp only [Tryd.ntmps14, List.size_toArray, List.length_cons, List.length_nil, Nat.reduceAdd, Nat.reduceSub, Array.replicate_succ, Array.replicate_zero, List.push_toArray, List.append_toArray, List.nil_append, List.cons_append]
  gi_wp2_with (refine ⟨trivial, ?_⟩; refine (unhide hLM _).mono ?_; rintro e w2 ⟨rfl, rfl⟩; simp only [heap_size_alloc])
  have e1 : (w.alloc (.cells #[.slice none 0 0] 33)).heap.size = w.heap.size + 1 := heap_size_alloc _ _
  have e2 : ((w.alloc (.cells #[.slice none 0 0] 33)).alloc (.cells #[.int .i64 0] 3)).heap.size = w.heap.size + 2 := by rw [heap_size_alloc, e1]
  have e3 : (((w.alloc (.cells #[.slice none 0 0] 33)).alloc (.cells #[.int .i64 0] 3)).alloc (.cells #[.string s] 9)).heap.size = w.heap.size + 3 := by rw [heap_size_alloc, e2]
  have hB : Below w.heap.size w (((w.alloc (.cells #[.slice none 0 0] 33)).alloc (.cells #[.int .i64 0] 3)).alloc (.cells #[.string s] 9)) := btP (btP (abP _) (abP _)) (abP _)
  have hl0 : (((w.alloc (.cells #[.slice none 0 0] 33)).alloc (.cells #[.int .i64 0] 3)).alloc (.cells #[.string s] 9)).heap[w.heap.size]? = some (.cells #[.slice none 0 0] 33 (0, 0)) := by
    rw [Below.heap_alloc _ _ _ (by omega), Below.heap_alloc _ _ _ (by omega)]
    exact heap_alloc_new _ _
  have hu0 : (((w.alloc (.cells #[.slice none 0 0] 33)).alloc (.cells #[.int .i64 0] 3)).alloc (.cells #[.string s] 9)).heap[w.heap.size + 1]? = some (.cells #[.int .i64 0] 3 (0, 0)) := by
    rw [Below.heap_alloc _ _ _ (by omega), ← e1]
    exact heap_alloc_new _ _
  have hc0 : (((w.alloc (.cells #[.slice none 0 0] 33)).alloc (.cells #[.int .i64 0] 3)).alloc (.cells #[.string s] 9)).heap[w.heap.size + 2]? = some (.cells #[.string s] 9 (0, 0)) := by
    rw [← e2]
    exact heap_alloc_new _ _
  refine wpIn_lines hs rfl e3 hl0 hu0 hc0 hB (fun x => { tmps := #[.string s, undef, .slice none 0 0, .int .i64 0, .pointer (some ⟨w.heap.size, 0, none⟩), .pointer (some ⟨w.heap.size + 1, 0, none⟩), .string x, undef, undef, .string s, .func (.func 38) #[] #[.pointer (some ⟨w.heap.size + 1 + 1, 0, none⟩)], .string x, undef, undef, undef, undef, undef, undef, undef, undef, undef, undef, undef, undef, undef, undef, undef, undef, undef], defers := [] }) ?asg ?body ?hend ?hstop
  case asg =>
    intro l x W K hK
    gi_wp2
    exact hK
  case body =>
    intro l fr ln v ls W hm hgo hline hsz
    obtain ⟨ua, uc, rfl⟩ := hm.ge.shape
    have hzl : (s.extract fr (fr + ln)).size = ln := by rw [ByteArray.size_extract]; have := hline.2.1; omega
    have hVW := hide (hv.on hm.below)
    obtain ⟨line, hl⟩ : ∃ line, line = s.extract fr (fr + ln) := ⟨_, rfl⟩
    have hlz : line.size = ln := by rw [hl]; exact hzl
    have hI := hide (fun u (hu : Below W.heap.size W u) => (callsIn_wide (n := 0)).2 (noteOfI line te pe u (by have := hline.2.1; omega) ((unhide hVW).on hu)))
    have c0 : W.cell? ⟨w.heap.size, 0, none⟩ = some (.slice ua ls.length uc) := by rw [cell_of_row hm.list (by simp)]; rfl
    have c1 : W.cell? ⟨w.heap.size + 1, 0, none⟩ = some (.int .i64 (fr : Int)) := by rw [cell_of_row hm.used (by simp)]; rfl
    cases hn : noteO line with
    | none =>
      rw [hn] at hI
      rw [hl] at hn
      have HE := hide (line_no hline hgo hn)
      rw [← hl]
      unfold ansO at hI
      have HM := hide hm
      have HS := hide hsz
      clear hn hl hm hgo hline hsz hzl hlz c0 c1 hl0 hu0 hc0 hB e1 e2 e3
      gi_wp2_with (refine ⟨trivial, ?_⟩; refine (CallsIn.inRound l (unhide hI _ (Below.refl _ _))).mono ?_; rintro e w2 ⟨rfl, hb2⟩; have HB2 := hide hb2; clear hb2)
      have hss := unhide HS
      have hbb := btP (unhide HB2) (abP (w := w2) (.cells #[.int .i64 0, .int .i64 0, .string ⟨#[]⟩, .int .i64 0, .int .i64 0] 26))
      exact ⟨rfl, ⟨_, ls, (unhide HM).on hbb (by omega), unhide HE⟩, hbb.block _ (by omega)⟩
    | some n =>
      rw [hn] at hI
      rw [hl] at hn
      have HN := hide (line_yes hline hgo hn)
      rw [← hl]
      obtain ⟨pk, ph, pd, pb, pt⟩ := n
      unfold ansO at hI
      have HM := hide hm
      have HS := hide hsz
      have HLI := hide hline
      have HLN : Hid (ls.length ≤ 68719476736) := by have := hm.len; show _ ≤ _; omega
      have d1 : wrap64 ((fr : Int) + (line.size : Int)) = ((fr + ln : Nat) : Int) := by have := hline.2.1; have := hm.len; unfold wrap64; omega
      obtain ⟨ul, hul⟩ : ∃ ul, ul = ls.length := ⟨_, rfl⟩
      rw [← hul] at c0
      have HUL := hide hul
      have f0 : W.frozen? ⟨w.heap.size, 0, none⟩ = false := frozen_of_row hm.list
      have f1 : W.frozen? ⟨w.heap.size + 1, 0, none⟩ = false := frozen_of_row hm.used
      clear hul hn hl hm hgo hline hsz hzl hlz hl0 hu0 hc0 hB e1 e2 e3
      gi_wp2_with (first
        | (gi_at_builtin
           refine wpListIn_append_run rfl _ _ 33 rfl (.slice ua ul uc) (.slice (some ⟨w2.heap.size + 1, 0, none⟩) 1 1) rfl rfl (fun v' w' => GE ntC 26 (w.heap.size + 5) (ls ++ [⟨pk, ph, pd, pb, pt⟩]) v' w' ∧ Below (w.heap.size + 5) ((w2.alloc (.cells #[.int .i64 pk, .int .i64 ph, .string pd, .int .i64 pb, .int .i64 pt] 26)).alloc (.cells #[.int .i64 pk, .int .i64 ph, .string pd, .int .i64 pb, .int .i64 pt] 26)) w' ∧ Chg (fun y => (Value.slice ua ul uc).ownBlock = some y) ((w2.alloc (.cells #[.int .i64 pk, .int .i64 ph, .string pd, .int .i64 pb, .int .i64 pt] 26)).alloc (.cells #[.int .i64 pk, .int .i64 ph, .string pd, .int .i64 pb, .int .i64 pt] 26)) w') (unhide HAP) ?_
           rintro v3 w3 ⟨hg3, hb3, hc3⟩
           rw [unhide HUL] at hc3
           obtain ⟨a3, k3, rfl⟩ := hg3.shape
           have hlow := (unhide HM).low (unhide HS) (unhide HBA) hc3
           have y0 : w3.cell? ⟨w.heap.size, 0, none⟩ = some (.slice ua ul uc) := (World.cell?_of_block (hlow (w.heap.size) (by omega))).trans c0
           have y1 : w3.cell? ⟨w.heap.size + 1, 0, none⟩ = some (.int .i64 (fr : Int)) := (World.cell?_of_block (hlow (w.heap.size + 1) (by omega))).trans c1
           have z0 : w3.frozen? ⟨w.heap.size, 0, none⟩ = false := (World.frozen?_of_block (hlow (w.heap.size) (by omega))).trans f0
           have z1 : w3.frozen? ⟨w.heap.size + 1, 0, none⟩ = false := (World.frozen?_of_block (hlow (w.heap.size + 1) (by omega))).trans f1
           have HG3 := hide hg3
           have HB3 := hide hb3
           have HLOW := hide hlow
           obtain ⟨n3, hn3⟩ : ∃ n3, n3 = (ls ++ [(⟨pk, ph, pd, pb, pt⟩ : Nt)]).length := ⟨_, rfl⟩
           rw [← hn3] at HG3 ⊢
           clear hg3 hb3 hc3 hlow x0 hn3)
        | (refine ⟨trivial, ?_⟩
           refine (CallsIn.inRound l (unhide hI _ (Below.refl _ _))).mono ?_
           rintro e w2 ⟨rfl, hb2⟩
           have HB2 := hide hb2
           have x0 : (w2.alloc (.cells #[.int .i64 pk, .int .i64 ph, .string pd, .int .i64 pb, .int .i64 pt] 26)).cell? ⟨w.heap.size, 0, none⟩ = some (.slice ua ul uc) := below_some (btP hb2 (abP _)) c0
           have HBA : Hid (Below W.heap.size W ((w2.alloc (.cells #[.int .i64 pk, .int .i64 ph, .string pd, .int .i64 pb, .int .i64 pt] 26)).alloc (.cells #[.int .i64 pk, .int .i64 ph, .string pd, .int .i64 pb, .int .i64 pt] 26))) := btP (btP hb2 (abP _)) (abP _)
           have HAP := hide (nt_push (unhide HM).ge (unhide HBA) ⟨pk, ph, pd, pb, pt⟩ (row_range (heap_alloc_new (w2.alloc (.cells #[.int .i64 pk, .int .i64 ph, .string pd, .int .i64 pb, .int .i64 pt] 26)) _)) (unhide HLN) (unhide HS))
           have eP : (w2.alloc (.cells #[.int .i64 pk, .int .i64 ph, .string pd, .int .i64 pb, .int .i64 pt] 26)).heap.size = w2.heap.size + 1 := heap_size_alloc _ _
           rw [eP, ← unhide HUL] at HAP
           clear hb2 eP))
      have hmid := (unhide HM).round (unhide HLOW) (unhide HG3) (((unhide HM).below.trans ((unhide HBA).mono (by have := unhide HS; omega))).trans ((unhide HB3).mono (by omega))) (unhide HLI)
      exact ⟨⟨_, _, hmid.1, unhide HN⟩, hmid.2 _ (by omega) (by omega) (by omega), hmid.2 _ (by omega) (by omega) (by omega)⟩
  case hend =>
    intro v ls fr W hm hE
    obtain ⟨ua, uc, rfl⟩ := hm.ge.shape
    have c0 : W.cell? ⟨w.heap.size, 0, none⟩ = some (.slice ua ls.length uc) := by rw [cell_of_row hm.list (by simp)]; rfl
    have c1 : W.cell? ⟨w.heap.size + 1, 0, none⟩ = some (.int .i64 (fr : Int)) := by rw [cell_of_row hm.used (by simp)]; rfl
    have HM := hide hm
    have HE := hide hE
    have HF := hide (show (fr : Int) = (((ntsOf s).2 : Nat) : Int) by rw [hE.2])
    have hK : W.drew.heap[w.heap.size + 3]? = some (.deferred (some [])) := hm.def_
    have HR := hide (run_takeDeferred (P := Tryd.prog) hK)
    have HG : Hid (GE ntC 26 w.heap.size (ntsOf s).1 (.slice ua ls.length uc) (W.drew.putObj (w.heap.size + 3) (.deferred none))) := by
      show GE _ _ _ _ _ _
      rw [← hE.1]
      exact ((hm.ge.same (w' := W.drew.putObj (w.heap.size + 3) (.deferred none)) fun g hg => World.putObj_heap_other (by omega)).lower (by omega))
    have HBF : Hid (Below w.heap.size w (W.drew.putObj (w.heap.size + 3) (.deferred none))) := putB hm.below.drew (by omega)
    clear hm hE hl0 hu0 hc0 hB e1 e2 e3 hK
    gi_wp2
    gi_region
    all_goals gi_wp2
    refine ⟨by simp, .inl ⟨_, _, rfl, unhide HR, ?_⟩⟩
    refine ⟨.tuple #[.slice ua ls.length uc, .int .i64 (fr : Int)], by simp [results, Tryd.results14, go_sem], .slice ua ls.length uc, by rw [unhide HF], unhide HG, unhide HBF⟩
  case hstop =>
    intro v ls fr W hm hE
    obtain ⟨ua, uc, rfl⟩ := hm.ge.shape
    have c0 : W.cell? ⟨w.heap.size, 0, none⟩ = some (.slice ua ls.length uc) := by rw [cell_of_row hm.list (by simp)]; rfl
    have c1 : W.cell? ⟨w.heap.size + 1, 0, none⟩ = some (.int .i64 (fr : Int)) := by rw [cell_of_row hm.used (by simp)]; rfl
    have HM := hide hm
    have HE := hide hE
    have HF := hide (show (fr : Int) = (((ntsOf s).2 : Nat) : Int) by rw [hE.2])
    have hK : W.drew.heap[w.heap.size + 3]? = some (.deferred (some [])) := hm.def_
    have HR := hide (run_takeDeferred (P := Tryd.prog) hK)
    have HG : Hid (GE ntC 26 w.heap.size (ntsOf s).1 (.slice ua ls.length uc) (W.drew.putObj (w.heap.size + 3) (.deferred none))) := by
      show GE _ _ _ _ _ _
      rw [← hE.1]
      exact ((hm.ge.same (w' := W.drew.putObj (w.heap.size + 3) (.deferred none)) fun g hg => World.putObj_heap_other (by omega)).lower (by omega))
    have HBF : Hid (Below w.heap.size w (W.drew.putObj (w.heap.size + 3) (.deferred none))) := putB hm.below.drew (by omega)
    clear hm hE hl0 hu0 hc0 hB e1 e2 e3 hK
    gi_wp2
    gi_region
    all_goals gi_wp2
    refine ⟨by simp, .inl ⟨_, _, rfl, unhide HR, ?_⟩⟩
    refine ⟨.tuple #[.slice ua ls.length uc, .int .i64 (fr : Int)], by simp [results, Tryd.results14, go_sem], .slice ua ls.length uc, by rw [unhide HF], unhide HG, unhide HBF⟩

end Go.Proofs.YtjckdepcgjfomaaDoor
