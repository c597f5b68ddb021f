/- Single operations of regions that draw their order: a move, an index, a load of a text, a call that may panic. -/
import Derived.Test.YtjckdepcgjfomaaDoorOn
import Derived.OrdersHeld
import Derived.Deep.RegionHeld3
namespace Go.Proofs.YtjckdepcgjfomaaDoor
open Go.RowKit Go.Deep

theorem enterP {P : Program} {f : Nat} {fn : Func} {args : Array Value} {w : World} (hf : P.funcs[f]? = some fn) (hn : (fn.name == "runtime.NumGoroutine") = false) (hb : fn.body.isNone = false) :
    (callFunc f args).run P w = .ok (.enter f args) w := by
  simp [callFunc, go_sem, hf]
  rw [if_neg (by simpa using hn), if_neg (by intro h; rw [h] at hb; cases hb)]
theorem step_callP {P : Program} {ops : Array Oper} {Q : Exit → Act → World → Prop} {i d f : Nat} {fn : Func} {xs : Array Operand} {ats : Array TypeId} {ty : TypeId} {pos : String} {after : Array Edge} {K : Act → World → Prop} {a : Act} {w : World}
    (ho : ops[i]? = some { dst := some d, op := .call { callee := .value (.func f), args := xs, argTypes := ats }, type := ty, pos := pos, after := after, guard := none })
    (hf : P.funcs[f]? = some fn) (hn : (fn.name == "runtime.NumGoroutine") = false) (hb : fn.body.isNone = false)
    (h : Calls P f (xs.map a.eval) w fun e w' => (∃ v, e = .returned v ∧ K (a.put (some d) v) w') ∨ ∃ ch, e = .panicked ch ∧ Q (.panic ch) a w') :
    wpOp P ops Q i K a w := by
  refine wpOp_step ho fun K' hK => ?_
  rw [if_pos (by rfl)]
  unfold Oper.wp
  rw [execOp_call_go, enterP hf hn hb]
  have he : (#[] ++ xs.map a.eval ++ #[] : Array Value) = xs.map a.eval := by simp
  rw [he]
  refine Calls.mono h ?_
  rintro e w' (⟨v, rfl, hv⟩ | ⟨ch, rfl, hv⟩)
  · exact hK _ _ hv
  · exact hv
section
variable {ops : Array Oper} {Q : Exit → Act → World → Prop} {S : World → Prop} {md : Region.Mode}
theorem all_callP {P : Program} {i d f t : Nat} {fn : Func} {ats : Array TypeId} {ty : TypeId} {pos : String} {after : Array Edge} {fuel : Nat} {listed : Array Bool} {a : Act} {w : World} {v0 : Value}
    (hr : Region.ready md ops listed = [i])
    (ho : ops[i]? = some { dst := some d, op := .call { callee := .value (.func f), args := #[.tmp t], argTypes := ats }, type := ty, pos := pos, after := after, guard := none })
    (hf : P.funcs[f]? = some fn) (hn : (fn.name == "runtime.NumGoroutine") = false) (hb : fn.body.isNone = false)
    (hx : a.eval (.tmp t) = v0)
    (h : Calls P f #[v0] w fun e w' => (∃ v, e = .returned v ∧ S w' ∧ (S w' → wpAnyH P md ops Q S fuel (listed.setIfInBounds i true) (a.put (some d) v) w')) ∨ ∃ ch, e = .panicked ch ∧ Q (.panic ch) a w') : wpAnyH P md ops Q S (fuel + 1) listed a w :=
  wpAnyH_all hr (by simp) fun j hj => by
    obtain rfl : j = i := by simpa using hj
    refine step_callP ho hf hn hb ?_
    simp only [List.map_toArray, List.map_cons, List.map_nil]
    rw [hx]
    exact h.mono fun e w' hh => hh.imp (fun ⟨v, he, hS, hk⟩ => ⟨v, he, hS, hk hS⟩) id
theorem take_move {i d t : Nat} {ty : TypeId} {pos : String} {after : Array Edge} {fuel : Nat} {listed : Array Bool} {a : Act} {w : World} {v : Value}
    (ho : ops[i]? = some { dst := some d, op := .move (.tmp t), type := ty, pos := pos, after := after, guard := none })
    (hx : a.eval (.tmp t) = v)
    (hs : Region.noSelect ops = true) (hf : Region.free md ops listed i = true) (hy : (Region.ready md ops listed).contains i = true) (hQ : ∀ c a w v, Q (.panic c) (a.put (some d) v) w → Q (.panic c) a w) (hS : S w)
    (h : wpAnyH Tryd.prog md ops Q S fuel (listed.setIfInBounds i true) (a.put (some d) v) w) : wpAnyH Tryd.prog md ops Q S (fuel + 1) listed a w := by
  refine wpAnyH_take (v := v) ho hs hf hy (fun c a w hq => hQ c a w _ hq) (Or.inl ⟨by rfl, ?_⟩) hS h
  intro y hSy
  have hx' : a.tmps[t]?.getD undef = v := by simpa [Act.eval] using hx
  clear hx ho hf hy hQ hS h hSy
  go_simp
  try with_reducible rfl
theorem take_load9 {i d t : Nat} {ty : TypeId} {pos : String} {after : Array Edge} {fuel : Nat} {listed : Array Bool} {a : Act} {w : World} {g o : Nat} {s : ByteArray}
    (ho : ops[i]? = some { dst := some d, op := .load 9 (.tmp t), type := ty, pos := pos, after := after, guard := none })
    (hx : a.eval (.tmp t) = .pointer (some ⟨g, o, none⟩)) (hr : ∀ y, S y → y.cell? ⟨g, o, none⟩ = some (.string s))
    (hs : Region.noSelect ops = true) (hf : Region.free md ops listed i = true) (hy : (Region.ready md ops listed).contains i = true) (hQ : ∀ c a w v, Q (.panic c) (a.put (some d) v) w → Q (.panic c) a w) (hS : S w)
    (h : wpAnyH Tryd.prog md ops Q S fuel (listed.setIfInBounds i true) (a.put (some d) (.string s)) w) : wpAnyH Tryd.prog md ops Q S (fuel + 1) listed a w := by
  refine wpAnyH_take (v := .string s) ho hs hf hy (fun c a w hq => hQ c a w _ hq) (Or.inl ⟨by rfl, ?_⟩) hS h
  intro y hSy
  have hc := hr y hSy
  have hx' : a.tmps[t]?.getD undef = .pointer (some ⟨g, o, none⟩) := by simpa [Act.eval] using hx
  clear hx hr ho hf hy hQ hS h hSy
  go_simp
  try with_reducible rfl
theorem take_idx1 {i d t : Nat} {ty : TypeId} {pos : String} {after : Array Edge} {fuel : Nat} {listed : Array Bool} {a : Act} {w : World} {g n cap : Nat}
    (ho : ops[i]? = some { dst := some d, op := .indexAddr 39 (.tmp t) (.const (.int .i64 1)), type := ty, pos := pos, after := after, guard := none })
    (hx : a.eval (.tmp t) = .slice (some ⟨g, 0, none⟩) n cap) (hn : (1 : Int) < (n : Int))
    (hs : Region.noSelect ops = true) (hf : Region.free md ops listed i = true) (hy : (Region.ready md ops listed).contains i = true) (hQ : ∀ c a w v, Q (.panic c) (a.put (some d) v) w → Q (.panic c) a w) (hS : S w)
    (h : wpAnyH Tryd.prog md ops Q S fuel (listed.setIfInBounds i true) (a.put (some d) (.pointer (some ⟨g, 1, none⟩))) w) : wpAnyH Tryd.prog md ops Q S (fuel + 1) listed a w := by
  refine wpAnyH_take (v := .pointer (some ⟨g, 1, none⟩)) ho hs hf hy (fun c a w hq => hQ c a w _ hq) (Or.inl ⟨by rfl, ?_⟩) hS h
  intro y hSy
  have hx' : a.tmps[t]?.getD undef = .slice (some ⟨g, 0, none⟩) n cap := by simpa [Act.eval] using hx
  clear hx ho hf hy hQ hS h hSy
  go_simp
  try with_reducible rfl
theorem take_idx2 {i d t : Nat} {ty : TypeId} {pos : String} {after : Array Edge} {fuel : Nat} {listed : Array Bool} {a : Act} {w : World} {g n cap : Nat}
    (ho : ops[i]? = some { dst := some d, op := .indexAddr 39 (.tmp t) (.const (.int .i64 2)), type := ty, pos := pos, after := after, guard := none })
    (hx : a.eval (.tmp t) = .slice (some ⟨g, 0, none⟩) n cap) (hn : (2 : Int) < (n : Int))
    (hs : Region.noSelect ops = true) (hf : Region.free md ops listed i = true) (hy : (Region.ready md ops listed).contains i = true) (hQ : ∀ c a w v, Q (.panic c) (a.put (some d) v) w → Q (.panic c) a w) (hS : S w)
    (h : wpAnyH Tryd.prog md ops Q S fuel (listed.setIfInBounds i true) (a.put (some d) (.pointer (some ⟨g, 2, none⟩))) w) : wpAnyH Tryd.prog md ops Q S (fuel + 1) listed a w := by
  refine wpAnyH_take (v := .pointer (some ⟨g, 2, none⟩)) ho hs hf hy (fun c a w hq => hQ c a w _ hq) (Or.inl ⟨by rfl, ?_⟩) hS h
  intro y hSy
  have hx' : a.tmps[t]?.getD undef = .slice (some ⟨g, 0, none⟩) n cap := by simpa [Act.eval] using hx
  clear hx ho hf hy hQ hS h hSy
  go_simp
  try with_reducible rfl
theorem take_idx3 {i d t : Nat} {ty : TypeId} {pos : String} {after : Array Edge} {fuel : Nat} {listed : Array Bool} {a : Act} {w : World} {g n cap : Nat}
    (ho : ops[i]? = some { dst := some d, op := .indexAddr 39 (.tmp t) (.const (.int .i64 3)), type := ty, pos := pos, after := after, guard := none })
    (hx : a.eval (.tmp t) = .slice (some ⟨g, 0, none⟩) n cap) (hn : (3 : Int) < (n : Int))
    (hs : Region.noSelect ops = true) (hf : Region.free md ops listed i = true) (hy : (Region.ready md ops listed).contains i = true) (hQ : ∀ c a w v, Q (.panic c) (a.put (some d) v) w → Q (.panic c) a w) (hS : S w)
    (h : wpAnyH Tryd.prog md ops Q S fuel (listed.setIfInBounds i true) (a.put (some d) (.pointer (some ⟨g, 3, none⟩))) w) : wpAnyH Tryd.prog md ops Q S (fuel + 1) listed a w := by
  refine wpAnyH_take (v := .pointer (some ⟨g, 3, none⟩)) ho hs hf hy (fun c a w hq => hQ c a w _ hq) (Or.inl ⟨by rfl, ?_⟩) hS h
  intro y hSy
  have hx' : a.tmps[t]?.getD undef = .slice (some ⟨g, 0, none⟩) n cap := by simpa [Act.eval] using hx
  clear hx ho hf hy hQ hS h hSy
  go_simp
  try with_reducible rfl
end

end Go.Proofs.YtjckdepcgjfomaaDoor
