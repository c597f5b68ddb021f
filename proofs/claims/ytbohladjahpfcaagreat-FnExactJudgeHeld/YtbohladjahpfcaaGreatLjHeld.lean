/- What is judged; the walks of (impl.Call).held and of the rule that asks for it: nothing that was there is written. What JudgeHeld answers. What is judged: the book with the letters, each letter, each call, as interface values in a row of the call's own; the walk of allJudged. The walk of spec.JudgeHeld: each call that must have a proof, and goes on, has one; each that is good must; nothing that was there is written. The walks of impl.eachRight at the rule of JudgeHeld, of impl.keeps with it, and of impl.JudgeHeld; nothing that was there is written. The walk of impl.JudgeHeld; nothing that was there is written. The walk of laws.FnExactJudgeHeld: whatever world lies in memory it answers true; nothing that was there is written. -/
import Derived.Test.YtbohladjahpfcaaGreatWk
import Derived.Test.YtbohladjahpfcaaGreatOk
import Derived.BigQuiet
import Derived.Deep.MidRow
import Derived.Deep.QuietTactic
import Derived.Test.YtbohladjahpfcaaGreatWoh
import Derived.Test.YtbohladjahpfcaaGreatWwd
import Derived.Deep.DeepAppendWide
import Derived.Deep.RegionWith
import Derived.Test.YtbohladjahpfcaaGreatLwo
import Derived.Deep.RegionHeld3
import Derived.Test.YtbohladjahpfcaaGreatWoi
import Derived.WalkSmall
namespace Go.Proofs.YtbohladjahpfcaaGreat
open Go.RowKit Go.Deep

/-- What a rule is held against. -/
inductive Th where
  | j (b : ByteArray) (P : List Le)
  | l (x : Le)
  | c (x : Ca)
def thAt (w : World) (L : Nat) : Th → List Value → Prop
  | .j b P, cs => P.length ≤ maxLen ∧ ∃ a cap, cs = [.iface 155 (.agg #[.string b, .slice a P.length cap])] ∧ leK.Ls w L a P
  | .l x, cs => ∃ c, cs = [.iface 103 (.agg c.toArray)] ∧ leAt w L x c
  | .c x, cs => ∃ c, cs = [.iface 56 (.agg c.toArray)] ∧ caAt w L x c
def thK : Kd Th where
  n := 1
  at_ := thAt
  pos := by omega
  len := by
    intro w L x cs h
    cases x with
    | j b P => obtain ⟨_, a, cap, rfl, _⟩ := h; rfl
    | l x => obtain ⟨c, rfl, _⟩ := h; rfl
    | c x => obtain ⟨c, rfl, _⟩ := h; rfl
  one := by
    intro w L x cs h v hv
    cases x with
    | j b P => obtain ⟨_, a, cap, rfl, _⟩ := h; obtain rfl := List.mem_singleton.1 hv; rfl
    | l x => obtain ⟨c, rfl, _⟩ := h; obtain rfl := List.mem_singleton.1 hv; rfl
    | c x => obtain ⟨c, rfl, _⟩ := h; obtain rfl := List.mem_singleton.1 hv; rfl
  carry := by
    intro w w' L L' x cs hL hc h
    cases x with
    | j b P => obtain ⟨hm, a, cap, rfl, h⟩ := h; exact ⟨hm, a, cap, rfl, h.carry hL hc⟩
    | l x => obtain ⟨c, rfl, h⟩ := h; exact ⟨c, rfl, leK.carry hL hc h⟩
    | c x => obtain ⟨c, rfl, h⟩ := h; exact ⟨c, rfl, caK.carry hL hc h⟩
/-- The call is held to what it must. -/
def heldC (x : Ca) : Bool := !(x.c.mu && (inB x.c.st 5 9 && !(x.c.tl && x.c.pr)) || (x.g && !x.c.mu))
theorem below_drewNG {w v : World} {n B : Nat} (h : Below B w v) : Below B w (v.drewN n) := ⟨h.os, h.tape, h.output, h.size, h.block⟩
theorem infoCaC : (Tryz.prog.info? 56).map (·.size) = some 15 := by kernel_rfl

set_option maxRecDepth 100000 in
set_option maxHeartbeats 8000000 in
theorem heldI (x : Ca) (cs : List Value) (w : World) (h : caAt w 0 x cs) :
    Calls Tryz.prog 60 #[.agg cs.toArray] w fun e w' => e = .returned (.bool (heldC x)) ∧ Below w.heap.size w w' := by
  obtain ⟨kk, ⟨st, hh, mu, ep, bo, tt, ii, oo, tl, pr⟩, g⟩ := x
  obtain ⟨cw, rfl, -, op, n, s, a, len, cap, rfl, -⟩ := h
  show Calls Tryz.prog 60 #[.agg #[.int .i64 kk, .int .i64 st, .string hh, .bool mu, .int .i64 ep, .int .i64 bo, .int .i64 op, .int .i64 n, .string s, .slice a len cap, .int .i64 ii, .int .i64 oo, .bool tl, .bool pr, .bool g]] w fun e w' => e = .returned (.bool (!(mu && (inB st 5 9 && !(tl && pr)) || (g && !mu)))) ∧ Below w.heap.size w w'
  have HX := Box.new w 56 [.int .i64 kk, .int .i64 st, .string hh, .bool mu, .int .i64 ep, .int .i64 bo, .int .i64 op, .int .i64 n, .string s, .slice a len cap, .int .i64 ii, .int .i64 oo, .bool tl, .bool pr, .bool g]
  by_cases h1 : 5 ≤ st
  · by_cases h2 : st ≤ 9
    · have HE : Hid (inB st 5 9 = true) := decide_eq_true ⟨h1, h2⟩
      generalize inB st 5 9 = r at *
      cases mu with
      | false =>
        cases g with
        | false =>
          go_enter Tryz.func60, Tryz.ntmps60
          go_wp2_with fail
          obtain ⟨V, hV⟩ : ∃ V, V = w.alloc (Obj.cells #[.int .i64 kk, .int .i64 st, .string hh, .bool false, .int .i64 ep, .int .i64 bo, .int .i64 op, .int .i64 n, .string s, .slice a len cap, .int .i64 ii, .int .i64 oo, .bool tl, .bool pr, .bool false] 56) := ⟨_, rfl⟩
          have d1 : V.cell? ⟨w.heap.size, 1, none⟩ = some (.int .i64 st) := by rw [hV]; exact HX.cell rfl
          have d3 : V.cell? ⟨w.heap.size, 3, none⟩ = some (.bool false) := by rw [hV]; exact HX.cell rfl
          have d12 : V.cell? ⟨w.heap.size, 12, none⟩ = some (.bool tl) := by rw [hV]; exact HX.cell rfl
          have d13 : V.cell? ⟨w.heap.size, 13, none⟩ = some (.bool pr) := by rw [hV]; exact HX.cell rfl
          have d14 : V.cell? ⟨w.heap.size, 14, none⟩ = some (.bool false) := by rw [hV]; exact HX.cell rfl
          have HB : Hid (Below w.heap.size w V) := by rw [hV]; exact abG _
          have hg5 : decide ((5 : Int) ≤ st) = true := decide_eq_true h1
          have hg9 : decide (st ≤ (9 : Int)) = true := decide_eq_true h2
          rw [← hV]
          clear hV HX
          generalize w.heap.size = gb at d1 d3 d12 d13 d14 ⊢
          go_quiet (fail)
          go_wp2_with fail
          go_ret
          exact ⟨retB (by rw [unhide HE]; simp), below_drewNG (unhide HB)⟩
        | true =>
          go_enter Tryz.func60, Tryz.ntmps60
          go_wp2_with fail
          obtain ⟨V, hV⟩ : ∃ V, V = w.alloc (Obj.cells #[.int .i64 kk, .int .i64 st, .string hh, .bool false, .int .i64 ep, .int .i64 bo, .int .i64 op, .int .i64 n, .string s, .slice a len cap, .int .i64 ii, .int .i64 oo, .bool tl, .bool pr, .bool true] 56) := ⟨_, rfl⟩
          have d1 : V.cell? ⟨w.heap.size, 1, none⟩ = some (.int .i64 st) := by rw [hV]; exact HX.cell rfl
          have d3 : V.cell? ⟨w.heap.size, 3, none⟩ = some (.bool false) := by rw [hV]; exact HX.cell rfl
          have d12 : V.cell? ⟨w.heap.size, 12, none⟩ = some (.bool tl) := by rw [hV]; exact HX.cell rfl
          have d13 : V.cell? ⟨w.heap.size, 13, none⟩ = some (.bool pr) := by rw [hV]; exact HX.cell rfl
          have d14 : V.cell? ⟨w.heap.size, 14, none⟩ = some (.bool true) := by rw [hV]; exact HX.cell rfl
          have HB : Hid (Below w.heap.size w V) := by rw [hV]; exact abG _
          have hg5 : decide ((5 : Int) ≤ st) = true := decide_eq_true h1
          have hg9 : decide (st ≤ (9 : Int)) = true := decide_eq_true h2
          rw [← hV]
          clear hV HX
          generalize w.heap.size = gb at d1 d3 d12 d13 d14 ⊢
          go_quiet (fail)
          go_wp2_with fail
          go_ret
          exact ⟨retB (by rw [unhide HE]; simp), below_drewNG (unhide HB)⟩
      | true =>
        cases tl with
        | false =>
          go_enter Tryz.func60, Tryz.ntmps60
          go_wp2_with fail
          obtain ⟨V, hV⟩ : ∃ V, V = w.alloc (Obj.cells #[.int .i64 kk, .int .i64 st, .string hh, .bool true, .int .i64 ep, .int .i64 bo, .int .i64 op, .int .i64 n, .string s, .slice a len cap, .int .i64 ii, .int .i64 oo, .bool false, .bool pr, .bool g] 56) := ⟨_, rfl⟩
          have d1 : V.cell? ⟨w.heap.size, 1, none⟩ = some (.int .i64 st) := by rw [hV]; exact HX.cell rfl
          have d3 : V.cell? ⟨w.heap.size, 3, none⟩ = some (.bool true) := by rw [hV]; exact HX.cell rfl
          have d12 : V.cell? ⟨w.heap.size, 12, none⟩ = some (.bool false) := by rw [hV]; exact HX.cell rfl
          have d13 : V.cell? ⟨w.heap.size, 13, none⟩ = some (.bool pr) := by rw [hV]; exact HX.cell rfl
          have d14 : V.cell? ⟨w.heap.size, 14, none⟩ = some (.bool g) := by rw [hV]; exact HX.cell rfl
          have HB : Hid (Below w.heap.size w V) := by rw [hV]; exact abG _
          have hg5 : decide ((5 : Int) ≤ st) = true := decide_eq_true h1
          have hg9 : decide (st ≤ (9 : Int)) = true := decide_eq_true h2
          rw [← hV]
          clear hV HX
          generalize w.heap.size = gb at d1 d3 d12 d13 d14 ⊢
          go_quiet (fail)
          go_wp2_with fail
          go_ret
          exact ⟨retB (by rw [unhide HE]; simp), below_drewNG (unhide HB)⟩
        | true =>
          cases pr with
          | false =>
            go_enter Tryz.func60, Tryz.ntmps60
            go_wp2_with fail
            obtain ⟨V, hV⟩ : ∃ V, V = w.alloc (Obj.cells #[.int .i64 kk, .int .i64 st, .string hh, .bool true, .int .i64 ep, .int .i64 bo, .int .i64 op, .int .i64 n, .string s, .slice a len cap, .int .i64 ii, .int .i64 oo, .bool true, .bool false, .bool g] 56) := ⟨_, rfl⟩
            have d1 : V.cell? ⟨w.heap.size, 1, none⟩ = some (.int .i64 st) := by rw [hV]; exact HX.cell rfl
            have d3 : V.cell? ⟨w.heap.size, 3, none⟩ = some (.bool true) := by rw [hV]; exact HX.cell rfl
            have d12 : V.cell? ⟨w.heap.size, 12, none⟩ = some (.bool true) := by rw [hV]; exact HX.cell rfl
            have d13 : V.cell? ⟨w.heap.size, 13, none⟩ = some (.bool false) := by rw [hV]; exact HX.cell rfl
            have d14 : V.cell? ⟨w.heap.size, 14, none⟩ = some (.bool g) := by rw [hV]; exact HX.cell rfl
            have HB : Hid (Below w.heap.size w V) := by rw [hV]; exact abG _
            have hg5 : decide ((5 : Int) ≤ st) = true := decide_eq_true h1
            have hg9 : decide (st ≤ (9 : Int)) = true := decide_eq_true h2
            rw [← hV]
            clear hV HX
            generalize w.heap.size = gb at d1 d3 d12 d13 d14 ⊢
            go_quiet (fail)
            go_wp2_with fail
            go_ret
            exact ⟨retB (by rw [unhide HE]; simp), below_drewNG (unhide HB)⟩
          | true =>
            go_enter Tryz.func60, Tryz.ntmps60
            go_wp2_with fail
            obtain ⟨V, hV⟩ : ∃ V, V = w.alloc (Obj.cells #[.int .i64 kk, .int .i64 st, .string hh, .bool true, .int .i64 ep, .int .i64 bo, .int .i64 op, .int .i64 n, .string s, .slice a len cap, .int .i64 ii, .int .i64 oo, .bool true, .bool true, .bool g] 56) := ⟨_, rfl⟩
            have d1 : V.cell? ⟨w.heap.size, 1, none⟩ = some (.int .i64 st) := by rw [hV]; exact HX.cell rfl
            have d3 : V.cell? ⟨w.heap.size, 3, none⟩ = some (.bool true) := by rw [hV]; exact HX.cell rfl
            have d12 : V.cell? ⟨w.heap.size, 12, none⟩ = some (.bool true) := by rw [hV]; exact HX.cell rfl
            have d13 : V.cell? ⟨w.heap.size, 13, none⟩ = some (.bool true) := by rw [hV]; exact HX.cell rfl
            have d14 : V.cell? ⟨w.heap.size, 14, none⟩ = some (.bool g) := by rw [hV]; exact HX.cell rfl
            have HB : Hid (Below w.heap.size w V) := by rw [hV]; exact abG _
            have hg5 : decide ((5 : Int) ≤ st) = true := decide_eq_true h1
            have hg9 : decide (st ≤ (9 : Int)) = true := decide_eq_true h2
            rw [← hV]
            clear hV HX
            generalize w.heap.size = gb at d1 d3 d12 d13 d14 ⊢
            go_quiet (fail)
            go_wp2_with fail
            go_ret
            exact ⟨retB (by rw [unhide HE]; simp), below_drewNG (unhide HB)⟩
    · have HE : Hid (inB st 5 9 = false) := decide_eq_false fun q => h2 q.2
      generalize inB st 5 9 = r at *
      cases mu with
      | false =>
        cases g with
        | false =>
          go_enter Tryz.func60, Tryz.ntmps60
          go_wp2_with fail
          obtain ⟨V, hV⟩ : ∃ V, V = w.alloc (Obj.cells #[.int .i64 kk, .int .i64 st, .string hh, .bool false, .int .i64 ep, .int .i64 bo, .int .i64 op, .int .i64 n, .string s, .slice a len cap, .int .i64 ii, .int .i64 oo, .bool tl, .bool pr, .bool false] 56) := ⟨_, rfl⟩
          have d1 : V.cell? ⟨w.heap.size, 1, none⟩ = some (.int .i64 st) := by rw [hV]; exact HX.cell rfl
          have d3 : V.cell? ⟨w.heap.size, 3, none⟩ = some (.bool false) := by rw [hV]; exact HX.cell rfl
          have d12 : V.cell? ⟨w.heap.size, 12, none⟩ = some (.bool tl) := by rw [hV]; exact HX.cell rfl
          have d13 : V.cell? ⟨w.heap.size, 13, none⟩ = some (.bool pr) := by rw [hV]; exact HX.cell rfl
          have d14 : V.cell? ⟨w.heap.size, 14, none⟩ = some (.bool false) := by rw [hV]; exact HX.cell rfl
          have HB : Hid (Below w.heap.size w V) := by rw [hV]; exact abG _
          have hg5 : decide ((5 : Int) ≤ st) = true := decide_eq_true h1
          have hg9 : decide (st ≤ (9 : Int)) = false := decide_eq_false (by omega)
          rw [← hV]
          clear hV HX
          generalize w.heap.size = gb at d1 d3 d12 d13 d14 ⊢
          go_quiet (fail)
          go_wp2_with fail
          go_ret
          exact ⟨retB (by rw [unhide HE]; simp), below_drewNG (unhide HB)⟩
        | true =>
          go_enter Tryz.func60, Tryz.ntmps60
          go_wp2_with fail
          obtain ⟨V, hV⟩ : ∃ V, V = w.alloc (Obj.cells #[.int .i64 kk, .int .i64 st, .string hh, .bool false, .int .i64 ep, .int .i64 bo, .int .i64 op, .int .i64 n, .string s, .slice a len cap, .int .i64 ii, .int .i64 oo, .bool tl, .bool pr, .bool true] 56) := ⟨_, rfl⟩
          have d1 : V.cell? ⟨w.heap.size, 1, none⟩ = some (.int .i64 st) := by rw [hV]; exact HX.cell rfl
          have d3 : V.cell? ⟨w.heap.size, 3, none⟩ = some (.bool false) := by rw [hV]; exact HX.cell rfl
          have d12 : V.cell? ⟨w.heap.size, 12, none⟩ = some (.bool tl) := by rw [hV]; exact HX.cell rfl
          have d13 : V.cell? ⟨w.heap.size, 13, none⟩ = some (.bool pr) := by rw [hV]; exact HX.cell rfl
          have d14 : V.cell? ⟨w.heap.size, 14, none⟩ = some (.bool true) := by rw [hV]; exact HX.cell rfl
          have HB : Hid (Below w.heap.size w V) := by rw [hV]; exact abG _
          have hg5 : decide ((5 : Int) ≤ st) = true := decide_eq_true h1
          have hg9 : decide (st ≤ (9 : Int)) = false := decide_eq_false (by omega)
          rw [← hV]
          clear hV HX
          generalize w.heap.size = gb at d1 d3 d12 d13 d14 ⊢
          go_quiet (fail)
          go_wp2_with fail
          go_ret
          exact ⟨retB (by rw [unhide HE]; simp), below_drewNG (unhide HB)⟩
      | true =>
        go_enter Tryz.func60, Tryz.ntmps60
        go_wp2_with fail
        obtain ⟨V, hV⟩ : ∃ V, V = w.alloc (Obj.cells #[.int .i64 kk, .int .i64 st, .string hh, .bool true, .int .i64 ep, .int .i64 bo, .int .i64 op, .int .i64 n, .string s, .slice a len cap, .int .i64 ii, .int .i64 oo, .bool tl, .bool pr, .bool g] 56) := ⟨_, rfl⟩
        have d1 : V.cell? ⟨w.heap.size, 1, none⟩ = some (.int .i64 st) := by rw [hV]; exact HX.cell rfl
        have d3 : V.cell? ⟨w.heap.size, 3, none⟩ = some (.bool true) := by rw [hV]; exact HX.cell rfl
        have d12 : V.cell? ⟨w.heap.size, 12, none⟩ = some (.bool tl) := by rw [hV]; exact HX.cell rfl
        have d13 : V.cell? ⟨w.heap.size, 13, none⟩ = some (.bool pr) := by rw [hV]; exact HX.cell rfl
        have d14 : V.cell? ⟨w.heap.size, 14, none⟩ = some (.bool g) := by rw [hV]; exact HX.cell rfl
        have HB : Hid (Below w.heap.size w V) := by rw [hV]; exact abG _
        have hg5 : decide ((5 : Int) ≤ st) = true := decide_eq_true h1
        have hg9 : decide (st ≤ (9 : Int)) = false := decide_eq_false (by omega)
        rw [← hV]
        clear hV HX
        generalize w.heap.size = gb at d1 d3 d12 d13 d14 ⊢
        go_quiet (fail)
        go_wp2_with fail
        go_ret
        exact ⟨retB (by rw [unhide HE]; simp), below_drewNG (unhide HB)⟩
  · have HE : Hid (inB st 5 9 = false) := decide_eq_false fun q => h1 q.1
    generalize inB st 5 9 = r at *
    cases mu with
    | false =>
      cases g with
      | false =>
        go_enter Tryz.func60, Tryz.ntmps60
        go_wp2_with fail
        obtain ⟨V, hV⟩ : ∃ V, V = w.alloc (Obj.cells #[.int .i64 kk, .int .i64 st, .string hh, .bool false, .int .i64 ep, .int .i64 bo, .int .i64 op, .int .i64 n, .string s, .slice a len cap, .int .i64 ii, .int .i64 oo, .bool tl, .bool pr, .bool false] 56) := ⟨_, rfl⟩
        have d1 : V.cell? ⟨w.heap.size, 1, none⟩ = some (.int .i64 st) := by rw [hV]; exact HX.cell rfl
        have d3 : V.cell? ⟨w.heap.size, 3, none⟩ = some (.bool false) := by rw [hV]; exact HX.cell rfl
        have d12 : V.cell? ⟨w.heap.size, 12, none⟩ = some (.bool tl) := by rw [hV]; exact HX.cell rfl
        have d13 : V.cell? ⟨w.heap.size, 13, none⟩ = some (.bool pr) := by rw [hV]; exact HX.cell rfl
        have d14 : V.cell? ⟨w.heap.size, 14, none⟩ = some (.bool false) := by rw [hV]; exact HX.cell rfl
        have HB : Hid (Below w.heap.size w V) := by rw [hV]; exact abG _
        have hg5 : decide ((5 : Int) ≤ st) = false := decide_eq_false (by omega)
        rw [← hV]
        clear hV HX
        generalize w.heap.size = gb at d1 d3 d12 d13 d14 ⊢
        go_quiet (fail)
        go_wp2_with fail
        go_ret
        exact ⟨retB (by rw [unhide HE]; simp), below_drewNG (unhide HB)⟩
      | true =>
        go_enter Tryz.func60, Tryz.ntmps60
        go_wp2_with fail
        obtain ⟨V, hV⟩ : ∃ V, V = w.alloc (Obj.cells #[.int .i64 kk, .int .i64 st, .string hh, .bool false, .int .i64 ep, .int .i64 bo, .int .i64 op, .int .i64 n, .string s, .slice a len cap, .int .i64 ii, .int .i64 oo, .bool tl, .bool pr, .bool true] 56) := ⟨_, rfl⟩
        have d1 : V.cell? ⟨w.heap.size, 1, none⟩ = some (.int .i64 st) := by rw [hV]; exact HX.cell rfl
        have d3 : V.cell? ⟨w.heap.size, 3, none⟩ = some (.bool false) := by rw [hV]; exact HX.cell rfl
        have d12 : V.cell? ⟨w.heap.size, 12, none⟩ = some (.bool tl) := by rw [hV]; exact HX.cell rfl
        have d13 : V.cell? ⟨w.heap.size, 13, none⟩ = some (.bool pr) := by rw [hV]; exact HX.cell rfl
        have d14 : V.cell? ⟨w.heap.size, 14, none⟩ = some (.bool true) := by rw [hV]; exact HX.cell rfl
        have HB : Hid (Below w.heap.size w V) := by rw [hV]; exact abG _
        have hg5 : decide ((5 : Int) ≤ st) = false := decide_eq_false (by omega)
        rw [← hV]
        clear hV HX
        generalize w.heap.size = gb at d1 d3 d12 d13 d14 ⊢
        go_quiet (fail)
        go_wp2_with fail
        go_ret
        exact ⟨retB (by rw [unhide HE]; simp), below_drewNG (unhide HB)⟩
    | true =>
      go_enter Tryz.func60, Tryz.ntmps60
      go_wp2_with fail
      obtain ⟨V, hV⟩ : ∃ V, V = w.alloc (Obj.cells #[.int .i64 kk, .int .i64 st, .string hh, .bool true, .int .i64 ep, .int .i64 bo, .int .i64 op, .int .i64 n, .string s, .slice a len cap, .int .i64 ii, .int .i64 oo, .bool tl, .bool pr, .bool g] 56) := ⟨_, rfl⟩
      have d1 : V.cell? ⟨w.heap.size, 1, none⟩ = some (.int .i64 st) := by rw [hV]; exact HX.cell rfl
      have d3 : V.cell? ⟨w.heap.size, 3, none⟩ = some (.bool true) := by rw [hV]; exact HX.cell rfl
      have d12 : V.cell? ⟨w.heap.size, 12, none⟩ = some (.bool tl) := by rw [hV]; exact HX.cell rfl
      have d13 : V.cell? ⟨w.heap.size, 13, none⟩ = some (.bool pr) := by rw [hV]; exact HX.cell rfl
      have d14 : V.cell? ⟨w.heap.size, 14, none⟩ = some (.bool g) := by rw [hV]; exact HX.cell rfl
      have HB : Hid (Below w.heap.size w V) := by rw [hV]; exact abG _
      have hg5 : decide ((5 : Int) ≤ st) = false := decide_eq_false (by omega)
      rw [← hV]
      clear hV HX
      generalize w.heap.size = gb at d1 d3 d12 d13 d14 ⊢
      go_quiet (fail)
      go_wp2_with fail
      go_ret
      exact ⟨retB (by rw [unhide HE]; simp), below_drewNG (unhide HB)⟩

/-- The rule asks this of a thing. -/
def ruleH : Th → Bool
  | .c x => heldC x
  | _ => true
theorem asCaCa (v : Value) (w : World) : (Instr.typeAssert (.iface 56 v) 123 56 true).run Tryz.prog w = .ok (.tuple #[v, .bool true]) w := by kernel_rfl
theorem asLeCa (v : Value) (w : World) : (Instr.typeAssert (.iface 103 v) 123 56 true).run Tryz.prog w = .ok (.tuple #[.agg #[.int .i64 0, .int .i64 0, .string ByteArray.empty, .bool false, .int .i64 0, .int .i64 0, .int .i64 0, .int .i64 0, .string ByteArray.empty, .slice none 0 0, .int .i64 0, .int .i64 0, .bool false, .bool false, .bool false], .bool false]) w := by kernel_rfl
theorem asJoCa (v : Value) (w : World) : (Instr.typeAssert (.iface 155 v) 123 56 true).run Tryz.prog w = .ok (.tuple #[.agg #[.int .i64 0, .int .i64 0, .string ByteArray.empty, .bool false, .int .i64 0, .int .i64 0, .int .i64 0, .int .i64 0, .string ByteArray.empty, .slice none 0 0, .int .i64 0, .int .i64 0, .bool false, .bool false, .bool false], .bool false]) w := by kernel_rfl
set_option maxRecDepth 100000 in
set_option maxHeartbeats 8000000 in
theorem ruleHI (x : Th) (u : Value) (w : World) (h : thAt w 0 x [u]) :
    Calls Tryz.prog 59 #[u] w fun e w' => e = .returned (.bool (ruleH x)) ∧ Below w.heap.size w w' := by
  have HZ := hide (Box.new w 56 [.int .i64 0, .int .i64 0, .string ⟨#[]⟩, .bool false, .int .i64 0, .int .i64 0, .int .i64 0, .int .i64 0, .string ⟨#[]⟩, .slice none 0 0, .int .i64 0, .int .i64 0, .bool false, .bool false, .bool false])
  cases x with
  | c x =>
    obtain ⟨cs, hu, hx⟩ := h
    cases hu
    have HC := hide (fun v (hv : Below w.heap.size w v) => (heldI x cs v (caK.on (w := w) (L := 0) (x := x) hx hv)).mono (fun _ _ h => (⟨h.1, btG hv h.2⟩ : _ ∧ Below w.heap.size w _)))
    have HE : Hid (ruleH (.c x) = heldC x) := hide rfl
    generalize heldC x = r at *
    generalize ruleH (.c x) = r2 at *
    obtain ⟨kk, ⟨st, hh, mu, ep, bo, tt, ii, oo, tl, pr⟩, g⟩ := x
    obtain ⟨cw, rfl, -, op, n, s, a, len, cap, rfl, -⟩ := hx
    replace HC : Hid (∀ v, Below w.heap.size w v → Calls Tryz.prog 60 #[.agg #[.int .i64 kk, .int .i64 st, .string hh, .bool mu, .int .i64 ep, .int .i64 bo, .int .i64 op, .int .i64 n, .string s, .slice a len cap, .int .i64 ii, .int .i64 oo, .bool tl, .bool pr, .bool g]] v fun e w' => e = .returned (.bool r) ∧ Below w.heap.size w w') := HC
    show Calls Tryz.prog 59 #[.iface 56 (.agg #[.int .i64 kk, .int .i64 st, .string hh, .bool mu, .int .i64 ep, .int .i64 bo, .int .i64 op, .int .i64 n, .string s, .slice a len cap, .int .i64 ii, .int .i64 oo, .bool tl, .bool pr, .bool g])] w _
    have A1 := asCaCa (.agg #[.int .i64 kk, .int .i64 st, .string hh, .bool mu, .int .i64 ep, .int .i64 bo, .int .i64 op, .int .i64 n, .string s, .slice a len cap, .int .i64 ii, .int .i64 oo, .bool tl, .bool pr, .bool g])
    go_enter Tryz.func59, Tryz.ntmps59
    go_wp2_with fail
    refine (unhide HC _ (by repeat (first | exact abG _ | refine setG ?_ (Nat.le_refl _)))).mono ?_
    rintro e w2 ⟨rfl, hb2⟩
    have HB2 := hide hb2
    clear hb2
    go_wp2_with fail
    go_ret
    exact ⟨retB (unhide HE), unhide HB2⟩
  | l x =>
    obtain ⟨cs, hu, hx⟩ := h
    cases hu
    clear hx
    have A1 := asLeCa (.agg cs.toArray)
    go_enter Tryz.func59, Tryz.ntmps59
    go_wp2_with fail
    go_ret
    exact ⟨rfl, by repeat (first | exact abG _ | refine setG ?_ (Nat.le_refl _))⟩
  | j b P =>
    obtain ⟨_, a, cap, hu, hx⟩ := h
    cases hu
    clear hx
    have A1 := asJoCa (.agg #[.string b, .slice a P.length cap])
    go_enter Tryz.func59, Tryz.ntmps59
    go_wp2_with fail
    go_ret
    exact ⟨rfl, by repeat (first | exact abG _ | refine setG ?_ (Nat.le_refl _))⟩

noncomputable def heldB (X : Wd) : Bool := worldB X && X.calls.all heldC

def thingsOf (X : Wd) : List Th := .j X.book X.letters :: (X.letters.map .l ++ X.calls.map .c)

/-- One-cell values in a row of the call's own, in a block from B on. -/
def IRw (B : Nat) (E : List Value) (v : Value) (w : World) : Prop := w.ownsRow B 123 1 v E.length E
theorem IRw.low {B : Nat} {E : List Value} {v : Value} {w w' : World} (h : IRw B E v w) (hb : Below w.heap.size w w') : IRw B E v w' :=
  World.ownsRow.kept h (row := none) ⟨hb.os, hb.tape, hb.output, hb.size, fun k hk _ => hb.block k hk⟩ (by cases v.ownBlock <;> simp)
theorem IRw.own_ge {B : Nat} {E : List Value} {v : Value} {w : World} (h : IRw B E v w) : ∀ k, v.ownBlock = some k → B ≤ k := fun k hk => (World.ownsRow.lt h k hk).1
theorem IRw.shape {B : Nat} {E : List Value} {v : Value} {w : World} (h : IRw B E v w) : ∃ a c, v = .slice a E.length c := by
  rcases h.2 with ⟨h1, h2⟩ | ⟨g, cap, cur, h1, _⟩
  · exact ⟨none, 0, by rw [h1, h2]⟩
  · exact ⟨_, _, h1⟩
theorem IRw.get {B : Nat} {E : List Value} {a : Option Addr} {n c : Nat} {w : World} (h : IRw B E (.slice a n c) w) {i : Nat} {u : Value} (hi : E[i]? = some u) :
    ∃ g, a = some ⟨g, 0, none⟩ ∧ B ≤ g ∧ w.cell? ⟨g, i, none⟩ = some u := by
  have hlt := (List.getElem?_eq_some_iff.1 hi).1
  rcases h.2 with ⟨h1, h2⟩ | ⟨g, cap, cur, h1, h2, h3, h4, h5, h6, h7⟩
  · omega
  · injection h1 with h1 _ _
    refine ⟨g, h1, h2, ?_⟩
    rw [← h7, List.getElem?_take_of_lt (by omega)] at hi
    simp only [World.cell?, h3]
    simpa using hi
theorem infoJd : (Tryz.prog.info? 123).map (fun i => (i.zero, i.size, i.bytes)) = some (some .nilIface, 1, 16) := by kernel_rfl
theorem IRw.push {B : Nat} {E : List Value} {v : Value} {w : World} (h : IRw B E v w) (u : Value) (hu : u.oneCell' = true) (hn : E.length ≤ 4194304) (hB : B ≤ w.heap.size) (ty : TypeId) :
    ∃ v' w', (Builtin.append_ #[117, 117] ty #[v, .slice (some ⟨w.heap.size, 0, none⟩) 1 1]).run Tryz.prog (w.alloc (.cells #[u] 123)) = .ok v' w' ∧ IRw B (E ++ [u]) v' w' ∧ Below B w w' := by
  obtain ⟨i, hi, hzz⟩ := Option.map_eq_some_iff.1 infoJd
  simp only [Prod.mk.injEq] at hzz
  obtain ⟨hz, hs, hb⟩ := hzz
  have hb0 : Below w.heap.size w (w.alloc (.cells #[u] 123)) := (Below.refl _ _).alloc (Nat.le_refl _) _
  have h0 := h.low hb0
  have hB0 : B ≤ (w.alloc (.cells #[u] 123)).heap.size := by rw [heap_size_alloc]; omega
  have hnews : ∀ j x, [u][j]? = some x → (w.alloc (.cells #[u] 123)).cell? ((⟨w.heap.size, 0, none⟩ : Addr).add j) = some x := fun j x hj => by
    rw [Addr.add_mid, Nat.zero_add]
    exact box_cell w _ 123 j _ (by simpa using hj)
  obtain ⟨v2, w2, k1, k2, k3, _⟩ := run_append_own_wide (P := Tryz.prog) (w.alloc (.cells #[u] 123)) B 117 ty 123 i _ 1 16 Tryz.underlying117 hi hz hs hb rfl (by omega) v E.length _ h0 ⟨w.heap.size, 0, none⟩ 1 1 [u] (by simp) hnews (by intro x hx; obtain rfl := List.mem_singleton.1 hx; exact hu)
    (by unfold maxLen; omega) (by omega) hB0
  refine ⟨v2, w2, k1, by unfold IRw; rw [List.length_append]; simpa using k2, ?_⟩
  exact (hb0.mono hB).grown k3 hB0 (fun k hk => h0.own_ge k hk)

def OutJ (T : List Th) (w : World) (e : Ending) (w' : World) : Prop := ∃ a cap, e = .returned (.slice a T.length cap) ∧ thK.Ls w' 0 a T ∧ Below w.heap.size w w'
/-- The values stand for the things, one by one. -/
def Rel (w : World) (T : List Th) (E : List Value) : Prop := E.length = T.length ∧ ∀ (k : Nat) (x : Th), T[k]? = some x → ∃ u, E[k]? = some u ∧ thAt w 0 x [u]
theorem Rel.push {w : World} {T : List Th} {E : List Value} (h : Rel w T E) {x : Th} {u : Value} (hx : thAt w 0 x [u]) : Rel w (T ++ [x]) (E ++ [u]) := by
  refine ⟨by simp [h.1], fun k y hk => ?_⟩
  rcases Nat.lt_or_ge k T.length with q | q
  · rw [List.getElem?_append_left q] at hk
    obtain ⟨u', hu, ha⟩ := h.2 k y hk
    exact ⟨u', by rw [List.getElem?_append_left (by rw [h.1]; exact q)]; exact hu, ha⟩
  · rw [List.getElem?_append_right q] at hk
    have hk0 : k - T.length = 0 := by
      rcases Nat.eq_zero_or_pos (k - T.length) with e | e
      · exact e
      · rw [List.getElem?_eq_none (by simp; omega)] at hk; cases hk
    rw [hk0] at hk
    cases hk
    have hkE : k = E.length := by rw [h.1]; omega
    exact ⟨u, by rw [hkE]; simp, hx⟩
theorem Rel.ls {w w' : World} {T : List Th} {E : List Value} {a : Option Addr} {n c B : Nat} (h : Rel w T E) (hb : Below w.heap.size w w') (hr : IRw B E (.slice a n c) w') : thK.Ls w' 0 a T := fun k x hk => by
  obtain ⟨u, hu, hx⟩ := h.2 k x hk
  obtain ⟨g, rfl, -, hc⟩ := hr.get hu
  refine ⟨g, 0, [u], rfl, Nat.zero_le _, fun j v hj => ?_, thK.on (w := w) (L := 0) (x := x) hx hb⟩
  cases j with
  | zero => simp only [List.getElem?_cons_zero, Option.some.injEq] at hj; subst hj; show w'.cell? ⟨g, 0 + k * 1 + 0, none⟩ = _; rw [show 0 + k * 1 + 0 = k by omega]; exact hc
  | succ j => simp at hj
theorem Kd.Ls.getOn {α : Type} {K : Kd α} {w wr : World} {a : Option Addr} {P : List α} (h : K.Ls w 0 a P) {k : Nat} {x : α} (hk : P[k]? = some x) (hb : Below w.heap.size w wr) :
    ∃ b o cs, a = some ⟨b, o, none⟩ ∧ wr.rangeAt b (o + k * K.n) cs ∧ K.at_ w 0 x cs ∧ cs.length = K.n := by
  obtain ⟨b, o, cs, h1, h2, h3, h4, h5, h6⟩ := h.get hk
  exact ⟨b, o, cs, h1, fun j v hj => below_some hb (h4 j v hj), h5, h6⟩
theorem map_take_next {α β : Type} {P : List α} {k : Nat} {x : α} (f : α → β) (hk : P[k]? = some x) : (P.take (k + 1)).map f = (P.take k).map f ++ [f x] := by
  rw [List.take_add_one, hk]
  simp
theorem infoLeJ : (Tryz.prog.info? 103).map (·.size) = some 5 := by kernel_rfl
theorem infoCaJ : (Tryz.prog.info? 56).map (·.size) = some 15 := by kernel_rfl

set_option maxRecDepth 100000 in
set_option maxHeartbeats 4000000 in
theorem judgedI (X : Wd) (cs : List Value) (w : World) (h : wdAt w 0 X cs) (hz : ww X ≤ 1048576) :
    Calls Tryz.prog 57 #[.agg cs.toArray] w fun e w' => OutJ (thingsOf X) w e w' := by
  obtain ⟨hfit, ak, ck, ac, cc, ah, ch, al, cl, aa, ca, az, cz, ai, ci, rfl, hy0, hy1, hy2, hy3, hy4, hy5, hy6⟩ := h
  show Calls Tryz.prog 57 #[.agg #[.int .i64 X.time, .int .i64 X.fresh, .slice ak X.known.length ck, .slice ac X.cache.length cc, .slice ah X.hosts.length ch, .slice al X.letters.length cl, .string X.book, .int .i64 X.sure, .slice aa X.calls.length ca, .slice az X.talks.length cz, .slice ai X.told.length ci]] w _
  have HX := hide (Box.new w 40 [.int .i64 X.time, .int .i64 X.fresh, .slice ak X.known.length ck, .slice ac X.cache.length cc, .slice ah X.hosts.length ch, .slice al X.letters.length cl, .string X.book, .int .i64 X.sure, .slice aa X.calls.length ca, .slice az X.talks.length cz, .slice ai X.told.length ci])
  have HYl := hide hy3
  have HYc := hide hy4
  have hln : X.letters.length ≤ 1048576 := by unfold ww at hz; omega
  have hcn : X.calls.length ≤ 1048576 := by unfold ww at hz; omega
  have HTO : Hid (thingsOf X = .j X.book X.letters :: (X.letters.map .l ++ X.calls.map .c)) := hide rfl
  have HJ : Hid (thAt w 0 (.j X.book X.letters) [.iface 155 (.agg #[.string X.book, .slice al X.letters.length cl])]) := hide ⟨hfit.2.2.2.1, al, cl, rfl, hy3⟩
  clear hfit hy0 hy1 hy2 hy3 hy4 hy5 hy6 hz
  generalize thingsOf X = TT at *
  generalize hll : X.letters.length = ll at *
  generalize hlc : X.calls.length = lc at *
  have HLL := hide hll
  have HLC := hide hlc
  clear hll hlc
  have HYlL := HLL
  have HYcL := HLC
  go_enter Tryz.func57, Tryz.ntmps57
  go_wp2_with fail
  have hs : (w.alloc (.cells #[.int .i64 X.time, .int .i64 X.fresh, .slice ak X.known.length ck, .slice ac X.cache.length cc, .slice ah X.hosts.length ch, .slice al X.letters.length cl, .string X.book, .int .i64 X.sure, .slice aa X.calls.length ca, .slice az X.talks.length cz, .slice ai X.told.length ci] 40)).heap.size = w.heap.size + 1 := heap_size_alloc _ _
  have HB1 := hide (abG (w := w) (.cells #[.int .i64 X.time, .int .i64 X.fresh, .slice ak X.known.length ck, .slice ac X.cache.length cc, .slice ah X.hosts.length ch, .slice al X.letters.length cl, .string X.book, .int .i64 X.sure, .slice aa X.calls.length ca, .slice az X.talks.length cz, .slice ai X.told.length ci] 40))
  simp only [unhide HLL, unhide HLC] at hs HB1
  generalize hW1 : w.alloc _ = W1 at *
  rw [← hs]
  have HIR : Hid (IRw W1.heap.size [.iface 155 (.agg #[.string X.book, .slice al ll cl])] (.slice (some ⟨W1.heap.size, 0, none⟩) 1 1) (W1.alloc (.cells #[.iface 155 (.agg #[.string X.book, .slice al ll cl])] 123))) := hide (World.ownsRow_lit W1 _ 1 (Nat.le_refl _) (by decide) rfl)
  have HBW : Hid (Below W1.heap.size W1 (W1.alloc (.cells #[.iface 155 (.agg #[.string X.book, .slice al ll cl])] 123))) := hide (abG _)
  have HRJ : Hid (Rel w (.j X.book X.letters :: (X.letters.take 0).map .l) [.iface 155 (.agg #[.string X.book, .slice al ll cl])]) := hide ⟨by simp, fun k x hk => by
    cases k with
    | zero => cases hk; exact ⟨_, rfl, unhide HJ⟩
    | succ k => simp at hk⟩
  clear hs
  go_loopw [3, 18] (fun v i wr => ∃ (k : Nat) (E : List Value), i = .int .i64 k ∧ IRw W1.heap.size E v wr ∧ Rel w (.j X.book X.letters :: (X.letters.take k).map .l) E ∧ Below W1.heap.size W1 wr ∧ k ≤ ll ∧ E.length ≤ 2097153) (fun _ i _ => ll - (intOf i).toNat)
  case atStart => exact ⟨0, _, rfl, unhide HIR, unhide HRJ, unhide HBW, by omega, by simp⟩
  case round =>
    obtain ⟨k, E, rfl, hr, hR, hb, hk, hE⟩ := hrel
    obtain ⟨ra, rc, rfl⟩ := hr.shape
    have HBrp := hide hb
    have HRr := hide hr
    have HRlp := hide hR
    by_cases hp : k < ll
    · have hp' : k < X.letters.length := by have := HYlL.out; omega
      obtain ⟨x, hkx⟩ : ∃ x, X.letters[k]? = some x := ⟨_, List.getElem?_eq_getElem hp'⟩
      obtain ⟨b, o, cs, rfl, HR0, HT2, hcl0⟩ := (unhide HYl).getOn hkx (btG (unhide HB1) hb)
      have HR := hide (show wr.rangeAt b (o + k * 5) cs from HR0)
      have hcl := hide (show cs.length = 5 from hcl0)
      have hone := hide (leK.one (w := w) (L := 0) (x := x) HT2)
      have HZ := hide (Box.new wr 103 [.string ⟨#[]⟩, .int .i64 0, .int .i64 0, .int .i64 0, .int .i64 0])
      have HTH : Hid (thAt w 0 (.l x) [.iface 103 (.agg cs.toArray)]) := hide ⟨cs, rfl, HT2⟩
      have HNX := hide (map_take_next (Th.l) hkx)
      have HEL := hide hE
      have HAP := hide (fun V (hV : Below wr.heap.size wr V) => (hr.low hV).push (.iface 103 (.agg cs.toArray)) rfl (by omega) (Nat.le_trans hb.size hV.size) 117)
      have q2 : (k : Int) < (ll : Int) := by omega
      have q3 : (0 : Int) ≤ (k : Int) := by omega
      have w1 : wrap64 ((k : Int) + 1) = ((k + 1 : Nat) : Int) := by unfold wrap64; omega
      clear hkx HR0 HT2 hcl0 hb hr hR hE
      go_wp2_with (first
      | (refine wpList_load_mid rfl _ _ rfl b (o + k * 5) rfl cs _ (unhide HR) Tryz.underlying103 rfl (by rw [unhide hcl]; exact infoLeJ) ?_)
      | (refine wpList_store_box rfl _ _ rfl wr.heap.size 0 cs (unhide HZ) (by rw [unhide hcl]; exact Nat.le_refl _) rfl rfl (by rw [unhide hcl]; exact infoLeJ) (unhide hone) ?_
         intro V hV
         have HV : Hid (Box V wr.heap.size 103 cs) := (by
           rw [hV]
           have hp : puts [.string ⟨#[]⟩, .int .i64 0, .int .i64 0, .int .i64 0, .int .i64 0] 0 cs = cs := puts_all (by rw [unhide hcl]; rfl)
           have := Box.sets cs 0 _ _ (unhide HZ)
           rw [hp] at this
           exact this)
         have HBV : Hid (Below wr.heap.size wr V) := (by rw [hV]; exact setsG (abG _) (Nat.le_refl _))
         have HAV := hide (unhide HAP V (unhide HBV))
         clear hV HZ HAP)
      | (refine wpList_load_box rfl _ rfl wr.heap.size 0 cs (unhide HV) (fun j v hj => (by rw [Nat.zero_add]; exact hj)) rfl Tryz.underlying103 rfl (by rw [unhide hcl]; exact infoLeJ) ?_)
      | (at_builtin
         refine wpList_append_run rfl _ _ 117 rfl (.slice ra E.length rc) (.slice (some ⟨V.heap.size, 0, none⟩) 1 1) rfl rfl (fun v' w' => IRw W1.heap.size (E ++ [.iface 103 (.agg cs.toArray)]) v' w' ∧ Below W1.heap.size V w') (unhide HAV) ?_
         rintro v5 w5 ⟨t5, b5⟩
         have HT5 := hide t5
         have HB5 := hide (((unhide HBrp).trans ((unhide HBV).mono (unhide HBrp).size)).trans b5)
         clear t5 b5))
      go_roundw
      case rel => exact ⟨k + 1, E ++ [.iface 103 (.agg cs.toArray)], rfl, unhide HT5, (by have := (unhide HRlp).push (unhide HTH); simpa only [unhide HNX, List.cons_append, List.append_assoc] using this), unhide HB5, by omega, by have := (unhide HRlp).1; have := HLL.out; have := HLC.out; simp at this ⊢; simp_all; omega⟩
      case measure => simp only [intOf]; omega
    · have c2 : ¬ (k : Int) < (ll : Int) := by omega
      have HRa : Hid (Rel w (.j X.book X.letters :: (X.letters.map .l)) E) := by
        have h := unhide HRlp
        rw [List.take_of_length_le (by have := HLL.out; omega)] at h
        exact h
      have HEL := hide hE
      have c8 : wr.cell? ⟨w.heap.size, 8, none⟩ = some (.slice aa lc ca) := ((unhide HX).on hb).cell rfl
      clear hb hr hR hE
      go_wp2_with fail
      generalize wr = V1 at *
      go_loopw [3, 31] (fun v i wr => ∃ (k : Nat) (E : List Value), i = .int .i64 k ∧ IRw W1.heap.size E v wr ∧ Rel w (.j X.book X.letters :: (X.letters.map .l ++ (X.calls.take k).map .c)) E ∧ Below W1.heap.size W1 wr ∧ k ≤ lc ∧ E.length ≤ 2097153) (fun _ i _ => lc - (intOf i).toNat)
      case atStart => exact ⟨0, E, rfl, unhide HRr, (by simpa using unhide HRa), unhide HBrp, by omega, unhide HEL⟩
      case round =>
        obtain ⟨k, E, rfl, hr, hR, hb, hk, hE⟩ := hrel
        obtain ⟨ra, rc, rfl⟩ := hr.shape
        have HBrq := hide hb
        have HRr := hide hr
        have HRlq := hide hR
        by_cases hp : k < lc
        · have hp' : k < X.calls.length := by have := HYcL.out; omega
          obtain ⟨x, hkx⟩ : ∃ x, X.calls[k]? = some x := ⟨_, List.getElem?_eq_getElem hp'⟩
          obtain ⟨b, o, cs, rfl, HR0, HT2, hcl0⟩ := (unhide HYc).getOn hkx (btG (unhide HB1) hb)
          have HR := hide (show wr.rangeAt b (o + k * 15) cs from HR0)
          have hcl := hide (show cs.length = 15 from hcl0)
          have hone := hide (caK.one (w := w) (L := 0) (x := x) HT2)
          have HZ := hide (Box.new wr 56 [.int .i64 0, .int .i64 0, .string ⟨#[]⟩, .bool false, .int .i64 0, .int .i64 0, .int .i64 0, .int .i64 0, .string ⟨#[]⟩, .slice none 0 0, .int .i64 0, .int .i64 0, .bool false, .bool false, .bool false])
          have HTH : Hid (thAt w 0 (.c x) [.iface 56 (.agg cs.toArray)]) := hide ⟨cs, rfl, HT2⟩
          have HNX := hide (map_take_next (Th.c) hkx)
          have HEL := hide hE
          have HAP := hide (fun V (hV : Below wr.heap.size wr V) => (hr.low hV).push (.iface 56 (.agg cs.toArray)) rfl (by omega) (Nat.le_trans hb.size hV.size) 117)
          have q2 : (k : Int) < (lc : Int) := by omega
          have q3 : (0 : Int) ≤ (k : Int) := by omega
          have w1 : wrap64 ((k : Int) + 1) = ((k + 1 : Nat) : Int) := by unfold wrap64; omega
          clear hkx HR0 HT2 hcl0 hb hr hR hE
          go_wp2_with (first
          | (refine wpList_load_mid rfl _ _ rfl b (o + k * 15) rfl cs _ (unhide HR) Tryz.underlying56 rfl (by rw [unhide hcl]; exact infoCaJ) ?_)
          | (refine wpList_store_box rfl _ _ rfl wr.heap.size 0 cs (unhide HZ) (by rw [unhide hcl]; exact Nat.le_refl _) rfl rfl (by rw [unhide hcl]; exact infoCaJ) (unhide hone) ?_
             intro V hV
             have HV : Hid (Box V wr.heap.size 56 cs) := (by
               rw [hV]
               have hp : puts [.int .i64 0, .int .i64 0, .string ⟨#[]⟩, .bool false, .int .i64 0, .int .i64 0, .int .i64 0, .int .i64 0, .string ⟨#[]⟩, .slice none 0 0, .int .i64 0, .int .i64 0, .bool false, .bool false, .bool false] 0 cs = cs := puts_all (by rw [unhide hcl]; rfl)
               have := Box.sets cs 0 _ _ (unhide HZ)
               rw [hp] at this
               exact this)
             have HBV : Hid (Below wr.heap.size wr V) := (by rw [hV]; exact setsG (abG _) (Nat.le_refl _))
             have HAV := hide (unhide HAP V (unhide HBV))
             clear hV HZ HAP)
          | (refine wpList_load_box rfl _ rfl wr.heap.size 0 cs (unhide HV) (fun j v hj => (by rw [Nat.zero_add]; exact hj)) rfl Tryz.underlying56 rfl (by rw [unhide hcl]; exact infoCaJ) ?_)
          | (at_builtin
             refine wpList_append_run rfl _ _ 117 rfl (.slice ra E.length rc) (.slice (some ⟨V.heap.size, 0, none⟩) 1 1) rfl rfl (fun v' w' => IRw W1.heap.size (E ++ [.iface 56 (.agg cs.toArray)]) v' w' ∧ Below W1.heap.size V w') (unhide HAV) ?_
             rintro v5 w5 ⟨t5, b5⟩
             have HT5 := hide t5
             have HB5 := hide (((unhide HBrq).trans ((unhide HBV).mono (unhide HBrq).size)).trans b5)
             clear t5 b5))
          go_roundw
          case rel => exact ⟨k + 1, E ++ [.iface 56 (.agg cs.toArray)], rfl, unhide HT5, (by have := (unhide HRlq).push (unhide HTH); simpa only [unhide HNX, List.cons_append, List.append_assoc] using this), unhide HB5, by omega, by have := (unhide HRlq).1; have := HLL.out; have := HLC.out; simp at this ⊢; simp_all; omega⟩
          case measure => simp only [intOf]; omega
        · have c2 : ¬ (k : Int) < (lc : Int) := by omega
          have HRb : Hid (Rel w (.j X.book X.letters :: (X.letters.map .l ++ X.calls.map .c)) E) := by
            have h := unhide HRlq
            rw [List.take_of_length_le (by have := HLC.out; omega)] at h
            exact h
          have HBE := hide (btG (unhide HB1) hb)
          clear hb hR hE
          go_wp2_with fail
          go_ret
          have hT : E.length = TT.length := by rw [show TT = _ from unhide HTO]; exact (unhide HRb).1
          refine ⟨ra, rc, by rw [← hT]; rfl, ?_, unhide HBE⟩
          rw [show TT = _ from unhide HTO]
          exact (unhide HRb).ls (unhide HBE) (unhide HRr)

theorem range_shift {w : World} {b q : Nat} {x : Value} {cs ds : List Value} (h : w.rangeAt b q (x :: (cs ++ ds))) : w.rangeAt b (q + 1) cs := fun j v hj => by
  have := h (j + 1) v (by rw [List.getElem?_cons_succ, List.getElem?_append_left (List.getElem?_eq_some_iff.1 hj).1]; exact hj)
  rwa [show q + (j + 1) = q + 1 + j by omega] at this
theorem infoCl : (Tryz.prog.info? 54).map (·.size) = some 13 := by kernel_rfl
set_option maxRecDepth 100000 in
set_option maxHeartbeats 8000000 in
theorem heldS (X : Wd) (cs : List Value) (w : World) (h : wdAt w 0 X cs) (hz : ww X ≤ 1048576) :
    Calls Tryz.prog 6 #[.agg cs.toArray] w fun e w' => e = .returned (.bool (heldB X)) ∧ Below w.heap.size w w' := by
  have h0 := h
  obtain ⟨-, ak, ck, ac, cc, ah, ch, al, cl, aa, ca, az, cz, ai, ci, rfl, -, -, -, -, hy4, -, -⟩ := h
  have HS := hide (fun v hv => worldS X [.int .i64 X.time, .int .i64 X.fresh, .slice ak X.known.length ck, .slice ac X.cache.length cc, .slice ah X.hosts.length ch, .slice al X.letters.length cl, .string X.book, .int .i64 X.sure, .slice aa X.calls.length ca, .slice az X.talks.length cz, .slice ai X.told.length ci] v (wdK.on (w := w) (L := 0) (x := X) h0 hv) hz)
  have hcl : X.calls.length ≤ 1048576 := by unfold ww at hz; omega
  show Calls Tryz.prog 6 #[.agg #[.int .i64 X.time, .int .i64 X.fresh, .slice ak X.known.length ck, .slice ac X.cache.length cc, .slice ah X.hosts.length ch, .slice al X.letters.length cl, .string X.book, .int .i64 X.sure, .slice aa X.calls.length ca, .slice az X.talks.length cz, .slice ai X.told.length ci]] w _
  have HX := hide (Box.new w 40 [.int .i64 X.time, .int .i64 X.fresh, .slice ak X.known.length ck, .slice ac X.cache.length cc, .slice ah X.hosts.length ch, .slice al X.letters.length cl, .string X.book, .int .i64 X.sure, .slice aa X.calls.length ca, .slice az X.talks.length cz, .slice ai X.told.length ci])
  have HY := hide hy4
  have HW : Hid (heldB X = (worldB X && X.calls.all heldC)) := hide rfl
  clear h0 hz hy4
  generalize heldB X = R at *
  generalize worldB X = wb at *
  go_enter Tryz.func6, Tryz.ntmps6
  go_wp2_with fail
  refine (unhide HS _ (abG _)).mono ?_
  rintro e w1 ⟨rfl, hb1⟩
  have HB1 := hide (btG (abG _) hb1)
  have HX1 := hide ((unhide HX).on hb1)
  clear hb1 HX HS
  cases wb with
  | false =>
    have HE : Hid (R = false) := by show R = false; rw [unhide HW]; rfl
    go_wp2_with fail
    go_ret
    exact ⟨retB (unhide HE), unhide HB1⟩
  | true =>
    have HW2 : Hid (R = X.calls.all heldC) := by show R = _; rw [unhide HW]; rfl
    clear HW
    go_wp2_with fail
    go_loopw [3] (fun i wr => ∃ k : Nat, i = .int .i64 k ∧ Below w1.heap.size w1 wr ∧ k ≤ X.calls.length ∧ ∀ j x, j < k → X.calls[j]? = some x → heldC x = true) (fun i _ => X.calls.length - (intOf i).toNat)
    case atStart => exact ⟨0, rfl, Below.refl _ _, by omega, fun j x hj => by omega⟩
    case round =>
      obtain ⟨k, rfl, hb, hk, ha⟩ := hrel
      have HBr := hide hb
      have HA := hide ha
      clear ha
      have c8 : wr.cell? ⟨w.heap.size, 8, none⟩ = some (.slice aa X.calls.length ca) := ((unhide HX1).on hb).cell rfl
      by_cases hp : k < X.calls.length
      · obtain ⟨x, hkx⟩ : ∃ x, X.calls[k]? = some x := ⟨_, List.getElem?_eq_getElem hp⟩
        obtain ⟨b, o, cs, rfl, -, -, HR0, HT2, hcl0⟩ := ((unhide HY).on (btG (unhide HB1) hb)).get hkx
        have HK := hide hkx
        have HM : Hid (heldC x = true → ∀ j y, j < k + 1 → X.calls[j]? = some y → heldC y = true) := fun hx j y hj hy => by
          rcases Nat.lt_or_ge j k with q | q
          · exact unhide HA j y q hy
          · obtain rfl : j = k := by omega
            rw [unhide HK] at hy
            cases hy
            exact hx
        have HN : Hid (heldC x = false → X.calls.all heldC = false) := fun hx => List.all_eq_false.2 ⟨x, List.mem_of_getElem? (unhide HK), by simp [hx]⟩
        obtain ⟨kk, ⟨st, hh, mu, ep, bo, tt, ii, oo, tl, pr⟩, g⟩ := x
        obtain ⟨cw, rfl, hcw⟩ := HT2
        have HR : Hid (wr.rangeAt b (o + k * 15 + 1) cw) := hide (range_shift (show wr.rangeAt b (o + k * 15) (.int .i64 kk :: (cw ++ [.bool g])) from HR0))
        have hcl := hide (show cw.length = 13 from clK.len (w := wr) (L := 0) (x := ⟨st, hh, mu, ep, bo, tt, ii, oo, tl, pr⟩) hcw)
        have hone := hide (clK.one (w := wr) (L := 0) (x := ⟨st, hh, mu, ep, bo, tt, ii, oo, tl, pr⟩) hcw)
        have HG : Hid (wr.cell? ⟨b, o + k * 15 + 14, none⟩ = some (.bool g)) := hide (HR0 14 _ (by
          rw [List.getElem?_cons_succ, List.getElem?_append_right (by rw [unhide hcl]; omega), unhide hcl]; rfl))
        have HCW := hide hcw
        have HZ := hide (Box.new wr 54 [.int .i64 0, .string ⟨#[]⟩, .bool false, .int .i64 0, .int .i64 0, .int .i64 0, .int .i64 0, .string ⟨#[]⟩, .slice none 0 0, .int .i64 0, .int .i64 0, .bool false, .bool false])
        have q2 : (k : Int) < (X.calls.length : Int) := by omega
        have q3 : (0 : Int) ≤ (k : Int) := by omega
        have w1 : wrap64 ((k : Int) + 1) = ((k + 1 : Nat) : Int) := by unfold wrap64; omega
        have HXr := hide ((unhide HX1).on hb)
        clear hkx HR0 hcl0 hb hcw
        have HI := hide (fun v => in26 st 5 9 v)
        have HBW0 := hide (btG (unhide HB1) (unhide HBr))
        cases mu with
        | false =>
          cases g with
          | false =>
            go_wp2_with (first
              | (refine wpList_load_mid rfl _ _ rfl b (o + k * 15 + 1) rfl cw _ (unhide HR) Tryz.underlying54 rfl (by rw [unhide hcl]; exact infoCl) ?_)
              | (refine wpList_store_box rfl _ _ rfl wr.heap.size 0 cw (unhide HZ) (by rw [unhide hcl]; exact Nat.le_refl _) rfl rfl (by rw [unhide hcl]; exact infoCl) (unhide hone) ?_
                 intro V hV
                 have HV : Hid (Box V wr.heap.size 54 cw) := (by
                   rw [hV]
                   have hp : puts [.int .i64 0, .string ⟨#[]⟩, .bool false, .int .i64 0, .int .i64 0, .int .i64 0, .int .i64 0, .string ⟨#[]⟩, .slice none 0 0, .int .i64 0, .int .i64 0, .bool false, .bool false] 0 cw = cw := puts_all (by rw [unhide hcl]; rfl)
                   have := Box.sets cw 0 _ _ (unhide HZ)
                   rw [hp] at this
                   exact this)
                 have HBV0 : Hid (Below wr.heap.size wr V) := (by rw [hV]; exact setsG (abG _) (Nat.le_refl _))
                 have HBW := hide (btG (unhide HBr) (unhide HBV0))
                 have HBV := hide (btG (unhide HBW0) (unhide HBV0))
                 have c8' := below_some (unhide HBV0) c8
                 have c14 : V.cell? ⟨b, o + k * 15 + 14, none⟩ = some (.bool false) := below_some (unhide HBV0) (unhide HG)
                 obtain ⟨-, op, n, s, a, len, cap, hcw, -⟩ := unhide HCW
                 have d0 : V.cell? ⟨wr.heap.size, 0, none⟩ = some (.int .i64 st) := (unhide HV).cell (by rw [hcw]; rfl)
                 have d2 : V.cell? ⟨wr.heap.size, 2, none⟩ = some (.bool false) := (unhide HV).cell (by rw [hcw]; rfl)
                 have d11 : V.cell? ⟨wr.heap.size, 11, none⟩ = some (.bool tl) := (unhide HV).cell (by rw [hcw]; rfl)
                 have d12 : V.cell? ⟨wr.heap.size, 12, none⟩ = some (.bool pr) := (unhide HV).cell (by rw [hcw]; rfl)
                 clear hV HZ HV hcw))
            go_roundw
            case rel => exact ⟨k + 1, rfl, unhide HBW, by omega, unhide HM (by simp [heldC])⟩
            case measure => simp only [intOf]; omega
          | true =>
            go_wp2_with (first
              | (refine wpList_load_mid rfl _ _ rfl b (o + k * 15 + 1) rfl cw _ (unhide HR) Tryz.underlying54 rfl (by rw [unhide hcl]; exact infoCl) ?_)
              | (refine wpList_store_box rfl _ _ rfl wr.heap.size 0 cw (unhide HZ) (by rw [unhide hcl]; exact Nat.le_refl _) rfl rfl (by rw [unhide hcl]; exact infoCl) (unhide hone) ?_
                 intro V hV
                 have HV : Hid (Box V wr.heap.size 54 cw) := (by
                   rw [hV]
                   have hp : puts [.int .i64 0, .string ⟨#[]⟩, .bool false, .int .i64 0, .int .i64 0, .int .i64 0, .int .i64 0, .string ⟨#[]⟩, .slice none 0 0, .int .i64 0, .int .i64 0, .bool false, .bool false] 0 cw = cw := puts_all (by rw [unhide hcl]; rfl)
                   have := Box.sets cw 0 _ _ (unhide HZ)
                   rw [hp] at this
                   exact this)
                 have HBV0 : Hid (Below wr.heap.size wr V) := (by rw [hV]; exact setsG (abG _) (Nat.le_refl _))
                 have HBW := hide (btG (unhide HBr) (unhide HBV0))
                 have HBV := hide (btG (unhide HBW0) (unhide HBV0))
                 have c8' := below_some (unhide HBV0) c8
                 have c14 : V.cell? ⟨b, o + k * 15 + 14, none⟩ = some (.bool true) := below_some (unhide HBV0) (unhide HG)
                 obtain ⟨-, op, n, s, a, len, cap, hcw, -⟩ := unhide HCW
                 have d0 : V.cell? ⟨wr.heap.size, 0, none⟩ = some (.int .i64 st) := (unhide HV).cell (by rw [hcw]; rfl)
                 have d2 : V.cell? ⟨wr.heap.size, 2, none⟩ = some (.bool false) := (unhide HV).cell (by rw [hcw]; rfl)
                 have d11 : V.cell? ⟨wr.heap.size, 11, none⟩ = some (.bool tl) := (unhide HV).cell (by rw [hcw]; rfl)
                 have d12 : V.cell? ⟨wr.heap.size, 12, none⟩ = some (.bool pr) := (unhide HV).cell (by rw [hcw]; rfl)
                 clear hV HZ HV hcw))
            have HE : Hid (R = false) := by show R = false; rw [unhide HW2, unhide HN (by simp [heldC])]
            go_ret
            exact ⟨retB (unhide HE), unhide HBV⟩
        | true =>
          cases HRR : inB st 5 9 with
          | false =>
            rw [HRR] at HI
            cases g with
            | false =>
              go_wp2_with (first
                | (refine wpList_load_mid rfl _ _ rfl b (o + k * 15 + 1) rfl cw _ (unhide HR) Tryz.underlying54 rfl (by rw [unhide hcl]; exact infoCl) ?_)
                | (refine wpList_store_box rfl _ _ rfl wr.heap.size 0 cw (unhide HZ) (by rw [unhide hcl]; exact Nat.le_refl _) rfl rfl (by rw [unhide hcl]; exact infoCl) (unhide hone) ?_
                   intro V hV
                   have HV : Hid (Box V wr.heap.size 54 cw) := (by
                     rw [hV]
                     have hp : puts [.int .i64 0, .string ⟨#[]⟩, .bool false, .int .i64 0, .int .i64 0, .int .i64 0, .int .i64 0, .string ⟨#[]⟩, .slice none 0 0, .int .i64 0, .int .i64 0, .bool false, .bool false] 0 cw = cw := puts_all (by rw [unhide hcl]; rfl)
                     have := Box.sets cw 0 _ _ (unhide HZ)
                     rw [hp] at this
                     exact this)
                   have HBV0 : Hid (Below wr.heap.size wr V) := (by rw [hV]; exact setsG (abG _) (Nat.le_refl _))
                   have HBW := hide (btG (unhide HBr) (unhide HBV0))
                   have HBV := hide (btG (unhide HBW0) (unhide HBV0))
                   have c8' := below_some (unhide HBV0) c8
                   have c14 : V.cell? ⟨b, o + k * 15 + 14, none⟩ = some (.bool false) := below_some (unhide HBV0) (unhide HG)
                   obtain ⟨-, op, n, s, a, len, cap, hcw, -⟩ := unhide HCW
                   have d0 : V.cell? ⟨wr.heap.size, 0, none⟩ = some (.int .i64 st) := (unhide HV).cell (by rw [hcw]; rfl)
                   have d2 : V.cell? ⟨wr.heap.size, 2, none⟩ = some (.bool true) := (unhide HV).cell (by rw [hcw]; rfl)
                   have d11 : V.cell? ⟨wr.heap.size, 11, none⟩ = some (.bool tl) := (unhide HV).cell (by rw [hcw]; rfl)
                   have d12 : V.cell? ⟨wr.heap.size, 12, none⟩ = some (.bool pr) := (unhide HV).cell (by rw [hcw]; rfl)
                   clear hV HZ HV hcw))
              refine (unhide HI _).mono ?_
              rintro e w2 ⟨rfl, rfl⟩
              go_wp2_with fail
              go_roundw
              case rel => exact ⟨k + 1, rfl, unhide HBW, by omega, unhide HM (by simp [heldC, HRR])⟩
              case measure => simp only [intOf]; omega
            | true =>
              go_wp2_with (first
                | (refine wpList_load_mid rfl _ _ rfl b (o + k * 15 + 1) rfl cw _ (unhide HR) Tryz.underlying54 rfl (by rw [unhide hcl]; exact infoCl) ?_)
                | (refine wpList_store_box rfl _ _ rfl wr.heap.size 0 cw (unhide HZ) (by rw [unhide hcl]; exact Nat.le_refl _) rfl rfl (by rw [unhide hcl]; exact infoCl) (unhide hone) ?_
                   intro V hV
                   have HV : Hid (Box V wr.heap.size 54 cw) := (by
                     rw [hV]
                     have hp : puts [.int .i64 0, .string ⟨#[]⟩, .bool false, .int .i64 0, .int .i64 0, .int .i64 0, .int .i64 0, .string ⟨#[]⟩, .slice none 0 0, .int .i64 0, .int .i64 0, .bool false, .bool false] 0 cw = cw := puts_all (by rw [unhide hcl]; rfl)
                     have := Box.sets cw 0 _ _ (unhide HZ)
                     rw [hp] at this
                     exact this)
                   have HBV0 : Hid (Below wr.heap.size wr V) := (by rw [hV]; exact setsG (abG _) (Nat.le_refl _))
                   have HBW := hide (btG (unhide HBr) (unhide HBV0))
                   have HBV := hide (btG (unhide HBW0) (unhide HBV0))
                   have c8' := below_some (unhide HBV0) c8
                   have c14 : V.cell? ⟨b, o + k * 15 + 14, none⟩ = some (.bool true) := below_some (unhide HBV0) (unhide HG)
                   obtain ⟨-, op, n, s, a, len, cap, hcw, -⟩ := unhide HCW
                   have d0 : V.cell? ⟨wr.heap.size, 0, none⟩ = some (.int .i64 st) := (unhide HV).cell (by rw [hcw]; rfl)
                   have d2 : V.cell? ⟨wr.heap.size, 2, none⟩ = some (.bool true) := (unhide HV).cell (by rw [hcw]; rfl)
                   have d11 : V.cell? ⟨wr.heap.size, 11, none⟩ = some (.bool tl) := (unhide HV).cell (by rw [hcw]; rfl)
                   have d12 : V.cell? ⟨wr.heap.size, 12, none⟩ = some (.bool pr) := (unhide HV).cell (by rw [hcw]; rfl)
                   clear hV HZ HV hcw))
              refine (unhide HI _).mono ?_
              rintro e w2 ⟨rfl, rfl⟩
              go_wp2_with fail
              go_roundw
              case rel => exact ⟨k + 1, rfl, unhide HBW, by omega, unhide HM (by simp [heldC, HRR])⟩
              case measure => simp only [intOf]; omega
          | true =>
            rw [HRR] at HI
            cases tl with
            | false =>
              go_wp2_with (first
                | (refine wpList_load_mid rfl _ _ rfl b (o + k * 15 + 1) rfl cw _ (unhide HR) Tryz.underlying54 rfl (by rw [unhide hcl]; exact infoCl) ?_)
                | (refine wpList_store_box rfl _ _ rfl wr.heap.size 0 cw (unhide HZ) (by rw [unhide hcl]; exact Nat.le_refl _) rfl rfl (by rw [unhide hcl]; exact infoCl) (unhide hone) ?_
                   intro V hV
                   have HV : Hid (Box V wr.heap.size 54 cw) := (by
                     rw [hV]
                     have hp : puts [.int .i64 0, .string ⟨#[]⟩, .bool false, .int .i64 0, .int .i64 0, .int .i64 0, .int .i64 0, .string ⟨#[]⟩, .slice none 0 0, .int .i64 0, .int .i64 0, .bool false, .bool false] 0 cw = cw := puts_all (by rw [unhide hcl]; rfl)
                     have := Box.sets cw 0 _ _ (unhide HZ)
                     rw [hp] at this
                     exact this)
                   have HBV0 : Hid (Below wr.heap.size wr V) := (by rw [hV]; exact setsG (abG _) (Nat.le_refl _))
                   have HBW := hide (btG (unhide HBr) (unhide HBV0))
                   have HBV := hide (btG (unhide HBW0) (unhide HBV0))
                   have c8' := below_some (unhide HBV0) c8
                   have c14 : V.cell? ⟨b, o + k * 15 + 14, none⟩ = some (.bool g) := below_some (unhide HBV0) (unhide HG)
                   obtain ⟨-, op, n, s, a, len, cap, hcw, -⟩ := unhide HCW
                   have d0 : V.cell? ⟨wr.heap.size, 0, none⟩ = some (.int .i64 st) := (unhide HV).cell (by rw [hcw]; rfl)
                   have d2 : V.cell? ⟨wr.heap.size, 2, none⟩ = some (.bool true) := (unhide HV).cell (by rw [hcw]; rfl)
                   have d11 : V.cell? ⟨wr.heap.size, 11, none⟩ = some (.bool false) := (unhide HV).cell (by rw [hcw]; rfl)
                   have d12 : V.cell? ⟨wr.heap.size, 12, none⟩ = some (.bool pr) := (unhide HV).cell (by rw [hcw]; rfl)
                   clear hV HZ HV hcw))
              refine (unhide HI _).mono ?_
              rintro e w2 ⟨rfl, rfl⟩
              go_wp2_with fail
              have HE : Hid (R = false) := by show R = false; rw [unhide HW2, unhide HN (by simp [heldC, HRR])]
              go_ret
              exact ⟨retB (unhide HE), unhide HBV⟩
            | true =>
              cases pr with
              | false =>
                go_wp2_with (first
                  | (refine wpList_load_mid rfl _ _ rfl b (o + k * 15 + 1) rfl cw _ (unhide HR) Tryz.underlying54 rfl (by rw [unhide hcl]; exact infoCl) ?_)
                  | (refine wpList_store_box rfl _ _ rfl wr.heap.size 0 cw (unhide HZ) (by rw [unhide hcl]; exact Nat.le_refl _) rfl rfl (by rw [unhide hcl]; exact infoCl) (unhide hone) ?_
                     intro V hV
                     have HV : Hid (Box V wr.heap.size 54 cw) := (by
                       rw [hV]
                       have hp : puts [.int .i64 0, .string ⟨#[]⟩, .bool false, .int .i64 0, .int .i64 0, .int .i64 0, .int .i64 0, .string ⟨#[]⟩, .slice none 0 0, .int .i64 0, .int .i64 0, .bool false, .bool false] 0 cw = cw := puts_all (by rw [unhide hcl]; rfl)
                       have := Box.sets cw 0 _ _ (unhide HZ)
                       rw [hp] at this
                       exact this)
                     have HBV0 : Hid (Below wr.heap.size wr V) := (by rw [hV]; exact setsG (abG _) (Nat.le_refl _))
                     have HBW := hide (btG (unhide HBr) (unhide HBV0))
                     have HBV := hide (btG (unhide HBW0) (unhide HBV0))
                     have c8' := below_some (unhide HBV0) c8
                     have c14 : V.cell? ⟨b, o + k * 15 + 14, none⟩ = some (.bool g) := below_some (unhide HBV0) (unhide HG)
                     obtain ⟨-, op, n, s, a, len, cap, hcw, -⟩ := unhide HCW
                     have d0 : V.cell? ⟨wr.heap.size, 0, none⟩ = some (.int .i64 st) := (unhide HV).cell (by rw [hcw]; rfl)
                     have d2 : V.cell? ⟨wr.heap.size, 2, none⟩ = some (.bool true) := (unhide HV).cell (by rw [hcw]; rfl)
                     have d11 : V.cell? ⟨wr.heap.size, 11, none⟩ = some (.bool true) := (unhide HV).cell (by rw [hcw]; rfl)
                     have d12 : V.cell? ⟨wr.heap.size, 12, none⟩ = some (.bool false) := (unhide HV).cell (by rw [hcw]; rfl)
                     clear hV HZ HV hcw))
                refine (unhide HI _).mono ?_
                rintro e w2 ⟨rfl, rfl⟩
                go_wp2_with fail
                have HE : Hid (R = false) := by show R = false; rw [unhide HW2, unhide HN (by simp [heldC, HRR])]
                go_ret
                exact ⟨retB (unhide HE), unhide HBV⟩
              | true =>
                cases g with
                | false =>
                  go_wp2_with (first
                    | (refine wpList_load_mid rfl _ _ rfl b (o + k * 15 + 1) rfl cw _ (unhide HR) Tryz.underlying54 rfl (by rw [unhide hcl]; exact infoCl) ?_)
                    | (refine wpList_store_box rfl _ _ rfl wr.heap.size 0 cw (unhide HZ) (by rw [unhide hcl]; exact Nat.le_refl _) rfl rfl (by rw [unhide hcl]; exact infoCl) (unhide hone) ?_
                       intro V hV
                       have HV : Hid (Box V wr.heap.size 54 cw) := (by
                         rw [hV]
                         have hp : puts [.int .i64 0, .string ⟨#[]⟩, .bool false, .int .i64 0, .int .i64 0, .int .i64 0, .int .i64 0, .string ⟨#[]⟩, .slice none 0 0, .int .i64 0, .int .i64 0, .bool false, .bool false] 0 cw = cw := puts_all (by rw [unhide hcl]; rfl)
                         have := Box.sets cw 0 _ _ (unhide HZ)
                         rw [hp] at this
                         exact this)
                       have HBV0 : Hid (Below wr.heap.size wr V) := (by rw [hV]; exact setsG (abG _) (Nat.le_refl _))
                       have HBW := hide (btG (unhide HBr) (unhide HBV0))
                       have HBV := hide (btG (unhide HBW0) (unhide HBV0))
                       have c8' := below_some (unhide HBV0) c8
                       have c14 : V.cell? ⟨b, o + k * 15 + 14, none⟩ = some (.bool false) := below_some (unhide HBV0) (unhide HG)
                       obtain ⟨-, op, n, s, a, len, cap, hcw, -⟩ := unhide HCW
                       have d0 : V.cell? ⟨wr.heap.size, 0, none⟩ = some (.int .i64 st) := (unhide HV).cell (by rw [hcw]; rfl)
                       have d2 : V.cell? ⟨wr.heap.size, 2, none⟩ = some (.bool true) := (unhide HV).cell (by rw [hcw]; rfl)
                       have d11 : V.cell? ⟨wr.heap.size, 11, none⟩ = some (.bool true) := (unhide HV).cell (by rw [hcw]; rfl)
                       have d12 : V.cell? ⟨wr.heap.size, 12, none⟩ = some (.bool true) := (unhide HV).cell (by rw [hcw]; rfl)
                       clear hV HZ HV hcw))
                  refine (unhide HI _).mono ?_
                  rintro e w2 ⟨rfl, rfl⟩
                  go_wp2_with fail
                  go_roundw
                  case rel => exact ⟨k + 1, rfl, unhide HBW, by omega, unhide HM (by simp [heldC, HRR])⟩
                  case measure => simp only [intOf]; omega
                | true =>
                  go_wp2_with (first
                    | (refine wpList_load_mid rfl _ _ rfl b (o + k * 15 + 1) rfl cw _ (unhide HR) Tryz.underlying54 rfl (by rw [unhide hcl]; exact infoCl) ?_)
                    | (refine wpList_store_box rfl _ _ rfl wr.heap.size 0 cw (unhide HZ) (by rw [unhide hcl]; exact Nat.le_refl _) rfl rfl (by rw [unhide hcl]; exact infoCl) (unhide hone) ?_
                       intro V hV
                       have HV : Hid (Box V wr.heap.size 54 cw) := (by
                         rw [hV]
                         have hp : puts [.int .i64 0, .string ⟨#[]⟩, .bool false, .int .i64 0, .int .i64 0, .int .i64 0, .int .i64 0, .string ⟨#[]⟩, .slice none 0 0, .int .i64 0, .int .i64 0, .bool false, .bool false] 0 cw = cw := puts_all (by rw [unhide hcl]; rfl)
                         have := Box.sets cw 0 _ _ (unhide HZ)
                         rw [hp] at this
                         exact this)
                       have HBV0 : Hid (Below wr.heap.size wr V) := (by rw [hV]; exact setsG (abG _) (Nat.le_refl _))
                       have HBW := hide (btG (unhide HBr) (unhide HBV0))
                       have HBV := hide (btG (unhide HBW0) (unhide HBV0))
                       have c8' := below_some (unhide HBV0) c8
                       have c14 : V.cell? ⟨b, o + k * 15 + 14, none⟩ = some (.bool true) := below_some (unhide HBV0) (unhide HG)
                       obtain ⟨-, op, n, s, a, len, cap, hcw, -⟩ := unhide HCW
                       have d0 : V.cell? ⟨wr.heap.size, 0, none⟩ = some (.int .i64 st) := (unhide HV).cell (by rw [hcw]; rfl)
                       have d2 : V.cell? ⟨wr.heap.size, 2, none⟩ = some (.bool true) := (unhide HV).cell (by rw [hcw]; rfl)
                       have d11 : V.cell? ⟨wr.heap.size, 11, none⟩ = some (.bool true) := (unhide HV).cell (by rw [hcw]; rfl)
                       have d12 : V.cell? ⟨wr.heap.size, 12, none⟩ = some (.bool true) := (unhide HV).cell (by rw [hcw]; rfl)
                       clear hV HZ HV hcw))
                  refine (unhide HI _).mono ?_
                  rintro e w2 ⟨rfl, rfl⟩
                  go_wp2_with fail
                  go_roundw
                  case rel => exact ⟨k + 1, rfl, unhide HBW, by omega, unhide HM (by simp [heldC, HRR])⟩
                  case measure => simp only [intOf]; omega
      · have cN : ¬ (k : Int) < (X.calls.length : Int) := by omega
        have HAll : Hid (X.calls.all heldC = true) := List.all_eq_true.2 fun x hx => by
          obtain ⟨j, hj⟩ := List.getElem?_of_mem hx
          exact unhide HA j x (by have := (List.getElem?_eq_some_iff.1 hj).1; omega) hj
        have HE : Hid (R = true) := by show R = true; rw [unhide HW2, unhide HAll]
        clear hb
        go_wp2_with fail
        go_ret
        exact ⟨retB (unhide HE), btG (unhide HB1) (unhide HBr)⟩

set_option maxRecDepth 100000 in
set_option maxHeartbeats 4000000 in
theorem rightHeld (T : List Th) (a : Option Addr) (cap : Nat) (w : World) (hl : thK.Ls w 0 a T) (hsz : T.length ≤ 4194304) :
    Calls Tryz.prog 58 #[.slice a T.length cap, .func (.func 59) #[] #[]] w fun e w' => e = .returned (.bool (T.all (ruleH))) ∧ Below w.heap.size w w' := by
  have HT := hide hl
  clear hl
  generalize hr : T.all (ruleH) = r at *
  have HE := hide hr
  clear hr
  generalize hlen : T.length = len at *
  have HL := hide hlen
  clear hlen
  go_enter Tryz.func58, Tryz.ntmps58
  go_wp2_with fail
  go_loopw [9] (fun i wr => ∃ k : Nat, i = .int .i64 k ∧ Below w.heap.size w wr ∧ k ≤ len ∧ ∀ j x, j < k → T[j]? = some x → ruleH x = true) (fun i _ => len - (intOf i).toNat)
  case atStart => exact ⟨0, rfl, Below.refl _ _, by omega, fun j x hj => by omega⟩
  case round =>
    obtain ⟨k, rfl, hb, hk, ha⟩ := hrel
    have HBr := hide hb
    have HA := hide ha
    clear ha
    by_cases hp : k < len
    · have hp' : k < T.length := by have := HL.out; omega
      obtain ⟨x, hkx⟩ : ∃ x, T[k]? = some x := ⟨_, List.getElem?_eq_getElem hp'⟩
      obtain ⟨b, o, cs, rfl, -, -, HR0, HT2, hcl0⟩ := ((unhide HT).on hb).get hkx
      obtain ⟨u, rfl⟩ : ∃ u, cs = [u] := by
        match cs, hcl0 with
        | [u], _ => exact ⟨u, rfl⟩
      have c0 : wr.cell? ⟨b, o + k, none⟩ = some u := by
        have := HR0 0 u rfl
        have e : o + k * thK.n + 0 = o + k := by show o + k * 1 + 0 = o + k; omega
        rwa [e] at this
      have HFX := hide (ruleHI x u wr HT2)
      have HK := hide hkx
      have q2 : (k : Int) < (len : Int) := by omega
      have q3 : (0 : Int) ≤ (k : Int) := by omega
      have w1 : wrap64 ((k : Int) + 1) = ((k + 1 : Nat) : Int) := by unfold wrap64; omega
      have HM : Hid (ruleH x = true → ∀ j y, j < k + 1 → T[j]? = some y → ruleH y = true) := fun hx j y hj hy => by
        rcases Nat.lt_or_ge j k with q | q
        · exact unhide HA j y q hy
        · obtain rfl : j = k := by omega
          rw [unhide HK] at hy
          cases hy
          exact hx
      have HN : Hid (ruleH x = false → T.all (ruleH) = false) := fun hx => List.all_eq_false.2 ⟨x, List.mem_of_getElem? (unhide HK), by simp [hx]⟩
      clear hkx HR0 HT2 hcl0 hb
      generalize ruleH x = fx at *
      cases fx with
      | true =>
        go_wp2_with fail
        refine (unhide HFX).mono ?_
        rintro e w3 ⟨rfl, hb3⟩
        have HB3 := hide (btG (unhide HBr) hb3)
        clear hb3
        go_wp2_with fail
        go_roundw
        case rel => exact ⟨k + 1, rfl, unhide HB3, by omega, unhide HM (by first | rfl | trivial)⟩
        case measure => simp only [intOf]; omega
      | false =>
        go_wp2_with fail
        refine (unhide HFX).mono ?_
        rintro e w3 ⟨rfl, hb3⟩
        have HB3 := hide (btG (unhide HBr) hb3)
        clear hb3
        go_wp2_with fail
        go_ret
        exact ⟨retB ((unhide HE).symm.trans (unhide HN (by first | rfl | trivial))), unhide HB3⟩
    · have c2 : ¬ (k : Int) < (len : Int) := by omega
      have HX : Hid (T.all (ruleH) = true) := List.all_eq_true.2 fun x hx => by
        obtain ⟨j, hj⟩ := List.getElem?_of_mem hx
        exact unhide HA j x (by have := (List.getElem?_eq_some_iff.1 hj).1; have := HL.out; omega) hj
      clear hb
      go_wp2_with fail
      go_ret
      exact ⟨retB ((unhide HE).symm.trans (unhide HX)), unhide HBr⟩

theorem infoWk : (Tryz.prog.info? 40).map (·.size) = some 11 := by kernel_rfl
set_option maxRecDepth 100000 in
set_option maxHeartbeats 4000000 in
theorem makeHeld (cs : List Value) (w : World) :
    Calls Tryz.prog 29 #[.agg cs.toArray] w fun e w' => e = .returned (.func (.func 59) #[] #[]) ∧ Below w.heap.size w w' := by
  go_enter Tryz.func29, Tryz.ntmps29
  go_wp2_with fail
  go_ret
  exact ⟨rfl, abG _⟩
/-- What is left of the judge behind WorldOk. -/
theorem all_things (X : Wd) : (thingsOf X).all (ruleH) = X.calls.all heldC := by
  unfold thingsOf
  rw [List.all_cons, List.all_append, List.all_map, List.all_map]
  have h1 : X.letters.all (ruleH ∘ Th.l) = true := List.all_eq_true.2 fun _ _ => rfl
  rw [h1]
  rfl
theorem things_len (X : Wd) (hz : ww X ≤ 1048576) : (thingsOf X).length ≤ 4194304 := by
  unfold thingsOf
  simp only [List.length_cons, List.length_append, List.length_map]
  unfold ww at hz
  omega
set_option maxRecDepth 100000 in
set_option maxHeartbeats 4000000 in
theorem keepHeld (X : Wd) (cs : List Value) (g : Nat) (w : World) (h : wdAt w 0 X cs) (hz : ww X ≤ 1048576) (hg : w.cell? ⟨g, 0, none⟩ = some (.func (.func 29) #[] #[])) :
    Calls Tryz.prog 28 #[.agg cs.toArray, .slice (some ⟨g, 0, none⟩) 1 1] w fun e w' => e = .returned (.bool (worldB X && (thingsOf X).all (ruleH))) ∧ Below w.heap.size w w' := by
  have h0 := h
  obtain ⟨-, ak, ck, ac, cc, ah, ch, al, cl, aa, ca, az, cz, ai, ci, rfl, -⟩ := h
  have HS := hide (fun v hv => worldI X [.int .i64 X.time, .int .i64 X.fresh, .slice ak X.known.length ck, .slice ac X.cache.length cc, .slice ah X.hosts.length ch, .slice al X.letters.length cl, .string X.book, .int .i64 X.sure, .slice aa X.calls.length ca, .slice az X.talks.length cz, .slice ai X.told.length ci] v (wdK.on (w := w) (L := 0) (x := X) h0 hv) hz)
  have HJ := hide (fun v hv => judgedI X [.int .i64 X.time, .int .i64 X.fresh, .slice ak X.known.length ck, .slice ac X.cache.length cc, .slice ah X.hosts.length ch, .slice al X.letters.length cl, .string X.book, .int .i64 X.sure, .slice aa X.calls.length ca, .slice az X.talks.length cz, .slice ai X.told.length ci] v (wdK.on (w := w) (L := 0) (x := X) h0 hv) hz)
  have HTL := hide (things_len X hz)
  have HG := hide hg
  show Calls Tryz.prog 28 #[.agg #[.int .i64 X.time, .int .i64 X.fresh, .slice ak X.known.length ck, .slice ac X.cache.length cc, .slice ah X.hosts.length ch, .slice al X.letters.length cl, .string X.book, .int .i64 X.sure, .slice aa X.calls.length ca, .slice az X.talks.length cz, .slice ai X.told.length ci], .slice (some ⟨g, 0, none⟩) 1 1] w _
  have HX := hide (Box.new w 40 [.int .i64 X.time, .int .i64 X.fresh, .slice ak X.known.length ck, .slice ac X.cache.length cc, .slice ah X.hosts.length ch, .slice al X.letters.length cl, .string X.book, .int .i64 X.sure, .slice aa X.calls.length ca, .slice az X.talks.length cz, .slice ai X.told.length ci])
  have HMK := hide (fun v => makeHeld [.int .i64 X.time, .int .i64 X.fresh, .slice ak X.known.length ck, .slice ac X.cache.length cc, .slice ah X.hosts.length ch, .slice al X.letters.length cl, .string X.book, .int .i64 X.sure, .slice aa X.calls.length ca, .slice az X.talks.length cz, .slice ai X.told.length ci] v)
  obtain ⟨R, hR⟩ : ∃ R, R = (worldB X && (thingsOf X).all (ruleH)) := ⟨_, rfl⟩
  rw [← hR]
  have HW := hide hR
  clear h0 hz hg hR
  generalize worldB X = wb at *
  go_enter Tryz.func28, Tryz.ntmps28
  go_wp2_with fail
  refine (unhide HS _ (abG _)).mono ?_
  rintro e w1 ⟨rfl, hb1⟩
  have HB1 := hide (btG (abG _) hb1)
  have HX1 := hide ((unhide HX).on hb1)
  clear hb1 HX HS
  cases wb with
  | false =>
    have HE : Hid (R = false) := by show R = false; rw [unhide HW]; rfl
    go_wp2_with fail
    go_ret
    exact ⟨retB (unhide HE), unhide HB1⟩
  | true =>
    have HW2 : Hid (R = (thingsOf X).all (ruleH)) := by show R = _; rw [unhide HW]; rfl
    clear HW
    go_wp2_with (refine wpList_load_box rfl _ rfl w.heap.size 0 [.int .i64 X.time, .int .i64 X.fresh, .slice ak X.known.length ck, .slice ac X.cache.length cc, .slice ah X.hosts.length ch, .slice al X.letters.length cl, .string X.book, .int .i64 X.sure, .slice aa X.calls.length ca, .slice az X.talks.length cz, .slice ai X.told.length ci] (unhide HX1) (fun j v hj => (by rw [Nat.zero_add]; exact hj)) rfl Tryz.underlying40 rfl infoWk ?_)
    refine (unhide HJ _ (unhide HB1)).mono ?_
    rintro e w2 ⟨ta, tc, rfl, hls, hb2⟩
    have HB2 := hide (btG (unhide HB1) hb2)
    have HX2 := hide ((unhide HX1).on hb2)
    have HLS := hide hls
    clear hb2 hls HX1 HJ HB1
    go_wp2_with fail
    go_loopw [15] (fun i wr => ∃ k : Nat, i = .int .i64 k ∧ Below w2.heap.size w2 wr ∧ k ≤ 1 ∧ (k = 1 → (thingsOf X).all (ruleH) = true)) (fun i _ => 1 - (intOf i).toNat)
    case atStart => exact ⟨0, rfl, Below.refl _ _, by omega, fun h => by omega⟩
    case round =>
      obtain ⟨k, rfl, hb, hk, ha⟩ := hrel
      have HBr := hide hb
      have HA := hide ha
      clear ha
      by_cases hp : k < 1
      · obtain rfl : k = 0 := by omega
        have d0 : wr.cell? ⟨g, 0, none⟩ = some (.func (.func 29) #[] #[]) := below_some (btG (unhide HB2) hb) (unhide HG)
        have HXr := hide ((unhide HX2).on hb)
        have HRT := hide (fun v (hv : Below wr.heap.size wr v) => rightHeld (thingsOf X) ta tc v ((unhide HLS).on (btG hb hv)) (unhide HTL))
        clear hb
        cases hall : (thingsOf X).all (ruleH) with
        | false =>
          rw [hall] at HRT
          have HE : Hid (R = false) := by show R = _; rw [unhide HW2, hall]
          clear hall
          go_wp2_with (refine wpList_load_box rfl _ rfl w.heap.size 0 [.int .i64 X.time, .int .i64 X.fresh, .slice ak X.known.length ck, .slice ac X.cache.length cc, .slice ah X.hosts.length ch, .slice al X.letters.length cl, .string X.book, .int .i64 X.sure, .slice aa X.calls.length ca, .slice az X.talks.length cz, .slice ai X.told.length ci] (unhide HXr) (fun j v hj => (by rw [Nat.zero_add]; exact hj)) rfl Tryz.underlying40 rfl infoWk ?_)
          refine (unhide HMK _).mono ?_
          rintro e w3 ⟨rfl, hb3⟩
          go_wp2_with fail
          refine (unhide HRT _ hb3).mono ?_
          rintro e w4 ⟨rfl, hb4⟩
          have HB4 := hide (btG (btG (unhide HB2) (unhide HBr)) (btG hb3 hb4))
          clear hb3 hb4
          go_wp2_with fail
          go_ret
          exact ⟨retB (unhide HE), unhide HB4⟩
        | true =>
          rw [hall] at HRT
          have HAL := hide hall
          clear hall
          go_wp2_with (refine wpList_load_box rfl _ rfl w.heap.size 0 [.int .i64 X.time, .int .i64 X.fresh, .slice ak X.known.length ck, .slice ac X.cache.length cc, .slice ah X.hosts.length ch, .slice al X.letters.length cl, .string X.book, .int .i64 X.sure, .slice aa X.calls.length ca, .slice az X.talks.length cz, .slice ai X.told.length ci] (unhide HXr) (fun j v hj => (by rw [Nat.zero_add]; exact hj)) rfl Tryz.underlying40 rfl infoWk ?_)
          refine (unhide HMK _).mono ?_
          rintro e w3 ⟨rfl, hb3⟩
          go_wp2_with fail
          refine (unhide HRT _ hb3).mono ?_
          rintro e w4 ⟨rfl, hb4⟩
          have HB4 := hide (btG (unhide HBr) (btG hb3 hb4))
          clear hb3 hb4
          go_wp2_with fail
          go_roundw
          case rel => exact ⟨1, rfl, unhide HB4, by omega, by first | exact fun _ => unhide HAL | exact fun _ => trivial | simp⟩
          case measure => simp only [intOf]; omega
      · obtain rfl : k = 1 := by omega
        have HE : Hid (R = true) := by show R = true; rw [unhide HW2]; exact unhide HA rfl
        clear hb
        go_wp2_with fail
        go_ret
        exact ⟨retB (unhide HE), btG (unhide HB2) (unhide HBr)⟩

set_option maxRecDepth 100000 in
set_option maxHeartbeats 4000000 in
theorem judgeHeldI (X : Wd) (cs : List Value) (w : World) (h : wdAt w 0 X cs) (hz : ww X ≤ 1048576) :
    Calls Tryz.prog 8 #[.agg cs.toArray] w fun e w' => e = .returned (.bool (heldB X)) ∧ Below w.heap.size w w' := by
  have h0 := h
  obtain ⟨-, ak, ck, ac, cc, ah, ch, al, cl, aa, ca, az, cz, ai, ci, rfl, -⟩ := h
  have HB1 := hide (abG (w := w) (.cells #[.int .i64 X.time, .int .i64 X.fresh, .slice ak X.known.length ck, .slice ac X.cache.length cc, .slice ah X.hosts.length ch, .slice al X.letters.length cl, .string X.book, .int .i64 X.sure, .slice aa X.calls.length ca, .slice az X.talks.length cz, .slice ai X.told.length ci] 40))
  have HK := hide (fun g v hv => keepHeld X [.int .i64 X.time, .int .i64 X.fresh, .slice ak X.known.length ck, .slice ac X.cache.length cc, .slice ah X.hosts.length ch, .slice al X.letters.length cl, .string X.book, .int .i64 X.sure, .slice aa X.calls.length ca, .slice az X.talks.length cz, .slice ai X.told.length ci] g v (wdK.on (w := w) (L := 0) (x := X) h0 hv) hz)
  have HE : Hid (heldB X = (worldB X && (thingsOf X).all (ruleH))) := hide (by unfold heldB; rw [all_things])
  have hd : ((w.alloc (.cells #[.int .i64 X.time, .int .i64 X.fresh, .slice ak X.known.length ck, .slice ac X.cache.length cc, .slice ah X.hosts.length ch, .slice al X.letters.length cl, .string X.book, .int .i64 X.sure, .slice aa X.calls.length ca, .slice az X.talks.length cz, .slice ai X.told.length ci] 40)).alloc (.cells #[.func (.func 29) #[] #[]] 66)).cell? ⟨w.heap.size + 1, 0, none⟩ = some (.func (.func 29) #[] #[]) := by
    have := box_cell (w.alloc (.cells #[.int .i64 X.time, .int .i64 X.fresh, .slice ak X.known.length ck, .slice ac X.cache.length cc, .slice ah X.hosts.length ch, .slice al X.letters.length cl, .string X.book, .int .i64 X.sure, .slice aa X.calls.length ca, .slice az X.talks.length cz, .slice ai X.told.length ci] 40)) #[.func (.func 29) #[] #[]] 66 0 _ rfl
    rwa [heap_size_alloc] at this
  have HD := hide hd
  have HBB : Hid (Below w.heap.size w ((w.alloc (.cells #[.int .i64 X.time, .int .i64 X.fresh, .slice ak X.known.length ck, .slice ac X.cache.length cc, .slice ah X.hosts.length ch, .slice al X.letters.length cl, .string X.book, .int .i64 X.sure, .slice aa X.calls.length ca, .slice az X.talks.length cz, .slice ai X.told.length ci] 40)).alloc (.cells #[.func (.func 29) #[] #[]] 66))) := hide (btG (abG _) (abG _))
  clear h0 hz hd
  generalize (worldB X && (thingsOf X).all (ruleH)) = R at *
  generalize heldB X = R2 at *
  show Calls Tryz.prog 8 #[.agg #[.int .i64 X.time, .int .i64 X.fresh, .slice ak X.known.length ck, .slice ac X.cache.length cc, .slice ah X.hosts.length ch, .slice al X.letters.length cl, .string X.book, .int .i64 X.sure, .slice aa X.calls.length ca, .slice az X.talks.length cz, .slice ai X.told.length ci]] w _
  go_enter Tryz.func8, Tryz.ntmps8
  go_wp2_with fail
  refine (unhide HK (w.heap.size + 1) _ (unhide HBB) (unhide HD)).mono ?_
  rintro e w2 ⟨rfl, hb2⟩
  have HB2 := hide (btG (unhide HBB) hb2)
  clear hb2
  go_wp2_with fail
  go_ret
  exact ⟨retB (unhide HE), unhide HB2⟩

set_option maxRecDepth 100000 in
set_option maxHeartbeats 4000000 in
theorem lawJudgeHeld (X : Wd) (cs : List Value) (w : World) (h : wdAt w 0 X cs) :
    Calls Tryz.prog 3 #[.agg cs.toArray] w fun e w' => e = .returned (.bool true) ∧ Below w.heap.size w w' := by
  have hw0 := h
  have h4 := hide (fun v hv => szWd X cs 1048576 v hv (by omega) (by omega))
  obtain ⟨-, ak, ck, ac, cc, ah, ch, al, cl, aa, ca, az, cz, ai, ci, rfl, -⟩ := h
  have hb0 := abG (w := w) (.cells #[.int .i64 X.time, .int .i64 X.fresh, .slice ak X.known.length ck, .slice ac X.cache.length cc, .slice ah X.hosts.length ch, .slice al X.letters.length cl, .string X.book, .int .i64 X.sure, .slice aa X.calls.length ca, .slice az X.talks.length cz, .slice ai X.told.length ci] 30)
  have HB0 := hide hb0
  have HW0 := hide (wdK.on (w := w) (L := 0) (x := X) hw0 hb0)
  have HX := hide (Box.new w 30 [.int .i64 X.time, .int .i64 X.fresh, .slice ak X.known.length ck, .slice ac X.cache.length cc, .slice ah X.hosts.length ch, .slice al X.letters.length cl, .string X.book, .int .i64 X.sure, .slice aa X.calls.length ca, .slice az X.talks.length cz, .slice ai X.told.length ci])
  show Calls Tryz.prog 3 #[.agg #[.int .i64 X.time, .int .i64 X.fresh, .slice ak X.known.length ck, .slice ac X.cache.length cc, .slice ah X.hosts.length ch, .slice al X.letters.length cl, .string X.book, .int .i64 X.sure, .slice aa X.calls.length ca, .slice az X.talks.length cz, .slice ai X.told.length ci]] w _
  clear hw0 hb0
  by_cases hw : ((ww X : Nat) : Int) ≤ 1048576
  · have hz : ww X ≤ 1048576 := by omega
    have h6 := hide (fun cs v hv => toWd X cs v hv hz)
    have h5 := hide (fun cs v hv => heldS X cs v hv hz)
    have h7 := hide (fun cs v hv => judgeHeldI X cs v hv hz)
    have h8 := hide (fun cs cs' v hv hv' => eqWd X cs cs' v hv hv' hz)
    rw [szv_yes hw] at h4
    obtain ⟨left, hleft⟩ : ∃ left : Int, left = 1048576 - ((ww X : Nat) : Int) := ⟨_, rfl⟩
    rw [← hleft] at h4
    have hln : ¬ left < 0 := by omega
    generalize heldB X = ok at *
    have hne : (ok != ok) = false := by simp
    clear hleft hw hz
    go_enter Tryz.func3, Tryz.ntmps3
    go_wp2_with (refine wpList_load_box rfl _ rfl w.heap.size 0 [.int .i64 X.time, .int .i64 X.fresh, .slice ak X.known.length ck, .slice ac X.cache.length cc, .slice ah X.hosts.length ch, .slice al X.letters.length cl, .string X.book, .int .i64 X.sure, .slice aa X.calls.length ca, .slice az X.talks.length cz, .slice ai X.told.length ci] (unhide HX) (fun j v hj => (by rw [Nat.zero_add]; exact hj)) rfl Tryz.underlying30 rfl infoWL ?_)
    refine (unhide h4 _ (unhide HW0)).mono ?_
    rintro e w2 ⟨rfl, hb2⟩
    have HB2 := hide (btG (unhide HB0) hb2)
    have HW2 := hide (wdK.on (w := _) (L := 0) (x := X) (unhide HW0) hb2)
    have HX2 := hide ((unhide HX).on hb2)
    clear hb2 HB0 HW0 HX h4
    go_wp2_with (refine wpList_load_box rfl _ rfl w.heap.size 0 [.int .i64 X.time, .int .i64 X.fresh, .slice ak X.known.length ck, .slice ac X.cache.length cc, .slice ah X.hosts.length ch, .slice al X.letters.length cl, .string X.book, .int .i64 X.sure, .slice aa X.calls.length ca, .slice az X.talks.length cz, .slice ai X.told.length ci] (unhide HX2) (fun j v hj => (by rw [Nat.zero_add]; exact hj)) rfl Tryz.underlying30 rfl infoWL ?_)
    refine (unhide h6 _ _ (unhide HW2)).mono ?_
    rintro e w3 ⟨c3, rfl, hx3, hb3⟩
    have HB3 := hide (btG (unhide HB2) hb3)
    have HW3 := hide (wdK.on (w := _) (L := 0) (x := X) (unhide HW2) hb3)
    have HX3 := hide ((unhide HX2).on hb3)
    have HN3 := hide (wdK.low (w := _) (x := X) hx3 (Nat.zero_le _))
    clear hb3 hx3 HB2 HW2 HX2
    go_wp2_with fail
    refine (unhide h5 _ _ (unhide HN3)).mono ?_
    rintro e w4 ⟨rfl, hb4⟩
    have HB4 := hide (btG (unhide HB3) hb4)
    have HW4 := hide (wdK.on (w := _) (L := 0) (x := X) (unhide HW3) hb4)
    have HX4 := hide ((unhide HX3).on hb4)
    clear hb4 HB3 HW3 HX3 HN3 h5
    go_wp2_with (refine wpList_load_box rfl _ rfl w.heap.size 0 [.int .i64 X.time, .int .i64 X.fresh, .slice ak X.known.length ck, .slice ac X.cache.length cc, .slice ah X.hosts.length ch, .slice al X.letters.length cl, .string X.book, .int .i64 X.sure, .slice aa X.calls.length ca, .slice az X.talks.length cz, .slice ai X.told.length ci] (unhide HX4) (fun j v hj => (by rw [Nat.zero_add]; exact hj)) rfl Tryz.underlying30 rfl infoWL ?_)
    refine (unhide h6 _ _ (unhide HW4)).mono ?_
    rintro e w5 ⟨c5, rfl, hx5, hb5⟩
    have HB5 := hide (btG (unhide HB4) hb5)
    have HW5 := hide (wdK.on (w := _) (L := 0) (x := X) (unhide HW4) hb5)
    have HX5 := hide ((unhide HX4).on hb5)
    have HO5 := hide (Box.new w5 40 [.int .i64 0, .int .i64 0, .slice none 0 0, .slice none 0 0, .slice none 0 0, .slice none 0 0, .string ⟨#[]⟩, .int .i64 0, .slice none 0 0, .slice none 0 0, .slice none 0 0])
    have HN5 := hide (wdK.low (w := _) (x := X) hx5 (Nat.zero_le _))
    have hl5 := hide (wdK.len (w := w5) (L := _) (x := X) hx5)
    have ho5 := hide (wdK.one (w := w5) (L := _) (x := X) hx5)
    have hsz : w.heap.size < w5.heap.size := by have := ((unhide HX4).on hb5).lt; exact this
    have HSZ := hide hsz
    clear hb5 hx5 HB4 HW4 HX4 hsz
    go_wp2_with (first
    | (refine wpList_store_box rfl _ _ rfl w5.heap.size 0 c5 (unhide HO5) (by rw [unhide hl5]; decide) rfl rfl (by rw [unhide hl5]; exact infoW) (unhide ho5) ?_
       intro V hV
       have HOV : Hid (Box V w5.heap.size 40 c5) := (by
         rw [hV]
         have hp : puts [.int .i64 0, .int .i64 0, .slice none 0 0, .slice none 0 0, .slice none 0 0, .slice none 0 0, .string ⟨#[]⟩, .int .i64 0, .slice none 0 0, .slice none 0 0, .slice none 0 0] 0 c5 = c5 := puts_all (by rw [unhide hl5]; rfl)
         have := Box.sets c5 0 _ _ (unhide HO5)
         rw [hp] at this
         exact this)
       have HVB : Hid (Below w5.heap.size w5 V) := (by rw [hV]; exact setsG (abG _) (Nat.le_refl _))
       have HXV := hide ((unhide HX5).on (unhide HVB))
       have HBV := hide (btG (unhide HB5) (unhide HVB))
       have HWV := hide (wdK.on (w := _) (L := 0) (x := X) (unhide HW5) (unhide HVB))
       have HNV := hide (wdK.on (w := _) (L := 0) (x := X) (unhide HN5) (unhide HVB))
       clear hV HO5 HB5 HW5 HX5 HN5 HVB)
    | (refine wpList_load_box rfl _ rfl w5.heap.size 0 c5 (unhide HOV) (fun j v hj => (by rw [Nat.zero_add]; exact hj)) rfl Tryz.underlying40 rfl (by rw [unhide hl5]; exact infoW) ?_))
    refine (unhide h7 _ _ (unhide HNV)).mono ?_
    rintro e w6 ⟨rfl, hb6⟩
    have HB6 := hide (btG (unhide HBV) hb6)
    have HW6 := hide (wdK.on (w := _) (L := 0) (x := X) (unhide HWV) hb6)
    have HX6 := hide ((unhide HXV).on hb6)
    have HO6 := hide ((unhide HOV).on hb6)
    have HN6 := hide (wdK.on (w := _) (L := 0) (x := X) (unhide HNV) hb6)
    clear hb6 HBV HWV HXV HOV HNV hl5 ho5 HSZ
    obtain ⟨g5, hg5⟩ : ∃ g : Nat, g = w5.heap.size := ⟨_, rfl⟩
    rw [← hg5] at HO6 ⊢
    clear hg5
    have hn6 : wdAt w6 0 X c5 := unhide HN6
    obtain ⟨-, ak5, ck5, ac5, cc5, ah5, ch5, al5, cl5, aa5, ca5, az5, cz5, ai5, ci5, rfl, -⟩ := hn6
    have c0 : w6.cell? ⟨w.heap.size, 0, none⟩ = some (.int .i64 X.time) := (unhide HX6).cell rfl
    have c1 : w6.cell? ⟨w.heap.size, 1, none⟩ = some (.int .i64 X.fresh) := (unhide HX6).cell rfl
    have c2 : w6.cell? ⟨w.heap.size, 2, none⟩ = some (.slice ak X.known.length ck) := (unhide HX6).cell rfl
    have c3 : w6.cell? ⟨w.heap.size, 3, none⟩ = some (.slice ac X.cache.length cc) := (unhide HX6).cell rfl
    have c4 : w6.cell? ⟨w.heap.size, 4, none⟩ = some (.slice ah X.hosts.length ch) := (unhide HX6).cell rfl
    have c5 : w6.cell? ⟨w.heap.size, 5, none⟩ = some (.slice al X.letters.length cl) := (unhide HX6).cell rfl
    have c6 : w6.cell? ⟨w.heap.size, 6, none⟩ = some (.string X.book) := (unhide HX6).cell rfl
    have c7 : w6.cell? ⟨w.heap.size, 7, none⟩ = some (.int .i64 X.sure) := (unhide HX6).cell rfl
    have c8 : w6.cell? ⟨w.heap.size, 8, none⟩ = some (.slice aa X.calls.length ca) := (unhide HX6).cell rfl
    have c9 : w6.cell? ⟨w.heap.size, 9, none⟩ = some (.slice az X.talks.length cz) := (unhide HX6).cell rfl
    have c10 : w6.cell? ⟨w.heap.size, 10, none⟩ = some (.slice ai X.told.length ci) := (unhide HX6).cell rfl
    have d0 : w6.cell? ⟨g5, 0, none⟩ = some (.int .i64 X.time) := (unhide HO6).cell rfl
    have d1 : w6.cell? ⟨g5, 1, none⟩ = some (.int .i64 X.fresh) := (unhide HO6).cell rfl
    have d2 : w6.cell? ⟨g5, 2, none⟩ = some (.slice ak5 X.known.length ck5) := (unhide HO6).cell rfl
    have d3 : w6.cell? ⟨g5, 3, none⟩ = some (.slice ac5 X.cache.length cc5) := (unhide HO6).cell rfl
    have d4 : w6.cell? ⟨g5, 4, none⟩ = some (.slice ah5 X.hosts.length ch5) := (unhide HO6).cell rfl
    have d5 : w6.cell? ⟨g5, 5, none⟩ = some (.slice al5 X.letters.length cl5) := (unhide HO6).cell rfl
    have d6 : w6.cell? ⟨g5, 6, none⟩ = some (.string X.book) := (unhide HO6).cell rfl
    have d7 : w6.cell? ⟨g5, 7, none⟩ = some (.int .i64 X.sure) := (unhide HO6).cell rfl
    have d8 : w6.cell? ⟨g5, 8, none⟩ = some (.slice aa5 X.calls.length ca5) := (unhide HO6).cell rfl
    have d9 : w6.cell? ⟨g5, 9, none⟩ = some (.slice az5 X.talks.length cz5) := (unhide HO6).cell rfl
    have d10 : w6.cell? ⟨g5, 10, none⟩ = some (.slice ai5 X.told.length ci5) := (unhide HO6).cell rfl
    go_wp2_with fail
    go_region_with (first
      | (go_at_call 7
         refine (unhide h6 _ _ (wdK.on (w := _) (L := 0) (x := X) (unhide HW6) (Below.refl _ _).drew)).mono ?_
         rintro e w7 ⟨c7, rfl, hx7, hb7⟩
         have hb7' := below_drewG hb7
         have HB7 := hide (btG (unhide HB6) hb7')
         have HN7 := hide (wdK.on (w := _) (L := 0) (x := X) (unhide HN6) hb7')
         have HM7 := hide (wdK.low (w := _) (x := X) hx7 (Nat.zero_le _))
         have HO7 := hide ((unhide HO6).on hb7')
         have e0 : w7.cell? ⟨g5, 0, none⟩ = some (.int .i64 X.time) := (unhide HO7).cell rfl
         have e1 : w7.cell? ⟨g5, 1, none⟩ = some (.int .i64 X.fresh) := (unhide HO7).cell rfl
         have e2 : w7.cell? ⟨g5, 2, none⟩ = some (.slice ak5 X.known.length ck5) := (unhide HO7).cell rfl
         have e3 : w7.cell? ⟨g5, 3, none⟩ = some (.slice ac5 X.cache.length cc5) := (unhide HO7).cell rfl
         have e4 : w7.cell? ⟨g5, 4, none⟩ = some (.slice ah5 X.hosts.length ch5) := (unhide HO7).cell rfl
         have e5 : w7.cell? ⟨g5, 5, none⟩ = some (.slice al5 X.letters.length cl5) := (unhide HO7).cell rfl
         have e6 : w7.cell? ⟨g5, 6, none⟩ = some (.string X.book) := (unhide HO7).cell rfl
         have e7 : w7.cell? ⟨g5, 7, none⟩ = some (.int .i64 X.sure) := (unhide HO7).cell rfl
         have e8 : w7.cell? ⟨g5, 8, none⟩ = some (.slice aa5 X.calls.length ca5) := (unhide HO7).cell rfl
         have e9 : w7.cell? ⟨g5, 9, none⟩ = some (.slice az5 X.talks.length cz5) := (unhide HO7).cell rfl
         have e10 : w7.cell? ⟨g5, 10, none⟩ = some (.slice ai5 X.told.length ci5) := (unhide HO7).cell rfl
         clear hx7 hb7 hb7')
      | (go_at_call 9
         refine (unhide h8 _ _ _ (unhide HN7) (unhide HM7)).mono ?_
         rintro e w8 ⟨rfl, hb8⟩
         have HB8 := hide (btG (unhide HB7) hb8)))
    all_goals
      go_wp2_with fail
      go_ret
      exact ⟨rfl, unhide HB8⟩
  · rw [szv_no (by omega)] at h4
    clear hw
    go_enter Tryz.func3, Tryz.ntmps3
    go_wp2_with (refine wpList_load_box rfl _ rfl w.heap.size 0 [.int .i64 X.time, .int .i64 X.fresh, .slice ak X.known.length ck, .slice ac X.cache.length cc, .slice ah X.hosts.length ch, .slice al X.letters.length cl, .string X.book, .int .i64 X.sure, .slice aa X.calls.length ca, .slice az X.talks.length cz, .slice ai X.told.length ci] (unhide HX) (fun j v hj => (by rw [Nat.zero_add]; exact hj)) rfl Tryz.underlying30 rfl infoWL ?_)
    refine (unhide h4 _ (unhide HW0)).mono ?_
    rintro e w2 ⟨rfl, hb2⟩
    have HB2 := hide (btG (unhide HB0) hb2)
    clear hb2
    go_wp2_with fail
    go_ret
    exact ⟨rfl, unhide HB2⟩

end Go.Proofs.YtbohladjahpfcaaGreat
