/- What is judged; the walks of (impl.Call).held and of the rule that asks for it: nothing that was there is written. What is judged: the book with the letters, each letter, each call, as interface values in a row of the call's own; the walk of allJudged. The walks beneath the rule of JudgeTaken: whether some talk has got a letter; nothing that was there is written. The walk of spec.JudgeTaken: each call that is good and done was taken; nothing that was there is written. The walks of impl.eachRight at the rule of JudgeTaken, of impl.keeps with it, and of impl.JudgeTaken; nothing that was there is written. The walk of impl.JudgeTaken; nothing that was there is written. The walk of laws.FnExactJudgeTaken: whatever world lies in memory it answers true; nothing that was there is written. -/
import Derived.Test.YtbohladjahpfcaaGreatWk
import Derived.Test.YtbohladjahpfcaaGreatOk
import Derived.BigQuiet
import Derived.Deep.MidRow
import Derived.Deep.QuietTactic
import Derived.Test.YtbohladjahpfcaaGreatWwd
import Derived.Deep.DeepAppendWide
import Derived.Deep.RegionWith
import Derived.Test.YtbohladjahpfcaaGreatWoh
import Derived.Test.YtbohladjahpfcaaGreatLwo
import Derived.Deep.RegionHeld3
import Derived.Test.YtbohladjahpfcaaGreatWoi
import Derived.WalkSmall
namespace Go.Proofs.YtbohladjahpfcaaGreat
open Go.RowKit Go.Deep

/-- What a rule is held against. -/
inductive Th where
  | j (b : ByteArray) (P : List Le)
  | l (x : Le)
  | c (x : Ca)
def thAt (w : World) (L : Nat) : Th → List Value → Prop
  | .j b P, cs => P.length ≤ maxLen ∧ ∃ a cap, cs = [.iface 155 (.agg #[.string b, .slice a P.length cap])] ∧ leK.Ls w L a P
  | .l x, cs => ∃ c, cs = [.iface 103 (.agg c.toArray)] ∧ leAt w L x c
  | .c x, cs => ∃ c, cs = [.iface 56 (.agg c.toArray)] ∧ caAt w L x c
def thK : Kd Th where
  n := 1
  at_ := thAt
  pos := by omega
  len := by
    intro w L x cs h
    cases x with
    | j b P => obtain ⟨_, a, cap, rfl, _⟩ := h; rfl
    | l x => obtain ⟨c, rfl, _⟩ := h; rfl
    | c x => obtain ⟨c, rfl, _⟩ := h; rfl
  one := by
    intro w L x cs h v hv
    cases x with
    | j b P => obtain ⟨_, a, cap, rfl, _⟩ := h; obtain rfl := List.mem_singleton.1 hv; rfl
    | l x => obtain ⟨c, rfl, _⟩ := h; obtain rfl := List.mem_singleton.1 hv; rfl
    | c x => obtain ⟨c, rfl, _⟩ := h; obtain rfl := List.mem_singleton.1 hv; rfl
  carry := by
    intro w w' L L' x cs hL hc h
    cases x with
    | j b P => obtain ⟨hm, a, cap, rfl, h⟩ := h; exact ⟨hm, a, cap, rfl, h.carry hL hc⟩
    | l x => obtain ⟨c, rfl, h⟩ := h; exact ⟨c, rfl, leK.carry hL hc h⟩
    | c x => obtain ⟨c, rfl, h⟩ := h; exact ⟨c, rfl, caK.carry hL hc h⟩
/-- The call is held to what it must. -/
def heldC (x : Ca) : Bool := !(x.c.mu && (inB x.c.st 5 9 && !(x.c.tl && x.c.pr)) || (x.g && !x.c.mu))
theorem below_drewNG {w v : World} {n B : Nat} (h : Below B w v) : Below B w (v.drewN n) := ⟨h.os, h.tape, h.output, h.size, h.block⟩
theorem infoCaC : (Tryz.prog.info? 56).map (·.size) = some 15 := by kernel_rfl

set_option maxRecDepth 100000 in
set_option maxHeartbeats 8000000 in
theorem heldI (x : Ca) (cs : List Value) (w : World) (h : caAt w 0 x cs) :
    Calls Tryz.prog 60 #[.agg cs.toArray] w fun e w' => e = .returned (.bool (heldC x)) ∧ Below w.heap.size w w' := by
  obtain ⟨kk, ⟨st, hh, mu, ep, bo, tt, ii, oo, tl, pr⟩, g⟩ := x
  obtain ⟨cw, rfl, -, op, n, s, a, len, cap, rfl, -⟩ := h
  show Calls Tryz.prog 60 #[.agg #[.int .i64 kk, .int .i64 st, .string hh, .bool mu, .int .i64 ep, .int .i64 bo, .int .i64 op, .int .i64 n, .string s, .slice a len cap, .int .i64 ii, .int .i64 oo, .bool tl, .bool pr, .bool g]] w fun e w' => e = .returned (.bool (!(mu && (inB st 5 9 && !(tl && pr)) || (g && !mu)))) ∧ Below w.heap.size w w'
  have HX := Box.new w 56 [.int .i64 kk, .int .i64 st, .string hh, .bool mu, .int .i64 ep, .int .i64 bo, .int .i64 op, .int .i64 n, .string s, .slice a len cap, .int .i64 ii, .int .i64 oo, .bool tl, .bool pr, .bool g]
  by_cases h1 : 5 ≤ st
  · by_cases h2 : st ≤ 9
    · have HE : Hid (inB st 5 9 = true) := decide_eq_true ⟨h1, h2⟩
      generalize inB st 5 9 = r at *
      cases mu with
      | false =>
        cases g with
        | false =>
          go_enter Tryz.func60, Tryz.ntmps60
          go_wp2_with fail
          obtain ⟨V, hV⟩ : ∃ V, V = w.alloc (Obj.cells #[.int .i64 kk, .int .i64 st, .string hh, .bool false, .int .i64 ep, .int .i64 bo, .int .i64 op, .int .i64 n, .string s, .slice a len cap, .int .i64 ii, .int .i64 oo, .bool tl, .bool pr, .bool false] 56) := ⟨_, rfl⟩
          have d1 : V.cell? ⟨w.heap.size, 1, none⟩ = some (.int .i64 st) := by rw [hV]; exact HX.cell rfl
          have d3 : V.cell? ⟨w.heap.size, 3, none⟩ = some (.bool false) := by rw [hV]; exact HX.cell rfl
          have d12 : V.cell? ⟨w.heap.size, 12, none⟩ = some (.bool tl) := by rw [hV]; exact HX.cell rfl
          have d13 : V.cell? ⟨w.heap.size, 13, none⟩ = some (.bool pr) := by rw [hV]; exact HX.cell rfl
          have d14 : V.cell? ⟨w.heap.size, 14, none⟩ = some (.bool false) := by rw [hV]; exact HX.cell rfl
          have HB : Hid (Below w.heap.size w V) := by rw [hV]; exact abG _
          have hg5 : decide ((5 : Int) ≤ st) = true := decide_eq_true h1
          have hg9 : decide (st ≤ (9 : Int)) = true := decide_eq_true h2
          rw [← hV]
          clear hV HX
          generalize w.heap.size = gb at d1 d3 d12 d13 d14 ⊢
          go_quiet (fail)
          go_wp2_with fail
          go_ret
          exact ⟨retB (by rw [unhide HE]; simp), below_drewNG (unhide HB)⟩
        | true =>
          go_enter Tryz.func60, Tryz.ntmps60
          go_wp2_with fail
          obtain ⟨V, hV⟩ : ∃ V, V = w.alloc (Obj.cells #[.int .i64 kk, .int .i64 st, .string hh, .bool false, .int .i64 ep, .int .i64 bo, .int .i64 op, .int .i64 n, .string s, .slice a len cap, .int .i64 ii, .int .i64 oo, .bool tl, .bool pr, .bool true] 56) := ⟨_, rfl⟩
          have d1 : V.cell? ⟨w.heap.size, 1, none⟩ = some (.int .i64 st) := by rw [hV]; exact HX.cell rfl
          have d3 : V.cell? ⟨w.heap.size, 3, none⟩ = some (.bool false) := by rw [hV]; exact HX.cell rfl
          have d12 : V.cell? ⟨w.heap.size, 12, none⟩ = some (.bool tl) := by rw [hV]; exact HX.cell rfl
          have d13 : V.cell? ⟨w.heap.size, 13, none⟩ = some (.bool pr) := by rw [hV]; exact HX.cell rfl
          have d14 : V.cell? ⟨w.heap.size, 14, none⟩ = some (.bool true) := by rw [hV]; exact HX.cell rfl
          have HB : Hid (Below w.heap.size w V) := by rw [hV]; exact abG _
          have hg5 : decide ((5 : Int) ≤ st) = true := decide_eq_true h1
          have hg9 : decide (st ≤ (9 : Int)) = true := decide_eq_true h2
          rw [← hV]
          clear hV HX
          generalize w.heap.size = gb at d1 d3 d12 d13 d14 ⊢
          go_quiet (fail)
          go_wp2_with fail
          go_ret
          exact ⟨retB (by rw [unhide HE]; simp), below_drewNG (unhide HB)⟩
      | true =>
        cases tl with
        | false =>
          go_enter Tryz.func60, Tryz.ntmps60
          go_wp2_with fail
          obtain ⟨V, hV⟩ : ∃ V, V = w.alloc (Obj.cells #[.int .i64 kk, .int .i64 st, .string hh, .bool true, .int .i64 ep, .int .i64 bo, .int .i64 op, .int .i64 n, .string s, .slice a len cap, .int .i64 ii, .int .i64 oo, .bool false, .bool pr, .bool g] 56) := ⟨_, rfl⟩
          have d1 : V.cell? ⟨w.heap.size, 1, none⟩ = some (.int .i64 st) := by rw [hV]; exact HX.cell rfl
          have d3 : V.cell? ⟨w.heap.size, 3, none⟩ = some (.bool true) := by rw [hV]; exact HX.cell rfl
          have d12 : V.cell? ⟨w.heap.size, 12, none⟩ = some (.bool false) := by rw [hV]; exact HX.cell rfl
          have d13 : V.cell? ⟨w.heap.size, 13, none⟩ = some (.bool pr) := by rw [hV]; exact HX.cell rfl
          have d14 : V.cell? ⟨w.heap.size, 14, none⟩ = some (.bool g) := by rw [hV]; exact HX.cell rfl
          have HB : Hid (Below w.heap.size w V) := by rw [hV]; exact abG _
          have hg5 : decide ((5 : Int) ≤ st) = true := decide_eq_true h1
          have hg9 : decide (st ≤ (9 : Int)) = true := decide_eq_true h2
          rw [← hV]
          clear hV HX
          generalize w.heap.size = gb at d1 d3 d12 d13 d14 ⊢
          go_quiet (fail)
          go_wp2_with fail
          go_ret
          exact ⟨retB (by rw [unhide HE]; simp), below_drewNG (unhide HB)⟩
        | true =>
          cases pr with
          | false =>
            go_enter Tryz.func60, Tryz.ntmps60
            go_wp2_with fail
            obtain ⟨V, hV⟩ : ∃ V, V = w.alloc (Obj.cells #[.int .i64 kk, .int .i64 st, .string hh, .bool true, .int .i64 ep, .int .i64 bo, .int .i64 op, .int .i64 n, .string s, .slice a len cap, .int .i64 ii, .int .i64 oo, .bool true, .bool false, .bool g] 56) := ⟨_, rfl⟩
            have d1 : V.cell? ⟨w.heap.size, 1, none⟩ = some (.int .i64 st) := by rw [hV]; exact HX.cell rfl
            have d3 : V.cell? ⟨w.heap.size, 3, none⟩ = some (.bool true) := by rw [hV]; exact HX.cell rfl
            have d12 : V.cell? ⟨w.heap.size, 12, none⟩ = some (.bool true) := by rw [hV]; exact HX.cell rfl
            have d13 : V.cell? ⟨w.heap.size, 13, none⟩ = some (.bool false) := by rw [hV]; exact HX.cell rfl
            have d14 : V.cell? ⟨w.heap.size, 14, none⟩ = some (.bool g) := by rw [hV]; exact HX.cell rfl
            have HB : Hid (Below w.heap.size w V) := by rw [hV]; exact abG _
            have hg5 : decide ((5 : Int) ≤ st) = true := decide_eq_true h1
            have hg9 : decide (st ≤ (9 : Int)) = true := decide_eq_true h2
            rw [← hV]
            clear hV HX
            generalize w.heap.size = gb at d1 d3 d12 d13 d14 ⊢
            go_quiet (fail)
            go_wp2_with fail
            go_ret
            exact ⟨retB (by rw [unhide HE]; simp), below_drewNG (unhide HB)⟩
          | true =>
            go_enter Tryz.func60, Tryz.ntmps60
            go_wp2_with fail
            obtain ⟨V, hV⟩ : ∃ V, V = w.alloc (Obj.cells #[.int .i64 kk, .int .i64 st, .string hh, .bool true, .int .i64 ep, .int .i64 bo, .int .i64 op, .int .i64 n, .string s, .slice a len cap, .int .i64 ii, .int .i64 oo, .bool true, .bool true, .bool g] 56) := ⟨_, rfl⟩
            have d1 : V.cell? ⟨w.heap.size, 1, none⟩ = some (.int .i64 st) := by rw [hV]; exact HX.cell rfl
            have d3 : V.cell? ⟨w.heap.size, 3, none⟩ = some (.bool true) := by rw [hV]; exact HX.cell rfl
            have d12 : V.cell? ⟨w.heap.size, 12, none⟩ = some (.bool true) := by rw [hV]; exact HX.cell rfl
            have d13 : V.cell? ⟨w.heap.size, 13, none⟩ = some (.bool true) := by rw [hV]; exact HX.cell rfl
            have d14 : V.cell? ⟨w.heap.size, 14, none⟩ = some (.bool g) := by rw [hV]; exact HX.cell rfl
            have HB : Hid (Below w.heap.size w V) := by rw [hV]; exact abG _
            have hg5 : decide ((5 : Int) ≤ st) = true := decide_eq_true h1
            have hg9 : decide (st ≤ (9 : Int)) = true := decide_eq_true h2
            rw [← hV]
            clear hV HX
            generalize w.heap.size = gb at d1 d3 d12 d13 d14 ⊢
            go_quiet (fail)
            go_wp2_with fail
            go_ret
            exact ⟨retB (by rw [unhide HE]; simp), below_drewNG (unhide HB)⟩
    · have HE : Hid (inB st 5 9 = false) := decide_eq_false fun q => h2 q.2
      generalize inB st 5 9 = r at *
      cases mu with
      | false =>
        cases g with
        | false =>
          go_enter Tryz.func60, Tryz.ntmps60
          go_wp2_with fail
          obtain ⟨V, hV⟩ : ∃ V, V = w.alloc (Obj.cells #[.int .i64 kk, .int .i64 st, .string hh, .bool false, .int .i64 ep, .int .i64 bo, .int .i64 op, .int .i64 n, .string s, .slice a len cap, .int .i64 ii, .int .i64 oo, .bool tl, .bool pr, .bool false] 56) := ⟨_, rfl⟩
          have d1 : V.cell? ⟨w.heap.size, 1, none⟩ = some (.int .i64 st) := by rw [hV]; exact HX.cell rfl
          have d3 : V.cell? ⟨w.heap.size, 3, none⟩ = some (.bool false) := by rw [hV]; exact HX.cell rfl
          have d12 : V.cell? ⟨w.heap.size, 12, none⟩ = some (.bool tl) := by rw [hV]; exact HX.cell rfl
          have d13 : V.cell? ⟨w.heap.size, 13, none⟩ = some (.bool pr) := by rw [hV]; exact HX.cell rfl
          have d14 : V.cell? ⟨w.heap.size, 14, none⟩ = some (.bool false) := by rw [hV]; exact HX.cell rfl
          have HB : Hid (Below w.heap.size w V) := by rw [hV]; exact abG _
          have hg5 : decide ((5 : Int) ≤ st) = true := decide_eq_true h1
          have hg9 : decide (st ≤ (9 : Int)) = false := decide_eq_false (by omega)
          rw [← hV]
          clear hV HX
          generalize w.heap.size = gb at d1 d3 d12 d13 d14 ⊢
          go_quiet (fail)
          go_wp2_with fail
          go_ret
          exact ⟨retB (by rw [unhide HE]; simp), below_drewNG (unhide HB)⟩
        | true =>
          go_enter Tryz.func60, Tryz.ntmps60
          go_wp2_with fail
          obtain ⟨V, hV⟩ : ∃ V, V = w.alloc (Obj.cells #[.int .i64 kk, .int .i64 st, .string hh, .bool false, .int .i64 ep, .int .i64 bo, .int .i64 op, .int .i64 n, .string s, .slice a len cap, .int .i64 ii, .int .i64 oo, .bool tl, .bool pr, .bool true] 56) := ⟨_, rfl⟩
          have d1 : V.cell? ⟨w.heap.size, 1, none⟩ = some (.int .i64 st) := by rw [hV]; exact HX.cell rfl
          have d3 : V.cell? ⟨w.heap.size, 3, none⟩ = some (.bool false) := by rw [hV]; exact HX.cell rfl
          have d12 : V.cell? ⟨w.heap.size, 12, none⟩ = some (.bool tl) := by rw [hV]; exact HX.cell rfl
          have d13 : V.cell? ⟨w.heap.size, 13, none⟩ = some (.bool pr) := by rw [hV]; exact HX.cell rfl
          have d14 : V.cell? ⟨w.heap.size, 14, none⟩ = some (.bool true) := by rw [hV]; exact HX.cell rfl
          have HB : Hid (Below w.heap.size w V) := by rw [hV]; exact abG _
          have hg5 : decide ((5 : Int) ≤ st) = true := decide_eq_true h1
          have hg9 : decide (st ≤ (9 : Int)) = false := decide_eq_false (by omega)
          rw [← hV]
          clear hV HX
          generalize w.heap.size = gb at d1 d3 d12 d13 d14 ⊢
          go_quiet (fail)
          go_wp2_with fail
          go_ret
          exact ⟨retB (by rw [unhide HE]; simp), below_drewNG (unhide HB)⟩
      | true =>
        go_enter Tryz.func60, Tryz.ntmps60
        go_wp2_with fail
        obtain ⟨V, hV⟩ : ∃ V, V = w.alloc (Obj.cells #[.int .i64 kk, .int .i64 st, .string hh, .bool true, .int .i64 ep, .int .i64 bo, .int .i64 op, .int .i64 n, .string s, .slice a len cap, .int .i64 ii, .int .i64 oo, .bool tl, .bool pr, .bool g] 56) := ⟨_, rfl⟩
        have d1 : V.cell? ⟨w.heap.size, 1, none⟩ = some (.int .i64 st) := by rw [hV]; exact HX.cell rfl
        have d3 : V.cell? ⟨w.heap.size, 3, none⟩ = some (.bool true) := by rw [hV]; exact HX.cell rfl
        have d12 : V.cell? ⟨w.heap.size, 12, none⟩ = some (.bool tl) := by rw [hV]; exact HX.cell rfl
        have d13 : V.cell? ⟨w.heap.size, 13, none⟩ = some (.bool pr) := by rw [hV]; exact HX.cell rfl
        have d14 : V.cell? ⟨w.heap.size, 14, none⟩ = some (.bool g) := by rw [hV]; exact HX.cell rfl
        have HB : Hid (Below w.heap.size w V) := by rw [hV]; exact abG _
        have hg5 : decide ((5 : Int) ≤ st) = true := decide_eq_true h1
        have hg9 : decide (st ≤ (9 : Int)) = false := decide_eq_false (by omega)
        rw [← hV]
        clear hV HX
        generalize w.heap.size = gb at d1 d3 d12 d13 d14 ⊢
        go_quiet (fail)
        go_wp2_with fail
        go_ret
        exact ⟨retB (by rw [unhide HE]; simp), below_drewNG (unhide HB)⟩
  · have HE : Hid (inB st 5 9 = false) := decide_eq_false fun q => h1 q.1
    generalize inB st 5 9 = r at *
    cases mu with
    | false =>
      cases g with
      | false =>
        go_enter Tryz.func60, Tryz.ntmps60
        go_wp2_with fail
        obtain ⟨V, hV⟩ : ∃ V, V = w.alloc (Obj.cells #[.int .i64 kk, .int .i64 st, .string hh, .bool false, .int .i64 ep, .int .i64 bo, .int .i64 op, .int .i64 n, .string s, .slice a len cap, .int .i64 ii, .int .i64 oo, .bool tl, .bool pr, .bool false] 56) := ⟨_, rfl⟩
        have d1 : V.cell? ⟨w.heap.size, 1, none⟩ = some (.int .i64 st) := by rw [hV]; exact HX.cell rfl
        have d3 : V.cell? ⟨w.heap.size, 3, none⟩ = some (.bool false) := by rw [hV]; exact HX.cell rfl
        have d12 : V.cell? ⟨w.heap.size, 12, none⟩ = some (.bool tl) := by rw [hV]; exact HX.cell rfl
        have d13 : V.cell? ⟨w.heap.size, 13, none⟩ = some (.bool pr) := by rw [hV]; exact HX.cell rfl
        have d14 : V.cell? ⟨w.heap.size, 14, none⟩ = some (.bool false) := by rw [hV]; exact HX.cell rfl
        have HB : Hid (Below w.heap.size w V) := by rw [hV]; exact abG _
        have hg5 : decide ((5 : Int) ≤ st) = false := decide_eq_false (by omega)
        rw [← hV]
        clear hV HX
        generalize w.heap.size = gb at d1 d3 d12 d13 d14 ⊢
        go_quiet (fail)
        go_wp2_with fail
        go_ret
        exact ⟨retB (by rw [unhide HE]; simp), below_drewNG (unhide HB)⟩
      | true =>
        go_enter Tryz.func60, Tryz.ntmps60
        go_wp2_with fail
        obtain ⟨V, hV⟩ : ∃ V, V = w.alloc (Obj.cells #[.int .i64 kk, .int .i64 st, .string hh, .bool false, .int .i64 ep, .int .i64 bo, .int .i64 op, .int .i64 n, .string s, .slice a len cap, .int .i64 ii, .int .i64 oo, .bool tl, .bool pr, .bool true] 56) := ⟨_, rfl⟩
        have d1 : V.cell? ⟨w.heap.size, 1, none⟩ = some (.int .i64 st) := by rw [hV]; exact HX.cell rfl
        have d3 : V.cell? ⟨w.heap.size, 3, none⟩ = some (.bool false) := by rw [hV]; exact HX.cell rfl
        have d12 : V.cell? ⟨w.heap.size, 12, none⟩ = some (.bool tl) := by rw [hV]; exact HX.cell rfl
        have d13 : V.cell? ⟨w.heap.size, 13, none⟩ = some (.bool pr) := by rw [hV]; exact HX.cell rfl
        have d14 : V.cell? ⟨w.heap.size, 14, none⟩ = some (.bool true) := by rw [hV]; exact HX.cell rfl
        have HB : Hid (Below w.heap.size w V) := by rw [hV]; exact abG _
        have hg5 : decide ((5 : Int) ≤ st) = false := decide_eq_false (by omega)
        rw [← hV]
        clear hV HX
        generalize w.heap.size = gb at d1 d3 d12 d13 d14 ⊢
        go_quiet (fail)
        go_wp2_with fail
        go_ret
        exact ⟨retB (by rw [unhide HE]; simp), below_drewNG (unhide HB)⟩
    | true =>
      go_enter Tryz.func60, Tryz.ntmps60
      go_wp2_with fail
      obtain ⟨V, hV⟩ : ∃ V, V = w.alloc (Obj.cells #[.int .i64 kk, .int .i64 st, .string hh, .bool true, .int .i64 ep, .int .i64 bo, .int .i64 op, .int .i64 n, .string s, .slice a len cap, .int .i64 ii, .int .i64 oo, .bool tl, .bool pr, .bool g] 56) := ⟨_, rfl⟩
      have d1 : V.cell? ⟨w.heap.size, 1, none⟩ = some (.int .i64 st) := by rw [hV]; exact HX.cell rfl
      have d3 : V.cell? ⟨w.heap.size, 3, none⟩ = some (.bool true) := by rw [hV]; exact HX.cell rfl
      have d12 : V.cell? ⟨w.heap.size, 12, none⟩ = some (.bool tl) := by rw [hV]; exact HX.cell rfl
      have d13 : V.cell? ⟨w.heap.size, 13, none⟩ = some (.bool pr) := by rw [hV]; exact HX.cell rfl
      have d14 : V.cell? ⟨w.heap.size, 14, none⟩ = some (.bool g) := by rw [hV]; exact HX.cell rfl
      have HB : Hid (Below w.heap.size w V) := by rw [hV]; exact abG _
      have hg5 : decide ((5 : Int) ≤ st) = false := decide_eq_false (by omega)
      rw [← hV]
      clear hV HX
      generalize w.heap.size = gb at d1 d3 d12 d13 d14 ⊢
      go_quiet (fail)
      go_wp2_with fail
      go_ret
      exact ⟨retB (by rw [unhide HE]; simp), below_drewNG (unhide HB)⟩

/-- The rule asks this of a thing. -/
def ruleH : Th → Bool
  | .c x => heldC x
  | _ => true
theorem asCaCa (v : Value) (w : World) : (Instr.typeAssert (.iface 56 v) 123 56 true).run Tryz.prog w = .ok (.tuple #[v, .bool true]) w := by kernel_rfl
theorem asLeCa (v : Value) (w : World) : (Instr.typeAssert (.iface 103 v) 123 56 true).run Tryz.prog w = .ok (.tuple #[.agg #[.int .i64 0, .int .i64 0, .string ByteArray.empty, .bool false, .int .i64 0, .int .i64 0, .int .i64 0, .int .i64 0, .string ByteArray.empty, .slice none 0 0, .int .i64 0, .int .i64 0, .bool false, .bool false, .bool false], .bool false]) w := by kernel_rfl
theorem asJoCa (v : Value) (w : World) : (Instr.typeAssert (.iface 155 v) 123 56 true).run Tryz.prog w = .ok (.tuple #[.agg #[.int .i64 0, .int .i64 0, .string ByteArray.empty, .bool false, .int .i64 0, .int .i64 0, .int .i64 0, .int .i64 0, .string ByteArray.empty, .slice none 0 0, .int .i64 0, .int .i64 0, .bool false, .bool false, .bool false], .bool false]) w := by kernel_rfl
set_option maxRecDepth 100000 in
set_option maxHeartbeats 8000000 in
theorem ruleHI (x : Th) (u : Value) (w : World) (h : thAt w 0 x [u]) :
    Calls Tryz.prog 59 #[u] w fun e w' => e = .returned (.bool (ruleH x)) ∧ Below w.heap.size w w' := by
  have HZ := hide (Box.new w 56 [.int .i64 0, .int .i64 0, .string ⟨#[]⟩, .bool false, .int .i64 0, .int .i64 0, .int .i64 0, .int .i64 0, .string ⟨#[]⟩, .slice none 0 0, .int .i64 0, .int .i64 0, .bool false, .bool false, .bool false])
  cases x with
  | c x =>
    obtain ⟨cs, hu, hx⟩ := h
    cases hu
    have HC := hide (fun v (hv : Below w.heap.size w v) => (heldI x cs v (caK.on (w := w) (L := 0) (x := x) hx hv)).mono (fun _ _ h => (⟨h.1, btG hv h.2⟩ : _ ∧ Below w.heap.size w _)))
    have HE : Hid (ruleH (.c x) = heldC x) := hide rfl
    generalize heldC x = r at *
    generalize ruleH (.c x) = r2 at *
    obtain ⟨kk, ⟨st, hh, mu, ep, bo, tt, ii, oo, tl, pr⟩, g⟩ := x
    obtain ⟨cw, rfl, -, op, n, s, a, len, cap, rfl, -⟩ := hx
    replace HC : Hid (∀ v, Below w.heap.size w v → Calls Tryz.prog 60 #[.agg #[.int .i64 kk, .int .i64 st, .string hh, .bool mu, .int .i64 ep, .int .i64 bo, .int .i64 op, .int .i64 n, .string s, .slice a len cap, .int .i64 ii, .int .i64 oo, .bool tl, .bool pr, .bool g]] v fun e w' => e = .returned (.bool r) ∧ Below w.heap.size w w') := HC
    show Calls Tryz.prog 59 #[.iface 56 (.agg #[.int .i64 kk, .int .i64 st, .string hh, .bool mu, .int .i64 ep, .int .i64 bo, .int .i64 op, .int .i64 n, .string s, .slice a len cap, .int .i64 ii, .int .i64 oo, .bool tl, .bool pr, .bool g])] w _
    have A1 := asCaCa (.agg #[.int .i64 kk, .int .i64 st, .string hh, .bool mu, .int .i64 ep, .int .i64 bo, .int .i64 op, .int .i64 n, .string s, .slice a len cap, .int .i64 ii, .int .i64 oo, .bool tl, .bool pr, .bool g])
    go_enter Tryz.func59, Tryz.ntmps59
    go_wp2_with fail
    refine (unhide HC _ (by repeat (first | exact abG _ | refine setG ?_ (Nat.le_refl _)))).mono ?_
    rintro e w2 ⟨rfl, hb2⟩
    have HB2 := hide hb2
    clear hb2
    go_wp2_with fail
    go_ret
    exact ⟨retB (unhide HE), unhide HB2⟩
  | l x =>
    obtain ⟨cs, hu, hx⟩ := h
    cases hu
    clear hx
    have A1 := asLeCa (.agg cs.toArray)
    go_enter Tryz.func59, Tryz.ntmps59
    go_wp2_with fail
    go_ret
    exact ⟨rfl, by repeat (first | exact abG _ | refine setG ?_ (Nat.le_refl _))⟩
  | j b P =>
    obtain ⟨_, a, cap, hu, hx⟩ := h
    cases hu
    clear hx
    have A1 := asJoCa (.agg #[.string b, .slice a P.length cap])
    go_enter Tryz.func59, Tryz.ntmps59
    go_wp2_with fail
    go_ret
    exact ⟨rfl, by repeat (first | exact abG _ | refine setG ?_ (Nat.le_refl _))⟩

def thingsOf (X : Wd) : List Th := .j X.book X.letters :: (X.letters.map .l ++ X.calls.map .c)

/-- One-cell values in a row of the call's own, in a block from B on. -/
def IRw (B : Nat) (E : List Value) (v : Value) (w : World) : Prop := w.ownsRow B 123 1 v E.length E
theorem IRw.low {B : Nat} {E : List Value} {v : Value} {w w' : World} (h : IRw B E v w) (hb : Below w.heap.size w w') : IRw B E v w' :=
  World.ownsRow.kept h (row := none) ⟨hb.os, hb.tape, hb.output, hb.size, fun k hk _ => hb.block k hk⟩ (by cases v.ownBlock <;> simp)
theorem IRw.own_ge {B : Nat} {E : List Value} {v : Value} {w : World} (h : IRw B E v w) : ∀ k, v.ownBlock = some k → B ≤ k := fun k hk => (World.ownsRow.lt h k hk).1
theorem IRw.shape {B : Nat} {E : List Value} {v : Value} {w : World} (h : IRw B E v w) : ∃ a c, v = .slice a E.length c := by
  rcases h.2 with ⟨h1, h2⟩ | ⟨g, cap, cur, h1, _⟩
  · exact ⟨none, 0, by rw [h1, h2]⟩
  · exact ⟨_, _, h1⟩
theorem IRw.get {B : Nat} {E : List Value} {a : Option Addr} {n c : Nat} {w : World} (h : IRw B E (.slice a n c) w) {i : Nat} {u : Value} (hi : E[i]? = some u) :
    ∃ g, a = some ⟨g, 0, none⟩ ∧ B ≤ g ∧ w.cell? ⟨g, i, none⟩ = some u := by
  have hlt := (List.getElem?_eq_some_iff.1 hi).1
  rcases h.2 with ⟨h1, h2⟩ | ⟨g, cap, cur, h1, h2, h3, h4, h5, h6, h7⟩
  · omega
  · injection h1 with h1 _ _
    refine ⟨g, h1, h2, ?_⟩
    rw [← h7, List.getElem?_take_of_lt (by omega)] at hi
    simp only [World.cell?, h3]
    simpa using hi
theorem infoJd : (Tryz.prog.info? 123).map (fun i => (i.zero, i.size, i.bytes)) = some (some .nilIface, 1, 16) := by kernel_rfl
theorem IRw.push {B : Nat} {E : List Value} {v : Value} {w : World} (h : IRw B E v w) (u : Value) (hu : u.oneCell' = true) (hn : E.length ≤ 4194304) (hB : B ≤ w.heap.size) (ty : TypeId) :
    ∃ v' w', (Builtin.append_ #[117, 117] ty #[v, .slice (some ⟨w.heap.size, 0, none⟩) 1 1]).run Tryz.prog (w.alloc (.cells #[u] 123)) = .ok v' w' ∧ IRw B (E ++ [u]) v' w' ∧ Below B w w' := by
  obtain ⟨i, hi, hzz⟩ := Option.map_eq_some_iff.1 infoJd
  simp only [Prod.mk.injEq] at hzz
  obtain ⟨hz, hs, hb⟩ := hzz
  have hb0 : Below w.heap.size w (w.alloc (.cells #[u] 123)) := (Below.refl _ _).alloc (Nat.le_refl _) _
  have h0 := h.low hb0
  have hB0 : B ≤ (w.alloc (.cells #[u] 123)).heap.size := by rw [heap_size_alloc]; omega
  have hnews : ∀ j x, [u][j]? = some x → (w.alloc (.cells #[u] 123)).cell? ((⟨w.heap.size, 0, none⟩ : Addr).add j) = some x := fun j x hj => by
    rw [Addr.add_mid, Nat.zero_add]
    exact box_cell w _ 123 j _ (by simpa using hj)
  obtain ⟨v2, w2, k1, k2, k3, _⟩ := run_append_own_wide (P := Tryz.prog) (w.alloc (.cells #[u] 123)) B 117 ty 123 i _ 1 16 Tryz.underlying117 hi hz hs hb rfl (by omega) v E.length _ h0 ⟨w.heap.size, 0, none⟩ 1 1 [u] (by simp) hnews (by intro x hx; obtain rfl := List.mem_singleton.1 hx; exact hu)
    (by unfold maxLen; omega) (by omega) hB0
  refine ⟨v2, w2, k1, by unfold IRw; rw [List.length_append]; simpa using k2, ?_⟩
  exact (hb0.mono hB).grown k3 hB0 (fun k hk => h0.own_ge k hk)

def OutJ (T : List Th) (w : World) (e : Ending) (w' : World) : Prop := ∃ a cap, e = .returned (.slice a T.length cap) ∧ thK.Ls w' 0 a T ∧ Below w.heap.size w w'
/-- The values stand for the things, one by one. -/
def Rel (w : World) (T : List Th) (E : List Value) : Prop := E.length = T.length ∧ ∀ (k : Nat) (x : Th), T[k]? = some x → ∃ u, E[k]? = some u ∧ thAt w 0 x [u]
theorem Rel.push {w : World} {T : List Th} {E : List Value} (h : Rel w T E) {x : Th} {u : Value} (hx : thAt w 0 x [u]) : Rel w (T ++ [x]) (E ++ [u]) := by
  refine ⟨by simp [h.1], fun k y hk => ?_⟩
  rcases Nat.lt_or_ge k T.length with q | q
  · rw [List.getElem?_append_left q] at hk
    obtain ⟨u', hu, ha⟩ := h.2 k y hk
    exact ⟨u', by rw [List.getElem?_append_left (by rw [h.1]; exact q)]; exact hu, ha⟩
  · rw [List.getElem?_append_right q] at hk
    have hk0 : k - T.length = 0 := by
      rcases Nat.eq_zero_or_pos (k - T.length) with e | e
      · exact e
      · rw [List.getElem?_eq_none (by simp; omega)] at hk; cases hk
    rw [hk0] at hk
    cases hk
    have hkE : k = E.length := by rw [h.1]; omega
    exact ⟨u, by rw [hkE]; simp, hx⟩
theorem Rel.ls {w w' : World} {T : List Th} {E : List Value} {a : Option Addr} {n c B : Nat} (h : Rel w T E) (hb : Below w.heap.size w w') (hr : IRw B E (.slice a n c) w') : thK.Ls w' 0 a T := fun k x hk => by
  obtain ⟨u, hu, hx⟩ := h.2 k x hk
  obtain ⟨g, rfl, -, hc⟩ := hr.get hu
  refine ⟨g, 0, [u], rfl, Nat.zero_le _, fun j v hj => ?_, thK.on (w := w) (L := 0) (x := x) hx hb⟩
  cases j with
  | zero => simp only [List.getElem?_cons_zero, Option.some.injEq] at hj; subst hj; show w'.cell? ⟨g, 0 + k * 1 + 0, none⟩ = _; rw [show 0 + k * 1 + 0 = k by omega]; exact hc
  | succ j => simp at hj
theorem Kd.Ls.getOn {α : Type} {K : Kd α} {w wr : World} {a : Option Addr} {P : List α} (h : K.Ls w 0 a P) {k : Nat} {x : α} (hk : P[k]? = some x) (hb : Below w.heap.size w wr) :
    ∃ b o cs, a = some ⟨b, o, none⟩ ∧ wr.rangeAt b (o + k * K.n) cs ∧ K.at_ w 0 x cs ∧ cs.length = K.n := by
  obtain ⟨b, o, cs, h1, h2, h3, h4, h5, h6⟩ := h.get hk
  exact ⟨b, o, cs, h1, fun j v hj => below_some hb (h4 j v hj), h5, h6⟩
theorem map_take_next {α β : Type} {P : List α} {k : Nat} {x : α} (f : α → β) (hk : P[k]? = some x) : (P.take (k + 1)).map f = (P.take k).map f ++ [f x] := by
  rw [List.take_add_one, hk]
  simp
theorem infoLeJ : (Tryz.prog.info? 103).map (·.size) = some 5 := by kernel_rfl
theorem infoCaJ : (Tryz.prog.info? 56).map (·.size) = some 15 := by kernel_rfl

set_option maxRecDepth 100000 in
set_option maxHeartbeats 4000000 in
theorem judgedI (X : Wd) (cs : List Value) (w : World) (h : wdAt w 0 X cs) (hz : ww X ≤ 1048576) :
    Calls Tryz.prog 57 #[.agg cs.toArray] w fun e w' => OutJ (thingsOf X) w e w' := by
  obtain ⟨hfit, ak, ck, ac, cc, ah, ch, al, cl, aa, ca, az, cz, ai, ci, rfl, hy0, hy1, hy2, hy3, hy4, hy5, hy6⟩ := h
  show Calls Tryz.prog 57 #[.agg #[.int .i64 X.time, .int .i64 X.fresh, .slice ak X.known.length ck, .slice ac X.cache.length cc, .slice ah X.hosts.length ch, .slice al X.letters.length cl, .string X.book, .int .i64 X.sure, .slice aa X.calls.length ca, .slice az X.talks.length cz, .slice ai X.told.length ci]] w _
  have HX := hide (Box.new w 40 [.int .i64 X.time, .int .i64 X.fresh, .slice ak X.known.length ck, .slice ac X.cache.length cc, .slice ah X.hosts.length ch, .slice al X.letters.length cl, .string X.book, .int .i64 X.sure, .slice aa X.calls.length ca, .slice az X.talks.length cz, .slice ai X.told.length ci])
  have HYl := hide hy3
  have HYc := hide hy4
  have hln : X.letters.length ≤ 1048576 := by unfold ww at hz; omega
  have hcn : X.calls.length ≤ 1048576 := by unfold ww at hz; omega
  have HTO : Hid (thingsOf X = .j X.book X.letters :: (X.letters.map .l ++ X.calls.map .c)) := hide rfl
  have HJ : Hid (thAt w 0 (.j X.book X.letters) [.iface 155 (.agg #[.string X.book, .slice al X.letters.length cl])]) := hide ⟨hfit.2.2.2.1, al, cl, rfl, hy3⟩
  clear hfit hy0 hy1 hy2 hy3 hy4 hy5 hy6 hz
  generalize thingsOf X = TT at *
  generalize hll : X.letters.length = ll at *
  generalize hlc : X.calls.length = lc at *
  have HLL := hide hll
  have HLC := hide hlc
  clear hll hlc
  have HYlL := HLL
  have HYcL := HLC
  go_enter Tryz.func57, Tryz.ntmps57
  go_wp2_with fail
  have hs : (w.alloc (.cells #[.int .i64 X.time, .int .i64 X.fresh, .slice ak X.known.length ck, .slice ac X.cache.length cc, .slice ah X.hosts.length ch, .slice al X.letters.length cl, .string X.book, .int .i64 X.sure, .slice aa X.calls.length ca, .slice az X.talks.length cz, .slice ai X.told.length ci] 40)).heap.size = w.heap.size + 1 := heap_size_alloc _ _
  have HB1 := hide (abG (w := w) (.cells #[.int .i64 X.time, .int .i64 X.fresh, .slice ak X.known.length ck, .slice ac X.cache.length cc, .slice ah X.hosts.length ch, .slice al X.letters.length cl, .string X.book, .int .i64 X.sure, .slice aa X.calls.length ca, .slice az X.talks.length cz, .slice ai X.told.length ci] 40))
  simp only [unhide HLL, unhide HLC] at hs HB1
  generalize hW1 : w.alloc _ = W1 at *
  rw [← hs]
  have HIR : Hid (IRw W1.heap.size [.iface 155 (.agg #[.string X.book, .slice al ll cl])] (.slice (some ⟨W1.heap.size, 0, none⟩) 1 1) (W1.alloc (.cells #[.iface 155 (.agg #[.string X.book, .slice al ll cl])] 123))) := hide (World.ownsRow_lit W1 _ 1 (Nat.le_refl _) (by decide) rfl)
  have HBW : Hid (Below W1.heap.size W1 (W1.alloc (.cells #[.iface 155 (.agg #[.string X.book, .slice al ll cl])] 123))) := hide (abG _)
  have HRJ : Hid (Rel w (.j X.book X.letters :: (X.letters.take 0).map .l) [.iface 155 (.agg #[.string X.book, .slice al ll cl])]) := hide ⟨by simp, fun k x hk => by
    cases k with
    | zero => cases hk; exact ⟨_, rfl, unhide HJ⟩
    | succ k => simp at hk⟩
  clear hs
  go_loopw [3, 18] (fun v i wr => ∃ (k : Nat) (E : List Value), i = .int .i64 k ∧ IRw W1.heap.size E v wr ∧ Rel w (.j X.book X.letters :: (X.letters.take k).map .l) E ∧ Below W1.heap.size W1 wr ∧ k ≤ ll ∧ E.length ≤ 2097153) (fun _ i _ => ll - (intOf i).toNat)
  case atStart => exact ⟨0, _, rfl, unhide HIR, unhide HRJ, unhide HBW, by omega, by simp⟩
  case round =>
    obtain ⟨k, E, rfl, hr, hR, hb, hk, hE⟩ := hrel
    obtain ⟨ra, rc, rfl⟩ := hr.shape
    have HBrp := hide hb
    have HRr := hide hr
    have HRlp := hide hR
    by_cases hp : k < ll
    · have hp' : k < X.letters.length := by have := HYlL.out; omega
      obtain ⟨x, hkx⟩ : ∃ x, X.letters[k]? = some x := ⟨_, List.getElem?_eq_getElem hp'⟩
      obtain ⟨b, o, cs, rfl, HR0, HT2, hcl0⟩ := (unhide HYl).getOn hkx (btG (unhide HB1) hb)
      have HR := hide (show wr.rangeAt b (o + k * 5) cs from HR0)
      have hcl := hide (show cs.length = 5 from hcl0)
      have hone := hide (leK.one (w := w) (L := 0) (x := x) HT2)
      have HZ := hide (Box.new wr 103 [.string ⟨#[]⟩, .int .i64 0, .int .i64 0, .int .i64 0, .int .i64 0])
      have HTH : Hid (thAt w 0 (.l x) [.iface 103 (.agg cs.toArray)]) := hide ⟨cs, rfl, HT2⟩
      have HNX := hide (map_take_next (Th.l) hkx)
      have HEL := hide hE
      have HAP := hide (fun V (hV : Below wr.heap.size wr V) => (hr.low hV).push (.iface 103 (.agg cs.toArray)) rfl (by omega) (Nat.le_trans hb.size hV.size) 117)
      have q2 : (k : Int) < (ll : Int) := by omega
      have q3 : (0 : Int) ≤ (k : Int) := by omega
      have w1 : wrap64 ((k : Int) + 1) = ((k + 1 : Nat) : Int) := by unfold wrap64; omega
      clear hkx HR0 HT2 hcl0 hb hr hR hE
      go_wp2_with (first
      | (refine wpList_load_mid rfl _ _ rfl b (o + k * 5) rfl cs _ (unhide HR) Tryz.underlying103 rfl (by rw [unhide hcl]; exact infoLeJ) ?_)
      | (refine wpList_store_box rfl _ _ rfl wr.heap.size 0 cs (unhide HZ) (by rw [unhide hcl]; exact Nat.le_refl _) rfl rfl (by rw [unhide hcl]; exact infoLeJ) (unhide hone) ?_
         intro V hV
         have HV : Hid (Box V wr.heap.size 103 cs) := (by
           rw [hV]
           have hp : puts [.string ⟨#[]⟩, .int .i64 0, .int .i64 0, .int .i64 0, .int .i64 0] 0 cs = cs := puts_all (by rw [unhide hcl]; rfl)
           have := Box.sets cs 0 _ _ (unhide HZ)
           rw [hp] at this
           exact this)
         have HBV : Hid (Below wr.heap.size wr V) := (by rw [hV]; exact setsG (abG _) (Nat.le_refl _))
         have HAV := hide (unhide HAP V (unhide HBV))
         clear hV HZ HAP)
      | (refine wpList_load_box rfl _ rfl wr.heap.size 0 cs (unhide HV) (fun j v hj => (by rw [Nat.zero_add]; exact hj)) rfl Tryz.underlying103 rfl (by rw [unhide hcl]; exact infoLeJ) ?_)
      | (at_builtin
         refine wpList_append_run rfl _ _ 117 rfl (.slice ra E.length rc) (.slice (some ⟨V.heap.size, 0, none⟩) 1 1) rfl rfl (fun v' w' => IRw W1.heap.size (E ++ [.iface 103 (.agg cs.toArray)]) v' w' ∧ Below W1.heap.size V w') (unhide HAV) ?_
         rintro v5 w5 ⟨t5, b5⟩
         have HT5 := hide t5
         have HB5 := hide (((unhide HBrp).trans ((unhide HBV).mono (unhide HBrp).size)).trans b5)
         clear t5 b5))
      go_roundw
      case rel => exact ⟨k + 1, E ++ [.iface 103 (.agg cs.toArray)], rfl, unhide HT5, (by have := (unhide HRlp).push (unhide HTH); simpa only [unhide HNX, List.cons_append, List.append_assoc] using this), unhide HB5, by omega, by have := (unhide HRlp).1; have := HLL.out; have := HLC.out; simp at this ⊢; simp_all; omega⟩
      case measure => simp only [intOf]; omega
    · have c2 : ¬ (k : Int) < (ll : Int) := by omega
      have HRa : Hid (Rel w (.j X.book X.letters :: (X.letters.map .l)) E) := by
        have h := unhide HRlp
        rw [List.take_of_length_le (by have := HLL.out; omega)] at h
        exact h
      have HEL := hide hE
      have c8 : wr.cell? ⟨w.heap.size, 8, none⟩ = some (.slice aa lc ca) := ((unhide HX).on hb).cell rfl
      clear hb hr hR hE
      go_wp2_with fail
      generalize wr = V1 at *
      go_loopw [3, 31] (fun v i wr => ∃ (k : Nat) (E : List Value), i = .int .i64 k ∧ IRw W1.heap.size E v wr ∧ Rel w (.j X.book X.letters :: (X.letters.map .l ++ (X.calls.take k).map .c)) E ∧ Below W1.heap.size W1 wr ∧ k ≤ lc ∧ E.length ≤ 2097153) (fun _ i _ => lc - (intOf i).toNat)
      case atStart => exact ⟨0, E, rfl, unhide HRr, (by simpa using unhide HRa), unhide HBrp, by omega, unhide HEL⟩
      case round =>
        obtain ⟨k, E, rfl, hr, hR, hb, hk, hE⟩ := hrel
        obtain ⟨ra, rc, rfl⟩ := hr.shape
        have HBrq := hide hb
        have HRr := hide hr
        have HRlq := hide hR
        by_cases hp : k < lc
        · have hp' : k < X.calls.length := by have := HYcL.out; omega
          obtain ⟨x, hkx⟩ : ∃ x, X.calls[k]? = some x := ⟨_, List.getElem?_eq_getElem hp'⟩
          obtain ⟨b, o, cs, rfl, HR0, HT2, hcl0⟩ := (unhide HYc).getOn hkx (btG (unhide HB1) hb)
          have HR := hide (show wr.rangeAt b (o + k * 15) cs from HR0)
          have hcl := hide (show cs.length = 15 from hcl0)
          have hone := hide (caK.one (w := w) (L := 0) (x := x) HT2)
          have HZ := hide (Box.new wr 56 [.int .i64 0, .int .i64 0, .string ⟨#[]⟩, .bool false, .int .i64 0, .int .i64 0, .int .i64 0, .int .i64 0, .string ⟨#[]⟩, .slice none 0 0, .int .i64 0, .int .i64 0, .bool false, .bool false, .bool false])
          have HTH : Hid (thAt w 0 (.c x) [.iface 56 (.agg cs.toArray)]) := hide ⟨cs, rfl, HT2⟩
          have HNX := hide (map_take_next (Th.c) hkx)
          have HEL := hide hE
          have HAP := hide (fun V (hV : Below wr.heap.size wr V) => (hr.low hV).push (.iface 56 (.agg cs.toArray)) rfl (by omega) (Nat.le_trans hb.size hV.size) 117)
          have q2 : (k : Int) < (lc : Int) := by omega
          have q3 : (0 : Int) ≤ (k : Int) := by omega
          have w1 : wrap64 ((k : Int) + 1) = ((k + 1 : Nat) : Int) := by unfold wrap64; omega
          clear hkx HR0 HT2 hcl0 hb hr hR hE
          go_wp2_with (first
          | (refine wpList_load_mid rfl _ _ rfl b (o + k * 15) rfl cs _ (unhide HR) Tryz.underlying56 rfl (by rw [unhide hcl]; exact infoCaJ) ?_)
          | (refine wpList_store_box rfl _ _ rfl wr.heap.size 0 cs (unhide HZ) (by rw [unhide hcl]; exact Nat.le_refl _) rfl rfl (by rw [unhide hcl]; exact infoCaJ) (unhide hone) ?_
             intro V hV
             have HV : Hid (Box V wr.heap.size 56 cs) := (by
               rw [hV]
               have hp : puts [.int .i64 0, .int .i64 0, .string ⟨#[]⟩, .bool false, .int .i64 0, .int .i64 0, .int .i64 0, .int .i64 0, .string ⟨#[]⟩, .slice none 0 0, .int .i64 0, .int .i64 0, .bool false, .bool false, .bool false] 0 cs = cs := puts_all (by rw [unhide hcl]; rfl)
               have := Box.sets cs 0 _ _ (unhide HZ)
               rw [hp] at this
               exact this)
             have HBV : Hid (Below wr.heap.size wr V) := (by rw [hV]; exact setsG (abG _) (Nat.le_refl _))
             have HAV := hide (unhide HAP V (unhide HBV))
             clear hV HZ HAP)
          | (refine wpList_load_box rfl _ rfl wr.heap.size 0 cs (unhide HV) (fun j v hj => (by rw [Nat.zero_add]; exact hj)) rfl Tryz.underlying56 rfl (by rw [unhide hcl]; exact infoCaJ) ?_)
          | (at_builtin
             refine wpList_append_run rfl _ _ 117 rfl (.slice ra E.length rc) (.slice (some ⟨V.heap.size, 0, none⟩) 1 1) rfl rfl (fun v' w' => IRw W1.heap.size (E ++ [.iface 56 (.agg cs.toArray)]) v' w' ∧ Below W1.heap.size V w') (unhide HAV) ?_
             rintro v5 w5 ⟨t5, b5⟩
             have HT5 := hide t5
             have HB5 := hide (((unhide HBrq).trans ((unhide HBV).mono (unhide HBrq).size)).trans b5)
             clear t5 b5))
          go_roundw
          case rel => exact ⟨k + 1, E ++ [.iface 56 (.agg cs.toArray)], rfl, unhide HT5, (by have := (unhide HRlq).push (unhide HTH); simpa only [unhide HNX, List.cons_append, List.append_assoc] using this), unhide HB5, by omega, by have := (unhide HRlq).1; have := HLL.out; have := HLC.out; simp at this ⊢; simp_all; omega⟩
          case measure => simp only [intOf]; omega
        · have c2 : ¬ (k : Int) < (lc : Int) := by omega
          have HRb : Hid (Rel w (.j X.book X.letters :: (X.letters.map .l ++ X.calls.map .c)) E) := by
            have h := unhide HRlq
            rw [List.take_of_length_le (by have := HLC.out; omega)] at h
            exact h
          have HBE := hide (btG (unhide HB1) hb)
          clear hb hR hE
          go_wp2_with fail
          go_ret
          have hT : E.length = TT.length := by rw [show TT = _ from unhide HTO]; exact (unhide HRb).1
          refine ⟨ra, rc, by rw [← hT]; rfl, ?_, unhide HBE⟩
          rw [show TT = _ from unhide HTO]
          exact (unhide HRb).ls (unhide HBE) (unhide HRr)

/-- Some talk has got it. -/
def tgotB (T : List Ta) (b : Int) : Bool := T.any fun y => y.s.l.contains b
/-- The call, if it is good and done, was taken. -/
def takenC (X : Wd) (x : Ca) : Bool := !(x.g && (decide (x.c.st = 9) && !tgotB X.talks x.c.bo))
noncomputable def takenB (X : Wd) : Bool := worldB X && X.calls.all (takenC X)
def ruleT (X : Wd) : Th → Bool
  | .c x => takenC X x
  | _ => true
theorem all_thingsT (X : Wd) : (thingsOf X).all (ruleT X) = X.calls.all (takenC X) := by
  unfold thingsOf
  rw [List.all_cons, List.all_append, List.all_map, List.all_map]
  have h1 : X.letters.all (ruleT X ∘ Th.l) = true := List.all_eq_true.2 fun _ _ => rfl
  rw [h1]
  rfl
theorem containsI (l : List Int) (a : Option Addr) (cap : Nat) (x : Int) (w : World) (h : Ints w 0 a l) (hm : l.length ≤ maxLen) :
    Calls Tryz.prog 102 #[.slice a l.length cap, .int .i64 x] w fun e w' => e = .returned (.bool (l.contains x)) ∧ w' = w := by
  cases l with
  | nil => exact Tryz.slices_Contains_int_empty a cap x w
  | cons y r =>
    obtain ⟨b, o, rfl, -, -⟩ := h 0 y rfl
    have hc : ∀ j, j < (y :: r).length → w.cell? ⟨b, o + j, none⟩ = some (.int .i64 ((y :: r).getD j 0)) := fun j hj => by
      obtain ⟨b', o', e, -, hq⟩ := h j _ (List.getElem?_eq_getElem hj)
      simp only [Option.some.injEq, Addr.mk.injEq, and_true] at e
      obtain ⟨rfl, rfl⟩ := e
      rw [hq]
      simp [List.getD, List.getElem?_eq_getElem hj]
    have := Tryz.slices_Contains_int b o (y :: r).length cap (y :: r) x w (Nat.le_refl _) (by unfold maxLen at hm; omega) hc
    rwa [List.take_length] at this

set_option maxRecDepth 100000 in
set_option maxHeartbeats 4000000 in
theorem took1 (x : Ta) (cs : List Value) (b : Int) (q : Nat) (w : World) (h : taAt w 0 x cs) (hq : w.cell? ⟨q, 0, none⟩ = some (.int .i64 b)) :
    Calls Tryz.prog 101 #[.agg cs.toArray, .pointer (some ⟨q, 0, none⟩)] w fun e w' => e = .returned (.bool (x.s.l.contains b)) ∧ Below w.heap.size w w' := by
  obtain ⟨cc, rfl, -, hm, op, n, s, a, len, cap, oq, m, r, c, lem, cat, g, gc, rfl, -, -, hi⟩ := h
  have HC := hide (fun v (hv : Below w.heap.size w v) => containsI x.s.l g gc b v (hi.on hv) hm)
  have hq' : (w.alloc (.cells #[.int .i64 x.k, .int .i64 x.s.st, .string x.s.h, .int .i64 x.s.ke, .int .i64 x.s.ep, .int .i64 op, .int .i64 n, .string s, .slice a len cap, .int .i64 oq, .int .i64 m, .string r, .slice c lem cat, .int .i64 x.s.i, .int .i64 x.s.o, .bool x.s.tl, .slice g x.s.l.length gc] 114)).cell? ⟨q, 0, none⟩ = some (.int .i64 b) := below_some (abG _) hq
  show Calls Tryz.prog 101 #[.agg #[.int .i64 x.k, .int .i64 x.s.st, .string x.s.h, .int .i64 x.s.ke, .int .i64 x.s.ep, .int .i64 op, .int .i64 n, .string s, .slice a len cap, .int .i64 oq, .int .i64 m, .string r, .slice c lem cat, .int .i64 x.s.i, .int .i64 x.s.o, .bool x.s.tl, .slice g x.s.l.length gc], .pointer (some ⟨q, 0, none⟩)] w _
  clear hi hm hq
  generalize x.s.l.contains b = R at *
  go_enter Tryz.func101, Tryz.ntmps101
  go_wp2_with fail
  refine (unhide HC _ (abG _)).mono ?_
  rintro e w2 ⟨rfl, rfl⟩
  go_wp2_with fail
  go_ret
  exact ⟨rfl, abG _⟩

/-- What slices.IndexFunc answers. -/
def IdxR (R : Bool) (w : World) (e : Ending) (w' : World) : Prop := ∃ i : Int, e = .returned (.int .i64 i) ∧ decide (0 ≤ i) = R ∧ Below w.heap.size w w'
theorem infoTaT : (Tryz.prog.info? 114).map (·.size) = some 17 := by kernel_rfl
set_option maxRecDepth 100000 in
set_option maxHeartbeats 4000000 in
theorem idxT (P : List Ta) (a : Option Addr) (cap : Nat) (n : Int) (g : Nat) (w : World) (hl : taK.Ls w 0 a P) (hsz : P.length ≤ 2097152) (hg : w.cell? ⟨g, 0, none⟩ = some (.int .i64 n)) :
    Calls Tryz.prog 119 #[.slice a P.length cap, .func (.func 101) #[] #[.pointer (some ⟨g, 0, none⟩)]] w fun e w' => IdxR (tgotB P n) w e w' := by
  have HT := hide hl
  have HG := hide hg
  clear hl hg
  obtain ⟨R, hR⟩ : ∃ R, R = tgotB P n := ⟨_, rfl⟩
  rw [← hR]
  have HE0 := hide hR
  clear hR
  generalize hlen : P.length = len at *
  have HL := hide hlen
  clear hlen
  go_enter Tryz.func119, Tryz.ntmps119
  go_wp2_with fail
  go_loopw [8] (fun i wr => ∃ k : Nat, i = .int .i64 k ∧ Below w.heap.size w wr ∧ k ≤ len ∧ ∀ j x, j < k → P[j]? = some x → x.s.l.contains n = false) (fun i _ => len - (intOf i).toNat)
  case atStart => exact ⟨0, rfl, Below.refl _ _, by omega, fun j x hj => by omega⟩
  case round =>
    obtain ⟨k, rfl, hb, hk, ha⟩ := hrel
    have HBr := hide hb
    have HA := hide ha
    clear ha
    by_cases hp : k < len
    · have hp' : k < P.length := by have := HL.out; omega
      obtain ⟨x, hkx⟩ : ∃ x, P[k]? = some x := ⟨_, List.getElem?_eq_getElem hp'⟩
      obtain ⟨b, o, cs, rfl, -, -, HR0, HT2, hcl0⟩ := ((unhide HT).on hb).get hkx
      have HR := hide (show wr.rangeAt b (o + k * 17) cs from HR0)
      have hcl := hide (show cs.length = 17 from hcl0)
      have HC := hide (took1 x cs n g wr HT2 (below_some hb (unhide HG)))
      have q2 : (k : Int) < (len : Int) := by omega
      have q3 : (0 : Int) ≤ (k : Int) := by omega
      have w1 : wrap64 ((k : Int) + 1) = ((k + 1 : Nat) : Int) := by unfold wrap64; omega
      have HK := hide hkx
      clear hkx HR0 HT2 hcl0 hb
      cases hx : x.s.l.contains n with
      | true =>
        have HE : Hid (R = true) := by show R = true; rw [unhide HE0]; exact List.any_eq_true.2 ⟨x, List.mem_of_getElem? (unhide HK), hx⟩
        rw [hx] at HC
        clear hx
        go_wp2_with (refine wpList_load_mid rfl _ _ rfl b (o + k * 17) rfl cs _ (unhide HR) Tryz.underlying114 rfl (by rw [unhide hcl]; exact infoTaT) ?_)
        refine (unhide HC).mono ?_
        rintro e w2 ⟨rfl, hb2⟩
        have HB2 := hide (btG (unhide HBr) hb2)
        clear hb2
        go_wp2_with fail
        go_ret
        exact ⟨(k : Int), rfl, (by rw [unhide HE]; exact decide_eq_true (by omega)), unhide HB2⟩
      | false =>
        have HM : Hid (∀ j y, j < k + 1 → P[j]? = some y → y.s.l.contains n = false) := fun j y hj hy => by
          rcases Nat.lt_or_ge j k with q | q
          · exact unhide HA j y q hy
          · obtain rfl : j = k := by omega
            rw [unhide HK] at hy
            cases hy
            exact hx
        rw [hx] at HC
        clear hx
        go_wp2_with (refine wpList_load_mid rfl _ _ rfl b (o + k * 17) rfl cs _ (unhide HR) Tryz.underlying114 rfl (by rw [unhide hcl]; exact infoTaT) ?_)
        refine (unhide HC).mono ?_
        rintro e w2 ⟨rfl, hb2⟩
        have HB2 := hide (btG (unhide HBr) hb2)
        clear hb2
        go_wp2_with fail
        go_roundw
        case rel => exact ⟨k + 1, rfl, unhide HB2, by omega, unhide HM⟩
        case measure => simp only [intOf]; omega
    · have c2 : ¬ (k : Int) < (len : Int) := by omega
      have HE : Hid (R = false) := by
        show R = false
        rw [unhide HE0]
        exact List.any_eq_false.2 fun x hx => by
          obtain ⟨j, hj⟩ := List.getElem?_of_mem hx
          have := unhide HA j x (by have := (List.getElem?_eq_some_iff.1 hj).1; have := HL.out; omega) hj
          exact Bool.eq_false_iff.1 this
      clear hb
      go_wp2_with fail
      go_ret
      exact ⟨-1, rfl, (by rw [unhide HE]; decide), unhide HBr⟩

set_option maxRecDepth 100000 in
set_option maxHeartbeats 4000000 in
theorem anyT (P : List Ta) (a : Option Addr) (cap : Nat) (n : Int) (g : Nat) (w : World) (hl : taK.Ls w 0 a P) (hsz : P.length ≤ 2097152) (hg : w.cell? ⟨g, 0, none⟩ = some (.int .i64 n)) :
    Calls Tryz.prog 100 #[.slice a P.length cap, .func (.func 101) #[] #[.pointer (some ⟨g, 0, none⟩)]] w fun e w' => e = .returned (.bool (tgotB P n)) ∧ Below w.heap.size w w' := by
  have HC := hide (idxT P a cap n g w hl hsz hg)
  clear hl hg
  generalize tgotB P n = R at *
  go_enter Tryz.func100, Tryz.ntmps100
  go_wp2_with fail
  refine (unhide HC).mono ?_
  rintro e w2 ⟨i, rfl, hi, hb2⟩
  have HB2 := hide hb2
  have HI := hide hi
  clear hb2
  clear hi
  go_wp2_with fail
  go_ret
  exact ⟨retB (unhide HI).symm, unhide HB2⟩

set_option maxRecDepth 100000 in
set_option maxHeartbeats 4000000 in
theorem tookI (X : Wd) (cs : List Value) (n : Int) (w : World) (h : wdAt w 0 X cs) (hz : ww X ≤ 1048576) :
    Calls Tryz.prog 69 #[.agg cs.toArray, .int .i64 n] w fun e w' => e = .returned (.bool (tgotB X.talks n)) ∧ Below w.heap.size w w' := by
  obtain ⟨-, ak, ck, ac, cc, ah, ch, al, cl, aa, ca, az, cz, ai, ci, rfl, -, -, -, -, -, hy5, -⟩ := h
  have HB : Hid (Below w.heap.size w ((w.alloc (.cells #[.int .i64 X.time, .int .i64 X.fresh, .slice ak X.known.length ck, .slice ac X.cache.length cc, .slice ah X.hosts.length ch, .slice al X.letters.length cl, .string X.book, .int .i64 X.sure, .slice aa X.calls.length ca, .slice az X.talks.length cz, .slice ai X.told.length ci] 40)).alloc (.cells #[.int .i64 n] 3))) := hide (btG (abG _) (abG _))
  have hd : ((w.alloc (.cells #[.int .i64 X.time, .int .i64 X.fresh, .slice ak X.known.length ck, .slice ac X.cache.length cc, .slice ah X.hosts.length ch, .slice al X.letters.length cl, .string X.book, .int .i64 X.sure, .slice aa X.calls.length ca, .slice az X.talks.length cz, .slice ai X.told.length ci] 40)).alloc (.cells #[.int .i64 n] 3)).cell? ⟨w.heap.size + 1, 0, none⟩ = some (.int .i64 n) := by
    have := box_cell (w.alloc (.cells #[.int .i64 X.time, .int .i64 X.fresh, .slice ak X.known.length ck, .slice ac X.cache.length cc, .slice ah X.hosts.length ch, .slice al X.letters.length cl, .string X.book, .int .i64 X.sure, .slice aa X.calls.length ca, .slice az X.talks.length cz, .slice ai X.told.length ci] 40)) #[.int .i64 n] 3 0 _ rfl
    rwa [heap_size_alloc] at this
  have HC := hide (anyT X.talks az cz n (w.heap.size + 1) _ (hy5.on (unhide HB)) (by unfold ww at hz; omega) hd)
  show Calls Tryz.prog 69 #[.agg #[.int .i64 X.time, .int .i64 X.fresh, .slice ak X.known.length ck, .slice ac X.cache.length cc, .slice ah X.hosts.length ch, .slice al X.letters.length cl, .string X.book, .int .i64 X.sure, .slice aa X.calls.length ca, .slice az X.talks.length cz, .slice ai X.told.length ci], .int .i64 n] w _
  clear hy5 hz hd
  generalize tgotB X.talks n = R at *
  go_enter Tryz.func69, Tryz.ntmps69
  go_wp2_with fail
  refine (unhide HC).mono ?_
  rintro e w2 ⟨rfl, hb2⟩
  have HB2 := hide (btG (unhide HB) hb2)
  clear hb2
  go_wp2_with fail
  go_ret
  exact ⟨rfl, unhide HB2⟩

set_option maxRecDepth 100000 in
set_option maxHeartbeats 4000000 in
theorem ruleTI (X : Wd) (ws : List Value) (gx : Nat) (x : Th) (u : Value) (w : World) (h : thAt w 0 x [u]) (hX : wdAt w 0 X ws) (hB : Box w gx 40 ws) (hz : ww X ≤ 1048576) :
    Calls Tryz.prog 68 #[u, .pointer (some ⟨gx, 0, none⟩)] w fun e w' => e = .returned (.bool (ruleT X x)) ∧ Below w.heap.size w w' := by
  have HZ := hide (Box.new w 56 [.int .i64 0, .int .i64 0, .string ⟨#[]⟩, .bool false, .int .i64 0, .int .i64 0, .int .i64 0, .int .i64 0, .string ⟨#[]⟩, .slice none 0 0, .int .i64 0, .int .i64 0, .bool false, .bool false, .bool false])
  have hX0 := hX
  obtain ⟨-, ak, ck, ac, cc, ah, ch, al, cl, aa, ca, az, cz, ai, ci, rfl, -⟩ := hX
  have HB := hide hB
  clear hB
  cases x with
  | c x =>
    obtain ⟨cs, hu, hx⟩ := h
    cases hu
    have hl := hide (caK.len (w := w) (L := 0) (x := x) hx)
    have hone := hide (caK.one (w := w) (L := 0) (x := x) hx)
    have HK := hide (fun v (hv : Below w.heap.size w v) => tookI X [.int .i64 X.time, .int .i64 X.fresh, .slice ak X.known.length ck, .slice ac X.cache.length cc, .slice ah X.hosts.length ch, .slice al X.letters.length cl, .string X.book, .int .i64 X.sure, .slice aa X.calls.length ca, .slice az X.talks.length cz, .slice ai X.told.length ci] x.c.bo v (wdK.on (w := w) (L := 0) (x := X) hX0 hv) hz)
    have HE0 : Hid (ruleT X (.c x) = !(x.g && (decide (x.c.st = 9) && !tgotB X.talks x.c.bo))) := hide rfl
    generalize ruleT X (.c x) = r2 at *
    generalize tgotB X.talks x.c.bo = R at *
    obtain ⟨kk, ⟨st, hh, mu, ep, bo, tt, ii, oo, tl, pr⟩, g⟩ := x
    obtain ⟨cw, hcs, -, op, n, s, a, len, cap, rfl, -⟩ := hx
    have HCS := hide hcs
    have A1 := asCaCa (.agg cs.toArray)
    clear hcs hX0 hz
    replace HE0 : Hid (r2 = !(g && (decide (st = 9) && !R))) := HE0
    replace HK : Hid (∀ v, Below w.heap.size w v → Calls Tryz.prog 69 #[.agg #[.int .i64 X.time, .int .i64 X.fresh, .slice ak X.known.length ck, .slice ac X.cache.length cc, .slice ah X.hosts.length ch, .slice al X.letters.length cl, .string X.book, .int .i64 X.sure, .slice aa X.calls.length ca, .slice az X.talks.length cz, .slice ai X.told.length ci], .int .i64 bo] v fun e w' => e = .returned (.bool R) ∧ Below v.heap.size v w') := HK
    cases g with
    | false =>
      have HE : Hid (r2 = true) := by show r2 = true; rw [unhide HE0]; rfl
      go_enter Tryz.func68, Tryz.ntmps68
      go_wp2_with (first
        | (refine wpList_store_box rfl _ _ rfl w.heap.size 0 cs (unhide HZ) (by rw [unhide hl]; exact Nat.le_refl _) rfl rfl (by rw [unhide hl]; exact infoCaC) (unhide hone) ?_
           intro V hV
           have HV : Hid (Box V w.heap.size 56 cs) := (by
             rw [hV]
             have hp : puts [.int .i64 0, .int .i64 0, .string ⟨#[]⟩, .bool false, .int .i64 0, .int .i64 0, .int .i64 0, .int .i64 0, .string ⟨#[]⟩, .slice none 0 0, .int .i64 0, .int .i64 0, .bool false, .bool false, .bool false] 0 cs = cs := puts_all (by rw [unhide hl]; rfl)
             have := Box.sets cs 0 _ _ (unhide HZ)
             rw [hp] at this
             exact this)
           have HBV : Hid (Below w.heap.size w V) := (by rw [hV]; exact setsG (abG _) (Nat.le_refl _))
           have hcs := unhide HCS
           have d1 : V.cell? ⟨w.heap.size, 1, none⟩ = some (.int .i64 st) := (unhide HV).cell (by rw [hcs]; rfl)
           have d5 : V.cell? ⟨w.heap.size, 5, none⟩ = some (.int .i64 bo) := (unhide HV).cell (by rw [hcs]; rfl)
           have d14 : V.cell? ⟨w.heap.size, 14, none⟩ = some (.bool false) := (unhide HV).cell (by rw [hcs]; rfl)
           have e0 : V.cell? ⟨gx, 0, none⟩ = some (.int .i64 X.time) := ((unhide HB).on (unhide HBV)).cell rfl
           have e1 : V.cell? ⟨gx, 1, none⟩ = some (.int .i64 X.fresh) := ((unhide HB).on (unhide HBV)).cell rfl
           have e2 : V.cell? ⟨gx, 2, none⟩ = some (.slice ak X.known.length ck) := ((unhide HB).on (unhide HBV)).cell rfl
           have e3 : V.cell? ⟨gx, 3, none⟩ = some (.slice ac X.cache.length cc) := ((unhide HB).on (unhide HBV)).cell rfl
           have e4 : V.cell? ⟨gx, 4, none⟩ = some (.slice ah X.hosts.length ch) := ((unhide HB).on (unhide HBV)).cell rfl
           have e5 : V.cell? ⟨gx, 5, none⟩ = some (.slice al X.letters.length cl) := ((unhide HB).on (unhide HBV)).cell rfl
           have e6 : V.cell? ⟨gx, 6, none⟩ = some (.string X.book) := ((unhide HB).on (unhide HBV)).cell rfl
           have e7 : V.cell? ⟨gx, 7, none⟩ = some (.int .i64 X.sure) := ((unhide HB).on (unhide HBV)).cell rfl
           have e8 : V.cell? ⟨gx, 8, none⟩ = some (.slice aa X.calls.length ca) := ((unhide HB).on (unhide HBV)).cell rfl
           have e9 : V.cell? ⟨gx, 9, none⟩ = some (.slice az X.talks.length cz) := ((unhide HB).on (unhide HBV)).cell rfl
           have e10 : V.cell? ⟨gx, 10, none⟩ = some (.slice ai X.told.length ci) := ((unhide HB).on (unhide HBV)).cell rfl
           clear hV HZ HV hcs))
      go_ret
      exact ⟨retB (unhide HE), unhide HBV⟩
    | true =>
      by_cases h9 : st = 9
      · subst h9
        have HE : Hid (r2 = R) := by show r2 = R; rw [unhide HE0]; simp
        go_enter Tryz.func68, Tryz.ntmps68
        go_wp2_with (first
          | (refine wpList_store_box rfl _ _ rfl w.heap.size 0 cs (unhide HZ) (by rw [unhide hl]; exact Nat.le_refl _) rfl rfl (by rw [unhide hl]; exact infoCaC) (unhide hone) ?_
             intro V hV
             have HV : Hid (Box V w.heap.size 56 cs) := (by
               rw [hV]
               have hp : puts [.int .i64 0, .int .i64 0, .string ⟨#[]⟩, .bool false, .int .i64 0, .int .i64 0, .int .i64 0, .int .i64 0, .string ⟨#[]⟩, .slice none 0 0, .int .i64 0, .int .i64 0, .bool false, .bool false, .bool false] 0 cs = cs := puts_all (by rw [unhide hl]; rfl)
               have := Box.sets cs 0 _ _ (unhide HZ)
               rw [hp] at this
               exact this)
             have HBV : Hid (Below w.heap.size w V) := (by rw [hV]; exact setsG (abG _) (Nat.le_refl _))
             have hcs := unhide HCS
             have d1 : V.cell? ⟨w.heap.size, 1, none⟩ = some (.int .i64 9) := (unhide HV).cell (by rw [hcs]; rfl)
             have d5 : V.cell? ⟨w.heap.size, 5, none⟩ = some (.int .i64 bo) := (unhide HV).cell (by rw [hcs]; rfl)
             have d14 : V.cell? ⟨w.heap.size, 14, none⟩ = some (.bool true) := (unhide HV).cell (by rw [hcs]; rfl)
             have e0 : V.cell? ⟨gx, 0, none⟩ = some (.int .i64 X.time) := ((unhide HB).on (unhide HBV)).cell rfl
             have e1 : V.cell? ⟨gx, 1, none⟩ = some (.int .i64 X.fresh) := ((unhide HB).on (unhide HBV)).cell rfl
             have e2 : V.cell? ⟨gx, 2, none⟩ = some (.slice ak X.known.length ck) := ((unhide HB).on (unhide HBV)).cell rfl
             have e3 : V.cell? ⟨gx, 3, none⟩ = some (.slice ac X.cache.length cc) := ((unhide HB).on (unhide HBV)).cell rfl
             have e4 : V.cell? ⟨gx, 4, none⟩ = some (.slice ah X.hosts.length ch) := ((unhide HB).on (unhide HBV)).cell rfl
             have e5 : V.cell? ⟨gx, 5, none⟩ = some (.slice al X.letters.length cl) := ((unhide HB).on (unhide HBV)).cell rfl
             have e6 : V.cell? ⟨gx, 6, none⟩ = some (.string X.book) := ((unhide HB).on (unhide HBV)).cell rfl
             have e7 : V.cell? ⟨gx, 7, none⟩ = some (.int .i64 X.sure) := ((unhide HB).on (unhide HBV)).cell rfl
             have e8 : V.cell? ⟨gx, 8, none⟩ = some (.slice aa X.calls.length ca) := ((unhide HB).on (unhide HBV)).cell rfl
             have e9 : V.cell? ⟨gx, 9, none⟩ = some (.slice az X.talks.length cz) := ((unhide HB).on (unhide HBV)).cell rfl
             have e10 : V.cell? ⟨gx, 10, none⟩ = some (.slice ai X.told.length ci) := ((unhide HB).on (unhide HBV)).cell rfl
             clear hV HZ HV hcs))
        refine (unhide HK _ (unhide HBV)).mono ?_
        rintro e w2 ⟨rfl, hb2⟩
        have HB2 := hide (btG (unhide HBV) hb2)
        clear hb2
        go_wp2_with fail
        go_ret
        exact ⟨retB (unhide HE), unhide HB2⟩
      · have HE : Hid (r2 = true) := by show r2 = true; rw [unhide HE0, decide_eq_false h9]; rfl
        have h9' : (st == 9) = false := by simpa using h9
        have h9'' : (st != 9) = true := by simpa using h9
        go_enter Tryz.func68, Tryz.ntmps68
        go_wp2_with (first
          | (refine wpList_store_box rfl _ _ rfl w.heap.size 0 cs (unhide HZ) (by rw [unhide hl]; exact Nat.le_refl _) rfl rfl (by rw [unhide hl]; exact infoCaC) (unhide hone) ?_
             intro V hV
             have HV : Hid (Box V w.heap.size 56 cs) := (by
               rw [hV]
               have hp : puts [.int .i64 0, .int .i64 0, .string ⟨#[]⟩, .bool false, .int .i64 0, .int .i64 0, .int .i64 0, .int .i64 0, .string ⟨#[]⟩, .slice none 0 0, .int .i64 0, .int .i64 0, .bool false, .bool false, .bool false] 0 cs = cs := puts_all (by rw [unhide hl]; rfl)
               have := Box.sets cs 0 _ _ (unhide HZ)
               rw [hp] at this
               exact this)
             have HBV : Hid (Below w.heap.size w V) := (by rw [hV]; exact setsG (abG _) (Nat.le_refl _))
             have hcs := unhide HCS
             have d1 : V.cell? ⟨w.heap.size, 1, none⟩ = some (.int .i64 st) := (unhide HV).cell (by rw [hcs]; rfl)
             have d5 : V.cell? ⟨w.heap.size, 5, none⟩ = some (.int .i64 bo) := (unhide HV).cell (by rw [hcs]; rfl)
             have d14 : V.cell? ⟨w.heap.size, 14, none⟩ = some (.bool true) := (unhide HV).cell (by rw [hcs]; rfl)
             have e0 : V.cell? ⟨gx, 0, none⟩ = some (.int .i64 X.time) := ((unhide HB).on (unhide HBV)).cell rfl
             have e1 : V.cell? ⟨gx, 1, none⟩ = some (.int .i64 X.fresh) := ((unhide HB).on (unhide HBV)).cell rfl
             have e2 : V.cell? ⟨gx, 2, none⟩ = some (.slice ak X.known.length ck) := ((unhide HB).on (unhide HBV)).cell rfl
             have e3 : V.cell? ⟨gx, 3, none⟩ = some (.slice ac X.cache.length cc) := ((unhide HB).on (unhide HBV)).cell rfl
             have e4 : V.cell? ⟨gx, 4, none⟩ = some (.slice ah X.hosts.length ch) := ((unhide HB).on (unhide HBV)).cell rfl
             have e5 : V.cell? ⟨gx, 5, none⟩ = some (.slice al X.letters.length cl) := ((unhide HB).on (unhide HBV)).cell rfl
             have e6 : V.cell? ⟨gx, 6, none⟩ = some (.string X.book) := ((unhide HB).on (unhide HBV)).cell rfl
             have e7 : V.cell? ⟨gx, 7, none⟩ = some (.int .i64 X.sure) := ((unhide HB).on (unhide HBV)).cell rfl
             have e8 : V.cell? ⟨gx, 8, none⟩ = some (.slice aa X.calls.length ca) := ((unhide HB).on (unhide HBV)).cell rfl
             have e9 : V.cell? ⟨gx, 9, none⟩ = some (.slice az X.talks.length cz) := ((unhide HB).on (unhide HBV)).cell rfl
             have e10 : V.cell? ⟨gx, 10, none⟩ = some (.slice ai X.told.length ci) := ((unhide HB).on (unhide HBV)).cell rfl
             clear hV HZ HV hcs))
        go_ret
        exact ⟨retB (unhide HE), unhide HBV⟩
  | l x =>
    obtain ⟨cs, hu, hx⟩ := h
    cases hu
    clear hx hX0
    have A1 := asLeCa (.agg cs.toArray)
    go_enter Tryz.func68, Tryz.ntmps68
    go_wp2_with fail
    go_ret
    exact ⟨rfl, by repeat (first | exact abG _ | refine setG ?_ (Nat.le_refl _))⟩
  | j b P =>
    obtain ⟨_, a, cap, hu, hx⟩ := h
    cases hu
    clear hx hX0
    have A1 := asJoCa (.agg #[.string b, .slice a P.length cap])
    go_enter Tryz.func68, Tryz.ntmps68
    go_wp2_with fail
    go_ret
    exact ⟨rfl, by repeat (first | exact abG _ | refine setG ?_ (Nat.le_refl _))⟩

set_option maxRecDepth 100000 in
set_option maxHeartbeats 4000000 in
theorem inI (l : List Int) (a : Option Addr) (cap : Nat) (x : Int) (w : World) (h : Ints w 0 a l) (hz : l.length ≤ 1048576) :
    Calls Tryz.prog 67 #[.slice a l.length cap, .int .i64 x] w fun e w' => e = .returned (.bool (l.contains x)) ∧ Below w.heap.size w w' := by
  have HT := hide h
  clear h
  obtain ⟨R, hR⟩ : ∃ R, R = l.contains x := ⟨_, rfl⟩
  rw [← hR]
  have HE0 := hide hR
  clear hR
  generalize hlen : l.length = len at *
  have HL := hide hlen
  clear hlen
  go_enter Tryz.func67, Tryz.ntmps67
  go_wp2_with fail
  go_loopw [5] (fun i wr => ∃ k : Nat, i = .int .i64 k ∧ Below w.heap.size w wr ∧ k ≤ len ∧ ∀ j y, j < k → l[j]? = some y → ¬ y = x) (fun i _ => len - (intOf i).toNat)
  case atStart => exact ⟨0, rfl, Below.refl _ _, by omega, fun j x hj => by omega⟩
  case round =>
    obtain ⟨k, rfl, hb, hk, ha⟩ := hrel
    have HBr := hide hb
    have HA := hide ha
    clear ha
    by_cases hp : k < len
    · have hp' : k < l.length := by have := HL.out; omega
      obtain ⟨y, hky⟩ : ∃ y, l[k]? = some y := ⟨_, List.getElem?_eq_getElem hp'⟩
      obtain ⟨b, o, rfl, -, hc⟩ := (unhide HT) k y hky
      have c0 := below_some hb hc
      have q2 : (k : Int) < (len : Int) := by omega
      have q3 : (0 : Int) ≤ (k : Int) := by omega
      have w1 : wrap64 ((k : Int) + 1) = ((k + 1 : Nat) : Int) := by unfold wrap64; omega
      have HK := hide hky
      clear hky hc hb
      by_cases hx : y = x
      · have HE : Hid (R = true) := by show R = true; rw [unhide HE0]; exact List.contains_iff_mem.2 (hx ▸ List.mem_of_getElem? (unhide HK))
        subst hx
        clear HK
        go_wp2_with fail
        go_ret
        exact ⟨retB (unhide HE), unhide HBr⟩
      · have HM : Hid (∀ j z, j < k + 1 → l[j]? = some z → ¬ z = x) := fun j z hj hz => by
          rcases Nat.lt_or_ge j k with q | q
          · exact unhide HA j z q hz
          · obtain rfl : j = k := by omega
            rw [unhide HK] at hz
            cases hz
            exact hx
        have hx' : (y == x) = false := by simpa using hx
        go_wp2_with fail
        go_roundw
        case rel => exact ⟨k + 1, rfl, unhide HBr, by omega, unhide HM⟩
        case measure => simp only [intOf]; omega
    · have c2 : ¬ (k : Int) < (len : Int) := by omega
      have HE : Hid (R = false) := by
        show R = false
        rw [unhide HE0]
        refine Bool.eq_false_iff.2 fun hc => ?_
        obtain ⟨j, hj⟩ := List.getElem?_of_mem (List.contains_iff_mem.1 hc)
        exact unhide HA j x (by have := (List.getElem?_eq_some_iff.1 hj).1; have := HL.out; omega) hj rfl
      clear hb
      go_wp2_with fail
      go_ret
      exact ⟨retB (unhide HE), unhide HBr⟩

set_option maxRecDepth 100000 in
set_option maxHeartbeats 4000000 in
theorem gotS (X : Wd) (cs : List Value) (n : Int) (w : World) (h : wdAt w 0 X cs) (hz : ww X ≤ 1048576) :
    Calls Tryz.prog 37 #[.agg cs.toArray, .int .i64 n] w fun e w' => e = .returned (.bool (tgotB X.talks n)) ∧ Below w.heap.size w w' := by
  obtain ⟨-, ak, ck, ac, cc, ah, ch, al, cl, aa, ca, az, cz, ai, ci, rfl, -, -, -, -, -, hy5, -⟩ := h
  have hln : X.talks.length ≤ 1048576 := by unfold ww at hz; omega
  have HZZ : Hid (∀ y ∈ X.talks, y.s.l.length ≤ 1048576) := fun y hy => by
    have h1 : y.s.l.length ≤ taw y := by unfold taw svw; omega
    have h2 := ws_mem taw hy
    unfold ww at hz
    omega
  have HT := hide hy5
  have HX := hide (Box.new w 40 [.int .i64 X.time, .int .i64 X.fresh, .slice ak X.known.length ck, .slice ac X.cache.length cc, .slice ah X.hosts.length ch, .slice al X.letters.length cl, .string X.book, .int .i64 X.sure, .slice aa X.calls.length ca, .slice az X.talks.length cz, .slice ai X.told.length ci])
  show Calls Tryz.prog 37 #[.agg #[.int .i64 X.time, .int .i64 X.fresh, .slice ak X.known.length ck, .slice ac X.cache.length cc, .slice ah X.hosts.length ch, .slice al X.letters.length cl, .string X.book, .int .i64 X.sure, .slice aa X.calls.length ca, .slice az X.talks.length cz, .slice ai X.told.length ci], .int .i64 n] w _
  clear hy5 hz
  obtain ⟨R, hR⟩ : ∃ R, R = tgotB X.talks n := ⟨_, rfl⟩
  rw [← hR]
  have HE0 := hide hR
  clear hR
  have HB0 := hide (abG (w := w) (.cells #[.int .i64 X.time, .int .i64 X.fresh, .slice ak X.known.length ck, .slice ac X.cache.length cc, .slice ah X.hosts.length ch, .slice al X.letters.length cl, .string X.book, .int .i64 X.sure, .slice aa X.calls.length ca, .slice az X.talks.length cz, .slice ai X.told.length ci] 40))
  go_enter Tryz.func37, Tryz.ntmps37
  go_wp2_with fail
  go_loopw [5] (fun i wr => ∃ k : Nat, i = .int .i64 k ∧ Below (w.alloc (.cells #[.int .i64 X.time, .int .i64 X.fresh, .slice ak X.known.length ck, .slice ac X.cache.length cc, .slice ah X.hosts.length ch, .slice al X.letters.length cl, .string X.book, .int .i64 X.sure, .slice aa X.calls.length ca, .slice az X.talks.length cz, .slice ai X.told.length ci] 40)).heap.size (w.alloc (.cells #[.int .i64 X.time, .int .i64 X.fresh, .slice ak X.known.length ck, .slice ac X.cache.length cc, .slice ah X.hosts.length ch, .slice al X.letters.length cl, .string X.book, .int .i64 X.sure, .slice aa X.calls.length ca, .slice az X.talks.length cz, .slice ai X.told.length ci] 40)) wr ∧ k ≤ X.talks.length ∧ ∀ j x, j < k → X.talks[j]? = some x → x.s.l.contains n = false) (fun i _ => X.talks.length - (intOf i).toNat)
  case atStart => exact ⟨0, rfl, Below.refl _ _, by omega, fun j x hj => by omega⟩
  case round =>
    obtain ⟨k, rfl, hb, hk, ha⟩ := hrel
    have HBr := hide (btG (unhide HB0) hb)
    have HBq := hide hb
    have HA := hide ha
    have c9 : wr.cell? ⟨w.heap.size, 9, none⟩ = some (.slice az X.talks.length cz) := ((unhide HX).on hb).cell rfl
    clear ha
    by_cases hp : k < X.talks.length
    · obtain ⟨x, hkx⟩ : ∃ x, X.talks[k]? = some x := ⟨_, List.getElem?_eq_getElem hp⟩
      obtain ⟨b, o, cs, rfl, -, -, HR0, HT2, -⟩ := ((unhide HT).on (unhide HBr)).get hkx
      obtain ⟨cc2, rfl, -, hm, op, nn, s, a, len, cap, oq, m, r, c, lem, cat, g, gc, rfl, -, -, hi⟩ := HT2
      have c0 : wr.cell? ⟨b, o + k * 17 + 16, none⟩ = some (.slice g x.s.l.length gc) := HR0 16 _ rfl
      have HC := hide (fun v (hv : Below wr.heap.size wr v) => inI x.s.l g gc n v (hi.on hv) (unhide HZZ x (List.mem_of_getElem? hkx)))
      have q2 : (k : Int) < (X.talks.length : Int) := by omega
      have q3 : (0 : Int) ≤ (k : Int) := by omega
      have w1 : wrap64 ((k : Int) + 1) = ((k + 1 : Nat) : Int) := by unfold wrap64; omega
      have HK := hide hkx
      clear hkx HR0 hb hi hm
      cases hx : x.s.l.contains n with
      | true =>
        have HE : Hid (R = true) := by show R = true; rw [unhide HE0]; exact List.any_eq_true.2 ⟨x, List.mem_of_getElem? (unhide HK), hx⟩
        rw [hx] at HC
        clear hx
        go_wp2_with fail
        refine (unhide HC _ (Below.refl _ _)).mono ?_
        rintro e w2 ⟨rfl, hb2⟩
        have HB2 := hide (btG (unhide HBr) hb2)
        clear hb2
        go_wp2_with fail
        go_ret
        exact ⟨retB (unhide HE), unhide HB2⟩
      | false =>
        have HM : Hid (∀ j y, j < k + 1 → X.talks[j]? = some y → y.s.l.contains n = false) := fun j y hj hy => by
          rcases Nat.lt_or_ge j k with q | q
          · exact unhide HA j y q hy
          · obtain rfl : j = k := by omega
            rw [unhide HK] at hy
            cases hy
            exact hx
        rw [hx] at HC
        clear hx
        go_wp2_with fail
        refine (unhide HC _ (Below.refl _ _)).mono ?_
        rintro e w2 ⟨rfl, hb2⟩
        have HB2 := hide (btG (unhide HBq) hb2)
        clear hb2
        go_wp2_with fail
        go_roundw
        case rel => exact ⟨k + 1, rfl, unhide HB2, by omega, unhide HM⟩
        case measure => simp only [intOf]; omega
    · have cN : ¬ (k : Int) < (X.talks.length : Int) := by omega
      have HE : Hid (R = false) := by
        show R = false
        rw [unhide HE0]
        exact List.any_eq_false.2 fun x hx => by
          obtain ⟨j, hj⟩ := List.getElem?_of_mem hx
          have := unhide HA j x (by have := (List.getElem?_eq_some_iff.1 hj).1; omega) hj
          exact Bool.eq_false_iff.1 this
      clear hb
      go_wp2_with fail
      go_ret
      exact ⟨retB (unhide HE), unhide HBr⟩

set_option maxRecDepth 100000 in
set_option maxHeartbeats 8000000 in
theorem takenS (X : Wd) (cs : List Value) (w : World) (h : wdAt w 0 X cs) (hz : ww X ≤ 1048576) :
    Calls Tryz.prog 10 #[.agg cs.toArray] w fun e w' => e = .returned (.bool (takenB X)) ∧ Below w.heap.size w w' := by
  have h0 := h
  obtain ⟨-, ak, ck, ac, cc, ah, ch, al, cl, aa, ca, az, cz, ai, ci, rfl, -, -, -, -, hy4, -, -⟩ := h
  have HS := hide (fun v hv => worldS X [.int .i64 X.time, .int .i64 X.fresh, .slice ak X.known.length ck, .slice ac X.cache.length cc, .slice ah X.hosts.length ch, .slice al X.letters.length cl, .string X.book, .int .i64 X.sure, .slice aa X.calls.length ca, .slice az X.talks.length cz, .slice ai X.told.length ci] v (wdK.on (w := w) (L := 0) (x := X) h0 hv) hz)
  have HG0 := hide (fun v n hv => gotS X [.int .i64 X.time, .int .i64 X.fresh, .slice ak X.known.length ck, .slice ac X.cache.length cc, .slice ah X.hosts.length ch, .slice al X.letters.length cl, .string X.book, .int .i64 X.sure, .slice aa X.calls.length ca, .slice az X.talks.length cz, .slice ai X.told.length ci] n v (wdK.on (w := w) (L := 0) (x := X) h0 hv) hz)
  have hcl : X.calls.length ≤ 1048576 := by unfold ww at hz; omega
  show Calls Tryz.prog 10 #[.agg #[.int .i64 X.time, .int .i64 X.fresh, .slice ak X.known.length ck, .slice ac X.cache.length cc, .slice ah X.hosts.length ch, .slice al X.letters.length cl, .string X.book, .int .i64 X.sure, .slice aa X.calls.length ca, .slice az X.talks.length cz, .slice ai X.told.length ci]] w _
  have HX := hide (Box.new w 40 [.int .i64 X.time, .int .i64 X.fresh, .slice ak X.known.length ck, .slice ac X.cache.length cc, .slice ah X.hosts.length ch, .slice al X.letters.length cl, .string X.book, .int .i64 X.sure, .slice aa X.calls.length ca, .slice az X.talks.length cz, .slice ai X.told.length ci])
  have HY := hide hy4
  have HW : Hid (takenB X = (worldB X && X.calls.all (takenC X))) := hide rfl
  clear h0 hz hy4
  generalize takenB X = R at *
  generalize worldB X = wb at *
  go_enter Tryz.func10, Tryz.ntmps10
  go_wp2_with fail
  refine (unhide HS _ (abG _)).mono ?_
  rintro e w1 ⟨rfl, hb1⟩
  have HB1 := hide (btG (abG _) hb1)
  have HX1 := hide ((unhide HX).on hb1)
  clear hb1 HX HS
  cases wb with
  | false =>
    have HE : Hid (R = false) := by show R = false; rw [unhide HW]; rfl
    go_wp2_with fail
    go_ret
    exact ⟨retB (unhide HE), unhide HB1⟩
  | true =>
    have HW2 : Hid (R = X.calls.all (takenC X)) := by show R = _; rw [unhide HW]; rfl
    clear HW
    go_wp2_with fail
    go_loopw [3] (fun i wr => ∃ k : Nat, i = .int .i64 k ∧ Below w1.heap.size w1 wr ∧ k ≤ X.calls.length ∧ ∀ j x, j < k → X.calls[j]? = some x → takenC X x = true) (fun i _ => X.calls.length - (intOf i).toNat)
    case atStart => exact ⟨0, rfl, Below.refl _ _, by omega, fun j x hj => by omega⟩
    case round =>
      obtain ⟨k, rfl, hb, hk, ha⟩ := hrel
      have HBq := hide hb
      have HA := hide ha
      clear ha
      have c8 : wr.cell? ⟨w.heap.size, 8, none⟩ = some (.slice aa X.calls.length ca) := ((unhide HX1).on hb).cell rfl
      by_cases hp : k < X.calls.length
      · obtain ⟨x, hkx⟩ : ∃ x, X.calls[k]? = some x := ⟨_, List.getElem?_eq_getElem hp⟩
        obtain ⟨b, o, cs, rfl, -, -, HR0, HT2, -⟩ := ((unhide HY).on (btG (unhide HB1) hb)).get hkx
        have HK := hide hkx
        have HM : Hid (takenC X x = true → ∀ j y, j < k + 1 → X.calls[j]? = some y → takenC X y = true) := fun hx j y hj hy => by
          rcases Nat.lt_or_ge j k with q | q
          · exact unhide HA j y q hy
          · obtain rfl : j = k := by omega
            rw [unhide HK] at hy
            cases hy
            exact hx
        have HN : Hid (takenC X x = false → X.calls.all (takenC X) = false) := fun hx => List.all_eq_false.2 ⟨x, List.mem_of_getElem? (unhide HK), by simp [hx]⟩
        obtain ⟨kk, ⟨st, hh, mu, ep, bo, tt, ii, oo, tl, pr⟩, g⟩ := x
        obtain ⟨cw, rfl, -, op, n, s, a, len, cap, rfl, -⟩ := HT2
        have d1 : wr.cell? ⟨b, o + k * 15 + 1, none⟩ = some (.int .i64 st) := HR0 1 _ rfl
        have d5 : wr.cell? ⟨b, o + k * 15 + 5, none⟩ = some (.int .i64 bo) := HR0 5 _ rfl
        have d14 : wr.cell? ⟨b, o + k * 15 + 14, none⟩ = some (.bool g) := HR0 14 _ rfl
        have c0 : wr.cell? ⟨w.heap.size, 0, none⟩ = some (.int .i64 X.time) := ((unhide HX1).on hb).cell rfl
        have c1 : wr.cell? ⟨w.heap.size, 1, none⟩ = some (.int .i64 X.fresh) := ((unhide HX1).on hb).cell rfl
        have c2 : wr.cell? ⟨w.heap.size, 2, none⟩ = some (.slice ak X.known.length ck) := ((unhide HX1).on hb).cell rfl
        have c3 : wr.cell? ⟨w.heap.size, 3, none⟩ = some (.slice ac X.cache.length cc) := ((unhide HX1).on hb).cell rfl
        have c4 : wr.cell? ⟨w.heap.size, 4, none⟩ = some (.slice ah X.hosts.length ch) := ((unhide HX1).on hb).cell rfl
        have c5 : wr.cell? ⟨w.heap.size, 5, none⟩ = some (.slice al X.letters.length cl) := ((unhide HX1).on hb).cell rfl
        have c6 : wr.cell? ⟨w.heap.size, 6, none⟩ = some (.string X.book) := ((unhide HX1).on hb).cell rfl
        have c7 : wr.cell? ⟨w.heap.size, 7, none⟩ = some (.int .i64 X.sure) := ((unhide HX1).on hb).cell rfl
        have c9 : wr.cell? ⟨w.heap.size, 9, none⟩ = some (.slice az X.talks.length cz) := ((unhide HX1).on hb).cell rfl
        have c10 : wr.cell? ⟨w.heap.size, 10, none⟩ = some (.slice ai X.told.length ci) := ((unhide HX1).on hb).cell rfl
        have q2 : (k : Int) < (X.calls.length : Int) := by omega
        have q3 : (0 : Int) ≤ (k : Int) := by omega
        have w1 : wrap64 ((k : Int) + 1) = ((k + 1 : Nat) : Int) := by unfold wrap64; omega
        have HGT := hide (fun v (hv : Below wr.heap.size wr v) => unhide HG0 v bo (btG (btG (unhide HB1) hb) hv))
        clear hkx HR0 hb HG0 HX1
        cases g with
        | false =>
          go_wp2_with fail
          refine wp_region_held (S := fun y => y.cell? ⟨w.heap.size, 0, none⟩ = some (.int .i64 X.time) ∧ y.cell? ⟨w.heap.size, 1, none⟩ = some (.int .i64 X.fresh) ∧ y.cell? ⟨w.heap.size, 2, none⟩ = some (.slice ak X.known.length ck) ∧ y.cell? ⟨w.heap.size, 3, none⟩ = some (.slice ac X.cache.length cc) ∧ y.cell? ⟨w.heap.size, 4, none⟩ = some (.slice ah X.hosts.length ch) ∧ y.cell? ⟨w.heap.size, 5, none⟩ = some (.slice al X.letters.length cl) ∧ y.cell? ⟨w.heap.size, 6, none⟩ = some (.string X.book) ∧ y.cell? ⟨w.heap.size, 7, none⟩ = some (.int .i64 X.sure) ∧ y.cell? ⟨w.heap.size, 8, none⟩ = some (.slice (some ⟨b, o, none⟩) X.calls.length ca) ∧ y.cell? ⟨w.heap.size, 9, none⟩ = some (.slice az X.talks.length cz) ∧ y.cell? ⟨w.heap.size, 10, none⟩ = some (.slice ai X.told.length ci) ∧ y.cell? ⟨b, o + k * 15 + 14, none⟩ = some (.bool false) ∧ y.cell? ⟨b, o + k * 15 + 1, none⟩ = some (.int .i64 st) ∧ y.cell? ⟨b, o + k * 15 + 5, none⟩ = some (.int .i64 bo)) (by kernel_rfl) ?_
          have hS : (fun y : World => y.cell? ⟨w.heap.size, 0, none⟩ = some (.int .i64 X.time) ∧ y.cell? ⟨w.heap.size, 1, none⟩ = some (.int .i64 X.fresh) ∧ y.cell? ⟨w.heap.size, 2, none⟩ = some (.slice ak X.known.length ck) ∧ y.cell? ⟨w.heap.size, 3, none⟩ = some (.slice ac X.cache.length cc) ∧ y.cell? ⟨w.heap.size, 4, none⟩ = some (.slice ah X.hosts.length ch) ∧ y.cell? ⟨w.heap.size, 5, none⟩ = some (.slice al X.letters.length cl) ∧ y.cell? ⟨w.heap.size, 6, none⟩ = some (.string X.book) ∧ y.cell? ⟨w.heap.size, 7, none⟩ = some (.int .i64 X.sure) ∧ y.cell? ⟨w.heap.size, 8, none⟩ = some (.slice (some ⟨b, o, none⟩) X.calls.length ca) ∧ y.cell? ⟨w.heap.size, 9, none⟩ = some (.slice az X.talks.length cz) ∧ y.cell? ⟨w.heap.size, 10, none⟩ = some (.slice ai X.told.length ci) ∧ y.cell? ⟨b, o + k * 15 + 14, none⟩ = some (.bool false) ∧ y.cell? ⟨b, o + k * 15 + 1, none⟩ = some (.int .i64 st) ∧ y.cell? ⟨b, o + k * 15 + 5, none⟩ = some (.int .i64 bo)) wr.drew := ⟨c0, c1, c2, c3, c4, c5, c6, c7, c8, c9, c10, d14, d1, d5⟩
          show wpAnyH _ _ _ _ _ _ _ _ wr.drew
          refine wpAnyH_take (i := 0) (oi := { dst := some 14, op := Go.Op.fieldAddr 40 (Go.Operand.tmp 1) 8, type := 0, pos := "l15_judge.go:55", after := #[], guard := none }) (v := ?_) rfl (by kernel_rfl) (by kernel_rfl) (by kernel_rfl) (fun _ _ _ h => h) (Or.inl ⟨by rfl, ?_⟩) hS ?_
          rotate_left
          · intro y hSy; obtain ⟨y0, y1, y2, y3, y4, y5, y6, y7, y8, y9, y10, y11, y12, y13⟩ := hSy; go_simp; try with_reducible rfl
          simp only [Act.put, List.setIfInBounds_toArray, List.set_cons_succ, List.set_cons_zero]
          refine wpAnyH_take (i := 1) (oi := { dst := some 15, op := Go.Op.load 37 (Go.Operand.tmp 14), type := 37, pos := "l15_judge.go:55", after := #[{ on := 0, ground := Go.Ground.data }], guard := none }) (v := ?_) rfl (by kernel_rfl) (by kernel_rfl) (by kernel_rfl) (fun _ _ _ h => h) (Or.inl ⟨by rfl, ?_⟩) hS ?_
          rotate_left
          · intro y hSy; obtain ⟨y0, y1, y2, y3, y4, y5, y6, y7, y8, y9, y10, y11, y12, y13⟩ := hSy; go_simp; try with_reducible rfl
          simp only [Act.put, List.setIfInBounds_toArray, List.set_cons_succ, List.set_cons_zero]
          refine wpAnyH_take (i := 2) (oi := { dst := some 16, op := Go.Op.move (Go.Operand.tmp 3), type := 3, pos := "l15_judge.go:55", after := #[], guard := none }) (v := ?_) rfl (by kernel_rfl) (by kernel_rfl) (by kernel_rfl) (fun _ _ _ h => h) (Or.inl ⟨by rfl, ?_⟩) hS ?_
          rotate_left
          · intro y hSy; obtain ⟨y0, y1, y2, y3, y4, y5, y6, y7, y8, y9, y10, y11, y12, y13⟩ := hSy; go_simp; try with_reducible rfl
          simp only [Act.put, List.setIfInBounds_toArray, List.set_cons_succ, List.set_cons_zero]
          refine wpAnyH_take (i := 3) (oi := { dst := some 17, op := Go.Op.indexAddr 37 (Go.Operand.tmp 15) (Go.Operand.tmp 16), type := 0, pos := "l15_judge.go:55", after := #[{ on := 1, ground := Go.Ground.data }, { on := 2, ground := Go.Ground.data }], guard := none }) (v := ?_) rfl (by kernel_rfl) (by kernel_rfl) (by kernel_rfl) (fun _ _ _ h => h) (Or.inl ⟨by rfl, ?_⟩) hS ?_
          rotate_left
          · intro y hSy; obtain ⟨y0, y1, y2, y3, y4, y5, y6, y7, y8, y9, y10, y11, y12, y13⟩ := hSy; go_simp; try with_reducible rfl
          simp only [Act.put, List.setIfInBounds_toArray, List.set_cons_succ, List.set_cons_zero]
          refine wpAnyH_take (i := 4) (oi := { dst := some 18, op := Go.Op.fieldAddr 56 (Go.Operand.tmp 17) 2, type := 0, pos := "l15_judge.go:55", after := #[{ on := 3, ground := Go.Ground.data }], guard := none }) (v := ?_) rfl (by kernel_rfl) (by kernel_rfl) (by kernel_rfl) (fun _ _ _ h => h) (Or.inl ⟨by rfl, ?_⟩) hS ?_
          rotate_left
          · intro y hSy; obtain ⟨y0, y1, y2, y3, y4, y5, y6, y7, y8, y9, y10, y11, y12, y13⟩ := hSy; go_simp; try with_reducible rfl
          simp only [Act.put, List.setIfInBounds_toArray, List.set_cons_succ, List.set_cons_zero]
          refine wpAnyH_take (i := 5) (oi := { dst := some 19, op := Go.Op.load 4 (Go.Operand.tmp 18), type := 4, pos := "l15_judge.go:55", after := #[{ on := 4, ground := Go.Ground.data }], guard := none }) (v := ?_) rfl (by kernel_rfl) (by kernel_rfl) (by kernel_rfl) (fun _ _ _ h => h) (Or.inl ⟨by rfl, ?_⟩) hS ?_
          rotate_left
          · intro y hSy; obtain ⟨y0, y1, y2, y3, y4, y5, y6, y7, y8, y9, y10, y11, y12, y13⟩ := hSy; go_simp; try with_reducible rfl
          simp only [Act.put, List.setIfInBounds_toArray, List.set_cons_succ, List.set_cons_zero]
          refine wpAnyH_take (i := 6) (oi := { dst := some 20, op := Go.Op.move (Go.Operand.tmp 19), type := 4, pos := "l15_judge.go:55", after := #[{ on := 5, ground := Go.Ground.data }], guard := none }) (v := ?_) rfl (by kernel_rfl) (by kernel_rfl) (by kernel_rfl) (fun _ _ _ h => h) (Or.inl ⟨by rfl, ?_⟩) hS ?_
          rotate_left
          · intro y hSy; obtain ⟨y0, y1, y2, y3, y4, y5, y6, y7, y8, y9, y10, y11, y12, y13⟩ := hSy; go_simp; try with_reducible rfl
          simp only [Act.put, List.setIfInBounds_toArray, List.set_cons_succ, List.set_cons_zero]
          refine wpAnyH_take (i := 7) (oi := { dst := some 21, op := Go.Op.fieldAddr 40 (Go.Operand.tmp 1) 8, type := 0, pos := "l15_judge.go:55", after := #[{ on := 6, ground := Go.Ground.guard }], guard := some (6, true) }) (v := undef) rfl (by kernel_rfl) (by kernel_rfl) (by kernel_rfl) (fun _ _ _ h => h) (Or.inr ⟨by rfl, rfl⟩) hS ?_
          simp only [Act.put, List.setIfInBounds_toArray, List.set_cons_succ, List.set_cons_zero]
          refine wpAnyH_take (i := 8) (oi := { dst := some 22, op := Go.Op.load 37 (Go.Operand.tmp 21), type := 37, pos := "l15_judge.go:55", after := #[{ on := 7, ground := Go.Ground.data }, { on := 6, ground := Go.Ground.guard }], guard := some (6, true) }) (v := undef) rfl (by kernel_rfl) (by kernel_rfl) (by kernel_rfl) (fun _ _ _ h => h) (Or.inr ⟨by rfl, rfl⟩) hS ?_
          simp only [Act.put, List.setIfInBounds_toArray, List.set_cons_succ, List.set_cons_zero]
          refine wpAnyH_take (i := 9) (oi := { dst := some 23, op := Go.Op.move (Go.Operand.tmp 3), type := 3, pos := "l15_judge.go:55", after := #[{ on := 6, ground := Go.Ground.guard }], guard := some (6, true) }) (v := undef) rfl (by kernel_rfl) (by kernel_rfl) (by kernel_rfl) (fun _ _ _ h => h) (Or.inr ⟨by rfl, rfl⟩) hS ?_
          simp only [Act.put, List.setIfInBounds_toArray, List.set_cons_succ, List.set_cons_zero]
          refine wpAnyH_take (i := 10) (oi := { dst := some 24, op := Go.Op.indexAddr 37 (Go.Operand.tmp 22) (Go.Operand.tmp 23), type := 0, pos := "l15_judge.go:55", after := #[{ on := 8, ground := Go.Ground.data }, { on := 9, ground := Go.Ground.data }, { on := 6, ground := Go.Ground.guard }], guard := some (6, true) }) (v := undef) rfl (by kernel_rfl) (by kernel_rfl) (by kernel_rfl) (fun _ _ _ h => h) (Or.inr ⟨by rfl, rfl⟩) hS ?_
          simp only [Act.put, List.setIfInBounds_toArray, List.set_cons_succ, List.set_cons_zero]
          refine wpAnyH_take (i := 11) (oi := { dst := some 25, op := Go.Op.fieldAddr 56 (Go.Operand.tmp 24) 1, type := 0, pos := "l15_judge.go:55", after := #[{ on := 10, ground := Go.Ground.data }, { on := 6, ground := Go.Ground.guard }], guard := some (6, true) }) (v := undef) rfl (by kernel_rfl) (by kernel_rfl) (by kernel_rfl) (fun _ _ _ h => h) (Or.inr ⟨by rfl, rfl⟩) hS ?_
          simp only [Act.put, List.setIfInBounds_toArray, List.set_cons_succ, List.set_cons_zero]
          refine wpAnyH_take (i := 12) (oi := { dst := some 26, op := Go.Op.fieldAddr 54 (Go.Operand.tmp 25) 0, type := 0, pos := "l15_judge.go:55", after := #[{ on := 11, ground := Go.Ground.data }, { on := 6, ground := Go.Ground.guard }], guard := some (6, true) }) (v := undef) rfl (by kernel_rfl) (by kernel_rfl) (by kernel_rfl) (fun _ _ _ h => h) (Or.inr ⟨by rfl, rfl⟩) hS ?_
          simp only [Act.put, List.setIfInBounds_toArray, List.set_cons_succ, List.set_cons_zero]
          refine wpAnyH_take (i := 13) (oi := { dst := some 27, op := Go.Op.load 3 (Go.Operand.tmp 26), type := 3, pos := "l15_judge.go:55", after := #[{ on := 12, ground := Go.Ground.data }, { on := 6, ground := Go.Ground.guard }], guard := some (6, true) }) (v := undef) rfl (by kernel_rfl) (by kernel_rfl) (by kernel_rfl) (fun _ _ _ h => h) (Or.inr ⟨by rfl, rfl⟩) hS ?_
          simp only [Act.put, List.setIfInBounds_toArray, List.set_cons_succ, List.set_cons_zero]
          refine wpAnyH_take (i := 14) (oi := { dst := some 28, op := Go.Op.binOp Go.BinOp.eql 3 (Go.Operand.tmp 27) (Go.Operand.const (Go.Value.int Go.IntKind.i64 9)) 3, type := 4, pos := "l15_judge.go:55", after := #[{ on := 13, ground := Go.Ground.data }, { on := 6, ground := Go.Ground.guard }], guard := some (6, true) }) (v := undef) rfl (by kernel_rfl) (by kernel_rfl) (by kernel_rfl) (fun _ _ _ h => h) (Or.inr ⟨by rfl, rfl⟩) hS ?_
          simp only [Act.put, List.setIfInBounds_toArray, List.set_cons_succ, List.set_cons_zero]
          refine wpAnyH_take (i := 15) (oi := { dst := some 29, op := Go.Op.pick (Go.Operand.tmp 20) (Go.Operand.tmp 28) (Go.Operand.const (Go.Value.bool false)), type := 4, pos := "l15_judge.go:55", after := #[{ on := 6, ground := Go.Ground.data }, { on := 14, ground := Go.Ground.data }], guard := none }) (v := ?_) rfl (by kernel_rfl) (by kernel_rfl) (by kernel_rfl) (fun _ _ _ h => h) (Or.inl ⟨by rfl, ?_⟩) hS ?_
          rotate_left
          · intro y hSy; obtain ⟨y0, y1, y2, y3, y4, y5, y6, y7, y8, y9, y10, y11, y12, y13⟩ := hSy; go_simp; try with_reducible rfl
          simp only [Act.put, List.setIfInBounds_toArray, List.set_cons_succ, List.set_cons_zero]
          refine wpAnyH_take (i := 16) (oi := { dst := some 30, op := Go.Op.move (Go.Operand.tmp 29), type := 4, pos := "l15_judge.go:55", after := #[{ on := 15, ground := Go.Ground.data }, { on := 6, ground := Go.Ground.chain }], guard := none }) (v := ?_) rfl (by kernel_rfl) (by kernel_rfl) (by kernel_rfl) (fun _ _ _ h => h) (Or.inl ⟨by rfl, ?_⟩) hS ?_
          rotate_left
          · intro y hSy; obtain ⟨y0, y1, y2, y3, y4, y5, y6, y7, y8, y9, y10, y11, y12, y13⟩ := hSy; go_simp; try with_reducible rfl
          simp only [Act.put, List.setIfInBounds_toArray, List.set_cons_succ, List.set_cons_zero]
          refine wpAnyH_take (i := 17) (oi := { dst := some 31, op := Go.Op.load 40 (Go.Operand.tmp 1), type := 40, pos := "l15_judge.go:55", after := #[{ on := 16, ground := Go.Ground.guard }], guard := some (16, true) }) (v := undef) rfl (by kernel_rfl) (by kernel_rfl) (by kernel_rfl) (fun _ _ _ h => h) (Or.inr ⟨by rfl, rfl⟩) hS ?_
          simp only [Act.put, List.setIfInBounds_toArray, List.set_cons_succ, List.set_cons_zero]
          refine wpAnyH_take (i := 18) (oi := { dst := some 32, op := Go.Op.fieldAddr 40 (Go.Operand.tmp 1) 8, type := 0, pos := "l15_judge.go:55", after := #[{ on := 16, ground := Go.Ground.guard }], guard := some (16, true) }) (v := undef) rfl (by kernel_rfl) (by kernel_rfl) (by kernel_rfl) (fun _ _ _ h => h) (Or.inr ⟨by rfl, rfl⟩) hS ?_
          simp only [Act.put, List.setIfInBounds_toArray, List.set_cons_succ, List.set_cons_zero]
          refine wpAnyH_take (i := 19) (oi := { dst := some 33, op := Go.Op.load 37 (Go.Operand.tmp 32), type := 37, pos := "l15_judge.go:55", after := #[{ on := 18, ground := Go.Ground.data }, { on := 16, ground := Go.Ground.guard }], guard := some (16, true) }) (v := undef) rfl (by kernel_rfl) (by kernel_rfl) (by kernel_rfl) (fun _ _ _ h => h) (Or.inr ⟨by rfl, rfl⟩) hS ?_
          simp only [Act.put, List.setIfInBounds_toArray, List.set_cons_succ, List.set_cons_zero]
          refine wpAnyH_take (i := 20) (oi := { dst := some 34, op := Go.Op.move (Go.Operand.tmp 3), type := 3, pos := "l15_judge.go:55", after := #[{ on := 16, ground := Go.Ground.guard }], guard := some (16, true) }) (v := undef) rfl (by kernel_rfl) (by kernel_rfl) (by kernel_rfl) (fun _ _ _ h => h) (Or.inr ⟨by rfl, rfl⟩) hS ?_
          simp only [Act.put, List.setIfInBounds_toArray, List.set_cons_succ, List.set_cons_zero]
          refine wpAnyH_take (i := 21) (oi := { dst := some 35, op := Go.Op.indexAddr 37 (Go.Operand.tmp 33) (Go.Operand.tmp 34), type := 0, pos := "l15_judge.go:55", after := #[{ on := 19, ground := Go.Ground.data }, { on := 20, ground := Go.Ground.data }, { on := 16, ground := Go.Ground.guard }], guard := some (16, true) }) (v := undef) rfl (by kernel_rfl) (by kernel_rfl) (by kernel_rfl) (fun _ _ _ h => h) (Or.inr ⟨by rfl, rfl⟩) hS ?_
          simp only [Act.put, List.setIfInBounds_toArray, List.set_cons_succ, List.set_cons_zero]
          refine wpAnyH_take (i := 22) (oi := { dst := some 36, op := Go.Op.fieldAddr 56 (Go.Operand.tmp 35) 1, type := 0, pos := "l15_judge.go:55", after := #[{ on := 21, ground := Go.Ground.data }, { on := 16, ground := Go.Ground.guard }], guard := some (16, true) }) (v := undef) rfl (by kernel_rfl) (by kernel_rfl) (by kernel_rfl) (fun _ _ _ h => h) (Or.inr ⟨by rfl, rfl⟩) hS ?_
          simp only [Act.put, List.setIfInBounds_toArray, List.set_cons_succ, List.set_cons_zero]
          refine wpAnyH_take (i := 23) (oi := { dst := some 37, op := Go.Op.fieldAddr 54 (Go.Operand.tmp 36) 4, type := 0, pos := "l15_judge.go:55", after := #[{ on := 22, ground := Go.Ground.data }, { on := 16, ground := Go.Ground.guard }], guard := some (16, true) }) (v := undef) rfl (by kernel_rfl) (by kernel_rfl) (by kernel_rfl) (fun _ _ _ h => h) (Or.inr ⟨by rfl, rfl⟩) hS ?_
          simp only [Act.put, List.setIfInBounds_toArray, List.set_cons_succ, List.set_cons_zero]
          refine wpAnyH_take (i := 24) (oi := { dst := some 38, op := Go.Op.load 3 (Go.Operand.tmp 37), type := 3, pos := "l15_judge.go:55", after := #[{ on := 23, ground := Go.Ground.data }, { on := 16, ground := Go.Ground.guard }], guard := some (16, true) }) (v := undef) rfl (by kernel_rfl) (by kernel_rfl) (by kernel_rfl) (fun _ _ _ h => h) (Or.inr ⟨by rfl, rfl⟩) hS ?_
          simp only [Act.put, List.setIfInBounds_toArray, List.set_cons_succ, List.set_cons_zero]
          refine wpAnyH_take (i := 25) (oi := { dst := some 39, op := Go.Op.call { callee := Go.Callee.value (Go.Operand.func 37), args := #[Go.Operand.tmp 31, Go.Operand.tmp 38], argTypes := #[40, 3] }, type := 4, pos := "l15_judge.go:55", after := #[{ on := 17, ground := Go.Ground.data }, { on := 24, ground := Go.Ground.data }, { on := 16, ground := Go.Ground.chain }, { on := 16, ground := Go.Ground.guard }], guard := some (16, true) }) (v := undef) rfl (by kernel_rfl) (by kernel_rfl) (by kernel_rfl) (fun _ _ _ h => h) (Or.inr ⟨by rfl, rfl⟩) hS ?_
          simp only [Act.put, List.setIfInBounds_toArray, List.set_cons_succ, List.set_cons_zero]
          refine wpAnyH_take (i := 26) (oi := { dst := some 40, op := Go.Op.unOp Go.UnOp.not 4 (Go.Operand.tmp 39), type := 4, pos := "l15_judge.go:55", after := #[{ on := 25, ground := Go.Ground.data }, { on := 16, ground := Go.Ground.guard }], guard := some (16, true) }) (v := undef) rfl (by kernel_rfl) (by kernel_rfl) (by kernel_rfl) (fun _ _ _ h => h) (Or.inr ⟨by rfl, rfl⟩) hS ?_
          simp only [Act.put, List.setIfInBounds_toArray, List.set_cons_succ, List.set_cons_zero]
          refine wpAnyH_take (i := 27) (oi := { dst := some 41, op := Go.Op.pick (Go.Operand.tmp 30) (Go.Operand.tmp 40) (Go.Operand.const (Go.Value.bool false)), type := 4, pos := "l15_judge.go:55", after := #[{ on := 16, ground := Go.Ground.data }, { on := 26, ground := Go.Ground.data }], guard := none }) (v := ?_) rfl (by kernel_rfl) (by kernel_rfl) (by kernel_rfl) (fun _ _ _ h => h) (Or.inl ⟨by rfl, ?_⟩) hS ?_
          rotate_left
          · intro y hSy; obtain ⟨y0, y1, y2, y3, y4, y5, y6, y7, y8, y9, y10, y11, y12, y13⟩ := hSy; go_simp; try with_reducible rfl
          simp only [Act.put, List.setIfInBounds_toArray, List.set_cons_succ, List.set_cons_zero]
          refine wpAnyH_done (by kernel_rfl) ?_ _
          go_wp2_with fail
          go_roundw
          case rel => exact ⟨k + 1, rfl, (unhide HBq).drew, by omega, unhide HM (by simp [takenC])⟩
          case measure => simp only [intOf]; omega
        | true =>
          by_cases h9 : st = 9
          · subst h9
            cases hgb : tgotB X.talks bo with
            | false =>
              rw [hgb] at HGT
              have HGB := hide hgb
              clear hgb
              go_wp2_with fail
              refine wp_region_held (S := fun y => y.cell? ⟨w.heap.size, 0, none⟩ = some (.int .i64 X.time) ∧ y.cell? ⟨w.heap.size, 1, none⟩ = some (.int .i64 X.fresh) ∧ y.cell? ⟨w.heap.size, 2, none⟩ = some (.slice ak X.known.length ck) ∧ y.cell? ⟨w.heap.size, 3, none⟩ = some (.slice ac X.cache.length cc) ∧ y.cell? ⟨w.heap.size, 4, none⟩ = some (.slice ah X.hosts.length ch) ∧ y.cell? ⟨w.heap.size, 5, none⟩ = some (.slice al X.letters.length cl) ∧ y.cell? ⟨w.heap.size, 6, none⟩ = some (.string X.book) ∧ y.cell? ⟨w.heap.size, 7, none⟩ = some (.int .i64 X.sure) ∧ y.cell? ⟨w.heap.size, 8, none⟩ = some (.slice (some ⟨b, o, none⟩) X.calls.length ca) ∧ y.cell? ⟨w.heap.size, 9, none⟩ = some (.slice az X.talks.length cz) ∧ y.cell? ⟨w.heap.size, 10, none⟩ = some (.slice ai X.told.length ci) ∧ y.cell? ⟨b, o + k * 15 + 14, none⟩ = some (.bool true) ∧ y.cell? ⟨b, o + k * 15 + 1, none⟩ = some (.int .i64 9) ∧ y.cell? ⟨b, o + k * 15 + 5, none⟩ = some (.int .i64 bo)) (by kernel_rfl) ?_
              have hS : (fun y : World => y.cell? ⟨w.heap.size, 0, none⟩ = some (.int .i64 X.time) ∧ y.cell? ⟨w.heap.size, 1, none⟩ = some (.int .i64 X.fresh) ∧ y.cell? ⟨w.heap.size, 2, none⟩ = some (.slice ak X.known.length ck) ∧ y.cell? ⟨w.heap.size, 3, none⟩ = some (.slice ac X.cache.length cc) ∧ y.cell? ⟨w.heap.size, 4, none⟩ = some (.slice ah X.hosts.length ch) ∧ y.cell? ⟨w.heap.size, 5, none⟩ = some (.slice al X.letters.length cl) ∧ y.cell? ⟨w.heap.size, 6, none⟩ = some (.string X.book) ∧ y.cell? ⟨w.heap.size, 7, none⟩ = some (.int .i64 X.sure) ∧ y.cell? ⟨w.heap.size, 8, none⟩ = some (.slice (some ⟨b, o, none⟩) X.calls.length ca) ∧ y.cell? ⟨w.heap.size, 9, none⟩ = some (.slice az X.talks.length cz) ∧ y.cell? ⟨w.heap.size, 10, none⟩ = some (.slice ai X.told.length ci) ∧ y.cell? ⟨b, o + k * 15 + 14, none⟩ = some (.bool true) ∧ y.cell? ⟨b, o + k * 15 + 1, none⟩ = some (.int .i64 9) ∧ y.cell? ⟨b, o + k * 15 + 5, none⟩ = some (.int .i64 bo)) wr.drew := ⟨c0, c1, c2, c3, c4, c5, c6, c7, c8, c9, c10, d14, d1, d5⟩
              show wpAnyH _ _ _ _ _ _ _ _ wr.drew
              refine wpAnyH_take (i := 0) (oi := { dst := some 14, op := Go.Op.fieldAddr 40 (Go.Operand.tmp 1) 8, type := 0, pos := "l15_judge.go:55", after := #[], guard := none }) (v := ?_) rfl (by kernel_rfl) (by kernel_rfl) (by kernel_rfl) (fun _ _ _ h => h) (Or.inl ⟨by rfl, ?_⟩) hS ?_
              rotate_left
              · intro y hSy; obtain ⟨y0, y1, y2, y3, y4, y5, y6, y7, y8, y9, y10, y11, y12, y13⟩ := hSy; go_simp; try with_reducible rfl
              simp only [Act.put, List.setIfInBounds_toArray, List.set_cons_succ, List.set_cons_zero]
              refine wpAnyH_take (i := 1) (oi := { dst := some 15, op := Go.Op.load 37 (Go.Operand.tmp 14), type := 37, pos := "l15_judge.go:55", after := #[{ on := 0, ground := Go.Ground.data }], guard := none }) (v := ?_) rfl (by kernel_rfl) (by kernel_rfl) (by kernel_rfl) (fun _ _ _ h => h) (Or.inl ⟨by rfl, ?_⟩) hS ?_
              rotate_left
              · intro y hSy; obtain ⟨y0, y1, y2, y3, y4, y5, y6, y7, y8, y9, y10, y11, y12, y13⟩ := hSy; go_simp; try with_reducible rfl
              simp only [Act.put, List.setIfInBounds_toArray, List.set_cons_succ, List.set_cons_zero]
              refine wpAnyH_take (i := 2) (oi := { dst := some 16, op := Go.Op.move (Go.Operand.tmp 3), type := 3, pos := "l15_judge.go:55", after := #[], guard := none }) (v := ?_) rfl (by kernel_rfl) (by kernel_rfl) (by kernel_rfl) (fun _ _ _ h => h) (Or.inl ⟨by rfl, ?_⟩) hS ?_
              rotate_left
              · intro y hSy; obtain ⟨y0, y1, y2, y3, y4, y5, y6, y7, y8, y9, y10, y11, y12, y13⟩ := hSy; go_simp; try with_reducible rfl
              simp only [Act.put, List.setIfInBounds_toArray, List.set_cons_succ, List.set_cons_zero]
              refine wpAnyH_take (i := 3) (oi := { dst := some 17, op := Go.Op.indexAddr 37 (Go.Operand.tmp 15) (Go.Operand.tmp 16), type := 0, pos := "l15_judge.go:55", after := #[{ on := 1, ground := Go.Ground.data }, { on := 2, ground := Go.Ground.data }], guard := none }) (v := ?_) rfl (by kernel_rfl) (by kernel_rfl) (by kernel_rfl) (fun _ _ _ h => h) (Or.inl ⟨by rfl, ?_⟩) hS ?_
              rotate_left
              · intro y hSy; obtain ⟨y0, y1, y2, y3, y4, y5, y6, y7, y8, y9, y10, y11, y12, y13⟩ := hSy; go_simp; try with_reducible rfl
              simp only [Act.put, List.setIfInBounds_toArray, List.set_cons_succ, List.set_cons_zero]
              refine wpAnyH_take (i := 4) (oi := { dst := some 18, op := Go.Op.fieldAddr 56 (Go.Operand.tmp 17) 2, type := 0, pos := "l15_judge.go:55", after := #[{ on := 3, ground := Go.Ground.data }], guard := none }) (v := ?_) rfl (by kernel_rfl) (by kernel_rfl) (by kernel_rfl) (fun _ _ _ h => h) (Or.inl ⟨by rfl, ?_⟩) hS ?_
              rotate_left
              · intro y hSy; obtain ⟨y0, y1, y2, y3, y4, y5, y6, y7, y8, y9, y10, y11, y12, y13⟩ := hSy; go_simp; try with_reducible rfl
              simp only [Act.put, List.setIfInBounds_toArray, List.set_cons_succ, List.set_cons_zero]
              refine wpAnyH_take (i := 5) (oi := { dst := some 19, op := Go.Op.load 4 (Go.Operand.tmp 18), type := 4, pos := "l15_judge.go:55", after := #[{ on := 4, ground := Go.Ground.data }], guard := none }) (v := ?_) rfl (by kernel_rfl) (by kernel_rfl) (by kernel_rfl) (fun _ _ _ h => h) (Or.inl ⟨by rfl, ?_⟩) hS ?_
              rotate_left
              · intro y hSy; obtain ⟨y0, y1, y2, y3, y4, y5, y6, y7, y8, y9, y10, y11, y12, y13⟩ := hSy; go_simp; try with_reducible rfl
              simp only [Act.put, List.setIfInBounds_toArray, List.set_cons_succ, List.set_cons_zero]
              refine wpAnyH_take (i := 6) (oi := { dst := some 20, op := Go.Op.move (Go.Operand.tmp 19), type := 4, pos := "l15_judge.go:55", after := #[{ on := 5, ground := Go.Ground.data }], guard := none }) (v := ?_) rfl (by kernel_rfl) (by kernel_rfl) (by kernel_rfl) (fun _ _ _ h => h) (Or.inl ⟨by rfl, ?_⟩) hS ?_
              rotate_left
              · intro y hSy; obtain ⟨y0, y1, y2, y3, y4, y5, y6, y7, y8, y9, y10, y11, y12, y13⟩ := hSy; go_simp; try with_reducible rfl
              simp only [Act.put, List.setIfInBounds_toArray, List.set_cons_succ, List.set_cons_zero]
              refine wpAnyH_take (i := 7) (oi := { dst := some 21, op := Go.Op.fieldAddr 40 (Go.Operand.tmp 1) 8, type := 0, pos := "l15_judge.go:55", after := #[{ on := 6, ground := Go.Ground.guard }], guard := some (6, true) }) (v := ?_) rfl (by kernel_rfl) (by kernel_rfl) (by kernel_rfl) (fun _ _ _ h => h) (Or.inl ⟨by rfl, ?_⟩) hS ?_
              rotate_left
              · intro y hSy; obtain ⟨y0, y1, y2, y3, y4, y5, y6, y7, y8, y9, y10, y11, y12, y13⟩ := hSy; go_simp; try with_reducible rfl
              simp only [Act.put, List.setIfInBounds_toArray, List.set_cons_succ, List.set_cons_zero]
              refine wpAnyH_take (i := 8) (oi := { dst := some 22, op := Go.Op.load 37 (Go.Operand.tmp 21), type := 37, pos := "l15_judge.go:55", after := #[{ on := 7, ground := Go.Ground.data }, { on := 6, ground := Go.Ground.guard }], guard := some (6, true) }) (v := ?_) rfl (by kernel_rfl) (by kernel_rfl) (by kernel_rfl) (fun _ _ _ h => h) (Or.inl ⟨by rfl, ?_⟩) hS ?_
              rotate_left
              · intro y hSy; obtain ⟨y0, y1, y2, y3, y4, y5, y6, y7, y8, y9, y10, y11, y12, y13⟩ := hSy; go_simp; try with_reducible rfl
              simp only [Act.put, List.setIfInBounds_toArray, List.set_cons_succ, List.set_cons_zero]
              refine wpAnyH_take (i := 9) (oi := { dst := some 23, op := Go.Op.move (Go.Operand.tmp 3), type := 3, pos := "l15_judge.go:55", after := #[{ on := 6, ground := Go.Ground.guard }], guard := some (6, true) }) (v := ?_) rfl (by kernel_rfl) (by kernel_rfl) (by kernel_rfl) (fun _ _ _ h => h) (Or.inl ⟨by rfl, ?_⟩) hS ?_
              rotate_left
              · intro y hSy; obtain ⟨y0, y1, y2, y3, y4, y5, y6, y7, y8, y9, y10, y11, y12, y13⟩ := hSy; go_simp; try with_reducible rfl
              simp only [Act.put, List.setIfInBounds_toArray, List.set_cons_succ, List.set_cons_zero]
              refine wpAnyH_take (i := 10) (oi := { dst := some 24, op := Go.Op.indexAddr 37 (Go.Operand.tmp 22) (Go.Operand.tmp 23), type := 0, pos := "l15_judge.go:55", after := #[{ on := 8, ground := Go.Ground.data }, { on := 9, ground := Go.Ground.data }, { on := 6, ground := Go.Ground.guard }], guard := some (6, true) }) (v := ?_) rfl (by kernel_rfl) (by kernel_rfl) (by kernel_rfl) (fun _ _ _ h => h) (Or.inl ⟨by rfl, ?_⟩) hS ?_
              rotate_left
              · intro y hSy; obtain ⟨y0, y1, y2, y3, y4, y5, y6, y7, y8, y9, y10, y11, y12, y13⟩ := hSy; go_simp; try with_reducible rfl
              simp only [Act.put, List.setIfInBounds_toArray, List.set_cons_succ, List.set_cons_zero]
              refine wpAnyH_take (i := 11) (oi := { dst := some 25, op := Go.Op.fieldAddr 56 (Go.Operand.tmp 24) 1, type := 0, pos := "l15_judge.go:55", after := #[{ on := 10, ground := Go.Ground.data }, { on := 6, ground := Go.Ground.guard }], guard := some (6, true) }) (v := ?_) rfl (by kernel_rfl) (by kernel_rfl) (by kernel_rfl) (fun _ _ _ h => h) (Or.inl ⟨by rfl, ?_⟩) hS ?_
              rotate_left
              · intro y hSy; obtain ⟨y0, y1, y2, y3, y4, y5, y6, y7, y8, y9, y10, y11, y12, y13⟩ := hSy; go_simp; try with_reducible rfl
              simp only [Act.put, List.setIfInBounds_toArray, List.set_cons_succ, List.set_cons_zero]
              refine wpAnyH_take (i := 12) (oi := { dst := some 26, op := Go.Op.fieldAddr 54 (Go.Operand.tmp 25) 0, type := 0, pos := "l15_judge.go:55", after := #[{ on := 11, ground := Go.Ground.data }, { on := 6, ground := Go.Ground.guard }], guard := some (6, true) }) (v := ?_) rfl (by kernel_rfl) (by kernel_rfl) (by kernel_rfl) (fun _ _ _ h => h) (Or.inl ⟨by rfl, ?_⟩) hS ?_
              rotate_left
              · intro y hSy; obtain ⟨y0, y1, y2, y3, y4, y5, y6, y7, y8, y9, y10, y11, y12, y13⟩ := hSy; go_simp; try with_reducible rfl
              simp only [Act.put, List.setIfInBounds_toArray, List.set_cons_succ, List.set_cons_zero]
              refine wpAnyH_take (i := 13) (oi := { dst := some 27, op := Go.Op.load 3 (Go.Operand.tmp 26), type := 3, pos := "l15_judge.go:55", after := #[{ on := 12, ground := Go.Ground.data }, { on := 6, ground := Go.Ground.guard }], guard := some (6, true) }) (v := ?_) rfl (by kernel_rfl) (by kernel_rfl) (by kernel_rfl) (fun _ _ _ h => h) (Or.inl ⟨by rfl, ?_⟩) hS ?_
              rotate_left
              · intro y hSy; obtain ⟨y0, y1, y2, y3, y4, y5, y6, y7, y8, y9, y10, y11, y12, y13⟩ := hSy; go_simp; try with_reducible rfl
              simp only [Act.put, List.setIfInBounds_toArray, List.set_cons_succ, List.set_cons_zero]
              refine wpAnyH_take (i := 14) (oi := { dst := some 28, op := Go.Op.binOp Go.BinOp.eql 3 (Go.Operand.tmp 27) (Go.Operand.const (Go.Value.int Go.IntKind.i64 9)) 3, type := 4, pos := "l15_judge.go:55", after := #[{ on := 13, ground := Go.Ground.data }, { on := 6, ground := Go.Ground.guard }], guard := some (6, true) }) (v := ?_) rfl (by kernel_rfl) (by kernel_rfl) (by kernel_rfl) (fun _ _ _ h => h) (Or.inl ⟨by rfl, ?_⟩) hS ?_
              rotate_left
              · intro y hSy; obtain ⟨y0, y1, y2, y3, y4, y5, y6, y7, y8, y9, y10, y11, y12, y13⟩ := hSy; go_simp; try with_reducible rfl
              simp only [Act.put, List.setIfInBounds_toArray, List.set_cons_succ, List.set_cons_zero]
              refine wpAnyH_take (i := 15) (oi := { dst := some 29, op := Go.Op.pick (Go.Operand.tmp 20) (Go.Operand.tmp 28) (Go.Operand.const (Go.Value.bool false)), type := 4, pos := "l15_judge.go:55", after := #[{ on := 6, ground := Go.Ground.data }, { on := 14, ground := Go.Ground.data }], guard := none }) (v := ?_) rfl (by kernel_rfl) (by kernel_rfl) (by kernel_rfl) (fun _ _ _ h => h) (Or.inl ⟨by rfl, ?_⟩) hS ?_
              rotate_left
              · intro y hSy; obtain ⟨y0, y1, y2, y3, y4, y5, y6, y7, y8, y9, y10, y11, y12, y13⟩ := hSy; go_simp; try with_reducible rfl
              simp only [Act.put, List.setIfInBounds_toArray, List.set_cons_succ, List.set_cons_zero]
              refine wpAnyH_take (i := 16) (oi := { dst := some 30, op := Go.Op.move (Go.Operand.tmp 29), type := 4, pos := "l15_judge.go:55", after := #[{ on := 15, ground := Go.Ground.data }, { on := 6, ground := Go.Ground.chain }], guard := none }) (v := ?_) rfl (by kernel_rfl) (by kernel_rfl) (by kernel_rfl) (fun _ _ _ h => h) (Or.inl ⟨by rfl, ?_⟩) hS ?_
              rotate_left
              · intro y hSy; obtain ⟨y0, y1, y2, y3, y4, y5, y6, y7, y8, y9, y10, y11, y12, y13⟩ := hSy; go_simp; try with_reducible rfl
              simp only [Act.put, List.setIfInBounds_toArray, List.set_cons_succ, List.set_cons_zero]
              refine wpAnyH_take (i := 17) (oi := { dst := some 31, op := Go.Op.load 40 (Go.Operand.tmp 1), type := 40, pos := "l15_judge.go:55", after := #[{ on := 16, ground := Go.Ground.guard }], guard := some (16, true) }) (v := ?_) rfl (by kernel_rfl) (by kernel_rfl) (by kernel_rfl) (fun _ _ _ h => h) (Or.inl ⟨by rfl, ?_⟩) hS ?_
              rotate_left
              · intro y hSy; obtain ⟨y0, y1, y2, y3, y4, y5, y6, y7, y8, y9, y10, y11, y12, y13⟩ := hSy; go_simp; try with_reducible rfl
              simp only [Act.put, List.setIfInBounds_toArray, List.set_cons_succ, List.set_cons_zero]
              refine wpAnyH_take (i := 18) (oi := { dst := some 32, op := Go.Op.fieldAddr 40 (Go.Operand.tmp 1) 8, type := 0, pos := "l15_judge.go:55", after := #[{ on := 16, ground := Go.Ground.guard }], guard := some (16, true) }) (v := ?_) rfl (by kernel_rfl) (by kernel_rfl) (by kernel_rfl) (fun _ _ _ h => h) (Or.inl ⟨by rfl, ?_⟩) hS ?_
              rotate_left
              · intro y hSy; obtain ⟨y0, y1, y2, y3, y4, y5, y6, y7, y8, y9, y10, y11, y12, y13⟩ := hSy; go_simp; try with_reducible rfl
              simp only [Act.put, List.setIfInBounds_toArray, List.set_cons_succ, List.set_cons_zero]
              refine wpAnyH_take (i := 19) (oi := { dst := some 33, op := Go.Op.load 37 (Go.Operand.tmp 32), type := 37, pos := "l15_judge.go:55", after := #[{ on := 18, ground := Go.Ground.data }, { on := 16, ground := Go.Ground.guard }], guard := some (16, true) }) (v := ?_) rfl (by kernel_rfl) (by kernel_rfl) (by kernel_rfl) (fun _ _ _ h => h) (Or.inl ⟨by rfl, ?_⟩) hS ?_
              rotate_left
              · intro y hSy; obtain ⟨y0, y1, y2, y3, y4, y5, y6, y7, y8, y9, y10, y11, y12, y13⟩ := hSy; go_simp; try with_reducible rfl
              simp only [Act.put, List.setIfInBounds_toArray, List.set_cons_succ, List.set_cons_zero]
              refine wpAnyH_take (i := 20) (oi := { dst := some 34, op := Go.Op.move (Go.Operand.tmp 3), type := 3, pos := "l15_judge.go:55", after := #[{ on := 16, ground := Go.Ground.guard }], guard := some (16, true) }) (v := ?_) rfl (by kernel_rfl) (by kernel_rfl) (by kernel_rfl) (fun _ _ _ h => h) (Or.inl ⟨by rfl, ?_⟩) hS ?_
              rotate_left
              · intro y hSy; obtain ⟨y0, y1, y2, y3, y4, y5, y6, y7, y8, y9, y10, y11, y12, y13⟩ := hSy; go_simp; try with_reducible rfl
              simp only [Act.put, List.setIfInBounds_toArray, List.set_cons_succ, List.set_cons_zero]
              refine wpAnyH_take (i := 21) (oi := { dst := some 35, op := Go.Op.indexAddr 37 (Go.Operand.tmp 33) (Go.Operand.tmp 34), type := 0, pos := "l15_judge.go:55", after := #[{ on := 19, ground := Go.Ground.data }, { on := 20, ground := Go.Ground.data }, { on := 16, ground := Go.Ground.guard }], guard := some (16, true) }) (v := ?_) rfl (by kernel_rfl) (by kernel_rfl) (by kernel_rfl) (fun _ _ _ h => h) (Or.inl ⟨by rfl, ?_⟩) hS ?_
              rotate_left
              · intro y hSy; obtain ⟨y0, y1, y2, y3, y4, y5, y6, y7, y8, y9, y10, y11, y12, y13⟩ := hSy; go_simp; try with_reducible rfl
              simp only [Act.put, List.setIfInBounds_toArray, List.set_cons_succ, List.set_cons_zero]
              refine wpAnyH_take (i := 22) (oi := { dst := some 36, op := Go.Op.fieldAddr 56 (Go.Operand.tmp 35) 1, type := 0, pos := "l15_judge.go:55", after := #[{ on := 21, ground := Go.Ground.data }, { on := 16, ground := Go.Ground.guard }], guard := some (16, true) }) (v := ?_) rfl (by kernel_rfl) (by kernel_rfl) (by kernel_rfl) (fun _ _ _ h => h) (Or.inl ⟨by rfl, ?_⟩) hS ?_
              rotate_left
              · intro y hSy; obtain ⟨y0, y1, y2, y3, y4, y5, y6, y7, y8, y9, y10, y11, y12, y13⟩ := hSy; go_simp; try with_reducible rfl
              simp only [Act.put, List.setIfInBounds_toArray, List.set_cons_succ, List.set_cons_zero]
              refine wpAnyH_take (i := 23) (oi := { dst := some 37, op := Go.Op.fieldAddr 54 (Go.Operand.tmp 36) 4, type := 0, pos := "l15_judge.go:55", after := #[{ on := 22, ground := Go.Ground.data }, { on := 16, ground := Go.Ground.guard }], guard := some (16, true) }) (v := ?_) rfl (by kernel_rfl) (by kernel_rfl) (by kernel_rfl) (fun _ _ _ h => h) (Or.inl ⟨by rfl, ?_⟩) hS ?_
              rotate_left
              · intro y hSy; obtain ⟨y0, y1, y2, y3, y4, y5, y6, y7, y8, y9, y10, y11, y12, y13⟩ := hSy; go_simp; try with_reducible rfl
              simp only [Act.put, List.setIfInBounds_toArray, List.set_cons_succ, List.set_cons_zero]
              refine wpAnyH_take (i := 24) (oi := { dst := some 38, op := Go.Op.load 3 (Go.Operand.tmp 37), type := 3, pos := "l15_judge.go:55", after := #[{ on := 23, ground := Go.Ground.data }, { on := 16, ground := Go.Ground.guard }], guard := some (16, true) }) (v := ?_) rfl (by kernel_rfl) (by kernel_rfl) (by kernel_rfl) (fun _ _ _ h => h) (Or.inl ⟨by rfl, ?_⟩) hS ?_
              rotate_left
              · intro y hSy; obtain ⟨y0, y1, y2, y3, y4, y5, y6, y7, y8, y9, y10, y11, y12, y13⟩ := hSy; go_simp; try with_reducible rfl
              simp only [Act.put, List.setIfInBounds_toArray, List.set_cons_succ, List.set_cons_zero]
              refine wpAnyH_all (rs := [25]) (by kernel_rfl) (by simp) ?_
              intro i hi
              simp only [List.mem_singleton] at hi
              subst hi
              refine step_callG (f := 37) (fn := Tryz.f37) (d := 39) (args := #[.agg #[.int .i64 X.time, .int .i64 X.fresh, .slice ak X.known.length ck, .slice ac X.cache.length cc, .slice ah X.hosts.length ch, .slice al X.letters.length cl, .string X.book, .int .i64 X.sure, .slice (some ⟨b, o, none⟩) X.calls.length ca, .slice az X.talks.length cz, .slice ai X.told.length ci], .int .i64 bo]) rfl (by rfl) Tryz.func37 (by kernel_rfl) (by kernel_rfl) (by simp [Act.eval]) ?_
              refine (unhide HGT _ ((Below.refl _ _).drew)).mono ?_
              rintro e w3 ⟨rfl, hb3⟩
              refine ⟨_, rfl, ?_⟩
              have hS3 : (fun y : World => y.cell? ⟨w.heap.size, 0, none⟩ = some (.int .i64 X.time) ∧ y.cell? ⟨w.heap.size, 1, none⟩ = some (.int .i64 X.fresh) ∧ y.cell? ⟨w.heap.size, 2, none⟩ = some (.slice ak X.known.length ck) ∧ y.cell? ⟨w.heap.size, 3, none⟩ = some (.slice ac X.cache.length cc) ∧ y.cell? ⟨w.heap.size, 4, none⟩ = some (.slice ah X.hosts.length ch) ∧ y.cell? ⟨w.heap.size, 5, none⟩ = some (.slice al X.letters.length cl) ∧ y.cell? ⟨w.heap.size, 6, none⟩ = some (.string X.book) ∧ y.cell? ⟨w.heap.size, 7, none⟩ = some (.int .i64 X.sure) ∧ y.cell? ⟨w.heap.size, 8, none⟩ = some (.slice (some ⟨b, o, none⟩) X.calls.length ca) ∧ y.cell? ⟨w.heap.size, 9, none⟩ = some (.slice az X.talks.length cz) ∧ y.cell? ⟨w.heap.size, 10, none⟩ = some (.slice ai X.told.length ci) ∧ y.cell? ⟨b, o + k * 15 + 14, none⟩ = some (.bool true) ∧ y.cell? ⟨b, o + k * 15 + 1, none⟩ = some (.int .i64 9) ∧ y.cell? ⟨b, o + k * 15 + 5, none⟩ = some (.int .i64 bo)) w3 := ⟨below_some hb3 c0, below_some hb3 c1, below_some hb3 c2, below_some hb3 c3, below_some hb3 c4, below_some hb3 c5, below_some hb3 c6, below_some hb3 c7, below_some hb3 c8, below_some hb3 c9, below_some hb3 c10, below_some hb3 d14, below_some hb3 d1, below_some hb3 d5⟩
              have HB3 := hide (btG (unhide HBq) (below_drewG hb3))
              clear hb3 hS
              refine ⟨hS3, ?_⟩
              simp only [Act.put, List.setIfInBounds_toArray, List.set_cons_succ, List.set_cons_zero]
              refine wpAnyH_take (i := 26) (oi := { dst := some 40, op := Go.Op.unOp Go.UnOp.not 4 (Go.Operand.tmp 39), type := 4, pos := "l15_judge.go:55", after := #[{ on := 25, ground := Go.Ground.data }, { on := 16, ground := Go.Ground.guard }], guard := some (16, true) }) (v := ?_) rfl (by kernel_rfl) (by kernel_rfl) (by kernel_rfl) (fun _ _ _ h => h) (Or.inl ⟨by rfl, ?_⟩) hS3 ?_
              rotate_left
              · intro y hSy; obtain ⟨y0, y1, y2, y3, y4, y5, y6, y7, y8, y9, y10, y11, y12, y13⟩ := hSy; go_simp; try with_reducible rfl
              simp only [Act.put, List.setIfInBounds_toArray, List.set_cons_succ, List.set_cons_zero]
              refine wpAnyH_take (i := 27) (oi := { dst := some 41, op := Go.Op.pick (Go.Operand.tmp 30) (Go.Operand.tmp 40) (Go.Operand.const (Go.Value.bool false)), type := 4, pos := "l15_judge.go:55", after := #[{ on := 16, ground := Go.Ground.data }, { on := 26, ground := Go.Ground.data }], guard := none }) (v := ?_) rfl (by kernel_rfl) (by kernel_rfl) (by kernel_rfl) (fun _ _ _ h => h) (Or.inl ⟨by rfl, ?_⟩) hS3 ?_
              rotate_left
              · intro y hSy; obtain ⟨y0, y1, y2, y3, y4, y5, y6, y7, y8, y9, y10, y11, y12, y13⟩ := hSy; go_simp; try with_reducible rfl
              simp only [Act.put, List.setIfInBounds_toArray, List.set_cons_succ, List.set_cons_zero]
              refine wpAnyH_done (by kernel_rfl) ?_ _
              have HE : Hid (R = false) := by show R = false; rw [unhide HW2, unhide HN (by simp [takenC, unhide HGB])]
              go_wp2_with fail
              go_ret
              exact ⟨retB (unhide HE), btG (unhide HB1) (unhide HB3)⟩
            | true =>
              rw [hgb] at HGT
              have HGB := hide hgb
              clear hgb
              go_wp2_with fail
              refine wp_region_held (S := fun y => y.cell? ⟨w.heap.size, 0, none⟩ = some (.int .i64 X.time) ∧ y.cell? ⟨w.heap.size, 1, none⟩ = some (.int .i64 X.fresh) ∧ y.cell? ⟨w.heap.size, 2, none⟩ = some (.slice ak X.known.length ck) ∧ y.cell? ⟨w.heap.size, 3, none⟩ = some (.slice ac X.cache.length cc) ∧ y.cell? ⟨w.heap.size, 4, none⟩ = some (.slice ah X.hosts.length ch) ∧ y.cell? ⟨w.heap.size, 5, none⟩ = some (.slice al X.letters.length cl) ∧ y.cell? ⟨w.heap.size, 6, none⟩ = some (.string X.book) ∧ y.cell? ⟨w.heap.size, 7, none⟩ = some (.int .i64 X.sure) ∧ y.cell? ⟨w.heap.size, 8, none⟩ = some (.slice (some ⟨b, o, none⟩) X.calls.length ca) ∧ y.cell? ⟨w.heap.size, 9, none⟩ = some (.slice az X.talks.length cz) ∧ y.cell? ⟨w.heap.size, 10, none⟩ = some (.slice ai X.told.length ci) ∧ y.cell? ⟨b, o + k * 15 + 14, none⟩ = some (.bool true) ∧ y.cell? ⟨b, o + k * 15 + 1, none⟩ = some (.int .i64 9) ∧ y.cell? ⟨b, o + k * 15 + 5, none⟩ = some (.int .i64 bo)) (by kernel_rfl) ?_
              have hS : (fun y : World => y.cell? ⟨w.heap.size, 0, none⟩ = some (.int .i64 X.time) ∧ y.cell? ⟨w.heap.size, 1, none⟩ = some (.int .i64 X.fresh) ∧ y.cell? ⟨w.heap.size, 2, none⟩ = some (.slice ak X.known.length ck) ∧ y.cell? ⟨w.heap.size, 3, none⟩ = some (.slice ac X.cache.length cc) ∧ y.cell? ⟨w.heap.size, 4, none⟩ = some (.slice ah X.hosts.length ch) ∧ y.cell? ⟨w.heap.size, 5, none⟩ = some (.slice al X.letters.length cl) ∧ y.cell? ⟨w.heap.size, 6, none⟩ = some (.string X.book) ∧ y.cell? ⟨w.heap.size, 7, none⟩ = some (.int .i64 X.sure) ∧ y.cell? ⟨w.heap.size, 8, none⟩ = some (.slice (some ⟨b, o, none⟩) X.calls.length ca) ∧ y.cell? ⟨w.heap.size, 9, none⟩ = some (.slice az X.talks.length cz) ∧ y.cell? ⟨w.heap.size, 10, none⟩ = some (.slice ai X.told.length ci) ∧ y.cell? ⟨b, o + k * 15 + 14, none⟩ = some (.bool true) ∧ y.cell? ⟨b, o + k * 15 + 1, none⟩ = some (.int .i64 9) ∧ y.cell? ⟨b, o + k * 15 + 5, none⟩ = some (.int .i64 bo)) wr.drew := ⟨c0, c1, c2, c3, c4, c5, c6, c7, c8, c9, c10, d14, d1, d5⟩
              show wpAnyH _ _ _ _ _ _ _ _ wr.drew
              refine wpAnyH_take (i := 0) (oi := { dst := some 14, op := Go.Op.fieldAddr 40 (Go.Operand.tmp 1) 8, type := 0, pos := "l15_judge.go:55", after := #[], guard := none }) (v := ?_) rfl (by kernel_rfl) (by kernel_rfl) (by kernel_rfl) (fun _ _ _ h => h) (Or.inl ⟨by rfl, ?_⟩) hS ?_
              rotate_left
              · intro y hSy; obtain ⟨y0, y1, y2, y3, y4, y5, y6, y7, y8, y9, y10, y11, y12, y13⟩ := hSy; go_simp; try with_reducible rfl
              simp only [Act.put, List.setIfInBounds_toArray, List.set_cons_succ, List.set_cons_zero]
              refine wpAnyH_take (i := 1) (oi := { dst := some 15, op := Go.Op.load 37 (Go.Operand.tmp 14), type := 37, pos := "l15_judge.go:55", after := #[{ on := 0, ground := Go.Ground.data }], guard := none }) (v := ?_) rfl (by kernel_rfl) (by kernel_rfl) (by kernel_rfl) (fun _ _ _ h => h) (Or.inl ⟨by rfl, ?_⟩) hS ?_
              rotate_left
              · intro y hSy; obtain ⟨y0, y1, y2, y3, y4, y5, y6, y7, y8, y9, y10, y11, y12, y13⟩ := hSy; go_simp; try with_reducible rfl
              simp only [Act.put, List.setIfInBounds_toArray, List.set_cons_succ, List.set_cons_zero]
              refine wpAnyH_take (i := 2) (oi := { dst := some 16, op := Go.Op.move (Go.Operand.tmp 3), type := 3, pos := "l15_judge.go:55", after := #[], guard := none }) (v := ?_) rfl (by kernel_rfl) (by kernel_rfl) (by kernel_rfl) (fun _ _ _ h => h) (Or.inl ⟨by rfl, ?_⟩) hS ?_
              rotate_left
              · intro y hSy; obtain ⟨y0, y1, y2, y3, y4, y5, y6, y7, y8, y9, y10, y11, y12, y13⟩ := hSy; go_simp; try with_reducible rfl
              simp only [Act.put, List.setIfInBounds_toArray, List.set_cons_succ, List.set_cons_zero]
              refine wpAnyH_take (i := 3) (oi := { dst := some 17, op := Go.Op.indexAddr 37 (Go.Operand.tmp 15) (Go.Operand.tmp 16), type := 0, pos := "l15_judge.go:55", after := #[{ on := 1, ground := Go.Ground.data }, { on := 2, ground := Go.Ground.data }], guard := none }) (v := ?_) rfl (by kernel_rfl) (by kernel_rfl) (by kernel_rfl) (fun _ _ _ h => h) (Or.inl ⟨by rfl, ?_⟩) hS ?_
              rotate_left
              · intro y hSy; obtain ⟨y0, y1, y2, y3, y4, y5, y6, y7, y8, y9, y10, y11, y12, y13⟩ := hSy; go_simp; try with_reducible rfl
              simp only [Act.put, List.setIfInBounds_toArray, List.set_cons_succ, List.set_cons_zero]
              refine wpAnyH_take (i := 4) (oi := { dst := some 18, op := Go.Op.fieldAddr 56 (Go.Operand.tmp 17) 2, type := 0, pos := "l15_judge.go:55", after := #[{ on := 3, ground := Go.Ground.data }], guard := none }) (v := ?_) rfl (by kernel_rfl) (by kernel_rfl) (by kernel_rfl) (fun _ _ _ h => h) (Or.inl ⟨by rfl, ?_⟩) hS ?_
              rotate_left
              · intro y hSy; obtain ⟨y0, y1, y2, y3, y4, y5, y6, y7, y8, y9, y10, y11, y12, y13⟩ := hSy; go_simp; try with_reducible rfl
              simp only [Act.put, List.setIfInBounds_toArray, List.set_cons_succ, List.set_cons_zero]
              refine wpAnyH_take (i := 5) (oi := { dst := some 19, op := Go.Op.load 4 (Go.Operand.tmp 18), type := 4, pos := "l15_judge.go:55", after := #[{ on := 4, ground := Go.Ground.data }], guard := none }) (v := ?_) rfl (by kernel_rfl) (by kernel_rfl) (by kernel_rfl) (fun _ _ _ h => h) (Or.inl ⟨by rfl, ?_⟩) hS ?_
              rotate_left
              · intro y hSy; obtain ⟨y0, y1, y2, y3, y4, y5, y6, y7, y8, y9, y10, y11, y12, y13⟩ := hSy; go_simp; try with_reducible rfl
              simp only [Act.put, List.setIfInBounds_toArray, List.set_cons_succ, List.set_cons_zero]
              refine wpAnyH_take (i := 6) (oi := { dst := some 20, op := Go.Op.move (Go.Operand.tmp 19), type := 4, pos := "l15_judge.go:55", after := #[{ on := 5, ground := Go.Ground.data }], guard := none }) (v := ?_) rfl (by kernel_rfl) (by kernel_rfl) (by kernel_rfl) (fun _ _ _ h => h) (Or.inl ⟨by rfl, ?_⟩) hS ?_
              rotate_left
              · intro y hSy; obtain ⟨y0, y1, y2, y3, y4, y5, y6, y7, y8, y9, y10, y11, y12, y13⟩ := hSy; go_simp; try with_reducible rfl
              simp only [Act.put, List.setIfInBounds_toArray, List.set_cons_succ, List.set_cons_zero]
              refine wpAnyH_take (i := 7) (oi := { dst := some 21, op := Go.Op.fieldAddr 40 (Go.Operand.tmp 1) 8, type := 0, pos := "l15_judge.go:55", after := #[{ on := 6, ground := Go.Ground.guard }], guard := some (6, true) }) (v := ?_) rfl (by kernel_rfl) (by kernel_rfl) (by kernel_rfl) (fun _ _ _ h => h) (Or.inl ⟨by rfl, ?_⟩) hS ?_
              rotate_left
              · intro y hSy; obtain ⟨y0, y1, y2, y3, y4, y5, y6, y7, y8, y9, y10, y11, y12, y13⟩ := hSy; go_simp; try with_reducible rfl
              simp only [Act.put, List.setIfInBounds_toArray, List.set_cons_succ, List.set_cons_zero]
              refine wpAnyH_take (i := 8) (oi := { dst := some 22, op := Go.Op.load 37 (Go.Operand.tmp 21), type := 37, pos := "l15_judge.go:55", after := #[{ on := 7, ground := Go.Ground.data }, { on := 6, ground := Go.Ground.guard }], guard := some (6, true) }) (v := ?_) rfl (by kernel_rfl) (by kernel_rfl) (by kernel_rfl) (fun _ _ _ h => h) (Or.inl ⟨by rfl, ?_⟩) hS ?_
              rotate_left
              · intro y hSy; obtain ⟨y0, y1, y2, y3, y4, y5, y6, y7, y8, y9, y10, y11, y12, y13⟩ := hSy; go_simp; try with_reducible rfl
              simp only [Act.put, List.setIfInBounds_toArray, List.set_cons_succ, List.set_cons_zero]
              refine wpAnyH_take (i := 9) (oi := { dst := some 23, op := Go.Op.move (Go.Operand.tmp 3), type := 3, pos := "l15_judge.go:55", after := #[{ on := 6, ground := Go.Ground.guard }], guard := some (6, true) }) (v := ?_) rfl (by kernel_rfl) (by kernel_rfl) (by kernel_rfl) (fun _ _ _ h => h) (Or.inl ⟨by rfl, ?_⟩) hS ?_
              rotate_left
              · intro y hSy; obtain ⟨y0, y1, y2, y3, y4, y5, y6, y7, y8, y9, y10, y11, y12, y13⟩ := hSy; go_simp; try with_reducible rfl
              simp only [Act.put, List.setIfInBounds_toArray, List.set_cons_succ, List.set_cons_zero]
              refine wpAnyH_take (i := 10) (oi := { dst := some 24, op := Go.Op.indexAddr 37 (Go.Operand.tmp 22) (Go.Operand.tmp 23), type := 0, pos := "l15_judge.go:55", after := #[{ on := 8, ground := Go.Ground.data }, { on := 9, ground := Go.Ground.data }, { on := 6, ground := Go.Ground.guard }], guard := some (6, true) }) (v := ?_) rfl (by kernel_rfl) (by kernel_rfl) (by kernel_rfl) (fun _ _ _ h => h) (Or.inl ⟨by rfl, ?_⟩) hS ?_
              rotate_left
              · intro y hSy; obtain ⟨y0, y1, y2, y3, y4, y5, y6, y7, y8, y9, y10, y11, y12, y13⟩ := hSy; go_simp; try with_reducible rfl
              simp only [Act.put, List.setIfInBounds_toArray, List.set_cons_succ, List.set_cons_zero]
              refine wpAnyH_take (i := 11) (oi := { dst := some 25, op := Go.Op.fieldAddr 56 (Go.Operand.tmp 24) 1, type := 0, pos := "l15_judge.go:55", after := #[{ on := 10, ground := Go.Ground.data }, { on := 6, ground := Go.Ground.guard }], guard := some (6, true) }) (v := ?_) rfl (by kernel_rfl) (by kernel_rfl) (by kernel_rfl) (fun _ _ _ h => h) (Or.inl ⟨by rfl, ?_⟩) hS ?_
              rotate_left
              · intro y hSy; obtain ⟨y0, y1, y2, y3, y4, y5, y6, y7, y8, y9, y10, y11, y12, y13⟩ := hSy; go_simp; try with_reducible rfl
              simp only [Act.put, List.setIfInBounds_toArray, List.set_cons_succ, List.set_cons_zero]
              refine wpAnyH_take (i := 12) (oi := { dst := some 26, op := Go.Op.fieldAddr 54 (Go.Operand.tmp 25) 0, type := 0, pos := "l15_judge.go:55", after := #[{ on := 11, ground := Go.Ground.data }, { on := 6, ground := Go.Ground.guard }], guard := some (6, true) }) (v := ?_) rfl (by kernel_rfl) (by kernel_rfl) (by kernel_rfl) (fun _ _ _ h => h) (Or.inl ⟨by rfl, ?_⟩) hS ?_
              rotate_left
              · intro y hSy; obtain ⟨y0, y1, y2, y3, y4, y5, y6, y7, y8, y9, y10, y11, y12, y13⟩ := hSy; go_simp; try with_reducible rfl
              simp only [Act.put, List.setIfInBounds_toArray, List.set_cons_succ, List.set_cons_zero]
              refine wpAnyH_take (i := 13) (oi := { dst := some 27, op := Go.Op.load 3 (Go.Operand.tmp 26), type := 3, pos := "l15_judge.go:55", after := #[{ on := 12, ground := Go.Ground.data }, { on := 6, ground := Go.Ground.guard }], guard := some (6, true) }) (v := ?_) rfl (by kernel_rfl) (by kernel_rfl) (by kernel_rfl) (fun _ _ _ h => h) (Or.inl ⟨by rfl, ?_⟩) hS ?_
              rotate_left
              · intro y hSy; obtain ⟨y0, y1, y2, y3, y4, y5, y6, y7, y8, y9, y10, y11, y12, y13⟩ := hSy; go_simp; try with_reducible rfl
              simp only [Act.put, List.setIfInBounds_toArray, List.set_cons_succ, List.set_cons_zero]
              refine wpAnyH_take (i := 14) (oi := { dst := some 28, op := Go.Op.binOp Go.BinOp.eql 3 (Go.Operand.tmp 27) (Go.Operand.const (Go.Value.int Go.IntKind.i64 9)) 3, type := 4, pos := "l15_judge.go:55", after := #[{ on := 13, ground := Go.Ground.data }, { on := 6, ground := Go.Ground.guard }], guard := some (6, true) }) (v := ?_) rfl (by kernel_rfl) (by kernel_rfl) (by kernel_rfl) (fun _ _ _ h => h) (Or.inl ⟨by rfl, ?_⟩) hS ?_
              rotate_left
              · intro y hSy; obtain ⟨y0, y1, y2, y3, y4, y5, y6, y7, y8, y9, y10, y11, y12, y13⟩ := hSy; go_simp; try with_reducible rfl
              simp only [Act.put, List.setIfInBounds_toArray, List.set_cons_succ, List.set_cons_zero]
              refine wpAnyH_take (i := 15) (oi := { dst := some 29, op := Go.Op.pick (Go.Operand.tmp 20) (Go.Operand.tmp 28) (Go.Operand.const (Go.Value.bool false)), type := 4, pos := "l15_judge.go:55", after := #[{ on := 6, ground := Go.Ground.data }, { on := 14, ground := Go.Ground.data }], guard := none }) (v := ?_) rfl (by kernel_rfl) (by kernel_rfl) (by kernel_rfl) (fun _ _ _ h => h) (Or.inl ⟨by rfl, ?_⟩) hS ?_
              rotate_left
              · intro y hSy; obtain ⟨y0, y1, y2, y3, y4, y5, y6, y7, y8, y9, y10, y11, y12, y13⟩ := hSy; go_simp; try with_reducible rfl
              simp only [Act.put, List.setIfInBounds_toArray, List.set_cons_succ, List.set_cons_zero]
              refine wpAnyH_take (i := 16) (oi := { dst := some 30, op := Go.Op.move (Go.Operand.tmp 29), type := 4, pos := "l15_judge.go:55", after := #[{ on := 15, ground := Go.Ground.data }, { on := 6, ground := Go.Ground.chain }], guard := none }) (v := ?_) rfl (by kernel_rfl) (by kernel_rfl) (by kernel_rfl) (fun _ _ _ h => h) (Or.inl ⟨by rfl, ?_⟩) hS ?_
              rotate_left
              · intro y hSy; obtain ⟨y0, y1, y2, y3, y4, y5, y6, y7, y8, y9, y10, y11, y12, y13⟩ := hSy; go_simp; try with_reducible rfl
              simp only [Act.put, List.setIfInBounds_toArray, List.set_cons_succ, List.set_cons_zero]
              refine wpAnyH_take (i := 17) (oi := { dst := some 31, op := Go.Op.load 40 (Go.Operand.tmp 1), type := 40, pos := "l15_judge.go:55", after := #[{ on := 16, ground := Go.Ground.guard }], guard := some (16, true) }) (v := ?_) rfl (by kernel_rfl) (by kernel_rfl) (by kernel_rfl) (fun _ _ _ h => h) (Or.inl ⟨by rfl, ?_⟩) hS ?_
              rotate_left
              · intro y hSy; obtain ⟨y0, y1, y2, y3, y4, y5, y6, y7, y8, y9, y10, y11, y12, y13⟩ := hSy; go_simp; try with_reducible rfl
              simp only [Act.put, List.setIfInBounds_toArray, List.set_cons_succ, List.set_cons_zero]
              refine wpAnyH_take (i := 18) (oi := { dst := some 32, op := Go.Op.fieldAddr 40 (Go.Operand.tmp 1) 8, type := 0, pos := "l15_judge.go:55", after := #[{ on := 16, ground := Go.Ground.guard }], guard := some (16, true) }) (v := ?_) rfl (by kernel_rfl) (by kernel_rfl) (by kernel_rfl) (fun _ _ _ h => h) (Or.inl ⟨by rfl, ?_⟩) hS ?_
              rotate_left
              · intro y hSy; obtain ⟨y0, y1, y2, y3, y4, y5, y6, y7, y8, y9, y10, y11, y12, y13⟩ := hSy; go_simp; try with_reducible rfl
              simp only [Act.put, List.setIfInBounds_toArray, List.set_cons_succ, List.set_cons_zero]
              refine wpAnyH_take (i := 19) (oi := { dst := some 33, op := Go.Op.load 37 (Go.Operand.tmp 32), type := 37, pos := "l15_judge.go:55", after := #[{ on := 18, ground := Go.Ground.data }, { on := 16, ground := Go.Ground.guard }], guard := some (16, true) }) (v := ?_) rfl (by kernel_rfl) (by kernel_rfl) (by kernel_rfl) (fun _ _ _ h => h) (Or.inl ⟨by rfl, ?_⟩) hS ?_
              rotate_left
              · intro y hSy; obtain ⟨y0, y1, y2, y3, y4, y5, y6, y7, y8, y9, y10, y11, y12, y13⟩ := hSy; go_simp; try with_reducible rfl
              simp only [Act.put, List.setIfInBounds_toArray, List.set_cons_succ, List.set_cons_zero]
              refine wpAnyH_take (i := 20) (oi := { dst := some 34, op := Go.Op.move (Go.Operand.tmp 3), type := 3, pos := "l15_judge.go:55", after := #[{ on := 16, ground := Go.Ground.guard }], guard := some (16, true) }) (v := ?_) rfl (by kernel_rfl) (by kernel_rfl) (by kernel_rfl) (fun _ _ _ h => h) (Or.inl ⟨by rfl, ?_⟩) hS ?_
              rotate_left
              · intro y hSy; obtain ⟨y0, y1, y2, y3, y4, y5, y6, y7, y8, y9, y10, y11, y12, y13⟩ := hSy; go_simp; try with_reducible rfl
              simp only [Act.put, List.setIfInBounds_toArray, List.set_cons_succ, List.set_cons_zero]
              refine wpAnyH_take (i := 21) (oi := { dst := some 35, op := Go.Op.indexAddr 37 (Go.Operand.tmp 33) (Go.Operand.tmp 34), type := 0, pos := "l15_judge.go:55", after := #[{ on := 19, ground := Go.Ground.data }, { on := 20, ground := Go.Ground.data }, { on := 16, ground := Go.Ground.guard }], guard := some (16, true) }) (v := ?_) rfl (by kernel_rfl) (by kernel_rfl) (by kernel_rfl) (fun _ _ _ h => h) (Or.inl ⟨by rfl, ?_⟩) hS ?_
              rotate_left
              · intro y hSy; obtain ⟨y0, y1, y2, y3, y4, y5, y6, y7, y8, y9, y10, y11, y12, y13⟩ := hSy; go_simp; try with_reducible rfl
              simp only [Act.put, List.setIfInBounds_toArray, List.set_cons_succ, List.set_cons_zero]
              refine wpAnyH_take (i := 22) (oi := { dst := some 36, op := Go.Op.fieldAddr 56 (Go.Operand.tmp 35) 1, type := 0, pos := "l15_judge.go:55", after := #[{ on := 21, ground := Go.Ground.data }, { on := 16, ground := Go.Ground.guard }], guard := some (16, true) }) (v := ?_) rfl (by kernel_rfl) (by kernel_rfl) (by kernel_rfl) (fun _ _ _ h => h) (Or.inl ⟨by rfl, ?_⟩) hS ?_
              rotate_left
              · intro y hSy; obtain ⟨y0, y1, y2, y3, y4, y5, y6, y7, y8, y9, y10, y11, y12, y13⟩ := hSy; go_simp; try with_reducible rfl
              simp only [Act.put, List.setIfInBounds_toArray, List.set_cons_succ, List.set_cons_zero]
              refine wpAnyH_take (i := 23) (oi := { dst := some 37, op := Go.Op.fieldAddr 54 (Go.Operand.tmp 36) 4, type := 0, pos := "l15_judge.go:55", after := #[{ on := 22, ground := Go.Ground.data }, { on := 16, ground := Go.Ground.guard }], guard := some (16, true) }) (v := ?_) rfl (by kernel_rfl) (by kernel_rfl) (by kernel_rfl) (fun _ _ _ h => h) (Or.inl ⟨by rfl, ?_⟩) hS ?_
              rotate_left
              · intro y hSy; obtain ⟨y0, y1, y2, y3, y4, y5, y6, y7, y8, y9, y10, y11, y12, y13⟩ := hSy; go_simp; try with_reducible rfl
              simp only [Act.put, List.setIfInBounds_toArray, List.set_cons_succ, List.set_cons_zero]
              refine wpAnyH_take (i := 24) (oi := { dst := some 38, op := Go.Op.load 3 (Go.Operand.tmp 37), type := 3, pos := "l15_judge.go:55", after := #[{ on := 23, ground := Go.Ground.data }, { on := 16, ground := Go.Ground.guard }], guard := some (16, true) }) (v := ?_) rfl (by kernel_rfl) (by kernel_rfl) (by kernel_rfl) (fun _ _ _ h => h) (Or.inl ⟨by rfl, ?_⟩) hS ?_
              rotate_left
              · intro y hSy; obtain ⟨y0, y1, y2, y3, y4, y5, y6, y7, y8, y9, y10, y11, y12, y13⟩ := hSy; go_simp; try with_reducible rfl
              simp only [Act.put, List.setIfInBounds_toArray, List.set_cons_succ, List.set_cons_zero]
              refine wpAnyH_all (rs := [25]) (by kernel_rfl) (by simp) ?_
              intro i hi
              simp only [List.mem_singleton] at hi
              subst hi
              refine step_callG (f := 37) (fn := Tryz.f37) (d := 39) (args := #[.agg #[.int .i64 X.time, .int .i64 X.fresh, .slice ak X.known.length ck, .slice ac X.cache.length cc, .slice ah X.hosts.length ch, .slice al X.letters.length cl, .string X.book, .int .i64 X.sure, .slice (some ⟨b, o, none⟩) X.calls.length ca, .slice az X.talks.length cz, .slice ai X.told.length ci], .int .i64 bo]) rfl (by rfl) Tryz.func37 (by kernel_rfl) (by kernel_rfl) (by simp [Act.eval]) ?_
              refine (unhide HGT _ ((Below.refl _ _).drew)).mono ?_
              rintro e w3 ⟨rfl, hb3⟩
              refine ⟨_, rfl, ?_⟩
              have hS3 : (fun y : World => y.cell? ⟨w.heap.size, 0, none⟩ = some (.int .i64 X.time) ∧ y.cell? ⟨w.heap.size, 1, none⟩ = some (.int .i64 X.fresh) ∧ y.cell? ⟨w.heap.size, 2, none⟩ = some (.slice ak X.known.length ck) ∧ y.cell? ⟨w.heap.size, 3, none⟩ = some (.slice ac X.cache.length cc) ∧ y.cell? ⟨w.heap.size, 4, none⟩ = some (.slice ah X.hosts.length ch) ∧ y.cell? ⟨w.heap.size, 5, none⟩ = some (.slice al X.letters.length cl) ∧ y.cell? ⟨w.heap.size, 6, none⟩ = some (.string X.book) ∧ y.cell? ⟨w.heap.size, 7, none⟩ = some (.int .i64 X.sure) ∧ y.cell? ⟨w.heap.size, 8, none⟩ = some (.slice (some ⟨b, o, none⟩) X.calls.length ca) ∧ y.cell? ⟨w.heap.size, 9, none⟩ = some (.slice az X.talks.length cz) ∧ y.cell? ⟨w.heap.size, 10, none⟩ = some (.slice ai X.told.length ci) ∧ y.cell? ⟨b, o + k * 15 + 14, none⟩ = some (.bool true) ∧ y.cell? ⟨b, o + k * 15 + 1, none⟩ = some (.int .i64 9) ∧ y.cell? ⟨b, o + k * 15 + 5, none⟩ = some (.int .i64 bo)) w3 := ⟨below_some hb3 c0, below_some hb3 c1, below_some hb3 c2, below_some hb3 c3, below_some hb3 c4, below_some hb3 c5, below_some hb3 c6, below_some hb3 c7, below_some hb3 c8, below_some hb3 c9, below_some hb3 c10, below_some hb3 d14, below_some hb3 d1, below_some hb3 d5⟩
              have HB3 := hide (btG (unhide HBq) (below_drewG hb3))
              clear hb3 hS
              refine ⟨hS3, ?_⟩
              simp only [Act.put, List.setIfInBounds_toArray, List.set_cons_succ, List.set_cons_zero]
              refine wpAnyH_take (i := 26) (oi := { dst := some 40, op := Go.Op.unOp Go.UnOp.not 4 (Go.Operand.tmp 39), type := 4, pos := "l15_judge.go:55", after := #[{ on := 25, ground := Go.Ground.data }, { on := 16, ground := Go.Ground.guard }], guard := some (16, true) }) (v := ?_) rfl (by kernel_rfl) (by kernel_rfl) (by kernel_rfl) (fun _ _ _ h => h) (Or.inl ⟨by rfl, ?_⟩) hS3 ?_
              rotate_left
              · intro y hSy; obtain ⟨y0, y1, y2, y3, y4, y5, y6, y7, y8, y9, y10, y11, y12, y13⟩ := hSy; go_simp; try with_reducible rfl
              simp only [Act.put, List.setIfInBounds_toArray, List.set_cons_succ, List.set_cons_zero]
              refine wpAnyH_take (i := 27) (oi := { dst := some 41, op := Go.Op.pick (Go.Operand.tmp 30) (Go.Operand.tmp 40) (Go.Operand.const (Go.Value.bool false)), type := 4, pos := "l15_judge.go:55", after := #[{ on := 16, ground := Go.Ground.data }, { on := 26, ground := Go.Ground.data }], guard := none }) (v := ?_) rfl (by kernel_rfl) (by kernel_rfl) (by kernel_rfl) (fun _ _ _ h => h) (Or.inl ⟨by rfl, ?_⟩) hS3 ?_
              rotate_left
              · intro y hSy; obtain ⟨y0, y1, y2, y3, y4, y5, y6, y7, y8, y9, y10, y11, y12, y13⟩ := hSy; go_simp; try with_reducible rfl
              simp only [Act.put, List.setIfInBounds_toArray, List.set_cons_succ, List.set_cons_zero]
              refine wpAnyH_done (by kernel_rfl) ?_ _
              go_wp2_with fail
              go_roundw
              case rel => exact ⟨k + 1, rfl, unhide HB3, by omega, unhide HM (by simp [takenC, unhide HGB])⟩
              case measure => simp only [intOf]; omega
          · have h9' : (st == 9) = false := by simpa using h9
            go_wp2_with fail
            refine wp_region_held (S := fun y => y.cell? ⟨w.heap.size, 0, none⟩ = some (.int .i64 X.time) ∧ y.cell? ⟨w.heap.size, 1, none⟩ = some (.int .i64 X.fresh) ∧ y.cell? ⟨w.heap.size, 2, none⟩ = some (.slice ak X.known.length ck) ∧ y.cell? ⟨w.heap.size, 3, none⟩ = some (.slice ac X.cache.length cc) ∧ y.cell? ⟨w.heap.size, 4, none⟩ = some (.slice ah X.hosts.length ch) ∧ y.cell? ⟨w.heap.size, 5, none⟩ = some (.slice al X.letters.length cl) ∧ y.cell? ⟨w.heap.size, 6, none⟩ = some (.string X.book) ∧ y.cell? ⟨w.heap.size, 7, none⟩ = some (.int .i64 X.sure) ∧ y.cell? ⟨w.heap.size, 8, none⟩ = some (.slice (some ⟨b, o, none⟩) X.calls.length ca) ∧ y.cell? ⟨w.heap.size, 9, none⟩ = some (.slice az X.talks.length cz) ∧ y.cell? ⟨w.heap.size, 10, none⟩ = some (.slice ai X.told.length ci) ∧ y.cell? ⟨b, o + k * 15 + 14, none⟩ = some (.bool true) ∧ y.cell? ⟨b, o + k * 15 + 1, none⟩ = some (.int .i64 st) ∧ y.cell? ⟨b, o + k * 15 + 5, none⟩ = some (.int .i64 bo)) (by kernel_rfl) ?_
            have hS : (fun y : World => y.cell? ⟨w.heap.size, 0, none⟩ = some (.int .i64 X.time) ∧ y.cell? ⟨w.heap.size, 1, none⟩ = some (.int .i64 X.fresh) ∧ y.cell? ⟨w.heap.size, 2, none⟩ = some (.slice ak X.known.length ck) ∧ y.cell? ⟨w.heap.size, 3, none⟩ = some (.slice ac X.cache.length cc) ∧ y.cell? ⟨w.heap.size, 4, none⟩ = some (.slice ah X.hosts.length ch) ∧ y.cell? ⟨w.heap.size, 5, none⟩ = some (.slice al X.letters.length cl) ∧ y.cell? ⟨w.heap.size, 6, none⟩ = some (.string X.book) ∧ y.cell? ⟨w.heap.size, 7, none⟩ = some (.int .i64 X.sure) ∧ y.cell? ⟨w.heap.size, 8, none⟩ = some (.slice (some ⟨b, o, none⟩) X.calls.length ca) ∧ y.cell? ⟨w.heap.size, 9, none⟩ = some (.slice az X.talks.length cz) ∧ y.cell? ⟨w.heap.size, 10, none⟩ = some (.slice ai X.told.length ci) ∧ y.cell? ⟨b, o + k * 15 + 14, none⟩ = some (.bool true) ∧ y.cell? ⟨b, o + k * 15 + 1, none⟩ = some (.int .i64 st) ∧ y.cell? ⟨b, o + k * 15 + 5, none⟩ = some (.int .i64 bo)) wr.drew := ⟨c0, c1, c2, c3, c4, c5, c6, c7, c8, c9, c10, d14, d1, d5⟩
            show wpAnyH _ _ _ _ _ _ _ _ wr.drew
            refine wpAnyH_take (i := 0) (oi := { dst := some 14, op := Go.Op.fieldAddr 40 (Go.Operand.tmp 1) 8, type := 0, pos := "l15_judge.go:55", after := #[], guard := none }) (v := ?_) rfl (by kernel_rfl) (by kernel_rfl) (by kernel_rfl) (fun _ _ _ h => h) (Or.inl ⟨by rfl, ?_⟩) hS ?_
            rotate_left
            · intro y hSy; obtain ⟨y0, y1, y2, y3, y4, y5, y6, y7, y8, y9, y10, y11, y12, y13⟩ := hSy; go_simp; try with_reducible rfl
            simp only [Act.put, List.setIfInBounds_toArray, List.set_cons_succ, List.set_cons_zero]
            refine wpAnyH_take (i := 1) (oi := { dst := some 15, op := Go.Op.load 37 (Go.Operand.tmp 14), type := 37, pos := "l15_judge.go:55", after := #[{ on := 0, ground := Go.Ground.data }], guard := none }) (v := ?_) rfl (by kernel_rfl) (by kernel_rfl) (by kernel_rfl) (fun _ _ _ h => h) (Or.inl ⟨by rfl, ?_⟩) hS ?_
            rotate_left
            · intro y hSy; obtain ⟨y0, y1, y2, y3, y4, y5, y6, y7, y8, y9, y10, y11, y12, y13⟩ := hSy; go_simp; try with_reducible rfl
            simp only [Act.put, List.setIfInBounds_toArray, List.set_cons_succ, List.set_cons_zero]
            refine wpAnyH_take (i := 2) (oi := { dst := some 16, op := Go.Op.move (Go.Operand.tmp 3), type := 3, pos := "l15_judge.go:55", after := #[], guard := none }) (v := ?_) rfl (by kernel_rfl) (by kernel_rfl) (by kernel_rfl) (fun _ _ _ h => h) (Or.inl ⟨by rfl, ?_⟩) hS ?_
            rotate_left
            · intro y hSy; obtain ⟨y0, y1, y2, y3, y4, y5, y6, y7, y8, y9, y10, y11, y12, y13⟩ := hSy; go_simp; try with_reducible rfl
            simp only [Act.put, List.setIfInBounds_toArray, List.set_cons_succ, List.set_cons_zero]
            refine wpAnyH_take (i := 3) (oi := { dst := some 17, op := Go.Op.indexAddr 37 (Go.Operand.tmp 15) (Go.Operand.tmp 16), type := 0, pos := "l15_judge.go:55", after := #[{ on := 1, ground := Go.Ground.data }, { on := 2, ground := Go.Ground.data }], guard := none }) (v := ?_) rfl (by kernel_rfl) (by kernel_rfl) (by kernel_rfl) (fun _ _ _ h => h) (Or.inl ⟨by rfl, ?_⟩) hS ?_
            rotate_left
            · intro y hSy; obtain ⟨y0, y1, y2, y3, y4, y5, y6, y7, y8, y9, y10, y11, y12, y13⟩ := hSy; go_simp; try with_reducible rfl
            simp only [Act.put, List.setIfInBounds_toArray, List.set_cons_succ, List.set_cons_zero]
            refine wpAnyH_take (i := 4) (oi := { dst := some 18, op := Go.Op.fieldAddr 56 (Go.Operand.tmp 17) 2, type := 0, pos := "l15_judge.go:55", after := #[{ on := 3, ground := Go.Ground.data }], guard := none }) (v := ?_) rfl (by kernel_rfl) (by kernel_rfl) (by kernel_rfl) (fun _ _ _ h => h) (Or.inl ⟨by rfl, ?_⟩) hS ?_
            rotate_left
            · intro y hSy; obtain ⟨y0, y1, y2, y3, y4, y5, y6, y7, y8, y9, y10, y11, y12, y13⟩ := hSy; go_simp; try with_reducible rfl
            simp only [Act.put, List.setIfInBounds_toArray, List.set_cons_succ, List.set_cons_zero]
            refine wpAnyH_take (i := 5) (oi := { dst := some 19, op := Go.Op.load 4 (Go.Operand.tmp 18), type := 4, pos := "l15_judge.go:55", after := #[{ on := 4, ground := Go.Ground.data }], guard := none }) (v := ?_) rfl (by kernel_rfl) (by kernel_rfl) (by kernel_rfl) (fun _ _ _ h => h) (Or.inl ⟨by rfl, ?_⟩) hS ?_
            rotate_left
            · intro y hSy; obtain ⟨y0, y1, y2, y3, y4, y5, y6, y7, y8, y9, y10, y11, y12, y13⟩ := hSy; go_simp; try with_reducible rfl
            simp only [Act.put, List.setIfInBounds_toArray, List.set_cons_succ, List.set_cons_zero]
            refine wpAnyH_take (i := 6) (oi := { dst := some 20, op := Go.Op.move (Go.Operand.tmp 19), type := 4, pos := "l15_judge.go:55", after := #[{ on := 5, ground := Go.Ground.data }], guard := none }) (v := ?_) rfl (by kernel_rfl) (by kernel_rfl) (by kernel_rfl) (fun _ _ _ h => h) (Or.inl ⟨by rfl, ?_⟩) hS ?_
            rotate_left
            · intro y hSy; obtain ⟨y0, y1, y2, y3, y4, y5, y6, y7, y8, y9, y10, y11, y12, y13⟩ := hSy; go_simp; try with_reducible rfl
            simp only [Act.put, List.setIfInBounds_toArray, List.set_cons_succ, List.set_cons_zero]
            refine wpAnyH_take (i := 7) (oi := { dst := some 21, op := Go.Op.fieldAddr 40 (Go.Operand.tmp 1) 8, type := 0, pos := "l15_judge.go:55", after := #[{ on := 6, ground := Go.Ground.guard }], guard := some (6, true) }) (v := ?_) rfl (by kernel_rfl) (by kernel_rfl) (by kernel_rfl) (fun _ _ _ h => h) (Or.inl ⟨by rfl, ?_⟩) hS ?_
            rotate_left
            · intro y hSy; obtain ⟨y0, y1, y2, y3, y4, y5, y6, y7, y8, y9, y10, y11, y12, y13⟩ := hSy; go_simp; try with_reducible rfl
            simp only [Act.put, List.setIfInBounds_toArray, List.set_cons_succ, List.set_cons_zero]
            refine wpAnyH_take (i := 8) (oi := { dst := some 22, op := Go.Op.load 37 (Go.Operand.tmp 21), type := 37, pos := "l15_judge.go:55", after := #[{ on := 7, ground := Go.Ground.data }, { on := 6, ground := Go.Ground.guard }], guard := some (6, true) }) (v := ?_) rfl (by kernel_rfl) (by kernel_rfl) (by kernel_rfl) (fun _ _ _ h => h) (Or.inl ⟨by rfl, ?_⟩) hS ?_
            rotate_left
            · intro y hSy; obtain ⟨y0, y1, y2, y3, y4, y5, y6, y7, y8, y9, y10, y11, y12, y13⟩ := hSy; go_simp; try with_reducible rfl
            simp only [Act.put, List.setIfInBounds_toArray, List.set_cons_succ, List.set_cons_zero]
            refine wpAnyH_take (i := 9) (oi := { dst := some 23, op := Go.Op.move (Go.Operand.tmp 3), type := 3, pos := "l15_judge.go:55", after := #[{ on := 6, ground := Go.Ground.guard }], guard := some (6, true) }) (v := ?_) rfl (by kernel_rfl) (by kernel_rfl) (by kernel_rfl) (fun _ _ _ h => h) (Or.inl ⟨by rfl, ?_⟩) hS ?_
            rotate_left
            · intro y hSy; obtain ⟨y0, y1, y2, y3, y4, y5, y6, y7, y8, y9, y10, y11, y12, y13⟩ := hSy; go_simp; try with_reducible rfl
            simp only [Act.put, List.setIfInBounds_toArray, List.set_cons_succ, List.set_cons_zero]
            refine wpAnyH_take (i := 10) (oi := { dst := some 24, op := Go.Op.indexAddr 37 (Go.Operand.tmp 22) (Go.Operand.tmp 23), type := 0, pos := "l15_judge.go:55", after := #[{ on := 8, ground := Go.Ground.data }, { on := 9, ground := Go.Ground.data }, { on := 6, ground := Go.Ground.guard }], guard := some (6, true) }) (v := ?_) rfl (by kernel_rfl) (by kernel_rfl) (by kernel_rfl) (fun _ _ _ h => h) (Or.inl ⟨by rfl, ?_⟩) hS ?_
            rotate_left
            · intro y hSy; obtain ⟨y0, y1, y2, y3, y4, y5, y6, y7, y8, y9, y10, y11, y12, y13⟩ := hSy; go_simp; try with_reducible rfl
            simp only [Act.put, List.setIfInBounds_toArray, List.set_cons_succ, List.set_cons_zero]
            refine wpAnyH_take (i := 11) (oi := { dst := some 25, op := Go.Op.fieldAddr 56 (Go.Operand.tmp 24) 1, type := 0, pos := "l15_judge.go:55", after := #[{ on := 10, ground := Go.Ground.data }, { on := 6, ground := Go.Ground.guard }], guard := some (6, true) }) (v := ?_) rfl (by kernel_rfl) (by kernel_rfl) (by kernel_rfl) (fun _ _ _ h => h) (Or.inl ⟨by rfl, ?_⟩) hS ?_
            rotate_left
            · intro y hSy; obtain ⟨y0, y1, y2, y3, y4, y5, y6, y7, y8, y9, y10, y11, y12, y13⟩ := hSy; go_simp; try with_reducible rfl
            simp only [Act.put, List.setIfInBounds_toArray, List.set_cons_succ, List.set_cons_zero]
            refine wpAnyH_take (i := 12) (oi := { dst := some 26, op := Go.Op.fieldAddr 54 (Go.Operand.tmp 25) 0, type := 0, pos := "l15_judge.go:55", after := #[{ on := 11, ground := Go.Ground.data }, { on := 6, ground := Go.Ground.guard }], guard := some (6, true) }) (v := ?_) rfl (by kernel_rfl) (by kernel_rfl) (by kernel_rfl) (fun _ _ _ h => h) (Or.inl ⟨by rfl, ?_⟩) hS ?_
            rotate_left
            · intro y hSy; obtain ⟨y0, y1, y2, y3, y4, y5, y6, y7, y8, y9, y10, y11, y12, y13⟩ := hSy; go_simp; try with_reducible rfl
            simp only [Act.put, List.setIfInBounds_toArray, List.set_cons_succ, List.set_cons_zero]
            refine wpAnyH_take (i := 13) (oi := { dst := some 27, op := Go.Op.load 3 (Go.Operand.tmp 26), type := 3, pos := "l15_judge.go:55", after := #[{ on := 12, ground := Go.Ground.data }, { on := 6, ground := Go.Ground.guard }], guard := some (6, true) }) (v := ?_) rfl (by kernel_rfl) (by kernel_rfl) (by kernel_rfl) (fun _ _ _ h => h) (Or.inl ⟨by rfl, ?_⟩) hS ?_
            rotate_left
            · intro y hSy; obtain ⟨y0, y1, y2, y3, y4, y5, y6, y7, y8, y9, y10, y11, y12, y13⟩ := hSy; go_simp; try with_reducible rfl
            simp only [Act.put, List.setIfInBounds_toArray, List.set_cons_succ, List.set_cons_zero]
            refine wpAnyH_take (i := 14) (oi := { dst := some 28, op := Go.Op.binOp Go.BinOp.eql 3 (Go.Operand.tmp 27) (Go.Operand.const (Go.Value.int Go.IntKind.i64 9)) 3, type := 4, pos := "l15_judge.go:55", after := #[{ on := 13, ground := Go.Ground.data }, { on := 6, ground := Go.Ground.guard }], guard := some (6, true) }) (v := ?_) rfl (by kernel_rfl) (by kernel_rfl) (by kernel_rfl) (fun _ _ _ h => h) (Or.inl ⟨by rfl, ?_⟩) hS ?_
            rotate_left
            · intro y hSy; obtain ⟨y0, y1, y2, y3, y4, y5, y6, y7, y8, y9, y10, y11, y12, y13⟩ := hSy; go_simp; try with_reducible rfl
            simp only [Act.put, List.setIfInBounds_toArray, List.set_cons_succ, List.set_cons_zero]
            refine wpAnyH_take (i := 15) (oi := { dst := some 29, op := Go.Op.pick (Go.Operand.tmp 20) (Go.Operand.tmp 28) (Go.Operand.const (Go.Value.bool false)), type := 4, pos := "l15_judge.go:55", after := #[{ on := 6, ground := Go.Ground.data }, { on := 14, ground := Go.Ground.data }], guard := none }) (v := ?_) rfl (by kernel_rfl) (by kernel_rfl) (by kernel_rfl) (fun _ _ _ h => h) (Or.inl ⟨by rfl, ?_⟩) hS ?_
            rotate_left
            · intro y hSy; obtain ⟨y0, y1, y2, y3, y4, y5, y6, y7, y8, y9, y10, y11, y12, y13⟩ := hSy; go_simp; try with_reducible rfl
            simp only [Act.put, List.setIfInBounds_toArray, List.set_cons_succ, List.set_cons_zero]
            refine wpAnyH_take (i := 16) (oi := { dst := some 30, op := Go.Op.move (Go.Operand.tmp 29), type := 4, pos := "l15_judge.go:55", after := #[{ on := 15, ground := Go.Ground.data }, { on := 6, ground := Go.Ground.chain }], guard := none }) (v := ?_) rfl (by kernel_rfl) (by kernel_rfl) (by kernel_rfl) (fun _ _ _ h => h) (Or.inl ⟨by rfl, ?_⟩) hS ?_
            rotate_left
            · intro y hSy; obtain ⟨y0, y1, y2, y3, y4, y5, y6, y7, y8, y9, y10, y11, y12, y13⟩ := hSy; go_simp; try with_reducible rfl
            simp only [Act.put, List.setIfInBounds_toArray, List.set_cons_succ, List.set_cons_zero]
            refine wpAnyH_take (i := 17) (oi := { dst := some 31, op := Go.Op.load 40 (Go.Operand.tmp 1), type := 40, pos := "l15_judge.go:55", after := #[{ on := 16, ground := Go.Ground.guard }], guard := some (16, true) }) (v := undef) rfl (by kernel_rfl) (by kernel_rfl) (by kernel_rfl) (fun _ _ _ h => h) (Or.inr ⟨by rfl, rfl⟩) hS ?_
            simp only [Act.put, List.setIfInBounds_toArray, List.set_cons_succ, List.set_cons_zero]
            refine wpAnyH_take (i := 18) (oi := { dst := some 32, op := Go.Op.fieldAddr 40 (Go.Operand.tmp 1) 8, type := 0, pos := "l15_judge.go:55", after := #[{ on := 16, ground := Go.Ground.guard }], guard := some (16, true) }) (v := undef) rfl (by kernel_rfl) (by kernel_rfl) (by kernel_rfl) (fun _ _ _ h => h) (Or.inr ⟨by rfl, rfl⟩) hS ?_
            simp only [Act.put, List.setIfInBounds_toArray, List.set_cons_succ, List.set_cons_zero]
            refine wpAnyH_take (i := 19) (oi := { dst := some 33, op := Go.Op.load 37 (Go.Operand.tmp 32), type := 37, pos := "l15_judge.go:55", after := #[{ on := 18, ground := Go.Ground.data }, { on := 16, ground := Go.Ground.guard }], guard := some (16, true) }) (v := undef) rfl (by kernel_rfl) (by kernel_rfl) (by kernel_rfl) (fun _ _ _ h => h) (Or.inr ⟨by rfl, rfl⟩) hS ?_
            simp only [Act.put, List.setIfInBounds_toArray, List.set_cons_succ, List.set_cons_zero]
            refine wpAnyH_take (i := 20) (oi := { dst := some 34, op := Go.Op.move (Go.Operand.tmp 3), type := 3, pos := "l15_judge.go:55", after := #[{ on := 16, ground := Go.Ground.guard }], guard := some (16, true) }) (v := undef) rfl (by kernel_rfl) (by kernel_rfl) (by kernel_rfl) (fun _ _ _ h => h) (Or.inr ⟨by rfl, rfl⟩) hS ?_
            simp only [Act.put, List.setIfInBounds_toArray, List.set_cons_succ, List.set_cons_zero]
            refine wpAnyH_take (i := 21) (oi := { dst := some 35, op := Go.Op.indexAddr 37 (Go.Operand.tmp 33) (Go.Operand.tmp 34), type := 0, pos := "l15_judge.go:55", after := #[{ on := 19, ground := Go.Ground.data }, { on := 20, ground := Go.Ground.data }, { on := 16, ground := Go.Ground.guard }], guard := some (16, true) }) (v := undef) rfl (by kernel_rfl) (by kernel_rfl) (by kernel_rfl) (fun _ _ _ h => h) (Or.inr ⟨by rfl, rfl⟩) hS ?_
            simp only [Act.put, List.setIfInBounds_toArray, List.set_cons_succ, List.set_cons_zero]
            refine wpAnyH_take (i := 22) (oi := { dst := some 36, op := Go.Op.fieldAddr 56 (Go.Operand.tmp 35) 1, type := 0, pos := "l15_judge.go:55", after := #[{ on := 21, ground := Go.Ground.data }, { on := 16, ground := Go.Ground.guard }], guard := some (16, true) }) (v := undef) rfl (by kernel_rfl) (by kernel_rfl) (by kernel_rfl) (fun _ _ _ h => h) (Or.inr ⟨by rfl, rfl⟩) hS ?_
            simp only [Act.put, List.setIfInBounds_toArray, List.set_cons_succ, List.set_cons_zero]
            refine wpAnyH_take (i := 23) (oi := { dst := some 37, op := Go.Op.fieldAddr 54 (Go.Operand.tmp 36) 4, type := 0, pos := "l15_judge.go:55", after := #[{ on := 22, ground := Go.Ground.data }, { on := 16, ground := Go.Ground.guard }], guard := some (16, true) }) (v := undef) rfl (by kernel_rfl) (by kernel_rfl) (by kernel_rfl) (fun _ _ _ h => h) (Or.inr ⟨by rfl, rfl⟩) hS ?_
            simp only [Act.put, List.setIfInBounds_toArray, List.set_cons_succ, List.set_cons_zero]
            refine wpAnyH_take (i := 24) (oi := { dst := some 38, op := Go.Op.load 3 (Go.Operand.tmp 37), type := 3, pos := "l15_judge.go:55", after := #[{ on := 23, ground := Go.Ground.data }, { on := 16, ground := Go.Ground.guard }], guard := some (16, true) }) (v := undef) rfl (by kernel_rfl) (by kernel_rfl) (by kernel_rfl) (fun _ _ _ h => h) (Or.inr ⟨by rfl, rfl⟩) hS ?_
            simp only [Act.put, List.setIfInBounds_toArray, List.set_cons_succ, List.set_cons_zero]
            refine wpAnyH_take (i := 25) (oi := { dst := some 39, op := Go.Op.call { callee := Go.Callee.value (Go.Operand.func 37), args := #[Go.Operand.tmp 31, Go.Operand.tmp 38], argTypes := #[40, 3] }, type := 4, pos := "l15_judge.go:55", after := #[{ on := 17, ground := Go.Ground.data }, { on := 24, ground := Go.Ground.data }, { on := 16, ground := Go.Ground.chain }, { on := 16, ground := Go.Ground.guard }], guard := some (16, true) }) (v := undef) rfl (by kernel_rfl) (by kernel_rfl) (by kernel_rfl) (fun _ _ _ h => h) (Or.inr ⟨by rfl, rfl⟩) hS ?_
            simp only [Act.put, List.setIfInBounds_toArray, List.set_cons_succ, List.set_cons_zero]
            refine wpAnyH_take (i := 26) (oi := { dst := some 40, op := Go.Op.unOp Go.UnOp.not 4 (Go.Operand.tmp 39), type := 4, pos := "l15_judge.go:55", after := #[{ on := 25, ground := Go.Ground.data }, { on := 16, ground := Go.Ground.guard }], guard := some (16, true) }) (v := undef) rfl (by kernel_rfl) (by kernel_rfl) (by kernel_rfl) (fun _ _ _ h => h) (Or.inr ⟨by rfl, rfl⟩) hS ?_
            simp only [Act.put, List.setIfInBounds_toArray, List.set_cons_succ, List.set_cons_zero]
            refine wpAnyH_take (i := 27) (oi := { dst := some 41, op := Go.Op.pick (Go.Operand.tmp 30) (Go.Operand.tmp 40) (Go.Operand.const (Go.Value.bool false)), type := 4, pos := "l15_judge.go:55", after := #[{ on := 16, ground := Go.Ground.data }, { on := 26, ground := Go.Ground.data }], guard := none }) (v := ?_) rfl (by kernel_rfl) (by kernel_rfl) (by kernel_rfl) (fun _ _ _ h => h) (Or.inl ⟨by rfl, ?_⟩) hS ?_
            rotate_left
            · intro y hSy; obtain ⟨y0, y1, y2, y3, y4, y5, y6, y7, y8, y9, y10, y11, y12, y13⟩ := hSy; go_simp; try with_reducible rfl
            simp only [Act.put, List.setIfInBounds_toArray, List.set_cons_succ, List.set_cons_zero]
            refine wpAnyH_done (by kernel_rfl) ?_ _
            go_wp2_with fail
            go_roundw
            case rel => exact ⟨k + 1, rfl, (unhide HBq).drew, by omega, unhide HM (by simp [takenC, h9])⟩
            case measure => simp only [intOf]; omega
      · have cN : ¬ (k : Int) < (X.calls.length : Int) := by omega
        have HAll : Hid (X.calls.all (takenC X) = true) := List.all_eq_true.2 fun x hx => by
          obtain ⟨j, hj⟩ := List.getElem?_of_mem hx
          exact unhide HA j x (by have := (List.getElem?_eq_some_iff.1 hj).1; omega) hj
        have HE : Hid (R = true) := by show R = true; rw [unhide HW2, unhide HAll]
        clear hb
        go_wp2_with fail
        go_ret
        exact ⟨retB (unhide HE), btG (unhide HB1) (unhide HBq)⟩

set_option maxRecDepth 100000 in
set_option maxHeartbeats 4000000 in
theorem rightTaken (X : Wd) (ws : List Value) (gx : Nat) (T : List Th) (a : Option Addr) (cap : Nat) (w : World) (hl : thK.Ls w 0 a T) (hsz : T.length ≤ 4194304) (hX : wdAt w 0 X ws) (hB : Box w gx 40 ws) (hz : ww X ≤ 1048576) :
    Calls Tryz.prog 58 #[.slice a T.length cap, .func (.func 68) #[] #[.pointer (some ⟨gx, 0, none⟩)]] w fun e w' => e = .returned (.bool (T.all (ruleT X))) ∧ Below w.heap.size w w' := by
  have HT := hide hl
  have HWX := hide hX
  have HWB := hide hB
  have HWZ := hide hz
  clear hX hB hz
  clear hl
  generalize hr : T.all (ruleT X) = r at *
  have HE := hide hr
  clear hr
  generalize hlen : T.length = len at *
  have HL := hide hlen
  clear hlen
  go_enter Tryz.func58, Tryz.ntmps58
  go_wp2_with fail
  go_loopw [9] (fun i wr => ∃ k : Nat, i = .int .i64 k ∧ Below w.heap.size w wr ∧ k ≤ len ∧ ∀ j x, j < k → T[j]? = some x → ruleT X x = true) (fun i _ => len - (intOf i).toNat)
  case atStart => exact ⟨0, rfl, Below.refl _ _, by omega, fun j x hj => by omega⟩
  case round =>
    obtain ⟨k, rfl, hb, hk, ha⟩ := hrel
    have HBr := hide hb
    have HA := hide ha
    clear ha
    by_cases hp : k < len
    · have hp' : k < T.length := by have := HL.out; omega
      obtain ⟨x, hkx⟩ : ∃ x, T[k]? = some x := ⟨_, List.getElem?_eq_getElem hp'⟩
      obtain ⟨b, o, cs, rfl, -, -, HR0, HT2, hcl0⟩ := ((unhide HT).on hb).get hkx
      obtain ⟨u, rfl⟩ : ∃ u, cs = [u] := by
        match cs, hcl0 with
        | [u], _ => exact ⟨u, rfl⟩
      have c0 : wr.cell? ⟨b, o + k, none⟩ = some u := by
        have := HR0 0 u rfl
        have e : o + k * thK.n + 0 = o + k := by show o + k * 1 + 0 = o + k; omega
        rwa [e] at this
      have HFX := hide (ruleTI X ws gx x u wr HT2 (wdK.on (w := w) (L := 0) (x := X) (unhide HWX) hb) ((unhide HWB).on hb) (unhide HWZ))
      have HK := hide hkx
      have q2 : (k : Int) < (len : Int) := by omega
      have q3 : (0 : Int) ≤ (k : Int) := by omega
      have w1 : wrap64 ((k : Int) + 1) = ((k + 1 : Nat) : Int) := by unfold wrap64; omega
      have HM : Hid (ruleT X x = true → ∀ j y, j < k + 1 → T[j]? = some y → ruleT X y = true) := fun hx j y hj hy => by
        rcases Nat.lt_or_ge j k with q | q
        · exact unhide HA j y q hy
        · obtain rfl : j = k := by omega
          rw [unhide HK] at hy
          cases hy
          exact hx
      have HN : Hid (ruleT X x = false → T.all (ruleT X) = false) := fun hx => List.all_eq_false.2 ⟨x, List.mem_of_getElem? (unhide HK), by simp [hx]⟩
      clear hkx HR0 HT2 hcl0 hb
      generalize ruleT X x = fx at *
      cases fx with
      | true =>
        go_wp2_with fail
        refine (unhide HFX).mono ?_
        rintro e w3 ⟨rfl, hb3⟩
        have HB3 := hide (btG (unhide HBr) hb3)
        clear hb3
        go_wp2_with fail
        go_roundw
        case rel => exact ⟨k + 1, rfl, unhide HB3, by omega, unhide HM (by first | rfl | trivial)⟩
        case measure => simp only [intOf]; omega
      | false =>
        go_wp2_with fail
        refine (unhide HFX).mono ?_
        rintro e w3 ⟨rfl, hb3⟩
        have HB3 := hide (btG (unhide HBr) hb3)
        clear hb3
        go_wp2_with fail
        go_ret
        exact ⟨retB ((unhide HE).symm.trans (unhide HN (by first | rfl | trivial))), unhide HB3⟩
    · have c2 : ¬ (k : Int) < (len : Int) := by omega
      have HX : Hid (T.all (ruleT X) = true) := List.all_eq_true.2 fun x hx => by
        obtain ⟨j, hj⟩ := List.getElem?_of_mem hx
        exact unhide HA j x (by have := (List.getElem?_eq_some_iff.1 hj).1; have := HL.out; omega) hj
      clear hb
      go_wp2_with fail
      go_ret
      exact ⟨retB ((unhide HE).symm.trans (unhide HX)), unhide HBr⟩

theorem infoWk : (Tryz.prog.info? 40).map (·.size) = some 11 := by kernel_rfl
set_option maxRecDepth 100000 in
set_option maxHeartbeats 4000000 in
theorem makeTaken (cs : List Value) (w : World) :
    Calls Tryz.prog 38 #[.agg cs.toArray] w fun e w' => e = .returned (.func (.func 68) #[] #[.pointer (some ⟨w.heap.size, 0, none⟩)]) ∧ (Box w' w.heap.size 40 cs ∧ Below w.heap.size w w') := by
  go_enter Tryz.func38, Tryz.ntmps38
  go_wp2_with fail
  go_ret
  exact ⟨rfl, Box.new w 40 cs, abG _⟩
theorem things_len (X : Wd) (hz : ww X ≤ 1048576) : (thingsOf X).length ≤ 4194304 := by
  unfold thingsOf
  simp only [List.length_cons, List.length_append, List.length_map]
  unfold ww at hz
  omega
set_option maxRecDepth 100000 in
set_option maxHeartbeats 4000000 in
theorem keepTaken (X : Wd) (cs : List Value) (g : Nat) (w : World) (h : wdAt w 0 X cs) (hz : ww X ≤ 1048576) (hg : w.cell? ⟨g, 0, none⟩ = some (.func (.func 38) #[] #[])) :
    Calls Tryz.prog 28 #[.agg cs.toArray, .slice (some ⟨g, 0, none⟩) 1 1] w fun e w' => e = .returned (.bool (worldB X && (thingsOf X).all (ruleT X))) ∧ Below w.heap.size w w' := by
  have h0 := h
  obtain ⟨-, ak, ck, ac, cc, ah, ch, al, cl, aa, ca, az, cz, ai, ci, rfl, -⟩ := h
  have HS := hide (fun v hv => worldI X [.int .i64 X.time, .int .i64 X.fresh, .slice ak X.known.length ck, .slice ac X.cache.length cc, .slice ah X.hosts.length ch, .slice al X.letters.length cl, .string X.book, .int .i64 X.sure, .slice aa X.calls.length ca, .slice az X.talks.length cz, .slice ai X.told.length ci] v (wdK.on (w := w) (L := 0) (x := X) h0 hv) hz)
  have HJ := hide (fun v hv => judgedI X [.int .i64 X.time, .int .i64 X.fresh, .slice ak X.known.length ck, .slice ac X.cache.length cc, .slice ah X.hosts.length ch, .slice al X.letters.length cl, .string X.book, .int .i64 X.sure, .slice aa X.calls.length ca, .slice az X.talks.length cz, .slice ai X.told.length ci] v (wdK.on (w := w) (L := 0) (x := X) h0 hv) hz)
  have HTL := hide (things_len X hz)
  have HG := hide hg
  show Calls Tryz.prog 28 #[.agg #[.int .i64 X.time, .int .i64 X.fresh, .slice ak X.known.length ck, .slice ac X.cache.length cc, .slice ah X.hosts.length ch, .slice al X.letters.length cl, .string X.book, .int .i64 X.sure, .slice aa X.calls.length ca, .slice az X.talks.length cz, .slice ai X.told.length ci], .slice (some ⟨g, 0, none⟩) 1 1] w _
  have HX := hide (Box.new w 40 [.int .i64 X.time, .int .i64 X.fresh, .slice ak X.known.length ck, .slice ac X.cache.length cc, .slice ah X.hosts.length ch, .slice al X.letters.length cl, .string X.book, .int .i64 X.sure, .slice aa X.calls.length ca, .slice az X.talks.length cz, .slice ai X.told.length ci])
  have HMK := hide (fun v => makeTaken [.int .i64 X.time, .int .i64 X.fresh, .slice ak X.known.length ck, .slice ac X.cache.length cc, .slice ah X.hosts.length ch, .slice al X.letters.length cl, .string X.book, .int .i64 X.sure, .slice aa X.calls.length ca, .slice az X.talks.length cz, .slice ai X.told.length ci] v)
  obtain ⟨R, hR⟩ : ∃ R, R = (worldB X && (thingsOf X).all (ruleT X)) := ⟨_, rfl⟩
  rw [← hR]
  have HW := hide hR
  have HW0 := hide h0
  have HZ0 := hide hz
  clear h0 hz hg hR
  generalize worldB X = wb at *
  go_enter Tryz.func28, Tryz.ntmps28
  go_wp2_with fail
  refine (unhide HS _ (abG _)).mono ?_
  rintro e w1 ⟨rfl, hb1⟩
  have HB1 := hide (btG (abG _) hb1)
  have HX1 := hide ((unhide HX).on hb1)
  clear hb1 HX HS
  cases wb with
  | false =>
    have HE : Hid (R = false) := by show R = false; rw [unhide HW]; rfl
    go_wp2_with fail
    go_ret
    exact ⟨retB (unhide HE), unhide HB1⟩
  | true =>
    have HW2 : Hid (R = (thingsOf X).all (ruleT X)) := by show R = _; rw [unhide HW]; rfl
    clear HW
    go_wp2_with (refine wpList_load_box rfl _ rfl w.heap.size 0 [.int .i64 X.time, .int .i64 X.fresh, .slice ak X.known.length ck, .slice ac X.cache.length cc, .slice ah X.hosts.length ch, .slice al X.letters.length cl, .string X.book, .int .i64 X.sure, .slice aa X.calls.length ca, .slice az X.talks.length cz, .slice ai X.told.length ci] (unhide HX1) (fun j v hj => (by rw [Nat.zero_add]; exact hj)) rfl Tryz.underlying40 rfl infoWk ?_)
    refine (unhide HJ _ (unhide HB1)).mono ?_
    rintro e w2 ⟨ta, tc, rfl, hls, hb2⟩
    have HB2 := hide (btG (unhide HB1) hb2)
    have HX2 := hide ((unhide HX1).on hb2)
    have HLS := hide hls
    clear hb2 hls HX1 HJ HB1
    go_wp2_with fail
    go_loopw [15] (fun i wr => ∃ k : Nat, i = .int .i64 k ∧ Below w2.heap.size w2 wr ∧ k ≤ 1 ∧ (k = 1 → (thingsOf X).all (ruleT X) = true)) (fun i _ => 1 - (intOf i).toNat)
    case atStart => exact ⟨0, rfl, Below.refl _ _, by omega, fun h => by omega⟩
    case round =>
      obtain ⟨k, rfl, hb, hk, ha⟩ := hrel
      have HBr := hide hb
      have HA := hide ha
      clear ha
      by_cases hp : k < 1
      · obtain rfl : k = 0 := by omega
        have d0 : wr.cell? ⟨g, 0, none⟩ = some (.func (.func 38) #[] #[]) := below_some (btG (unhide HB2) hb) (unhide HG)
        have HXr := hide ((unhide HX2).on hb)
        have HRT := hide (fun v (hv : Below wr.heap.size wr v) gx (hbx : Box v gx 40 [.int .i64 X.time, .int .i64 X.fresh, .slice ak X.known.length ck, .slice ac X.cache.length cc, .slice ah X.hosts.length ch, .slice al X.letters.length cl, .string X.book, .int .i64 X.sure, .slice aa X.calls.length ca, .slice az X.talks.length cz, .slice ai X.told.length ci]) => rightTaken X [.int .i64 X.time, .int .i64 X.fresh, .slice ak X.known.length ck, .slice ac X.cache.length cc, .slice ah X.hosts.length ch, .slice al X.letters.length cl, .string X.book, .int .i64 X.sure, .slice aa X.calls.length ca, .slice az X.talks.length cz, .slice ai X.told.length ci] gx (thingsOf X) ta tc v ((unhide HLS).on (btG hb hv)) (unhide HTL) (wdK.on (w := w) (L := 0) (x := X) (unhide HW0) (btG (btG (unhide HB2) hb) hv)) hbx (unhide HZ0))
        clear hb
        cases hall : (thingsOf X).all (ruleT X) with
        | false =>
          rw [hall] at HRT
          have HE : Hid (R = false) := by show R = _; rw [unhide HW2, hall]
          clear hall
          go_wp2_with (refine wpList_load_box rfl _ rfl w.heap.size 0 [.int .i64 X.time, .int .i64 X.fresh, .slice ak X.known.length ck, .slice ac X.cache.length cc, .slice ah X.hosts.length ch, .slice al X.letters.length cl, .string X.book, .int .i64 X.sure, .slice aa X.calls.length ca, .slice az X.talks.length cz, .slice ai X.told.length ci] (unhide HXr) (fun j v hj => (by rw [Nat.zero_add]; exact hj)) rfl Tryz.underlying40 rfl infoWk ?_)
          refine (unhide HMK _).mono ?_
          rintro e w3 ⟨rfl, hbx, hb3⟩
          go_wp2_with fail
          refine (unhide HRT _ hb3 _ hbx).mono ?_
          rintro e w4 ⟨rfl, hb4⟩
          have HB4 := hide (btG (btG (unhide HB2) (unhide HBr)) (btG hb3 hb4))
          clear hb3 hb4
          go_wp2_with fail
          go_ret
          exact ⟨retB (unhide HE), unhide HB4⟩
        | true =>
          rw [hall] at HRT
          have HAL := hide hall
          clear hall
          go_wp2_with (refine wpList_load_box rfl _ rfl w.heap.size 0 [.int .i64 X.time, .int .i64 X.fresh, .slice ak X.known.length ck, .slice ac X.cache.length cc, .slice ah X.hosts.length ch, .slice al X.letters.length cl, .string X.book, .int .i64 X.sure, .slice aa X.calls.length ca, .slice az X.talks.length cz, .slice ai X.told.length ci] (unhide HXr) (fun j v hj => (by rw [Nat.zero_add]; exact hj)) rfl Tryz.underlying40 rfl infoWk ?_)
          refine (unhide HMK _).mono ?_
          rintro e w3 ⟨rfl, hbx, hb3⟩
          go_wp2_with fail
          refine (unhide HRT _ hb3 _ hbx).mono ?_
          rintro e w4 ⟨rfl, hb4⟩
          have HB4 := hide (btG (unhide HBr) (btG hb3 hb4))
          clear hb3 hb4
          go_wp2_with fail
          go_roundw
          case rel => exact ⟨1, rfl, unhide HB4, by omega, by first | exact fun _ => unhide HAL | exact fun _ => trivial | simp⟩
          case measure => simp only [intOf]; omega
      · obtain rfl : k = 1 := by omega
        have HE : Hid (R = true) := by show R = true; rw [unhide HW2]; exact unhide HA rfl
        clear hb
        go_wp2_with fail
        go_ret
        exact ⟨retB (unhide HE), btG (unhide HB2) (unhide HBr)⟩

set_option maxRecDepth 100000 in
set_option maxHeartbeats 4000000 in
theorem judgeTakenI (X : Wd) (cs : List Value) (w : World) (h : wdAt w 0 X cs) (hz : ww X ≤ 1048576) :
    Calls Tryz.prog 11 #[.agg cs.toArray] w fun e w' => e = .returned (.bool (takenB X)) ∧ Below w.heap.size w w' := by
  have h0 := h
  obtain ⟨-, ak, ck, ac, cc, ah, ch, al, cl, aa, ca, az, cz, ai, ci, rfl, -⟩ := h
  have HB1 := hide (abG (w := w) (.cells #[.int .i64 X.time, .int .i64 X.fresh, .slice ak X.known.length ck, .slice ac X.cache.length cc, .slice ah X.hosts.length ch, .slice al X.letters.length cl, .string X.book, .int .i64 X.sure, .slice aa X.calls.length ca, .slice az X.talks.length cz, .slice ai X.told.length ci] 40))
  have HK := hide (fun g v hv => keepTaken X [.int .i64 X.time, .int .i64 X.fresh, .slice ak X.known.length ck, .slice ac X.cache.length cc, .slice ah X.hosts.length ch, .slice al X.letters.length cl, .string X.book, .int .i64 X.sure, .slice aa X.calls.length ca, .slice az X.talks.length cz, .slice ai X.told.length ci] g v (wdK.on (w := w) (L := 0) (x := X) h0 hv) hz)
  have HE : Hid (takenB X = (worldB X && (thingsOf X).all (ruleT X))) := hide (by unfold takenB; rw [all_thingsT])
  have hd : ((w.alloc (.cells #[.int .i64 X.time, .int .i64 X.fresh, .slice ak X.known.length ck, .slice ac X.cache.length cc, .slice ah X.hosts.length ch, .slice al X.letters.length cl, .string X.book, .int .i64 X.sure, .slice aa X.calls.length ca, .slice az X.talks.length cz, .slice ai X.told.length ci] 40)).alloc (.cells #[.func (.func 38) #[] #[]] 66)).cell? ⟨w.heap.size + 1, 0, none⟩ = some (.func (.func 38) #[] #[]) := by
    have := box_cell (w.alloc (.cells #[.int .i64 X.time, .int .i64 X.fresh, .slice ak X.known.length ck, .slice ac X.cache.length cc, .slice ah X.hosts.length ch, .slice al X.letters.length cl, .string X.book, .int .i64 X.sure, .slice aa X.calls.length ca, .slice az X.talks.length cz, .slice ai X.told.length ci] 40)) #[.func (.func 38) #[] #[]] 66 0 _ rfl
    rwa [heap_size_alloc] at this
  have HD := hide hd
  have HBB : Hid (Below w.heap.size w ((w.alloc (.cells #[.int .i64 X.time, .int .i64 X.fresh, .slice ak X.known.length ck, .slice ac X.cache.length cc, .slice ah X.hosts.length ch, .slice al X.letters.length cl, .string X.book, .int .i64 X.sure, .slice aa X.calls.length ca, .slice az X.talks.length cz, .slice ai X.told.length ci] 40)).alloc (.cells #[.func (.func 38) #[] #[]] 66))) := hide (btG (abG _) (abG _))
  clear h0 hz hd
  generalize (worldB X && (thingsOf X).all (ruleT X)) = R at *
  generalize takenB X = R2 at *
  show Calls Tryz.prog 11 #[.agg #[.int .i64 X.time, .int .i64 X.fresh, .slice ak X.known.length ck, .slice ac X.cache.length cc, .slice ah X.hosts.length ch, .slice al X.letters.length cl, .string X.book, .int .i64 X.sure, .slice aa X.calls.length ca, .slice az X.talks.length cz, .slice ai X.told.length ci]] w _
  go_enter Tryz.func11, Tryz.ntmps11
  go_wp2_with fail
  refine (unhide HK (w.heap.size + 1) _ (unhide HBB) (unhide HD)).mono ?_
  rintro e w2 ⟨rfl, hb2⟩
  have HB2 := hide (btG (unhide HBB) hb2)
  clear hb2
  go_wp2_with fail
  go_ret
  exact ⟨retB (unhide HE), unhide HB2⟩

set_option maxRecDepth 100000 in
set_option maxHeartbeats 4000000 in
theorem lawJudgeTaken (X : Wd) (cs : List Value) (w : World) (h : wdAt w 0 X cs) :
    Calls Tryz.prog 4 #[.agg cs.toArray] w fun e w' => e = .returned (.bool true) ∧ Below w.heap.size w w' := by
  have hw0 := h
  have h4 := hide (fun v hv => szWd X cs 1048576 v hv (by omega) (by omega))
  obtain ⟨-, ak, ck, ac, cc, ah, ch, al, cl, aa, ca, az, cz, ai, ci, rfl, -⟩ := h
  have hb0 := abG (w := w) (.cells #[.int .i64 X.time, .int .i64 X.fresh, .slice ak X.known.length ck, .slice ac X.cache.length cc, .slice ah X.hosts.length ch, .slice al X.letters.length cl, .string X.book, .int .i64 X.sure, .slice aa X.calls.length ca, .slice az X.talks.length cz, .slice ai X.told.length ci] 30)
  have HB0 := hide hb0
  have HW0 := hide (wdK.on (w := w) (L := 0) (x := X) hw0 hb0)
  have HX := hide (Box.new w 30 [.int .i64 X.time, .int .i64 X.fresh, .slice ak X.known.length ck, .slice ac X.cache.length cc, .slice ah X.hosts.length ch, .slice al X.letters.length cl, .string X.book, .int .i64 X.sure, .slice aa X.calls.length ca, .slice az X.talks.length cz, .slice ai X.told.length ci])
  show Calls Tryz.prog 4 #[.agg #[.int .i64 X.time, .int .i64 X.fresh, .slice ak X.known.length ck, .slice ac X.cache.length cc, .slice ah X.hosts.length ch, .slice al X.letters.length cl, .string X.book, .int .i64 X.sure, .slice aa X.calls.length ca, .slice az X.talks.length cz, .slice ai X.told.length ci]] w _
  clear hw0 hb0
  by_cases hw : ((ww X : Nat) : Int) ≤ 1048576
  · have hz : ww X ≤ 1048576 := by omega
    have h6 := hide (fun cs v hv => toWd X cs v hv hz)
    have h5 := hide (fun cs v hv => takenS X cs v hv hz)
    have h7 := hide (fun cs v hv => judgeTakenI X cs v hv hz)
    have h8 := hide (fun cs cs' v hv hv' => eqWd X cs cs' v hv hv' hz)
    rw [szv_yes hw] at h4
    obtain ⟨left, hleft⟩ : ∃ left : Int, left = 1048576 - ((ww X : Nat) : Int) := ⟨_, rfl⟩
    rw [← hleft] at h4
    have hln : ¬ left < 0 := by omega
    generalize takenB X = ok at *
    have hne : (ok != ok) = false := by simp
    clear hleft hw hz
    go_enter Tryz.func4, Tryz.ntmps4
    go_wp2_with (refine wpList_load_box rfl _ rfl w.heap.size 0 [.int .i64 X.time, .int .i64 X.fresh, .slice ak X.known.length ck, .slice ac X.cache.length cc, .slice ah X.hosts.length ch, .slice al X.letters.length cl, .string X.book, .int .i64 X.sure, .slice aa X.calls.length ca, .slice az X.talks.length cz, .slice ai X.told.length ci] (unhide HX) (fun j v hj => (by rw [Nat.zero_add]; exact hj)) rfl Tryz.underlying30 rfl infoWL ?_)
    refine (unhide h4 _ (unhide HW0)).mono ?_
    rintro e w2 ⟨rfl, hb2⟩
    have HB2 := hide (btG (unhide HB0) hb2)
    have HW2 := hide (wdK.on (w := _) (L := 0) (x := X) (unhide HW0) hb2)
    have HX2 := hide ((unhide HX).on hb2)
    clear hb2 HB0 HW0 HX h4
    go_wp2_with (refine wpList_load_box rfl _ rfl w.heap.size 0 [.int .i64 X.time, .int .i64 X.fresh, .slice ak X.known.length ck, .slice ac X.cache.length cc, .slice ah X.hosts.length ch, .slice al X.letters.length cl, .string X.book, .int .i64 X.sure, .slice aa X.calls.length ca, .slice az X.talks.length cz, .slice ai X.told.length ci] (unhide HX2) (fun j v hj => (by rw [Nat.zero_add]; exact hj)) rfl Tryz.underlying30 rfl infoWL ?_)
    refine (unhide h6 _ _ (unhide HW2)).mono ?_
    rintro e w3 ⟨c3, rfl, hx3, hb3⟩
    have HB3 := hide (btG (unhide HB2) hb3)
    have HW3 := hide (wdK.on (w := _) (L := 0) (x := X) (unhide HW2) hb3)
    have HX3 := hide ((unhide HX2).on hb3)
    have HN3 := hide (wdK.low (w := _) (x := X) hx3 (Nat.zero_le _))
    clear hb3 hx3 HB2 HW2 HX2
    go_wp2_with fail
    refine (unhide h5 _ _ (unhide HN3)).mono ?_
    rintro e w4 ⟨rfl, hb4⟩
    have HB4 := hide (btG (unhide HB3) hb4)
    have HW4 := hide (wdK.on (w := _) (L := 0) (x := X) (unhide HW3) hb4)
    have HX4 := hide ((unhide HX3).on hb4)
    clear hb4 HB3 HW3 HX3 HN3 h5
    go_wp2_with (refine wpList_load_box rfl _ rfl w.heap.size 0 [.int .i64 X.time, .int .i64 X.fresh, .slice ak X.known.length ck, .slice ac X.cache.length cc, .slice ah X.hosts.length ch, .slice al X.letters.length cl, .string X.book, .int .i64 X.sure, .slice aa X.calls.length ca, .slice az X.talks.length cz, .slice ai X.told.length ci] (unhide HX4) (fun j v hj => (by rw [Nat.zero_add]; exact hj)) rfl Tryz.underlying30 rfl infoWL ?_)
    refine (unhide h6 _ _ (unhide HW4)).mono ?_
    rintro e w5 ⟨c5, rfl, hx5, hb5⟩
    have HB5 := hide (btG (unhide HB4) hb5)
    have HW5 := hide (wdK.on (w := _) (L := 0) (x := X) (unhide HW4) hb5)
    have HX5 := hide ((unhide HX4).on hb5)
    have HO5 := hide (Box.new w5 40 [.int .i64 0, .int .i64 0, .slice none 0 0, .slice none 0 0, .slice none 0 0, .slice none 0 0, .string ⟨#[]⟩, .int .i64 0, .slice none 0 0, .slice none 0 0, .slice none 0 0])
    have HN5 := hide (wdK.low (w := _) (x := X) hx5 (Nat.zero_le _))
    have hl5 := hide (wdK.len (w := w5) (L := _) (x := X) hx5)
    have ho5 := hide (wdK.one (w := w5) (L := _) (x := X) hx5)
    have hsz : w.heap.size < w5.heap.size := by have := ((unhide HX4).on hb5).lt; exact this
    have HSZ := hide hsz
    clear hb5 hx5 HB4 HW4 HX4 hsz
    go_wp2_with (first
    | (refine wpList_store_box rfl _ _ rfl w5.heap.size 0 c5 (unhide HO5) (by rw [unhide hl5]; decide) rfl rfl (by rw [unhide hl5]; exact infoW) (unhide ho5) ?_
       intro V hV
       have HOV : Hid (Box V w5.heap.size 40 c5) := (by
         rw [hV]
         have hp : puts [.int .i64 0, .int .i64 0, .slice none 0 0, .slice none 0 0, .slice none 0 0, .slice none 0 0, .string ⟨#[]⟩, .int .i64 0, .slice none 0 0, .slice none 0 0, .slice none 0 0] 0 c5 = c5 := puts_all (by rw [unhide hl5]; rfl)
         have := Box.sets c5 0 _ _ (unhide HO5)
         rw [hp] at this
         exact this)
       have HVB : Hid (Below w5.heap.size w5 V) := (by rw [hV]; exact setsG (abG _) (Nat.le_refl _))
       have HXV := hide ((unhide HX5).on (unhide HVB))
       have HBV := hide (btG (unhide HB5) (unhide HVB))
       have HWV := hide (wdK.on (w := _) (L := 0) (x := X) (unhide HW5) (unhide HVB))
       have HNV := hide (wdK.on (w := _) (L := 0) (x := X) (unhide HN5) (unhide HVB))
       clear hV HO5 HB5 HW5 HX5 HN5 HVB)
    | (refine wpList_load_box rfl _ rfl w5.heap.size 0 c5 (unhide HOV) (fun j v hj => (by rw [Nat.zero_add]; exact hj)) rfl Tryz.underlying40 rfl (by rw [unhide hl5]; exact infoW) ?_))
    refine (unhide h7 _ _ (unhide HNV)).mono ?_
    rintro e w6 ⟨rfl, hb6⟩
    have HB6 := hide (btG (unhide HBV) hb6)
    have HW6 := hide (wdK.on (w := _) (L := 0) (x := X) (unhide HWV) hb6)
    have HX6 := hide ((unhide HXV).on hb6)
    have HO6 := hide ((unhide HOV).on hb6)
    have HN6 := hide (wdK.on (w := _) (L := 0) (x := X) (unhide HNV) hb6)
    clear hb6 HBV HWV HXV HOV HNV hl5 ho5 HSZ
    obtain ⟨g5, hg5⟩ : ∃ g : Nat, g = w5.heap.size := ⟨_, rfl⟩
    rw [← hg5] at HO6 ⊢
    clear hg5
    have hn6 : wdAt w6 0 X c5 := unhide HN6
    obtain ⟨-, ak5, ck5, ac5, cc5, ah5, ch5, al5, cl5, aa5, ca5, az5, cz5, ai5, ci5, rfl, -⟩ := hn6
    have c0 : w6.cell? ⟨w.heap.size, 0, none⟩ = some (.int .i64 X.time) := (unhide HX6).cell rfl
    have c1 : w6.cell? ⟨w.heap.size, 1, none⟩ = some (.int .i64 X.fresh) := (unhide HX6).cell rfl
    have c2 : w6.cell? ⟨w.heap.size, 2, none⟩ = some (.slice ak X.known.length ck) := (unhide HX6).cell rfl
    have c3 : w6.cell? ⟨w.heap.size, 3, none⟩ = some (.slice ac X.cache.length cc) := (unhide HX6).cell rfl
    have c4 : w6.cell? ⟨w.heap.size, 4, none⟩ = some (.slice ah X.hosts.length ch) := (unhide HX6).cell rfl
    have c5 : w6.cell? ⟨w.heap.size, 5, none⟩ = some (.slice al X.letters.length cl) := (unhide HX6).cell rfl
    have c6 : w6.cell? ⟨w.heap.size, 6, none⟩ = some (.string X.book) := (unhide HX6).cell rfl
    have c7 : w6.cell? ⟨w.heap.size, 7, none⟩ = some (.int .i64 X.sure) := (unhide HX6).cell rfl
    have c8 : w6.cell? ⟨w.heap.size, 8, none⟩ = some (.slice aa X.calls.length ca) := (unhide HX6).cell rfl
    have c9 : w6.cell? ⟨w.heap.size, 9, none⟩ = some (.slice az X.talks.length cz) := (unhide HX6).cell rfl
    have c10 : w6.cell? ⟨w.heap.size, 10, none⟩ = some (.slice ai X.told.length ci) := (unhide HX6).cell rfl
    have d0 : w6.cell? ⟨g5, 0, none⟩ = some (.int .i64 X.time) := (unhide HO6).cell rfl
    have d1 : w6.cell? ⟨g5, 1, none⟩ = some (.int .i64 X.fresh) := (unhide HO6).cell rfl
    have d2 : w6.cell? ⟨g5, 2, none⟩ = some (.slice ak5 X.known.length ck5) := (unhide HO6).cell rfl
    have d3 : w6.cell? ⟨g5, 3, none⟩ = some (.slice ac5 X.cache.length cc5) := (unhide HO6).cell rfl
    have d4 : w6.cell? ⟨g5, 4, none⟩ = some (.slice ah5 X.hosts.length ch5) := (unhide HO6).cell rfl
    have d5 : w6.cell? ⟨g5, 5, none⟩ = some (.slice al5 X.letters.length cl5) := (unhide HO6).cell rfl
    have d6 : w6.cell? ⟨g5, 6, none⟩ = some (.string X.book) := (unhide HO6).cell rfl
    have d7 : w6.cell? ⟨g5, 7, none⟩ = some (.int .i64 X.sure) := (unhide HO6).cell rfl
    have d8 : w6.cell? ⟨g5, 8, none⟩ = some (.slice aa5 X.calls.length ca5) := (unhide HO6).cell rfl
    have d9 : w6.cell? ⟨g5, 9, none⟩ = some (.slice az5 X.talks.length cz5) := (unhide HO6).cell rfl
    have d10 : w6.cell? ⟨g5, 10, none⟩ = some (.slice ai5 X.told.length ci5) := (unhide HO6).cell rfl
    go_wp2_with fail
    go_region_with (first
      | (go_at_call 7
         refine (unhide h6 _ _ (wdK.on (w := _) (L := 0) (x := X) (unhide HW6) (Below.refl _ _).drew)).mono ?_
         rintro e w7 ⟨c7, rfl, hx7, hb7⟩
         have hb7' := below_drewG hb7
         have HB7 := hide (btG (unhide HB6) hb7')
         have HN7 := hide (wdK.on (w := _) (L := 0) (x := X) (unhide HN6) hb7')
         have HM7 := hide (wdK.low (w := _) (x := X) hx7 (Nat.zero_le _))
         have HO7 := hide ((unhide HO6).on hb7')
         have e0 : w7.cell? ⟨g5, 0, none⟩ = some (.int .i64 X.time) := (unhide HO7).cell rfl
         have e1 : w7.cell? ⟨g5, 1, none⟩ = some (.int .i64 X.fresh) := (unhide HO7).cell rfl
         have e2 : w7.cell? ⟨g5, 2, none⟩ = some (.slice ak5 X.known.length ck5) := (unhide HO7).cell rfl
         have e3 : w7.cell? ⟨g5, 3, none⟩ = some (.slice ac5 X.cache.length cc5) := (unhide HO7).cell rfl
         have e4 : w7.cell? ⟨g5, 4, none⟩ = some (.slice ah5 X.hosts.length ch5) := (unhide HO7).cell rfl
         have e5 : w7.cell? ⟨g5, 5, none⟩ = some (.slice al5 X.letters.length cl5) := (unhide HO7).cell rfl
         have e6 : w7.cell? ⟨g5, 6, none⟩ = some (.string X.book) := (unhide HO7).cell rfl
         have e7 : w7.cell? ⟨g5, 7, none⟩ = some (.int .i64 X.sure) := (unhide HO7).cell rfl
         have e8 : w7.cell? ⟨g5, 8, none⟩ = some (.slice aa5 X.calls.length ca5) := (unhide HO7).cell rfl
         have e9 : w7.cell? ⟨g5, 9, none⟩ = some (.slice az5 X.talks.length cz5) := (unhide HO7).cell rfl
         have e10 : w7.cell? ⟨g5, 10, none⟩ = some (.slice ai5 X.told.length ci5) := (unhide HO7).cell rfl
         clear hx7 hb7 hb7')
      | (go_at_call 9
         refine (unhide h8 _ _ _ (unhide HN7) (unhide HM7)).mono ?_
         rintro e w8 ⟨rfl, hb8⟩
         have HB8 := hide (btG (unhide HB7) hb8)))
    all_goals
      go_wp2_with fail
      go_ret
      exact ⟨rfl, unhide HB8⟩
  · rw [szv_no (by omega)] at h4
    clear hw
    go_enter Tryz.func4, Tryz.ntmps4
    go_wp2_with (refine wpList_load_box rfl _ rfl w.heap.size 0 [.int .i64 X.time, .int .i64 X.fresh, .slice ak X.known.length ck, .slice ac X.cache.length cc, .slice ah X.hosts.length ch, .slice al X.letters.length cl, .string X.book, .int .i64 X.sure, .slice aa X.calls.length ca, .slice az X.talks.length cz, .slice ai X.told.length ci] (unhide HX) (fun j v hj => (by rw [Nat.zero_add]; exact hj)) rfl Tryz.underlying30 rfl infoWL ?_)
    refine (unhide h4 _ (unhide HW0)).mono ?_
    rintro e w2 ⟨rfl, hb2⟩
    have HB2 := hide (btG (unhide HB0) hb2)
    clear hb2
    go_wp2_with fail
    go_ret
    exact ⟨rfl, unhide HB2⟩

end Go.Proofs.YtbohladjahpfcaaGreat
