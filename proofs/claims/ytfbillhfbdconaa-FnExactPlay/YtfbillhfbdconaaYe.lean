
/- The end of a letter, and whether its tries are spent: the walks of spec.LetterEnd, impl.LetterEnd, spec.Spent, impl.Spent. -/
import Derived.Test.YtfbillhfbdconaaYu
namespace Go.Proofs.Ytfbillhfbdconaa
open Go.RowKit Go.Deep

/-- What a letter's state is behind its end. -/
def endX (s : Int) (g : Bool) : Int := if s = 1 then (if g = true then 2 else 3) else s
theorem endX_no {s : Int} (g : Bool) (h : ¬ s = 1) : endX s g = s := by unfold endX; rw [if_neg h]

set_option maxRecDepth 100000 in
set_option maxHeartbeats 2000000 in
theorem endS (d : ByteArray) (b s t n : Int) (g : Bool) (w : World) : Calls Try.prog 22 #[.agg #[.string d, .int .i64 b, .int .i64 s, .int .i64 t, .int .i64 n], .bool g] w fun e w' => e = .returned (.agg #[.string d, .int .i64 b, .int .i64 (endX s g), .int .i64 t, .int .i64 n]) ∧ Below w.heap.size w w' := by
  by_cases h1 : s = 1
  · subst h1
    cases g with
    | false =>
      have HB0 := hide (btP (abP (w := w) (.cells #[.string d, .int .i64 b, .int .i64 3, .int .i64 t, .int .i64 n] 44)) (abP (.cells #[.string d, .int .i64 b, .int .i64 3, .int .i64 t, .int .i64 n] 44)))
      go_enter Try.func22, Try.ntmps22
      go_wp2_with fail
      refine bodyPost_ret (v := .agg #[.string d, .int .i64 b, .int .i64 3, .int .i64 t, .int .i64 n]) (by simp [results, Try.results22, go_sem]) rfl ⟨rfl, ?_⟩
      exact unhide HB0
    | true =>
      have HB0 := hide (btP (abP (w := w) (.cells #[.string d, .int .i64 b, .int .i64 2, .int .i64 t, .int .i64 n] 44)) (abP (.cells #[.string d, .int .i64 b, .int .i64 2, .int .i64 t, .int .i64 n] 44)))
      go_enter Try.func22, Try.ntmps22
      go_wp2_with fail
      refine bodyPost_ret (v := .agg #[.string d, .int .i64 b, .int .i64 2, .int .i64 t, .int .i64 n]) (by simp [results, Try.results22, go_sem]) rfl ⟨rfl, ?_⟩
      exact unhide HB0
  · rw [endX_no g h1]
    have HB0 := hide (btP (abP (w := w) (.cells #[.string d, .int .i64 b, .int .i64 s, .int .i64 t, .int .i64 n] 44)) (abP (.cells #[.string d, .int .i64 b, .int .i64 s, .int .i64 t, .int .i64 n] 44)))
    go_enter Try.func22, Try.ntmps22
    go_wp2_with fail
    refine bodyPost_ret (v := .agg #[.string d, .int .i64 b, .int .i64 s, .int .i64 t, .int .i64 n]) (by simp [results, Try.results22, go_sem]) rfl ⟨rfl, ?_⟩
    exact unhide HB0

set_option maxRecDepth 100000 in
set_option maxHeartbeats 2000000 in
theorem endP (d : ByteArray) (b s t n : Int) (g : Bool) (p : Nat) (w : World) (hr : RowL 44 w p d b s t n) :
    Calls Try.prog 38 #[.pointer (some ⟨p, 0, none⟩), .bool g] w fun e w' => (∃ v, e = .returned v) ∧ RowL 44 w' p d b (endX s g) t n ∧ Below p w w' := by
  have HX := hide hr
  have hW := hide (waitsI d b s t n p w hr)
  obtain ⟨c0, c1, c2, c3, c4⟩ := hr.facts
  have x2 := hr.free 2
  clear hr
  by_cases h1 : s = 1
  · rw [show decide (s = 1) = true from decide_eq_true h1] at hW
    subst h1
    cases g with
    | false =>
      go_enter Try.func38, Try.ntmps38
      go_wp2_with fail
      refine (unhide hW).mono ?_
      rintro e w1 ⟨rfl, rfl⟩
      go_wp2_with fail
      exact bodyPost_end (v := .tuple #[]) (by simp [results, Try.results38, go_sem]) rfl ⟨⟨_, rfl⟩, (unhide HX).set2 3, setB (Below.refl _ _) (Nat.le_refl _)⟩
    | true =>
      go_enter Try.func38, Try.ntmps38
      go_wp2_with fail
      refine (unhide hW).mono ?_
      rintro e w1 ⟨rfl, rfl⟩
      go_wp2_with fail
      exact bodyPost_end (v := .tuple #[]) (by simp [results, Try.results38, go_sem]) rfl ⟨⟨_, rfl⟩, ((unhide HX).set2 3).set2 2, setB (setB (Below.refl _ _) (Nat.le_refl _)) (Nat.le_refl _)⟩
  · rw [endX_no g h1]
    rw [show decide (s = 1) = false from decide_eq_false h1] at hW
    clear h1
    go_enter Try.func38, Try.ntmps38
    go_wp2_with fail
    refine (unhide hW).mono ?_
    rintro e w1 ⟨rfl, rfl⟩
    go_wp2_with fail
    exact bodyPost_ret (v := .tuple #[]) (by simp [results, Try.results38, go_sem]) rfl ⟨⟨_, rfl⟩, unhide HX, Below.refl _ _⟩

set_option maxRecDepth 100000 in
set_option maxHeartbeats 2000000 in
theorem endI (d : ByteArray) (b s t n : Int) (g : Bool) (w : World) (hd : d.size ≤ 2097152) : Calls Try.prog 35 #[.agg #[.string d, .int .i64 b, .int .i64 s, .int .i64 t, .int .i64 n], .bool g] w fun e w' => e = .returned (.agg #[.string d, .int .i64 b, .int .i64 (endX s g), .int .i64 t, .int .i64 n]) ∧ Below w.heap.size w w' := by
  have HB0 := hide (btP (abP (w := w) (.cells #[.string d, .int .i64 b, .int .i64 s, .int .i64 t, .int .i64 n] 44)) (abP (.cells #[.string ⟨#[]⟩, .int .i64 0, .int .i64 0, .int .i64 0, .int .i64 0] 44)))
  have HX := hide ((RowL.new 44 w d b s t n).below (abP (.cells #[.string ⟨#[]⟩, .int .i64 0, .int .i64 0, .int .i64 0, .int .i64 0] 44)))
  have HY : Hid (RowL 44 ((w.alloc (.cells #[.string d, .int .i64 b, .int .i64 s, .int .i64 t, .int .i64 n] 44)).alloc (.cells #[.string ⟨#[]⟩, .int .i64 0, .int .i64 0, .int .i64 0, .int .i64 0] 44)) (w.heap.size + 1) ⟨#[]⟩ 0 0 0 0) := by
    have := RowL.new 44 (w.alloc (.cells #[.string d, .int .i64 b, .int .i64 s, .int .i64 t, .int .i64 n] 44)) ⟨#[]⟩ 0 0 0 0
    rwa [heap_size_alloc] at this
  have hO := hide (fun v => ownI d b s t n v hd)
  have hT := hide (fun p v hv => endP d b s t n g p v hv)
  clear hd
  generalize endX s g = ts at *
  go_enter Try.func35, Try.ntmps35
  go_wp2_with fail
  refine (unhide hO _).mono ?_
  rintro e w2 ⟨rfl, hr2, hb2⟩
  simp only [heap_size_alloc] at hr2
  have HR2 := hide hr2
  have HB2 := hide (btP (unhide HB0) hb2)
  have HY2 := hide ((unhide HY).below hb2)
  clear hr2 hb2
  go_wp2_with fail
  refine (unhide hT _ _ (unhide HR2)).mono ?_
  rintro e w1 ⟨⟨v, rfl⟩, hr1, hb1⟩
  have HR1 := hide hr1
  have HB1 : Hid (Below w.heap.size w w1) := (unhide HB2).trans (hb1.mono (by omega))
  have HX1 := HR1
  have HY1 := hide ((unhide HY2).under hb1 (by omega))
  obtain ⟨c0, c1, c2, c3, c4⟩ := (unhide HX1).facts
  obtain ⟨d0, d1, d2, d3, d4⟩ := (unhide HY1).facts
  have g0 := (unhide HY1).free 0
  have g1 := (unhide HY1).free 1
  have g2 := (unhide HY1).free 2
  have g3 := (unhide HY1).free 3
  have g4 := (unhide HY1).free 4
  clear hr1 hb1
  go_wp2_with fail
  refine bodyPost_ret (v := .agg #[.string d, .int .i64 b, .int .i64 ts, .int .i64 t, .int .i64 n]) (by simp [results, Try.results35, go_sem, d0, d1, d2, d3, d4]) rfl ⟨rfl, ?_⟩
  repeat refine setB ?_ (by omega)
  exact unhide HB1

/-- Whether its tries are spent. -/
def spentB (s t n now : Int) : Bool := decide (s = 1 ∧ t = 4 ∧ n ≤ now)
end Go.Proofs.Ytfbillhfbdconaa
