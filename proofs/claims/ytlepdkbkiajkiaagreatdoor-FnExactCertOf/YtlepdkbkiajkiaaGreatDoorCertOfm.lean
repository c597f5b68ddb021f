/- For every term that can be read as data, FnExactCertOf returns true and leaves its arguments as they were: impl.CertOf answers as the model does, at every argument, writes into none, and its answer owns its memory. Conditions: the row's own; the package-level variables that it lists begin as the program's text lays them, which the card ties to the pruned copy of the program. -/
import Derived.Test.YtlepdkbkiajkiaaGreatDoorRows
import Derived.Test.YtlepdkbkiajkiaaGreatDoorTm
import Derived.OpenShut
import Derived.ShutString
import Derived.ChangeOld
import Derived.Test.YtlepdkbkiajkiaaGreatDoorSx
import Derived.ProofKit
import Derived.LaidMore
import Derived.MakeChecks
import Derived.LaidHandle
import Derived.Stop.LaidErr
import Derived.Stop.LaidTwo
import Derived.Stop.Joined
import Derived.SevenTiedAt
import Derived.Test.YtlepdkbkiajkiaaGreatDoorSw
import Derived.Test.YtlepdkbkiajkiaaGreatDoorHd
import Derived.Deep.RegionHeld3
import Derived.Test.YtlepdkbkiajkiaaGreatDoorTie
import Derived.Test.YtlepdkbkiajkiaaGreatDoorCards
namespace Go.Proofs.YtlepdkbkiajkiaaGreatDoor
open Go.ChangeShapes Go.WideShapes Go.ChangeAt Go.RowKit Go.Deep
open Go.RowKit Go.Deep

set_option maxRecDepth 100000 in
theorem own : ownKnob Tryz.prog.godebug = none := by kernel_rfl
set_option maxRecDepth 100000 in
theorem laidOut : laidOutB Tryz.prog = true := by kernel_rfl
theorem cells24 : Tryz.prog.cellsOf 24 = 4 := by kernel_rfl

set_option maxRecDepth 100000 in
/-- An argument of the laws' own term type, opened. -/
theorem open_arg {H : Type} {enc : TypeId × Value → H} {W : World} {base : Nat} {v : Value} {d : DataW H} {p : List MemPlace} (hv : Value.okWide Tryz.prog W .any base 24 v) (h : DataW.Trod enc Tryz.prog W 0 (fun _ => true) true 24 v d p) :
    ∃ (t : Tm) (op n : Int) (s : ByteArray) (a : Option Addr) (len cap : Nat), v = .agg #[.int .i64 op, .int .i64 n, .string s, .slice a len cap] ∧ Lies W 0 t (tmCells op n s a len cap) := by
  obtain ⟨cs, rfl, hsz⟩ := okWide_struct Tryz.underlying24 hv
  obtain ⟨fuel, hf⟩ := h
  obtain ⟨T, hT⟩ := open_tm (t := 22) (e := 24) (tint := 3) (tstr := 9) Tryz.underlying24 (by kernel_rfl) cells24 rfl rfl rfl rfl Tryz.underlying3 Tryz.underlying9 Tryz.underlying22 fuel _ _ hf
  obtain ⟨op, n, s, a, len, cap, he⟩ := hT.cells
  rw [he] at hT
  refine ⟨T, op, n, s, a, len, cap, ?_, hT⟩
  have : cs = #[.int .i64 op, .int .i64 n, .string s, .slice a len cap] := by
    apply Array.ext'
    simpa [Value.cells, tmCells] using he
  rw [this]

def laid6 : List (String × DataW Unit) := [("math/bits.deBruijn32tab", Rows.laid_math_bits_deBruijn32tab), ("math/bits.deBruijn64tab", Rows.laid_math_bits_deBruijn64tab), ("internal/strconv.uint64pow10", Rows.laid_internal_strconv_uint64pow10), ("strconv.ErrRange", Rows.laid_strconv_ErrRange), ("strconv.ErrSyntax", Rows.laid_strconv_ErrSyntax), ("loop.example/g00328/impl.errNoTerm", Rows.laid_loop_example_g00328_impl_errNoTerm)]

set_option maxRecDepth 100000 in
theorem door6_met (os : Os) (args : Array Value) : laidMetH Tryz.prog laid6 ((World.doorLaid Tryz.prog 400 os).forCall (fun _ _ => 0) ⟨#[], args, []⟩).memory :=
  laidMetH_of_parts3 (fuel := 8) (laidMet_of_run' 8 (by kernel_rfl) (by kernel_rfl)) (by kernel_rfl) (by kernel_rfl)

set_option maxRecDepth 100000 in
theorem gE : Tryz.prog.globalNamed "loop.example/g00328/impl.errNoTerm" = some 0 := by kernel_rfl
set_option maxRecDepth 100000 in
theorem gEType : (Tryz.prog.globals[0]?).map (·.type) = some 81 := by kernel_rfl
set_option maxRecDepth 100000 in
theorem cells137 : Tryz.prog.cellsOf 204 = 1 := by kernel_rfl
set_option maxRecDepth 100000 in
theorem cells9 : Tryz.prog.cellsOf 9 = 1 := by kernel_rfl
set_option maxRecDepth 100000 in
theorem star : "*" ++ "errors.errorString" = "*errors.errorString" := by decide
set_option maxRecDepth 100000 in
theorem rowE (u : TypeId) (h : Tryz.prog.typeName? 3 u = some "*errors.errorString") : u = 202 :=
  typeName_ptr_named (nm := "errors.errorString") (by rw [star]; kernel_rfl) (by kernel_rfl) (by decide) u (by rw [star]; exact h)

set_option maxRecDepth 100000 in
theorem err_of_met {W : World} {r : List (String × DataW Unit)} (h : laidMet Tryz.prog (("loop.example/g00328/impl.errNoTerm", Rows.laid_loop_example_g00328_impl_errNoTerm) :: r) W) : ∃ a, W.var? Tryz.prog "loop.example/g00328/impl.errNoTerm" = some #[.iface 202 (.pointer (some a))] := by
  obtain ⟨a, s, hv, _⟩ := laid_sentinel h gE gEType Tryz.underlying81 rowE Tryz.underlying202 Tryz.underlying204 rfl rfl Tryz.underlying9 cells137 cells9
  exact ⟨a, hv⟩
set_option maxRecDepth 100000 in
theorem err_of_var {W : World} {a : Addr} (hv : W.var? Tryz.prog "loop.example/g00328/impl.errNoTerm" = some #[.iface 202 (.pointer (some a))]) : Err W :=
  ⟨a, by have := World.var?_cell gE hv 0; simpa [ErrAt] using this⟩
set_option maxRecDepth 100000 in
theorem err_of_laid6 {W : World} (h : laidMetH Tryz.prog laid6 W) : ∃ a, W.var? Tryz.prog "loop.example/g00328/impl.errNoTerm" = some #[.iface 202 (.pointer (some a))] := by
  rw [MakeChecks.laidMetH_plain _ _ _ (by kernel_rfl)] at h
  exact err_of_met h.tail.tail.tail.tail.tail
set_option maxRecDepth 100000 in
theorem gS : Tryz.prog.globalNamed "strconv.ErrSyntax" = some 1 := by kernel_rfl
set_option maxRecDepth 100000 in
theorem gSType : (Tryz.prog.globals[1]?).map (·.type) = some 81 := by kernel_rfl
set_option maxRecDepth 100000 in
theorem gR : Tryz.prog.globalNamed "strconv.ErrRange" = some 2 := by kernel_rfl
set_option maxRecDepth 100000 in
theorem gRType : (Tryz.prog.globals[2]?).map (·.type) = some 81 := by kernel_rfl
set_option maxRecDepth 100000 in
theorem var12_of_laid6 {W : World} (h : laidMetH Tryz.prog laid6 W) : Var12 W := by
  rw [MakeChecks.laidMetH_plain _ _ _ (by kernel_rfl)] at h
  have h3 := h.tail.tail.tail
  obtain ⟨a, s, hr, _⟩ := laid_sentinel h3 gR gRType Tryz.underlying81 rowE Tryz.underlying202 Tryz.underlying204 rfl rfl Tryz.underlying9 cells137 cells9
  obtain ⟨b, s', hs, _⟩ := laid_sentinel h3.tail gS gSType Tryz.underlying81 rowE Tryz.underlying202 Tryz.underlying204 rfl rfl Tryz.underlying9 cells137 cells9
  refine ⟨⟨.iface 202 (.pointer (some b)), ?_, Or.inr ⟨_, _, rfl⟩⟩, .iface 202 (.pointer (some a)), ?_, Or.inr ⟨_, _, rfl⟩⟩
  · have := World.var?_cell gS hs 0
    simpa using this
  · have := World.var?_cell gR hr 0
    simpa using this

set_option maxRecDepth 100000 in
theorem pow_data : (Rows.laid_internal_strconv_uint64pow10 : DataW Unit) = Lib.tabData .u64 Lib.pow10Tab := by kernel_rfl
set_option maxRecDepth 100000 in
theorem tab_of_laid6 {W : World} (h : laidMetH Tryz.prog laid6 W) : Tab W := by
  rw [MakeChecks.laidMetH_plain _ _ _ (by kernel_rfl)] at h
  have h2 : laidMet Tryz.prog (("internal/strconv.uint64pow10", Lib.tabData .u64 Lib.pow10Tab) :: [("strconv.ErrRange", Rows.laid_strconv_ErrRange), ("strconv.ErrSyntax", Rows.laid_strconv_ErrSyntax), ("loop.example/g00328/impl.errNoTerm", Rows.laid_loop_example_g00328_impl_errNoTerm)]) W := by
    have := h.tail.tail
    rw [pow_data] at this
    exact this
  exact Lib.tabIs_of_head (g := 3) (t := 197) (e := 186) (n := 20) (by kernel_rfl) (by kernel_rfl) (by kernel_rfl) (by kernel_rfl) (by kernel_rfl) (by kernel_rfl) h2

set_option maxRecDepth 100000 in
theorem var?_below {P : Program} {W W' : World} {n : String} {cs : Array Value} (h : W.var? P n = some cs) (hb : Below W.heap.size W W') : W'.var? P n = some cs := by
  unfold World.var? at h ⊢
  cases hg : P.globalNamed n with
  | none => simp [hg] at h
  | some g =>
    simp only [hg, Option.bind_some] at h ⊢
    have hlt : g < W.heap.size := by
      rcases Nat.lt_or_ge g W.heap.size with h' | h'
      · exact h'
      · simp [Array.getElem?_eq_none h'] at h
    rw [hb.block g hlt]
    exact h

set_option maxRecDepth 100000 in
/-- The variable of the named error, read as a token. -/
theorem err_read {H : Type} (enc : TypeId × Value → H) {W : World} {a : Addr} (h : W.var? Tryz.prog "loop.example/g00328/impl.errNoTerm" = some #[.iface 202 (.pointer (some a))]) (sp : Nat → Bool) :
    DataW.TrodVars enc Tryz.prog W sp ["loop.example/g00328/impl.errNoTerm"] [tok enc (.iface 202 (.pointer (some a)))] [.cell 0 0] :=
  vars_read1 enc gE gEType Tryz.underlying81 h trivial sp

theorem RowC.only {ty : TypeId} {w w' : World} {b : Nat} {h : ByteArray} {op n : Int} {s : ByteArray} {a : Option Addr} {len cap : Nat} {u : Int} {f : List Nat} (hr : RowC ty w b h op n s a len cap u) (hb : Only f w w') (hf : b ∉ f) : RowC ty w' b h op n s a len cap u := (hb.block b hr.lt hf).trans hr

theorem held_markedC (T : Tm) (op n : Int) (s : ByteArray) (a : Option Addr) (len cap k : Nat) (w : World) (hl : Lies w 0 (T.marked k) (tmCells op n s a len cap)) (h1 : 1 ≤ k) (hz : k + 3 * T.size ≤ 1099511627776) :
    Calls Tryz.prog 47 #[.agg #[.int .i64 op, .int .i64 n, .string s, .slice a len cap], .int .i64 (k : Int)] w fun e w' => e = .returned (.int .i64 ((k + 3 * Tm.sizes T.kids : Nat) : Int)) ∧ Below w.heap.size w w' := by
  obtain ⟨op', n', s', ks⟩ := T
  have hh := hl
  simp only [Tm.marked, Lies, tmCells, List.cons.injEq, Value.int.injEq, Value.string.injEq, true_and] at hh
  obtain ⟨_, _, ⟨rfl, rfl, rfl, _⟩, _⟩ := hh
  simp only [Tm.size] at hz
  exact held_any op n s ks a len cap k w hl h1 (by omega)

set_option maxRecDepth 100000 in
set_option maxHeartbeats 1000000 in
theorem heldC (P : Tm) (h : ByteArray) (op n : Int) (s : ByteArray) (a : Option Addr) (len cap : Nat) (u : Int) (w : World) (hl : Lies w 0 (P.marked 1) (tmCells op n s a len cap)) (hz : 1 + 3 * P.size ≤ 1099511627776) :
    Calls Tryz.prog 50 #[.agg #[.string h, .int .i64 op, .int .i64 n, .string s, .slice a len cap, .int .i64 u], .int .i64 1] w fun e w' => e = .returned (.int .i64 ((1 + 3 * Tm.sizes P.kids : Nat) : Int)) ∧ Below w.heap.size w w' := by
  have h16 := hide (fun v hl => held_markedC P op n s a len cap 1 v hl (Nat.le_refl _) hz)
  have HL := hide (hl.below (abC (.cells #[.string h, .int .i64 op, .int .i64 n, .string s, .slice a len cap, .int .i64 u] 57)))
  have HB := hide (abC (w := w) (.cells #[.string h, .int .i64 op, .int .i64 n, .string s, .slice a len cap, .int .i64 u] 57))
  generalize 1 + 3 * Tm.sizes P.kids = M at *
  clear hl hz
  go_enter Tryz.func50, Tryz.ntmps50
  go_wp2_with fail
  refine (unhide h16 _ (unhide HL)).mono ?_
  rintro e w2 ⟨rfl, hb2⟩
  have HB2 := hide (btC (unhide HB) hb2)
  have hM : ¬ (M : Int) < 0 := by omega
  clear hb2
  go_wp2_with fail
  go_ret
  exact ⟨rfl, unhide HB2⟩

set_option maxRecDepth 100000 in
set_option maxHeartbeats 8000000 in
theorem lawCertOf (t : Tm) (h : ByteArray) (P : Tm) (v : Int) (B : Bool) (x : Addr) (hPZ : P.size ≤ 200)
    (hS : ∀ (op n : Int) (s : ByteArray) (a : Option Addr) (len cap : Nat) (w : World), Lies w 0 t (tmCells op n s a len cap) → t.size ≤ 2097152 → Calls Tryz.prog 48 #[.agg #[.int .i64 op, .int .i64 n, .string s, .slice a len cap]] w fun e w' => ∃ opW nW sW aW lenW capW, e = .returned (.tuple #[.agg #[.string h, .int .i64 opW, .int .i64 nW, .string sW, .slice aW lenW capW, .int .i64 v], .bool B]) ∧ Lies w' 0 P (tmCells opW nW sW aW lenW capW) ∧ Below w.heap.size w w')
    (hI : ∀ (op n : Int) (s : ByteArray) (a : Option Addr) (len cap : Nat) (w : World), Lies w 0 t (tmCells op n s a len cap) → t.size ≤ 2097152 → ErrAt x w → Var12 w → Tab w → Calls Tryz.prog 49 #[.agg #[.int .i64 op, .int .i64 n, .string s, .slice a len cap]] w fun e w' => ∃ opG nG sG aG lenG capG fp, e = .returned (.tuple #[.agg #[.string h, .int .i64 opG, .int .i64 nG, .string sG, .slice aG lenG capG, .int .i64 v], .bool B]) ∧ Own w' P (tmCells opG nG sG aG lenG capG) fp ∧ (fp.Nodup ∧ ∀ y ∈ fp, w.heap.size ≤ y) ∧ Below w.heap.size w w')
    (op n : Int) (s : ByteArray) (a : Option Addr) (len cap : Nat) (w : World) (hl : Lies w 0 t (tmCells op n s a len cap)) (hv : Var12 w) (htab : Tab w) (herr : ErrAt x w) :
    Calls Tryz.prog 6 #[.agg #[.int .i64 op, .int .i64 n, .string s, .slice a len cap]] w fun e w' => e = .returned (.bool true) ∧ Below w.heap.size w w' := by
  have HER := hide herr
  have HTB := hide htab
  have HVR := hide hv
  clear herr htab hv
  have h11 := hide (sz_calls t)
  have h8 := hide eq_calls
  have hZ := t.size_le
  have hB0 : Below w.heap.size w (w.alloc (.cells #[.int .i64 op, .int .i64 n, .string s, .slice a len cap] 24)) := ab _
  have HL := hide (hl.below hB0)
  have HB0 := hide hB0
  have HA := hide (RowT.new 24 w op n s a len cap)
  clear hl hB0
  by_cases hw : (t.wt : Int) ≤ 1048576
  · have hsz : t.size ≤ 1048577 := by omega
    have hsz2 : t.size ≤ 2097152 := by omega
    have h13 := hide (fun a cap v hv => tp_calls t op n s a len cap v hv hsz2)
    have h15 := hide (fun a cap v hv => hS op n s a len cap v hv hsz2)
    have h16 := hide (fun a cap v hv he hr ht => hI op n s a len cap v hv hsz2 he hr ht)
    have h9 := hide (fun op1 n1 s1 a1 len1 cap1 op2 n2 s2 a2 len2 cap2 W hv hv' => eqC P h op1 n1 s1 a1 len1 cap1 v op2 n2 s2 a2 len2 cap2 W hv hv')
    clear hS hI
    have HKP : Hid (Tm.sizes P.kids ≤ P.size) := by have := size_kids P; show _ ≤ _; omega
    have HTZ : Hid (1 + 3 * P.size ≤ 1099511627776) := by show _ ≤ _; omega
    have HXZ : Hid (1 + 3 * t.size ≤ 1099511627776) := by show _ ≤ _; omega
    have h9x : Hid (∀ (a : Option Addr) (w : World) (fp : List Nat), Own w t (tmCells op n s a len len) fp → fp.Nodup →
        Calls Tryz.prog 46 #[.agg #[.int .i64 op, .int .i64 n, .string s, .slice a len len], .int .i64 1] w fun e w' => e = .returned (.int .i64 ((1 + 3 * Tm.sizes t.kids : Nat) : Int)) ∧ Own w' (t.marked 1) (tmCells op n s a len len) fp ∧ Only fp w w') :=
      fun a w fp ho hnd => mark_any t op n s a len len 1 w fp ho hnd (Nat.le_refl _) (unhide HXZ)
    have h9g : Hid (∀ (op n : Int) (s : ByteArray) (a : Option Addr) (len cap : Nat) (w : World) (fp : List Nat), Own w P (tmCells op n s a len cap) fp → fp.Nodup →
        Calls Tryz.prog 45 #[.agg #[.string h, .int .i64 op, .int .i64 n, .string s, .slice a len cap, .int .i64 v], .int .i64 1] w fun e w' => e = .returned (.int .i64 ((1 + 3 * Tm.sizes P.kids : Nat) : Int)) ∧ Own w' (P.marked 1) (tmCells op n s a len cap) fp ∧ Only fp w w') :=
      fun op n s a len cap w fp ho hnd => markC P h op n s a len cap v w fp ho hnd (unhide HTZ)
    have h10 : Hid (∀ (op n : Int) (s : ByteArray) (a : Option Addr) (len cap : Nat) (w : World), Lies w 0 (P.marked 1) (tmCells op n s a len cap) →
        Calls Tryz.prog 50 #[.agg #[.string h, .int .i64 op, .int .i64 n, .string s, .slice a len cap, .int .i64 v], .int .i64 1] w fun e w' => e = .returned (.int .i64 ((1 + 3 * Tm.sizes P.kids : Nat) : Int)) ∧ Below w.heap.size w w') :=
      fun op n s a len cap w hl => heldC P h op n s a len cap v w hl (unhide HTZ)
    have hmb : (1 + 3 * Tm.sizes P.kids : Nat) ≤ 4194304 := by have := unhide HKP; omega
    have hkb : (1 + 3 * Tm.sizes t.kids : Nat) ≤ 4194304 := by have := size_kids t; omega
    have hBB : (B != B) = false := by simp
    clear hZ hsz hsz2 HKP hPZ
    generalize 1 + 3 * Tm.sizes P.kids = mG at *
    generalize 1 + 3 * Tm.sizes t.kids = mX at *
    obtain ⟨left, hgl⟩ : ∃ left : Int, (1048576 : Int) - t.wt = left := ⟨_, rfl⟩
    have hln : 0 ≤ left := by omega
    go_enter Tryz.func6, Tryz.ntmps6
    go_wp2_with fail
    refine (unhide h11 op n s a len cap _ _ (unhide HL) (by omega) (by omega)).mono ?_
    rintro e w1 ⟨rfl, hb1⟩
    rw [szv_yes hw, hgl]
    have HA1 := hide ((unhide HA).below hb1)
    have HL1 := hide ((unhide HL).below hb1)
    have HB1 := hide (bt (unhide HB0) hb1 (Nat.le_refl _))
    clear hb1 HL HB0 HA hgl hw h11
    obtain ⟨c0, c1, c2, c3⟩ := (unhide HA1).facts
    go_wp2_with fail
    refine (unhide h13 a cap _ (unhide HL1)).mono ?_
    rintro e w2 ⟨a2, f2, rfl, hO2, _, hb2⟩
    have HA2 := hide ((unhide HA1).below hb2)
    have HL2 := hide ((unhide HL1).below hb2)
    have HB2 := hide (bt (unhide HB1) hb2 (Nat.le_refl _))
    have HO2 := hide hO2.lies0
    clear hb2 hO2 HA1 HL1 HB1 c0 c1 c2 c3
    go_wp2_with fail
    refine (unhide h15 a2 len _ (unhide HO2)).mono ?_
    rintro e w3 ⟨opW, nW, sW, aW, lenW, capW, rfl, hL3, hb3⟩
    have HA3 := hide ((unhide HA2).below hb3)
    have HL3 := hide ((unhide HL2).below hb3)
    have HB3 := hide (bt (unhide HB2) hb3 (Nat.le_refl _))
    have HW3 := hide hL3
    clear hb3 hL3 HA2 HL2 HB2 HO2
    have HVB := hide (bt (unhide HB3) (ab (.cells #[.string h, .int .i64 opW, .int .i64 nW, .string sW, .slice aW lenW capW, .int .i64 v] 57)) (Nat.le_refl _))
    have HVA := hide ((unhide HA3).below (ab (.cells #[.string h, .int .i64 opW, .int .i64 nW, .string sW, .slice aW lenW capW, .int .i64 v] 57)))
    have HVW := hide (RowC.new 57 w3 h opW nW sW aW lenW capW v)
    have HVLA := hide ((unhide HL3).below (ab (.cells #[.string h, .int .i64 opW, .int .i64 nW, .string sW, .slice aW lenW capW, .int .i64 v] 57)))
    have HVLW := hide ((unhide HW3).below (ab (.cells #[.string h, .int .i64 opW, .int .i64 nW, .string sW, .slice aW lenW capW, .int .i64 v] 57)))
    obtain ⟨c0, c1, c2, c3⟩ := (unhide HVA).facts
    clear HA3 HL3 HB3 HW3
    go_wp2_with fail
    generalize hV1 : w3.alloc (.cells #[.string h, .int .i64 opW, .int .i64 nW, .string sW, .slice aW lenW capW, .int .i64 v] 57) = V1 at *
    generalize w3.heap.size = bW at *
    clear hV1
    refine (unhide h13 a cap _ (unhide HVLA)).mono ?_
    rintro e w4 ⟨a4, f4, rfl, hO4, ⟨hnd4, hge4⟩, hb4⟩
    have HND4 := hide hnd4
    have HGE4 := hide hge4
    have HLT4 := hide (Own.lt _ _ _ hO4)
    have hb4' := bt hb4 (ab (.cells #[.int .i64 op, .int .i64 n, .string s, .slice a4 len len] 29)) (Nat.le_refl _)
    have HV2 := hide hb4'
    have HXR := hide (RowT.new 29 w4 op n s a4 len len)
    have HXO := hide (hO4.below (ab (.cells #[.int .i64 op, .int .i64 n, .string s, .slice a4 len len] 29)))
    clear hO4 hnd4 hge4 hb4 hb4' c0 c1 c2 c3
    obtain ⟨c0, c1, c2, c3⟩ := (unhide HXR).facts
    go_wp2_with fail
    generalize hV2 : w4.alloc (.cells #[.int .i64 op, .int .i64 n, .string s, .slice a4 len len] 29) = V2 at *
    have HGX : Hid (w4.heap.size + 1 = V2.heap.size) := by show _ = _; rw [← hV2, heap_size_alloc]
    generalize w4.heap.size = bX at *
    clear hV2
    have hVV := bt (unhide HVB) (unhide HV2) (Nat.le_refl _)
    refine (unhide h16 a4 len _ (unhide HXO).lies0 ((unhide HER).on hVV) ((unhide HVR).on hVV) ((unhide HTB).on hVV)).mono ?_
    rintro e w5 ⟨opG, nG, sG, aG, lenG, capG, f5, rfl, hO5, ⟨hnd5, hge5⟩, hb5⟩
    have HND5 := hide hnd5
    have HGE5 := hide hge5
    have HLT5 := hide (Own.lt _ _ _ hO5)
    have HBG := hide hb5.size
    have hb5' := bt hb5 (ab (.cells #[.string h, .int .i64 opG, .int .i64 nG, .string sG, .slice aG lenG capG, .int .i64 v] 57)) (Nat.le_refl _)
    have HV3 := hide hb5'
    have HV13 := hide (bt (unhide HV2) hb5' (Nat.le_refl _))
    have HGR := hide (RowC.new 57 w5 h opG nG sG aG lenG capG v)
    have HGO := hide (hO5.below (ab (.cells #[.string h, .int .i64 opG, .int .i64 nG, .string sG, .slice aG lenG capG, .int .i64 v] 57)))
    clear hVV hO5 hnd5 hge5 hb5 hb5' c0 c1 c2 c3
    obtain ⟨c0, c1, c2, c3, c4, c5⟩ := (unhide HGR).facts
    obtain ⟨d0, d1, d2, d3, d4, d5⟩ := ((unhide HVW).below (unhide HV13)).facts
    go_wp2_with fail
    generalize hV3 : w5.alloc (.cells #[.string h, .int .i64 opG, .int .i64 nG, .string sG, .slice aG lenG capG, .int .i64 v] 57) = V3 at *
    have HGG : Hid (w5.heap.size + 1 = V3.heap.size) := by show _ = _; rw [← hV3, heap_size_alloc]
    generalize w5.heap.size = bG at *
    clear hV3
    refine (unhide h9 opG nG sG aG lenG capG opW nW sW aW lenW capW _ (unhide HGO).lies0 ((unhide HVLW).below (unhide HV13))).mono ?_
    rintro e w6 ⟨rfl, hb6⟩
    have HV16 := hide (bt (unhide HV13) hb6 (Nat.le_refl _))
    have HV26 := hide (bt (unhide HV3) hb6 (Nat.le_refl _))
    have HGR6 := hide ((unhide HGR).below hb6)
    have HGO6 := hide ((unhide HGO).below hb6)
    clear hb6 c0 c1 c2 c3 c4 c5 d0 d1 d2 d3 d4 d5 HV13 HV3 HGR HGO
    obtain ⟨c0, c1, c2, c3⟩ := ((unhide HXR).below (unhide HV26)).facts
    obtain ⟨d0, d1, d2, d3⟩ := ((unhide HVA).below (unhide HV16)).facts
    have HLA6 := hide ((unhide HVLA).below (unhide HV16).drew)
    have HXO6 := hide ((unhide HXO).below (unhide HV26).drew)
    go_wp2_with fail
    go_region_held3 (fun x => x.cell? ⟨bX, 0, none⟩ = some (.int .i64 op) ∧ x.cell? ⟨bX, 1, none⟩ = some (.int .i64 n) ∧ x.cell? ⟨bX, 2, none⟩ = some (.string s) ∧ x.cell? ⟨bX, 3, none⟩ = some (.slice a4 len len) ∧
        x.cell? ⟨w.heap.size, 0, none⟩ = some (.int .i64 op) ∧ x.cell? ⟨w.heap.size, 1, none⟩ = some (.int .i64 n) ∧ x.cell? ⟨w.heap.size, 2, none⟩ = some (.string s) ∧ x.cell? ⟨w.heap.size, 3, none⟩ = some (.slice a len cap)) (go_keep)
      (first
        | (go_at_call 11
           refine (unhide h13 a cap _ (unhide HLA6)).mono ?_
           rintro e w7 ⟨a7, f7, rfl, hO7, _, hb7⟩
           have hb7' := hide (below_drew' hb7)
           have HO7 := hide hO7.lies0
           have HX7 := hide ((unhide HXO6).below hb7).lies0
           have f0 := kpc (unhide hb7') c0
           have f1 := kpc (unhide hb7') c1
           have f2 := kpc (unhide hb7') c2
           have f3 := kpc (unhide hb7') c3
           have e0 := kpc (unhide hb7') d0
           have e1 := kpc (unhide hb7') d1
           have e2 := kpc (unhide hb7') d2
           have e3 := kpc (unhide hb7') d3)
        | (go_at_call 13
           refine (unhide h8 t op n s a4 len len op n s a7 len len _ (unhide HX7) (unhide HO7)).mono ?_
           rintro e w8 ⟨rfl, hb8⟩
           have g0 := kpc hb8 f0
           have g1 := kpc hb8 f1
           have g2 := kpc hb8 f2
           have g3 := kpc hb8 f3
           have i0 := kpc hb8 e0
           have i1 := kpc hb8 e1
           have i2 := kpc hb8 e2
           have i3 := kpc hb8 e3
           have hb8' := hide hb8))
    have HV18 := hide (bt (bt (unhide HV16) (unhide hb7') (Nat.le_refl _)) (unhide hb8') (Nat.le_refl _))
    have HGR8 := hide (((unhide HGR6).below (unhide hb7')).below (unhide hb8'))
    have HGO8 := hide (((unhide HGO6).below (unhide hb7')).below (unhide hb8'))
    have HXO8 := hide (((unhide HXO).below (unhide HV26)).below (unhide hb7') |>.below (unhide hb8'))
    clear f0 f1 f2 f3 e0 e1 e2 e3 c0 c1 c2 c3 d0 d1 d2 d3 HV16 HV26 HGR6 HGO6 HXO6 HLA6 hb7' hb8' HO7 HX7
    go_wp2_with fail
    refine (unhide h9x a4 _ _ (unhide HXO8) (unhide HND4)).mono ?_
    rintro e w9 ⟨rfl, _, o9⟩
    have HV19 := hide ((unhide HV18).trans (o9.below (unhide HV18).size (unhide HGE4)))
    have HGR9 := hide ((unhide HGR8).only o9 (fun hx => by have := unhide HLT4 _ hx; have := unhide HBG; have := unhide HGX; omega))
    have HGO9 := hide ((unhide HGO8).only o9 (fun x hx hx4 => by have := unhide HLT4 _ hx4; have := unhide HGE5 _ hx; have := unhide HGX; omega))
    clear o9 HV18 HGR8 HGO8 HXO8 g0 g1 g2 g3 i0 i1 i2 i3
    obtain ⟨c0, c1, c2, c3, c4, c5⟩ := (unhide HGR9).facts
    obtain ⟨d0, d1, d2, d3, d4, d5⟩ := ((unhide HVW).below (unhide HV19)).facts
    go_wp2_with fail
    refine (unhide h9 opG nG sG aG lenG capG opW nW sW aW lenW capW _ (unhide HGO9).lies0 ((unhide HVLW).below (unhide HV19))).mono ?_
    rintro e w10 ⟨rfl, hb10⟩
    have HV20 := hide (bt (unhide HV19) hb10 (Nat.le_refl _))
    have HGR10 := hide ((unhide HGR9).below hb10)
    have HGO10 := hide ((unhide HGO9).below hb10)
    clear hb10 HV19 HGR9 HGO9 c0 c1 c2 c3 c4 c5 d0 d1 d2 d3 d4 d5
    obtain ⟨c0, c1, c2, c3, c4, c5⟩ := (unhide HGR10).facts
    go_wp2_with fail
    refine (unhide h9g opG nG sG aG lenG capG _ _ (unhide HGO10) (unhide HND5)).mono ?_
    rintro e w11 ⟨rfl, k11, o11⟩
    have HV21 := hide ((unhide HV20).trans (o11.below (unhide HV20).size (fun x hx => by have := unhide HGE5 _ hx; have := (unhide HV2).size; omega)))
    have HGR11 := hide ((unhide HGR10).only o11 (fun hx => by have := unhide HLT5 _ hx; omega))
    have HGO11 := hide k11.lies0
    clear o11 k11 HV20 HGR10 HGO10 c0 c1 c2 c3 c4 c5
    obtain ⟨c0, c1, c2, c3, c4, c5⟩ := (unhide HGR11).facts
    go_wp2_with fail
    refine (unhide h10 opG nG sG aG lenG capG _ (unhide HGO11)).mono ?_
    rintro e w12 ⟨rfl, hb12⟩
    have HV22 := hide (bt (unhide HV21) hb12 (Nat.le_refl _))
    have HGR12 := hide ((unhide HGR11).below hb12)
    have HGO12 := hide ((unhide HGO11).below hb12)
    clear hb12 HV21 HGR11 HGO11 c0 c1 c2 c3 c4 c5
    obtain ⟨d0, d1, d2, d3⟩ := ((unhide HVA).below (unhide HV22)).facts
    go_wp2_with fail
    refine (unhide h13 a cap _ ((unhide HVLA).below (unhide HV22))).mono ?_
    rintro e w13 ⟨a13, f13, rfl, hO13, _, hb13⟩
    have HV23 := hide (bt (unhide HV22) hb13 (Nat.le_refl _))
    have HGR13 := hide ((unhide HGR12).below hb13)
    have HGO13 := hide ((unhide HGO12).below hb13)
    have HO13 := hide hO13.lies0
    clear hb13 hO13 HV22 HGR12 HGO12 d0 d1 d2 d3
    have hVV := bt (unhide HVB) (unhide HV23) (Nat.le_refl _)
    have HE13 := hide ((unhide HER).on hVV)
    have HR13 := hide ((unhide HVR).on hVV)
    have HT13 := hide ((unhide HTB).on hVV)
    clear hVV
    go_wp2_with fail
    refine (unhide h16 a13 len _ (unhide HO13) (unhide HE13) (unhide HR13) (unhide HT13)).mono ?_
    rintro e w14 ⟨opH, nH, sH, aH, lenH, capH, f14, rfl, hO14, _, hb14⟩
    have hb14' := bt hb14 (ab (.cells #[.string h, .int .i64 opH, .int .i64 nH, .string sH, .slice aH lenH capH, .int .i64 v] 57)) (Nat.le_refl _)
    have HV24 := hide (bt (unhide HV23) hb14' (Nat.le_refl _))
    have HGR14 := hide ((unhide HGR13).below hb14')
    have HGO14 := hide ((unhide HGO13).below hb14')
    have HHO := hide (hO14.below (ab (.cells #[.string h, .int .i64 opH, .int .i64 nH, .string sH, .slice aH lenH capH, .int .i64 v] 57))).lies0
    clear hb14 hb14' hO14 HV23 HGR13 HGO13 HO13
    obtain ⟨c0, c1, c2, c3, c4, c5⟩ := (RowC.new 57 w14 h opH nH sH aH lenH capH v).facts
    obtain ⟨d0, d1, d2, d3, d4, d5⟩ := ((unhide HVW).below (unhide HV24)).facts
    go_wp2_with fail
    refine (unhide h9 opH nH sH aH lenH capH opW nW sW aW lenW capW _ (unhide HHO) ((unhide HVLW).below (unhide HV24))).mono ?_
    rintro e w15 ⟨rfl, hb15⟩
    have HV25 := hide (bt (unhide HV24) hb15 (Nat.le_refl _))
    have HGR15 := hide ((unhide HGR14).below hb15)
    have HGO15 := hide ((unhide HGO14).below hb15)
    clear hb15 HV24 HGR14 HGO14 HHO c0 c1 c2 c3 c4 c5 d0 d1 d2 d3 d4 d5
    obtain ⟨c0, c1, c2, c3, c4, c5⟩ := (unhide HGR15).facts
    go_wp2_with fail
    refine (unhide h10 opG nG sG aG lenG capG _ (unhide HGO15)).mono ?_
    rintro e w16 ⟨rfl, hb16⟩
    have HV26 := hide (bt (unhide HV25) hb16 (Nat.le_refl _))
    clear hb16 c0 c1 c2 c3 c4 c5
    go_wp2_with fail
    go_ret
    exact ⟨rfl, (unhide HVB).trans ((unhide HV26).mono (unhide HVB).size)⟩
  · go_enter Tryz.func6, Tryz.ntmps6
    go_wp2_with fail
    refine (unhide h11 op n s a len cap _ _ (unhide HL) (by omega) (by omega)).mono ?_
    rintro e w2 ⟨rfl, hb2⟩
    rw [szv_no (by omega)]
    go_wp2_with fail
    go_ret
    exact ⟨rfl, bt (unhide HB0) hb2 (Nat.le_refl _)⟩

set_option maxRecDepth 100000 in
set_option maxHeartbeats 2000000 in
theorem certOfI_yes (op2 n2 : Int) (s2 : ByteArray) (a2 : Option Addr) (len2 cap2 : Nat) (x : Addr) (w : World) (h : ByteArray) (p : Tm) (v : Int) (hp : p.size + p.wt ≤ 4194304) (hh : h.size ≤ 4194304) (he : ErrAt x w)
    (hr : ∀ W, Below w.heap.size w W → Calls Tryz.prog 108 #[.agg #[.int .i64 op2, .int .i64 n2, .string s2, .slice a2 len2 cap2]] W fun e w' => Below W.heap.size W w' ∧ ∃ op n s a len cap, e = .returned (.tuple #[.agg #[.string h, .int .i64 op, .int .i64 n, .string s, .slice a len cap, .int .i64 v], .nilIface]) ∧ Lies w' 0 p (tmCells op n s a len cap)) :
    Calls Tryz.prog 49 #[.agg #[.int .i64 op2, .int .i64 n2, .string s2, .slice a2 len2 cap2]] w fun e w' => ∃ op n s a len cap fp, e = .returned (.tuple #[.agg #[.string h, .int .i64 op, .int .i64 n, .string s, .slice a len cap, .int .i64 v], .bool true]) ∧ Own w' p (tmCells op n s a len cap) fp ∧ (fp.Nodup ∧ ∀ y ∈ fp, w.heap.size ≤ y) ∧ Below w.heap.size w w' := by
  have h26 := hide hr
  have HCL := hide (fun V => cloneS h V hh)
  clear hr
  have hB0 : Below w.heap.size w ((w.alloc (.cells #[.int .i64 op2, .int .i64 n2, .string s2, .slice a2 len2 cap2] 29)).alloc (.cells #[.string ⟨#[]⟩, .int .i64 0, .int .i64 0, .string ⟨#[]⟩, .slice none 0 0, .int .i64 0] 57)) := bt (ab _) (ab _) (Nat.le_refl _)
  have HX : Hid (RowC 57 ((w.alloc (.cells #[.int .i64 op2, .int .i64 n2, .string s2, .slice a2 len2 cap2] 29)).alloc (.cells #[.string ⟨#[]⟩, .int .i64 0, .int .i64 0, .string ⟨#[]⟩, .slice none 0 0, .int .i64 0] 57)) (w.heap.size + 1) ⟨#[]⟩ 0 0 ⟨#[]⟩ none 0 0 0) := by
    have := RowC.new 57 (w.alloc (.cells #[.int .i64 op2, .int .i64 n2, .string s2, .slice a2 len2 cap2] 29)) ⟨#[]⟩ 0 0 ⟨#[]⟩ none 0 0 0
    rwa [heap_size_alloc] at this
  have HER := hide (he.on hB0)
  have HB0 := hide hB0
  clear hB0 he
  go_enter Tryz.func49, Tryz.ntmps49
  go_wp2_with fail
  refine (unhide h26 _ (unhide HB0)).mono ?_
  rintro e w2 ⟨hb2, op, n, s, a, len, cap, rfl, hL2⟩
  have hb2' := bt hb2 (ab (.cells #[.string h, .int .i64 op, .int .i64 n, .string s, .slice a len cap, .int .i64 v] 57)) (Nat.le_refl _)
  have HB2 := hide (bt (unhide HB0) hb2' (Nat.le_refl _))
  have HX2 := hide ((unhide HX).below hb2')
  have HER2 := hide ((unhide HER).on hb2')
  have HL2 := hide (hL2.below (ab (.cells #[.string h, .int .i64 op, .int .i64 n, .string s, .slice a len cap, .int .i64 v] 57)))
  have HRC := hide (RowC.new 57 w2 h op n s a len cap v)
  have HXL : Hid (w.heap.size + 1 < w2.heap.size) := ((unhide HX).below hb2).lt
  have h27 := hide (fun W hl he => answer_yes p op n s a len cap x W hl hp he)
  clear hb2 hb2' hL2 HB0 HX HER h26
  go_wp2_with fail
  generalize hV2 : w2.alloc (.cells #[.string h, .int .i64 op, .int .i64 n, .string s, .slice a len cap, .int .i64 v] 57) = V2 at *
  have HG2 : Hid (w2.heap.size + 1 = V2.heap.size) := by show _ = _; rw [← hV2, heap_size_alloc]
  generalize w2.heap.size = bC at *
  clear hV2
  refine (unhide h27 _ (unhide HL2) (unhide HER2)).mono ?_
  rintro e w3 ⟨a3, cap3, fp, rfl, hO3, ⟨hnd, hge⟩, hb3⟩
  have HB3 := hide (bt (unhide HB2) hb3 (Nat.le_refl _))
  have HO := hide hO3
  have HND := hide hnd
  have HGE := hide hge
  have HLT := hide (Own.lt _ _ _ hO3)
  have hbP := ab (w := w3) (.cells #[.int .i64 op, .int .i64 n, .string s, .slice a3 len cap3] 29)
  have HB4 := hide (bt (unhide HB3) hbP (Nat.le_refl _))
  have HX4 := hide (((unhide HX2).below hb3).below hbP)
  have HC4 := hide (((unhide HRC).below hb3).below hbP)
  have HP4 := hide (RowT.new 29 w3 op n s a3 len cap3)
  have HO4 := hide ((unhide HO).below hbP)
  have HPL : Hid (∀ y ∈ fp, y < w3.heap.size) := unhide HLT
  have HGP : Hid (V2.heap.size ≤ w3.heap.size) := hb3.size
  obtain ⟨c0, c1, c2, c3, c4, c5⟩ := (unhide HC4).facts
  obtain ⟨k0, k1, k2, k3⟩ := (unhide HP4).facts
  clear hb3 hbP hO3 hnd hge
  go_wp2_with fail
  generalize hV3 : w3.alloc (.cells #[.int .i64 op, .int .i64 n, .string s, .slice a3 len cap3] 29) = W3 at *
  clear hV3
  generalize w3.heap.size = bP at *
  have hne : (w.heap.size + 1 = bC) = False := eq_false (by have := unhide HXL; omega)
  have hne' : (bC = w.heap.size + 1) = False := eq_false (by have := unhide HXL; omega)
  have hnp : (w.heap.size + 1 = bP) = False := eq_false (by have := unhide HXL; have := unhide HG2; have := unhide HGP; omega)
  have hnp' : (bP = w.heap.size + 1) = False := eq_false (by have := unhide HXL; have := unhide HG2; have := unhide HGP; omega)
  go_region_held3 (fun x => x.cell? ⟨bC, 0, none⟩ = some (.string h) ∧ x.cell? ⟨bC, 5, none⟩ = some (.int .i64 v) ∧ x.cell? ⟨bP, 0, none⟩ = some (.int .i64 op) ∧ x.cell? ⟨bP, 1, none⟩ = some (.int .i64 n) ∧ x.cell? ⟨bP, 2, none⟩ = some (.string s) ∧ x.cell? ⟨bP, 3, none⟩ = some (.slice a3 len cap3)) (go_keep)
    (first | (go_at_call 109
              refine (unhide HCL _).mono ?_
              rintro e w4 ⟨rfl, hb4⟩
              have hb4' := hide (below_drew' hb4)
              have f0 := kpc (unhide hb4') c0
              have f5 := kpc (unhide hb4') c5
              have g0 := kpc (unhide hb4') k0
              have g1 := kpc (unhide hb4') k1
              have g2 := kpc (unhide hb4') k2
              have g3 := kpc (unhide hb4') k3
              obtain ⟨p0, p1, p2, p3, p4, p5⟩ := ((unhide HX4).below (unhide hb4')).facts
              obtain ⟨q0, q1, q2, q3, q4, q5⟩ := ((unhide HX4).below (unhide hb4')).frozen))
  have HB5 := hide (bt (unhide HB4) (unhide hb4') (Nat.le_refl _))
  have HO5 := hide ((unhide HO4).below (unhide hb4'))
  clear c0 c1 c2 c3 c4 c5 k0 k1 k2 k3 f0 f5 g0 g1 g2 g3 hb4 hb4'
  go_wp2_with fail
  refine bodyPost_ret (v := .tuple #[.agg #[.string h, .int .i64 op, .int .i64 n, .string s, .slice a3 len cap3, .int .i64 v], .bool true]) (by simp [results, Tryz.results49, go_sem, p0, p1, p2, p3, p4, p5]; try rfl) rfl ⟨op, n, s, a3, len, cap3, fp, rfl, ?_, ⟨unhide HND, fun y hy => by have := unhide HGE y hy; have := unhide HG2; have := unhide HXL; omega⟩, set6_below (unhide HB5) (by omega)⟩
  refine Own.keep _ _ _ (unhide HO5) fun b hb => ?_
  have e1 := unhide HGE b hb
  have e3 := unhide HG2
  have e4 := unhide HXL
  repeat rw [set_heap _ _ _ _ _ (by omega)]

set_option maxRecDepth 100000 in
set_option maxHeartbeats 2000000 in
theorem certOfI_no (op2 n2 : Int) (s2 : ByteArray) (a2 : Option Addr) (len2 cap2 : Nat) (x : Addr) (w : World) (he : ErrAt x w)
    (hr : ∀ W, Below w.heap.size w W → Calls Tryz.prog 108 #[.agg #[.int .i64 op2, .int .i64 n2, .string s2, .slice a2 len2 cap2]] W fun e w' => Below W.heap.size W w' ∧ e = .returned (.tuple #[zeroC, .iface 202 (.pointer (some x))])) :
    Calls Tryz.prog 49 #[.agg #[.int .i64 op2, .int .i64 n2, .string s2, .slice a2 len2 cap2]] w fun e w' => e = .returned (.tuple #[zeroC, .bool false]) ∧ Below w.heap.size w w' := by
  have h26 := hide hr
  have HCL := hide (fun V => cloneS ByteArray.empty V (by decide))
  clear hr
  unfold zeroC at h26
  have hB0 : Below w.heap.size w ((w.alloc (.cells #[.int .i64 op2, .int .i64 n2, .string s2, .slice a2 len2 cap2] 29)).alloc (.cells #[.string ⟨#[]⟩, .int .i64 0, .int .i64 0, .string ⟨#[]⟩, .slice none 0 0, .int .i64 0] 57)) := bt (ab _) (ab _) (Nat.le_refl _)
  have HX : Hid (RowC 57 ((w.alloc (.cells #[.int .i64 op2, .int .i64 n2, .string s2, .slice a2 len2 cap2] 29)).alloc (.cells #[.string ⟨#[]⟩, .int .i64 0, .int .i64 0, .string ⟨#[]⟩, .slice none 0 0, .int .i64 0] 57)) (w.heap.size + 1) ⟨#[]⟩ 0 0 ⟨#[]⟩ none 0 0 0) := by
    have := RowC.new 57 (w.alloc (.cells #[.int .i64 op2, .int .i64 n2, .string s2, .slice a2 len2 cap2] 29)) ⟨#[]⟩ 0 0 ⟨#[]⟩ none 0 0 0
    rwa [heap_size_alloc] at this
  have HER := hide (he.on hB0)
  have HB0 := hide hB0
  clear hB0 he
  go_enter Tryz.func49, Tryz.ntmps49
  go_wp2_with fail
  refine (unhide h26 _ (unhide HB0)).mono ?_
  rintro e w2 ⟨hb2, rfl⟩
  have hb2' := bt hb2 (ab (.cells #[.string ByteArray.empty, .int .i64 0, .int .i64 0, .string ByteArray.empty, .slice none 0 0, .int .i64 0] 57)) (Nat.le_refl _)
  have HB2 := hide (bt (unhide HB0) hb2' (Nat.le_refl _))
  have HX2 := hide ((unhide HX).below hb2')
  have HER2 := hide ((unhide HER).on hb2')
  have HRC := hide (RowC.new 57 w2 ByteArray.empty 0 0 ByteArray.empty none 0 0 0)
  have HXL : Hid (w.heap.size + 1 < w2.heap.size) := ((unhide HX).below hb2).lt
  have h27 := hide (fun W he => answer_no 0 0 ByteArray.empty none 0 0 x W he)
  clear hb2 hb2' HB0 HX HER h26
  go_wp2_with fail
  generalize hV2 : w2.alloc (.cells #[.string ByteArray.empty, .int .i64 0, .int .i64 0, .string ByteArray.empty, .slice none 0 0, .int .i64 0] 57) = V2 at *
  have HG2 : Hid (w2.heap.size + 1 = V2.heap.size) := by show _ = _; rw [← hV2, heap_size_alloc]
  generalize w2.heap.size = bC at *
  clear hV2
  refine (unhide h27 _ (unhide HER2)).mono ?_
  rintro e w3 ⟨rfl, hb3⟩
  have HB3 := hide (bt (unhide HB2) hb3 (Nat.le_refl _))
  have hbP := ab (w := w3) (.cells #[.int .i64 0, .int .i64 0, .string ByteArray.empty, .slice none 0 0] 29)
  have HB4 := hide (bt (unhide HB3) hbP (Nat.le_refl _))
  have HX4 := hide (((unhide HX2).below hb3).below hbP)
  have HC4 := hide (((unhide HRC).below hb3).below hbP)
  have HP4 := hide (RowT.new 29 w3 0 0 ByteArray.empty none 0 0)
  have HGP : Hid (V2.heap.size ≤ w3.heap.size) := hb3.size
  obtain ⟨c0, c1, c2, c3, c4, c5⟩ := (unhide HC4).facts
  obtain ⟨k0, k1, k2, k3⟩ := (unhide HP4).facts
  clear hb3 hbP
  go_wp2_with fail
  generalize hV3 : w3.alloc (.cells #[.int .i64 0, .int .i64 0, .string ByteArray.empty, .slice none 0 0] 29) = W3 at *
  clear hV3
  generalize w3.heap.size = bP at *
  have hne : (w.heap.size + 1 = bC) = False := eq_false (by have := unhide HXL; omega)
  have hne' : (bC = w.heap.size + 1) = False := eq_false (by have := unhide HXL; omega)
  have hnp : (w.heap.size + 1 = bP) = False := eq_false (by have := unhide HXL; have := unhide HG2; have := unhide HGP; omega)
  have hnp' : (bP = w.heap.size + 1) = False := eq_false (by have := unhide HXL; have := unhide HG2; have := unhide HGP; omega)
  go_region_held3 (fun x => x.cell? ⟨bC, 0, none⟩ = some (.string ByteArray.empty) ∧ x.cell? ⟨bC, 5, none⟩ = some (.int .i64 0) ∧ x.cell? ⟨bP, 0, none⟩ = some (.int .i64 0) ∧ x.cell? ⟨bP, 1, none⟩ = some (.int .i64 0) ∧ x.cell? ⟨bP, 2, none⟩ = some (.string ByteArray.empty) ∧ x.cell? ⟨bP, 3, none⟩ = some (.slice none 0 0)) (go_keep)
    (first | (go_at_call 109
              refine (unhide HCL _).mono ?_
              rintro e w4 ⟨rfl, hb4⟩
              have hb4' := hide (below_drew' hb4)
              have f0 := kpc (unhide hb4') c0
              have f5 := kpc (unhide hb4') c5
              have g0 := kpc (unhide hb4') k0
              have g1 := kpc (unhide hb4') k1
              have g2 := kpc (unhide hb4') k2
              have g3 := kpc (unhide hb4') k3
              obtain ⟨p0, p1, p2, p3, p4, p5⟩ := ((unhide HX4).below (unhide hb4')).facts
              obtain ⟨q0, q1, q2, q3, q4, q5⟩ := ((unhide HX4).below (unhide hb4')).frozen))
  have HB5 := hide (bt (unhide HB4) (unhide hb4') (Nat.le_refl _))
  clear c0 c1 c2 c3 c4 c5 k0 k1 k2 k3 f0 f5 g0 g1 g2 g3 hb4 hb4'
  go_wp2_with fail
  exact bodyPost_ret (v := .tuple #[.agg #[.string ByteArray.empty, .int .i64 0, .int .i64 0, .string ByteArray.empty, .slice none 0 0, .int .i64 0], .bool false]) (by simp [results, Tryz.results49, go_sem, p0, p1, p2, p3, p4, p5]; try rfl) rfl ⟨rfl, set6_below (unhide HB5) (by omega)⟩

/-- The law at whatever term. -/
theorem lawCertOf_all (t : Tm) (op n : Int) (s : ByteArray) (a : Option Addr) (len cap : Nat) (w : World) (hl : Lies w 0 t (tmCells op n s a len cap)) (hv : Var12 w) (htab : Tab w) (herr : Err w) :
    Calls Tryz.prog 6 #[.agg #[.int .i64 op, .int .i64 n, .string s, .slice a len cap]] w fun e w' => e = .returned (.bool true) ∧ Below w.heap.size w w' := by
  obtain ⟨x, hx⟩ := herr
  by_cases hc : ∃ h p v, CP t h p v
  · obtain ⟨h, p, v, c⟩ := hc
    have hp := okT_200 (certB_ok c.2.1).2.2.1
    refine lawCertOf t h p v true x hp (fun op n s a len cap w hl hz => ?_) (fun op n s a len cap w hl hz he hr ht => ?_) op n s a len cap w hl hv htab hx
    · refine (ofS6 t op n s a len cap w hl hz).mono ?_
      rintro e w' ⟨hb, ⟨h1, p1, v1, o1, n1, s1, a1, l1, c1, cc, he, hL⟩ | ⟨hno, _⟩⟩
      · obtain ⟨rfl, rfl, rfl⟩ := c.one cc
        exact ⟨o1, n1, s1, a1, l1, c1, he, hL.any (Nat.zero_le _), hb⟩
      · exact absurd ⟨h, p, v, c⟩ hno
    · refine certOfI_yes op n s a len cap x w h p v (by have := okT_small (certB_ok c.2.1).2.2.1; omega) (by have := (certB_ok c.2.1).1.1; omega) he fun W hW => ?_
      refine (read26 t op n s a len cap x w W hl hW hz (he.on hW) (hr.on hW) (ht.on hW)).mono ?_
      rintro e w' ⟨hb, ⟨h1, p1, v1, o1, n1, s1, a1, l1, c1, cc, he', hL⟩ | ⟨hno, _⟩⟩
      · obtain ⟨rfl, rfl, rfl⟩ := c.one cc
        exact ⟨hb, o1, n1, s1, a1, l1, c1, he', hL.below (bt hW hb (Nat.le_refl _))⟩
      · exact absurd ⟨h, p, v, c⟩ hno
  · refine lawCertOf t ByteArray.empty (.node 0 0 ByteArray.empty []) 0 false x (by simp [Tm.size, Tm.sizes]) (fun op n s a len cap w hl hz => ?_) (fun op n s a len cap w hl hz he hr ht => ?_) op n s a len cap w hl hv htab hx
    · refine (ofS6 t op n s a len cap w hl hz).mono ?_
      rintro e w' ⟨hb, ⟨h1, p1, v1, o1, n1, s1, a1, l1, c1, cc, he, hL⟩ | ⟨_, he⟩⟩
      · exact absurd ⟨h1, p1, v1, cc⟩ hc
      · exact ⟨_, _, _, _, _, _, he, zero_lies _ _, hb⟩
    · refine (certOfI_no op n s a len cap x w he fun W hW => ?_).mono ?_
      · refine (read26 t op n s a len cap x w W hl hW hz (he.on hW) (hr.on hW) (ht.on hW)).mono ?_
        rintro e w' ⟨hb, ⟨h1, p1, v1, o1, n1, s1, a1, l1, c1, cc, he', hL⟩ | ⟨_, he'⟩⟩
        · exact absurd ⟨h1, p1, v1, cc⟩ hc
        · exact ⟨hb, he'⟩
      · rintro e w' ⟨he', hb⟩
        exact ⟨_, _, _, _, _, _, [], he', zero_own _, ⟨by simp, by simp⟩, hb⟩

set_option maxRecDepth 100000 in
theorem liftedCertOf (os : Os) (started : os.Started) (H : Type) (enc : TypeId × Value → H) :
    ReturnsInHanded {} Tryz.checked os 6 .any (fun w args => (Rows.fnExactCertOfSpec.pre enc Tryz.prog Tryz.f6 Rows.fnExactCertOfRow.domain false w args ∧ laidMetH Tryz.prog laid6 w) ∧ sizedMet enc Tryz.prog Tryz.f6 (OpenSpec.ofChange Rows.fnExactCertOfSpec) false w args)
      (Rows.fnExactCertOfSpec.post enc Tryz.prog Tryz.f6 false true false false) := by
  refine returnsInHanded_of_change_and (C := Tryz.checked) (X := fun w _ => laidMetH Tryz.prog laid6 w) (fun _ _ _ hh h => h.of_heap hh) own started (by kernel_rfl) Tryz.func6
    (ChangeSpec.witness_shaped (enc := enc) (C := Tryz.checked) (os := os) (X := fun w _ => laidMetH Tryz.prog laid6 w) false (World.doorLaid Tryz.prog 400 os) #[.agg #[.int .i64 0, .int .i64 0, .string ByteArray.empty, .slice none 0 0]] 8 rfl (World.shaped_of_RefB (by kernel_rfl) (by kernel_rfl)) (by kernel_rfl) (by kernel_rfl) (by kernel_rfl) (door6_met os _)) ?_
  intro W base args ds gs before hval0 hW _ _ hL _
  have hval : ∀ (j : Nat) t v, Tryz.f6.params[j]? = some t → args[j]? = some v → Value.okWide Tryz.prog W .any base t v := hval0
  have hW' := hW
  obtain ⟨p, q, hA0, hV0, rfl, hfz, hnd⟩ := hW
  have hA : DataW.TrodAll enc Tryz.prog W 0 (fun _ => true) true Tryz.f6.params.toList args.toList ds p := hA0
  have hV : DataW.TrodVars enc Tryz.prog W (fun _ => true) ["loop.example/g00328/impl.errNoTerm"] gs q := hV0
  rw [Tryz.params6] at hA hval
  obtain ⟨v0, vs0, d0, ds0, p0, q0, hargs, rfl, rfl, h0, r0⟩ := trodAll_cons hA
  obtain ⟨rfl, rfl, rfl⟩ := trodAll_nil r0
  obtain rfl : args = #[v0] := by cases args; simp_all
  obtain ⟨x, hx⟩ := err_of_laid6 hL
  obtain ⟨rfl, rfl⟩ := hV.unique (err_read enc hx _)
  have k0 := h0
  have lt0 : ∀ x ∈ p0, x.block < W.heap.size := by obtain ⟨m, hm⟩ := k0; exact DataW.trod_lt m _ _ _ hm
  obtain ⟨t0, op0, n0, s0, a0, len0, cap0, rfl, hl0⟩ := open_arg (hval 0 24 v0 rfl rfl) h0
  clear hA0 hV0 hval0
  refine (lawCertOf_all t0 op0 n0 s0 a0 len0 cap0 W hl0 (var12_of_laid6 hL) (tab_of_laid6 hL) (err_of_var hx)).mono fun e W' ⟨he, bel⟩ => ?_
  subst he
  exact ⟨_, rfl, _, _, _, [], _, [.cell 0 0], hW', trodAll_mk1 (shut_bool Tryz.underlying4 _), (trodAll_cons_mk (Below.trod laidOut (by kernel_rfl) (of_decide_eq_true (by kernel_rfl)) k0 bel lt0) trodAll_mk0), err_read enc (var?_below hx bel) _, bel.frame _, fun h => by cases h⟩

theorem certOf_row : Rows.FnExactCertOfSaid :=
  OpenClaim.holds_of_wide 6 Tryz.f6 rfl rfl rfl rfl rfl rfl rfl ⟨rfl, rfl, rfl, rfl, rfl⟩ rfl rfl rfl rfl rfl (by kernel_rfl) Tryz.func6 (by kernel_rfl)
    (of_decide_eq_true (by kernel_rfl)) (by unfold Func.isWrapper; first | (rw [if_pos (by decide +kernel)]; kernel_rfl) | (rw [if_neg (by decide +kernel)]; exact ⟨rfl, rfl⟩))
    (fun os started H enc _ => liftedCertOf os started H enc)

theorem certOf_card : Rows.FnExactCertOfCardSaid :=
  Claim7.holds_tied_plain_at .later [] [.data, .data, .data, .sentinel, .sentinel, .sentinel] true (true, "e8177ddee3f55aa707513c47d48fb0d87aa2972828b52ff62a33273e57772c3c") true
    certOf_row (fun _ h => by cases h) (by kernel_rfl) (fun _ h => by cases h) fnExactCertOf_row_tie rfl ⟨rfl, rfl⟩ (by kernel_rfl) rfl
    (fun f fn hf hfn => by
      obtain rfl : f = 6 := Option.some.inj ((show Tryz.prog.funcNamed "loop.example/g00328/laws.FnExactCertOf" = some 6 by kernel_rfl).symm.trans hf) |>.symm
      obtain rfl : fn = Tryz.f6 := (Option.some.inj (Tryz.func6.symm.trans hfn)).symm
      exact ⟨by kernel_rfl, fun j t ht => by
        rw [Tryz.params6] at ht
        have hm : t ∈ [24] := by have := Array.mem_of_getElem? ht; simp at this ⊢; first | exact this | omega
        have hall : ([24].all fun u => !Tryz.prog.wantsStandIn u) = true := by kernel_rfl
        exact (show Tryz.prog.wantsStandIn t = false by simpa using List.all_eq_true.1 hall t hm)⟩)
    (by kernel_rfl)
#print axioms certOf_card

end Go.Proofs.YtlepdkbkiajkiaaGreatDoor
