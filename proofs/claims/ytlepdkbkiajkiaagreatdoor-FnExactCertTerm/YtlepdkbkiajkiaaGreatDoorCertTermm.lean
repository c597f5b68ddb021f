/- For every certificate that can be read as data, FnExactCertTerm returns true and leaves its arguments as they were: impl.CertTerm answers as the model does, at every argument, writes into none, and its answer owns its memory. Conditions: the row's own; the package-level variables that it lists begin as the program's text lays them, which the card ties to the pruned copy of the program. -/
import Derived.Test.YtlepdkbkiajkiaaGreatDoorIs
import Derived.Test.YtlepdkbkiajkiaaGreatDoorArg
import Derived.ProofKit
import Derived.LaidMore
import Derived.MakeChecks
import Derived.LaidHandle
import Derived.Stop.LaidErr
import Derived.Stop.LaidTwo
import Derived.Stop.Joined
import Derived.SevenTiedAt
import Derived.Test.YtlepdkbkiajkiaaGreatDoorCv
import Derived.Test.YtlepdkbkiajkiaaGreatDoorHd
import Derived.Deep.RegionHeld3
import Derived.Test.YtlepdkbkiajkiaaGreatDoorArc
import Derived.Test.YtlepdkbkiajkiaaGreatDoorTie
import Derived.Test.YtlepdkbkiajkiaaGreatDoorCards
namespace Go.Proofs.YtlepdkbkiajkiaaGreatDoor
open Go.ChangeShapes Go.WideShapes Go.ChangeAt Go.RowKit Go.Deep
open Go.RowKit Go.Deep

def laidE : List (String × DataW Unit) := [("loop.example/g00328/impl.errNoTerm", Rows.laid_loop_example_g00328_impl_errNoTerm)]
def laid4 : List (String × DataW Unit) := [("math/bits.deBruijn32tab", Rows.laid_math_bits_deBruijn32tab), ("math/bits.deBruijn64tab", Rows.laid_math_bits_deBruijn64tab), ("internal/strconv.uint64pow10", Rows.laid_internal_strconv_uint64pow10), ("loop.example/g00328/impl.errNoTerm", Rows.laid_loop_example_g00328_impl_errNoTerm)]

theorem doorE_met (os : Os) (args : Array Value) : laidMetH Tryz.prog laidE ((World.doorLaid Tryz.prog 400 os).forCall (fun _ _ => 0) ⟨#[], args, []⟩).memory :=
  laidMetH_of_parts3 (fuel := 8) (laidMet_of_run' 8 (by kernel_rfl) (by kernel_rfl)) (by kernel_rfl) (by kernel_rfl)
theorem door4_met (os : Os) (args : Array Value) : laidMetH Tryz.prog laid4 ((World.doorLaid Tryz.prog 400 os).forCall (fun _ _ => 0) ⟨#[], args, []⟩).memory :=
  laidMetH_of_parts3 (fuel := 8) (laidMet_of_run' 8 (by kernel_rfl) (by kernel_rfl)) (by kernel_rfl) (by kernel_rfl)

theorem gE : Tryz.prog.globalNamed "loop.example/g00328/impl.errNoTerm" = some 0 := by kernel_rfl
theorem gEType : (Tryz.prog.globals[0]?).map (·.type) = some 81 := by kernel_rfl
theorem cells137 : Tryz.prog.cellsOf 204 = 1 := by kernel_rfl
theorem cells9 : Tryz.prog.cellsOf 9 = 1 := by kernel_rfl
theorem star : "*" ++ "errors.errorString" = "*errors.errorString" := by decide
theorem rowE (u : TypeId) (h : Tryz.prog.typeName? 3 u = some "*errors.errorString") : u = 202 :=
  typeName_ptr_named (nm := "errors.errorString") (by rw [star]; kernel_rfl) (by kernel_rfl) (by decide) u (by rw [star]; exact h)

theorem err_of_met {W : World} {r : List (String × DataW Unit)} (h : laidMet Tryz.prog (("loop.example/g00328/impl.errNoTerm", Rows.laid_loop_example_g00328_impl_errNoTerm) :: r) W) : ∃ a, W.var? Tryz.prog "loop.example/g00328/impl.errNoTerm" = some #[.iface 202 (.pointer (some a))] := by
  obtain ⟨a, s, hv, _⟩ := laid_sentinel h gE gEType Tryz.underlying81 rowE Tryz.underlying202 Tryz.underlying204 rfl rfl Tryz.underlying9 cells137 cells9
  exact ⟨a, hv⟩
theorem err_of_var {W : World} {a : Addr} (hv : W.var? Tryz.prog "loop.example/g00328/impl.errNoTerm" = some #[.iface 202 (.pointer (some a))]) : Err W :=
  ⟨a, by have := World.var?_cell gE hv 0; simpa [ErrAt] using this⟩
theorem err_of_laidE {W : World} (h : laidMetH Tryz.prog laidE W) : ∃ a, W.var? Tryz.prog "loop.example/g00328/impl.errNoTerm" = some #[.iface 202 (.pointer (some a))] := by
  rw [MakeChecks.laidMetH_plain _ _ _ (by kernel_rfl)] at h
  exact err_of_met h
theorem err_of_laid4 {W : World} (h : laidMetH Tryz.prog laid4 W) : ∃ a, W.var? Tryz.prog "loop.example/g00328/impl.errNoTerm" = some #[.iface 202 (.pointer (some a))] := by
  rw [MakeChecks.laidMetH_plain _ _ _ (by kernel_rfl)] at h
  exact err_of_met h.tail.tail.tail

theorem pow_data : (Rows.laid_internal_strconv_uint64pow10 : DataW Unit) = Lib.tabData .u64 Lib.pow10Tab := by kernel_rfl
theorem tab_of_laid4 {W : World} (h : laidMetH Tryz.prog laid4 W) : Tab W := by
  rw [MakeChecks.laidMetH_plain _ _ _ (by kernel_rfl)] at h
  have h2 : laidMet Tryz.prog (("internal/strconv.uint64pow10", Lib.tabData .u64 Lib.pow10Tab) :: [("loop.example/g00328/impl.errNoTerm", Rows.laid_loop_example_g00328_impl_errNoTerm)]) W := by
    have := h.tail.tail
    rw [pow_data] at this
    exact this
  exact Lib.tabIs_of_head (g := 3) (t := 197) (e := 186) (n := 20) (by kernel_rfl) (by kernel_rfl) (by kernel_rfl) (by kernel_rfl) (by kernel_rfl) (by kernel_rfl) h2

theorem var?_below {P : Program} {W W' : World} {n : String} {cs : Array Value} (h : W.var? P n = some cs) (hb : Below W.heap.size W W') : W'.var? P n = some cs := by
  unfold World.var? at h ⊢
  cases hg : P.globalNamed n with
  | none => simp [hg] at h
  | some g =>
    simp only [hg, Option.bind_some] at h ⊢
    have hlt : g < W.heap.size := by
      rcases Nat.lt_or_ge g W.heap.size with h' | h'
      · exact h'
      · simp [Array.getElem?_eq_none h'] at h
    rw [hb.block g hlt]
    exact h

/-- The variable of the named error, read as a token. -/
theorem err_read {H : Type} (enc : TypeId × Value → H) {W : World} {a : Addr} (h : W.var? Tryz.prog "loop.example/g00328/impl.errNoTerm" = some #[.iface 202 (.pointer (some a))]) (sp : Nat → Bool) :
    DataW.TrodVars enc Tryz.prog W sp ["loop.example/g00328/impl.errNoTerm"] [tok enc (.iface 202 (.pointer (some a)))] [.cell 0 0] :=
  vars_read1 enc gE gEType Tryz.underlying81 h trivial sp

theorem held_markedC (T : Tm) (op n : Int) (s : ByteArray) (a : Option Addr) (len cap k : Nat) (w : World) (hl : Lies w 0 (T.marked k) (tmCells op n s a len cap)) (h1 : 1 ≤ k) (hz : k + 3 * T.size ≤ 1099511627776) :
    Calls Tryz.prog 47 #[.agg #[.int .i64 op, .int .i64 n, .string s, .slice a len cap], .int .i64 (k : Int)] w fun e w' => e = .returned (.int .i64 ((k + 3 * Tm.sizes T.kids : Nat) : Int)) ∧ Below w.heap.size w w' := by
  obtain ⟨op', n', s', ks⟩ := T
  have hh := hl
  simp only [Tm.marked, Lies, tmCells, List.cons.injEq, Value.int.injEq, Value.string.injEq, true_and] at hh
  obtain ⟨_, _, ⟨rfl, rfl, rfl, _⟩, _⟩ := hh
  simp only [Tm.size] at hz
  exact held_any op n s ks a len cap k w hl h1 (by omega)

set_option maxRecDepth 100000 in
set_option maxHeartbeats 4000000 in
theorem lawCertTerm (t : Tm) (h : ByteArray) (op n : Int) (s : ByteArray) (a : Option Addr) (len cap : Nat) (u : Int) (w : World) (hl : Lies w 0 t (tmCells op n s a len cap)) (hh : h.size ≤ maxLen) (htab : Tab w) (herr : Err w) :
    Calls Tryz.prog 5 #[.agg #[.string h, .int .i64 op, .int .i64 n, .string s, .slice a len cap, .int .i64 u]] w fun e w' => e = .returned (.bool true) ∧ Below w.heap.size w w' := by
  have HER := hide herr
  have HTB := hide htab
  clear herr htab
  have h11 := hide (fun v hv => szC t h op n s a len cap u v hv hh)
  have h8 := hide eq_calls
  have hZ := t.size_le
  have hTZ := certTm_200 h t u
  have hB0 : Below w.heap.size w (w.alloc (.cells #[.string h, .int .i64 op, .int .i64 n, .string s, .slice a len cap, .int .i64 u] 53)) := ab _
  have HL := hide (hl.below hB0)
  have HB0 := hide hB0
  have HA := hide (RowC.new 53 w h op n s a len cap u)
  clear hl hB0 hh
  by_cases hw : ((h.size + t.wt : Nat) : Int) ≤ 1048576
  · have hsz : t.size ≤ 1048577 := by omega
    have hhz : h.size ≤ 2097152 := by omega
    have hsz2 : t.size ≤ 2097152 := by omega
    have h13 := hide (fun a cap v hv => tpC t h op n s a len cap u v hv hsz2)
    have h15 := hide (fun a cap v hv => certTS t h op n s a len cap u v hv hsz2 hhz)
    have h16 := hide (fun a cap v hv ht he => certTI t h op n s a len cap u v hv hsz2 hhz ht he)
    have h9 := hide (fun a cap a' cap' v hv hv' => eqC t h op n s a len cap u op n s a' len cap' v hv hv')
    generalize certTm h t u = T at *
    have HKP : Hid (Tm.sizes T.kids ≤ T.size) := by have := size_kids T; show _ ≤ _; omega
    have HTZ : Hid (1 + 3 * T.size ≤ 1099511627776) := by show _ ≤ _; omega
    have HXZ : Hid (1 + 3 * t.size ≤ 1099511627776) := by show _ ≤ _; omega
    have h9x : Hid (∀ (a : Option Addr) (w : World) (fp : List Nat), Own w t (tmCells op n s a len len) fp → fp.Nodup →
        Calls Tryz.prog 45 #[.agg #[.string h, .int .i64 op, .int .i64 n, .string s, .slice a len len, .int .i64 u], .int .i64 1] w fun e w' => e = .returned (.int .i64 ((1 + 3 * Tm.sizes t.kids : Nat) : Int)) ∧ Own w' (t.marked 1) (tmCells op n s a len len) fp ∧ Only fp w w') :=
      fun a w fp ho hnd => markC t h op n s a len len u w fp ho hnd (unhide HXZ)
    have h9g : Hid (∀ (op n : Int) (s : ByteArray) (a : Option Addr) (len cap : Nat) (w : World) (fp : List Nat), Own w T (tmCells op n s a len cap) fp → fp.Nodup →
        Calls Tryz.prog 46 #[.agg #[.int .i64 op, .int .i64 n, .string s, .slice a len cap], .int .i64 1] w fun e w' => e = .returned (.int .i64 ((1 + 3 * Tm.sizes T.kids : Nat) : Int)) ∧ Own w' (T.marked 1) (tmCells op n s a len cap) fp ∧ Only fp w w') :=
      fun op n s a len cap w fp h hnd => mark_any T op n s a len cap 1 w fp h hnd (Nat.le_refl _) (unhide HTZ)
    have h10 : Hid (∀ (op n : Int) (s : ByteArray) (a : Option Addr) (len cap : Nat) (w : World), Lies w 0 (T.marked 1) (tmCells op n s a len cap) →
        Calls Tryz.prog 47 #[.agg #[.int .i64 op, .int .i64 n, .string s, .slice a len cap], .int .i64 1] w fun e w' => e = .returned (.int .i64 ((1 + 3 * Tm.sizes T.kids : Nat) : Int)) ∧ Below w.heap.size w w') :=
      fun op n s a len cap w h => held_markedC T op n s a len cap 1 w h (Nat.le_refl _) (unhide HTZ)
    have hmb : (1 + 3 * Tm.sizes T.kids : Nat) ≤ 4194304 := by have := unhide HKP; omega
    have hkb : (1 + 3 * Tm.sizes t.kids : Nat) ≤ 4194304 := by have := size_kids t; omega
    rw [szv_yes hw] at h11
    obtain ⟨left, hleft⟩ : ∃ left : Int, left = 1048576 - ((h.size + t.wt : Nat) : Int) := ⟨_, rfl⟩
    rw [← hleft] at h11
    have hln : 0 ≤ left := by omega
    clear hZ hTZ hleft hw hsz hsz2 hhz HKP
    generalize 1 + 3 * Tm.sizes T.kids = mG at *
    generalize 1 + 3 * Tm.sizes t.kids = mX at *
    go_enter Tryz.func5, Tryz.ntmps5
    go_wp2_with fail
    refine (unhide h11 _ (unhide HL)).mono ?_
    rintro e w1 ⟨rfl, hb1⟩
    have HA1 := hide ((unhide HA).below hb1)
    have HL1 := hide ((unhide HL).below hb1)
    have HB1 := hide (bt (unhide HB0) hb1 (Nat.le_refl _))
    clear hb1 HL HB0 HA h11
    obtain ⟨c0, c1, c2, c3, c4, c5⟩ := (unhide HA1).facts
    go_wp2_with fail
    refine (unhide h13 a cap _ (unhide HL1)).mono ?_
    rintro e w2 ⟨a2, f2, rfl, hO2, _, hb2⟩
    have HA2 := hide ((unhide HA1).below hb2)
    have HL2 := hide ((unhide HL1).below hb2)
    have HB2 := hide (bt (unhide HB1) hb2 (Nat.le_refl _))
    have HO2 := hide hO2.lies0
    clear hb2 hO2 HA1 HL1 HB1 c0 c1 c2 c3 c4 c5
    go_wp2_with fail
    refine (unhide h15 a2 len _ (unhide HO2)).mono ?_
    rintro e w3 ⟨opW, nW, sW, aW, lenW, capW, rfl, hL3, hb3⟩
    have HA3 := hide ((unhide HA2).below hb3)
    have HL3 := hide ((unhide HL2).below hb3)
    have HB3 := hide (bt (unhide HB2) hb3 (Nat.le_refl _))
    have HW3 := hide (hL3.any (Nat.zero_le _))
    clear hb3 hL3 HA2 HL2 HB2 HO2
    have HVB := hide (bt (unhide HB3) (ab (.cells #[.int .i64 opW, .int .i64 nW, .string sW, .slice aW lenW capW] 29)) (Nat.le_refl _))
    have HVA := hide ((unhide HA3).below (ab (.cells #[.int .i64 opW, .int .i64 nW, .string sW, .slice aW lenW capW] 29)))
    have HVW := hide (RowT.new 29 w3 opW nW sW aW lenW capW)
    have HVLA := hide ((unhide HL3).below (ab (.cells #[.int .i64 opW, .int .i64 nW, .string sW, .slice aW lenW capW] 29)))
    have HVLW := hide ((unhide HW3).below (ab (.cells #[.int .i64 opW, .int .i64 nW, .string sW, .slice aW lenW capW] 29)))
    obtain ⟨c0, c1, c2, c3, c4, c5⟩ := (unhide HVA).facts
    clear HA3 HL3 HB3 HW3
    go_wp2_with fail
    generalize hV1 : w3.alloc (.cells #[.int .i64 opW, .int .i64 nW, .string sW, .slice aW lenW capW] 29) = V1 at *
    have HGW : Hid (w3.heap.size + 1 = V1.heap.size) := by show _ = _; rw [← hV1, heap_size_alloc]
    generalize w3.heap.size = bW at *
    clear hV1
    refine (unhide h13 a cap _ (unhide HVLA)).mono ?_
    rintro e w4 ⟨a4, f4, rfl, hO4, ⟨hnd4, hge4⟩, hb4⟩
    have HND4 := hide hnd4
    have HGE4 := hide hge4
    have HLT4 := hide (Own.lt _ _ _ hO4)
    have hb4' := bt hb4 (ab (.cells #[.string h, .int .i64 op, .int .i64 n, .string s, .slice a4 len len, .int .i64 u] 57)) (Nat.le_refl _)
    have HV2 := hide hb4'
    have HXR := hide (RowC.new 57 w4 h op n s a4 len len u)
    have HXO := hide (hO4.below (ab (.cells #[.string h, .int .i64 op, .int .i64 n, .string s, .slice a4 len len, .int .i64 u] 57)))
    clear hO4 hnd4 hge4 hb4 hb4' c0 c1 c2 c3 c4 c5
    obtain ⟨c0, c1, c2, c3, c4, c5⟩ := (unhide HXR).facts
    go_wp2_with fail
    generalize hV2 : w4.alloc (.cells #[.string h, .int .i64 op, .int .i64 n, .string s, .slice a4 len len, .int .i64 u] 57) = V2 at *
    have HGX : Hid (w4.heap.size + 1 = V2.heap.size) := by show _ = _; rw [← hV2, heap_size_alloc]
    generalize w4.heap.size = bX at *
    clear hV2
    refine (unhide h16 a4 len _ (unhide HXO).lies0 ((unhide HTB).on (bt (unhide HVB) (unhide HV2) (Nat.le_refl _))) ((unhide HER).on (bt (unhide HVB) (unhide HV2) (Nat.le_refl _)))).mono ?_
    rintro e w5 ⟨opG, nG, sG, aG, lenG, capG, f5, rfl, hO5, ⟨hnd5, hge5⟩, hb5⟩
    have HND5 := hide hnd5
    have HGE5 := hide hge5
    have HLT5 := hide (Own.lt _ _ _ hO5)
    have HBG := hide hb5.size
    have hb5' := bt hb5 (ab (.cells #[.int .i64 opG, .int .i64 nG, .string sG, .slice aG lenG capG] 29)) (Nat.le_refl _)
    have HV3 := hide hb5'
    have HV13 := hide (bt (unhide HV2) hb5' (Nat.le_refl _))
    have HGR := hide (RowT.new 29 w5 opG nG sG aG lenG capG)
    have HGO := hide (hO5.below (ab (.cells #[.int .i64 opG, .int .i64 nG, .string sG, .slice aG lenG capG] 29)))
    clear hO5 hnd5 hge5 hb5 hb5' c0 c1 c2 c3 c4 c5
    obtain ⟨c0, c1, c2, c3⟩ := (unhide HGR).facts
    obtain ⟨d0, d1, d2, d3⟩ := ((unhide HVW).below (unhide HV13)).facts
    go_wp2_with fail
    generalize hV3 : w5.alloc (.cells #[.int .i64 opG, .int .i64 nG, .string sG, .slice aG lenG capG] 29) = V3 at *
    have HGG : Hid (w5.heap.size + 1 = V3.heap.size) := by show _ = _; rw [← hV3, heap_size_alloc]
    generalize w5.heap.size = bG at *
    clear hV3
    refine (unhide h8 T opG nG sG aG lenG capG opW nW sW aW lenW capW _ (unhide HGO).lies0 ((unhide HVLW).below (unhide HV13))).mono ?_
    rintro e w6 ⟨rfl, hb6⟩
    have HV16 := hide (bt (unhide HV13) hb6 (Nat.le_refl _))
    have HV26 := hide (bt (unhide HV3) hb6 (Nat.le_refl _))
    have HGR6 := hide ((unhide HGR).below hb6)
    have HGO6 := hide ((unhide HGO).below hb6)
    clear hb6 c0 c1 c2 c3 d0 d1 d2 d3 HV13 HV3 HGR HGO
    obtain ⟨c0, c1, c2, c3, c4, c5⟩ := ((unhide HXR).below (unhide HV26)).facts
    obtain ⟨d0, d1, d2, d3, d4, d5⟩ := ((unhide HVA).below (unhide HV16)).facts
    have HLA6 := hide ((unhide HVLA).below (unhide HV16).drew)
    have HXO6 := hide ((unhide HXO).below (unhide HV26).drew)
    go_wp2_with fail
    go_region_held3 (fun x => x.cell? ⟨bX, 0, none⟩ = some (.string h) ∧ x.cell? ⟨bX, 1, none⟩ = some (.int .i64 op) ∧ x.cell? ⟨bX, 2, none⟩ = some (.int .i64 n) ∧ x.cell? ⟨bX, 3, none⟩ = some (.string s) ∧ x.cell? ⟨bX, 4, none⟩ = some (.slice a4 len len) ∧ x.cell? ⟨bX, 5, none⟩ = some (.int .i64 u) ∧
        x.cell? ⟨w.heap.size, 0, none⟩ = some (.string h) ∧ x.cell? ⟨w.heap.size, 1, none⟩ = some (.int .i64 op) ∧ x.cell? ⟨w.heap.size, 2, none⟩ = some (.int .i64 n) ∧ x.cell? ⟨w.heap.size, 3, none⟩ = some (.string s) ∧ x.cell? ⟨w.heap.size, 4, none⟩ = some (.slice a len cap) ∧ x.cell? ⟨w.heap.size, 5, none⟩ = some (.int .i64 u)) (go_keep)
      (first
        | (go_at_call 42
           refine (unhide h13 a cap _ (unhide HLA6)).mono ?_
           rintro e w7 ⟨a7, f7, rfl, hO7, _, hb7⟩
           have hb7' := hide (below_drew' hb7)
           have HO7 := hide hO7.lies0
           have HX7 := hide ((unhide HXO6).below hb7).lies0
           have f0 := kpc (unhide hb7') c0
           have f1 := kpc (unhide hb7') c1
           have f2 := kpc (unhide hb7') c2
           have f3 := kpc (unhide hb7') c3
           have f4 := kpc (unhide hb7') c4
           have f5 := kpc (unhide hb7') c5
           have e0 := kpc (unhide hb7') d0
           have e1 := kpc (unhide hb7') d1
           have e2 := kpc (unhide hb7') d2
           have e3 := kpc (unhide hb7') d3
           have e4 := kpc (unhide hb7') d4
           have e5 := kpc (unhide hb7') d5)
        | (go_at_call 44
           refine (unhide h9 a4 len a7 len _ (unhide HX7) (unhide HO7)).mono ?_
           rintro e w8 ⟨rfl, hb8⟩
           have g0 := kpc hb8 f0
           have g1 := kpc hb8 f1
           have g2 := kpc hb8 f2
           have g3 := kpc hb8 f3
           have g4 := kpc hb8 f4
           have g5 := kpc hb8 f5
           have i0 := kpc hb8 e0
           have i1 := kpc hb8 e1
           have i2 := kpc hb8 e2
           have i3 := kpc hb8 e3
           have i4 := kpc hb8 e4
           have i5 := kpc hb8 e5
           have hb8' := hide hb8))
    have HV18 := hide (bt (bt (unhide HV16) (unhide hb7') (Nat.le_refl _)) (unhide hb8') (Nat.le_refl _))
    have HGR8 := hide (((unhide HGR6).below (unhide hb7')).below (unhide hb8'))
    have HGO8 := hide (((unhide HGO6).below (unhide hb7')).below (unhide hb8'))
    have HXO8 := hide (((unhide HXO).below (unhide HV26)).below (unhide hb7') |>.below (unhide hb8'))
    clear f0 f1 f2 f3 f4 f5 e0 e1 e2 e3 e4 e5 c0 c1 c2 c3 c4 c5 d0 d1 d2 d3 d4 d5 HV16 HV26 HGR6 HGO6 HXO6 HLA6 hb7' hb8' HO7 HX7
    go_wp2_with fail
    refine (unhide h9x a4 _ _ (unhide HXO8) (unhide HND4)).mono ?_
    rintro e w9 ⟨rfl, _, o9⟩
    have HV19 := hide ((unhide HV18).trans (o9.below (unhide HV18).size (unhide HGE4)))
    have HGR9 := hide ((unhide HGR8).only o9 (fun hx => by have := unhide HLT4 _ hx; have := unhide HBG; have := unhide HGX; omega))
    have HGO9 := hide ((unhide HGO8).only o9 (fun x hx hx4 => by have := unhide HLT4 _ hx4; have := unhide HGE5 _ hx; have := unhide HGX; omega))
    clear o9 HV18 HGR8 HGO8 HXO8 g0 g1 g2 g3 g4 g5 i0 i1 i2 i3 i4 i5
    obtain ⟨c0, c1, c2, c3⟩ := (unhide HGR9).facts
    obtain ⟨d0, d1, d2, d3⟩ := ((unhide HVW).below (unhide HV19)).facts
    go_wp2_with fail
    refine (unhide h8 T opG nG sG aG lenG capG opW nW sW aW lenW capW _ (unhide HGO9).lies0 ((unhide HVLW).below (unhide HV19))).mono ?_
    rintro e w10 ⟨rfl, hb10⟩
    have HV20 := hide (bt (unhide HV19) hb10 (Nat.le_refl _))
    have HGR10 := hide ((unhide HGR9).below hb10)
    have HGO10 := hide ((unhide HGO9).below hb10)
    clear hb10 HV19 HGR9 HGO9 c0 c1 c2 c3 d0 d1 d2 d3
    obtain ⟨c0, c1, c2, c3⟩ := (unhide HGR10).facts
    go_wp2_with fail
    refine (unhide h9g opG nG sG aG lenG capG _ _ (unhide HGO10) (unhide HND5)).mono ?_
    rintro e w11 ⟨rfl, k11, o11⟩
    have HV21 := hide ((unhide HV20).trans (o11.below (unhide HV20).size (fun x hx => by have := unhide HGE5 _ hx; have := (unhide HV2).size; omega)))
    have HGR11 := hide ((unhide HGR10).only o11 (fun hx => by have := unhide HLT5 _ hx; omega))
    have HGO11 := hide k11.lies0
    clear o11 k11 HV20 HGR10 HGO10 c0 c1 c2 c3
    obtain ⟨c0, c1, c2, c3⟩ := (unhide HGR11).facts
    go_wp2_with fail
    refine (unhide h10 opG nG sG aG lenG capG _ (unhide HGO11)).mono ?_
    rintro e w12 ⟨rfl, hb12⟩
    have HV22 := hide (bt (unhide HV21) hb12 (Nat.le_refl _))
    have HGR12 := hide ((unhide HGR11).below hb12)
    have HGO12 := hide ((unhide HGO11).below hb12)
    clear hb12 HV21 HGR11 HGO11 c0 c1 c2 c3
    obtain ⟨d0, d1, d2, d3, d4, d5⟩ := ((unhide HVA).below (unhide HV22)).facts
    go_wp2_with fail
    refine (unhide h13 a cap _ ((unhide HVLA).below (unhide HV22))).mono ?_
    rintro e w13 ⟨a13, f13, rfl, hO13, _, hb13⟩
    have HV23 := hide (bt (unhide HV22) hb13 (Nat.le_refl _))
    have HGR13 := hide ((unhide HGR12).below hb13)
    have HGO13 := hide ((unhide HGO12).below hb13)
    have HO13 := hide hO13.lies0
    clear hb13 hO13 HV22 HGR12 HGO12 d0 d1 d2 d3 d4 d5
    go_wp2_with fail
    refine (unhide h16 a13 len _ (unhide HO13) ((unhide HTB).on (bt (unhide HVB) (unhide HV23) (Nat.le_refl _))) ((unhide HER).on (bt (unhide HVB) (unhide HV23) (Nat.le_refl _)))).mono ?_
    rintro e w14 ⟨opH, nH, sH, aH, lenH, capH, f14, rfl, hO14, _, hb14⟩
    have hb14' := bt hb14 (ab (.cells #[.int .i64 opH, .int .i64 nH, .string sH, .slice aH lenH capH] 29)) (Nat.le_refl _)
    have HV24 := hide (bt (unhide HV23) hb14' (Nat.le_refl _))
    have HGR14 := hide ((unhide HGR13).below hb14')
    have HGO14 := hide ((unhide HGO13).below hb14')
    have HHO := hide (hO14.below (ab (.cells #[.int .i64 opH, .int .i64 nH, .string sH, .slice aH lenH capH] 29))).lies0
    clear hb14 hb14' hO14 HV23 HGR13 HGO13 HO13
    obtain ⟨c0, c1, c2, c3⟩ := (RowT.new 29 w14 opH nH sH aH lenH capH).facts
    obtain ⟨d0, d1, d2, d3⟩ := ((unhide HVW).below (unhide HV24)).facts
    go_wp2_with fail
    refine (unhide h8 T opH nH sH aH lenH capH opW nW sW aW lenW capW _ (unhide HHO) ((unhide HVLW).below (unhide HV24))).mono ?_
    rintro e w15 ⟨rfl, hb15⟩
    have HV25 := hide (bt (unhide HV24) hb15 (Nat.le_refl _))
    have HGR15 := hide ((unhide HGR14).below hb15)
    have HGO15 := hide ((unhide HGO14).below hb15)
    clear hb15 HV24 HGR14 HGO14 HHO c0 c1 c2 c3 d0 d1 d2 d3
    obtain ⟨c0, c1, c2, c3⟩ := (unhide HGR15).facts
    go_wp2_with fail
    refine (unhide h10 opG nG sG aG lenG capG _ (unhide HGO15)).mono ?_
    rintro e w16 ⟨rfl, hb16⟩
    have HV26 := hide (bt (unhide HV25) hb16 (Nat.le_refl _))
    clear hb16 c0 c1 c2 c3
    go_wp2_with fail
    go_ret
    exact ⟨rfl, (unhide HVB).trans ((unhide HV26).mono (unhide HVB).size)⟩
  · rw [szv_no (by omega)] at h11
    clear hw
    go_enter Tryz.func5, Tryz.ntmps5
    go_wp2_with fail
    refine (unhide h11 _ (unhide HL)).mono ?_
    rintro e w2 ⟨rfl, hb2⟩
    go_wp2_with fail
    go_ret
    exact ⟨rfl, bt (unhide HB0) hb2 (Nat.le_refl _)⟩

set_option maxRecDepth 100000 in
theorem liftedCertTerm (os : Os) (started : os.Started) (H : Type) (enc : TypeId × Value → H) :
    ReturnsInHanded {} Tryz.checked os 5 .any (fun w args => (Rows.fnExactCertTermSpec.pre enc Tryz.prog Tryz.f5 Rows.fnExactCertTermRow.domain false w args ∧ laidMetH Tryz.prog laid4 w) ∧ sizedMet enc Tryz.prog Tryz.f5 (OpenSpec.ofChange Rows.fnExactCertTermSpec) false w args)
      (Rows.fnExactCertTermSpec.post enc Tryz.prog Tryz.f5 false true false false) := by
  refine returnsInHanded_of_change_and (C := Tryz.checked) (X := fun w _ => laidMetH Tryz.prog laid4 w) (fun _ _ _ hh h => h.of_heap hh) own started (by kernel_rfl) Tryz.func5
    (ChangeSpec.witness_shaped (enc := enc) (C := Tryz.checked) (os := os) (X := fun w _ => laidMetH Tryz.prog laid4 w) false (World.doorLaid Tryz.prog 400 os) #[.agg #[.string ByteArray.empty, .int .i64 0, .int .i64 0, .string ByteArray.empty, .slice none 0 0, .int .i64 0]] 8 rfl (World.shaped_of_RefB (by kernel_rfl) (by kernel_rfl)) (by kernel_rfl) (by kernel_rfl) (by kernel_rfl) (door4_met os _)) ?_
  intro W base args ds gs before hval0 hW _ _ hL _
  have hval : ∀ (j : Nat) t v, Tryz.f5.params[j]? = some t → args[j]? = some v → Value.okWide Tryz.prog W .any base t v := hval0
  have hW' := hW
  obtain ⟨p, q, hA0, hV0, rfl, hfz, hnd⟩ := hW
  have hA : DataW.TrodAll enc Tryz.prog W 0 (fun _ => true) true Tryz.f5.params.toList args.toList ds p := hA0
  have hV : DataW.TrodVars enc Tryz.prog W (fun _ => true) ["loop.example/g00328/impl.errNoTerm"] gs q := hV0
  rw [Tryz.params5] at hA hval
  obtain ⟨v0, vs0, d0, ds0, p0, q0, hargs, rfl, rfl, h0, r0⟩ := trodAll_cons hA
  obtain ⟨rfl, rfl, rfl⟩ := trodAll_nil r0
  obtain rfl : args = #[v0] := by cases args; simp_all
  obtain ⟨x, hx⟩ := err_of_laid4 hL
  obtain ⟨rfl, rfl⟩ := hV.unique (err_read enc hx _)
  have k0 := h0
  have lt0 : ∀ x ∈ p0, x.block < W.heap.size := by obtain ⟨m, hm⟩ := k0; exact DataW.trod_lt m _ _ _ hm
  obtain ⟨hs0, t0, op0, n0, s0, a0, len0, cap0, u0, rfl, hl0, hhs0, -⟩ := open_cert (hval 0 53 v0 rfl rfl) h0
  clear hA0 hV0 hval0
  refine (lawCertTerm t0 hs0 op0 n0 s0 a0 len0 cap0 u0 W hl0 hhs0 (tab_of_laid4 hL) (err_of_var hx)).mono fun e W' ⟨he, bel⟩ => ?_
  subst he
  exact ⟨_, rfl, _, _, _, [], _, [.cell 0 0], hW', trodAll_mk1 (shut_bool Tryz.underlying4 _), (trodAll_cons_mk (Below.trod laidOut (by kernel_rfl) (of_decide_eq_true (by kernel_rfl)) k0 bel lt0) trodAll_mk0), err_read enc (var?_below hx bel) _, bel.frame _, fun h => by cases h⟩

theorem certTerm_row : Rows.FnExactCertTermSaid :=
  OpenClaim.holds_of_wide 5 Tryz.f5 rfl rfl rfl rfl rfl rfl rfl ⟨rfl, rfl, rfl, rfl, rfl⟩ rfl rfl rfl rfl rfl (by kernel_rfl) Tryz.func5 (by kernel_rfl)
    (of_decide_eq_true (by kernel_rfl)) (by unfold Func.isWrapper; first | (rw [if_pos (by decide +kernel)]; kernel_rfl) | (rw [if_neg (by decide +kernel)]; exact ⟨rfl, rfl⟩))
    (fun os started H enc _ => liftedCertTerm os started H enc)

theorem certTerm_card : Rows.FnExactCertTermCardSaid :=
  Claim7.holds_tied_plain_at .later [] [.data, .data, .data, .sentinel] true (true, "e8177ddee3f55aa707513c47d48fb0d87aa2972828b52ff62a33273e57772c3c") true
    certTerm_row (fun _ h => by cases h) (by kernel_rfl) (fun _ h => by cases h) fnExactCertTerm_row_tie rfl ⟨rfl, rfl⟩ (by kernel_rfl) rfl
    (fun f fn hf hfn => by
      obtain rfl : f = 5 := Option.some.inj ((show Tryz.prog.funcNamed "loop.example/g00328/laws.FnExactCertTerm" = some 5 by kernel_rfl).symm.trans hf) |>.symm
      obtain rfl : fn = Tryz.f5 := (Option.some.inj (Tryz.func5.symm.trans hfn)).symm
      exact ⟨by kernel_rfl, fun j t ht => by
        rw [Tryz.params5] at ht
        have hm : t ∈ [53] := by have := Array.mem_of_getElem? ht; simp at this ⊢; first | exact this | omega
        have hall : ([53].all fun u => !Tryz.prog.wantsStandIn u) = true := by kernel_rfl
        exact (show Tryz.prog.wantsStandIn t = false by simpa using List.all_eq_true.1 hall t hm)⟩)
    (by kernel_rfl)
#print axioms certTerm_card

end Go.Proofs.YtlepdkbkiajkiaaGreatDoor
