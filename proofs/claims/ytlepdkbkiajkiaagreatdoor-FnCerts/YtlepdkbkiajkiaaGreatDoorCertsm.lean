/- For every row of bytes, FnCerts returns true and leaves its argument as it was: a drawn certificate is read as it was; it is good for its host alone, up to its end. Conditions: the row's own; the package-level variables that it lists begin as the program's text lays them, which the card ties to the pruned copy of the program. -/
import Derived.Test.YtlepdkbkiajkiaaGreatDoorRows
import Derived.Test.YtlepdkbkiajkiaaGreatDoorTm
import Derived.OpenShut
import Derived.ShutString
import Derived.ChangeOld
import Derived.Test.YtlepdkbkiajkiaaGreatDoorSx
import Derived.ProofKit
import Derived.LaidMore
import Derived.MakeChecks
import Derived.LaidHandle
import Derived.Stop.LaidErr
import Derived.Stop.LaidTwo
import Derived.Stop.Joined
import Derived.SevenTiedAt
import Derived.Test.YtlepdkbkiajkiaaGreatDoorDe
import Derived.Test.YtlepdkbkiajkiaaGreatDoorSw
import Derived.Test.YtlepdkbkiajkiaaGreatDoorHd
import Derived.Deep.RegionHeld3
import Derived.Deep.RegionWith
import Derived.Test.YtlepdkbkiajkiaaGreatDoorTie
import Derived.Test.YtlepdkbkiajkiaaGreatDoorCards
namespace Go.Proofs.YtlepdkbkiajkiaaGreatDoor
open Go.ChangeShapes Go.WideShapes Go.ChangeAt Go.RowKit Go.Deep
open Go.RowKit Go.Deep

set_option maxRecDepth 100000 in
theorem own : ownKnob Tryz.prog.godebug = none := by kernel_rfl
set_option maxRecDepth 100000 in
theorem laidOut : laidOutB Tryz.prog = true := by kernel_rfl
theorem cells24 : Tryz.prog.cellsOf 24 = 4 := by kernel_rfl

set_option maxRecDepth 100000 in
/-- An argument of the laws' own term type, opened. -/
theorem open_arg {H : Type} {enc : TypeId × Value → H} {W : World} {base : Nat} {v : Value} {d : DataW H} {p : List MemPlace} (hv : Value.okWide Tryz.prog W .any base 24 v) (h : DataW.Trod enc Tryz.prog W 0 (fun _ => true) true 24 v d p) :
    ∃ (t : Tm) (op n : Int) (s : ByteArray) (a : Option Addr) (len cap : Nat), v = .agg #[.int .i64 op, .int .i64 n, .string s, .slice a len cap] ∧ Lies W 0 t (tmCells op n s a len cap) := by
  obtain ⟨cs, rfl, hsz⟩ := okWide_struct Tryz.underlying24 hv
  obtain ⟨fuel, hf⟩ := h
  obtain ⟨T, hT⟩ := open_tm (t := 22) (e := 24) (tint := 3) (tstr := 9) Tryz.underlying24 (by kernel_rfl) cells24 rfl rfl rfl rfl Tryz.underlying3 Tryz.underlying9 Tryz.underlying22 fuel _ _ hf
  obtain ⟨op, n, s, a, len, cap, he⟩ := hT.cells
  rw [he] at hT
  refine ⟨T, op, n, s, a, len, cap, ?_, hT⟩
  have : cs = #[.int .i64 op, .int .i64 n, .string s, .slice a len cap] := by
    apply Array.ext'
    simpa [Value.cells, tmCells] using he
  rw [this]

def laid6 : List (String × DataW Unit) := [("math/bits.deBruijn32tab", Rows.laid_math_bits_deBruijn32tab), ("math/bits.deBruijn64tab", Rows.laid_math_bits_deBruijn64tab), ("internal/strconv.uint64pow10", Rows.laid_internal_strconv_uint64pow10), ("strconv.ErrRange", Rows.laid_strconv_ErrRange), ("strconv.ErrSyntax", Rows.laid_strconv_ErrSyntax), ("loop.example/g00328/impl.errNoTerm", Rows.laid_loop_example_g00328_impl_errNoTerm)]

theorem door6_met (os : Os) (args : Array Value) : laidMetH Tryz.prog laid6 ((World.doorLaid Tryz.prog 400 os).forCall (fun _ _ => 0) ⟨#[], args, []⟩).memory :=
  laidMetH_of_parts3 (fuel := 8) (laidMet_of_run' 8 (by kernel_rfl) (by kernel_rfl)) (by kernel_rfl) (by kernel_rfl)

theorem gE : Tryz.prog.globalNamed "loop.example/g00328/impl.errNoTerm" = some 0 := by kernel_rfl
theorem gEType : (Tryz.prog.globals[0]?).map (·.type) = some 81 := by kernel_rfl
theorem cells137 : Tryz.prog.cellsOf 204 = 1 := by kernel_rfl
theorem cells9 : Tryz.prog.cellsOf 9 = 1 := by kernel_rfl
theorem star : "*" ++ "errors.errorString" = "*errors.errorString" := by decide
theorem rowE (u : TypeId) (h : Tryz.prog.typeName? 3 u = some "*errors.errorString") : u = 202 :=
  typeName_ptr_named (nm := "errors.errorString") (by rw [star]; kernel_rfl) (by kernel_rfl) (by decide) u (by rw [star]; exact h)

theorem err_of_met {W : World} {r : List (String × DataW Unit)} (h : laidMet Tryz.prog (("loop.example/g00328/impl.errNoTerm", Rows.laid_loop_example_g00328_impl_errNoTerm) :: r) W) : ∃ a, W.var? Tryz.prog "loop.example/g00328/impl.errNoTerm" = some #[.iface 202 (.pointer (some a))] := by
  obtain ⟨a, s, hv, _⟩ := laid_sentinel h gE gEType Tryz.underlying81 rowE Tryz.underlying202 Tryz.underlying204 rfl rfl Tryz.underlying9 cells137 cells9
  exact ⟨a, hv⟩
theorem err_of_var {W : World} {a : Addr} (hv : W.var? Tryz.prog "loop.example/g00328/impl.errNoTerm" = some #[.iface 202 (.pointer (some a))]) : Err W :=
  ⟨a, by have := World.var?_cell gE hv 0; simpa [ErrAt] using this⟩
theorem err_of_laid6 {W : World} (h : laidMetH Tryz.prog laid6 W) : ∃ a, W.var? Tryz.prog "loop.example/g00328/impl.errNoTerm" = some #[.iface 202 (.pointer (some a))] := by
  rw [MakeChecks.laidMetH_plain _ _ _ (by kernel_rfl)] at h
  exact err_of_met h.tail.tail.tail.tail.tail
theorem gS : Tryz.prog.globalNamed "strconv.ErrSyntax" = some 1 := by kernel_rfl
theorem gSType : (Tryz.prog.globals[1]?).map (·.type) = some 81 := by kernel_rfl
theorem gR : Tryz.prog.globalNamed "strconv.ErrRange" = some 2 := by kernel_rfl
theorem gRType : (Tryz.prog.globals[2]?).map (·.type) = some 81 := by kernel_rfl
theorem var12_of_laid6 {W : World} (h : laidMetH Tryz.prog laid6 W) : Var12 W := by
  rw [MakeChecks.laidMetH_plain _ _ _ (by kernel_rfl)] at h
  have h3 := h.tail.tail.tail
  obtain ⟨a, s, hr, _⟩ := laid_sentinel h3 gR gRType Tryz.underlying81 rowE Tryz.underlying202 Tryz.underlying204 rfl rfl Tryz.underlying9 cells137 cells9
  obtain ⟨b, s', hs, _⟩ := laid_sentinel h3.tail gS gSType Tryz.underlying81 rowE Tryz.underlying202 Tryz.underlying204 rfl rfl Tryz.underlying9 cells137 cells9
  refine ⟨⟨.iface 202 (.pointer (some b)), ?_, Or.inr ⟨_, _, rfl⟩⟩, .iface 202 (.pointer (some a)), ?_, Or.inr ⟨_, _, rfl⟩⟩
  · have := World.var?_cell gS hs 0
    simpa using this
  · have := World.var?_cell gR hr 0
    simpa using this

theorem pow_data : (Rows.laid_internal_strconv_uint64pow10 : DataW Unit) = Lib.tabData .u64 Lib.pow10Tab := by kernel_rfl
theorem tab_of_laid6 {W : World} (h : laidMetH Tryz.prog laid6 W) : Tab W := by
  rw [MakeChecks.laidMetH_plain _ _ _ (by kernel_rfl)] at h
  have h2 : laidMet Tryz.prog (("internal/strconv.uint64pow10", Lib.tabData .u64 Lib.pow10Tab) :: [("strconv.ErrRange", Rows.laid_strconv_ErrRange), ("strconv.ErrSyntax", Rows.laid_strconv_ErrSyntax), ("loop.example/g00328/impl.errNoTerm", Rows.laid_loop_example_g00328_impl_errNoTerm)]) W := by
    have := h.tail.tail
    rw [pow_data] at this
    exact this
  exact Lib.tabIs_of_head (g := 3) (t := 197) (e := 186) (n := 20) (by kernel_rfl) (by kernel_rfl) (by kernel_rfl) (by kernel_rfl) (by kernel_rfl) (by kernel_rfl) h2

theorem var?_below {P : Program} {W W' : World} {n : String} {cs : Array Value} (h : W.var? P n = some cs) (hb : Below W.heap.size W W') : W'.var? P n = some cs := by
  unfold World.var? at h ⊢
  cases hg : P.globalNamed n with
  | none => simp [hg] at h
  | some g =>
    simp only [hg, Option.bind_some] at h ⊢
    have hlt : g < W.heap.size := by
      rcases Nat.lt_or_ge g W.heap.size with h' | h'
      · exact h'
      · simp [Array.getElem?_eq_none h'] at h
    rw [hb.block g hlt]
    exact h

/-- The variable of the named error, read as a token. -/
theorem err_read {H : Type} (enc : TypeId × Value → H) {W : World} {a : Addr} (h : W.var? Tryz.prog "loop.example/g00328/impl.errNoTerm" = some #[.iface 202 (.pointer (some a))]) (sp : Nat → Bool) :
    DataW.TrodVars enc Tryz.prog W sp ["loop.example/g00328/impl.errNoTerm"] [tok enc (.iface 202 (.pointer (some a)))] [.cell 0 0] :=
  vars_read1 enc gE gEType Tryz.underlying81 h trivial sp

theorem Bytes.below {w w' : World} {c c' : Nat} {a : Option Addr} {len : Nat} (h : Bytes w c a len) (hb : Below w.heap.size w w') (hc : c ≤ c') : Bytes w' c' a len := fun k hk => by
  obtain ⟨b, o, z, h1, h2, h3, h4⟩ := h k hk
  exact ⟨b, o, z, h1, by omega, kpc hb h3, h4⟩
theorem Only.belowc {c B : Nat} {w w' : World} (h : Only [c] w w') (hB : B ≤ w.heap.size) (hc : B ≤ c) : Below B w w' := h.below hB (by simpa using hc)
theorem set6_lies {w : World} {g L : Nat} {p : Tm} {cs : List Value} (hl : Lies w L p cs) (hg : g < L) (x0 x1 x2 x3 x4 x5 : Value) : Lies ((((((w.setCell ⟨g, 0, none⟩ x0).setCell ⟨g, 1, none⟩ x1).setCell ⟨g, 2, none⟩ x2).setCell ⟨g, 3, none⟩ x3).setCell ⟨g, 4, none⟩ x4).setCell ⟨g, 5, none⟩ x5) 0 p cs :=
  Lies.set (L := L) (Lies.set (Lies.set (Lies.set (Lies.set (Lies.set hl hg (Nat.le_refl _)) hg (Nat.le_refl _)) hg (Nat.le_refl _)) hg (Nat.le_refl _)) hg (Nat.le_refl _)) hg (Nat.zero_le _)

set_option maxRecDepth 100000 in
set_option maxHeartbeats 4000000 in
theorem draw5 (ad : Option Addr) (ln cp : Nat) (w : World) (hB : Bytes w w.heap.size ad ln) (hl : ln ≤ 1048576) (hlc : ln ≤ cp) :
    Calls Tryz.prog 52 #[.slice ad ln cp] w fun e w' => ∃ h p v op n s a len cap, e = .returned (.agg #[.string h, .int .i64 op, .int .i64 n, .string s, .slice a len cap, .int .i64 v]) ∧ CertD h p v ∧ Lies w' 0 p (tmCells op n s a len cap) ∧ Below w.heap.size w w' := by
  have hnew := hide (new_calls ad ln cp)
  have hdr := hide cert_draw
  have HBY := hide (hB.below (ab (.cells #[.string ⟨#[]⟩, .int .i64 0, .int .i64 0, .string ⟨#[]⟩, .slice none 0 0, .int .i64 0] 57)) (show w.heap.size ≤ (w.alloc (.cells #[.string ⟨#[]⟩, .int .i64 0, .int .i64 0, .string ⟨#[]⟩, .slice none 0 0, .int .i64 0] 57)).heap.size from (ab _).size))
  have HX := hide (RowC.new 57 w ⟨#[]⟩ 0 0 ⟨#[]⟩ none 0 0 0)
  have HL := hide hl
  have HLC := hide hlc
  clear hB hl hlc
  go_enter Tryz.func52, Tryz.ntmps52
  go_wp2_with fail
  refine (unhide hnew _ (unhide HBY) (unhide HL) (unhide HLC)).mono ?_
  rintro e w1 ⟨rfl, hc1, hb1, _⟩
  have hb1 : Below (w.alloc (.cells #[.string ⟨#[]⟩, .int .i64 0, .int .i64 0, .string ⟨#[]⟩, .slice none 0 0, .int .i64 0] 57)).heap.size (w.alloc (.cells #[.string ⟨#[]⟩, .int .i64 0, .int .i64 0, .string ⟨#[]⟩, .slice none 0 0, .int .i64 0] 57)) w1 := hb1
  simp only [heap_size_alloc] at hc1 ⊢
  have HX1 := hide ((unhide HX).below hb1)
  have HB1 := hide (bt (ab (w := w) (.cells #[.string ⟨#[]⟩, .int .i64 0, .int .i64 0, .string ⟨#[]⟩, .slice none 0 0, .int .i64 0] 57)) hb1 (Nat.le_refl _))
  have HC1 := hide hc1
  have hs1 := hc1.lt
  clear hc1 hb1
  go_wp2_with fail
  refine (unhide hdr _ _ (unhide HC1)).mono ?_
  rintro e w2 ⟨h, p, v, op, n, s, a, len, cap, rfl, hd, hl2, hc2, ho2⟩
  have HR2 := hide ((unhide HX1).one ho2 (by omega))
  obtain ⟨p0, p1, p2, p3, p4, p5⟩ := (unhide HR2).facts
  obtain ⟨q0, q1, q2, q3, q4, q5⟩ := (unhide HR2).frozen
  have HT := hide hl2
  have HD := hide hd
  have HB2 := hide ((unhide HB1).trans (ho2.belowc (unhide HB1).size (by omega)))
  clear hl2 hd hc2 ho2
  go_wp2_with fail
  have HF := hide (fillR (unhide HR2) h op n s a len cap v)
  obtain ⟨f0, f1, f2, f3, f4, f5⟩ := (unhide HF).facts
  exact bodyPost_ret (v := .agg #[.string h, .int .i64 op, .int .i64 n, .string s, .slice a len cap, .int .i64 v]) (by simp [results, Tryz.results52, go_sem, f0, f1, f2, f3, f4, f5]; try rfl) rfl ⟨h, p, v, op, n, s, a, len, cap, rfl, unhide HD, set6_lies (unhide HT) (by omega) _ _ _ _ _ _, set6_below (unhide HB2) (Nat.le_refl _)⟩

set_option maxRecDepth 100000 in
set_option maxHeartbeats 4000000 in
theorem draw13 (ad : Option Addr) (ln cp : Nat) (w : World) (hB : Bytes w w.heap.size ad ln) (hl : ln ≤ 1048576) (hlc : ln ≤ cp) :
    Calls Tryz.prog 55 #[.slice ad ln cp] w fun e w' => ∃ h p v op n s a len cap, e = .returned (.agg #[.string h, .int .i64 op, .int .i64 n, .string s, .slice a len cap, .int .i64 v]) ∧ CertD h p v ∧ Lies w' 0 p (tmCells op n s a len cap) ∧ Below w.heap.size w w' := by
  have hnew := hide (new_calls ad ln cp)
  have hdr := hide cert_draw
  have HBY := hide (hB.below (ab (.cells #[.string ⟨#[]⟩, .int .i64 0, .int .i64 0, .string ⟨#[]⟩, .slice none 0 0, .int .i64 0] 57)) (show w.heap.size ≤ (w.alloc (.cells #[.string ⟨#[]⟩, .int .i64 0, .int .i64 0, .string ⟨#[]⟩, .slice none 0 0, .int .i64 0] 57)).heap.size from (ab _).size))
  have HX := hide (RowC.new 57 w ⟨#[]⟩ 0 0 ⟨#[]⟩ none 0 0 0)
  have HL := hide hl
  have HLC := hide hlc
  clear hB hl hlc
  go_enter Tryz.func55, Tryz.ntmps55
  go_wp2_with fail
  refine (unhide hnew _ (unhide HBY) (unhide HL) (unhide HLC)).mono ?_
  rintro e w1 ⟨rfl, hc1, hb1, _⟩
  have hb1 : Below (w.alloc (.cells #[.string ⟨#[]⟩, .int .i64 0, .int .i64 0, .string ⟨#[]⟩, .slice none 0 0, .int .i64 0] 57)).heap.size (w.alloc (.cells #[.string ⟨#[]⟩, .int .i64 0, .int .i64 0, .string ⟨#[]⟩, .slice none 0 0, .int .i64 0] 57)) w1 := hb1
  simp only [heap_size_alloc] at hc1 ⊢
  have HX1 := hide ((unhide HX).below hb1)
  have HB1 := hide (bt (ab (w := w) (.cells #[.string ⟨#[]⟩, .int .i64 0, .int .i64 0, .string ⟨#[]⟩, .slice none 0 0, .int .i64 0] 57)) hb1 (Nat.le_refl _))
  have HC1 := hide hc1
  have hs1 := hc1.lt
  clear hc1 hb1
  go_wp2_with fail
  refine (unhide hdr _ _ (unhide HC1)).mono ?_
  rintro e w2 ⟨h, p, v, op, n, s, a, len, cap, rfl, hd, hl2, hc2, ho2⟩
  have HR2 := hide ((unhide HX1).one ho2 (by omega))
  obtain ⟨p0, p1, p2, p3, p4, p5⟩ := (unhide HR2).facts
  obtain ⟨q0, q1, q2, q3, q4, q5⟩ := (unhide HR2).frozen
  have HT := hide hl2
  have HD := hide hd
  have HB2 := hide ((unhide HB1).trans (ho2.belowc (unhide HB1).size (by omega)))
  clear hl2 hd hc2 ho2
  go_wp2_with fail
  have HF := hide (fillR (unhide HR2) h op n s a len cap v)
  obtain ⟨f0, f1, f2, f3, f4, f5⟩ := (unhide HF).facts
  exact bodyPost_ret (v := .agg #[.string h, .int .i64 op, .int .i64 n, .string s, .slice a len cap, .int .i64 v]) (by simp [results, Tryz.results55, go_sem, f0, f1, f2, f3, f4, f5]; try rfl) rfl ⟨h, p, v, op, n, s, a, len, cap, rfl, unhide HD, set6_lies (unhide HT) (by omega) _ _ _ _ _ _, set6_below (unhide HB2) (Nat.le_refl _)⟩

set_option maxRecDepth 100000 in
set_option maxHeartbeats 4000000 in
theorem draw7 (ad : Option Addr) (ln cp : Nat) (w : World) (hB : Bytes w w.heap.size ad ln) (hl : ln ≤ 1048576) (hlc : ln ≤ cp) :
    Calls Tryz.prog 53 #[.slice ad ln cp] w fun e w' => ∃ T op n s a len cap, e = .returned (.agg #[.int .i64 op, .int .i64 n, .string s, .slice a len cap]) ∧ (Lies w' 0 T (tmCells op n s a len cap) ∧ T.size ≤ 61010) ∧ Below w.heap.size w w' := by
  have hnew := hide (new_calls ad ln cp)
  have hdr := hide term_draw
  have HBY := hide (hB.below (ab (.cells #[.int .i64 0, .int .i64 0, .string ByteArray.empty, .slice none 0 0] 29)) (show w.heap.size ≤ (w.alloc (.cells #[.int .i64 0, .int .i64 0, .string ByteArray.empty, .slice none 0 0] 29)).heap.size from (ab _).size))
  have HX := hide (ZBox.new w)
  have HL := hide hl
  have HLC := hide hlc
  clear hB hl hlc
  go_enter Tryz.func53, Tryz.ntmps53
  go_wp2_with fail
  refine (unhide hnew _ (unhide HBY) (unhide HL) (unhide HLC)).mono ?_
  rintro e w1 ⟨rfl, hc1, hb1, _⟩
  have hb1 : Below (w.alloc (.cells #[.int .i64 0, .int .i64 0, .string ByteArray.empty, .slice none 0 0] 29)).heap.size (w.alloc (.cells #[.int .i64 0, .int .i64 0, .string ByteArray.empty, .slice none 0 0] 29)) w1 := hb1
  simp only [heap_size_alloc] at hc1 ⊢
  have HX1 := hide ((unhide HX).below hb1)
  have HB1 := hide (bt (ab (w := w) (.cells #[.int .i64 0, .int .i64 0, .string ByteArray.empty, .slice none 0 0] 29)) hb1 (Nat.le_refl _))
  have HC1 := hide hc1
  have hs1 := hc1.lt
  clear hc1 hb1
  go_wp2_with fail
  refine (unhide hdr _ _ (unhide HC1)).mono ?_
  rintro e w2 ⟨T, op, n, s, a, len, cap, rfl, ⟨hl2, hz2⟩, hc2, ho2⟩
  obtain ⟨p0, p1, p2, p3, q0, q1, q2, q3⟩ := ((unhide HX1).only ho2 (by omega)).facts
  have HT := hide hl2
  have HZ := hide hz2
  have HB2 := hide ((unhide HB1).trans (ho2.belowc (unhide HB1).size (by omega)))
  clear hl2 hz2 hc2 ho2
  go_wp2_with fail
  exact bodyPost_ret (v := .agg #[.int .i64 op, .int .i64 n, .string s, .slice a len cap]) (by simp [results, Tryz.results53, go_sem, p0, p1, p2, p3]; try rfl) rfl ⟨T, op, n, s, a, len, cap, rfl, ⟨set4_lies (unhide HT) (by omega) _ (by omega), unhide HZ⟩, set4_below (unhide HB2) (Nat.le_refl _)⟩

theorem times_at (w : World) : ∀ k, k < 5 → ∃ z, (w.alloc (.cells #[.int .i64 0, .int .i64 5, .int .i64 6, .int .i64 51, .int .i64 (-1)] 3)).cell? ⟨w.heap.size, k, none⟩ = some (.int .i64 z) ∧ True
  | 0, _ => ⟨_, box_cell w _ 3 0 _ rfl, trivial⟩
  | 1, _ => ⟨_, box_cell w _ 3 1 _ rfl, trivial⟩
  | 2, _ => ⟨_, box_cell w _ 3 2 _ rfl, trivial⟩
  | 3, _ => ⟨_, box_cell w _ 3 3 _ rfl, trivial⟩
  | 4, _ => ⟨_, box_cell w _ 3 4 _ rfl, trivial⟩
  | k + 5, h => absurd h (by omega)

set_option maxRecDepth 100000 in
set_option maxHeartbeats 4000000 in
theorem draw10 (ad : Option Addr) (ln cp : Nat) (w : World) (hB : Bytes w w.heap.size ad ln) (hl : ln ≤ 1048576) (hlc : ln ≤ cp) :
    Calls Tryz.prog 54 #[.slice ad ln cp] w fun e w' => ∃ T op n s a len cap hs m, e = .returned (.tuple #[.agg #[.int .i64 op, .int .i64 n, .string s, .slice a len cap], .string hs, .int .i64 m]) ∧ (Lies w' 0 T (tmCells op n s a len cap) ∧ T.size ≤ 61010) ∧ Below w.heap.size w w' := by
  have hnew := hide (new_calls ad ln cp)
  have h24 := hide term_draw
  have h32 := hide host_draw
  have h33 := hide once_calls
  have h34 := hide (pickInt_of (fun _ => True))
  have h9 := hide ofS6
  have HBY := hide (hB.below (ab (.cells #[.int .i64 0, .int .i64 0, .string ByteArray.empty, .slice none 0 0] 29)) (show w.heap.size ≤ (w.alloc (.cells #[.int .i64 0, .int .i64 0, .string ByteArray.empty, .slice none 0 0] 29)).heap.size from (ab _).size))
  have HX := hide (ZBox.new w)
  have HL := hide hl
  have HLC := hide hlc
  clear hB hl hlc
  go_enter Tryz.func54, Tryz.ntmps54
  go_wp2_with fail
  refine (unhide hnew _ (unhide HBY) (unhide HL) (unhide HLC)).mono ?_
  rintro e w1 ⟨rfl, hc1, hb1, _⟩
  have hb1 : Below (w.alloc (.cells #[.int .i64 0, .int .i64 0, .string ByteArray.empty, .slice none 0 0] 29)).heap.size (w.alloc (.cells #[.int .i64 0, .int .i64 0, .string ByteArray.empty, .slice none 0 0] 29)) w1 := hb1
  simp only [heap_size_alloc] at hc1 ⊢
  have HX1 := hide ((unhide HX).below hb1)
  have HB1 := hide (bt (ab (w := w) (.cells #[.int .i64 0, .int .i64 0, .string ByteArray.empty, .slice none 0 0] 29)) hb1 (Nat.le_refl _))
  have HC1 := hide hc1
  have hs1 := hc1.lt
  clear hc1 hb1 HX HBY
  go_wp2_with fail
  refine (unhide h24 _ _ (unhide HC1)).mono ?_
  rintro e w2 ⟨T, op, n, s, a, len, cap, rfl, ⟨hl2, hz2⟩, hc2, ho2⟩
  have HX2 := hide (((unhide HX1).only ho2 (by omega)).below (ab (.cells #[.int .i64 op, .int .i64 n, .string s, .slice a len cap] 29)))
  have HB2 := hide (((unhide HB1).trans (ho2.belowc (unhide HB1).size (by omega))))
  have HB2' := hide (bt (unhide HB2) (ab (.cells #[.int .i64 op, .int .i64 n, .string s, .slice a len cap] 29)) (Nat.le_refl _))
  have HC2 := hide (hc2.below (ab (.cells #[.int .i64 op, .int .i64 n, .string s, .slice a len cap] 29)))
  have HT2 := hide (hl2.below (ab (.cells #[.int .i64 op, .int .i64 n, .string s, .slice a len cap] 29)))
  have HR2 := hide (RowT.new 29 w2 op n s a len cap)
  have HZ := hide hz2
  have HG2 : Hid (w1.heap.size ≤ w2.heap.size) := ho2.size
  have hs2 := hc2.lt
  clear hl2 hz2 hc2 ho2 HX1 HB1 HC1 HB2
  go_wp2_with fail
  generalize hV2 : w2.alloc (.cells #[.int .i64 op, .int .i64 n, .string s, .slice a len cap] 29) = V2 at *
  generalize w2.heap.size = g at *
  clear hV2
  refine (unhide h32 _ _ (unhide HC2)).mono ?_
  rintro e w3 ⟨h3, rfl, -, hc3, ho3⟩
  have HX3 := hide ((unhide HX2).only ho3 (by omega))
  have HB3 := hide ((unhide HB2').trans (ho3.belowc (unhide HB2').size (by omega)))
  have HC3 := hide hc3
  have HT3 := hide ((unhide HT2).only ho3 (by omega))
  have HR3 := hide ((unhide HR2).only ho3 (by simp; omega))
  clear hc3 ho3 HX2 HB2' HC2 HT2 HR2
  obtain ⟨c0, c1, c2, c3⟩ := (unhide HR3).facts
  go_wp2_with fail
  refine (unhide h9 T op n s a len cap _ ((unhide HT3).any (Nat.zero_le _)) (by have := unhide HZ; omega)).mono ?_
  rintro e w4 ⟨hb4, ⟨h, p, v, op4, n4, s4, a4, len4, cap4, -, rfl, -⟩ | ⟨-, rfl⟩⟩
  · have hb4' := bt hb4 (ab (.cells #[.string h, .int .i64 op4, .int .i64 n4, .string s4, .slice a4 len4 cap4, .int .i64 v] 57)) (Nat.le_refl _)
    have HX4 := hide ((unhide HX3).below hb4')
    have HB4 := hide (bt (unhide HB3) hb4' (Nat.le_refl _))
    have HC4 := hide ((unhide HC3).below hb4')
    have HT4 := hide ((unhide HT3).below hb4')
    have HR4 := hide ((unhide HR3).below hb4')
    have HC := hide (RowC.new 57 w4 h op4 n4 s4 a4 len4 cap4 v)
    have HG4 : Hid (w3.heap.size ≤ w4.heap.size) := hb4.size
    have hs3 := (unhide HC3).lt
    clear hb4 hb4' HX3 HB3 HC3 HT3 HR3 c0 c1 c2 c3
    go_wp2_with fail
    generalize hV4 : w4.alloc (.cells #[.string h, .int .i64 op4, .int .i64 n4, .string s4, .slice a4 len4 cap4, .int .i64 v] 57) = V4 at *
    generalize w4.heap.size = gx at *
    clear hV4
    refine (unhide h33 _ 4 _ (unhide HC4) (by omega)).mono ?_
    rintro e w5 ⟨bb, rfl, hc5, ho5⟩
    have HX5 := hide ((unhide HX4).only ho5 (by omega))
    have HB5 := hide ((unhide HB4).trans (ho5.belowc (unhide HB4).size (by omega)))
    have HC5 := hide hc5
    have HT5 := hide ((unhide HT4).only ho5 (by omega))
    have HR5 := hide ((unhide HR4).only ho5 (by simp; omega))
    obtain ⟨x0, x1, x2, x3, x4, x5⟩ := ((unhide HC).one ho5 (by have := unhide HG4; omega)).facts
    clear hc5 ho5 HX4 HB4 HC4 HT4 HR4 HC
    obtain ⟨c0, c1, c2, c3⟩ := (unhide HR5).facts
    cases bb with
    | true =>
      have hs5 : w.heap.size + 1 < w5.heap.size := (unhide HC5).lt
      have hne : (w.heap.size = g) = False := eq_false (by have := unhide HG2; omega)
      have hne' : (g = w.heap.size) = False := eq_false (by have := unhide HG2; omega)
      have hx0 := lt_of_cell c0
      have hxn0 := Nat.ne_of_lt hx0
      have hxm0 := Ne.symm hxn0
      go_wp2_with fail
      go_region_held3 (fun x => x.cell? ⟨g, 0, none⟩ = some (.int .i64 op) ∧ x.cell? ⟨g, 1, none⟩ = some (.int .i64 n) ∧ x.cell? ⟨g, 2, none⟩ = some (.string s) ∧ x.cell? ⟨g, 3, none⟩ = some (.slice a len cap)) (go_keep)
        (first
          | (go_at_call 87
             refine (unhide h34 (w.heap.size + 1) w5.heap.size 5 5 _ ((unhide HC5).drew.below (ab (.cells #[.int .i64 0, .int .i64 5, .int .i64 6, .int .i64 51, .int .i64 (-1)] 3))) (by omega) (by omega) (by omega) (by omega) (by omega) (times_at w5.drew)).mono ?_
             rintro e w6 ⟨z, rfl, -, -, ho6⟩
             have ho6' := hide (only_alloc _ ho6).drewl
             have HR6 := hide ((unhide HR5).only (unhide ho6') (by simp; omega))
             obtain ⟨f0, f1, f2, f3⟩ := (unhide HR6).facts
             obtain ⟨p0, p1, p2, p3, q0, q1, q2, q3⟩ := ((unhide HX5).only (unhide ho6') (by omega)).facts
             clear ho6))
      have HTZ := hide ((unhide HT5).only (unhide ho6') (by omega))
      have HBZ := hide ((unhide HB5).trans ((unhide ho6').belowc (unhide HB5).size (by omega)))
      clear c0 c1 c2 c3 f0 f1 f2 f3
      go_wp2_with fail
      exact bodyPost_ret (v := .tuple #[.agg #[.int .i64 op, .int .i64 n, .string s, .slice a len cap], .string h3, .int .i64 z]) (by simp [results, Tryz.results54, go_sem, p0, p1, p2, p3]; try rfl) rfl ⟨T, op, n, s, a, len, cap, h3, z, rfl, ⟨set4_lies (unhide HTZ) (by omega) _ (by omega), unhide HZ⟩, set4_below (unhide HBZ) (Nat.le_refl _)⟩
    | false =>
      have hs5 : w.heap.size + 1 < w5.heap.size := (unhide HC5).lt
      have hne : (w.heap.size = g) = False := eq_false (by have := unhide HG2; omega)
      have hne' : (g = w.heap.size) = False := eq_false (by have := unhide HG2; omega)
      have hx0 := lt_of_cell c0
      have hxn0 := Nat.ne_of_lt hx0
      have hxm0 := Ne.symm hxn0
      go_wp2_with fail
      go_region_held3 (fun x => x.cell? ⟨g, 0, none⟩ = some (.int .i64 op) ∧ x.cell? ⟨g, 1, none⟩ = some (.int .i64 n) ∧ x.cell? ⟨g, 2, none⟩ = some (.string s) ∧ x.cell? ⟨g, 3, none⟩ = some (.slice a len cap)) (go_keep)
        (first
          | (go_at_call 87
             refine (unhide h34 (w.heap.size + 1) w5.heap.size 5 5 _ ((unhide HC5).drew.below (ab (.cells #[.int .i64 0, .int .i64 5, .int .i64 6, .int .i64 51, .int .i64 (-1)] 3))) (by omega) (by omega) (by omega) (by omega) (by omega) (times_at w5.drew)).mono ?_
             rintro e w6 ⟨z, rfl, -, -, ho6⟩
             have ho6' := hide (only_alloc _ ho6).drewl
             have HR6 := hide ((unhide HR5).only (unhide ho6') (by simp; omega))
             obtain ⟨f0, f1, f2, f3⟩ := (unhide HR6).facts
             obtain ⟨p0, p1, p2, p3, q0, q1, q2, q3⟩ := ((unhide HX5).only (unhide ho6') (by omega)).facts
             clear ho6))
      have HTZ := hide ((unhide HT5).only (unhide ho6') (by omega))
      have HBZ := hide ((unhide HB5).trans ((unhide ho6').belowc (unhide HB5).size (by omega)))
      clear c0 c1 c2 c3 f0 f1 f2 f3
      go_wp2_with fail
      exact bodyPost_ret (v := .tuple #[.agg #[.int .i64 op, .int .i64 n, .string s, .slice a len cap], .string h, .int .i64 z]) (by simp [results, Tryz.results54, go_sem, p0, p1, p2, p3]; try rfl) rfl ⟨T, op, n, s, a, len, cap, h, z, rfl, ⟨set4_lies (unhide HTZ) (by omega) _ (by omega), unhide HZ⟩, set4_below (unhide HBZ) (Nat.le_refl _)⟩
  · unfold zeroC
    have hb4' := bt hb4 (ab (.cells #[.string ByteArray.empty, .int .i64 0, .int .i64 0, .string ByteArray.empty, .slice none 0 0, .int .i64 0] 57)) (Nat.le_refl _)
    have HX4 := hide ((unhide HX3).below hb4')
    have HB4 := hide (bt (unhide HB3) hb4' (Nat.le_refl _))
    have HC4 := hide ((unhide HC3).below hb4')
    have HT4 := hide ((unhide HT3).below hb4')
    have HR4 := hide ((unhide HR3).below hb4')
    clear hb4 hb4' HX3 HB3 HC3 HT3 HR3 c0 c1 c2 c3
    go_wp2_with fail
    generalize hV4 : w4.alloc (.cells #[.string ByteArray.empty, .int .i64 0, .int .i64 0, .string ByteArray.empty, .slice none 0 0, .int .i64 0] 57) = V4 at *
    clear hV4
    have HX5 := HX4
    have HB5 := HB4
    have HC5 := HC4
    have HT5 := HT4
    have HR5 := HR4
    obtain ⟨c0, c1, c2, c3⟩ := (unhide HR5).facts
    have hs5 : w.heap.size + 1 < V4.heap.size := (unhide HC5).lt
    have hne : (w.heap.size = g) = False := eq_false (by have := unhide HG2; omega)
    have hne' : (g = w.heap.size) = False := eq_false (by have := unhide HG2; omega)
    have hx0 := lt_of_cell c0
    have hxn0 := Nat.ne_of_lt hx0
    have hxm0 := Ne.symm hxn0
    go_region_held3 (fun x => x.cell? ⟨g, 0, none⟩ = some (.int .i64 op) ∧ x.cell? ⟨g, 1, none⟩ = some (.int .i64 n) ∧ x.cell? ⟨g, 2, none⟩ = some (.string s) ∧ x.cell? ⟨g, 3, none⟩ = some (.slice a len cap)) (go_keep)
      (first
        | (go_at_call 87
           refine (unhide h34 (w.heap.size + 1) V4.heap.size 5 5 _ ((unhide HC5).drew.below (ab (.cells #[.int .i64 0, .int .i64 5, .int .i64 6, .int .i64 51, .int .i64 (-1)] 3))) (by omega) (by omega) (by omega) (by omega) (by omega) (times_at V4.drew)).mono ?_
           rintro e w6 ⟨z, rfl, -, -, ho6⟩
           have ho6' := hide (only_alloc _ ho6).drewl
           have HR6 := hide ((unhide HR5).only (unhide ho6') (by simp; omega))
           obtain ⟨f0, f1, f2, f3⟩ := (unhide HR6).facts
           obtain ⟨p0, p1, p2, p3, q0, q1, q2, q3⟩ := ((unhide HX5).only (unhide ho6') (by omega)).facts
           clear ho6))
    have HTZ := hide ((unhide HT5).only (unhide ho6') (by omega))
    have HBZ := hide ((unhide HB5).trans ((unhide ho6').belowc (unhide HB5).size (by omega)))
    clear c0 c1 c2 c3 f0 f1 f2 f3
    go_wp2_with fail
    exact bodyPost_ret (v := .tuple #[.agg #[.int .i64 op, .int .i64 n, .string s, .slice a len cap], .string h3, .int .i64 z]) (by simp [results, Tryz.results54, go_sem, p0, p1, p2, p3]; try rfl) rfl ⟨T, op, n, s, a, len, cap, h3, z, rfl, ⟨set4_lies (unhide HTZ) (by omega) _ (by omega), unhide HZ⟩, set4_below (unhide HBZ) (Nat.le_refl _)⟩

theorem RowC.only {ty : TypeId} {w w' : World} {b : Nat} {h : ByteArray} {op n : Int} {s : ByteArray} {a : Option Addr} {len cap : Nat} {u : Int} {f : List Nat} (hr : RowC ty w b h op n s a len cap u) (hb : Only f w w') (hf : b ∉ f) : RowC ty w' b h op n s a len cap u := (hb.block b hr.lt hf).trans hr

theorem held_markedC (T : Tm) (op n : Int) (s : ByteArray) (a : Option Addr) (len cap k : Nat) (w : World) (hl : Lies w 0 (T.marked k) (tmCells op n s a len cap)) (h1 : 1 ≤ k) (hz : k + 3 * T.size ≤ 1099511627776) :
    Calls Tryz.prog 47 #[.agg #[.int .i64 op, .int .i64 n, .string s, .slice a len cap], .int .i64 (k : Int)] w fun e w' => e = .returned (.int .i64 ((k + 3 * Tm.sizes T.kids : Nat) : Int)) ∧ Below w.heap.size w w' := by
  obtain ⟨op', n', s', ks⟩ := T
  have hh := hl
  simp only [Tm.marked, Lies, tmCells, List.cons.injEq, Value.int.injEq, Value.string.injEq, true_and] at hh
  obtain ⟨_, _, ⟨rfl, rfl, rfl, _⟩, _⟩ := hh
  simp only [Tm.size] at hz
  exact held_any op n s ks a len cap k w hl h1 (by omega)

set_option maxRecDepth 100000 in
set_option maxHeartbeats 1000000 in
theorem heldC (P : Tm) (h : ByteArray) (op n : Int) (s : ByteArray) (a : Option Addr) (len cap : Nat) (u : Int) (w : World) (hl : Lies w 0 (P.marked 1) (tmCells op n s a len cap)) (hz : 1 + 3 * P.size ≤ 1099511627776) :
    Calls Tryz.prog 50 #[.agg #[.string h, .int .i64 op, .int .i64 n, .string s, .slice a len cap, .int .i64 u], .int .i64 1] w fun e w' => e = .returned (.int .i64 ((1 + 3 * Tm.sizes P.kids : Nat) : Int)) ∧ Below w.heap.size w w' := by
  have h16 := hide (fun v hl => held_markedC P op n s a len cap 1 v hl (Nat.le_refl _) hz)
  have HL := hide (hl.below (abC (.cells #[.string h, .int .i64 op, .int .i64 n, .string s, .slice a len cap, .int .i64 u] 57)))
  have HB := hide (abC (w := w) (.cells #[.string h, .int .i64 op, .int .i64 n, .string s, .slice a len cap, .int .i64 u] 57))
  generalize 1 + 3 * Tm.sizes P.kids = M at *
  clear hl hz
  go_enter Tryz.func50, Tryz.ntmps50
  go_wp2_with fail
  refine (unhide h16 _ (unhide HL)).mono ?_
  rintro e w2 ⟨rfl, hb2⟩
  have HB2 := hide (btC (unhide HB) hb2)
  have hM : ¬ (M : Int) < 0 := by omega
  clear hb2
  go_wp2_with fail
  go_ret
  exact ⟨rfl, unhide HB2⟩

set_option maxRecDepth 100000 in
set_option maxHeartbeats 8000000 in
theorem lawCertOf (t : Tm) (h : ByteArray) (P : Tm) (v : Int) (B : Bool) (x : Addr) (hPZ : P.size ≤ 200)
    (hS : ∀ (op n : Int) (s : ByteArray) (a : Option Addr) (len cap : Nat) (w : World), Lies w 0 t (tmCells op n s a len cap) → t.size ≤ 2097152 → Calls Tryz.prog 48 #[.agg #[.int .i64 op, .int .i64 n, .string s, .slice a len cap]] w fun e w' => ∃ opW nW sW aW lenW capW, e = .returned (.tuple #[.agg #[.string h, .int .i64 opW, .int .i64 nW, .string sW, .slice aW lenW capW, .int .i64 v], .bool B]) ∧ Lies w' 0 P (tmCells opW nW sW aW lenW capW) ∧ Below w.heap.size w w')
    (hI : ∀ (op n : Int) (s : ByteArray) (a : Option Addr) (len cap : Nat) (w : World), Lies w 0 t (tmCells op n s a len cap) → t.size ≤ 2097152 → ErrAt x w → Var12 w → Tab w → Calls Tryz.prog 49 #[.agg #[.int .i64 op, .int .i64 n, .string s, .slice a len cap]] w fun e w' => ∃ opG nG sG aG lenG capG fp, e = .returned (.tuple #[.agg #[.string h, .int .i64 opG, .int .i64 nG, .string sG, .slice aG lenG capG, .int .i64 v], .bool B]) ∧ Own w' P (tmCells opG nG sG aG lenG capG) fp ∧ (fp.Nodup ∧ ∀ y ∈ fp, w.heap.size ≤ y) ∧ Below w.heap.size w w')
    (op n : Int) (s : ByteArray) (a : Option Addr) (len cap : Nat) (w : World) (hl : Lies w 0 t (tmCells op n s a len cap)) (hv : Var12 w) (htab : Tab w) (herr : ErrAt x w) :
    Calls Tryz.prog 6 #[.agg #[.int .i64 op, .int .i64 n, .string s, .slice a len cap]] w fun e w' => e = .returned (.bool true) ∧ Below w.heap.size w w' := by
  have HER := hide herr
  have HTB := hide htab
  have HVR := hide hv
  clear herr htab hv
  have h11 := hide (sz_calls t)
  have h8 := hide eq_calls
  have hZ := t.size_le
  have hB0 : Below w.heap.size w (w.alloc (.cells #[.int .i64 op, .int .i64 n, .string s, .slice a len cap] 24)) := ab _
  have HL := hide (hl.below hB0)
  have HB0 := hide hB0
  have HA := hide (RowT.new 24 w op n s a len cap)
  clear hl hB0
  by_cases hw : (t.wt : Int) ≤ 1048576
  · have hsz : t.size ≤ 1048577 := by omega
    have hsz2 : t.size ≤ 2097152 := by omega
    have h13 := hide (fun a cap v hv => tp_calls t op n s a len cap v hv hsz2)
    have h15 := hide (fun a cap v hv => hS op n s a len cap v hv hsz2)
    have h16 := hide (fun a cap v hv he hr ht => hI op n s a len cap v hv hsz2 he hr ht)
    have h9 := hide (fun op1 n1 s1 a1 len1 cap1 op2 n2 s2 a2 len2 cap2 W hv hv' => eqC P h op1 n1 s1 a1 len1 cap1 v op2 n2 s2 a2 len2 cap2 W hv hv')
    clear hS hI
    have HKP : Hid (Tm.sizes P.kids ≤ P.size) := by have := size_kids P; show _ ≤ _; omega
    have HTZ : Hid (1 + 3 * P.size ≤ 1099511627776) := by show _ ≤ _; omega
    have HXZ : Hid (1 + 3 * t.size ≤ 1099511627776) := by show _ ≤ _; omega
    have h9x : Hid (∀ (a : Option Addr) (w : World) (fp : List Nat), Own w t (tmCells op n s a len len) fp → fp.Nodup →
        Calls Tryz.prog 46 #[.agg #[.int .i64 op, .int .i64 n, .string s, .slice a len len], .int .i64 1] w fun e w' => e = .returned (.int .i64 ((1 + 3 * Tm.sizes t.kids : Nat) : Int)) ∧ Own w' (t.marked 1) (tmCells op n s a len len) fp ∧ Only fp w w') :=
      fun a w fp ho hnd => mark_any t op n s a len len 1 w fp ho hnd (Nat.le_refl _) (unhide HXZ)
    have h9g : Hid (∀ (op n : Int) (s : ByteArray) (a : Option Addr) (len cap : Nat) (w : World) (fp : List Nat), Own w P (tmCells op n s a len cap) fp → fp.Nodup →
        Calls Tryz.prog 45 #[.agg #[.string h, .int .i64 op, .int .i64 n, .string s, .slice a len cap, .int .i64 v], .int .i64 1] w fun e w' => e = .returned (.int .i64 ((1 + 3 * Tm.sizes P.kids : Nat) : Int)) ∧ Own w' (P.marked 1) (tmCells op n s a len cap) fp ∧ Only fp w w') :=
      fun op n s a len cap w fp ho hnd => markC P h op n s a len cap v w fp ho hnd (unhide HTZ)
    have h10 : Hid (∀ (op n : Int) (s : ByteArray) (a : Option Addr) (len cap : Nat) (w : World), Lies w 0 (P.marked 1) (tmCells op n s a len cap) →
        Calls Tryz.prog 50 #[.agg #[.string h, .int .i64 op, .int .i64 n, .string s, .slice a len cap, .int .i64 v], .int .i64 1] w fun e w' => e = .returned (.int .i64 ((1 + 3 * Tm.sizes P.kids : Nat) : Int)) ∧ Below w.heap.size w w') :=
      fun op n s a len cap w hl => heldC P h op n s a len cap v w hl (unhide HTZ)
    have hmb : (1 + 3 * Tm.sizes P.kids : Nat) ≤ 4194304 := by have := unhide HKP; omega
    have hkb : (1 + 3 * Tm.sizes t.kids : Nat) ≤ 4194304 := by have := size_kids t; omega
    have hBB : (B != B) = false := by simp
    clear hZ hsz hsz2 HKP hPZ
    generalize 1 + 3 * Tm.sizes P.kids = mG at *
    generalize 1 + 3 * Tm.sizes t.kids = mX at *
    obtain ⟨left, hgl⟩ : ∃ left : Int, (1048576 : Int) - t.wt = left := ⟨_, rfl⟩
    have hln : 0 ≤ left := by omega
    go_enter Tryz.func6, Tryz.ntmps6
    go_wp2_with fail
    refine (unhide h11 op n s a len cap _ _ (unhide HL) (by omega) (by omega)).mono ?_
    rintro e w1 ⟨rfl, hb1⟩
    rw [szv_yes hw, hgl]
    have HA1 := hide ((unhide HA).below hb1)
    have HL1 := hide ((unhide HL).below hb1)
    have HB1 := hide (bt (unhide HB0) hb1 (Nat.le_refl _))
    clear hb1 HL HB0 HA hgl hw h11
    obtain ⟨c0, c1, c2, c3⟩ := (unhide HA1).facts
    go_wp2_with fail
    refine (unhide h13 a cap _ (unhide HL1)).mono ?_
    rintro e w2 ⟨a2, f2, rfl, hO2, _, hb2⟩
    have HA2 := hide ((unhide HA1).below hb2)
    have HL2 := hide ((unhide HL1).below hb2)
    have HB2 := hide (bt (unhide HB1) hb2 (Nat.le_refl _))
    have HO2 := hide hO2.lies0
    clear hb2 hO2 HA1 HL1 HB1 c0 c1 c2 c3
    go_wp2_with fail
    refine (unhide h15 a2 len _ (unhide HO2)).mono ?_
    rintro e w3 ⟨opW, nW, sW, aW, lenW, capW, rfl, hL3, hb3⟩
    have HA3 := hide ((unhide HA2).below hb3)
    have HL3 := hide ((unhide HL2).below hb3)
    have HB3 := hide (bt (unhide HB2) hb3 (Nat.le_refl _))
    have HW3 := hide hL3
    clear hb3 hL3 HA2 HL2 HB2 HO2
    have HVB := hide (bt (unhide HB3) (ab (.cells #[.string h, .int .i64 opW, .int .i64 nW, .string sW, .slice aW lenW capW, .int .i64 v] 57)) (Nat.le_refl _))
    have HVA := hide ((unhide HA3).below (ab (.cells #[.string h, .int .i64 opW, .int .i64 nW, .string sW, .slice aW lenW capW, .int .i64 v] 57)))
    have HVW := hide (RowC.new 57 w3 h opW nW sW aW lenW capW v)
    have HVLA := hide ((unhide HL3).below (ab (.cells #[.string h, .int .i64 opW, .int .i64 nW, .string sW, .slice aW lenW capW, .int .i64 v] 57)))
    have HVLW := hide ((unhide HW3).below (ab (.cells #[.string h, .int .i64 opW, .int .i64 nW, .string sW, .slice aW lenW capW, .int .i64 v] 57)))
    obtain ⟨c0, c1, c2, c3⟩ := (unhide HVA).facts
    clear HA3 HL3 HB3 HW3
    go_wp2_with fail
    generalize hV1 : w3.alloc (.cells #[.string h, .int .i64 opW, .int .i64 nW, .string sW, .slice aW lenW capW, .int .i64 v] 57) = V1 at *
    generalize w3.heap.size = bW at *
    clear hV1
    refine (unhide h13 a cap _ (unhide HVLA)).mono ?_
    rintro e w4 ⟨a4, f4, rfl, hO4, ⟨hnd4, hge4⟩, hb4⟩
    have HND4 := hide hnd4
    have HGE4 := hide hge4
    have HLT4 := hide (Own.lt _ _ _ hO4)
    have hb4' := bt hb4 (ab (.cells #[.int .i64 op, .int .i64 n, .string s, .slice a4 len len] 29)) (Nat.le_refl _)
    have HV2 := hide hb4'
    have HXR := hide (RowT.new 29 w4 op n s a4 len len)
    have HXO := hide (hO4.below (ab (.cells #[.int .i64 op, .int .i64 n, .string s, .slice a4 len len] 29)))
    clear hO4 hnd4 hge4 hb4 hb4' c0 c1 c2 c3
    obtain ⟨c0, c1, c2, c3⟩ := (unhide HXR).facts
    go_wp2_with fail
    generalize hV2 : w4.alloc (.cells #[.int .i64 op, .int .i64 n, .string s, .slice a4 len len] 29) = V2 at *
    have HGX : Hid (w4.heap.size + 1 = V2.heap.size) := by show _ = _; rw [← hV2, heap_size_alloc]
    generalize w4.heap.size = bX at *
    clear hV2
    have hVV := bt (unhide HVB) (unhide HV2) (Nat.le_refl _)
    refine (unhide h16 a4 len _ (unhide HXO).lies0 ((unhide HER).on hVV) ((unhide HVR).on hVV) ((unhide HTB).on hVV)).mono ?_
    rintro e w5 ⟨opG, nG, sG, aG, lenG, capG, f5, rfl, hO5, ⟨hnd5, hge5⟩, hb5⟩
    have HND5 := hide hnd5
    have HGE5 := hide hge5
    have HLT5 := hide (Own.lt _ _ _ hO5)
    have HBG := hide hb5.size
    have hb5' := bt hb5 (ab (.cells #[.string h, .int .i64 opG, .int .i64 nG, .string sG, .slice aG lenG capG, .int .i64 v] 57)) (Nat.le_refl _)
    have HV3 := hide hb5'
    have HV13 := hide (bt (unhide HV2) hb5' (Nat.le_refl _))
    have HGR := hide (RowC.new 57 w5 h opG nG sG aG lenG capG v)
    have HGO := hide (hO5.below (ab (.cells #[.string h, .int .i64 opG, .int .i64 nG, .string sG, .slice aG lenG capG, .int .i64 v] 57)))
    clear hVV hO5 hnd5 hge5 hb5 hb5' c0 c1 c2 c3
    obtain ⟨c0, c1, c2, c3, c4, c5⟩ := (unhide HGR).facts
    obtain ⟨d0, d1, d2, d3, d4, d5⟩ := ((unhide HVW).below (unhide HV13)).facts
    go_wp2_with fail
    generalize hV3 : w5.alloc (.cells #[.string h, .int .i64 opG, .int .i64 nG, .string sG, .slice aG lenG capG, .int .i64 v] 57) = V3 at *
    have HGG : Hid (w5.heap.size + 1 = V3.heap.size) := by show _ = _; rw [← hV3, heap_size_alloc]
    generalize w5.heap.size = bG at *
    clear hV3
    refine (unhide h9 opG nG sG aG lenG capG opW nW sW aW lenW capW _ (unhide HGO).lies0 ((unhide HVLW).below (unhide HV13))).mono ?_
    rintro e w6 ⟨rfl, hb6⟩
    have HV16 := hide (bt (unhide HV13) hb6 (Nat.le_refl _))
    have HV26 := hide (bt (unhide HV3) hb6 (Nat.le_refl _))
    have HGR6 := hide ((unhide HGR).below hb6)
    have HGO6 := hide ((unhide HGO).below hb6)
    clear hb6 c0 c1 c2 c3 c4 c5 d0 d1 d2 d3 d4 d5 HV13 HV3 HGR HGO
    obtain ⟨c0, c1, c2, c3⟩ := ((unhide HXR).below (unhide HV26)).facts
    obtain ⟨d0, d1, d2, d3⟩ := ((unhide HVA).below (unhide HV16)).facts
    have HLA6 := hide ((unhide HVLA).below (unhide HV16).drew)
    have HXO6 := hide ((unhide HXO).below (unhide HV26).drew)
    go_wp2_with fail
    go_region_held3 (fun x => x.cell? ⟨bX, 0, none⟩ = some (.int .i64 op) ∧ x.cell? ⟨bX, 1, none⟩ = some (.int .i64 n) ∧ x.cell? ⟨bX, 2, none⟩ = some (.string s) ∧ x.cell? ⟨bX, 3, none⟩ = some (.slice a4 len len) ∧
        x.cell? ⟨w.heap.size, 0, none⟩ = some (.int .i64 op) ∧ x.cell? ⟨w.heap.size, 1, none⟩ = some (.int .i64 n) ∧ x.cell? ⟨w.heap.size, 2, none⟩ = some (.string s) ∧ x.cell? ⟨w.heap.size, 3, none⟩ = some (.slice a len cap)) (go_keep)
      (first
        | (go_at_call 11
           refine (unhide h13 a cap _ (unhide HLA6)).mono ?_
           rintro e w7 ⟨a7, f7, rfl, hO7, _, hb7⟩
           have hb7' := hide (below_drew' hb7)
           have HO7 := hide hO7.lies0
           have HX7 := hide ((unhide HXO6).below hb7).lies0
           have f0 := kpc (unhide hb7') c0
           have f1 := kpc (unhide hb7') c1
           have f2 := kpc (unhide hb7') c2
           have f3 := kpc (unhide hb7') c3
           have e0 := kpc (unhide hb7') d0
           have e1 := kpc (unhide hb7') d1
           have e2 := kpc (unhide hb7') d2
           have e3 := kpc (unhide hb7') d3)
        | (go_at_call 13
           refine (unhide h8 t op n s a4 len len op n s a7 len len _ (unhide HX7) (unhide HO7)).mono ?_
           rintro e w8 ⟨rfl, hb8⟩
           have g0 := kpc hb8 f0
           have g1 := kpc hb8 f1
           have g2 := kpc hb8 f2
           have g3 := kpc hb8 f3
           have i0 := kpc hb8 e0
           have i1 := kpc hb8 e1
           have i2 := kpc hb8 e2
           have i3 := kpc hb8 e3
           have hb8' := hide hb8))
    have HV18 := hide (bt (bt (unhide HV16) (unhide hb7') (Nat.le_refl _)) (unhide hb8') (Nat.le_refl _))
    have HGR8 := hide (((unhide HGR6).below (unhide hb7')).below (unhide hb8'))
    have HGO8 := hide (((unhide HGO6).below (unhide hb7')).below (unhide hb8'))
    have HXO8 := hide (((unhide HXO).below (unhide HV26)).below (unhide hb7') |>.below (unhide hb8'))
    clear f0 f1 f2 f3 e0 e1 e2 e3 c0 c1 c2 c3 d0 d1 d2 d3 HV16 HV26 HGR6 HGO6 HXO6 HLA6 hb7' hb8' HO7 HX7
    go_wp2_with fail
    refine (unhide h9x a4 _ _ (unhide HXO8) (unhide HND4)).mono ?_
    rintro e w9 ⟨rfl, _, o9⟩
    have HV19 := hide ((unhide HV18).trans (o9.below (unhide HV18).size (unhide HGE4)))
    have HGR9 := hide ((unhide HGR8).only o9 (fun hx => by have := unhide HLT4 _ hx; have := unhide HBG; have := unhide HGX; omega))
    have HGO9 := hide ((unhide HGO8).only o9 (fun x hx hx4 => by have := unhide HLT4 _ hx4; have := unhide HGE5 _ hx; have := unhide HGX; omega))
    clear o9 HV18 HGR8 HGO8 HXO8 g0 g1 g2 g3 i0 i1 i2 i3
    obtain ⟨c0, c1, c2, c3, c4, c5⟩ := (unhide HGR9).facts
    obtain ⟨d0, d1, d2, d3, d4, d5⟩ := ((unhide HVW).below (unhide HV19)).facts
    go_wp2_with fail
    refine (unhide h9 opG nG sG aG lenG capG opW nW sW aW lenW capW _ (unhide HGO9).lies0 ((unhide HVLW).below (unhide HV19))).mono ?_
    rintro e w10 ⟨rfl, hb10⟩
    have HV20 := hide (bt (unhide HV19) hb10 (Nat.le_refl _))
    have HGR10 := hide ((unhide HGR9).below hb10)
    have HGO10 := hide ((unhide HGO9).below hb10)
    clear hb10 HV19 HGR9 HGO9 c0 c1 c2 c3 c4 c5 d0 d1 d2 d3 d4 d5
    obtain ⟨c0, c1, c2, c3, c4, c5⟩ := (unhide HGR10).facts
    go_wp2_with fail
    refine (unhide h9g opG nG sG aG lenG capG _ _ (unhide HGO10) (unhide HND5)).mono ?_
    rintro e w11 ⟨rfl, k11, o11⟩
    have HV21 := hide ((unhide HV20).trans (o11.below (unhide HV20).size (fun x hx => by have := unhide HGE5 _ hx; have := (unhide HV2).size; omega)))
    have HGR11 := hide ((unhide HGR10).only o11 (fun hx => by have := unhide HLT5 _ hx; omega))
    have HGO11 := hide k11.lies0
    clear o11 k11 HV20 HGR10 HGO10 c0 c1 c2 c3 c4 c5
    obtain ⟨c0, c1, c2, c3, c4, c5⟩ := (unhide HGR11).facts
    go_wp2_with fail
    refine (unhide h10 opG nG sG aG lenG capG _ (unhide HGO11)).mono ?_
    rintro e w12 ⟨rfl, hb12⟩
    have HV22 := hide (bt (unhide HV21) hb12 (Nat.le_refl _))
    have HGR12 := hide ((unhide HGR11).below hb12)
    have HGO12 := hide ((unhide HGO11).below hb12)
    clear hb12 HV21 HGR11 HGO11 c0 c1 c2 c3 c4 c5
    obtain ⟨d0, d1, d2, d3⟩ := ((unhide HVA).below (unhide HV22)).facts
    go_wp2_with fail
    refine (unhide h13 a cap _ ((unhide HVLA).below (unhide HV22))).mono ?_
    rintro e w13 ⟨a13, f13, rfl, hO13, _, hb13⟩
    have HV23 := hide (bt (unhide HV22) hb13 (Nat.le_refl _))
    have HGR13 := hide ((unhide HGR12).below hb13)
    have HGO13 := hide ((unhide HGO12).below hb13)
    have HO13 := hide hO13.lies0
    clear hb13 hO13 HV22 HGR12 HGO12 d0 d1 d2 d3
    have hVV := bt (unhide HVB) (unhide HV23) (Nat.le_refl _)
    have HE13 := hide ((unhide HER).on hVV)
    have HR13 := hide ((unhide HVR).on hVV)
    have HT13 := hide ((unhide HTB).on hVV)
    clear hVV
    go_wp2_with fail
    refine (unhide h16 a13 len _ (unhide HO13) (unhide HE13) (unhide HR13) (unhide HT13)).mono ?_
    rintro e w14 ⟨opH, nH, sH, aH, lenH, capH, f14, rfl, hO14, _, hb14⟩
    have hb14' := bt hb14 (ab (.cells #[.string h, .int .i64 opH, .int .i64 nH, .string sH, .slice aH lenH capH, .int .i64 v] 57)) (Nat.le_refl _)
    have HV24 := hide (bt (unhide HV23) hb14' (Nat.le_refl _))
    have HGR14 := hide ((unhide HGR13).below hb14')
    have HGO14 := hide ((unhide HGO13).below hb14')
    have HHO := hide (hO14.below (ab (.cells #[.string h, .int .i64 opH, .int .i64 nH, .string sH, .slice aH lenH capH, .int .i64 v] 57))).lies0
    clear hb14 hb14' hO14 HV23 HGR13 HGO13 HO13
    obtain ⟨c0, c1, c2, c3, c4, c5⟩ := (RowC.new 57 w14 h opH nH sH aH lenH capH v).facts
    obtain ⟨d0, d1, d2, d3, d4, d5⟩ := ((unhide HVW).below (unhide HV24)).facts
    go_wp2_with fail
    refine (unhide h9 opH nH sH aH lenH capH opW nW sW aW lenW capW _ (unhide HHO) ((unhide HVLW).below (unhide HV24))).mono ?_
    rintro e w15 ⟨rfl, hb15⟩
    have HV25 := hide (bt (unhide HV24) hb15 (Nat.le_refl _))
    have HGR15 := hide ((unhide HGR14).below hb15)
    have HGO15 := hide ((unhide HGO14).below hb15)
    clear hb15 HV24 HGR14 HGO14 HHO c0 c1 c2 c3 c4 c5 d0 d1 d2 d3 d4 d5
    obtain ⟨c0, c1, c2, c3, c4, c5⟩ := (unhide HGR15).facts
    go_wp2_with fail
    refine (unhide h10 opG nG sG aG lenG capG _ (unhide HGO15)).mono ?_
    rintro e w16 ⟨rfl, hb16⟩
    have HV26 := hide (bt (unhide HV25) hb16 (Nat.le_refl _))
    clear hb16 c0 c1 c2 c3 c4 c5
    go_wp2_with fail
    go_ret
    exact ⟨rfl, (unhide HVB).trans ((unhide HV26).mono (unhide HVB).size)⟩
  · go_enter Tryz.func6, Tryz.ntmps6
    go_wp2_with fail
    refine (unhide h11 op n s a len cap _ _ (unhide HL) (by omega) (by omega)).mono ?_
    rintro e w2 ⟨rfl, hb2⟩
    rw [szv_no (by omega)]
    go_wp2_with fail
    go_ret
    exact ⟨rfl, bt (unhide HB0) hb2 (Nat.le_refl _)⟩

set_option maxRecDepth 100000 in
set_option maxHeartbeats 2000000 in
theorem goodP_no1 (op2 n2 : Int) (s2 : ByteArray) (a2 : Option Addr) (len2 cap2 : Nat) (hs : ByteArray) (m : Int) (x : Addr) (w : World) (hr : ∀ W, Below w.heap.size w W → Calls Tryz.prog 108 #[.agg #[.int .i64 op2, .int .i64 n2, .string s2, .slice a2 len2 cap2]] W fun e w' => Below W.heap.size W w' ∧ e = .returned (.tuple #[zeroC, .iface 202 (.pointer (some x))])) :
    Calls Tryz.prog 97 #[.agg #[.int .i64 op2, .int .i64 n2, .string s2, .slice a2 len2 cap2], .string hs, .int .i64 m] w fun e w' => e = .returned (.tuple #[.agg #[.int .i64 0, .int .i64 0, .string ByteArray.empty, .slice none 0 0], .iface 202 (.pointer (some x))]) ∧ Below w.heap.size w w' := by
  have h26 := hide hr
  unfold zeroC at h26
  have hB0 : Below w.heap.size w ((w.alloc (.cells #[.int .i64 op2, .int .i64 n2, .string s2, .slice a2 len2 cap2] 29)).alloc (.cells #[.int .i64 0, .int .i64 0, .string ByteArray.empty, .slice none 0 0] 29)) := bt (ab _) (ab _) (Nat.le_refl _)
  have HX : Hid (ZBox ((w.alloc (.cells #[.int .i64 op2, .int .i64 n2, .string s2, .slice a2 len2 cap2] 29)).alloc (.cells #[.int .i64 0, .int .i64 0, .string ByteArray.empty, .slice none 0 0] 29)) (w.heap.size + 1)) := by
    have := ZBox.new (w.alloc (.cells #[.int .i64 op2, .int .i64 n2, .string s2, .slice a2 len2 cap2] 29))
    rwa [heap_size_alloc] at this
  have HB0 := hide hB0
  clear hB0 hr
  go_enter Tryz.func97, Tryz.ntmps97
  go_wp2_with fail
  refine (unhide h26 _ (unhide HB0)).mono ?_
  rintro e w2 ⟨hb2, rfl⟩
  have hb2' := bt hb2 (ab (.cells #[.string ByteArray.empty, .int .i64 0, .int .i64 0, .string ByteArray.empty, .slice none 0 0, .int .i64 0] 57)) (Nat.le_refl _)
  have HB2 := hide (bt (unhide HB0) hb2' (Nat.le_refl _))
  obtain ⟨p0, p1, p2, p3, q0, q1, q2, q3⟩ := ((unhide HX).below hb2').facts
  obtain ⟨p0', p1', p2', p3', q0', q1', q2', q3'⟩ := ((unhide HX).below hb2).facts
  have hlX := lt_of_cell p0'
  have nX := Nat.ne_of_lt hlX
  have mX := Ne.symm nX
  have HX2 := hide ((unhide HX).below hb2)
  have HB2 := hide (bt (unhide HB0) hb2 (Nat.le_refl _))
  clear hb2 hb2'
  go_wp2_with fail
  have HF := hide ((fill26 (unhide HX2) 0 0 ⟨#[]⟩ none 0 0).below (ab (.cells #[.string ByteArray.empty, .int .i64 0, .int .i64 0, .string ByteArray.empty, .slice none 0 0, .int .i64 0] 57)))
  obtain ⟨f0, f1, f2, f3⟩ := (unhide HF).facts
  refine bodyPost_ret (v := .tuple #[.agg #[.int .i64 0, .int .i64 0, .string ByteArray.empty, .slice none 0 0], .iface 202 (.pointer (some x))]) (by simp [results, Tryz.results97, go_sem, f0, f1, f2, f3]; try rfl) rfl ⟨rfl, ?_⟩
  exact (set4_below (unhide HB2) (by omega)).alloc (by simp only [set_size]; exact (unhide HB2).size) _

set_option maxRecDepth 100000 in
set_option maxHeartbeats 2000000 in
theorem goodP_no2 (op2 n2 : Int) (s2 : ByteArray) (a2 : Option Addr) (len2 cap2 : Nat) (hs : ByteArray) (m : Int) (x : Addr) (w : World) (he : ErrAt x w) (h : ByteArray) (p : Tm) (v : Int) (hh : h ≠ hs) (hr : ∀ W, Below w.heap.size w W → Calls Tryz.prog 108 #[.agg #[.int .i64 op2, .int .i64 n2, .string s2, .slice a2 len2 cap2]] W fun e w' => Below W.heap.size W w' ∧ ∃ op n s a len cap, e = .returned (.tuple #[.agg #[.string h, .int .i64 op, .int .i64 n, .string s, .slice a len cap, .int .i64 v], .nilIface]) ∧ Lies w 0 p (tmCells op n s a len cap)) :
    Calls Tryz.prog 97 #[.agg #[.int .i64 op2, .int .i64 n2, .string s2, .slice a2 len2 cap2], .string hs, .int .i64 m] w fun e w' => e = .returned (.tuple #[.agg #[.int .i64 0, .int .i64 0, .string ByteArray.empty, .slice none 0 0], .iface 202 (.pointer (some x))]) ∧ Below w.heap.size w w' := by
  have q9 : (h.toList == hs.toList) = false := by rw [beq_eq_false_iff_ne]; intro e; exact hh (toList_inj e)
  clear hh
  have h26 := hide hr
  have hB0 : Below w.heap.size w ((w.alloc (.cells #[.int .i64 op2, .int .i64 n2, .string s2, .slice a2 len2 cap2] 29)).alloc (.cells #[.int .i64 0, .int .i64 0, .string ByteArray.empty, .slice none 0 0] 29)) := bt (ab _) (ab _) (Nat.le_refl _)
  have HX : Hid (ZBox ((w.alloc (.cells #[.int .i64 op2, .int .i64 n2, .string s2, .slice a2 len2 cap2] 29)).alloc (.cells #[.int .i64 0, .int .i64 0, .string ByteArray.empty, .slice none 0 0] 29)) (w.heap.size + 1)) := by
    have := ZBox.new (w.alloc (.cells #[.int .i64 op2, .int .i64 n2, .string s2, .slice a2 len2 cap2] 29))
    rwa [heap_size_alloc] at this
  have HB0 := hide hB0
  have HER := hide (he.on hB0)
  clear hB0 hr he
  go_enter Tryz.func97, Tryz.ntmps97
  go_wp2_with fail
  refine (unhide h26 _ (unhide HB0)).mono ?_
  rintro e w2 ⟨hb2, op, n, s, a, len, cap, rfl, hL2⟩
  have HB2 := hide (bt (unhide HB0) hb2 (Nat.le_refl _))
  have HX2 := hide ((unhide HX).below hb2)
  have HER2 := hide ((unhide HER).on (bt hb2 (ab (.cells #[.string h, .int .i64 op, .int .i64 n, .string s, .slice a len cap, .int .i64 v] 57)) (Nat.le_refl _)))
  have HL2 := hide hL2
  have HXL : Hid (w.heap.size + 1 < w2.heap.size) := lt_of_heap (unhide HX2)
  obtain ⟨p0, p1, p2, p3, q0, q1, q2, q3⟩ := (unhide HX2).facts
  have g0 := (unhide HER2).cell
  have hlX := lt_of_cell p0
  have nX := Nat.ne_of_lt hlX
  have mX := Ne.symm nX
  have hne : (w.heap.size + 1 = 0) = False := by simp
  have hne' : (0 = w.heap.size + 1) = False := by simp
  clear hb2 hL2
  go_wp2_with fail
  generalize hV2 : w2.alloc (.cells #[.string h, .int .i64 op, .int .i64 n, .string s, .slice a len cap, .int .i64 v] 57) = V2 at *
  have HXV : Hid (ZBox V2 (w.heap.size + 1)) := by rw [← hV2]; exact (unhide HX2).below (ab _)
  have HBV : Hid (Below w.heap.size w V2) := by rw [← hV2]; exact bt (unhide HB2) (ab _) (Nat.le_refl _)
  clear p0 p1 p2 p3 q0 q1 q2 q3
  obtain ⟨p0, p1, p2, p3, q0, q1, q2, q3⟩ := (unhide HXV).facts
  clear hV2
  go_region
  all_goals go_wp2_with fail
  all_goals exact bodyPost_ret (v := .tuple #[.agg #[.int .i64 0, .int .i64 0, .string ByteArray.empty, .slice none 0 0], .iface 202 (.pointer (some x))]) (by simp [results, Tryz.results97, go_sem, p0, p1, p2, p3]; try rfl) rfl ⟨rfl, by first | exact (set4_below (unhide HBV) (by omega)).drew | exact set4_below (unhide HBV) (by omega)⟩

set_option maxRecDepth 100000 in
set_option maxHeartbeats 2000000 in
theorem goodP_no3 (op2 n2 : Int) (s2 : ByteArray) (a2 : Option Addr) (len2 cap2 : Nat) (hs : ByteArray) (m : Int) (x : Addr) (w : World) (he : ErrAt x w) (h : ByteArray) (p : Tm) (v : Int) (hh : h = hs) (hm : v < m) (hr : ∀ W, Below w.heap.size w W → Calls Tryz.prog 108 #[.agg #[.int .i64 op2, .int .i64 n2, .string s2, .slice a2 len2 cap2]] W fun e w' => Below W.heap.size W w' ∧ ∃ op n s a len cap, e = .returned (.tuple #[.agg #[.string h, .int .i64 op, .int .i64 n, .string s, .slice a len cap, .int .i64 v], .nilIface]) ∧ Lies w 0 p (tmCells op n s a len cap)) :
    Calls Tryz.prog 97 #[.agg #[.int .i64 op2, .int .i64 n2, .string s2, .slice a2 len2 cap2], .string hs, .int .i64 m] w fun e w' => e = .returned (.tuple #[.agg #[.int .i64 0, .int .i64 0, .string ByteArray.empty, .slice none 0 0], .iface 202 (.pointer (some x))]) ∧ Below w.heap.size w w' := by
  have q9 : (h.toList == hs.toList) = true := by rw [hh]; simp
  clear hh
  have h26 := hide hr
  have hB0 : Below w.heap.size w ((w.alloc (.cells #[.int .i64 op2, .int .i64 n2, .string s2, .slice a2 len2 cap2] 29)).alloc (.cells #[.int .i64 0, .int .i64 0, .string ByteArray.empty, .slice none 0 0] 29)) := bt (ab _) (ab _) (Nat.le_refl _)
  have HX : Hid (ZBox ((w.alloc (.cells #[.int .i64 op2, .int .i64 n2, .string s2, .slice a2 len2 cap2] 29)).alloc (.cells #[.int .i64 0, .int .i64 0, .string ByteArray.empty, .slice none 0 0] 29)) (w.heap.size + 1)) := by
    have := ZBox.new (w.alloc (.cells #[.int .i64 op2, .int .i64 n2, .string s2, .slice a2 len2 cap2] 29))
    rwa [heap_size_alloc] at this
  have HB0 := hide hB0
  have HER := hide (he.on hB0)
  clear hB0 hr he
  go_enter Tryz.func97, Tryz.ntmps97
  go_wp2_with fail
  refine (unhide h26 _ (unhide HB0)).mono ?_
  rintro e w2 ⟨hb2, op, n, s, a, len, cap, rfl, hL2⟩
  have HB2 := hide (bt (unhide HB0) hb2 (Nat.le_refl _))
  have HX2 := hide ((unhide HX).below hb2)
  have HER2 := hide ((unhide HER).on (bt hb2 (ab (.cells #[.string h, .int .i64 op, .int .i64 n, .string s, .slice a len cap, .int .i64 v] 57)) (Nat.le_refl _)))
  have HL2 := hide hL2
  have HXL : Hid (w.heap.size + 1 < w2.heap.size) := lt_of_heap (unhide HX2)
  obtain ⟨p0, p1, p2, p3, q0, q1, q2, q3⟩ := (unhide HX2).facts
  have g0 := (unhide HER2).cell
  have hlX := lt_of_cell p0
  have nX := Nat.ne_of_lt hlX
  have mX := Ne.symm nX
  have hne : (w.heap.size + 1 = 0) = False := by simp
  have hne' : (0 = w.heap.size + 1) = False := by simp
  clear hb2 hL2
  go_wp2_with fail
  generalize hV2 : w2.alloc (.cells #[.string h, .int .i64 op, .int .i64 n, .string s, .slice a len cap, .int .i64 v] 57) = V2 at *
  have HXV : Hid (ZBox V2 (w.heap.size + 1)) := by rw [← hV2]; exact (unhide HX2).below (ab _)
  have HBV : Hid (Below w.heap.size w V2) := by rw [← hV2]; exact bt (unhide HB2) (ab _) (Nat.le_refl _)
  clear p0 p1 p2 p3 q0 q1 q2 q3
  obtain ⟨p0, p1, p2, p3, q0, q1, q2, q3⟩ := (unhide HXV).facts
  clear hV2
  go_region
  all_goals go_wp2_with fail
  all_goals exact bodyPost_ret (v := .tuple #[.agg #[.int .i64 0, .int .i64 0, .string ByteArray.empty, .slice none 0 0], .iface 202 (.pointer (some x))]) (by simp [results, Tryz.results97, go_sem, p0, p1, p2, p3]; try rfl) rfl ⟨rfl, by first | exact (set4_below (unhide HBV) (by omega)).drew | exact set4_below (unhide HBV) (by omega)⟩

set_option maxRecDepth 100000 in
set_option maxHeartbeats 2000000 in
theorem goodP_yes (op2 n2 : Int) (s2 : ByteArray) (a2 : Option Addr) (len2 cap2 : Nat) (hs : ByteArray) (m : Int) (x : Addr) (w : World) (he : ErrAt x w) (h : ByteArray) (p : Tm) (v : Int) (hh : h = hs) (hm : ¬ v < m) (hr : ∀ W, Below w.heap.size w W → Calls Tryz.prog 108 #[.agg #[.int .i64 op2, .int .i64 n2, .string s2, .slice a2 len2 cap2]] W fun e w' => Below W.heap.size W w' ∧ ∃ op n s a len cap, e = .returned (.tuple #[.agg #[.string h, .int .i64 op, .int .i64 n, .string s, .slice a len cap, .int .i64 v], .nilIface]) ∧ Lies w 0 p (tmCells op n s a len cap)) :
    Calls Tryz.prog 97 #[.agg #[.int .i64 op2, .int .i64 n2, .string s2, .slice a2 len2 cap2], .string hs, .int .i64 m] w fun e w' => ∃ op n s a len cap, e = .returned (.tuple #[.agg #[.int .i64 op, .int .i64 n, .string s, .slice a len cap], .nilIface]) ∧ Lies w' 0 p (tmCells op n s a len cap) ∧ Below w.heap.size w w' := by
  have q9 : (h.toList == hs.toList) = true := by rw [hh]; simp
  clear hh
  have h26 := hide hr
  have hB0 : Below w.heap.size w ((w.alloc (.cells #[.int .i64 op2, .int .i64 n2, .string s2, .slice a2 len2 cap2] 29)).alloc (.cells #[.int .i64 0, .int .i64 0, .string ByteArray.empty, .slice none 0 0] 29)) := bt (ab _) (ab _) (Nat.le_refl _)
  have HX : Hid (ZBox ((w.alloc (.cells #[.int .i64 op2, .int .i64 n2, .string s2, .slice a2 len2 cap2] 29)).alloc (.cells #[.int .i64 0, .int .i64 0, .string ByteArray.empty, .slice none 0 0] 29)) (w.heap.size + 1)) := by
    have := ZBox.new (w.alloc (.cells #[.int .i64 op2, .int .i64 n2, .string s2, .slice a2 len2 cap2] 29))
    rwa [heap_size_alloc] at this
  have HB0 := hide hB0
  have HER := hide (he.on hB0)
  clear hB0 hr he
  go_enter Tryz.func97, Tryz.ntmps97
  go_wp2_with fail
  refine (unhide h26 _ (unhide HB0)).mono ?_
  rintro e w2 ⟨hb2, op, n, s, a, len, cap, rfl, hL2⟩
  have HB2 := hide (bt (unhide HB0) hb2 (Nat.le_refl _))
  have HX2 := hide ((unhide HX).below hb2)
  have HER2 := hide ((unhide HER).on (bt hb2 (ab (.cells #[.string h, .int .i64 op, .int .i64 n, .string s, .slice a len cap, .int .i64 v] 57)) (Nat.le_refl _)))
  have HL2 := hide hL2
  have HXL : Hid (w.heap.size + 1 < w2.heap.size) := lt_of_heap (unhide HX2)
  obtain ⟨p0, p1, p2, p3, q0, q1, q2, q3⟩ := (unhide HX2).facts
  have g0 := (unhide HER2).cell
  have hlX := lt_of_cell p0
  have nX := Nat.ne_of_lt hlX
  have mX := Ne.symm nX
  have hne : (w.heap.size + 1 = 0) = False := by simp
  have hne' : (0 = w.heap.size + 1) = False := by simp
  clear hb2 hL2
  have hpV := hide (RowC.new 57 w2 h op n s a len cap v)
  go_wp2_with fail
  have HF := hide ((fill26 (unhide HX2) op n s a len cap).below (ab (.cells #[.string h, .int .i64 op, .int .i64 n, .string s, .slice a len cap, .int .i64 v] 57)))
  obtain ⟨f0, f1, f2, f3⟩ := (unhide HF).facts
  refine bodyPost_ret (v := .tuple #[.agg #[.int .i64 op, .int .i64 n, .string s, .slice a len cap], .nilIface]) (by simp [results, Tryz.results97, go_sem, f0, f1, f2, f3]; try rfl) rfl ⟨op, n, s, a, len, cap, rfl, ?_, ?_⟩
  · exact (unhide HL2).below ((set4_below (unhide HB2) (by omega)).alloc (by simp only [set_size]; exact (unhide HB2).size) _)
  · exact (set4_below (unhide HB2) (by omega)).alloc (by simp only [set_size]; exact (unhide HB2).size) _

set_option maxRecDepth 100000 in
set_option maxHeartbeats 2000000 in
theorem goodI_yes (op2 n2 : Int) (s2 : ByteArray) (a2 : Option Addr) (len2 cap2 : Nat) (hs : ByteArray) (m : Int) (x : Addr) (w : World) (he : ErrAt x w) (p : Tm) (hp : p.size + p.wt ≤ 4194304)
    (h30 : ∀ W, Below w.heap.size w W → Calls Tryz.prog 97 #[.agg #[.int .i64 op2, .int .i64 n2, .string s2, .slice a2 len2 cap2], .string hs, .int .i64 m] W fun e w' => ∃ op n s a len cap, e = .returned (.tuple #[.agg #[.int .i64 op, .int .i64 n, .string s, .slice a len cap], .nilIface]) ∧ Lies w' 0 p (tmCells op n s a len cap) ∧ Below W.heap.size W w') :
    Calls Tryz.prog 35 #[.agg #[.int .i64 op2, .int .i64 n2, .string s2, .slice a2 len2 cap2], .string hs, .int .i64 m] w fun e w' => ∃ op n s a len cap fp, e = .returned (.tuple #[.agg #[.int .i64 op, .int .i64 n, .string s, .slice a len cap], .bool true]) ∧ Own w' p (tmCells op n s a len cap) fp ∧ (fp.Nodup ∧ ∀ y ∈ fp, w.heap.size ≤ y) ∧ Below w.heap.size w w' := by
  have H30 := hide h30
  clear h30
  have hB0 : Below w.heap.size w ((w.alloc (.cells #[.int .i64 op2, .int .i64 n2, .string s2, .slice a2 len2 cap2] 29)).alloc (.cells #[.int .i64 0, .int .i64 0, .string ByteArray.empty, .slice none 0 0] 29)) := bt (ab _) (ab _) (Nat.le_refl _)
  have HX : Hid (ZBox ((w.alloc (.cells #[.int .i64 op2, .int .i64 n2, .string s2, .slice a2 len2 cap2] 29)).alloc (.cells #[.int .i64 0, .int .i64 0, .string ByteArray.empty, .slice none 0 0] 29)) (w.heap.size + 1)) := by
    have := ZBox.new (w.alloc (.cells #[.int .i64 op2, .int .i64 n2, .string s2, .slice a2 len2 cap2] 29))
    rwa [heap_size_alloc] at this
  have HB0 := hide hB0
  have HER := hide (he.on hB0)
  clear hB0 he
  go_enter Tryz.func35, Tryz.ntmps35
  go_wp2_with fail
  refine (unhide H30 _ (unhide HB0)).mono ?_
  rintro e w2 ⟨op, n, s, a, len, cap, rfl, hL2, hb2⟩
  have HB2 := hide (bt (unhide HB0) hb2 (Nat.le_refl _))
  have HX2 := hide ((unhide HX).below hb2)
  have HER2 := hide ((unhide HER).on hb2)
  have HL2 := hide hL2
  have HXL : Hid (w.heap.size + 1 < w2.heap.size) := lt_of_heap (unhide HX2)
  have h27 := hide (fun W hl he => answer_yes p op n s a len cap x W hl hp he)
  clear hb2 hL2 HB0 HX HER H30
  go_wp2_with fail
  refine (unhide h27 _ (unhide HL2) (unhide HER2)).mono ?_
  rintro e w3 ⟨a3, cap3, fp, rfl, hO, ⟨hnd, hge⟩, hb3⟩
  have HB3 := hide (bt (unhide HB2) hb3 (Nat.le_refl _))
  have HO := hide hO
  have HND := hide hnd
  have HGE := hide hge
  obtain ⟨p0, p1, p2, p3, q0, q1, q2, q3⟩ := ((unhide HX2).below hb3).facts
  clear hb3 hO hnd hge
  go_wp2_with fail
  exact bodyPost_ret (v := .tuple #[.agg #[.int .i64 op, .int .i64 n, .string s, .slice a3 len cap3], .bool true]) (by simp [results, Tryz.results35, go_sem, p0, p1, p2, p3]; try rfl) rfl ⟨_, _, _, _, _, _, fp, rfl, Own.keep _ _ _ (unhide HO) (fun b hb => set4_heap _ _ _ _ _ _ b (by have := unhide HGE b hb; have := unhide HXL; omega)), ⟨unhide HND, fun y hy => by have := unhide HGE y hy; have := unhide HXL; omega⟩, set4_below (unhide HB3) (by omega)⟩

set_option maxRecDepth 100000 in
set_option maxHeartbeats 2000000 in
theorem goodI_no (op2 n2 : Int) (s2 : ByteArray) (a2 : Option Addr) (len2 cap2 : Nat) (hs : ByteArray) (m : Int) (x : Addr) (w : World) (he : ErrAt x w)
    (h30 : ∀ W, Below w.heap.size w W → Calls Tryz.prog 97 #[.agg #[.int .i64 op2, .int .i64 n2, .string s2, .slice a2 len2 cap2], .string hs, .int .i64 m] W fun e w' => e = .returned (.tuple #[.agg #[.int .i64 0, .int .i64 0, .string ByteArray.empty, .slice none 0 0], .iface 202 (.pointer (some x))]) ∧ Below W.heap.size W w') :
    Calls Tryz.prog 35 #[.agg #[.int .i64 op2, .int .i64 n2, .string s2, .slice a2 len2 cap2], .string hs, .int .i64 m] w fun e w' => e = .returned (.tuple #[.agg #[.int .i64 0, .int .i64 0, .string ByteArray.empty, .slice none 0 0], .bool false]) ∧ Below w.heap.size w w' := by
  have H30 := hide h30
  clear h30
  have hB0 : Below w.heap.size w ((w.alloc (.cells #[.int .i64 op2, .int .i64 n2, .string s2, .slice a2 len2 cap2] 29)).alloc (.cells #[.int .i64 0, .int .i64 0, .string ByteArray.empty, .slice none 0 0] 29)) := bt (ab _) (ab _) (Nat.le_refl _)
  have HX : Hid (ZBox ((w.alloc (.cells #[.int .i64 op2, .int .i64 n2, .string s2, .slice a2 len2 cap2] 29)).alloc (.cells #[.int .i64 0, .int .i64 0, .string ByteArray.empty, .slice none 0 0] 29)) (w.heap.size + 1)) := by
    have := ZBox.new (w.alloc (.cells #[.int .i64 op2, .int .i64 n2, .string s2, .slice a2 len2 cap2] 29))
    rwa [heap_size_alloc] at this
  have HB0 := hide hB0
  have HER := hide (he.on hB0)
  clear hB0 he
  go_enter Tryz.func35, Tryz.ntmps35
  go_wp2_with fail
  refine (unhide H30 _ (unhide HB0)).mono ?_
  rintro e w2 ⟨rfl, hb2⟩
  have HB2 := hide (bt (unhide HB0) hb2 (Nat.le_refl _))
  have HX2 := hide ((unhide HX).below hb2)
  have HER2 := hide ((unhide HER).on hb2)
  have h27 := hide (fun W he => answer_no 0 0 ByteArray.empty none 0 0 x W he)
  clear hb2 HB0 HX HER H30
  go_wp2_with fail
  refine (unhide h27 _ (unhide HER2)).mono ?_
  rintro e w3 ⟨rfl, hb3⟩
  have HB3 := hide (bt (unhide HB2) hb3 (Nat.le_refl _))
  obtain ⟨p0, p1, p2, p3, q0, q1, q2, q3⟩ := ((unhide HX2).below hb3).facts
  clear hb3
  go_wp2_with fail
  exact bodyPost_ret (v := .tuple #[.agg #[.int .i64 0, .int .i64 0, .string ByteArray.empty, .slice none 0 0], .bool false]) (by simp [results, Tryz.results35, go_sem, p0, p1, p2, p3]; try rfl) rfl ⟨rfl, set4_below (unhide HB3) (by omega)⟩

set_option maxRecDepth 100000 in
set_option maxHeartbeats 2000000 in
theorem goodS_no1 (op2 n2 : Int) (s2 : ByteArray) (a2 : Option Addr) (len2 cap2 : Nat) (hs : ByteArray) (m : Int) (w : World) (h6 : ∀ W, Below w.heap.size w W → Calls Tryz.prog 48 #[.agg #[.int .i64 op2, .int .i64 n2, .string s2, .slice a2 len2 cap2]] W fun e w' => Below W.heap.size W w' ∧ e = .returned (.tuple #[zeroC, .bool false])) :
    Calls Tryz.prog 51 #[.agg #[.int .i64 op2, .int .i64 n2, .string s2, .slice a2 len2 cap2], .string hs, .int .i64 m] w fun e w' => e = .returned (.tuple #[.agg #[.int .i64 0, .int .i64 0, .string ByteArray.empty, .slice none 0 0], .bool false]) ∧ Below w.heap.size w w' := by
  have H6 := hide h6
  unfold zeroC at H6
  have hB0 : Below w.heap.size w ((w.alloc (.cells #[.int .i64 op2, .int .i64 n2, .string s2, .slice a2 len2 cap2] 29)).alloc (.cells #[.int .i64 0, .int .i64 0, .string ByteArray.empty, .slice none 0 0] 29)) := bt (ab _) (ab _) (Nat.le_refl _)
  have HX : Hid (ZBox ((w.alloc (.cells #[.int .i64 op2, .int .i64 n2, .string s2, .slice a2 len2 cap2] 29)).alloc (.cells #[.int .i64 0, .int .i64 0, .string ByteArray.empty, .slice none 0 0] 29)) (w.heap.size + 1)) := by
    have := ZBox.new (w.alloc (.cells #[.int .i64 op2, .int .i64 n2, .string s2, .slice a2 len2 cap2] 29))
    rwa [heap_size_alloc] at this
  have HB0 := hide hB0
  clear hB0 h6
  go_enter Tryz.func51, Tryz.ntmps51
  go_wp2_with fail
  refine (unhide H6 _ (unhide HB0)).mono ?_
  rintro e w2 ⟨hb2, rfl⟩
  have HB2 := hide (bt (unhide HB0) hb2 (Nat.le_refl _))
  have HX2 := hide ((unhide HX).below hb2)
  obtain ⟨p0, p1, p2, p3, q0, q1, q2, q3⟩ := ((unhide HX).below hb2).facts
  have hlX := lt_of_cell p0
  have nX := Nat.ne_of_lt hlX
  have mX := Ne.symm nX
  clear hb2
  go_wp2_with fail
  have HF := hide ((fill26 (unhide HX2) 0 0 ⟨#[]⟩ none 0 0).below (ab (.cells #[.string ByteArray.empty, .int .i64 0, .int .i64 0, .string ByteArray.empty, .slice none 0 0, .int .i64 0] 57)))
  obtain ⟨f0, f1, f2, f3⟩ := (unhide HF).facts
  refine bodyPost_ret (v := .tuple #[.agg #[.int .i64 0, .int .i64 0, .string ByteArray.empty, .slice none 0 0], .bool false]) (by simp [results, Tryz.results51, go_sem, f0, f1, f2, f3]; try rfl) rfl ⟨rfl, ?_⟩
  exact (set4_below (unhide HB2) (by omega)).alloc (by simp only [set_size]; exact (unhide HB2).size) _

set_option maxRecDepth 100000 in
set_option maxHeartbeats 2000000 in
theorem goodS_no2 (op2 n2 : Int) (s2 : ByteArray) (a2 : Option Addr) (len2 cap2 : Nat) (hs : ByteArray) (m : Int) (w : World) (h : ByteArray) (p : Tm) (v : Int) (hh : h ≠ hs) (h6 : ∀ W, Below w.heap.size w W → Calls Tryz.prog 48 #[.agg #[.int .i64 op2, .int .i64 n2, .string s2, .slice a2 len2 cap2]] W fun e w' => Below W.heap.size W w' ∧ ∃ op n s a len cap, e = .returned (.tuple #[.agg #[.string h, .int .i64 op, .int .i64 n, .string s, .slice a len cap, .int .i64 v], .bool true]) ∧ Lies w' W.heap.size p (tmCells op n s a len cap)) :
    Calls Tryz.prog 51 #[.agg #[.int .i64 op2, .int .i64 n2, .string s2, .slice a2 len2 cap2], .string hs, .int .i64 m] w fun e w' => e = .returned (.tuple #[.agg #[.int .i64 0, .int .i64 0, .string ByteArray.empty, .slice none 0 0], .bool false]) ∧ Below w.heap.size w w' := by
  have q9 : (h.toList == hs.toList) = false := by rw [beq_eq_false_iff_ne]; intro e; exact hh (toList_inj e)
  clear hh
  have H6 := hide h6
  have hB0 : Below w.heap.size w ((w.alloc (.cells #[.int .i64 op2, .int .i64 n2, .string s2, .slice a2 len2 cap2] 29)).alloc (.cells #[.int .i64 0, .int .i64 0, .string ByteArray.empty, .slice none 0 0] 29)) := bt (ab _) (ab _) (Nat.le_refl _)
  have HX : Hid (ZBox ((w.alloc (.cells #[.int .i64 op2, .int .i64 n2, .string s2, .slice a2 len2 cap2] 29)).alloc (.cells #[.int .i64 0, .int .i64 0, .string ByteArray.empty, .slice none 0 0] 29)) (w.heap.size + 1)) := by
    have := ZBox.new (w.alloc (.cells #[.int .i64 op2, .int .i64 n2, .string s2, .slice a2 len2 cap2] 29))
    rwa [heap_size_alloc] at this
  have HB0 := hide hB0
  have HG0 : Hid (w.heap.size + 2 = ((w.alloc (.cells #[.int .i64 op2, .int .i64 n2, .string s2, .slice a2 len2 cap2] 29)).alloc (.cells #[.int .i64 0, .int .i64 0, .string ByteArray.empty, .slice none 0 0] 29)).heap.size) := by show _ = _; simp
  clear hB0 h6
  go_enter Tryz.func51, Tryz.ntmps51
  go_wp2_with fail
  refine (unhide H6 _ (unhide HB0)).mono ?_
  rintro e w2 ⟨hb2, op, n, s, a, len, cap, rfl, hL2⟩
  have HB2 := hide (bt (unhide HB0) hb2 (Nat.le_refl _))
  have HX2 := hide ((unhide HX).below hb2)
  have HL2 := hide hL2
  obtain ⟨p0, p1, p2, p3, q0, q1, q2, q3⟩ := (unhide HX2).facts
  have hlX := lt_of_cell p0
  have nX := Nat.ne_of_lt hlX
  have mX := Ne.symm nX
  clear hb2 hL2
  go_wp2_with fail
  have HF := hide ((fill26 (unhide HX2) 0 0 ⟨#[]⟩ none 0 0).below (ab (.cells #[.string h, .int .i64 op, .int .i64 n, .string s, .slice a len cap, .int .i64 v] 57)))
  obtain ⟨f0, f1, f2, f3⟩ := (unhide HF).facts
  refine bodyPost_ret (v := .tuple #[.agg #[.int .i64 0, .int .i64 0, .string ByteArray.empty, .slice none 0 0], .bool false]) (by simp [results, Tryz.results51, go_sem, f0, f1, f2, f3]; try rfl) rfl ⟨rfl, ?_⟩
  exact (set4_below (unhide HB2) (by omega)).alloc (by simp only [set_size]; exact (unhide HB2).size) _

set_option maxRecDepth 100000 in
set_option maxHeartbeats 2000000 in
theorem goodS_no3 (op2 n2 : Int) (s2 : ByteArray) (a2 : Option Addr) (len2 cap2 : Nat) (hs : ByteArray) (m : Int) (w : World) (h : ByteArray) (p : Tm) (v : Int) (hh : h = hs) (hm : v < m) (h6 : ∀ W, Below w.heap.size w W → Calls Tryz.prog 48 #[.agg #[.int .i64 op2, .int .i64 n2, .string s2, .slice a2 len2 cap2]] W fun e w' => Below W.heap.size W w' ∧ ∃ op n s a len cap, e = .returned (.tuple #[.agg #[.string h, .int .i64 op, .int .i64 n, .string s, .slice a len cap, .int .i64 v], .bool true]) ∧ Lies w' W.heap.size p (tmCells op n s a len cap)) :
    Calls Tryz.prog 51 #[.agg #[.int .i64 op2, .int .i64 n2, .string s2, .slice a2 len2 cap2], .string hs, .int .i64 m] w fun e w' => e = .returned (.tuple #[.agg #[.int .i64 0, .int .i64 0, .string ByteArray.empty, .slice none 0 0], .bool false]) ∧ Below w.heap.size w w' := by
  have q9 : (h.toList == hs.toList) = true := by rw [hh]; simp
  clear hh
  have H6 := hide h6
  have hB0 : Below w.heap.size w ((w.alloc (.cells #[.int .i64 op2, .int .i64 n2, .string s2, .slice a2 len2 cap2] 29)).alloc (.cells #[.int .i64 0, .int .i64 0, .string ByteArray.empty, .slice none 0 0] 29)) := bt (ab _) (ab _) (Nat.le_refl _)
  have HX : Hid (ZBox ((w.alloc (.cells #[.int .i64 op2, .int .i64 n2, .string s2, .slice a2 len2 cap2] 29)).alloc (.cells #[.int .i64 0, .int .i64 0, .string ByteArray.empty, .slice none 0 0] 29)) (w.heap.size + 1)) := by
    have := ZBox.new (w.alloc (.cells #[.int .i64 op2, .int .i64 n2, .string s2, .slice a2 len2 cap2] 29))
    rwa [heap_size_alloc] at this
  have HB0 := hide hB0
  have HG0 : Hid (w.heap.size + 2 = ((w.alloc (.cells #[.int .i64 op2, .int .i64 n2, .string s2, .slice a2 len2 cap2] 29)).alloc (.cells #[.int .i64 0, .int .i64 0, .string ByteArray.empty, .slice none 0 0] 29)).heap.size) := by show _ = _; simp
  clear hB0 h6
  go_enter Tryz.func51, Tryz.ntmps51
  go_wp2_with fail
  refine (unhide H6 _ (unhide HB0)).mono ?_
  rintro e w2 ⟨hb2, op, n, s, a, len, cap, rfl, hL2⟩
  have HB2 := hide (bt (unhide HB0) hb2 (Nat.le_refl _))
  have HX2 := hide ((unhide HX).below hb2)
  have HL2 := hide hL2
  obtain ⟨p0, p1, p2, p3, q0, q1, q2, q3⟩ := (unhide HX2).facts
  have hlX := lt_of_cell p0
  have nX := Nat.ne_of_lt hlX
  have mX := Ne.symm nX
  clear hb2 hL2
  go_wp2_with fail
  have HF := hide ((fill26 (unhide HX2) 0 0 ⟨#[]⟩ none 0 0).below (ab (.cells #[.string h, .int .i64 op, .int .i64 n, .string s, .slice a len cap, .int .i64 v] 57)))
  obtain ⟨f0, f1, f2, f3⟩ := (unhide HF).facts
  refine bodyPost_ret (v := .tuple #[.agg #[.int .i64 0, .int .i64 0, .string ByteArray.empty, .slice none 0 0], .bool false]) (by simp [results, Tryz.results51, go_sem, f0, f1, f2, f3]; try rfl) rfl ⟨rfl, ?_⟩
  exact (set4_below (unhide HB2) (by omega)).alloc (by simp only [set_size]; exact (unhide HB2).size) _

set_option maxRecDepth 100000 in
set_option maxHeartbeats 2000000 in
theorem goodS_yes (op2 n2 : Int) (s2 : ByteArray) (a2 : Option Addr) (len2 cap2 : Nat) (hs : ByteArray) (m : Int) (w : World) (h : ByteArray) (p : Tm) (v : Int) (hh : h = hs) (hm : ¬ v < m) (h6 : ∀ W, Below w.heap.size w W → Calls Tryz.prog 48 #[.agg #[.int .i64 op2, .int .i64 n2, .string s2, .slice a2 len2 cap2]] W fun e w' => Below W.heap.size W w' ∧ ∃ op n s a len cap, e = .returned (.tuple #[.agg #[.string h, .int .i64 op, .int .i64 n, .string s, .slice a len cap, .int .i64 v], .bool true]) ∧ Lies w' W.heap.size p (tmCells op n s a len cap)) :
    Calls Tryz.prog 51 #[.agg #[.int .i64 op2, .int .i64 n2, .string s2, .slice a2 len2 cap2], .string hs, .int .i64 m] w fun e w' => ∃ op n s a len cap, e = .returned (.tuple #[.agg #[.int .i64 op, .int .i64 n, .string s, .slice a len cap], .bool true]) ∧ Lies w' w.heap.size p (tmCells op n s a len cap) ∧ Below w.heap.size w w' := by
  have q9 : (h.toList == hs.toList) = true := by rw [hh]; simp
  clear hh
  have H6 := hide h6
  have hB0 : Below w.heap.size w ((w.alloc (.cells #[.int .i64 op2, .int .i64 n2, .string s2, .slice a2 len2 cap2] 29)).alloc (.cells #[.int .i64 0, .int .i64 0, .string ByteArray.empty, .slice none 0 0] 29)) := bt (ab _) (ab _) (Nat.le_refl _)
  have HX : Hid (ZBox ((w.alloc (.cells #[.int .i64 op2, .int .i64 n2, .string s2, .slice a2 len2 cap2] 29)).alloc (.cells #[.int .i64 0, .int .i64 0, .string ByteArray.empty, .slice none 0 0] 29)) (w.heap.size + 1)) := by
    have := ZBox.new (w.alloc (.cells #[.int .i64 op2, .int .i64 n2, .string s2, .slice a2 len2 cap2] 29))
    rwa [heap_size_alloc] at this
  have HB0 := hide hB0
  have HG0 : Hid (w.heap.size + 2 = ((w.alloc (.cells #[.int .i64 op2, .int .i64 n2, .string s2, .slice a2 len2 cap2] 29)).alloc (.cells #[.int .i64 0, .int .i64 0, .string ByteArray.empty, .slice none 0 0] 29)).heap.size) := by show _ = _; simp
  clear hB0 h6
  go_enter Tryz.func51, Tryz.ntmps51
  go_wp2_with fail
  refine (unhide H6 _ (unhide HB0)).mono ?_
  rintro e w2 ⟨hb2, op, n, s, a, len, cap, rfl, hL2⟩
  have HB2 := hide (bt (unhide HB0) hb2 (Nat.le_refl _))
  have HX2 := hide ((unhide HX).below hb2)
  have HL2 := hide hL2
  obtain ⟨p0, p1, p2, p3, q0, q1, q2, q3⟩ := (unhide HX2).facts
  have hlX := lt_of_cell p0
  have nX := Nat.ne_of_lt hlX
  have mX := Ne.symm nX
  clear hb2 hL2
  have hpV := hide (RowC.new 57 w2 h op n s a len cap v)
  go_wp2_with fail
  have HF := hide ((fill26 (unhide HX2) op n s a len cap).below (ab (.cells #[.string h, .int .i64 op, .int .i64 n, .string s, .slice a len cap, .int .i64 v] 57)))
  obtain ⟨f0, f1, f2, f3⟩ := (unhide HF).facts
  refine bodyPost_ret (v := .tuple #[.agg #[.int .i64 op, .int .i64 n, .string s, .slice a len cap], .bool true]) (by simp [results, Tryz.results51, go_sem, f0, f1, f2, f3]; try rfl) rfl ⟨op, n, s, a, len, cap, rfl, ?_, ?_⟩
  · exact (set4_lies (unhide HL2) (by have := unhide HG0; omega) w.heap.size (by have := unhide HG0; omega)).below (ab _)
  · exact (set4_below (unhide HB2) (by omega)).alloc (by simp only [set_size]; exact (unhide HB2).size) _

set_option maxRecDepth 100000 in
set_option maxHeartbeats 8000000 in
theorem lawCertGood (t : Tm) (hs : ByteArray) (P : Tm) (m : Int) (B : Bool) (x : Addr) (hPZ : P.size ≤ 200)
    (hS : ∀ (op n : Int) (s : ByteArray) (a : Option Addr) (len cap : Nat) (w : World), Lies w 0 t (tmCells op n s a len cap) → t.size ≤ 2097152 → Calls Tryz.prog 51 #[.agg #[.int .i64 op, .int .i64 n, .string s, .slice a len cap], .string hs, .int .i64 m] w fun e w' => ∃ opW nW sW aW lenW capW, e = .returned (.tuple #[.agg #[.int .i64 opW, .int .i64 nW, .string sW, .slice aW lenW capW], .bool B]) ∧ Lies w' 0 P (tmCells opW nW sW aW lenW capW) ∧ Below w.heap.size w w')
    (hI : ∀ (op n : Int) (s : ByteArray) (a : Option Addr) (len cap : Nat) (w : World), Lies w 0 t (tmCells op n s a len cap) → t.size ≤ 2097152 → ErrAt x w → Var12 w → Tab w → Calls Tryz.prog 35 #[.agg #[.int .i64 op, .int .i64 n, .string s, .slice a len cap], .string hs, .int .i64 m] w fun e w' => ∃ opG nG sG aG lenG capG fp, e = .returned (.tuple #[.agg #[.int .i64 opG, .int .i64 nG, .string sG, .slice aG lenG capG], .bool B]) ∧ Own w' P (tmCells opG nG sG aG lenG capG) fp ∧ (fp.Nodup ∧ ∀ y ∈ fp, w.heap.size ≤ y) ∧ Below w.heap.size w w')
    (op n : Int) (s : ByteArray) (a : Option Addr) (len cap : Nat) (w : World) (hl : Lies w 0 t (tmCells op n s a len cap)) (hv : Var12 w) (htab : Tab w) (herr : ErrAt x w) :
    Calls Tryz.prog 7 #[.agg #[.int .i64 op, .int .i64 n, .string s, .slice a len cap], .string hs, .int .i64 m] w fun e w' => e = .returned (.bool true) ∧ Below w.heap.size w w' := by
  by_cases hH : (1048576 : Int) < (hs.size : Int)
  · go_enter Tryz.func7, Tryz.ntmps7
    go_wp2_with fail
    go_ret
    exact ⟨rfl, ab _⟩
  have HER := hide herr
  have HTB := hide htab
  have HVR := hide hv
  clear herr htab hv
  have h11 := hide (sz_calls t)
  have h8 := hide eq_calls
  have hZ := t.size_le
  have hB0 : Below w.heap.size w (w.alloc (.cells #[.int .i64 op, .int .i64 n, .string s, .slice a len cap] 24)) := ab _
  have HL := hide (hl.below hB0)
  have HB0 := hide hB0
  have HA := hide (RowT.new 24 w op n s a len cap)
  clear hl hB0
  by_cases hw : (t.wt : Int) ≤ 1048576
  · have hsz : t.size ≤ 1048577 := by omega
    have hsz2 : t.size ≤ 2097152 := by omega
    have h13 := hide (fun a cap v hv => tp_calls t op n s a len cap v hv hsz2)
    have h15 := hide (fun a cap v hv => hS op n s a len cap v hv hsz2)
    have h16 := hide (fun a cap v hv he hr ht => hI op n s a len cap v hv hsz2 he hr ht)
    have h9 := hide (fun op1 n1 s1 a1 len1 cap1 op2 n2 s2 a2 len2 cap2 W hv hv' => eq_calls P op1 n1 s1 a1 len1 cap1 op2 n2 s2 a2 len2 cap2 W hv hv')
    clear hS hI
    have HKP : Hid (Tm.sizes P.kids ≤ P.size) := by have := size_kids P; show _ ≤ _; omega
    have HTZ : Hid (1 + 3 * P.size ≤ 1099511627776) := by show _ ≤ _; omega
    have HXZ : Hid (1 + 3 * t.size ≤ 1099511627776) := by show _ ≤ _; omega
    have h9x : Hid (∀ (a : Option Addr) (w : World) (fp : List Nat), Own w t (tmCells op n s a len len) fp → fp.Nodup →
        Calls Tryz.prog 46 #[.agg #[.int .i64 op, .int .i64 n, .string s, .slice a len len], .int .i64 1] w fun e w' => e = .returned (.int .i64 ((1 + 3 * Tm.sizes t.kids : Nat) : Int)) ∧ Own w' (t.marked 1) (tmCells op n s a len len) fp ∧ Only fp w w') :=
      fun a w fp ho hnd => mark_any t op n s a len len 1 w fp ho hnd (Nat.le_refl _) (unhide HXZ)
    have h9g : Hid (∀ (op n : Int) (s : ByteArray) (a : Option Addr) (len cap : Nat) (w : World) (fp : List Nat), Own w P (tmCells op n s a len cap) fp → fp.Nodup →
        Calls Tryz.prog 46 #[.agg #[.int .i64 op, .int .i64 n, .string s, .slice a len cap], .int .i64 1] w fun e w' => e = .returned (.int .i64 ((1 + 3 * Tm.sizes P.kids : Nat) : Int)) ∧ Own w' (P.marked 1) (tmCells op n s a len cap) fp ∧ Only fp w w') :=
      fun op n s a len cap w fp ho hnd => mark_any P op n s a len cap 1 w fp ho hnd (Nat.le_refl _) (unhide HTZ)
    have h10 : Hid (∀ (op n : Int) (s : ByteArray) (a : Option Addr) (len cap : Nat) (w : World), Lies w 0 (P.marked 1) (tmCells op n s a len cap) →
        Calls Tryz.prog 47 #[.agg #[.int .i64 op, .int .i64 n, .string s, .slice a len cap], .int .i64 1] w fun e w' => e = .returned (.int .i64 ((1 + 3 * Tm.sizes P.kids : Nat) : Int)) ∧ Below w.heap.size w w') :=
      fun op n s a len cap w hl => held_markedC P op n s a len cap 1 w hl (Nat.le_refl _) (unhide HTZ)
    have hmb : (1 + 3 * Tm.sizes P.kids : Nat) ≤ 4194304 := by have := unhide HKP; omega
    have hkb : (1 + 3 * Tm.sizes t.kids : Nat) ≤ 4194304 := by have := size_kids t; omega
    have hBB : (B != B) = false := by simp
    clear hZ hsz hsz2 HKP hPZ
    generalize 1 + 3 * Tm.sizes P.kids = mG at *
    generalize 1 + 3 * Tm.sizes t.kids = mX at *
    obtain ⟨left, hgl⟩ : ∃ left : Int, (1048576 : Int) - t.wt = left := ⟨_, rfl⟩
    have hln : 0 ≤ left := by omega
    go_enter Tryz.func7, Tryz.ntmps7
    go_wp2_with fail
    refine (unhide h11 op n s a len cap _ _ (unhide HL) (by omega) (by omega)).mono ?_
    rintro e w1 ⟨rfl, hb1⟩
    rw [szv_yes hw, hgl]
    have HA1 := hide ((unhide HA).below hb1)
    have HL1 := hide ((unhide HL).below hb1)
    have HB1 := hide (bt (unhide HB0) hb1 (Nat.le_refl _))
    clear hb1 HL HB0 HA hgl hw h11
    obtain ⟨c0, c1, c2, c3⟩ := (unhide HA1).facts
    go_wp2_with fail
    refine (unhide h13 a cap _ (unhide HL1)).mono ?_
    rintro e w2 ⟨a2, f2, rfl, hO2, _, hb2⟩
    have HA2 := hide ((unhide HA1).below hb2)
    have HL2 := hide ((unhide HL1).below hb2)
    have HB2 := hide (bt (unhide HB1) hb2 (Nat.le_refl _))
    have HO2 := hide hO2.lies0
    clear hb2 hO2 HA1 HL1 HB1 c0 c1 c2 c3
    go_wp2_with fail
    refine (unhide h15 a2 len _ (unhide HO2)).mono ?_
    rintro e w3 ⟨opW, nW, sW, aW, lenW, capW, rfl, hL3, hb3⟩
    have HA3 := hide ((unhide HA2).below hb3)
    have HL3 := hide ((unhide HL2).below hb3)
    have HB3 := hide (bt (unhide HB2) hb3 (Nat.le_refl _))
    have HW3 := hide hL3
    clear hb3 hL3 HA2 HL2 HB2 HO2
    have HVB := hide (bt (unhide HB3) (ab (.cells #[.int .i64 opW, .int .i64 nW, .string sW, .slice aW lenW capW] 29)) (Nat.le_refl _))
    have HVA := hide ((unhide HA3).below (ab (.cells #[.int .i64 opW, .int .i64 nW, .string sW, .slice aW lenW capW] 29)))
    have HVW := hide (RowT.new 29 w3 opW nW sW aW lenW capW)
    have HVLA := hide ((unhide HL3).below (ab (.cells #[.int .i64 opW, .int .i64 nW, .string sW, .slice aW lenW capW] 29)))
    have HVLW := hide ((unhide HW3).below (ab (.cells #[.int .i64 opW, .int .i64 nW, .string sW, .slice aW lenW capW] 29)))
    obtain ⟨c0, c1, c2, c3⟩ := (unhide HVA).facts
    clear HA3 HL3 HB3 HW3
    go_wp2_with fail
    generalize hV1 : w3.alloc (.cells #[.int .i64 opW, .int .i64 nW, .string sW, .slice aW lenW capW] 29) = V1 at *
    generalize w3.heap.size = bW at *
    clear hV1
    refine (unhide h13 a cap _ (unhide HVLA)).mono ?_
    rintro e w4 ⟨a4, f4, rfl, hO4, ⟨hnd4, hge4⟩, hb4⟩
    have HND4 := hide hnd4
    have HGE4 := hide hge4
    have HLT4 := hide (Own.lt _ _ _ hO4)
    have hb4' := bt hb4 (ab (.cells #[.int .i64 op, .int .i64 n, .string s, .slice a4 len len] 29)) (Nat.le_refl _)
    have HV2 := hide hb4'
    have HXR := hide (RowT.new 29 w4 op n s a4 len len)
    have HXO := hide (hO4.below (ab (.cells #[.int .i64 op, .int .i64 n, .string s, .slice a4 len len] 29)))
    clear hO4 hnd4 hge4 hb4 hb4' c0 c1 c2 c3
    obtain ⟨c0, c1, c2, c3⟩ := (unhide HXR).facts
    go_wp2_with fail
    generalize hV2 : w4.alloc (.cells #[.int .i64 op, .int .i64 n, .string s, .slice a4 len len] 29) = V2 at *
    have HGX : Hid (w4.heap.size + 1 = V2.heap.size) := by show _ = _; rw [← hV2, heap_size_alloc]
    generalize w4.heap.size = bX at *
    clear hV2
    have hVV := bt (unhide HVB) (unhide HV2) (Nat.le_refl _)
    refine (unhide h16 a4 len _ (unhide HXO).lies0 ((unhide HER).on hVV) ((unhide HVR).on hVV) ((unhide HTB).on hVV)).mono ?_
    rintro e w5 ⟨opG, nG, sG, aG, lenG, capG, f5, rfl, hO5, ⟨hnd5, hge5⟩, hb5⟩
    have HND5 := hide hnd5
    have HGE5 := hide hge5
    have HLT5 := hide (Own.lt _ _ _ hO5)
    have HBG := hide hb5.size
    have hb5' := bt hb5 (ab (.cells #[.int .i64 opG, .int .i64 nG, .string sG, .slice aG lenG capG] 29)) (Nat.le_refl _)
    have HV3 := hide hb5'
    have HV13 := hide (bt (unhide HV2) hb5' (Nat.le_refl _))
    have HGR := hide (RowT.new 29 w5 opG nG sG aG lenG capG)
    have HGO := hide (hO5.below (ab (.cells #[.int .i64 opG, .int .i64 nG, .string sG, .slice aG lenG capG] 29)))
    clear hVV hO5 hnd5 hge5 hb5 hb5' c0 c1 c2 c3
    obtain ⟨c0, c1, c2, c3⟩ := (unhide HGR).facts
    obtain ⟨d0, d1, d2, d3⟩ := ((unhide HVW).below (unhide HV13)).facts
    go_wp2_with fail
    generalize hV3 : w5.alloc (.cells #[.int .i64 opG, .int .i64 nG, .string sG, .slice aG lenG capG] 29) = V3 at *
    have HGG : Hid (w5.heap.size + 1 = V3.heap.size) := by show _ = _; rw [← hV3, heap_size_alloc]
    generalize w5.heap.size = bG at *
    clear hV3
    refine (unhide h9 opG nG sG aG lenG capG opW nW sW aW lenW capW _ (unhide HGO).lies0 ((unhide HVLW).below (unhide HV13))).mono ?_
    rintro e w6 ⟨rfl, hb6⟩
    have HV16 := hide (bt (unhide HV13) hb6 (Nat.le_refl _))
    have HV26 := hide (bt (unhide HV3) hb6 (Nat.le_refl _))
    have HGR6 := hide ((unhide HGR).below hb6)
    have HGO6 := hide ((unhide HGO).below hb6)
    clear hb6 c0 c1 c2 c3 d0 d1 d2 d3 HV13 HV3 HGR HGO
    obtain ⟨c0, c1, c2, c3⟩ := ((unhide HXR).below (unhide HV26)).facts
    obtain ⟨d0, d1, d2, d3⟩ := ((unhide HVA).below (unhide HV16)).facts
    have HLA6 := hide ((unhide HVLA).below (unhide HV16).drew)
    have HXO6 := hide ((unhide HXO).below (unhide HV26).drew)
    go_wp2_with fail
    go_region_held3 (fun x => x.cell? ⟨bX, 0, none⟩ = some (.int .i64 op) ∧ x.cell? ⟨bX, 1, none⟩ = some (.int .i64 n) ∧ x.cell? ⟨bX, 2, none⟩ = some (.string s) ∧ x.cell? ⟨bX, 3, none⟩ = some (.slice a4 len len) ∧
        x.cell? ⟨w.heap.size, 0, none⟩ = some (.int .i64 op) ∧ x.cell? ⟨w.heap.size, 1, none⟩ = some (.int .i64 n) ∧ x.cell? ⟨w.heap.size, 2, none⟩ = some (.string s) ∧ x.cell? ⟨w.heap.size, 3, none⟩ = some (.slice a len cap)) (go_keep)
      (first
        | (go_at_call 11
           refine (unhide h13 a cap _ (unhide HLA6)).mono ?_
           rintro e w7 ⟨a7, f7, rfl, hO7, _, hb7⟩
           have hb7' := hide (below_drew' hb7)
           have HO7 := hide hO7.lies0
           have HX7 := hide ((unhide HXO6).below hb7).lies0
           have f0 := kpc (unhide hb7') c0
           have f1 := kpc (unhide hb7') c1
           have f2 := kpc (unhide hb7') c2
           have f3 := kpc (unhide hb7') c3
           have e0 := kpc (unhide hb7') d0
           have e1 := kpc (unhide hb7') d1
           have e2 := kpc (unhide hb7') d2
           have e3 := kpc (unhide hb7') d3)
        | (go_at_call 13
           refine (unhide h8 t op n s a4 len len op n s a7 len len _ (unhide HX7) (unhide HO7)).mono ?_
           rintro e w8 ⟨rfl, hb8⟩
           have g0 := kpc hb8 f0
           have g1 := kpc hb8 f1
           have g2 := kpc hb8 f2
           have g3 := kpc hb8 f3
           have i0 := kpc hb8 e0
           have i1 := kpc hb8 e1
           have i2 := kpc hb8 e2
           have i3 := kpc hb8 e3
           have hb8' := hide hb8))
    have HV18 := hide (bt (bt (unhide HV16) (unhide hb7') (Nat.le_refl _)) (unhide hb8') (Nat.le_refl _))
    have HGR8 := hide (((unhide HGR6).below (unhide hb7')).below (unhide hb8'))
    have HGO8 := hide (((unhide HGO6).below (unhide hb7')).below (unhide hb8'))
    have HXO8 := hide (((unhide HXO).below (unhide HV26)).below (unhide hb7') |>.below (unhide hb8'))
    clear f0 f1 f2 f3 e0 e1 e2 e3 c0 c1 c2 c3 d0 d1 d2 d3 HV16 HV26 HGR6 HGO6 HXO6 HLA6 hb7' hb8' HO7 HX7
    go_wp2_with fail
    refine (unhide h9x a4 _ _ (unhide HXO8) (unhide HND4)).mono ?_
    rintro e w9 ⟨rfl, _, o9⟩
    have HV19 := hide ((unhide HV18).trans (o9.below (unhide HV18).size (unhide HGE4)))
    have HGR9 := hide ((unhide HGR8).only o9 (fun hx => by have := unhide HLT4 _ hx; have := unhide HBG; have := unhide HGX; omega))
    have HGO9 := hide ((unhide HGO8).only o9 (fun x hx hx4 => by have := unhide HLT4 _ hx4; have := unhide HGE5 _ hx; have := unhide HGX; omega))
    clear o9 HV18 HGR8 HGO8 HXO8 g0 g1 g2 g3 i0 i1 i2 i3
    obtain ⟨c0, c1, c2, c3⟩ := (unhide HGR9).facts
    obtain ⟨d0, d1, d2, d3⟩ := ((unhide HVW).below (unhide HV19)).facts
    go_wp2_with fail
    refine (unhide h9 opG nG sG aG lenG capG opW nW sW aW lenW capW _ (unhide HGO9).lies0 ((unhide HVLW).below (unhide HV19))).mono ?_
    rintro e w10 ⟨rfl, hb10⟩
    have HV20 := hide (bt (unhide HV19) hb10 (Nat.le_refl _))
    have HGR10 := hide ((unhide HGR9).below hb10)
    have HGO10 := hide ((unhide HGO9).below hb10)
    clear hb10 HV19 HGR9 HGO9 c0 c1 c2 c3 d0 d1 d2 d3
    obtain ⟨c0, c1, c2, c3⟩ := (unhide HGR10).facts
    go_wp2_with fail
    refine (unhide h9g opG nG sG aG lenG capG _ _ (unhide HGO10) (unhide HND5)).mono ?_
    rintro e w11 ⟨rfl, k11, o11⟩
    have HV21 := hide ((unhide HV20).trans (o11.below (unhide HV20).size (fun x hx => by have := unhide HGE5 _ hx; have := (unhide HV2).size; omega)))
    have HGR11 := hide ((unhide HGR10).only o11 (fun hx => by have := unhide HLT5 _ hx; omega))
    have HGO11 := hide k11.lies0
    clear o11 k11 HV20 HGR10 HGO10 c0 c1 c2 c3
    obtain ⟨c0, c1, c2, c3⟩ := (unhide HGR11).facts
    go_wp2_with fail
    refine (unhide h10 opG nG sG aG lenG capG _ (unhide HGO11)).mono ?_
    rintro e w12 ⟨rfl, hb12⟩
    have HV22 := hide (bt (unhide HV21) hb12 (Nat.le_refl _))
    have HGR12 := hide ((unhide HGR11).below hb12)
    have HGO12 := hide ((unhide HGO11).below hb12)
    clear hb12 HV21 HGR11 HGO11 c0 c1 c2 c3
    obtain ⟨d0, d1, d2, d3⟩ := ((unhide HVA).below (unhide HV22)).facts
    go_wp2_with fail
    refine (unhide h13 a cap _ ((unhide HVLA).below (unhide HV22))).mono ?_
    rintro e w13 ⟨a13, f13, rfl, hO13, _, hb13⟩
    have HV23 := hide (bt (unhide HV22) hb13 (Nat.le_refl _))
    have HGR13 := hide ((unhide HGR12).below hb13)
    have HGO13 := hide ((unhide HGO12).below hb13)
    have HO13 := hide hO13.lies0
    clear hb13 hO13 HV22 HGR12 HGO12 d0 d1 d2 d3
    have hVV := bt (unhide HVB) (unhide HV23) (Nat.le_refl _)
    have HE13 := hide ((unhide HER).on hVV)
    have HR13 := hide ((unhide HVR).on hVV)
    have HT13 := hide ((unhide HTB).on hVV)
    clear hVV
    go_wp2_with fail
    refine (unhide h16 a13 len _ (unhide HO13) (unhide HE13) (unhide HR13) (unhide HT13)).mono ?_
    rintro e w14 ⟨opH, nH, sH, aH, lenH, capH, f14, rfl, hO14, _, hb14⟩
    have hb14' := bt hb14 (ab (.cells #[.int .i64 opH, .int .i64 nH, .string sH, .slice aH lenH capH] 29)) (Nat.le_refl _)
    have HV24 := hide (bt (unhide HV23) hb14' (Nat.le_refl _))
    have HGR14 := hide ((unhide HGR13).below hb14')
    have HGO14 := hide ((unhide HGO13).below hb14')
    have HHO := hide (hO14.below (ab (.cells #[.int .i64 opH, .int .i64 nH, .string sH, .slice aH lenH capH] 29))).lies0
    clear hb14 hb14' hO14 HV23 HGR13 HGO13 HO13
    obtain ⟨c0, c1, c2, c3⟩ := (RowT.new 29 w14 opH nH sH aH lenH capH).facts
    obtain ⟨d0, d1, d2, d3⟩ := ((unhide HVW).below (unhide HV24)).facts
    go_wp2_with fail
    refine (unhide h9 opH nH sH aH lenH capH opW nW sW aW lenW capW _ (unhide HHO) ((unhide HVLW).below (unhide HV24))).mono ?_
    rintro e w15 ⟨rfl, hb15⟩
    have HV25 := hide (bt (unhide HV24) hb15 (Nat.le_refl _))
    have HGR15 := hide ((unhide HGR14).below hb15)
    have HGO15 := hide ((unhide HGO14).below hb15)
    clear hb15 HV24 HGR14 HGO14 HHO c0 c1 c2 c3 d0 d1 d2 d3
    obtain ⟨c0, c1, c2, c3⟩ := (unhide HGR15).facts
    go_wp2_with fail
    refine (unhide h10 opG nG sG aG lenG capG _ (unhide HGO15)).mono ?_
    rintro e w16 ⟨rfl, hb16⟩
    have HV26 := hide (bt (unhide HV25) hb16 (Nat.le_refl _))
    clear hb16 c0 c1 c2 c3
    go_wp2_with fail
    go_ret
    exact ⟨rfl, (unhide HVB).trans ((unhide HV26).mono (unhide HVB).size)⟩
  · go_enter Tryz.func7, Tryz.ntmps7
    go_wp2_with fail
    refine (unhide h11 op n s a len cap _ _ (unhide HL) (by omega) (by omega)).mono ?_
    rintro e w2 ⟨rfl, hb2⟩
    rw [szv_no (by omega)]
    go_wp2_with fail
    go_ret
    exact ⟨rfl, bt (unhide HB0) hb2 (Nat.le_refl _)⟩

/-- The law at whatever term, text and number. -/
theorem lawCertGood_all (t : Tm) (hs : ByteArray) (m : Int) (op n : Int) (s : ByteArray) (a : Option Addr) (len cap : Nat) (w : World) (hl : Lies w 0 t (tmCells op n s a len cap)) (hv : Var12 w) (htab : Tab w) (herr : Err w) :
    Calls Tryz.prog 7 #[.agg #[.int .i64 op, .int .i64 n, .string s, .slice a len cap], .string hs, .int .i64 m] w fun e w' => e = .returned (.bool true) ∧ Below w.heap.size w w' := by
  obtain ⟨x, hx⟩ := herr
  have no : (∀ (op n : Int) (s : ByteArray) (a : Option Addr) (len cap : Nat) (w : World), Lies w 0 t (tmCells op n s a len cap) → t.size ≤ 2097152 → Calls Tryz.prog 51 #[.agg #[.int .i64 op, .int .i64 n, .string s, .slice a len cap], .string hs, .int .i64 m] w fun e w' => e = .returned (.tuple #[.agg #[.int .i64 0, .int .i64 0, .string ByteArray.empty, .slice none 0 0], .bool false]) ∧ Below w.heap.size w w') →
      (∀ (op n : Int) (s : ByteArray) (a : Option Addr) (len cap : Nat) (w : World), Lies w 0 t (tmCells op n s a len cap) → t.size ≤ 2097152 → ErrAt x w → Var12 w → Tab w → Calls Tryz.prog 97 #[.agg #[.int .i64 op, .int .i64 n, .string s, .slice a len cap], .string hs, .int .i64 m] w fun e w' => e = .returned (.tuple #[.agg #[.int .i64 0, .int .i64 0, .string ByteArray.empty, .slice none 0 0], .iface 202 (.pointer (some x))]) ∧ Below w.heap.size w w') →
      Calls Tryz.prog 7 #[.agg #[.int .i64 op, .int .i64 n, .string s, .slice a len cap], .string hs, .int .i64 m] w fun e w' => e = .returned (.bool true) ∧ Below w.heap.size w w' := fun h14 h30 => by
    refine lawCertGood t hs (.node 0 0 ByteArray.empty []) m false x (by simp [Tm.size, Tm.sizes]) (fun op n s a len cap w hl hz => ?_) (fun op n s a len cap w hl hz he hr ht => ?_) op n s a len cap w hl hv htab hx
    · refine (h14 op n s a len cap w hl hz).mono ?_
      rintro e w' ⟨he, hb⟩
      exact ⟨_, _, _, _, _, _, he, zero_lies _ _, hb⟩
    · refine (goodI_no op n s a len cap hs m x w he fun W hW => h30 op n s a len cap W (hl.below hW) hz (he.on hW) (hr.on hW) (ht.on hW)).mono ?_
      rintro e w' ⟨he', hb⟩
      exact ⟨_, _, _, _, _, _, [], he', zero_own _, ⟨by simp, by simp⟩, hb⟩
  by_cases hc : ∃ h p v, CP t h p v
  · obtain ⟨h, p, v, c⟩ := hc
    have hp := okT_200 (certB_ok c.2.1).2.2.1
    have h6 : ∀ (op n : Int) (s : ByteArray) (a : Option Addr) (len cap : Nat) (w : World), Lies w 0 t (tmCells op n s a len cap) → t.size ≤ 2097152 → ∀ W, Below w.heap.size w W → Calls Tryz.prog 48 #[.agg #[.int .i64 op, .int .i64 n, .string s, .slice a len cap]] W fun e w' => Below W.heap.size W w' ∧ ∃ op n s a len cap, e = .returned (.tuple #[.agg #[.string h, .int .i64 op, .int .i64 n, .string s, .slice a len cap, .int .i64 v], .bool true]) ∧ Lies w' W.heap.size p (tmCells op n s a len cap) := fun op n s a len cap w hl hz W hW => by
      refine (ofS6 t op n s a len cap W (hl.below hW) hz).mono ?_
      rintro e w' ⟨hb, ⟨h1, p1, v1, o1, n1, s1, a1, l1, c1, cc, he, hL⟩ | ⟨hno, _⟩⟩
      · obtain ⟨rfl, rfl, rfl⟩ := c.one cc
        exact ⟨hb, o1, n1, s1, a1, l1, c1, he, hL⟩
      · exact absurd ⟨h, p, v, c⟩ hno
    have h26 : ∀ (op n : Int) (s : ByteArray) (a : Option Addr) (len cap : Nat) (w : World), Lies w 0 t (tmCells op n s a len cap) → t.size ≤ 2097152 → ErrAt x w → Var12 w → Tab w → ∀ W, Below w.heap.size w W → Calls Tryz.prog 108 #[.agg #[.int .i64 op, .int .i64 n, .string s, .slice a len cap]] W fun e w' => Below W.heap.size W w' ∧ ∃ op n s a len cap, e = .returned (.tuple #[.agg #[.string h, .int .i64 op, .int .i64 n, .string s, .slice a len cap, .int .i64 v], .nilIface]) ∧ Lies w 0 p (tmCells op n s a len cap) := fun op n s a len cap w hl hz he hr ht W hW => by
      refine (read26 t op n s a len cap x w W hl hW hz (he.on hW) (hr.on hW) (ht.on hW)).mono ?_
      rintro e w' ⟨hb, ⟨h1, p1, v1, o1, n1, s1, a1, l1, c1, cc, he', hL⟩ | ⟨hno, _⟩⟩
      · obtain ⟨rfl, rfl, rfl⟩ := c.one cc
        exact ⟨hb, o1, n1, s1, a1, l1, c1, he', hL⟩
      · exact absurd ⟨h, p, v, c⟩ hno
    by_cases hh : h = hs
    · by_cases hm : v < m
      · exact no (fun op n s a len cap w hl hz => goodS_no3 op n s a len cap hs m w h p v hh hm (h6 op n s a len cap w hl hz))
          (fun op n s a len cap w hl hz he hr ht => goodP_no3 op n s a len cap hs m x w he h p v hh hm (h26 op n s a len cap w hl hz he hr ht))
      · refine lawCertGood t hs p m true x hp (fun op n s a len cap w hl hz => ?_) (fun op n s a len cap w hl hz he hr ht => ?_) op n s a len cap w hl hv htab hx
        · refine (goodS_yes op n s a len cap hs m w h p v hh hm (h6 op n s a len cap w hl hz)).mono ?_
          rintro e w' ⟨o1, n1, s1, a1, l1, c1, he, hL, hb⟩
          exact ⟨o1, n1, s1, a1, l1, c1, he, hL.any (Nat.zero_le _), hb⟩
        · exact goodI_yes op n s a len cap hs m x w he p (by have := okT_small (certB_ok c.2.1).2.2.1; omega) fun W hW => goodP_yes op n s a len cap hs m x W (he.on hW) h p v hh hm (h26 op n s a len cap W (hl.below hW) hz (he.on hW) (hr.on hW) (ht.on hW))
    · exact no (fun op n s a len cap w hl hz => goodS_no2 op n s a len cap hs m w h p v hh (h6 op n s a len cap w hl hz))
        (fun op n s a len cap w hl hz he hr ht => goodP_no2 op n s a len cap hs m x w he h p v hh (h26 op n s a len cap w hl hz he hr ht))
  · refine no (fun op n s a len cap w hl hz => ?_) (fun op n s a len cap w hl hz he hr ht => ?_)
    · refine goodS_no1 op n s a len cap hs m w fun W hW => ?_
      refine (ofS6 t op n s a len cap W (hl.below hW) hz).mono ?_
      rintro e w' ⟨hb, ⟨h1, p1, v1, o1, n1, s1, a1, l1, c1, cc, he, hL⟩ | ⟨_, he⟩⟩
      · exact absurd ⟨h1, p1, v1, cc⟩ hc
      · exact ⟨hb, he⟩
    · refine goodP_no1 op n s a len cap hs m x w fun W hW => ?_
      refine (read26 t op n s a len cap x w W hl hW hz (he.on hW) (hr.on hW) (ht.on hW)).mono ?_
      rintro e w' ⟨hb, ⟨h1, p1, v1, o1, n1, s1, a1, l1, c1, cc, he', hL⟩ | ⟨_, he'⟩⟩
      · exact absurd ⟨h1, p1, v1, cc⟩ hc
      · exact ⟨hb, he'⟩

set_option maxRecDepth 100000 in
set_option maxHeartbeats 2000000 in
theorem certOfI_yes (op2 n2 : Int) (s2 : ByteArray) (a2 : Option Addr) (len2 cap2 : Nat) (x : Addr) (w : World) (h : ByteArray) (p : Tm) (v : Int) (hp : p.size + p.wt ≤ 4194304) (hh : h.size ≤ 4194304) (he : ErrAt x w)
    (hr : ∀ W, Below w.heap.size w W → Calls Tryz.prog 108 #[.agg #[.int .i64 op2, .int .i64 n2, .string s2, .slice a2 len2 cap2]] W fun e w' => Below W.heap.size W w' ∧ ∃ op n s a len cap, e = .returned (.tuple #[.agg #[.string h, .int .i64 op, .int .i64 n, .string s, .slice a len cap, .int .i64 v], .nilIface]) ∧ Lies w' 0 p (tmCells op n s a len cap)) :
    Calls Tryz.prog 49 #[.agg #[.int .i64 op2, .int .i64 n2, .string s2, .slice a2 len2 cap2]] w fun e w' => ∃ op n s a len cap fp, e = .returned (.tuple #[.agg #[.string h, .int .i64 op, .int .i64 n, .string s, .slice a len cap, .int .i64 v], .bool true]) ∧ Own w' p (tmCells op n s a len cap) fp ∧ (fp.Nodup ∧ ∀ y ∈ fp, w.heap.size ≤ y) ∧ Below w.heap.size w w' := by
  have h26 := hide hr
  have HCL := hide (fun V => cloneS h V hh)
  clear hr
  have hB0 : Below w.heap.size w ((w.alloc (.cells #[.int .i64 op2, .int .i64 n2, .string s2, .slice a2 len2 cap2] 29)).alloc (.cells #[.string ⟨#[]⟩, .int .i64 0, .int .i64 0, .string ⟨#[]⟩, .slice none 0 0, .int .i64 0] 57)) := bt (ab _) (ab _) (Nat.le_refl _)
  have HX : Hid (RowC 57 ((w.alloc (.cells #[.int .i64 op2, .int .i64 n2, .string s2, .slice a2 len2 cap2] 29)).alloc (.cells #[.string ⟨#[]⟩, .int .i64 0, .int .i64 0, .string ⟨#[]⟩, .slice none 0 0, .int .i64 0] 57)) (w.heap.size + 1) ⟨#[]⟩ 0 0 ⟨#[]⟩ none 0 0 0) := by
    have := RowC.new 57 (w.alloc (.cells #[.int .i64 op2, .int .i64 n2, .string s2, .slice a2 len2 cap2] 29)) ⟨#[]⟩ 0 0 ⟨#[]⟩ none 0 0 0
    rwa [heap_size_alloc] at this
  have HER := hide (he.on hB0)
  have HB0 := hide hB0
  clear hB0 he
  go_enter Tryz.func49, Tryz.ntmps49
  go_wp2_with fail
  refine (unhide h26 _ (unhide HB0)).mono ?_
  rintro e w2 ⟨hb2, op, n, s, a, len, cap, rfl, hL2⟩
  have hb2' := bt hb2 (ab (.cells #[.string h, .int .i64 op, .int .i64 n, .string s, .slice a len cap, .int .i64 v] 57)) (Nat.le_refl _)
  have HB2 := hide (bt (unhide HB0) hb2' (Nat.le_refl _))
  have HX2 := hide ((unhide HX).below hb2')
  have HER2 := hide ((unhide HER).on hb2')
  have HL2 := hide (hL2.below (ab (.cells #[.string h, .int .i64 op, .int .i64 n, .string s, .slice a len cap, .int .i64 v] 57)))
  have HRC := hide (RowC.new 57 w2 h op n s a len cap v)
  have HXL : Hid (w.heap.size + 1 < w2.heap.size) := ((unhide HX).below hb2).lt
  have h27 := hide (fun W hl he => answer_yes p op n s a len cap x W hl hp he)
  clear hb2 hb2' hL2 HB0 HX HER h26
  go_wp2_with fail
  generalize hV2 : w2.alloc (.cells #[.string h, .int .i64 op, .int .i64 n, .string s, .slice a len cap, .int .i64 v] 57) = V2 at *
  have HG2 : Hid (w2.heap.size + 1 = V2.heap.size) := by show _ = _; rw [← hV2, heap_size_alloc]
  generalize w2.heap.size = bC at *
  clear hV2
  refine (unhide h27 _ (unhide HL2) (unhide HER2)).mono ?_
  rintro e w3 ⟨a3, cap3, fp, rfl, hO3, ⟨hnd, hge⟩, hb3⟩
  have HB3 := hide (bt (unhide HB2) hb3 (Nat.le_refl _))
  have HO := hide hO3
  have HND := hide hnd
  have HGE := hide hge
  have HLT := hide (Own.lt _ _ _ hO3)
  have hbP := ab (w := w3) (.cells #[.int .i64 op, .int .i64 n, .string s, .slice a3 len cap3] 29)
  have HB4 := hide (bt (unhide HB3) hbP (Nat.le_refl _))
  have HX4 := hide (((unhide HX2).below hb3).below hbP)
  have HC4 := hide (((unhide HRC).below hb3).below hbP)
  have HP4 := hide (RowT.new 29 w3 op n s a3 len cap3)
  have HO4 := hide ((unhide HO).below hbP)
  have HPL : Hid (∀ y ∈ fp, y < w3.heap.size) := unhide HLT
  have HGP : Hid (V2.heap.size ≤ w3.heap.size) := hb3.size
  obtain ⟨c0, c1, c2, c3, c4, c5⟩ := (unhide HC4).facts
  obtain ⟨k0, k1, k2, k3⟩ := (unhide HP4).facts
  clear hb3 hbP hO3 hnd hge
  go_wp2_with fail
  generalize hV3 : w3.alloc (.cells #[.int .i64 op, .int .i64 n, .string s, .slice a3 len cap3] 29) = W3 at *
  clear hV3
  generalize w3.heap.size = bP at *
  have hne : (w.heap.size + 1 = bC) = False := eq_false (by have := unhide HXL; omega)
  have hne' : (bC = w.heap.size + 1) = False := eq_false (by have := unhide HXL; omega)
  have hnp : (w.heap.size + 1 = bP) = False := eq_false (by have := unhide HXL; have := unhide HG2; have := unhide HGP; omega)
  have hnp' : (bP = w.heap.size + 1) = False := eq_false (by have := unhide HXL; have := unhide HG2; have := unhide HGP; omega)
  go_region_held3 (fun x => x.cell? ⟨bC, 0, none⟩ = some (.string h) ∧ x.cell? ⟨bC, 5, none⟩ = some (.int .i64 v) ∧ x.cell? ⟨bP, 0, none⟩ = some (.int .i64 op) ∧ x.cell? ⟨bP, 1, none⟩ = some (.int .i64 n) ∧ x.cell? ⟨bP, 2, none⟩ = some (.string s) ∧ x.cell? ⟨bP, 3, none⟩ = some (.slice a3 len cap3)) (go_keep)
    (first | (go_at_call 109
              refine (unhide HCL _).mono ?_
              rintro e w4 ⟨rfl, hb4⟩
              have hb4' := hide (below_drew' hb4)
              have f0 := kpc (unhide hb4') c0
              have f5 := kpc (unhide hb4') c5
              have g0 := kpc (unhide hb4') k0
              have g1 := kpc (unhide hb4') k1
              have g2 := kpc (unhide hb4') k2
              have g3 := kpc (unhide hb4') k3
              obtain ⟨p0, p1, p2, p3, p4, p5⟩ := ((unhide HX4).below (unhide hb4')).facts
              obtain ⟨q0, q1, q2, q3, q4, q5⟩ := ((unhide HX4).below (unhide hb4')).frozen))
  have HB5 := hide (bt (unhide HB4) (unhide hb4') (Nat.le_refl _))
  have HO5 := hide ((unhide HO4).below (unhide hb4'))
  clear c0 c1 c2 c3 c4 c5 k0 k1 k2 k3 f0 f5 g0 g1 g2 g3 hb4 hb4'
  go_wp2_with fail
  refine bodyPost_ret (v := .tuple #[.agg #[.string h, .int .i64 op, .int .i64 n, .string s, .slice a3 len cap3, .int .i64 v], .bool true]) (by simp [results, Tryz.results49, go_sem, p0, p1, p2, p3, p4, p5]; try rfl) rfl ⟨op, n, s, a3, len, cap3, fp, rfl, ?_, ⟨unhide HND, fun y hy => by have := unhide HGE y hy; have := unhide HG2; have := unhide HXL; omega⟩, set6_below (unhide HB5) (by omega)⟩
  refine Own.keep _ _ _ (unhide HO5) fun b hb => ?_
  have e1 := unhide HGE b hb
  have e3 := unhide HG2
  have e4 := unhide HXL
  repeat rw [set_heap _ _ _ _ _ (by omega)]

set_option maxRecDepth 100000 in
set_option maxHeartbeats 2000000 in
theorem certOfI_no (op2 n2 : Int) (s2 : ByteArray) (a2 : Option Addr) (len2 cap2 : Nat) (x : Addr) (w : World) (he : ErrAt x w)
    (hr : ∀ W, Below w.heap.size w W → Calls Tryz.prog 108 #[.agg #[.int .i64 op2, .int .i64 n2, .string s2, .slice a2 len2 cap2]] W fun e w' => Below W.heap.size W w' ∧ e = .returned (.tuple #[zeroC, .iface 202 (.pointer (some x))])) :
    Calls Tryz.prog 49 #[.agg #[.int .i64 op2, .int .i64 n2, .string s2, .slice a2 len2 cap2]] w fun e w' => e = .returned (.tuple #[zeroC, .bool false]) ∧ Below w.heap.size w w' := by
  have h26 := hide hr
  have HCL := hide (fun V => cloneS ByteArray.empty V (by decide))
  clear hr
  unfold zeroC at h26
  have hB0 : Below w.heap.size w ((w.alloc (.cells #[.int .i64 op2, .int .i64 n2, .string s2, .slice a2 len2 cap2] 29)).alloc (.cells #[.string ⟨#[]⟩, .int .i64 0, .int .i64 0, .string ⟨#[]⟩, .slice none 0 0, .int .i64 0] 57)) := bt (ab _) (ab _) (Nat.le_refl _)
  have HX : Hid (RowC 57 ((w.alloc (.cells #[.int .i64 op2, .int .i64 n2, .string s2, .slice a2 len2 cap2] 29)).alloc (.cells #[.string ⟨#[]⟩, .int .i64 0, .int .i64 0, .string ⟨#[]⟩, .slice none 0 0, .int .i64 0] 57)) (w.heap.size + 1) ⟨#[]⟩ 0 0 ⟨#[]⟩ none 0 0 0) := by
    have := RowC.new 57 (w.alloc (.cells #[.int .i64 op2, .int .i64 n2, .string s2, .slice a2 len2 cap2] 29)) ⟨#[]⟩ 0 0 ⟨#[]⟩ none 0 0 0
    rwa [heap_size_alloc] at this
  have HER := hide (he.on hB0)
  have HB0 := hide hB0
  clear hB0 he
  go_enter Tryz.func49, Tryz.ntmps49
  go_wp2_with fail
  refine (unhide h26 _ (unhide HB0)).mono ?_
  rintro e w2 ⟨hb2, rfl⟩
  have hb2' := bt hb2 (ab (.cells #[.string ByteArray.empty, .int .i64 0, .int .i64 0, .string ByteArray.empty, .slice none 0 0, .int .i64 0] 57)) (Nat.le_refl _)
  have HB2 := hide (bt (unhide HB0) hb2' (Nat.le_refl _))
  have HX2 := hide ((unhide HX).below hb2')
  have HER2 := hide ((unhide HER).on hb2')
  have HRC := hide (RowC.new 57 w2 ByteArray.empty 0 0 ByteArray.empty none 0 0 0)
  have HXL : Hid (w.heap.size + 1 < w2.heap.size) := ((unhide HX).below hb2).lt
  have h27 := hide (fun W he => answer_no 0 0 ByteArray.empty none 0 0 x W he)
  clear hb2 hb2' HB0 HX HER h26
  go_wp2_with fail
  generalize hV2 : w2.alloc (.cells #[.string ByteArray.empty, .int .i64 0, .int .i64 0, .string ByteArray.empty, .slice none 0 0, .int .i64 0] 57) = V2 at *
  have HG2 : Hid (w2.heap.size + 1 = V2.heap.size) := by show _ = _; rw [← hV2, heap_size_alloc]
  generalize w2.heap.size = bC at *
  clear hV2
  refine (unhide h27 _ (unhide HER2)).mono ?_
  rintro e w3 ⟨rfl, hb3⟩
  have HB3 := hide (bt (unhide HB2) hb3 (Nat.le_refl _))
  have hbP := ab (w := w3) (.cells #[.int .i64 0, .int .i64 0, .string ByteArray.empty, .slice none 0 0] 29)
  have HB4 := hide (bt (unhide HB3) hbP (Nat.le_refl _))
  have HX4 := hide (((unhide HX2).below hb3).below hbP)
  have HC4 := hide (((unhide HRC).below hb3).below hbP)
  have HP4 := hide (RowT.new 29 w3 0 0 ByteArray.empty none 0 0)
  have HGP : Hid (V2.heap.size ≤ w3.heap.size) := hb3.size
  obtain ⟨c0, c1, c2, c3, c4, c5⟩ := (unhide HC4).facts
  obtain ⟨k0, k1, k2, k3⟩ := (unhide HP4).facts
  clear hb3 hbP
  go_wp2_with fail
  generalize hV3 : w3.alloc (.cells #[.int .i64 0, .int .i64 0, .string ByteArray.empty, .slice none 0 0] 29) = W3 at *
  clear hV3
  generalize w3.heap.size = bP at *
  have hne : (w.heap.size + 1 = bC) = False := eq_false (by have := unhide HXL; omega)
  have hne' : (bC = w.heap.size + 1) = False := eq_false (by have := unhide HXL; omega)
  have hnp : (w.heap.size + 1 = bP) = False := eq_false (by have := unhide HXL; have := unhide HG2; have := unhide HGP; omega)
  have hnp' : (bP = w.heap.size + 1) = False := eq_false (by have := unhide HXL; have := unhide HG2; have := unhide HGP; omega)
  go_region_held3 (fun x => x.cell? ⟨bC, 0, none⟩ = some (.string ByteArray.empty) ∧ x.cell? ⟨bC, 5, none⟩ = some (.int .i64 0) ∧ x.cell? ⟨bP, 0, none⟩ = some (.int .i64 0) ∧ x.cell? ⟨bP, 1, none⟩ = some (.int .i64 0) ∧ x.cell? ⟨bP, 2, none⟩ = some (.string ByteArray.empty) ∧ x.cell? ⟨bP, 3, none⟩ = some (.slice none 0 0)) (go_keep)
    (first | (go_at_call 109
              refine (unhide HCL _).mono ?_
              rintro e w4 ⟨rfl, hb4⟩
              have hb4' := hide (below_drew' hb4)
              have f0 := kpc (unhide hb4') c0
              have f5 := kpc (unhide hb4') c5
              have g0 := kpc (unhide hb4') k0
              have g1 := kpc (unhide hb4') k1
              have g2 := kpc (unhide hb4') k2
              have g3 := kpc (unhide hb4') k3
              obtain ⟨p0, p1, p2, p3, p4, p5⟩ := ((unhide HX4).below (unhide hb4')).facts
              obtain ⟨q0, q1, q2, q3, q4, q5⟩ := ((unhide HX4).below (unhide hb4')).frozen))
  have HB5 := hide (bt (unhide HB4) (unhide hb4') (Nat.le_refl _))
  clear c0 c1 c2 c3 c4 c5 k0 k1 k2 k3 f0 f5 g0 g1 g2 g3 hb4 hb4'
  go_wp2_with fail
  exact bodyPost_ret (v := .tuple #[.agg #[.string ByteArray.empty, .int .i64 0, .int .i64 0, .string ByteArray.empty, .slice none 0 0, .int .i64 0], .bool false]) (by simp [results, Tryz.results49, go_sem, p0, p1, p2, p3, p4, p5]; try rfl) rfl ⟨rfl, set6_below (unhide HB5) (by omega)⟩

/-- The term is that of a certificate for this host, which has not ended. -/
def GoodP (t : Tm) (hs : ByteArray) (m : Int) (p : Tm) : Prop := ∃ v, CP t hs p v ∧ ¬ v < m

theorem six_yes {t : Tm} {h : ByteArray} {p : Tm} {v : Int} (c : CP t h p v) (op n : Int) (s : ByteArray) (a : Option Addr) (len cap : Nat) (w : World) (hl : Lies w 0 t (tmCells op n s a len cap)) (hz : t.size ≤ 2097152) (W : World) (hW : Below w.heap.size w W) :
    Calls Tryz.prog 48 #[.agg #[.int .i64 op, .int .i64 n, .string s, .slice a len cap]] W fun e w' => Below W.heap.size W w' ∧ ∃ op n s a len cap, e = .returned (.tuple #[.agg #[.string h, .int .i64 op, .int .i64 n, .string s, .slice a len cap, .int .i64 v], .bool true]) ∧ Lies w' W.heap.size p (tmCells op n s a len cap) := by
  refine (ofS6 t op n s a len cap W (hl.below hW) hz).mono ?_
  rintro e w' ⟨hb, ⟨h1, p1, v1, o1, n1, s1, a1, l1, c1, cc, he, hL⟩ | ⟨hno, _⟩⟩
  · obtain ⟨rfl, rfl, rfl⟩ := c.one cc
    exact ⟨hb, o1, n1, s1, a1, l1, c1, he, hL⟩
  · exact absurd ⟨h, p, v, c⟩ hno
theorem six_no {t : Tm} (hc : ¬ ∃ h p v, CP t h p v) (op n : Int) (s : ByteArray) (a : Option Addr) (len cap : Nat) (w : World) (hl : Lies w 0 t (tmCells op n s a len cap)) (hz : t.size ≤ 2097152) (W : World) (hW : Below w.heap.size w W) :
    Calls Tryz.prog 48 #[.agg #[.int .i64 op, .int .i64 n, .string s, .slice a len cap]] W fun e w' => Below W.heap.size W w' ∧ e = .returned (.tuple #[zeroC, .bool false]) := by
  refine (ofS6 t op n s a len cap W (hl.below hW) hz).mono ?_
  rintro e w' ⟨hb, ⟨h1, p1, v1, o1, n1, s1, a1, l1, c1, cc, he, hL⟩ | ⟨_, he⟩⟩
  · exact absurd ⟨h1, p1, v1, cc⟩ hc
  · exact ⟨hb, he⟩
theorem read_got {t : Tm} {h : ByteArray} {p : Tm} {v : Int} (c : CP t h p v) (op n : Int) (s : ByteArray) (a : Option Addr) (len cap : Nat) (w : World) (hl : Lies w 0 t (tmCells op n s a len cap)) (hz : t.size ≤ 2097152) (x : Addr) (he : ErrAt x w) (hr : Var12 w) (ht : Tab w) (W : World) (hW : Below w.heap.size w W) :
    Calls Tryz.prog 108 #[.agg #[.int .i64 op, .int .i64 n, .string s, .slice a len cap]] W fun e w' => Below W.heap.size W w' ∧ ∃ op n s a len cap, e = .returned (.tuple #[.agg #[.string h, .int .i64 op, .int .i64 n, .string s, .slice a len cap, .int .i64 v], .nilIface]) ∧ Lies w 0 p (tmCells op n s a len cap) := by
  refine (read26 t op n s a len cap x w W hl hW hz (he.on hW) (hr.on hW) (ht.on hW)).mono ?_
  rintro e w' ⟨hb, ⟨h1, p1, v1, o1, n1, s1, a1, l1, c1, cc, he', hL⟩ | ⟨hno, _⟩⟩
  · obtain ⟨rfl, rfl, rfl⟩ := c.one cc
    exact ⟨hb, o1, n1, s1, a1, l1, c1, he', hL⟩
  · exact absurd ⟨h, p, v, c⟩ hno
theorem read_not {t : Tm} (hc : ¬ ∃ h p v, CP t h p v) (op n : Int) (s : ByteArray) (a : Option Addr) (len cap : Nat) (w : World) (hl : Lies w 0 t (tmCells op n s a len cap)) (hz : t.size ≤ 2097152) (x : Addr) (he : ErrAt x w) (hr : Var12 w) (ht : Tab w) (W : World) (hW : Below w.heap.size w W) :
    Calls Tryz.prog 108 #[.agg #[.int .i64 op, .int .i64 n, .string s, .slice a len cap]] W fun e w' => Below W.heap.size W w' ∧ e = .returned (.tuple #[zeroC, .iface 202 (.pointer (some x))]) := by
  refine (read26 t op n s a len cap x w W hl hW hz (he.on hW) (hr.on hW) (ht.on hW)).mono ?_
  rintro e w' ⟨hb, ⟨h1, p1, v1, o1, n1, s1, a1, l1, c1, cc, he', hL⟩ | ⟨_, he'⟩⟩
  · exact absurd ⟨h1, p1, v1, cc⟩ hc
  · exact ⟨hb, he'⟩

/-- spec.CertGood where it is good. -/
theorem good12_yes (t : Tm) (hs : ByteArray) (m : Int) (op n : Int) (s : ByteArray) (a : Option Addr) (len cap : Nat) (w : World) (hl : Lies w 0 t (tmCells op n s a len cap)) (hz : t.size ≤ 2097152) (p : Tm) (hg : GoodP t hs m p) :
    Calls Tryz.prog 51 #[.agg #[.int .i64 op, .int .i64 n, .string s, .slice a len cap], .string hs, .int .i64 m] w fun e w' => ∃ op n s a len cap, e = .returned (.tuple #[.agg #[.int .i64 op, .int .i64 n, .string s, .slice a len cap], .bool true]) ∧ Lies w' w.heap.size p (tmCells op n s a len cap) ∧ Below w.heap.size w w' := by
  obtain ⟨v, c, hv⟩ := hg
  exact goodS_yes op n s a len cap hs m w hs p v rfl hv (six_yes c op n s a len cap w hl hz)
/-- spec.CertGood where it is not. -/
theorem good12_no (t : Tm) (hs : ByteArray) (m : Int) (op n : Int) (s : ByteArray) (a : Option Addr) (len cap : Nat) (w : World) (hl : Lies w 0 t (tmCells op n s a len cap)) (hz : t.size ≤ 2097152) (hg : ¬ ∃ p, GoodP t hs m p) :
    Calls Tryz.prog 51 #[.agg #[.int .i64 op, .int .i64 n, .string s, .slice a len cap], .string hs, .int .i64 m] w fun e w' => e = .returned (.tuple #[.agg #[.int .i64 0, .int .i64 0, .string ByteArray.empty, .slice none 0 0], .bool false]) ∧ Below w.heap.size w w' := by
  by_cases hc : ∃ h p v, CP t h p v
  · obtain ⟨h, p, v, c⟩ := hc
    by_cases hh : h = hs
    · by_cases hm : v < m
      · exact goodS_no3 op n s a len cap hs m w h p v hh hm (six_yes c op n s a len cap w hl hz)
      · exact absurd ⟨p, v, hh ▸ c, hm⟩ hg
    · exact goodS_no2 op n s a len cap hs m w h p v hh (six_yes c op n s a len cap w hl hz)
  · exact goodS_no1 op n s a len cap hs m w (six_no hc op n s a len cap w hl hz)
/-- impl.CertGood where it is good. -/
theorem good11_yes (t : Tm) (hs : ByteArray) (m : Int) (op n : Int) (s : ByteArray) (a : Option Addr) (len cap : Nat) (w : World) (hl : Lies w 0 t (tmCells op n s a len cap)) (hz : t.size ≤ 2097152) (x : Addr) (he : ErrAt x w) (hr : Var12 w) (ht : Tab w) (p : Tm) (hg : GoodP t hs m p) :
    Calls Tryz.prog 35 #[.agg #[.int .i64 op, .int .i64 n, .string s, .slice a len cap], .string hs, .int .i64 m] w fun e w' => ∃ op n s a len cap fp, e = .returned (.tuple #[.agg #[.int .i64 op, .int .i64 n, .string s, .slice a len cap], .bool true]) ∧ Own w' p (tmCells op n s a len cap) fp ∧ (fp.Nodup ∧ ∀ y ∈ fp, w.heap.size ≤ y) ∧ Below w.heap.size w w' := by
  obtain ⟨v, c, hv⟩ := hg
  have hp := okT_200 (certB_ok c.2.1).2.2.1
  exact goodI_yes op n s a len cap hs m x w he p (by have := okT_small (certB_ok c.2.1).2.2.1; omega) fun W hW => goodP_yes op n s a len cap hs m x W (he.on hW) hs p v rfl hv (read_got c op n s a len cap W (hl.below hW) hz x (he.on hW) (hr.on hW) (ht.on hW))
/-- impl.CertGood where it is not. -/
theorem good11_no (t : Tm) (hs : ByteArray) (m : Int) (op n : Int) (s : ByteArray) (a : Option Addr) (len cap : Nat) (w : World) (hl : Lies w 0 t (tmCells op n s a len cap)) (hz : t.size ≤ 2097152) (x : Addr) (he : ErrAt x w) (hr : Var12 w) (ht : Tab w) (hg : ¬ ∃ p, GoodP t hs m p) :
    Calls Tryz.prog 35 #[.agg #[.int .i64 op, .int .i64 n, .string s, .slice a len cap], .string hs, .int .i64 m] w fun e w' => e = .returned (.tuple #[.agg #[.int .i64 0, .int .i64 0, .string ByteArray.empty, .slice none 0 0], .bool false]) ∧ Below w.heap.size w w' := by
  refine goodI_no op n s a len cap hs m x w he fun W hW => ?_
  by_cases hc : ∃ h p v, CP t h p v
  · obtain ⟨h, p, v, c⟩ := hc
    have h25 := read_got c op n s a len cap W (hl.below hW) hz x (he.on hW) (hr.on hW) (ht.on hW)
    by_cases hh : h = hs
    · by_cases hm : v < m
      · exact goodP_no3 op n s a len cap hs m x W (he.on hW) h p v hh hm h25
      · exact absurd ⟨p, v, hh ▸ c, hm⟩ hg
    · exact goodP_no2 op n s a len cap hs m x W (he.on hW) h p v hh h25
  · exact goodP_no1 op n s a len cap hs m x W (read_not hc op n s a len cap W (hl.below hW) hz x (he.on hW) (hr.on hW) (ht.on hW))

/-- Both CertOf at a term: one flag, one certificate; where the flag is true the term is that of the certificate. -/
theorem cof_both (X : Tm) (hz : X.size ≤ 61010) : ∃ (O : Bool) (HD : ByteArray) (PD : Tm) (VD : Int), (PD.size ≤ 200 ∧ HD.size ≤ 60) ∧ (O = true → certTm HD PD VD = X) ∧
    Hid (∀ (op n : Int) (s : ByteArray) (a : Option Addr) (len cap : Nat) (x : Addr) (V : World), Lies V 0 X (tmCells op n s a len cap) → ErrAt x V → Var12 V → Tab V →
      Calls Tryz.prog 49 #[.agg #[.int .i64 op, .int .i64 n, .string s, .slice a len cap]] V fun e w' => ∃ op2 n2 s2 a2 len2 cap2, e = .returned (.tuple #[.agg #[.string HD, .int .i64 op2, .int .i64 n2, .string s2, .slice a2 len2 cap2, .int .i64 VD], .bool O]) ∧ Lies w' 0 PD (tmCells op2 n2 s2 a2 len2 cap2) ∧ Below V.heap.size V w') ∧
    Hid (∀ (op n : Int) (s : ByteArray) (a : Option Addr) (len cap : Nat) (V : World), Lies V 0 X (tmCells op n s a len cap) →
      Calls Tryz.prog 48 #[.agg #[.int .i64 op, .int .i64 n, .string s, .slice a len cap]] V fun e w' => ∃ op2 n2 s2 a2 len2 cap2, e = .returned (.tuple #[.agg #[.string HD, .int .i64 op2, .int .i64 n2, .string s2, .slice a2 len2 cap2, .int .i64 VD], .bool O]) ∧ Below V.heap.size V w') := by
  by_cases hc : ∃ h p v, CP X h p v
  · obtain ⟨h, p, v, c⟩ := hc
    obtain ⟨c1, c2, c3⟩ := c
    have ho := certB_ok c2
    refine ⟨true, h, p, v, ⟨okT_200 ho.2.2.1, ho.1.1⟩, fun _ => ?_, ?_, ?_⟩
    · unfold certTm
      rw [c2, c1]
      show certT h p v = certL h p v
      exact certT_laid (by rw [← c1]; exact c3)
    · intro op n s a len cap x V hl he hr ht
      refine (certOfI_yes op n s a len cap x V h p v (by have := okT_small ho.2.2.1; omega) (by have := ho.1.1; omega) he fun W hW => (read_got ⟨c1, c2, c3⟩ op n s a len cap W (hl.below hW) (by omega) x (he.on hW) (hr.on hW) (ht.on hW) W (Below.refl _ _)).mono ?_).mono ?_
      · rintro e w' ⟨hb, o1, n1, s1, a1, l1, p1, he', hL⟩
        exact ⟨hb, o1, n1, s1, a1, l1, p1, he', hL.below hb⟩
      · rintro e w' ⟨o1, n1, s1, a1, l1, p1, fp, he', hO, _, hb⟩
        exact ⟨o1, n1, s1, a1, l1, p1, he', hO.lies0, hb⟩
    · intro op n s a len cap V hl
      refine (six_yes ⟨c1, c2, c3⟩ op n s a len cap V hl (by omega) V (Below.refl _ _)).mono ?_
      rintro e w' ⟨hb, o1, n1, s1, a1, l1, p1, he', hL⟩
      exact ⟨o1, n1, s1, a1, l1, p1, he', hb⟩
  · refine ⟨false, ByteArray.empty, .node 0 0 ByteArray.empty [], 0, ⟨by simp [Tm.size, Tm.sizes], by decide⟩, (fun h => by cases h), ?_, ?_⟩
    · intro op n s a len cap x V hl he hr ht
      refine (certOfI_no op n s a len cap x V he fun W hW => read_not hc op n s a len cap W (hl.below hW) (by omega) x (he.on hW) (hr.on hW) (ht.on hW) W (Below.refl _ _)).mono ?_
      rintro e w' ⟨he', hb⟩
      exact ⟨0, 0, ByteArray.empty, none, 0, 0, he', zero_lies _ _, hb⟩
    · intro op n s a len cap V hl
      refine (six_no hc op n s a len cap V hl (by omega) V (Below.refl _ _)).mono ?_
      rintro e w' ⟨hb, he'⟩
      exact ⟨0, 0, ByteArray.empty, none, 0, 0, he', hb⟩

/-- Both CertGood at a term, a host and a time: one flag, one term. -/
theorem good_both (Y : Tm) (hs : ByteArray) (m : Int) (hz : Y.size ≤ 61010) : ∃ (G : Bool) (PG : Tm), PG.size ≤ 200 ∧ ((∃ p, GoodP Y hs m p) ↔ G = true) ∧
    Hid (∀ (op n : Int) (s : ByteArray) (a : Option Addr) (len cap : Nat) (x : Addr) (V : World), Lies V 0 Y (tmCells op n s a len cap) → ErrAt x V → Var12 V → Tab V →
      Calls Tryz.prog 35 #[.agg #[.int .i64 op, .int .i64 n, .string s, .slice a len cap], .string hs, .int .i64 m] V fun e w' => ∃ op2 n2 s2 a2 len2 cap2, e = .returned (.tuple #[.agg #[.int .i64 op2, .int .i64 n2, .string s2, .slice a2 len2 cap2], .bool G]) ∧ Lies w' 0 PG (tmCells op2 n2 s2 a2 len2 cap2) ∧ Below V.heap.size V w') ∧
    Hid (∀ (op n : Int) (s : ByteArray) (a : Option Addr) (len cap : Nat) (V : World), Lies V 0 Y (tmCells op n s a len cap) →
      Calls Tryz.prog 51 #[.agg #[.int .i64 op, .int .i64 n, .string s, .slice a len cap], .string hs, .int .i64 m] V fun e w' => ∃ op2 n2 s2 a2 len2 cap2, e = .returned (.tuple #[.agg #[.int .i64 op2, .int .i64 n2, .string s2, .slice a2 len2 cap2], .bool G]) ∧ Lies w' 0 PG (tmCells op2 n2 s2 a2 len2 cap2) ∧ Below V.heap.size V w') := by
  by_cases hc : ∃ p, GoodP Y hs m p
  · obtain ⟨p, hp⟩ := hc
    obtain ⟨v, c, hv⟩ := hp
    have ho := certB_ok c.2.1
    refine ⟨true, p, okT_200 ho.2.2.1, ⟨fun _ => rfl, fun _ => ⟨p, v, c, hv⟩⟩, ?_, ?_⟩
    · intro op n s a len cap x V hl he hr ht
      refine (good11_yes Y hs m op n s a len cap V hl (by omega) x he hr ht p ⟨v, c, hv⟩).mono ?_
      rintro e w' ⟨o1, n1, s1, a1, l1, p1, fp, he', hO, _, hb⟩
      exact ⟨o1, n1, s1, a1, l1, p1, he', hO.lies0, hb⟩
    · intro op n s a len cap V hl
      refine (good12_yes Y hs m op n s a len cap V hl (by omega) p ⟨v, c, hv⟩).mono ?_
      rintro e w' ⟨o1, n1, s1, a1, l1, p1, he', hL, hb⟩
      exact ⟨o1, n1, s1, a1, l1, p1, he', hL.any (Nat.zero_le _), hb⟩
  · refine ⟨false, .node 0 0 ByteArray.empty [], by simp [Tm.size, Tm.sizes], ⟨fun h => absurd h hc, fun h => by cases h⟩, ?_, ?_⟩
    · intro op n s a len cap x V hl he hr ht
      refine (good11_no Y hs m op n s a len cap V hl (by omega) x he hr ht hc).mono ?_
      rintro e w' ⟨he', hb⟩
      exact ⟨0, 0, ByteArray.empty, none, 0, 0, he', zero_lies _ _, hb⟩
    · intro op n s a len cap V hl
      refine (good12_no Y hs m op n s a len cap V hl (by omega) hc).mono ?_
      rintro e w' ⟨he', hb⟩
      exact ⟨0, 0, ByteArray.empty, none, 0, 0, he', zero_lies _ _, hb⟩

/-- impl.CertGood alone, by whether it is good. -/
theorem good_one (Y : Tm) (hs : ByteArray) (m : Int) (hz : Y.size ≤ 61010) (G : Bool) (hg : (∃ p, GoodP Y hs m p) ↔ G = true) (op n : Int) (s : ByteArray) (a : Option Addr) (len cap : Nat) (x : Addr) (V : World) (hl : Lies V 0 Y (tmCells op n s a len cap)) (he : ErrAt x V) (hr : Var12 V) (ht : Tab V) :
    Calls Tryz.prog 35 #[.agg #[.int .i64 op, .int .i64 n, .string s, .slice a len cap], .string hs, .int .i64 m] V fun e w' => ∃ op2 n2 s2 a2 len2 cap2, e = .returned (.tuple #[.agg #[.int .i64 op2, .int .i64 n2, .string s2, .slice a2 len2 cap2], .bool G]) ∧ Below V.heap.size V w' := by
  obtain ⟨G', PG, _, hg', h1, _⟩ := good_both Y hs m hz
  obtain rfl : G = G' := by
    cases G <;> cases G' <;> simp_all
  refine (h1 op n s a len cap x V hl he hr ht).mono ?_
  rintro e w' ⟨o1, n1, s1, a1, l1, p1, he', _, hb⟩
  exact ⟨o1, n1, s1, a1, l1, p1, he', hb⟩

/-- A drawn certificate that is right: its term, and what is good of it. -/
theorem cert_good {h : ByteArray} {p : Tm} {v : Int} (hd : CertD h p v) (hc : certB h p v = true) : (∃ q, GoodP (certTm h p v) h v q) ∧ (¬ ∃ q, GoodP (certTm h p v) h (v + 1) q) ∧ (¬ ∃ q, GoodP (certTm h p v) ⟨#[122, 122, 46, 122, 122]⟩ 0 q) := by
  have hok := cert_fits hc (by have := hd.2.2.1.2; omega)
  have e : certTm h p v = certL h p v := by
    unfold certTm
    rw [hc]
    show certT h p v = _
    exact certT_laid hok
  have hcp : CP (certL h p v) h p v := ⟨rfl, hc, hok⟩
  rw [e]
  refine ⟨⟨p, v, hcp, by omega⟩, ?_, ?_⟩
  · rintro ⟨q, v', c', hv⟩
    obtain ⟨_, _, rfl⟩ := hcp.one c'
    omega
  · rintro ⟨q, v', c', hv⟩
    exact hd.1 (hcp.one c').1
theorem certTm_zero {h : ByteArray} {p : Tm} {v : Int} (hc : certB h p v = false) : certTm h p v = .node 0 0 ByteArray.empty [] := by
  unfold certTm
  rw [hc]
  rfl

set_option maxRecDepth 100000 in
theorem big_no (a : Option Addr) (len cap : Nat) (w : World) (hb : len ≤ 1048576) :
    Calls Tryz.prog 14 #[.slice a len cap] w fun e w' => e = .returned (.bool false) ∧ w' = w := by
  have c : ¬ (1048576 : Int) < (len : Int) := by omega
  go_enter Tryz.func14, Tryz.ntmps14
  go_wp2_with fail
  go_ret
  exact ⟨rfl, rfl⟩
set_option maxRecDepth 100000 in
theorem big_yes (a : Option Addr) (len cap : Nat) (w : World) (hb : ¬ len ≤ 1048576) :
    Calls Tryz.prog 14 #[.slice a len cap] w fun e w' => e = .returned (.bool true) ∧ w' = w := by
  have c : (1048576 : Int) < (len : Int) := by omega
  go_enter Tryz.func14, Tryz.ntmps14
  go_wp2_with fail
  go_ret
  exact ⟨rfl, rfl⟩
theorem same_self (t : Tm) : sameB t t = true := same_alike.2 rfl
theorem same_yes (t : Tm) (op n : Int) (s : ByteArray) (a : Option Addr) (len cap : Nat) (op' n' : Int) (s' : ByteArray) (a' : Option Addr) (len' cap' : Nat) (w : World) (hl : Lies w 0 t (tmCells op n s a len cap)) (hl' : Lies w 0 t (tmCells op' n' s' a' len' cap')) (hsz : t.size ≤ 2097152) :
    Calls Tryz.prog 21 #[.agg #[.int .i64 op, .int .i64 n, .string s, .slice a len cap], .agg #[.int .i64 op', .int .i64 n', .string s', .slice a' len' cap']] w fun e w' => e = .returned (.bool true) ∧ Below w.heap.size w w' := by
  have h := same15 t t op n s a len cap op' n' s' a' len' cap' w hl hl' hsz
  rw [same_self] at h
  exact h
theorem below_drewC {w v : World} (h : Below w.drew.heap.size w.drew v) : Below w.heap.size w v := ((Below.refl _ _).drew).trans h
theorem Bytes.on {w w' : World} {a : Option Addr} {len : Nat} (h : Bytes w w.heap.size a len) (hb : Below w.heap.size w w') : Bytes w' w'.heap.size a len := h.below hb hb.size

set_option maxRecDepth 100000 in
set_option maxHeartbeats 8000000 in
theorem lawCerts1 (ad : Option Addr) (ln cp : Nat) (w : World) (hB : Bytes w w.heap.size ad ln) (hl : ln ≤ 1048576) (hlc : ln ≤ cp) (x : Addr) (he : ErrAt x w) (hr : Var12 w) (ht : Tab w) :
    Calls Tryz.prog 8 #[.slice ad ln cp] w fun e w' => e = .returned (.bool true) ∧ Below w.heap.size w w' := by
  have hbig := hide (fun v => big_no ad ln cp v hl)
  have HBY := hide hB
  have HE := hide he
  have HR := hide hr
  have HT := hide ht
  have HB0 := hide (Below.refl w.heap.size w)
  clear hB he hr ht
  have K := hide (fun V (hV : Below w.heap.size w V) => draw5 ad ln cp V ((unhide HBY).on hV) hl hlc)
  go_enter Tryz.func8, Tryz.ntmps8
  go_wp2_with fail
  refine (unhide hbig _).mono ?_
  rintro e w0 ⟨rfl, rfl⟩
  go_wp2_with fail
  refine (unhide K _ (Below.refl _ _)).mono ?_
  rintro e w1 ⟨hc, tc, vc, opC, nC, sC, aC, lenC, capC, rfl, hcd, hlp, hb⟩
  have HCD := hide hcd
  have zc : tc.size ≤ 2097152 := by have := hcd.2.2.1.2; omega
  have zh : hc.size ≤ 2097152 := by have := hcd.2.1; omega
  clear K hcd
  have HW1 := hide (btC (Below.refl _ _) hb)
  have HB1 := hide (btC (unhide HB0) (unhide HW1))
  have HLc1 := hide hlp
  clear HW1 hb
  clear hlp
  have K := hide (fun V (hV : Below w1.heap.size w1 V) => certTI tc hc opC nC sC aC lenC capC vc V ((unhide HLc1).below hV) zc zh ((unhide HT).on (btC (unhide HB1) hV)) ⟨x, (unhide HE).on (btC (unhide HB1) hV)⟩)
  go_wp2_with fail
  refine (unhide K _ (ab _)).mono ?_
  rintro e w2 ⟨opT, nT, sT, aT, lenT, capT, ft, rfl, hO, -, hb⟩
  have hL := hO.lies0
  clear K hO
  have HW2 := hide (btC (ab _) hb)
  have HB2 := hide (btC (unhide HB1) (unhide HW2))
  have HLc2 := hide ((unhide HLc1).below (unhide HW2))
  have HXc2 := hide ((RowC.new 57 w1 hc opC nC sC aC lenC capC vc).below hb)
  have HLt2 := hide hL
  clear HW2 HB1 hb HLc1
  clear hL
  have K := hide (fun V (hV : Below w2.heap.size w2 V) => draw7 ad ln cp V ((unhide HBY).on (btC (unhide HB2) hV)) hl hlc)
  go_wp2_with fail
  refine (unhide K _ (ab _)).mono ?_
  rintro e w3 ⟨X, opX, nX, sX, aX, lenX, capX, rfl, ⟨hL, zX⟩, hb⟩
  clear K
  have HW3 := hide (btC (ab _) hb)
  have HB3 := hide (btC (unhide HB2) (unhide HW3))
  have HLc3 := hide ((unhide HLc2).below (unhide HW3))
  have HLt3 := hide ((unhide HLt2).below (unhide HW3))
  have HXc3 := hide ((unhide HXc2).below (unhide HW3))
  have HXt3 := hide ((RowT.new 29 w2 opT nT sT aT lenT capT).below hb)
  have HLx3 := hide hL
  clear HW3 HB2 hb HLc2 HLt2 HXc2
  clear hL
  obtain ⟨O, HD, PD, VD, ⟨zPD, zHD⟩, hOX, FI, FS⟩ := cof_both X zX
  have HOX := hide hOX
  clear hOX
  have K := hide (fun V (hV : Below w3.heap.size w3 V) => unhide FI opX nX sX aX lenX capX x V ((unhide HLx3).below hV) ((unhide HE).on (btC (unhide HB3) hV)) ((unhide HR).on (btC (unhide HB3) hV)) ((unhide HT).on (btC (unhide HB3) hV)))
  go_wp2_with fail
  refine (unhide K _ (ab _)).mono ?_
  rintro e w4 ⟨opD, nD, sD, aD, lenD, capD, rfl, hL, hb⟩
  clear K FI
  have HW4 := hide (btC (ab _) hb)
  have HB4 := hide (btC (unhide HB3) (unhide HW4))
  have HLc4 := hide ((unhide HLc3).below (unhide HW4))
  have HLt4 := hide ((unhide HLt3).below (unhide HW4))
  have HLx4 := hide ((unhide HLx3).below (unhide HW4))
  have HXc4 := hide ((unhide HXc3).below (unhide HW4))
  have HXt4 := hide ((unhide HXt3).below (unhide HW4))
  have HXx4 := hide ((RowT.new 29 w3 opX nX sX aX lenX capX).below hb)
  have HLd4 := hide hL
  clear HW4 HB3 hb HLc3 HLt3 HLx3 HXc3 HXt3
  clear hL
  have K := hide (fun V (hV : Below w4.heap.size w4 V) => unhide FS opX nX sX aX lenX capX V ((unhide HLx4).below hV))
  obtain ⟨x0, x1, x2, x3⟩ := ((unhide HXx4).below (ab (.cells #[.string HD, .int .i64 opD, .int .i64 nD, .string sD, .slice aD lenD capD, .int .i64 VD] 57))).facts
  go_wp2_with fail
  refine (unhide K _ (ab _)).mono ?_
  rintro e w5 ⟨opE, nE, sE, aE, lenE, capE, rfl, hb⟩
  clear K FS
  clear x0 x1 x2 x3
  have HW5 := hide (btC (ab _) hb)
  have HB5 := hide (btC (unhide HB4) (unhide HW5))
  have HLc5 := hide ((unhide HLc4).below (unhide HW5))
  have HLt5 := hide ((unhide HLt4).below (unhide HW5))
  have HLx5 := hide ((unhide HLx4).below (unhide HW5))
  have HLd5 := hide ((unhide HLd4).below (unhide HW5))
  have HXc5 := hide ((unhide HXc4).below (unhide HW5))
  have HXt5 := hide ((unhide HXt4).below (unhide HW5))
  have HXx5 := hide ((unhide HXx4).below (unhide HW5))
  have HXd5 := hide ((RowC.new 57 w4 HD opD nD sD aD lenD capD VD).below hb)
  clear HW5 HB4 hb HLc4 HLt4 HLx4 HLd4 HXc4 HXt4 HXx4
  have K := hide (fun V (hV : Below w5.heap.size w5 V) => draw10 ad ln cp V ((unhide HBY).on (btC (unhide HB5) hV)) hl hlc)
  go_wp2_with fail
  refine (unhide K _ (ab _)).mono ?_
  rintro e w6 ⟨Y, opY, nY, sY, aY, lenY, capY, hy, my, rfl, ⟨hL, zY⟩, hb⟩
  clear K
  have HW6 := hide (btC (ab _) hb)
  have HB6 := hide (btC (unhide HB5) (unhide HW6))
  have HLc6 := hide ((unhide HLc5).below (unhide HW6))
  have HLt6 := hide ((unhide HLt5).below (unhide HW6))
  have HLx6 := hide ((unhide HLx5).below (unhide HW6))
  have HLd6 := hide ((unhide HLd5).below (unhide HW6))
  have HXc6 := hide ((unhide HXc5).below (unhide HW6))
  have HXt6 := hide ((unhide HXt5).below (unhide HW6))
  have HXx6 := hide ((unhide HXx5).below (unhide HW6))
  have HXd6 := hide ((unhide HXd5).below (unhide HW6))
  have HLy6 := hide hL
  clear HW6 HB5 hb HLc5 HLt5 HLx5 HLd5 HXc5 HXt5 HXx5 HXd5
  clear hL
  obtain ⟨G, PG, zPG, -, GI, GS⟩ := good_both Y hy my zY
  have K := hide (fun V (hV : Below w6.heap.size w6 V) => unhide GI opY nY sY aY lenY capY x V ((unhide HLy6).below hV) ((unhide HE).on (btC (unhide HB6) hV)) ((unhide HR).on (btC (unhide HB6) hV)) ((unhide HT).on (btC (unhide HB6) hV)))
  go_wp2_with fail
  refine (unhide K _ (ab _)).mono ?_
  rintro e w7 ⟨opP, nP, sP, aP, lenP, capP, rfl, hL, hb⟩
  clear K GI
  have HW7 := hide (btC (ab _) hb)
  have HB7 := hide (btC (unhide HB6) (unhide HW7))
  have HLc7 := hide ((unhide HLc6).below (unhide HW7))
  have HLt7 := hide ((unhide HLt6).below (unhide HW7))
  have HLx7 := hide ((unhide HLx6).below (unhide HW7))
  have HLd7 := hide ((unhide HLd6).below (unhide HW7))
  have HLy7 := hide ((unhide HLy6).below (unhide HW7))
  have HXc7 := hide ((unhide HXc6).below (unhide HW7))
  have HXt7 := hide ((unhide HXt6).below (unhide HW7))
  have HXx7 := hide ((unhide HXx6).below (unhide HW7))
  have HXd7 := hide ((unhide HXd6).below (unhide HW7))
  have HXy7 := hide ((RowT.new 29 w6 opY nY sY aY lenY capY).below hb)
  have HLp7 := hide hL
  clear HW7 HB6 hb HLc6 HLt6 HLx6 HLd6 HLy6 HXc6 HXt6 HXx6 HXd6
  clear hL
  have K := hide (fun V (hV : Below w7.heap.size w7 V) => unhide GS opY nY sY aY lenY capY V ((unhide HLy7).below hV))
  obtain ⟨y0, y1, y2, y3⟩ := ((unhide HXy7).below (ab (.cells #[.int .i64 opP, .int .i64 nP, .string sP, .slice aP lenP capP] 29))).facts
  go_wp2_with fail
  refine (unhide K _ (ab _)).mono ?_
  rintro e w8 ⟨opQ, nQ, sQ, aQ, lenQ, capQ, rfl, hL, hb⟩
  clear K GS
  clear y0 y1 y2 y3
  have HW8 := hide (btC (ab _) hb)
  have HB8 := hide (btC (unhide HB7) (unhide HW8))
  have HLc8 := hide ((unhide HLc7).below (unhide HW8))
  have HLt8 := hide ((unhide HLt7).below (unhide HW8))
  have HLx8 := hide ((unhide HLx7).below (unhide HW8))
  have HLd8 := hide ((unhide HLd7).below (unhide HW8))
  have HLy8 := hide ((unhide HLy7).below (unhide HW8))
  have HLp8 := hide ((unhide HLp7).below (unhide HW8))
  have HXc8 := hide ((unhide HXc7).below (unhide HW8))
  have HXt8 := hide ((unhide HXt7).below (unhide HW8))
  have HXx8 := hide ((unhide HXx7).below (unhide HW8))
  have HXd8 := hide ((unhide HXd7).below (unhide HW8))
  have HXy8 := hide ((unhide HXy7).below (unhide HW8))
  have HXp8 := hide ((RowT.new 29 w7 opP nP sP aP lenP capP).below hb)
  have HLq8 := hide hL
  clear HW8 HB7 hb HLc7 HLt7 HLx7 HLd7 HLy7 HLp7 HXc7 HXt7 HXx7 HXd7 HXy7
  clear hL
  have K := hide (fun V (hV : Below w8.heap.size w8 V) => draw13 ad ln cp V ((unhide HBY).on (btC (unhide HB8) hV)) hl hlc)
  go_wp2_with fail
  refine (unhide K _ (ab _)).mono ?_
  rintro e w9 ⟨hk, tk, vk, opK, nK, sK, aK, lenK, capK, rfl, hkd, hL, hb⟩
  have zk : tk.size ≤ 2097152 := by have := hkd.2.2.1.2; omega
  have zhk : hk.size ≤ 2097152 := by have := hkd.2.1; omega
  clear K hkd
  have HW9 := hide (btC (ab _) hb)
  have HB9 := hide (btC (unhide HB8) (unhide HW9))
  have HLc9 := hide ((unhide HLc8).below (unhide HW9))
  have HLt9 := hide ((unhide HLt8).below (unhide HW9))
  have HLx9 := hide ((unhide HLx8).below (unhide HW9))
  have HLd9 := hide ((unhide HLd8).below (unhide HW9))
  have HLy9 := hide ((unhide HLy8).below (unhide HW9))
  have HLp9 := hide ((unhide HLp8).below (unhide HW9))
  have HLq9 := hide ((unhide HLq8).below (unhide HW9))
  have HXc9 := hide ((unhide HXc8).below (unhide HW9))
  have HXt9 := hide ((unhide HXt8).below (unhide HW9))
  have HXx9 := hide ((unhide HXx8).below (unhide HW9))
  have HXd9 := hide ((unhide HXd8).below (unhide HW9))
  have HXy9 := hide ((unhide HXy8).below (unhide HW9))
  have HXp9 := hide ((unhide HXp8).below (unhide HW9))
  have HXq9 := hide ((RowT.new 29 w8 opQ nQ sQ aQ lenQ capQ).below hb)
  have HLk9 := hide hL
  clear HW9 HB8 hb HLc8 HLt8 HLx8 HLd8 HLy8 HLp8 HLq8 HXc8 HXt8 HXx8 HXd8 HXy8 HXp8
  clear hL HBY
  have K := hide (fun V (hV : Below w9.heap.size w9 V) => certTS tc hc opC nC sC aC lenC capC vc V ((unhide HLc9).below hV) zc zh)
  obtain ⟨c0, c1, c2, c3, c4, c5⟩ := ((unhide HXc9).below (ab (.cells #[.string hk, .int .i64 opK, .int .i64 nK, .string sK, .slice aK lenK capK, .int .i64 vk] 57))).facts
  obtain ⟨t0, t1, t2, t3⟩ := ((unhide HXt9).below (ab (.cells #[.string hk, .int .i64 opK, .int .i64 nK, .string sK, .slice aK lenK capK, .int .i64 vk] 57))).facts
  go_wp2_with fail
  have HW10 := hide (ab (w := w9) (.cells #[.string hk, .int .i64 opK, .int .i64 nK, .string sK, .slice aK lenK capK, .int .i64 vk] 57))
  have HB10 := hide (btC (unhide HB9) (unhide HW10))
  have HLc10 := hide ((unhide HLc9).below (unhide HW10))
  have HLt10 := hide ((unhide HLt9).below (unhide HW10))
  have HLx10 := hide ((unhide HLx9).below (unhide HW10))
  have HLd10 := hide ((unhide HLd9).below (unhide HW10))
  have HLy10 := hide ((unhide HLy9).below (unhide HW10))
  have HLp10 := hide ((unhide HLp9).below (unhide HW10))
  have HLq10 := hide ((unhide HLq9).below (unhide HW10))
  have HLk10 := hide ((unhide HLk9).below (unhide HW10))
  have HXc10 := hide ((unhide HXc9).below (unhide HW10))
  have HXt10 := hide ((unhide HXt9).below (unhide HW10))
  have HXx10 := hide ((unhide HXx9).below (unhide HW10))
  have HXd10 := hide ((unhide HXd9).below (unhide HW10))
  have HXy10 := hide ((unhide HXy9).below (unhide HW10))
  have HXp10 := hide ((unhide HXp9).below (unhide HW10))
  have HXq10 := hide ((unhide HXq9).below (unhide HW10))
  have HXk10 := hide (RowC.new 57 w9 hk opK nK sK aK lenK capK vk)
  clear c0 c1 c2 c3 c4 c5 t0 t1 t2 t3
  clear K HW10 HB9 HLc9 HLt9 HLx9 HLd9 HLy9 HLp9 HLq9 HLk9 HXc9 HXt9 HXx9 HXd9 HXy9 HXp9 HXq9
  generalize hV : w9.alloc (.cells #[.string hk, .int .i64 opK, .int .i64 nK, .string sK, .slice aK lenK capK, .int .i64 vk] 57) = w10 at *
  generalize w9.heap.size = b9 at *
  generalize w8.heap.size = b8 at *
  generalize w7.heap.size = b7 at *
  generalize w6.heap.size = b6 at *
  generalize w5.heap.size = b5 at *
  generalize w4.heap.size = b4 at *
  generalize w3.heap.size = b3 at *
  generalize w2.heap.size = b2 at *
  generalize w1.heap.size = b1 at *
  clear hV
  have HZT : Hid ((certTm hc tc vc).size ≤ 2097152) := by show _ ≤ _; have := certTm_200 hc tc vc; omega
  have g8 := hide (fun V hl => certTS tc hc opC nC sC aC lenC capC vc V hl zc zh)
  have g28a := hide (same_yes (certTm hc tc vc) opT nT sT aT lenT capT)
  have g28b := hide (same_yes PG opP nP sP aP lenP capP opQ nQ sQ aQ lenQ capQ)
  have g29 := hide (fun V hl => certI tk hk opK nK sK aK lenK capK vk V hl zk zhk)
  have g30 := hide (fun V hl => certS tk hk opK nK sK aK lenK capK vk V hl zk zhk)
  generalize certB hk tk vk = KB at *
  have qO : (O != O) = false := by simp
  have qG : (G != G) = false := by simp
  have qK : (KB != KB) = false := by simp
  obtain ⟨f0_c0, f0_c1, f0_c2, f0_c3, f0_c4, f0_c5⟩ := (unhide HXc10).facts
  obtain ⟨f0_t0, f0_t1, f0_t2, f0_t3⟩ := (unhide HXt10).facts
  obtain ⟨f0_p0, f0_p1, f0_p2, f0_p3⟩ := (unhide HXp10).facts
  obtain ⟨f0_q0, f0_q1, f0_q2, f0_q3⟩ := (unhide HXq10).facts
  obtain ⟨f0_k0, f0_k1, f0_k2, f0_k3, f0_k4, f0_k5⟩ := (unhide HXk10).facts
  go_region_held3 (fun y => y.cell? ⟨b1, 0, none⟩ = some (.string hc) ∧ y.cell? ⟨b1, 1, none⟩ = some (.int .i64 opC) ∧ y.cell? ⟨b1, 2, none⟩ = some (.int .i64 nC) ∧ y.cell? ⟨b1, 3, none⟩ = some (.string sC) ∧ y.cell? ⟨b1, 4, none⟩ = some (.slice aC lenC capC) ∧ y.cell? ⟨b1, 5, none⟩ = some (.int .i64 vc) ∧ y.cell? ⟨b2, 0, none⟩ = some (.int .i64 opT) ∧ y.cell? ⟨b2, 1, none⟩ = some (.int .i64 nT) ∧ y.cell? ⟨b2, 2, none⟩ = some (.string sT) ∧ y.cell? ⟨b2, 3, none⟩ = some (.slice aT lenT capT) ∧ y.cell? ⟨b7, 0, none⟩ = some (.int .i64 opP) ∧ y.cell? ⟨b7, 1, none⟩ = some (.int .i64 nP) ∧ y.cell? ⟨b7, 2, none⟩ = some (.string sP) ∧ y.cell? ⟨b7, 3, none⟩ = some (.slice aP lenP capP) ∧ y.cell? ⟨b8, 0, none⟩ = some (.int .i64 opQ) ∧ y.cell? ⟨b8, 1, none⟩ = some (.int .i64 nQ) ∧ y.cell? ⟨b8, 2, none⟩ = some (.string sQ) ∧ y.cell? ⟨b8, 3, none⟩ = some (.slice aQ lenQ capQ) ∧ y.cell? ⟨b9, 0, none⟩ = some (.string hk) ∧ y.cell? ⟨b9, 1, none⟩ = some (.int .i64 opK) ∧ y.cell? ⟨b9, 2, none⟩ = some (.int .i64 nK) ∧ y.cell? ⟨b9, 3, none⟩ = some (.string sK) ∧ y.cell? ⟨b9, 4, none⟩ = some (.slice aK lenK capK) ∧ y.cell? ⟨b9, 5, none⟩ = some (.int .i64 vk)) (go_keep)
    (first
      | (go_at_call 57
         have qq := C4
         clear qq
         refine (unhide g30 _ ((unhide HLk10).below (unhide C4))).mono ?_
         rintro e y5 ⟨rfl, hb5⟩
         have C5 := hide (btC (unhide C4) hb5)
         clear hb5 f4_c0 f4_c1 f4_c2 f4_c3 f4_c4 f4_c5 f4_t0 f4_t1 f4_t2 f4_t3 f4_p0 f4_p1 f4_p2 f4_p3 f4_q0 f4_q1 f4_q2 f4_q3 f4_k0 f4_k1 f4_k2 f4_k3 f4_k4 f4_k5
         obtain ⟨f5_c0, f5_c1, f5_c2, f5_c3, f5_c4, f5_c5⟩ := ((unhide HXc10).below (unhide C5)).facts
         obtain ⟨f5_t0, f5_t1, f5_t2, f5_t3⟩ := ((unhide HXt10).below (unhide C5)).facts
         obtain ⟨f5_p0, f5_p1, f5_p2, f5_p3⟩ := ((unhide HXp10).below (unhide C5)).facts
         obtain ⟨f5_q0, f5_q1, f5_q2, f5_q3⟩ := ((unhide HXq10).below (unhide C5)).facts
         obtain ⟨f5_k0, f5_k1, f5_k2, f5_k3, f5_k4, f5_k5⟩ := ((unhide HXk10).below (unhide C5)).facts)
      | (go_at_call 56
         have qq := C3
         clear qq
         refine (unhide g29 _ ((unhide HLk10).below (unhide C3))).mono ?_
         rintro e y4 ⟨rfl, hb4⟩
         have C4 := hide (btC (unhide C3) hb4)
         clear hb4 f3_c0 f3_c1 f3_c2 f3_c3 f3_c4 f3_c5 f3_t0 f3_t1 f3_t2 f3_t3 f3_p0 f3_p1 f3_p2 f3_p3 f3_q0 f3_q1 f3_q2 f3_q3 f3_k0 f3_k1 f3_k2 f3_k3 f3_k4 f3_k5
         obtain ⟨f4_c0, f4_c1, f4_c2, f4_c3, f4_c4, f4_c5⟩ := ((unhide HXc10).below (unhide C4)).facts
         obtain ⟨f4_t0, f4_t1, f4_t2, f4_t3⟩ := ((unhide HXt10).below (unhide C4)).facts
         obtain ⟨f4_p0, f4_p1, f4_p2, f4_p3⟩ := ((unhide HXp10).below (unhide C4)).facts
         obtain ⟨f4_q0, f4_q1, f4_q2, f4_q3⟩ := ((unhide HXq10).below (unhide C4)).facts
         obtain ⟨f4_k0, f4_k1, f4_k2, f4_k3, f4_k4, f4_k5⟩ := ((unhide HXk10).below (unhide C4)).facts)
      | (go_at_call 21
         have qq := C2
         clear qq
         refine (unhide g28b _ ((unhide HLp10).below (unhide C2)) ((unhide HLq10).below (unhide C2)) (by omega)).mono ?_
         rintro e y3 ⟨rfl, hb3⟩
         have C3 := hide (btC (unhide C2) hb3)
         clear hb3 f2_c0 f2_c1 f2_c2 f2_c3 f2_c4 f2_c5 f2_t0 f2_t1 f2_t2 f2_t3 f2_p0 f2_p1 f2_p2 f2_p3 f2_q0 f2_q1 f2_q2 f2_q3 f2_k0 f2_k1 f2_k2 f2_k3 f2_k4 f2_k5
         obtain ⟨f3_c0, f3_c1, f3_c2, f3_c3, f3_c4, f3_c5⟩ := ((unhide HXc10).below (unhide C3)).facts
         obtain ⟨f3_t0, f3_t1, f3_t2, f3_t3⟩ := ((unhide HXt10).below (unhide C3)).facts
         obtain ⟨f3_p0, f3_p1, f3_p2, f3_p3⟩ := ((unhide HXp10).below (unhide C3)).facts
         obtain ⟨f3_q0, f3_q1, f3_q2, f3_q3⟩ := ((unhide HXq10).below (unhide C3)).facts
         obtain ⟨f3_k0, f3_k1, f3_k2, f3_k3, f3_k4, f3_k5⟩ := ((unhide HXk10).below (unhide C3)).facts)
      | (go_at_call 21
         have qq := C1
         clear qq
         refine (unhide g28a opZ nZ sZ aZ lenZ capZ _ ((unhide HLt10).below (unhide C1)) (unhide HZ) (unhide HZT)).mono ?_
         rintro e y2 ⟨rfl, hb2⟩
         have C2 := hide (btC (unhide C1) hb2)
         clear hb2 f1_c0 f1_c1 f1_c2 f1_c3 f1_c4 f1_c5 f1_t0 f1_t1 f1_t2 f1_t3 f1_p0 f1_p1 f1_p2 f1_p3 f1_q0 f1_q1 f1_q2 f1_q3 f1_k0 f1_k1 f1_k2 f1_k3 f1_k4 f1_k5
         obtain ⟨f2_c0, f2_c1, f2_c2, f2_c3, f2_c4, f2_c5⟩ := ((unhide HXc10).below (unhide C2)).facts
         obtain ⟨f2_t0, f2_t1, f2_t2, f2_t3⟩ := ((unhide HXt10).below (unhide C2)).facts
         obtain ⟨f2_p0, f2_p1, f2_p2, f2_p3⟩ := ((unhide HXp10).below (unhide C2)).facts
         obtain ⟨f2_q0, f2_q1, f2_q2, f2_q3⟩ := ((unhide HXq10).below (unhide C2)).facts
         obtain ⟨f2_k0, f2_k1, f2_k2, f2_k3, f2_k4, f2_k5⟩ := ((unhide HXk10).below (unhide C2)).facts)
      | (go_at_call 41
         refine (unhide g8 _ ((unhide HLc10).below ((Below.refl _ _).drew))).mono ?_
         rintro e y1 ⟨opZ, nZ, sZ, aZ, lenZ, capZ, rfl, q1, hb1⟩
         have HZ := hide (q1.any (Nat.zero_le _))
         clear q1
         have C1 := hide (below_drewC hb1)
         clear hb1 f0_c0 f0_c1 f0_c2 f0_c3 f0_c4 f0_c5 f0_t0 f0_t1 f0_t2 f0_t3 f0_p0 f0_p1 f0_p2 f0_p3 f0_q0 f0_q1 f0_q2 f0_q3 f0_k0 f0_k1 f0_k2 f0_k3 f0_k4 f0_k5
         obtain ⟨f1_c0, f1_c1, f1_c2, f1_c3, f1_c4, f1_c5⟩ := ((unhide HXc10).below (unhide C1)).facts
         obtain ⟨f1_t0, f1_t1, f1_t2, f1_t3⟩ := ((unhide HXt10).below (unhide C1)).facts
         obtain ⟨f1_p0, f1_p1, f1_p2, f1_p3⟩ := ((unhide HXp10).below (unhide C1)).facts
         obtain ⟨f1_q0, f1_q1, f1_q2, f1_q3⟩ := ((unhide HXq10).below (unhide C1)).facts
         obtain ⟨f1_k0, f1_k1, f1_k2, f1_k3, f1_k4, f1_k5⟩ := ((unhide HXk10).below (unhide C1)).facts))
  clear f5_c0 f5_c1 f5_c2 f5_c3 f5_c4 f5_c5 f5_t0 f5_t1 f5_t2 f5_t3 f5_p0 f5_p1 f5_p2 f5_p3 f5_q0 f5_q1 f5_q2 f5_q3 f5_k0 f5_k1 f5_k2 f5_k3 f5_k4 f5_k5 g8 g28a g28b g29 g30 HZ
  have HB11 := hide (btC (unhide HB10) (unhide C5))
  have HLc11 := hide ((unhide HLc10).below (unhide C5))
  have HXc11 := hide ((unhide HXc10).below (unhide C5))
  have HLt11 := hide ((unhide HLt10).below (unhide C5))
  have HXt11 := hide ((unhide HXt10).below (unhide C5))
  have HLx11 := hide ((unhide HLx10).below (unhide C5))
  have HXx11 := hide ((unhide HXx10).below (unhide C5))
  have HLd11 := hide ((unhide HLd10).below (unhide C5))
  have HXd11 := hide ((unhide HXd10).below (unhide C5))
  clear HB10 C1 C2 C3 C4 C5 HLc10 HLt10 HLx10 HLd10 HLy10 HLp10 HLq10 HLk10 HXc10 HXt10 HXx10 HXd10 HXy10 HXp10 HXq10 HXk10 qO qG qK
  cases O with
  | false =>
    have HB12 := hide ((unhide HB11).drew)
    have HLc12 := hide ((unhide HLc11).below ((Below.refl _ _).drew))
    have HXc12 := hide ((unhide HXc11).below ((Below.refl _ _).drew))
    have HLt12 := hide ((unhide HLt11).below ((Below.refl _ _).drew))
    have HXt12 := hide ((unhide HXt11).below ((Below.refl _ _).drew))
    clear HB11 HLc11 HLt11 HLx11 HLd11 HXc11 HXt11 HXx11 HXd11
    go_wp2_with fail
    first
      | go_region_with fail
      | fail
    all_goals go_wp2_with fail
    all_goals (
      have g29 := hide (fun V hl => certI tc hc opC nC sC aC lenC capC vc V hl zc zh)
      obtain ⟨c0, c1, c2, c3, c4, c5⟩ := (unhide HXc12).facts
      cases hCB : certB hc tc vc with
      | false =>
        have hop : opT = 0 := zero_op (t := certT hc tc vc) (by have := unhide HLt12; unfold certTm at this; rw [hCB] at this; exact this)
        subst hop
        rw [hCB] at g29
        go_wp2_with fail
        refine (unhide g29 _ (unhide HLc12)).mono ?_
        rintro e z1 ⟨rfl, hb1⟩
        obtain ⟨t0, t1, t2, t3⟩ := ((unhide HXt12).below hb1).facts
        have HB20 := hide (btC (unhide HB12) hb1)
        clear hb1 c0 c1 c2 c3 c4 c5
        go_wp2_with fail
        go_ret
        exact ⟨rfl, unhide HB20⟩
      | true =>
        obtain ⟨q1, q2, q3⟩ := cert_good (unhide HCD) hCB
        have hv := (unhide HCD).2.2.2
        have w1 : wrap64 (vc + 1) = vc + 1 := by unfold wrap64; omega
        have zT : (certTm hc tc vc).size ≤ 61010 := by have := certTm_200 hc tc vc; omega
        have e1 := hide (fun V h1 h2 h3 h4 => good_one (certTm hc tc vc) hc vc zT true ⟨fun _ => rfl, fun _ => q1⟩ opT nT sT aT lenT capT x V h1 h2 h3 h4)
        have e2 := hide (fun V h1 h2 h3 h4 => good_one (certTm hc tc vc) hc (vc + 1) zT false ⟨fun h => absurd h q2, (fun h => by cases h)⟩ opT nT sT aT lenT capT x V h1 h2 h3 h4)
        have e3 := hide (fun V h1 h2 h3 h4 => good_one (certTm hc tc vc) ⟨#[122, 122, 46, 122, 122]⟩ 0 zT false ⟨fun h => absurd h q3, (fun h => by cases h)⟩ opT nT sT aT lenT capT x V h1 h2 h3 h4)
        rw [hCB] at g29
        clear q1 q2 q3 zT hCB
        go_wp2_with fail
        refine (unhide g29 _ (unhide HLc12)).mono ?_
        rintro e z1 ⟨rfl, hb1⟩
        have HB20 := hide (btC (unhide HB12) hb1)
        have HLt20 := hide ((unhide HLt12).below hb1)
        have HXt20 := hide ((unhide HXt12).below hb1)
        have HXc20 := hide ((unhide HXc12).below hb1)
        clear hb1 c0 c1 c2 c3 c4 c5
        obtain ⟨c0, c1, c2, c3, c4, c5⟩ := (unhide HXc20).facts
        obtain ⟨t0, t1, t2, t3⟩ := (unhide HXt20).facts
        go_wp2_with fail
        refine (unhide e1 _ (unhide HLt20) ((unhide HE).on (unhide HB20)) ((unhide HR).on (unhide HB20)) ((unhide HT).on (unhide HB20))).mono ?_
        rintro e z2 ⟨opA, nA, sA, aA, lenA, capA, rfl, hb2⟩
        have hb2' := btC hb2 (ab (.cells #[.int .i64 opA, .int .i64 nA, .string sA, .slice aA lenA capA] 29))
        have HB21 := hide (btC (unhide HB20) hb2')
        have HLt21 := hide ((unhide HLt20).below hb2')
        have HXt21 := hide ((unhide HXt20).below hb2')
        have HXc21 := hide ((unhide HXc20).below hb2')
        clear hb2 hb2' c0 c1 c2 c3 c4 c5 t0 t1 t2 t3
        obtain ⟨c0, c1, c2, c3, c4, c5⟩ := (unhide HXc21).facts
        obtain ⟨t0, t1, t2, t3⟩ := (unhide HXt21).facts
        go_wp2_with fail
        refine (unhide e2 _ (unhide HLt21) ((unhide HE).on (unhide HB21)) ((unhide HR).on (unhide HB21)) ((unhide HT).on (unhide HB21))).mono ?_
        rintro e z3 ⟨opB, nB, sB, aB, lenB, capB, rfl, hb3⟩
        have hb3' := btC hb3 (ab (.cells #[.int .i64 opB, .int .i64 nB, .string sB, .slice aB lenB capB] 29))
        have HB22 := hide (btC (unhide HB21) hb3')
        have HLt22 := hide ((unhide HLt21).below hb3')
        have HXt22 := hide ((unhide HXt21).below hb3')
        have HXc22 := hide ((unhide HXc21).below hb3')
        clear hb3 hb3' c0 c1 c2 c3 c4 c5 t0 t1 t2 t3
        obtain ⟨c0, c1, c2, c3, c4, c5⟩ := (unhide HXc22).facts
        obtain ⟨t0, t1, t2, t3⟩ := (unhide HXt22).facts
        go_wp2_with fail
        refine (unhide e3 _ (unhide HLt22) ((unhide HE).on (unhide HB22)) ((unhide HR).on (unhide HB22)) ((unhide HT).on (unhide HB22))).mono ?_
        rintro e z4 ⟨opF, nF, sF, aF, lenF, capF, rfl, hb4⟩
        have hb4' := btC hb4 (ab (.cells #[.int .i64 opF, .int .i64 nF, .string sF, .slice aF lenF capF] 29))
        have HB23 := hide (btC (unhide HB22) hb4')
        have HLt23 := hide ((unhide HLt22).below hb4')
        have HXt23 := hide ((unhide HXt22).below hb4')
        have HXc23 := hide ((unhide HXc22).below hb4')
        clear hb4 hb4' c0 c1 c2 c3 c4 c5 t0 t1 t2 t3
        obtain ⟨c0, c1, c2, c3, c4, c5⟩ := (unhide HXc23).facts
        obtain ⟨t0, t1, t2, t3⟩ := (unhide HXt23).facts
        go_wp2_with fail
        go_ret
        exact ⟨rfl, unhide HB23⟩)
  | true =>
    have HZX : Hid (X.size ≤ 2097152) := by show _ ≤ _; omega
    have g10 := hide (fun V hl ht he => certTI PD HD opD nD sD aD lenD capD VD V hl (by omega) (by omega) ht he)
    have hX := unhide HOX rfl
    rw [hX] at g10
    clear hX
    have g28 := hide (fun opZ nZ sZ aZ lenZ capZ V h1 h2 => same_yes X opZ nZ sZ aZ lenZ capZ opX nX sX aX lenX capX V h1 h2 (unhide HZX))
    obtain ⟨d0, d1, d2, d3, d4, d5⟩ := (unhide HXd11).facts
    obtain ⟨x0, x1, x2, x3⟩ := (unhide HXx11).facts
    go_wp2_with fail
    go_region_held3 (fun y => y.cell? ⟨b4, 0, none⟩ = some (.string HD) ∧ y.cell? ⟨b4, 1, none⟩ = some (.int .i64 opD) ∧ y.cell? ⟨b4, 2, none⟩ = some (.int .i64 nD) ∧ y.cell? ⟨b4, 3, none⟩ = some (.string sD) ∧ y.cell? ⟨b4, 4, none⟩ = some (.slice aD lenD capD) ∧ y.cell? ⟨b4, 5, none⟩ = some (.int .i64 VD) ∧ y.cell? ⟨b3, 0, none⟩ = some (.int .i64 opX) ∧ y.cell? ⟨b3, 1, none⟩ = some (.int .i64 nX) ∧ y.cell? ⟨b3, 2, none⟩ = some (.string sX) ∧ y.cell? ⟨b3, 3, none⟩ = some (.slice aX lenX capX)) (go_keep)
      (first
        | (go_at_call 21
           have qq := C1
           clear qq
           refine (unhide g28 opZ nZ sZ aZ lenZ capZ _ (unhide HZ) ((unhide HLx11).below (unhide C1))).mono ?_
           rintro e u2 ⟨rfl, hb2⟩
           have C2 := hide (btC (unhide C1) hb2)
           clear hb2 d0 d1 d2 d3 d4 d5 x0 x1 x2 x3
           obtain ⟨d0, d1, d2, d3, d4, d5⟩ := ((unhide HXd11).below (unhide C2)).facts
           obtain ⟨x0, x1, x2, x3⟩ := ((unhide HXx11).below (unhide C2)).facts)
        | (go_at_call 43
           refine (unhide g10 _ ((unhide HLd11).below ((Below.refl _ _).drew)) ((unhide HT).on (unhide HB11).drew) ⟨x, (unhide HE).on (unhide HB11).drew⟩).mono ?_
           rintro e u1 ⟨opZ, nZ, sZ, aZ, lenZ, capZ, fZ, rfl, hO, -, hb1⟩
           have HZ := hide hO.lies0
           have C1 := hide (below_drewC hb1)
           clear hO hb1 d0 d1 d2 d3 d4 d5 x0 x1 x2 x3
           obtain ⟨d0, d1, d2, d3, d4, d5⟩ := ((unhide HXd11).below (unhide C1)).facts
           obtain ⟨x0, x1, x2, x3⟩ := ((unhide HXx11).below (unhide C1)).facts))
    have HB12 := hide (btC (unhide HB11) (unhide C2))
    have HLc12 := hide ((unhide HLc11).below (unhide C2))
    have HXc12 := hide ((unhide HXc11).below (unhide C2))
    have HLt12 := hide ((unhide HLt11).below (unhide C2))
    have HXt12 := hide ((unhide HXt11).below (unhide C2))
    clear HB11 HLc11 HLt11 HLx11 HLd11 HXc11 HXt11 HXx11 HXd11 C1 C2 HZ d0 d1 d2 d3 d4 d5 x0 x1 x2 x3 g10 g28 HZX
    all_goals (
      have g29 := hide (fun V hl => certI tc hc opC nC sC aC lenC capC vc V hl zc zh)
      obtain ⟨c0, c1, c2, c3, c4, c5⟩ := (unhide HXc12).facts
      cases hCB : certB hc tc vc with
      | false =>
        have hop : opT = 0 := zero_op (t := certT hc tc vc) (by have := unhide HLt12; unfold certTm at this; rw [hCB] at this; exact this)
        subst hop
        rw [hCB] at g29
        go_wp2_with fail
        refine (unhide g29 _ (unhide HLc12)).mono ?_
        rintro e z1 ⟨rfl, hb1⟩
        obtain ⟨t0, t1, t2, t3⟩ := ((unhide HXt12).below hb1).facts
        have HB20 := hide (btC (unhide HB12) hb1)
        clear hb1 c0 c1 c2 c3 c4 c5
        go_wp2_with fail
        go_ret
        exact ⟨rfl, unhide HB20⟩
      | true =>
        obtain ⟨q1, q2, q3⟩ := cert_good (unhide HCD) hCB
        have hv := (unhide HCD).2.2.2
        have w1 : wrap64 (vc + 1) = vc + 1 := by unfold wrap64; omega
        have zT : (certTm hc tc vc).size ≤ 61010 := by have := certTm_200 hc tc vc; omega
        have e1 := hide (fun V h1 h2 h3 h4 => good_one (certTm hc tc vc) hc vc zT true ⟨fun _ => rfl, fun _ => q1⟩ opT nT sT aT lenT capT x V h1 h2 h3 h4)
        have e2 := hide (fun V h1 h2 h3 h4 => good_one (certTm hc tc vc) hc (vc + 1) zT false ⟨fun h => absurd h q2, (fun h => by cases h)⟩ opT nT sT aT lenT capT x V h1 h2 h3 h4)
        have e3 := hide (fun V h1 h2 h3 h4 => good_one (certTm hc tc vc) ⟨#[122, 122, 46, 122, 122]⟩ 0 zT false ⟨fun h => absurd h q3, (fun h => by cases h)⟩ opT nT sT aT lenT capT x V h1 h2 h3 h4)
        rw [hCB] at g29
        clear q1 q2 q3 zT hCB
        go_wp2_with fail
        refine (unhide g29 _ (unhide HLc12)).mono ?_
        rintro e z1 ⟨rfl, hb1⟩
        have HB20 := hide (btC (unhide HB12) hb1)
        have HLt20 := hide ((unhide HLt12).below hb1)
        have HXt20 := hide ((unhide HXt12).below hb1)
        have HXc20 := hide ((unhide HXc12).below hb1)
        clear hb1 c0 c1 c2 c3 c4 c5
        obtain ⟨c0, c1, c2, c3, c4, c5⟩ := (unhide HXc20).facts
        obtain ⟨t0, t1, t2, t3⟩ := (unhide HXt20).facts
        go_wp2_with fail
        refine (unhide e1 _ (unhide HLt20) ((unhide HE).on (unhide HB20)) ((unhide HR).on (unhide HB20)) ((unhide HT).on (unhide HB20))).mono ?_
        rintro e z2 ⟨opA, nA, sA, aA, lenA, capA, rfl, hb2⟩
        have hb2' := btC hb2 (ab (.cells #[.int .i64 opA, .int .i64 nA, .string sA, .slice aA lenA capA] 29))
        have HB21 := hide (btC (unhide HB20) hb2')
        have HLt21 := hide ((unhide HLt20).below hb2')
        have HXt21 := hide ((unhide HXt20).below hb2')
        have HXc21 := hide ((unhide HXc20).below hb2')
        clear hb2 hb2' c0 c1 c2 c3 c4 c5 t0 t1 t2 t3
        obtain ⟨c0, c1, c2, c3, c4, c5⟩ := (unhide HXc21).facts
        obtain ⟨t0, t1, t2, t3⟩ := (unhide HXt21).facts
        go_wp2_with fail
        refine (unhide e2 _ (unhide HLt21) ((unhide HE).on (unhide HB21)) ((unhide HR).on (unhide HB21)) ((unhide HT).on (unhide HB21))).mono ?_
        rintro e z3 ⟨opB, nB, sB, aB, lenB, capB, rfl, hb3⟩
        have hb3' := btC hb3 (ab (.cells #[.int .i64 opB, .int .i64 nB, .string sB, .slice aB lenB capB] 29))
        have HB22 := hide (btC (unhide HB21) hb3')
        have HLt22 := hide ((unhide HLt21).below hb3')
        have HXt22 := hide ((unhide HXt21).below hb3')
        have HXc22 := hide ((unhide HXc21).below hb3')
        clear hb3 hb3' c0 c1 c2 c3 c4 c5 t0 t1 t2 t3
        obtain ⟨c0, c1, c2, c3, c4, c5⟩ := (unhide HXc22).facts
        obtain ⟨t0, t1, t2, t3⟩ := (unhide HXt22).facts
        go_wp2_with fail
        refine (unhide e3 _ (unhide HLt22) ((unhide HE).on (unhide HB22)) ((unhide HR).on (unhide HB22)) ((unhide HT).on (unhide HB22))).mono ?_
        rintro e z4 ⟨opF, nF, sF, aF, lenF, capF, rfl, hb4⟩
        have hb4' := btC hb4 (ab (.cells #[.int .i64 opF, .int .i64 nF, .string sF, .slice aF lenF capF] 29))
        have HB23 := hide (btC (unhide HB22) hb4')
        have HLt23 := hide ((unhide HLt22).below hb4')
        have HXt23 := hide ((unhide HXt22).below hb4')
        have HXc23 := hide ((unhide HXc22).below hb4')
        clear hb4 hb4' c0 c1 c2 c3 c4 c5 t0 t1 t2 t3
        obtain ⟨c0, c1, c2, c3, c4, c5⟩ := (unhide HXc23).facts
        obtain ⟨t0, t1, t2, t3⟩ := (unhide HXt23).facts
        go_wp2_with fail
        go_ret
        exact ⟨rfl, unhide HB23⟩)
theorem lawCerts (ad : Option Addr) (ln cp : Nat) (w : World) (hB : Bytes w w.heap.size ad ln) (hlc : ln ≤ cp) (hr : Var12 w) (ht : Tab w) (he : Err w) :
    Calls Tryz.prog 8 #[.slice ad ln cp] w fun e w' => e = .returned (.bool true) ∧ Below w.heap.size w w' := by
  by_cases hl : ln ≤ 1048576
  · obtain ⟨x, hx⟩ := he
    exact lawCerts1 ad ln cp w hB hl hlc x hx hr ht
  · have hbig := hide (fun v => big_yes ad ln cp v hl)
    clear hB hr ht he
    go_enter Tryz.func8, Tryz.ntmps8
    go_wp2_with fail
    refine (unhide hbig _).mono ?_
    rintro e w0 ⟨rfl, rfl⟩
    go_wp2_with fail
    go_ret
    exact ⟨rfl, Below.refl _ _⟩

theorem cells5 : Tryz.prog.cellsOf 5 = 1 := by kernel_rfl

theorem u8_bounds {n : Int} (h : (Lit.int .u8 n).wf = true) : 0 ≤ n ∧ n < 256 := by
  simp only [Lit.wf, Bool.and_eq_true, decide_eq_true_eq] at h
  have h1 : (0 : Int) ≤ n := h.1
  have h2 : n ≤ (255 : Int) := h.2
  omega

set_option maxRecDepth 100000 in
/-- An argument that is a row of bytes, opened. -/
theorem open_code {H : Type} {enc : TypeId × Value → H} {W : World} {base : Nat} {v : Value} {d : DataW H} {p : List MemPlace} (hv : Value.okWide Tryz.prog W .any base 33 v) (h : DataW.Trod enc Tryz.prog W 0 (fun _ => true) true 33 v d p) :
    ∃ (a : Option Addr) (len cap : Nat), v = .slice a len cap ∧ len ≤ cap ∧ Bytes W W.heap.size a len := by
  obtain ⟨a1, len, cap, rfl⟩ := okWide_slice Tryz.underlying33 hv
  obtain ⟨fuel, hf⟩ := h
  rcases open_ints Tryz.underlying33 Tryz.underlying5 cells5 hf with ⟨hcs, hx⟩ | ⟨a, len', cap', zs, hcs, _, hl, hm, hz, hx, hcell, hwz⟩
  · simp [Value.cells] at hcs
    obtain ⟨rfl, rfl, rfl⟩ := hcs
    exact ⟨none, 0, 0, rfl, Nat.le_refl _, fun k hk => by omega⟩
  · simp [Value.cells] at hcs
    obtain ⟨rfl, rfl, rfl⟩ := hcs
    simp only [if_true] at hz
    refine ⟨some a, len, cap, rfl, hl, fun k hk => ?_⟩
    obtain ⟨b, off, rfl, hb⟩ := ints_at hcell (by omega)
    have hk' : k < zs.length := by omega
    have hc := hb k hk'
    refine ⟨b, off, zs.getD k 0, rfl, lt_of_cell hc, hc, u8_bounds (hwz _ ?_)⟩
    rw [List.getD_eq_getElem?_getD, List.getElem?_eq_getElem hk']
    exact List.getElem_mem hk'

set_option maxRecDepth 100000 in
theorem liftedCerts (os : Os) (started : os.Started) (H : Type) (enc : TypeId × Value → H) :
    ReturnsInHanded {} Tryz.checked os 8 .any (fun w args => (Rows.fnCertsSpec.pre enc Tryz.prog Tryz.f8 Rows.fnCertsRow.domain false w args ∧ laidMetH Tryz.prog laid6 w) ∧ sizedMet enc Tryz.prog Tryz.f8 (OpenSpec.ofChange Rows.fnCertsSpec) false w args)
      (Rows.fnCertsSpec.post enc Tryz.prog Tryz.f8 false true false false) := by
  refine returnsInHanded_of_change_and (C := Tryz.checked) (X := fun w _ => laidMetH Tryz.prog laid6 w) (fun _ _ _ hh h => h.of_heap hh) own started (by kernel_rfl) Tryz.func8
    (ChangeSpec.witness_shaped (enc := enc) (C := Tryz.checked) (os := os) (X := fun w _ => laidMetH Tryz.prog laid6 w) false (World.doorLaid Tryz.prog 400 os) #[.slice none 0 0] 8 rfl (World.shaped_of_RefB (by kernel_rfl) (by kernel_rfl)) (by kernel_rfl) (by kernel_rfl) (by kernel_rfl) (door6_met os _)) ?_
  intro W base args ds gs before hval0 hW _ _ hL _
  have hval : ∀ (j : Nat) t v, Tryz.f8.params[j]? = some t → args[j]? = some v → Value.okWide Tryz.prog W .any base t v := hval0
  have hW' := hW
  obtain ⟨p, q, hA0, hV0, rfl, hfz, hnd⟩ := hW
  have hA : DataW.TrodAll enc Tryz.prog W 0 (fun _ => true) true Tryz.f8.params.toList args.toList ds p := hA0
  have hV : DataW.TrodVars enc Tryz.prog W (fun _ => true) ["loop.example/g00328/impl.errNoTerm"] gs q := hV0
  rw [Tryz.params8] at hA hval
  obtain ⟨v0, vs0, d0, ds0, p0, q0, hargs, rfl, rfl, h0, r0⟩ := trodAll_cons hA
  obtain ⟨rfl, rfl, rfl⟩ := trodAll_nil r0
  obtain rfl : args = #[v0] := by cases args; simp_all
  obtain ⟨x, hx⟩ := err_of_laid6 hL
  obtain ⟨rfl, rfl⟩ := hV.unique (err_read enc hx _)
  have k0 := h0
  have lt0 : ∀ x ∈ p0, x.block < W.heap.size := by obtain ⟨m, hm⟩ := k0; exact DataW.trod_lt m _ _ _ hm
  obtain ⟨a, len, cap, rfl, hlc, hby⟩ := open_code (hval 0 33 v0 rfl rfl) h0
  clear hA0 hV0 hval0
  refine (lawCerts a len cap W hby hlc (var12_of_laid6 hL) (tab_of_laid6 hL) (err_of_var hx)).mono fun e W' ⟨he, bel⟩ => ?_
  subst he
  exact ⟨_, rfl, _, _, _, [], _, [.cell 0 0], hW', trodAll_mk1 (shut_bool Tryz.underlying4 _), (trodAll_cons_mk (Below.trod laidOut (by kernel_rfl) (of_decide_eq_true (by kernel_rfl)) k0 bel lt0) trodAll_mk0), err_read enc (var?_below hx bel) _, bel.frame _, fun h => by cases h⟩

theorem certs_row : Rows.FnCertsSaid :=
  OpenClaim.holds_of_wide 8 Tryz.f8 rfl rfl rfl rfl rfl rfl rfl ⟨rfl, rfl, rfl, rfl, rfl⟩ rfl rfl rfl rfl rfl (by kernel_rfl) Tryz.func8 (by kernel_rfl)
    (of_decide_eq_true (by kernel_rfl)) (by unfold Func.isWrapper; first | (rw [if_pos (by decide +kernel)]; kernel_rfl) | (rw [if_neg (by decide +kernel)]; exact ⟨rfl, rfl⟩))
    (fun os started H enc _ => liftedCerts os started H enc)

theorem certs_card : Rows.FnCertsCardSaid :=
  Claim7.holds_tied_plain_at .later [] [.data, .data, .data, .sentinel, .sentinel, .sentinel] true (true, "e8177ddee3f55aa707513c47d48fb0d87aa2972828b52ff62a33273e57772c3c") true
    certs_row (fun _ h => by cases h) (by kernel_rfl) (fun _ h => by cases h) fnCerts_row_tie rfl ⟨rfl, rfl⟩ (by kernel_rfl) rfl
    (fun f fn hf hfn => by
      obtain rfl : f = 8 := Option.some.inj ((show Tryz.prog.funcNamed "loop.example/g00328/laws.FnCerts" = some 8 by kernel_rfl).symm.trans hf) |>.symm
      obtain rfl : fn = Tryz.f8 := (Option.some.inj (Tryz.func8.symm.trans hfn)).symm
      exact ⟨by kernel_rfl, fun j t ht => by
        rw [Tryz.params8] at ht
        have hm : t ∈ [33] := by have := Array.mem_of_getElem? ht; simp at this ⊢; first | exact this | omega
        have hall : ([33].all fun u => !Tryz.prog.wantsStandIn u) = true := by kernel_rfl
        exact (show Tryz.prog.wantsStandIn t = false by simpa using List.all_eq_true.1 hall t hm)⟩)
    (by kernel_rfl)
#print axioms certs_card

end Go.Proofs.YtlepdkbkiajkiaaGreatDoor
