/- The walk of laws.FnLetters: whatever the code, it answers true; nothing that was there is written. -/
import Derived.Test.YtpemiphhmihfoaaYh
import Derived.Laws.StructEq
namespace Go.Proofs.Ytpemiphhmihfoaa
open Go.RowKit Go.Deep

set_option maxRecDepth 100000 in
theorem big_no (a : Option Addr) (len cap : Nat) (w : World) (hb : len ≤ 1048576) :
    Calls Try.prog 4 #[.slice a len cap] w fun e w' => e = .returned (.bool false) ∧ w' = w := by
  have c : ¬ (1048576 : Int) < (len : Int) := by omega
  go_enter Try.func4, Try.ntmps4
  go_wp2_with fail
  go_ret
  exact ⟨rfl, rfl⟩
set_option maxRecDepth 100000 in
theorem big_yes (a : Option Addr) (len cap : Nat) (w : World) (hb : ¬ len ≤ 1048576) :
    Calls Try.prog 4 #[.slice a len cap] w fun e w' => e = .returned (.bool true) ∧ w' = w := by
  have c : (1048576 : Int) < (len : Int) := by omega
  go_enter Try.func4, Try.ntmps4
  go_wp2_with fail
  go_ret
  exact ⟨rfl, rfl⟩
theorem Bytes.on {w w' : World} {a : Option Addr} {len : Nat} (h : Bytes w w.heap.size a len) (hb : Below w.heap.size w w') : Bytes w' w'.heap.size a len := fun k hk => by
  obtain ⟨b, o, z, h1, h2, h3, h4⟩ := h k hk
  exact ⟨b, o, z, h1, by have := hb.size; omega, below_some hb h3, h4⟩
theorem unsL : Try.prog.underlying 25 = some (.struct (Try.prog.fieldsOf 25)) := by kernel_rfl
theorem stoL : Try.prog.stoodInHeld 25 = false := by kernel_rfl
set_option maxRecDepth 100000 in
theorem neqL (d : ByteArray) (b s t n : Int) (z : World) : (binOp BinOp.neq 25 (.agg #[.string d, .int .i64 b, .int .i64 s, .int .i64 t, .int .i64 n]) (.agg #[.string d, .int .i64 b, .int .i64 s, .int .i64 t, .int .i64 n])).run Try.prog z = .ok (.bool false) z := by
  rw [run_neq_struct, run_equalIn_struct z 9999 25 _ _ unsL stoL]
  simp [go_sem, Try.underlying25, Try.underlying9, Try.underlying3]
set_option maxRecDepth 100000 in
theorem eqlL (d : ByteArray) (b s t n : Int) (z : World) : (binOp BinOp.eql 25 (.agg #[.string d, .int .i64 b, .int .i64 s, .int .i64 t, .int .i64 n]) (.agg #[.string d, .int .i64 b, .int .i64 s, .int .i64 t, .int .i64 n])).run Try.prog z = .ok (.bool true) z := by
  rw [run_eql_struct, run_equalIn_struct z 9999 25 _ _ unsL stoL]
  simp [go_sem, Try.underlying25, Try.underlying9, Try.underlying3]
theorem try_ok {d : ByteArray} {b s t n : Int} {now : Int} (h : tryB d b s t n now = true) : letB d b s (tryT d b s t n now) (tryN d b s t n now) = true ∧ tryT d b s t n now = t + 1 ∧ n ≤ tryN d b s t n now ∧ (now < tryN d b s t n now ∨ now = 100000) ∧ s = 1 ∧ (0 ≤ t ∧ t ≤ 3) := by
  obtain ⟨h1, h2⟩ := tryB_iff.1 h
  obtain ⟨k1, k2, k3, k4, k5⟩ := letB_iff.1 h1
  obtain ⟨e1, e2⟩ := try_yes h
  have hp : 20 ≤ pauseZ t ∧ pauseZ t ≤ 160 := by unfold pauseZ; split <;> (try split) <;> (try split) <;> omega
  have e3 : tryN d b s t n now ≤ 100000 ∧ n ≤ tryN d b s t n now ∧ (now < tryN d b s t n now ∨ now = 100000) := by
    rw [e2]; split <;> omega
  rw [e1]
  exact ⟨letB_iff.2 ⟨k1, k2, k3, by omega, by omega⟩, rfl, e3.2.1, e3.2.2, h2.1, by omega⟩
theorem belDrew {w v : World} (h : Below w.drew.heap.size w.drew v) : Below w.heap.size w v := ((Below.refl _ _).drew).trans h
theorem endX_twice (s : Int) (g h : Bool) : endX (endX s g) h = endX s g := by
  by_cases e : s = 1
  · subst e
    cases g <;> cases h <;> rfl
  · rw [endX_no g e, endX_no h e]

set_option maxRecDepth 100000 in
set_option maxHeartbeats 4000000 in
theorem lawL1 (a : Option Addr) (len cap : Nat) (w : World) (hB : Bytes w w.heap.size a len) (hl : len ≤ 1048576) (hlc : len ≤ cap) :
    Calls Try.prog 3 #[.slice a len cap] w fun e w' => e = .returned (.bool true) ∧ Below w.heap.size w w' := by
  have hbig := hide (fun v => big_no a len cap v hl)
  have h5 := hide (fun v h => drawTry a len cap v h hl hlc)
  have h8 := hide (fun v h => drawEnd a len cap v h hl hlc)
  have h10 := hide (fun v h => drawSp a len cap v h hl hlc)
  have h11 := hide (fun v h => drawOk a len cap v h hl hlc)
  have HBY := hide hB
  clear hB
  go_enter Try.func3, Try.ntmps3
  go_wp2_with fail
  refine (unhide hbig _).mono ?_
  rintro e w0 ⟨rfl, rfl⟩
  go_wp2_with fail
  refine (unhide h5 _ (unhide HBY)).mono ?_
  rintro e x0 ⟨d, b, s, t, n, now, rfl, hd, hb0⟩
  have hq0 := abP (.cells #[.string d, .int .i64 b, .int .i64 s, .int .i64 t, .int .i64 n] 25) (w := x0)
  have HB0 := hide (btP hb0 hq0)
  have HL := hide (RowL.new 25 x0 d b s t n)
  clear hb0 hq0
  have h6 := hide (fun v => tryI d b s t n now v (by omega))
  have h7 := hide (fun v => tryS d b s t n now v (by omega))
  obtain ⟨ok, hok⟩ : ∃ ok, ok = tryB d b s t n now := ⟨_, rfl⟩
  obtain ⟨tt, htt⟩ : ∃ tt, tt = tryT d b s t n now := ⟨_, rfl⟩
  obtain ⟨tn, htn⟩ : ∃ tn, tn = tryN d b s t n now := ⟨_, rfl⟩
  rw [← hok, ← htt, ← htn] at h6 h7
  have HOK := hide hok
  have HTT := hide htt
  have HTN := hide htn
  clear hok htt htn
  go_wp2_with fail
  refine (unhide h6 _).mono ?_
  rintro e x1 ⟨rfl, hb1⟩
  have hq1 := abP (.cells #[.string d, .int .i64 b, .int .i64 s, .int .i64 tt, .int .i64 tn] 25) (w := x1)
  have HB1 := hide (btP (btP (unhide HB0) hb1) hq1)
  have HL1 := hide (((unhide HL).below hb1).below hq1)
  have HA := hide (RowL.new 25 x1 d b s tt tn)
  clear hb1 hq1 HL HB0
  obtain ⟨c0, c1, c2, c3, c4⟩ := (unhide HL1).facts
  go_wp2_with fail
  refine (unhide h7 _).mono ?_
  rintro e x2 ⟨rfl, hb2⟩
  have hq2 := abP (.cells #[.string d, .int .i64 b, .int .i64 s, .int .i64 tt, .int .i64 tn] 25) (w := x2)
  have HB2 := hide (btP (btP (unhide HB1) hb2) hq2)
  have HL2 := hide (((unhide HL1).below hb2).below hq2)
  have HA2 := hide (((unhide HA).below hb2).below hq2)
  have HV2 := hide (RowL.new 25 x2 d b s tt tn)
  clear hb2 hq2 HL1 HB1 HA c0 c1 c2 c3 c4
  go_wp2_with fail
  refine (unhide h8 _ ((unhide HBY).on (unhide HB2))).mono ?_
  rintro e x3 ⟨dm, bm, sm, tm, nm, g, rfl, hdm, hb3⟩
  have hq3 := abP (.cells #[.string dm, .int .i64 bm, .int .i64 sm, .int .i64 tm, .int .i64 nm] 25) (w := x3)
  have HB3 := hide (btP (btP (unhide HB2) hb3) hq3)
  have HL3 := hide (((unhide HL2).below hb3).below hq3)
  have HA3 := hide (((unhide HA2).below hb3).below hq3)
  have HV3 := hide (((unhide HV2).below hb3).below hq3)
  have HM3 := hide (RowL.new 25 x3 dm bm sm tm nm)
  clear hb3 hq3 HL2 HB2 HA2 HV2
  have h9 := hide (fun v => endI dm bm sm tm nm g v (by omega))
  have h12 := hide (fun v => endS dm bm sm tm nm g v)
  have h9b := hide (fun v => endI dm bm (endX sm g) tm nm (!g) v (by omega))
  rw [endX_twice] at h9b
  generalize endX sm g = es at *
  go_wp2_with fail
  refine (unhide h9 _).mono ?_
  rintro e x4 ⟨rfl, hb4⟩
  have hq4 := abP (.cells #[.string dm, .int .i64 bm, .int .i64 es, .int .i64 tm, .int .i64 nm] 25) (w := x4)
  have HB4 := hide (btP (btP (unhide HB3) hb4) hq4)
  have HL4 := hide (((unhide HL3).below hb4).below hq4)
  have HA4 := hide (((unhide HA3).below hb4).below hq4)
  have HV4 := hide (((unhide HV3).below hb4).below hq4)
  have HM4 := hide (((unhide HM3).below hb4).below hq4)
  have HE4 := hide (RowL.new 25 x4 dm bm es tm nm)
  clear hb4 hq4 HL3 HB3 HA3 HV3 HM3
  go_wp2_with fail
  refine (unhide h10 _ ((unhide HBY).on (unhide HB4))).mono ?_
  rintro e x5 ⟨ds, bs, ss, ts, ns, nw, rfl, hds, hb5⟩
  have hq5 := abP (.cells #[.string ds, .int .i64 bs, .int .i64 ss, .int .i64 ts, .int .i64 ns] 25) (w := x5)
  have HB5 := hide (btP (btP (unhide HB4) hb5) hq5)
  have HL5 := hide (((unhide HL4).below hb5).below hq5)
  have HA5 := hide (((unhide HA4).below hb5).below hq5)
  have HV5 := hide (((unhide HV4).below hb5).below hq5)
  have HM5 := hide (((unhide HM4).below hb5).below hq5)
  have HE5 := hide (((unhide HE4).below hb5).below hq5)
  have HS5 := hide (RowL.new 25 x5 ds bs ss ts ns)
  clear hb5 hq5 HL4 HB4 HA4 HV4 HM4 HE4
  go_wp2_with fail
  refine (unhide h11 _ ((unhide HBY).on (unhide HB5))).mono ?_
  rintro e x6 ⟨dk, bk, sk, tk, nk, rfl, hdk, hb6⟩
  have hq6 := abP (.cells #[.string dk, .int .i64 bk, .int .i64 sk, .int .i64 tk, .int .i64 nk] 25) (w := x6)
  have HB6 := hide (btP (btP (unhide HB5) hb6) hq6)
  have HL6 := hide (((unhide HL5).below hb6).below hq6)
  have HA6 := hide (((unhide HA5).below hb6).below hq6)
  have HV6 := hide (((unhide HV5).below hb6).below hq6)
  have HM6 := hide (((unhide HM5).below hb6).below hq6)
  have HE6 := hide (((unhide HE5).below hb6).below hq6)
  have HS6 := hide (((unhide HS5).below hb6).below hq6)
  have HK6 := hide (RowL.new 25 x6 dk bk sk tk nk)
  clear hb6 hq6 HL5 HB5 HA5 HV5 HM5 HE5 HS5 h5 h8 h10 h11 hbig HBY
  have h13 := hide (fun v => spentI ds bs ss ts ns nw v)
  have h14 := hide (fun v => spentS ds bs ss ts ns nw v)
  have h15 := hide (fun v => okI dk bk sk tk nk v (by omega))
  have h16 := hide (fun v => okS dk bk sk tk nk v (by omega))
  have h15a := hide (fun v => okI d b s tt tn v (by omega))
  generalize spentB ss ts ns nw = sp at *
  generalize letB dk bk sk tk nk = lk at *
  have hn1 : (ok != ok) = false := by simp
  have hn2 : (sp != sp) = false := by simp
  have hn3 : (lk != lk) = false := by simp
  go_wp2_with fail
  generalize x6.alloc (.cells #[.string dk, .int .i64 bk, .int .i64 sk, .int .i64 tk, .int .i64 nk] 25) = X at *
  generalize x0.heap.size = p0 at *
  generalize x1.heap.size = p1 at *
  generalize x2.heap.size = p2 at *
  generalize x3.heap.size = p3 at *
  generalize x4.heap.size = p4 at *
  generalize x5.heap.size = p5 at *
  generalize x6.heap.size = p6 at *
  have hnab := fun z => neqL d b s tt tn z
  have hnes := fun z => neqL dm bm es tm nm z
  obtain ⟨f0_10, f0_11, f0_12, f0_13, f0_14⟩ := (unhide HA6).facts
  obtain ⟨f0_20, f0_21, f0_22, f0_23, f0_24⟩ := (unhide HV6).facts
  obtain ⟨f0_30, f0_31, f0_32, f0_33, f0_34⟩ := (unhide HM6).facts
  obtain ⟨f0_40, f0_41, f0_42, f0_43, f0_44⟩ := (unhide HE6).facts
  obtain ⟨f0_50, f0_51, f0_52, f0_53, f0_54⟩ := (unhide HS6).facts
  obtain ⟨f0_60, f0_61, f0_62, f0_63, f0_64⟩ := (unhide HK6).facts
  go_region_held3 (fun x => x.cell? ⟨p1, 0, none⟩ = some (.string d) ∧ x.cell? ⟨p1, 1, none⟩ = some (.int .i64 b) ∧ x.cell? ⟨p1, 2, none⟩ = some (.int .i64 s) ∧ x.cell? ⟨p1, 3, none⟩ = some (.int .i64 tt) ∧ x.cell? ⟨p1, 4, none⟩ = some (.int .i64 tn) ∧ x.cell? ⟨p2, 0, none⟩ = some (.string d) ∧ x.cell? ⟨p2, 1, none⟩ = some (.int .i64 b) ∧ x.cell? ⟨p2, 2, none⟩ = some (.int .i64 s) ∧ x.cell? ⟨p2, 3, none⟩ = some (.int .i64 tt) ∧ x.cell? ⟨p2, 4, none⟩ = some (.int .i64 tn) ∧ x.cell? ⟨p3, 0, none⟩ = some (.string dm) ∧ x.cell? ⟨p3, 1, none⟩ = some (.int .i64 bm) ∧ x.cell? ⟨p3, 2, none⟩ = some (.int .i64 sm) ∧ x.cell? ⟨p3, 3, none⟩ = some (.int .i64 tm) ∧ x.cell? ⟨p3, 4, none⟩ = some (.int .i64 nm) ∧ x.cell? ⟨p4, 0, none⟩ = some (.string dm) ∧ x.cell? ⟨p4, 1, none⟩ = some (.int .i64 bm) ∧ x.cell? ⟨p4, 2, none⟩ = some (.int .i64 es) ∧ x.cell? ⟨p4, 3, none⟩ = some (.int .i64 tm) ∧ x.cell? ⟨p4, 4, none⟩ = some (.int .i64 nm) ∧ x.cell? ⟨p5, 0, none⟩ = some (.string ds) ∧ x.cell? ⟨p5, 1, none⟩ = some (.int .i64 bs) ∧ x.cell? ⟨p5, 2, none⟩ = some (.int .i64 ss) ∧ x.cell? ⟨p5, 3, none⟩ = some (.int .i64 ts) ∧ x.cell? ⟨p5, 4, none⟩ = some (.int .i64 ns) ∧ x.cell? ⟨p6, 0, none⟩ = some (.string dk) ∧ x.cell? ⟨p6, 1, none⟩ = some (.int .i64 bk) ∧ x.cell? ⟨p6, 2, none⟩ = some (.int .i64 sk) ∧ x.cell? ⟨p6, 3, none⟩ = some (.int .i64 tk) ∧ x.cell? ⟨p6, 4, none⟩ = some (.int .i64 nk)) (go_keep)
    (first
      | (go_at_call 12
         refine (unhide h12 _).mono ?_
         rintro e y1 ⟨rfl, hb1⟩
         have C1 := hide (belDrew hb1)
         clear hb1 f0_10 f0_11 f0_12 f0_13 f0_14 f0_20 f0_21 f0_22 f0_23 f0_24 f0_30 f0_31 f0_32 f0_33 f0_34 f0_40 f0_41 f0_42 f0_43 f0_44 f0_50 f0_51 f0_52 f0_53 f0_54 f0_60 f0_61 f0_62 f0_63 f0_64
         obtain ⟨f1_10, f1_11, f1_12, f1_13, f1_14⟩ := ((unhide HA6).below (unhide C1)).facts
         obtain ⟨f1_20, f1_21, f1_22, f1_23, f1_24⟩ := ((unhide HV6).below (unhide C1)).facts
         obtain ⟨f1_30, f1_31, f1_32, f1_33, f1_34⟩ := ((unhide HM6).below (unhide C1)).facts
         obtain ⟨f1_40, f1_41, f1_42, f1_43, f1_44⟩ := ((unhide HE6).below (unhide C1)).facts
         obtain ⟨f1_50, f1_51, f1_52, f1_53, f1_54⟩ := ((unhide HS6).below (unhide C1)).facts
         obtain ⟨f1_60, f1_61, f1_62, f1_63, f1_64⟩ := ((unhide HK6).below (unhide C1)).facts)
      | (go_at_call 13
         have qq := C1
         clear qq
         refine (unhide h13 _).mono ?_
         rintro e y2 ⟨rfl, hb2⟩
         have C2 := hide (btP (unhide C1) hb2)
         clear hb2 f1_10 f1_11 f1_12 f1_13 f1_14 f1_20 f1_21 f1_22 f1_23 f1_24 f1_30 f1_31 f1_32 f1_33 f1_34 f1_40 f1_41 f1_42 f1_43 f1_44 f1_50 f1_51 f1_52 f1_53 f1_54 f1_60 f1_61 f1_62 f1_63 f1_64
         obtain ⟨f2_10, f2_11, f2_12, f2_13, f2_14⟩ := ((unhide HA6).below (unhide C2)).facts
         obtain ⟨f2_20, f2_21, f2_22, f2_23, f2_24⟩ := ((unhide HV6).below (unhide C2)).facts
         obtain ⟨f2_30, f2_31, f2_32, f2_33, f2_34⟩ := ((unhide HM6).below (unhide C2)).facts
         obtain ⟨f2_40, f2_41, f2_42, f2_43, f2_44⟩ := ((unhide HE6).below (unhide C2)).facts
         obtain ⟨f2_50, f2_51, f2_52, f2_53, f2_54⟩ := ((unhide HS6).below (unhide C2)).facts
         obtain ⟨f2_60, f2_61, f2_62, f2_63, f2_64⟩ := ((unhide HK6).below (unhide C2)).facts)
      | (go_at_call 14
         have qq := C2
         clear qq
         refine (unhide h14 _).mono ?_
         rintro e y3 ⟨rfl, hb3⟩
         have C3 := hide (btP (unhide C2) hb3)
         clear hb3 f2_10 f2_11 f2_12 f2_13 f2_14 f2_20 f2_21 f2_22 f2_23 f2_24 f2_30 f2_31 f2_32 f2_33 f2_34 f2_40 f2_41 f2_42 f2_43 f2_44 f2_50 f2_51 f2_52 f2_53 f2_54 f2_60 f2_61 f2_62 f2_63 f2_64
         obtain ⟨f3_10, f3_11, f3_12, f3_13, f3_14⟩ := ((unhide HA6).below (unhide C3)).facts
         obtain ⟨f3_20, f3_21, f3_22, f3_23, f3_24⟩ := ((unhide HV6).below (unhide C3)).facts
         obtain ⟨f3_30, f3_31, f3_32, f3_33, f3_34⟩ := ((unhide HM6).below (unhide C3)).facts
         obtain ⟨f3_40, f3_41, f3_42, f3_43, f3_44⟩ := ((unhide HE6).below (unhide C3)).facts
         obtain ⟨f3_50, f3_51, f3_52, f3_53, f3_54⟩ := ((unhide HS6).below (unhide C3)).facts
         obtain ⟨f3_60, f3_61, f3_62, f3_63, f3_64⟩ := ((unhide HK6).below (unhide C3)).facts)
      | (go_at_call 15
         have qq := C3
         clear qq
         refine (unhide h15 _).mono ?_
         rintro e y4 ⟨rfl, hb4⟩
         have C4 := hide (btP (unhide C3) hb4)
         clear hb4 f3_10 f3_11 f3_12 f3_13 f3_14 f3_20 f3_21 f3_22 f3_23 f3_24 f3_30 f3_31 f3_32 f3_33 f3_34 f3_40 f3_41 f3_42 f3_43 f3_44 f3_50 f3_51 f3_52 f3_53 f3_54 f3_60 f3_61 f3_62 f3_63 f3_64
         obtain ⟨f4_10, f4_11, f4_12, f4_13, f4_14⟩ := ((unhide HA6).below (unhide C4)).facts
         obtain ⟨f4_20, f4_21, f4_22, f4_23, f4_24⟩ := ((unhide HV6).below (unhide C4)).facts
         obtain ⟨f4_30, f4_31, f4_32, f4_33, f4_34⟩ := ((unhide HM6).below (unhide C4)).facts
         obtain ⟨f4_40, f4_41, f4_42, f4_43, f4_44⟩ := ((unhide HE6).below (unhide C4)).facts
         obtain ⟨f4_50, f4_51, f4_52, f4_53, f4_54⟩ := ((unhide HS6).below (unhide C4)).facts
         obtain ⟨f4_60, f4_61, f4_62, f4_63, f4_64⟩ := ((unhide HK6).below (unhide C4)).facts)
      | (go_at_call 16
         have qq := C4
         clear qq
         refine (unhide h16 _).mono ?_
         rintro e y5 ⟨rfl, hb5⟩
         have C5 := hide (btP (unhide C4) hb5)
         clear hb5 f4_10 f4_11 f4_12 f4_13 f4_14 f4_20 f4_21 f4_22 f4_23 f4_24 f4_30 f4_31 f4_32 f4_33 f4_34 f4_40 f4_41 f4_42 f4_43 f4_44 f4_50 f4_51 f4_52 f4_53 f4_54 f4_60 f4_61 f4_62 f4_63 f4_64
         obtain ⟨f5_10, f5_11, f5_12, f5_13, f5_14⟩ := ((unhide HA6).below (unhide C5)).facts
         obtain ⟨f5_20, f5_21, f5_22, f5_23, f5_24⟩ := ((unhide HV6).below (unhide C5)).facts
         obtain ⟨f5_30, f5_31, f5_32, f5_33, f5_34⟩ := ((unhide HM6).below (unhide C5)).facts
         obtain ⟨f5_40, f5_41, f5_42, f5_43, f5_44⟩ := ((unhide HE6).below (unhide C5)).facts
         obtain ⟨f5_50, f5_51, f5_52, f5_53, f5_54⟩ := ((unhide HS6).below (unhide C5)).facts
         obtain ⟨f5_60, f5_61, f5_62, f5_63, f5_64⟩ := ((unhide HK6).below (unhide C5)).facts))
  have C5' := hide (btP (unhide HB6) (unhide C5))
  clear f5_10 f5_11 f5_12 f5_13 f5_14 f5_20 f5_21 f5_22 f5_23 f5_24 f5_30 f5_31 f5_32 f5_33 f5_34 f5_40 f5_41 f5_42 f5_43 f5_44 f5_50 f5_51 f5_52 f5_53 f5_54 f5_60 f5_61 f5_62 f5_63 f5_64
  have HE5 := hide ((unhide HE6).below (unhide C5))
  obtain ⟨e0, e1, e2, e3, e4⟩ := (unhide HE5).facts
  go_wp2_with fail
  go_region_held3 (fun x => x.cell? ⟨p4, 0, none⟩ = some (.string dm) ∧ x.cell? ⟨p4, 1, none⟩ = some (.int .i64 bm) ∧ x.cell? ⟨p4, 2, none⟩ = some (.int .i64 es) ∧ x.cell? ⟨p4, 3, none⟩ = some (.int .i64 tm) ∧ x.cell? ⟨p4, 4, none⟩ = some (.int .i64 nm)) (go_keep)
    (first
      | (go_at_call 9
         refine (unhide h9b _).mono ?_
         rintro e y6 ⟨rfl, hb6⟩
         have C6 := hide (btP (unhide C5) (belDrew hb6))
         clear hb6 e0 e1 e2 e3 e4
         obtain ⟨e0, e1, e2, e3, e4⟩ := ((unhide HE6).below (unhide C6)).facts))
  have B6 := hide (btP (unhide HB6) (unhide C6))
  obtain ⟨a0, a1, a2, a3, a4⟩ := ((unhide HA6).below (unhide C6)).facts
  obtain ⟨l0, l1, l2, l3, l4⟩ := ((unhide HL6).below (unhide C6)).facts
  clear e0 e1 e2 e3 e4 hnab hnes
  cases ok with
  | false =>
    obtain ⟨-, q1, q2⟩ := try_no (d := d) (b := b) (s := s) (t := t) (n := n) (now := now) (by rw [← unhide HOK]; decide)
    obtain rfl : tt = t := (unhide HTT).trans q1
    obtain rfl : tn = n := (unhide HTN).trans q2
    clear q1 q2
    have hea := fun z => eqlL d b s tt tn z
    go_wp2_with fail
    go_ret
    exact ⟨rfl, unhide B6⟩
  | true =>
    obtain ⟨q0, q1, q2, q3, q4, q5⟩ := try_ok (unhide HOK).symm
    rw [← unhide HTT, ← unhide HTN] at q0
    rw [← unhide HTT] at q1
    rw [← unhide HTN] at q2 q3
    subst q4
    rw [q0] at h15a
    have q6 : wrap64 (t + 1) = tt := by rw [q1]; unfold wrap64; omega
    have q7 : (tt == tt) = true := by simp
    clear q0 q1 q5
    by_cases q8 : now < tn
    · go_wp2_with fail
      refine (unhide h15a _).mono ?_
      rintro e y7 ⟨rfl, hb7⟩
      have B7 := hide (btP (unhide B6) hb7)
      have C7 := hide (btP (unhide C6) hb7)
      clear hb7 a0 l0 a1 l1 a2 l2 a3 l3 a4 l4
      obtain ⟨a0, a1, a2, a3, a4⟩ := ((unhide HA6).below (unhide C7)).facts
      obtain ⟨l0, l1, l2, l3, l4⟩ := ((unhide HL6).below (unhide C7)).facts
      go_wp2_with fail
      go_ret
      exact ⟨retB (by simp), unhide B7⟩
    · have q9 : now = 100000 := by omega
      subst q9
      go_wp2_with fail
      refine (unhide h15a _).mono ?_
      rintro e y7 ⟨rfl, hb7⟩
      have B7 := hide (btP (unhide B6) hb7)
      have C7 := hide (btP (unhide C6) hb7)
      clear hb7 a0 l0 a1 l1 a2 l2 a3 l3 a4 l4
      obtain ⟨a0, a1, a2, a3, a4⟩ := ((unhide HA6).below (unhide C7)).facts
      obtain ⟨l0, l1, l2, l3, l4⟩ := ((unhide HL6).below (unhide C7)).facts
      go_wp2_with fail
      go_ret
      exact ⟨retB (by simp), unhide B7⟩

set_option maxRecDepth 100000 in
set_option maxHeartbeats 4000000 in
theorem lawLetters (a : Option Addr) (len cap : Nat) (w : World) (hB : Bytes w w.heap.size a len) (hlc : len ≤ cap) :
    Calls Try.prog 3 #[.slice a len cap] w fun e w' => e = .returned (.bool true) ∧ Below w.heap.size w w' := by
  by_cases hl : len ≤ 1048576
  · exact lawL1 a len cap w hB hl hlc
  · have hbig := hide (fun v => big_yes a len cap v hl)
    clear hB
    go_enter Try.func3, Try.ntmps3
    go_wp2_with fail
    refine (unhide hbig _).mono ?_
    rintro e w0 ⟨rfl, rfl⟩
    go_wp2_with fail
    go_ret
    exact ⟨rfl, Below.refl _ _⟩

end Go.Proofs.Ytpemiphhmihfoaa
