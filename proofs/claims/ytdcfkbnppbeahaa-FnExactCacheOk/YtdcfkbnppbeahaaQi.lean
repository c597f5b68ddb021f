/- The walk of impl.CacheOk. -/
import Derived.Test.YtdcfkbnppbeahaaQk
namespace Go.Proofs.Ytdcfkbnppbeahaa
open Go.RowKit Go.Deep

theorem cacheB_many {P : List Pol} (h : 10 < P.length) : cacheB P = false := cacheB_no fun hh => by have := hh.1; omega

set_option maxRecDepth 100000 in
set_option maxHeartbeats 1000000 in
theorem cacheI (P : List Pol) (a : Option Addr) (cap : Nat) (w : World) (hl : Pols w 0 a P) (hm : P.length ≤ 2097152) (hz : ∀ p ∈ P, polZ p) :
    Calls Try.prog 15 #[.slice a P.length cap] w fun e w' => e = .returned (.bool (cacheB P)) ∧ Below w.heap.size w w' := by
  by_cases h10 : 10 < P.length
  · have c10 : (10 : Int) < (P.length : Int) := by omega
    have HE := hide (cacheB_many h10)
    clear hl hz h10
    generalize P.length = len at *
    go_enter Try.func15, Try.ntmps15
    go_wp2_with fail
    go_ret
    exact ⟨retB (unhide HE), Below.refl _ _⟩
  have H := hide hl
  have HZ := hide hz
  have HT10 : Hid (P.length ≤ 10) := by show _ ≤ _; omega
  have c10 : ¬ (10 : Int) < (P.length : Int) := by omega
  clear hl hz h10
  generalize hlen : P.length = len at *
  have HL : Hid (P.length = len) := hlen
  clear hlen
  go_enter Try.func15, Try.ntmps15
  go_wp2_with fail
  go_loopw [10] (fun n wr => ∃ k : Nat, n = .int .i64 (k : Int) ∧ Below w.heap.size w wr ∧ k ≤ len ∧ upTo P k) (fun n _ => len - (intOf n).toNat)
  case atStart => exact ⟨0, rfl, Below.refl _ _, by omega, upTo.zero P⟩
  case round =>
    obtain ⟨k, rfl, hb, hk, hu⟩ := hrel
    have HB := hide hb
    have HU := hide hu
    by_cases hp : k < len
    · have hp' : k < P.length := by have := HL.out; omega
      obtain ⟨p, hkp⟩ : ∃ p, P[k]? = some p := ⟨_, List.getElem?_eq_getElem hp'⟩
      obtain ⟨b, o, x, xc, rfl, -, -, c0, c1, c2, c3, hT⟩ := ((unhide H).on hb).elem hkp
      have hbx : Below wr.heap.size wr (wr.alloc (.cells #[.string p.d, .int .i64 p.m, .slice x p.l.length xc, .int .i64 p.u] 27)) := abP _
      have HBX := hide hbx
      have HT := hide ((hT.on hbx).on (Below.refl _ _).drew)
      obtain ⟨r0, r1, r2, r3⟩ := (RowP.new 27 wr p.d p.m x p.l.length xc p.u).facts
      have hpz := unhide HZ p (List.mem_of_getElem? hkp)
      have hct := hide (fun v hv => polI p.l p.d p.m x xc p.u v hv hpz.1 hpz.2.1 hpz.2.2)
      have q2 : (k : Int) < (len : Int) := by omega
      have q3 : (0 : Int) ≤ (k : Int) := by omega
      have w1 : wrap64 ((k : Int) + 1) = ((k + 1 : Nat) : Int) := by unfold wrap64; omega
      have HK : Hid (P[k]? = some p) := hkp
      have hO : polB p.l p.d p.m p.u = okP p := rfl
      rw [hO] at hct
      clear hb hT hu hpz hO hkp
      cases hO : okP p with
      | false =>
        have HE := hide (cacheB_bad (unhide HK) hO)
        rw [hO] at hct
        clear hO hbx
        go_wp2_with fail
        generalize hVV : wr.alloc (.cells #[.string p.d, .int .i64 p.m, .slice x p.l.length xc, .int .i64 p.u] 27) = V at *
        refine wp_region_held (S := fun y => y.cell? ⟨wr.heap.size, 0, none⟩ = some (.string p.d) ∧ y.cell? ⟨wr.heap.size, 1, none⟩ = some (.int .i64 p.m) ∧ y.cell? ⟨wr.heap.size, 2, none⟩ = some (.slice x p.l.length xc) ∧ y.cell? ⟨wr.heap.size, 3, none⟩ = some (.int .i64 p.u)) Try.mixedO ?_
        have hS : (fun y : World => y.cell? ⟨wr.heap.size, 0, none⟩ = some (.string p.d) ∧ y.cell? ⟨wr.heap.size, 1, none⟩ = some (.int .i64 p.m) ∧ y.cell? ⟨wr.heap.size, 2, none⟩ = some (.slice x p.l.length xc) ∧ y.cell? ⟨wr.heap.size, 3, none⟩ = some (.int .i64 p.u)) V.drew := ⟨r0, r1, r2, r3⟩
        show wpAnyH _ _ _ _ _ _ _ _ V.drew
        refine wpAnyH_take (i := 0) (oi := { dst := some 15, op := Op.load 27 (Operand.tmp 4), type := 27, pos := "l07_cache.go:36", after := #[], guard := none }) (v := ?_) rfl (by kernel_rfl) (by kernel_rfl) (by kernel_rfl) (fun _ _ _ h => h) (Or.inl ⟨by rfl, ?_⟩) hS ?_
        rotate_left
        · intro y hSy; obtain ⟨y0, y1, y2, y3⟩ := hSy; go_simp; try with_reducible rfl
        simp only [Act.put, List.setIfInBounds_toArray, List.set_cons_succ, List.set_cons_zero]
        refine wpAnyH_all (rs := [1]) (by kernel_rfl) (by simp) ?_
        intro i hi
        simp only [List.mem_singleton] at hi
        subst hi
        refine step_call (f := 10) (fn := Try.f10) (d := 16) (args := #[.agg #[.string p.d, .int .i64 p.m, .slice x p.l.length xc, .int .i64 p.u]]) rfl Try.func10 (by kernel_rfl) (by kernel_rfl) (by simp [Act.eval]) ?_
        refine (unhide hct _ (unhide HT)).mono ?_
        rintro e w2 ⟨rfl, hb2⟩
        refine ⟨_, rfl, ?_⟩
        have hS2 : (fun y : World => y.cell? ⟨wr.heap.size, 0, none⟩ = some (.string p.d) ∧ y.cell? ⟨wr.heap.size, 1, none⟩ = some (.int .i64 p.m) ∧ y.cell? ⟨wr.heap.size, 2, none⟩ = some (.slice x p.l.length xc) ∧ y.cell? ⟨wr.heap.size, 3, none⟩ = some (.int .i64 p.u)) w2 := ⟨below_some (below_drewQ hb2) r0, below_some (below_drewQ hb2) r1, below_some (below_drewQ hb2) r2, below_some (below_drewQ hb2) r3⟩
        have HB2 := hide (btP (btP (unhide HB) (unhide HBX)) (below_drewQ hb2))
        clear hb2 hS
        refine ⟨hS2, ?_⟩
        simp only [Act.put, List.setIfInBounds_toArray, List.set_cons_succ, List.set_cons_zero]
        refine wpAnyH_take (i := 2) (oi := { dst := some 17, op := Op.unOp UnOp.not 4 (Operand.tmp 16), type := 4, pos := "l07_cache.go:36", after := #[{ on := 1, ground := Ground.data }], guard := none }) (v := ?_) rfl (by kernel_rfl) (by kernel_rfl) (by kernel_rfl) (fun _ _ _ h => h) (Or.inl ⟨by rfl, ?_⟩) hS2 ?_
        rotate_left
        · intro y hSy; obtain ⟨y0, y1, y2, y3⟩ := hSy; go_simp; try with_reducible rfl
        simp only [Act.put, List.setIfInBounds_toArray, List.set_cons_succ, List.set_cons_zero]
        refine wpAnyH_take (i := 3) (oi := { dst := some 18, op := Op.move (Operand.tmp 17), type := 4, pos := "l07_cache.go:36", after := #[{ on := 2, ground := Ground.data }, { on := 1, ground := Ground.chain }], guard := none }) (v := ?_) rfl (by kernel_rfl) (by kernel_rfl) (by kernel_rfl) (fun _ _ _ h => h) (Or.inl ⟨by rfl, ?_⟩) hS2 ?_
        rotate_left
        · intro y hSy; obtain ⟨y0, y1, y2, y3⟩ := hSy; go_simp; try with_reducible rfl
        simp only [Act.put, List.setIfInBounds_toArray, List.set_cons_succ, List.set_cons_zero]
        refine wpAnyH_take (i := 4) (oi := { dst := some 19, op := Op.move (Operand.tmp 3), type := 3, pos := "l07_cache.go:36", after := #[{ on := 3, ground := Ground.guard }], guard := some (3, false) }) (v := undef) rfl (by kernel_rfl) (by kernel_rfl) (by kernel_rfl) (fun _ _ _ h => h) (Or.inr ⟨by rfl, rfl⟩) hS2 ?_
        simp only [Act.put, List.setIfInBounds_toArray, List.set_cons_succ, List.set_cons_zero]
        refine wpAnyH_take (i := 5) (oi := { dst := some 20, op := Op.binOp BinOp.gtr 3 (Operand.tmp 19) (Operand.const (Value.int IntKind.i64 0)) 3, type := 4, pos := "l07_cache.go:36", after := #[{ on := 4, ground := Ground.data }, { on := 3, ground := Ground.guard }], guard := some (3, false) }) (v := undef) rfl (by kernel_rfl) (by kernel_rfl) (by kernel_rfl) (fun _ _ _ h => h) (Or.inr ⟨by rfl, rfl⟩) hS2 ?_
        simp only [Act.put, List.setIfInBounds_toArray, List.set_cons_succ, List.set_cons_zero]
        refine wpAnyH_take (i := 6) (oi := { dst := some 21, op := Op.move (Operand.tmp 20), type := 4, pos := "l07_cache.go:36", after := #[{ on := 5, ground := Ground.data }, { on := 3, ground := Ground.chain }, { on := 3, ground := Ground.guard }], guard := some (3, false) }) (v := undef) rfl (by kernel_rfl) (by kernel_rfl) (by kernel_rfl) (fun _ _ _ h => h) (Or.inr ⟨by rfl, rfl⟩) hS2 ?_
        simp only [Act.put, List.setIfInBounds_toArray, List.set_cons_succ, List.set_cons_zero]
        refine wpAnyH_take (i := 7) (oi := { dst := some 22, op := Op.move (Operand.tmp 0), type := 34, pos := "l07_cache.go:36", after := #[{ on := 6, ground := Ground.guard }], guard := some (6, true) }) (v := undef) rfl (by kernel_rfl) (by kernel_rfl) (by kernel_rfl) (fun _ _ _ h => h) (Or.inr ⟨by rfl, rfl⟩) hS2 ?_
        simp only [Act.put, List.setIfInBounds_toArray, List.set_cons_succ, List.set_cons_zero]
        refine wpAnyH_take (i := 8) (oi := { dst := some 23, op := Op.move (Operand.tmp 3), type := 3, pos := "l07_cache.go:36", after := #[{ on := 6, ground := Ground.guard }], guard := some (6, true) }) (v := undef) rfl (by kernel_rfl) (by kernel_rfl) (by kernel_rfl) (fun _ _ _ h => h) (Or.inr ⟨by rfl, rfl⟩) hS2 ?_
        simp only [Act.put, List.setIfInBounds_toArray, List.set_cons_succ, List.set_cons_zero]
        refine wpAnyH_take (i := 9) (oi := { dst := some 24, op := Op.binOp BinOp.sub 3 (Operand.tmp 23) (Operand.const (Value.int IntKind.i64 1)) 3, type := 3, pos := "l07_cache.go:36", after := #[{ on := 8, ground := Ground.data }, { on := 6, ground := Ground.guard }], guard := some (6, true) }) (v := undef) rfl (by kernel_rfl) (by kernel_rfl) (by kernel_rfl) (fun _ _ _ h => h) (Or.inr ⟨by rfl, rfl⟩) hS2 ?_
        simp only [Act.put, List.setIfInBounds_toArray, List.set_cons_succ, List.set_cons_zero]
        refine wpAnyH_take (i := 10) (oi := { dst := some 25, op := Op.indexAddr 34 (Operand.tmp 22) (Operand.tmp 24), type := 0, pos := "l07_cache.go:36", after := #[{ on := 7, ground := Ground.data }, { on := 9, ground := Ground.data }, { on := 6, ground := Ground.guard }], guard := some (6, true) }) (v := undef) rfl (by kernel_rfl) (by kernel_rfl) (by kernel_rfl) (fun _ _ _ h => h) (Or.inr ⟨by rfl, rfl⟩) hS2 ?_
        simp only [Act.put, List.setIfInBounds_toArray, List.set_cons_succ, List.set_cons_zero]
        refine wpAnyH_take (i := 11) (oi := { dst := some 26, op := Op.fieldAddr 27 (Operand.tmp 25) 0, type := 0, pos := "l07_cache.go:36", after := #[{ on := 10, ground := Ground.data }, { on := 6, ground := Ground.guard }], guard := some (6, true) }) (v := undef) rfl (by kernel_rfl) (by kernel_rfl) (by kernel_rfl) (fun _ _ _ h => h) (Or.inr ⟨by rfl, rfl⟩) hS2 ?_
        simp only [Act.put, List.setIfInBounds_toArray, List.set_cons_succ, List.set_cons_zero]
        refine wpAnyH_take (i := 12) (oi := { dst := some 27, op := Op.load 9 (Operand.tmp 26), type := 9, pos := "l07_cache.go:36", after := #[{ on := 11, ground := Ground.data }, { on := 6, ground := Ground.guard }], guard := some (6, true) }) (v := undef) rfl (by kernel_rfl) (by kernel_rfl) (by kernel_rfl) (fun _ _ _ h => h) (Or.inr ⟨by rfl, rfl⟩) hS2 ?_
        simp only [Act.put, List.setIfInBounds_toArray, List.set_cons_succ, List.set_cons_zero]
        refine wpAnyH_take (i := 13) (oi := { dst := some 28, op := Op.fieldAddr 27 (Operand.tmp 4) 0, type := 0, pos := "l07_cache.go:36", after := #[{ on := 6, ground := Ground.guard }], guard := some (6, true) }) (v := undef) rfl (by kernel_rfl) (by kernel_rfl) (by kernel_rfl) (fun _ _ _ h => h) (Or.inr ⟨by rfl, rfl⟩) hS2 ?_
        simp only [Act.put, List.setIfInBounds_toArray, List.set_cons_succ, List.set_cons_zero]
        refine wpAnyH_take (i := 14) (oi := { dst := some 29, op := Op.load 9 (Operand.tmp 28), type := 9, pos := "l07_cache.go:36", after := #[{ on := 13, ground := Ground.data }, { on := 6, ground := Ground.guard }], guard := some (6, true) }) (v := undef) rfl (by kernel_rfl) (by kernel_rfl) (by kernel_rfl) (fun _ _ _ h => h) (Or.inr ⟨by rfl, rfl⟩) hS2 ?_
        simp only [Act.put, List.setIfInBounds_toArray, List.set_cons_succ, List.set_cons_zero]
        refine wpAnyH_take (i := 15) (oi := { dst := some 30, op := Op.binOp BinOp.geq 9 (Operand.tmp 27) (Operand.tmp 29) 9, type := 4, pos := "l07_cache.go:36", after := #[{ on := 12, ground := Ground.data }, { on := 14, ground := Ground.data }, { on := 6, ground := Ground.guard }], guard := some (6, true) }) (v := undef) rfl (by kernel_rfl) (by kernel_rfl) (by kernel_rfl) (fun _ _ _ h => h) (Or.inr ⟨by rfl, rfl⟩) hS2 ?_
        simp only [Act.put, List.setIfInBounds_toArray, List.set_cons_succ, List.set_cons_zero]
        refine wpAnyH_take (i := 16) (oi := { dst := some 31, op := Op.pick (Operand.tmp 21) (Operand.tmp 30) (Operand.const (Value.bool false)), type := 4, pos := "l07_cache.go:36", after := #[{ on := 6, ground := Ground.data }, { on := 15, ground := Ground.data }, { on := 3, ground := Ground.guard }], guard := some (3, false) }) (v := undef) rfl (by kernel_rfl) (by kernel_rfl) (by kernel_rfl) (fun _ _ _ h => h) (Or.inr ⟨by rfl, rfl⟩) hS2 ?_
        simp only [Act.put, List.setIfInBounds_toArray, List.set_cons_succ, List.set_cons_zero]
        refine wpAnyH_take (i := 17) (oi := { dst := some 32, op := Op.pick (Operand.tmp 18) (Operand.const (Value.bool true)) (Operand.tmp 31), type := 4, pos := "l07_cache.go:36", after := #[{ on := 3, ground := Ground.data }, { on := 16, ground := Ground.data }], guard := none }) (v := ?_) rfl (by kernel_rfl) (by kernel_rfl) (by kernel_rfl) (fun _ _ _ h => h) (Or.inl ⟨by rfl, ?_⟩) hS2 ?_
        rotate_left
        · intro y hSy; obtain ⟨y0, y1, y2, y3⟩ := hSy; go_simp; try with_reducible rfl
        simp only [Act.put, List.setIfInBounds_toArray, List.set_cons_succ, List.set_cons_zero]
        refine wpAnyH_done (by kernel_rfl) ?_ _
        go_wp2_with fail
        go_ret
        exact ⟨retB (unhide HE), unhide HB2⟩
      | true =>
        rw [hO] at hct
        rcases Nat.eq_zero_or_pos k with rfl | hkp
        · have HN := hide (upTo.one (unhide HK) hO)
          rw [Nat.zero_mul, Nat.add_zero] at c0 c1 c2 c3
          clear hO hbx
          go_wp2_with fail
          generalize hVV : wr.alloc (.cells #[.string p.d, .int .i64 p.m, .slice x p.l.length xc, .int .i64 p.u] 27) = V at *
          refine wp_region_held (S := fun y => y.cell? ⟨wr.heap.size, 0, none⟩ = some (.string p.d) ∧ y.cell? ⟨wr.heap.size, 1, none⟩ = some (.int .i64 p.m) ∧ y.cell? ⟨wr.heap.size, 2, none⟩ = some (.slice x p.l.length xc) ∧ y.cell? ⟨wr.heap.size, 3, none⟩ = some (.int .i64 p.u)) Try.mixedO ?_
          have hS : (fun y : World => y.cell? ⟨wr.heap.size, 0, none⟩ = some (.string p.d) ∧ y.cell? ⟨wr.heap.size, 1, none⟩ = some (.int .i64 p.m) ∧ y.cell? ⟨wr.heap.size, 2, none⟩ = some (.slice x p.l.length xc) ∧ y.cell? ⟨wr.heap.size, 3, none⟩ = some (.int .i64 p.u)) V.drew := ⟨r0, r1, r2, r3⟩
          show wpAnyH _ _ _ _ _ _ _ _ V.drew
          refine wpAnyH_take (i := 0) (oi := { dst := some 15, op := Op.load 27 (Operand.tmp 4), type := 27, pos := "l07_cache.go:36", after := #[], guard := none }) (v := ?_) rfl (by kernel_rfl) (by kernel_rfl) (by kernel_rfl) (fun _ _ _ h => h) (Or.inl ⟨by rfl, ?_⟩) hS ?_
          rotate_left
          · intro y hSy; obtain ⟨y0, y1, y2, y3⟩ := hSy; go_simp; try with_reducible rfl
          simp only [Act.put, List.setIfInBounds_toArray, List.set_cons_succ, List.set_cons_zero]
          refine wpAnyH_all (rs := [1]) (by kernel_rfl) (by simp) ?_
          intro i hi
          simp only [List.mem_singleton] at hi
          subst hi
          refine step_call (f := 10) (fn := Try.f10) (d := 16) (args := #[.agg #[.string p.d, .int .i64 p.m, .slice x p.l.length xc, .int .i64 p.u]]) rfl Try.func10 (by kernel_rfl) (by kernel_rfl) (by simp [Act.eval]) ?_
          refine (unhide hct _ (unhide HT)).mono ?_
          rintro e w2 ⟨rfl, hb2⟩
          refine ⟨_, rfl, ?_⟩
          have hS2 : (fun y : World => y.cell? ⟨wr.heap.size, 0, none⟩ = some (.string p.d) ∧ y.cell? ⟨wr.heap.size, 1, none⟩ = some (.int .i64 p.m) ∧ y.cell? ⟨wr.heap.size, 2, none⟩ = some (.slice x p.l.length xc) ∧ y.cell? ⟨wr.heap.size, 3, none⟩ = some (.int .i64 p.u)) w2 := ⟨below_some (below_drewQ hb2) r0, below_some (below_drewQ hb2) r1, below_some (below_drewQ hb2) r2, below_some (below_drewQ hb2) r3⟩
          have HB2 := hide (btP (btP (unhide HB) (unhide HBX)) (below_drewQ hb2))
          clear hb2 hS
          refine ⟨hS2, ?_⟩
          simp only [Act.put, List.setIfInBounds_toArray, List.set_cons_succ, List.set_cons_zero]
          refine wpAnyH_take (i := 2) (oi := { dst := some 17, op := Op.unOp UnOp.not 4 (Operand.tmp 16), type := 4, pos := "l07_cache.go:36", after := #[{ on := 1, ground := Ground.data }], guard := none }) (v := ?_) rfl (by kernel_rfl) (by kernel_rfl) (by kernel_rfl) (fun _ _ _ h => h) (Or.inl ⟨by rfl, ?_⟩) hS2 ?_
          rotate_left
          · intro y hSy; obtain ⟨y0, y1, y2, y3⟩ := hSy; go_simp; try with_reducible rfl
          simp only [Act.put, List.setIfInBounds_toArray, List.set_cons_succ, List.set_cons_zero]
          refine wpAnyH_take (i := 3) (oi := { dst := some 18, op := Op.move (Operand.tmp 17), type := 4, pos := "l07_cache.go:36", after := #[{ on := 2, ground := Ground.data }, { on := 1, ground := Ground.chain }], guard := none }) (v := ?_) rfl (by kernel_rfl) (by kernel_rfl) (by kernel_rfl) (fun _ _ _ h => h) (Or.inl ⟨by rfl, ?_⟩) hS2 ?_
          rotate_left
          · intro y hSy; obtain ⟨y0, y1, y2, y3⟩ := hSy; go_simp; try with_reducible rfl
          simp only [Act.put, List.setIfInBounds_toArray, List.set_cons_succ, List.set_cons_zero]
          refine wpAnyH_take (i := 4) (oi := { dst := some 19, op := Op.move (Operand.tmp 3), type := 3, pos := "l07_cache.go:36", after := #[{ on := 3, ground := Ground.guard }], guard := some (3, false) }) (v := ?_) rfl (by kernel_rfl) (by kernel_rfl) (by kernel_rfl) (fun _ _ _ h => h) (Or.inl ⟨by rfl, ?_⟩) hS2 ?_
          rotate_left
          · intro y hSy; obtain ⟨y0, y1, y2, y3⟩ := hSy; go_simp; try with_reducible rfl
          simp only [Act.put, List.setIfInBounds_toArray, List.set_cons_succ, List.set_cons_zero]
          refine wpAnyH_take (i := 5) (oi := { dst := some 20, op := Op.binOp BinOp.gtr 3 (Operand.tmp 19) (Operand.const (Value.int IntKind.i64 0)) 3, type := 4, pos := "l07_cache.go:36", after := #[{ on := 4, ground := Ground.data }, { on := 3, ground := Ground.guard }], guard := some (3, false) }) (v := ?_) rfl (by kernel_rfl) (by kernel_rfl) (by kernel_rfl) (fun _ _ _ h => h) (Or.inl ⟨by rfl, ?_⟩) hS2 ?_
          rotate_left
          · intro y hSy; obtain ⟨y0, y1, y2, y3⟩ := hSy; go_simp; try with_reducible rfl
          simp only [Act.put, List.setIfInBounds_toArray, List.set_cons_succ, List.set_cons_zero]
          refine wpAnyH_take (i := 6) (oi := { dst := some 21, op := Op.move (Operand.tmp 20), type := 4, pos := "l07_cache.go:36", after := #[{ on := 5, ground := Ground.data }, { on := 3, ground := Ground.chain }, { on := 3, ground := Ground.guard }], guard := some (3, false) }) (v := ?_) rfl (by kernel_rfl) (by kernel_rfl) (by kernel_rfl) (fun _ _ _ h => h) (Or.inl ⟨by rfl, ?_⟩) hS2 ?_
          rotate_left
          · intro y hSy; obtain ⟨y0, y1, y2, y3⟩ := hSy; go_simp; try with_reducible rfl
          simp only [Act.put, List.setIfInBounds_toArray, List.set_cons_succ, List.set_cons_zero]
          refine wpAnyH_take (i := 7) (oi := { dst := some 22, op := Op.move (Operand.tmp 0), type := 34, pos := "l07_cache.go:36", after := #[{ on := 6, ground := Ground.guard }], guard := some (6, true) }) (v := undef) rfl (by kernel_rfl) (by kernel_rfl) (by kernel_rfl) (fun _ _ _ h => h) (Or.inr ⟨by rfl, rfl⟩) hS2 ?_
          simp only [Act.put, List.setIfInBounds_toArray, List.set_cons_succ, List.set_cons_zero]
          refine wpAnyH_take (i := 8) (oi := { dst := some 23, op := Op.move (Operand.tmp 3), type := 3, pos := "l07_cache.go:36", after := #[{ on := 6, ground := Ground.guard }], guard := some (6, true) }) (v := undef) rfl (by kernel_rfl) (by kernel_rfl) (by kernel_rfl) (fun _ _ _ h => h) (Or.inr ⟨by rfl, rfl⟩) hS2 ?_
          simp only [Act.put, List.setIfInBounds_toArray, List.set_cons_succ, List.set_cons_zero]
          refine wpAnyH_take (i := 9) (oi := { dst := some 24, op := Op.binOp BinOp.sub 3 (Operand.tmp 23) (Operand.const (Value.int IntKind.i64 1)) 3, type := 3, pos := "l07_cache.go:36", after := #[{ on := 8, ground := Ground.data }, { on := 6, ground := Ground.guard }], guard := some (6, true) }) (v := undef) rfl (by kernel_rfl) (by kernel_rfl) (by kernel_rfl) (fun _ _ _ h => h) (Or.inr ⟨by rfl, rfl⟩) hS2 ?_
          simp only [Act.put, List.setIfInBounds_toArray, List.set_cons_succ, List.set_cons_zero]
          refine wpAnyH_take (i := 10) (oi := { dst := some 25, op := Op.indexAddr 34 (Operand.tmp 22) (Operand.tmp 24), type := 0, pos := "l07_cache.go:36", after := #[{ on := 7, ground := Ground.data }, { on := 9, ground := Ground.data }, { on := 6, ground := Ground.guard }], guard := some (6, true) }) (v := undef) rfl (by kernel_rfl) (by kernel_rfl) (by kernel_rfl) (fun _ _ _ h => h) (Or.inr ⟨by rfl, rfl⟩) hS2 ?_
          simp only [Act.put, List.setIfInBounds_toArray, List.set_cons_succ, List.set_cons_zero]
          refine wpAnyH_take (i := 11) (oi := { dst := some 26, op := Op.fieldAddr 27 (Operand.tmp 25) 0, type := 0, pos := "l07_cache.go:36", after := #[{ on := 10, ground := Ground.data }, { on := 6, ground := Ground.guard }], guard := some (6, true) }) (v := undef) rfl (by kernel_rfl) (by kernel_rfl) (by kernel_rfl) (fun _ _ _ h => h) (Or.inr ⟨by rfl, rfl⟩) hS2 ?_
          simp only [Act.put, List.setIfInBounds_toArray, List.set_cons_succ, List.set_cons_zero]
          refine wpAnyH_take (i := 12) (oi := { dst := some 27, op := Op.load 9 (Operand.tmp 26), type := 9, pos := "l07_cache.go:36", after := #[{ on := 11, ground := Ground.data }, { on := 6, ground := Ground.guard }], guard := some (6, true) }) (v := undef) rfl (by kernel_rfl) (by kernel_rfl) (by kernel_rfl) (fun _ _ _ h => h) (Or.inr ⟨by rfl, rfl⟩) hS2 ?_
          simp only [Act.put, List.setIfInBounds_toArray, List.set_cons_succ, List.set_cons_zero]
          refine wpAnyH_take (i := 13) (oi := { dst := some 28, op := Op.fieldAddr 27 (Operand.tmp 4) 0, type := 0, pos := "l07_cache.go:36", after := #[{ on := 6, ground := Ground.guard }], guard := some (6, true) }) (v := undef) rfl (by kernel_rfl) (by kernel_rfl) (by kernel_rfl) (fun _ _ _ h => h) (Or.inr ⟨by rfl, rfl⟩) hS2 ?_
          simp only [Act.put, List.setIfInBounds_toArray, List.set_cons_succ, List.set_cons_zero]
          refine wpAnyH_take (i := 14) (oi := { dst := some 29, op := Op.load 9 (Operand.tmp 28), type := 9, pos := "l07_cache.go:36", after := #[{ on := 13, ground := Ground.data }, { on := 6, ground := Ground.guard }], guard := some (6, true) }) (v := undef) rfl (by kernel_rfl) (by kernel_rfl) (by kernel_rfl) (fun _ _ _ h => h) (Or.inr ⟨by rfl, rfl⟩) hS2 ?_
          simp only [Act.put, List.setIfInBounds_toArray, List.set_cons_succ, List.set_cons_zero]
          refine wpAnyH_take (i := 15) (oi := { dst := some 30, op := Op.binOp BinOp.geq 9 (Operand.tmp 27) (Operand.tmp 29) 9, type := 4, pos := "l07_cache.go:36", after := #[{ on := 12, ground := Ground.data }, { on := 14, ground := Ground.data }, { on := 6, ground := Ground.guard }], guard := some (6, true) }) (v := undef) rfl (by kernel_rfl) (by kernel_rfl) (by kernel_rfl) (fun _ _ _ h => h) (Or.inr ⟨by rfl, rfl⟩) hS2 ?_
          simp only [Act.put, List.setIfInBounds_toArray, List.set_cons_succ, List.set_cons_zero]
          refine wpAnyH_take (i := 16) (oi := { dst := some 31, op := Op.pick (Operand.tmp 21) (Operand.tmp 30) (Operand.const (Value.bool false)), type := 4, pos := "l07_cache.go:36", after := #[{ on := 6, ground := Ground.data }, { on := 15, ground := Ground.data }, { on := 3, ground := Ground.guard }], guard := some (3, false) }) (v := ?_) rfl (by kernel_rfl) (by kernel_rfl) (by kernel_rfl) (fun _ _ _ h => h) (Or.inl ⟨by rfl, ?_⟩) hS2 ?_
          rotate_left
          · intro y hSy; obtain ⟨y0, y1, y2, y3⟩ := hSy; go_simp; try with_reducible rfl
          simp only [Act.put, List.setIfInBounds_toArray, List.set_cons_succ, List.set_cons_zero]
          refine wpAnyH_take (i := 17) (oi := { dst := some 32, op := Op.pick (Operand.tmp 18) (Operand.const (Value.bool true)) (Operand.tmp 31), type := 4, pos := "l07_cache.go:36", after := #[{ on := 3, ground := Ground.data }, { on := 16, ground := Ground.data }], guard := none }) (v := ?_) rfl (by kernel_rfl) (by kernel_rfl) (by kernel_rfl) (fun _ _ _ h => h) (Or.inl ⟨by rfl, ?_⟩) hS2 ?_
          rotate_left
          · intro y hSy; obtain ⟨y0, y1, y2, y3⟩ := hSy; go_simp; try with_reducible rfl
          simp only [Act.put, List.setIfInBounds_toArray, List.set_cons_succ, List.set_cons_zero]
          refine wpAnyH_done (by kernel_rfl) ?_ _
          go_wp2_with fail
          go_roundw
          case rel => exact ⟨0 + 1, rfl, unhide HB2, by omega, unhide HN⟩
          case measure => simp only [intOf]; omega
        · obtain ⟨j, hkj⟩ : ∃ j, k = j + 1 := ⟨k - 1, by omega⟩
          obtain ⟨q, hjq⟩ : ∃ q, P[j]? = some q := ⟨_, List.getElem?_eq_getElem (by omega)⟩
          obtain ⟨b', o', x', xc', e', -, -, g0', g1, g2, g3, -⟩ := ((unhide H).on (unhide HB)).elem hjq
          simp only [Option.some.injEq, Addr.mk.injEq, and_true] at e'
          obtain ⟨rfl, rfl⟩ := e'
          have g0 := below_some hbx g0'
          have w3 : wrap64 ((k : Int) - 1) = (j : Int) := by unfold wrap64; omega
          have w4 : IntKind.i64.wrap ((k : Int) - 1) = (j : Int) := (IntWalk.i64_in _ ⟨by omega, by omega⟩).trans (by omega)
          have q4 : (0 : Int) < (k : Int) := by omega
          have q5 : (0 : Int) ≤ (j : Int) := by omega
          have q6 : (j : Int) < (len : Int) := by omega
          clear g1 g2 g3 g0' hbx
          cases hLT : ltD q p with
          | true =>
            have HN : Hid (upTo P (k + 1)) := by
              have hu := unhide HU
              have hkk := unhide HK
              rw [hkj] at hu hkk
              show upTo P (k + 1)
              rw [hkj]
              exact hu.next hjq hkk hO hLT
            unfold ltD at hLT
            have hgq : ∀ y, (binOp BinOp.geq 9 (.string q.d) (.string p.d)).run Try.prog y = .ok (.bool false) y := fun y => by rw [run_geqS, hLT]; rfl
            clear hO hjq hkj
            go_wp2_with fail
            generalize hVV : wr.alloc (.cells #[.string p.d, .int .i64 p.m, .slice x p.l.length xc, .int .i64 p.u] 27) = V at *
            refine wp_region_held (S := fun y => y.cell? ⟨wr.heap.size, 0, none⟩ = some (.string p.d) ∧ y.cell? ⟨wr.heap.size, 1, none⟩ = some (.int .i64 p.m) ∧ y.cell? ⟨wr.heap.size, 2, none⟩ = some (.slice x p.l.length xc) ∧ y.cell? ⟨wr.heap.size, 3, none⟩ = some (.int .i64 p.u) ∧ y.cell? ⟨b, o + j * 4, none⟩ = some (.string q.d)) Try.mixedO ?_
            have hS : (fun y : World => y.cell? ⟨wr.heap.size, 0, none⟩ = some (.string p.d) ∧ y.cell? ⟨wr.heap.size, 1, none⟩ = some (.int .i64 p.m) ∧ y.cell? ⟨wr.heap.size, 2, none⟩ = some (.slice x p.l.length xc) ∧ y.cell? ⟨wr.heap.size, 3, none⟩ = some (.int .i64 p.u) ∧ y.cell? ⟨b, o + j * 4, none⟩ = some (.string q.d)) V.drew := ⟨r0, r1, r2, r3, g0⟩
            show wpAnyH _ _ _ _ _ _ _ _ V.drew
            refine wpAnyH_take (i := 0) (oi := { dst := some 15, op := Op.load 27 (Operand.tmp 4), type := 27, pos := "l07_cache.go:36", after := #[], guard := none }) (v := ?_) rfl (by kernel_rfl) (by kernel_rfl) (by kernel_rfl) (fun _ _ _ h => h) (Or.inl ⟨by rfl, ?_⟩) hS ?_
            rotate_left
            · intro y hSy; obtain ⟨y0, y1, y2, y3, y4⟩ := hSy; go_simp; try with_reducible rfl
            simp only [Act.put, List.setIfInBounds_toArray, List.set_cons_succ, List.set_cons_zero]
            refine wpAnyH_all (rs := [1]) (by kernel_rfl) (by simp) ?_
            intro i hi
            simp only [List.mem_singleton] at hi
            subst hi
            refine step_call (f := 10) (fn := Try.f10) (d := 16) (args := #[.agg #[.string p.d, .int .i64 p.m, .slice x p.l.length xc, .int .i64 p.u]]) rfl Try.func10 (by kernel_rfl) (by kernel_rfl) (by simp [Act.eval]) ?_
            refine (unhide hct _ (unhide HT)).mono ?_
            rintro e w2 ⟨rfl, hb2⟩
            refine ⟨_, rfl, ?_⟩
            have hS2 : (fun y : World => y.cell? ⟨wr.heap.size, 0, none⟩ = some (.string p.d) ∧ y.cell? ⟨wr.heap.size, 1, none⟩ = some (.int .i64 p.m) ∧ y.cell? ⟨wr.heap.size, 2, none⟩ = some (.slice x p.l.length xc) ∧ y.cell? ⟨wr.heap.size, 3, none⟩ = some (.int .i64 p.u) ∧ y.cell? ⟨b, o + j * 4, none⟩ = some (.string q.d)) w2 := ⟨below_some (below_drewQ hb2) r0, below_some (below_drewQ hb2) r1, below_some (below_drewQ hb2) r2, below_some (below_drewQ hb2) r3, below_some (below_drewQ hb2) g0⟩
            have HB2 := hide (btP (btP (unhide HB) (unhide HBX)) (below_drewQ hb2))
            clear hb2 hS
            refine ⟨hS2, ?_⟩
            simp only [Act.put, List.setIfInBounds_toArray, List.set_cons_succ, List.set_cons_zero]
            refine wpAnyH_take (i := 2) (oi := { dst := some 17, op := Op.unOp UnOp.not 4 (Operand.tmp 16), type := 4, pos := "l07_cache.go:36", after := #[{ on := 1, ground := Ground.data }], guard := none }) (v := ?_) rfl (by kernel_rfl) (by kernel_rfl) (by kernel_rfl) (fun _ _ _ h => h) (Or.inl ⟨by rfl, ?_⟩) hS2 ?_
            rotate_left
            · intro y hSy; obtain ⟨y0, y1, y2, y3, y4⟩ := hSy; go_simp; try with_reducible rfl
            simp only [Act.put, List.setIfInBounds_toArray, List.set_cons_succ, List.set_cons_zero]
            refine wpAnyH_take (i := 3) (oi := { dst := some 18, op := Op.move (Operand.tmp 17), type := 4, pos := "l07_cache.go:36", after := #[{ on := 2, ground := Ground.data }, { on := 1, ground := Ground.chain }], guard := none }) (v := ?_) rfl (by kernel_rfl) (by kernel_rfl) (by kernel_rfl) (fun _ _ _ h => h) (Or.inl ⟨by rfl, ?_⟩) hS2 ?_
            rotate_left
            · intro y hSy; obtain ⟨y0, y1, y2, y3, y4⟩ := hSy; go_simp; try with_reducible rfl
            simp only [Act.put, List.setIfInBounds_toArray, List.set_cons_succ, List.set_cons_zero]
            refine wpAnyH_take (i := 4) (oi := { dst := some 19, op := Op.move (Operand.tmp 3), type := 3, pos := "l07_cache.go:36", after := #[{ on := 3, ground := Ground.guard }], guard := some (3, false) }) (v := ?_) rfl (by kernel_rfl) (by kernel_rfl) (by kernel_rfl) (fun _ _ _ h => h) (Or.inl ⟨by rfl, ?_⟩) hS2 ?_
            rotate_left
            · intro y hSy; obtain ⟨y0, y1, y2, y3, y4⟩ := hSy; go_simp; try with_reducible rfl
            simp only [Act.put, List.setIfInBounds_toArray, List.set_cons_succ, List.set_cons_zero]
            refine wpAnyH_take (i := 5) (oi := { dst := some 20, op := Op.binOp BinOp.gtr 3 (Operand.tmp 19) (Operand.const (Value.int IntKind.i64 0)) 3, type := 4, pos := "l07_cache.go:36", after := #[{ on := 4, ground := Ground.data }, { on := 3, ground := Ground.guard }], guard := some (3, false) }) (v := ?_) rfl (by kernel_rfl) (by kernel_rfl) (by kernel_rfl) (fun _ _ _ h => h) (Or.inl ⟨by rfl, ?_⟩) hS2 ?_
            rotate_left
            · intro y hSy; obtain ⟨y0, y1, y2, y3, y4⟩ := hSy; go_simp; try with_reducible rfl
            simp only [Act.put, List.setIfInBounds_toArray, List.set_cons_succ, List.set_cons_zero]
            refine wpAnyH_take (i := 6) (oi := { dst := some 21, op := Op.move (Operand.tmp 20), type := 4, pos := "l07_cache.go:36", after := #[{ on := 5, ground := Ground.data }, { on := 3, ground := Ground.chain }, { on := 3, ground := Ground.guard }], guard := some (3, false) }) (v := ?_) rfl (by kernel_rfl) (by kernel_rfl) (by kernel_rfl) (fun _ _ _ h => h) (Or.inl ⟨by rfl, ?_⟩) hS2 ?_
            rotate_left
            · intro y hSy; obtain ⟨y0, y1, y2, y3, y4⟩ := hSy; go_simp; try with_reducible rfl
            simp only [Act.put, List.setIfInBounds_toArray, List.set_cons_succ, List.set_cons_zero]
            refine wpAnyH_take (i := 7) (oi := { dst := some 22, op := Op.move (Operand.tmp 0), type := 34, pos := "l07_cache.go:36", after := #[{ on := 6, ground := Ground.guard }], guard := some (6, true) }) (v := ?_) rfl (by kernel_rfl) (by kernel_rfl) (by kernel_rfl) (fun _ _ _ h => h) (Or.inl ⟨by rfl, ?_⟩) hS2 ?_
            rotate_left
            · intro y hSy; obtain ⟨y0, y1, y2, y3, y4⟩ := hSy; go_simp; try with_reducible rfl
            simp only [Act.put, List.setIfInBounds_toArray, List.set_cons_succ, List.set_cons_zero]
            refine wpAnyH_take (i := 8) (oi := { dst := some 23, op := Op.move (Operand.tmp 3), type := 3, pos := "l07_cache.go:36", after := #[{ on := 6, ground := Ground.guard }], guard := some (6, true) }) (v := ?_) rfl (by kernel_rfl) (by kernel_rfl) (by kernel_rfl) (fun _ _ _ h => h) (Or.inl ⟨by rfl, ?_⟩) hS2 ?_
            rotate_left
            · intro y hSy; obtain ⟨y0, y1, y2, y3, y4⟩ := hSy; go_simp; try with_reducible rfl
            simp only [Act.put, List.setIfInBounds_toArray, List.set_cons_succ, List.set_cons_zero]
            refine wpAnyH_take (i := 9) (oi := { dst := some 24, op := Op.binOp BinOp.sub 3 (Operand.tmp 23) (Operand.const (Value.int IntKind.i64 1)) 3, type := 3, pos := "l07_cache.go:36", after := #[{ on := 8, ground := Ground.data }, { on := 6, ground := Ground.guard }], guard := some (6, true) }) (v := ?_) rfl (by kernel_rfl) (by kernel_rfl) (by kernel_rfl) (fun _ _ _ h => h) (Or.inl ⟨by rfl, ?_⟩) hS2 ?_
            rotate_left
            · intro y hSy; obtain ⟨y0, y1, y2, y3, y4⟩ := hSy; go_simp; try with_reducible rfl
            simp only [Act.put, List.setIfInBounds_toArray, List.set_cons_succ, List.set_cons_zero]
            refine wpAnyH_take (i := 10) (oi := { dst := some 25, op := Op.indexAddr 34 (Operand.tmp 22) (Operand.tmp 24), type := 0, pos := "l07_cache.go:36", after := #[{ on := 7, ground := Ground.data }, { on := 9, ground := Ground.data }, { on := 6, ground := Ground.guard }], guard := some (6, true) }) (v := ?_) rfl (by kernel_rfl) (by kernel_rfl) (by kernel_rfl) (fun _ _ _ h => h) (Or.inl ⟨by rfl, ?_⟩) hS2 ?_
            rotate_left
            · intro y hSy; obtain ⟨y0, y1, y2, y3, y4⟩ := hSy; go_simp; try with_reducible rfl
            simp only [Act.put, List.setIfInBounds_toArray, List.set_cons_succ, List.set_cons_zero]
            refine wpAnyH_take (i := 11) (oi := { dst := some 26, op := Op.fieldAddr 27 (Operand.tmp 25) 0, type := 0, pos := "l07_cache.go:36", after := #[{ on := 10, ground := Ground.data }, { on := 6, ground := Ground.guard }], guard := some (6, true) }) (v := ?_) rfl (by kernel_rfl) (by kernel_rfl) (by kernel_rfl) (fun _ _ _ h => h) (Or.inl ⟨by rfl, ?_⟩) hS2 ?_
            rotate_left
            · intro y hSy; obtain ⟨y0, y1, y2, y3, y4⟩ := hSy; go_simp; try with_reducible rfl
            simp only [Act.put, List.setIfInBounds_toArray, List.set_cons_succ, List.set_cons_zero]
            refine wpAnyH_take (i := 12) (oi := { dst := some 27, op := Op.load 9 (Operand.tmp 26), type := 9, pos := "l07_cache.go:36", after := #[{ on := 11, ground := Ground.data }, { on := 6, ground := Ground.guard }], guard := some (6, true) }) (v := ?_) rfl (by kernel_rfl) (by kernel_rfl) (by kernel_rfl) (fun _ _ _ h => h) (Or.inl ⟨by rfl, ?_⟩) hS2 ?_
            rotate_left
            · intro y hSy; obtain ⟨y0, y1, y2, y3, y4⟩ := hSy; go_simp; try with_reducible rfl
            simp only [Act.put, List.setIfInBounds_toArray, List.set_cons_succ, List.set_cons_zero]
            refine wpAnyH_take (i := 13) (oi := { dst := some 28, op := Op.fieldAddr 27 (Operand.tmp 4) 0, type := 0, pos := "l07_cache.go:36", after := #[{ on := 6, ground := Ground.guard }], guard := some (6, true) }) (v := ?_) rfl (by kernel_rfl) (by kernel_rfl) (by kernel_rfl) (fun _ _ _ h => h) (Or.inl ⟨by rfl, ?_⟩) hS2 ?_
            rotate_left
            · intro y hSy; obtain ⟨y0, y1, y2, y3, y4⟩ := hSy; go_simp; try with_reducible rfl
            simp only [Act.put, List.setIfInBounds_toArray, List.set_cons_succ, List.set_cons_zero]
            refine wpAnyH_take (i := 14) (oi := { dst := some 29, op := Op.load 9 (Operand.tmp 28), type := 9, pos := "l07_cache.go:36", after := #[{ on := 13, ground := Ground.data }, { on := 6, ground := Ground.guard }], guard := some (6, true) }) (v := ?_) rfl (by kernel_rfl) (by kernel_rfl) (by kernel_rfl) (fun _ _ _ h => h) (Or.inl ⟨by rfl, ?_⟩) hS2 ?_
            rotate_left
            · intro y hSy; obtain ⟨y0, y1, y2, y3, y4⟩ := hSy; go_simp; try with_reducible rfl
            simp only [Act.put, List.setIfInBounds_toArray, List.set_cons_succ, List.set_cons_zero]
            refine wpAnyH_take (i := 15) (oi := { dst := some 30, op := Op.binOp BinOp.geq 9 (Operand.tmp 27) (Operand.tmp 29) 9, type := 4, pos := "l07_cache.go:36", after := #[{ on := 12, ground := Ground.data }, { on := 14, ground := Ground.data }, { on := 6, ground := Ground.guard }], guard := some (6, true) }) (v := ?_) rfl (by kernel_rfl) (by kernel_rfl) (by kernel_rfl) (fun _ _ _ h => h) (Or.inl ⟨by rfl, ?_⟩) hS2 ?_
            rotate_left
            · intro y hSy; obtain ⟨y0, y1, y2, y3, y4⟩ := hSy; go_simp; try with_reducible rfl
            simp only [Act.put, List.setIfInBounds_toArray, List.set_cons_succ, List.set_cons_zero]
            refine wpAnyH_take (i := 16) (oi := { dst := some 31, op := Op.pick (Operand.tmp 21) (Operand.tmp 30) (Operand.const (Value.bool false)), type := 4, pos := "l07_cache.go:36", after := #[{ on := 6, ground := Ground.data }, { on := 15, ground := Ground.data }, { on := 3, ground := Ground.guard }], guard := some (3, false) }) (v := ?_) rfl (by kernel_rfl) (by kernel_rfl) (by kernel_rfl) (fun _ _ _ h => h) (Or.inl ⟨by rfl, ?_⟩) hS2 ?_
            rotate_left
            · intro y hSy; obtain ⟨y0, y1, y2, y3, y4⟩ := hSy; go_simp; try with_reducible rfl
            simp only [Act.put, List.setIfInBounds_toArray, List.set_cons_succ, List.set_cons_zero]
            refine wpAnyH_take (i := 17) (oi := { dst := some 32, op := Op.pick (Operand.tmp 18) (Operand.const (Value.bool true)) (Operand.tmp 31), type := 4, pos := "l07_cache.go:36", after := #[{ on := 3, ground := Ground.data }, { on := 16, ground := Ground.data }], guard := none }) (v := ?_) rfl (by kernel_rfl) (by kernel_rfl) (by kernel_rfl) (fun _ _ _ h => h) (Or.inl ⟨by rfl, ?_⟩) hS2 ?_
            rotate_left
            · intro y hSy; obtain ⟨y0, y1, y2, y3, y4⟩ := hSy; go_simp; try with_reducible rfl
            simp only [Act.put, List.setIfInBounds_toArray, List.set_cons_succ, List.set_cons_zero]
            refine wpAnyH_done (by kernel_rfl) ?_ _
            go_wp2_with fail
            go_roundw
            case rel => exact ⟨k + 1, rfl, unhide HB2, by omega, unhide HN⟩
            case measure => simp only [intOf]; omega
          | false =>
            have HE : Hid (cacheB P = false) := by
              have hkk := unhide HK
              rw [hkj] at hkk
              exact cacheB_order hjq hkk hLT
            unfold ltD at hLT
            have hgq : ∀ y, (binOp BinOp.geq 9 (.string q.d) (.string p.d)).run Try.prog y = .ok (.bool true) y := fun y => by rw [run_geqS, hLT]; rfl
            clear hO hjq hkj
            go_wp2_with fail
            generalize hVV : wr.alloc (.cells #[.string p.d, .int .i64 p.m, .slice x p.l.length xc, .int .i64 p.u] 27) = V at *
            refine wp_region_held (S := fun y => y.cell? ⟨wr.heap.size, 0, none⟩ = some (.string p.d) ∧ y.cell? ⟨wr.heap.size, 1, none⟩ = some (.int .i64 p.m) ∧ y.cell? ⟨wr.heap.size, 2, none⟩ = some (.slice x p.l.length xc) ∧ y.cell? ⟨wr.heap.size, 3, none⟩ = some (.int .i64 p.u) ∧ y.cell? ⟨b, o + j * 4, none⟩ = some (.string q.d)) Try.mixedO ?_
            have hS : (fun y : World => y.cell? ⟨wr.heap.size, 0, none⟩ = some (.string p.d) ∧ y.cell? ⟨wr.heap.size, 1, none⟩ = some (.int .i64 p.m) ∧ y.cell? ⟨wr.heap.size, 2, none⟩ = some (.slice x p.l.length xc) ∧ y.cell? ⟨wr.heap.size, 3, none⟩ = some (.int .i64 p.u) ∧ y.cell? ⟨b, o + j * 4, none⟩ = some (.string q.d)) V.drew := ⟨r0, r1, r2, r3, g0⟩
            show wpAnyH _ _ _ _ _ _ _ _ V.drew
            refine wpAnyH_take (i := 0) (oi := { dst := some 15, op := Op.load 27 (Operand.tmp 4), type := 27, pos := "l07_cache.go:36", after := #[], guard := none }) (v := ?_) rfl (by kernel_rfl) (by kernel_rfl) (by kernel_rfl) (fun _ _ _ h => h) (Or.inl ⟨by rfl, ?_⟩) hS ?_
            rotate_left
            · intro y hSy; obtain ⟨y0, y1, y2, y3, y4⟩ := hSy; go_simp; try with_reducible rfl
            simp only [Act.put, List.setIfInBounds_toArray, List.set_cons_succ, List.set_cons_zero]
            refine wpAnyH_all (rs := [1]) (by kernel_rfl) (by simp) ?_
            intro i hi
            simp only [List.mem_singleton] at hi
            subst hi
            refine step_call (f := 10) (fn := Try.f10) (d := 16) (args := #[.agg #[.string p.d, .int .i64 p.m, .slice x p.l.length xc, .int .i64 p.u]]) rfl Try.func10 (by kernel_rfl) (by kernel_rfl) (by simp [Act.eval]) ?_
            refine (unhide hct _ (unhide HT)).mono ?_
            rintro e w2 ⟨rfl, hb2⟩
            refine ⟨_, rfl, ?_⟩
            have hS2 : (fun y : World => y.cell? ⟨wr.heap.size, 0, none⟩ = some (.string p.d) ∧ y.cell? ⟨wr.heap.size, 1, none⟩ = some (.int .i64 p.m) ∧ y.cell? ⟨wr.heap.size, 2, none⟩ = some (.slice x p.l.length xc) ∧ y.cell? ⟨wr.heap.size, 3, none⟩ = some (.int .i64 p.u) ∧ y.cell? ⟨b, o + j * 4, none⟩ = some (.string q.d)) w2 := ⟨below_some (below_drewQ hb2) r0, below_some (below_drewQ hb2) r1, below_some (below_drewQ hb2) r2, below_some (below_drewQ hb2) r3, below_some (below_drewQ hb2) g0⟩
            have HB2 := hide (btP (btP (unhide HB) (unhide HBX)) (below_drewQ hb2))
            clear hb2 hS
            refine ⟨hS2, ?_⟩
            simp only [Act.put, List.setIfInBounds_toArray, List.set_cons_succ, List.set_cons_zero]
            refine wpAnyH_take (i := 2) (oi := { dst := some 17, op := Op.unOp UnOp.not 4 (Operand.tmp 16), type := 4, pos := "l07_cache.go:36", after := #[{ on := 1, ground := Ground.data }], guard := none }) (v := ?_) rfl (by kernel_rfl) (by kernel_rfl) (by kernel_rfl) (fun _ _ _ h => h) (Or.inl ⟨by rfl, ?_⟩) hS2 ?_
            rotate_left
            · intro y hSy; obtain ⟨y0, y1, y2, y3, y4⟩ := hSy; go_simp; try with_reducible rfl
            simp only [Act.put, List.setIfInBounds_toArray, List.set_cons_succ, List.set_cons_zero]
            refine wpAnyH_take (i := 3) (oi := { dst := some 18, op := Op.move (Operand.tmp 17), type := 4, pos := "l07_cache.go:36", after := #[{ on := 2, ground := Ground.data }, { on := 1, ground := Ground.chain }], guard := none }) (v := ?_) rfl (by kernel_rfl) (by kernel_rfl) (by kernel_rfl) (fun _ _ _ h => h) (Or.inl ⟨by rfl, ?_⟩) hS2 ?_
            rotate_left
            · intro y hSy; obtain ⟨y0, y1, y2, y3, y4⟩ := hSy; go_simp; try with_reducible rfl
            simp only [Act.put, List.setIfInBounds_toArray, List.set_cons_succ, List.set_cons_zero]
            refine wpAnyH_take (i := 4) (oi := { dst := some 19, op := Op.move (Operand.tmp 3), type := 3, pos := "l07_cache.go:36", after := #[{ on := 3, ground := Ground.guard }], guard := some (3, false) }) (v := ?_) rfl (by kernel_rfl) (by kernel_rfl) (by kernel_rfl) (fun _ _ _ h => h) (Or.inl ⟨by rfl, ?_⟩) hS2 ?_
            rotate_left
            · intro y hSy; obtain ⟨y0, y1, y2, y3, y4⟩ := hSy; go_simp; try with_reducible rfl
            simp only [Act.put, List.setIfInBounds_toArray, List.set_cons_succ, List.set_cons_zero]
            refine wpAnyH_take (i := 5) (oi := { dst := some 20, op := Op.binOp BinOp.gtr 3 (Operand.tmp 19) (Operand.const (Value.int IntKind.i64 0)) 3, type := 4, pos := "l07_cache.go:36", after := #[{ on := 4, ground := Ground.data }, { on := 3, ground := Ground.guard }], guard := some (3, false) }) (v := ?_) rfl (by kernel_rfl) (by kernel_rfl) (by kernel_rfl) (fun _ _ _ h => h) (Or.inl ⟨by rfl, ?_⟩) hS2 ?_
            rotate_left
            · intro y hSy; obtain ⟨y0, y1, y2, y3, y4⟩ := hSy; go_simp; try with_reducible rfl
            simp only [Act.put, List.setIfInBounds_toArray, List.set_cons_succ, List.set_cons_zero]
            refine wpAnyH_take (i := 6) (oi := { dst := some 21, op := Op.move (Operand.tmp 20), type := 4, pos := "l07_cache.go:36", after := #[{ on := 5, ground := Ground.data }, { on := 3, ground := Ground.chain }, { on := 3, ground := Ground.guard }], guard := some (3, false) }) (v := ?_) rfl (by kernel_rfl) (by kernel_rfl) (by kernel_rfl) (fun _ _ _ h => h) (Or.inl ⟨by rfl, ?_⟩) hS2 ?_
            rotate_left
            · intro y hSy; obtain ⟨y0, y1, y2, y3, y4⟩ := hSy; go_simp; try with_reducible rfl
            simp only [Act.put, List.setIfInBounds_toArray, List.set_cons_succ, List.set_cons_zero]
            refine wpAnyH_take (i := 7) (oi := { dst := some 22, op := Op.move (Operand.tmp 0), type := 34, pos := "l07_cache.go:36", after := #[{ on := 6, ground := Ground.guard }], guard := some (6, true) }) (v := ?_) rfl (by kernel_rfl) (by kernel_rfl) (by kernel_rfl) (fun _ _ _ h => h) (Or.inl ⟨by rfl, ?_⟩) hS2 ?_
            rotate_left
            · intro y hSy; obtain ⟨y0, y1, y2, y3, y4⟩ := hSy; go_simp; try with_reducible rfl
            simp only [Act.put, List.setIfInBounds_toArray, List.set_cons_succ, List.set_cons_zero]
            refine wpAnyH_take (i := 8) (oi := { dst := some 23, op := Op.move (Operand.tmp 3), type := 3, pos := "l07_cache.go:36", after := #[{ on := 6, ground := Ground.guard }], guard := some (6, true) }) (v := ?_) rfl (by kernel_rfl) (by kernel_rfl) (by kernel_rfl) (fun _ _ _ h => h) (Or.inl ⟨by rfl, ?_⟩) hS2 ?_
            rotate_left
            · intro y hSy; obtain ⟨y0, y1, y2, y3, y4⟩ := hSy; go_simp; try with_reducible rfl
            simp only [Act.put, List.setIfInBounds_toArray, List.set_cons_succ, List.set_cons_zero]
            refine wpAnyH_take (i := 9) (oi := { dst := some 24, op := Op.binOp BinOp.sub 3 (Operand.tmp 23) (Operand.const (Value.int IntKind.i64 1)) 3, type := 3, pos := "l07_cache.go:36", after := #[{ on := 8, ground := Ground.data }, { on := 6, ground := Ground.guard }], guard := some (6, true) }) (v := ?_) rfl (by kernel_rfl) (by kernel_rfl) (by kernel_rfl) (fun _ _ _ h => h) (Or.inl ⟨by rfl, ?_⟩) hS2 ?_
            rotate_left
            · intro y hSy; obtain ⟨y0, y1, y2, y3, y4⟩ := hSy; go_simp; try with_reducible rfl
            simp only [Act.put, List.setIfInBounds_toArray, List.set_cons_succ, List.set_cons_zero]
            refine wpAnyH_take (i := 10) (oi := { dst := some 25, op := Op.indexAddr 34 (Operand.tmp 22) (Operand.tmp 24), type := 0, pos := "l07_cache.go:36", after := #[{ on := 7, ground := Ground.data }, { on := 9, ground := Ground.data }, { on := 6, ground := Ground.guard }], guard := some (6, true) }) (v := ?_) rfl (by kernel_rfl) (by kernel_rfl) (by kernel_rfl) (fun _ _ _ h => h) (Or.inl ⟨by rfl, ?_⟩) hS2 ?_
            rotate_left
            · intro y hSy; obtain ⟨y0, y1, y2, y3, y4⟩ := hSy; go_simp; try with_reducible rfl
            simp only [Act.put, List.setIfInBounds_toArray, List.set_cons_succ, List.set_cons_zero]
            refine wpAnyH_take (i := 11) (oi := { dst := some 26, op := Op.fieldAddr 27 (Operand.tmp 25) 0, type := 0, pos := "l07_cache.go:36", after := #[{ on := 10, ground := Ground.data }, { on := 6, ground := Ground.guard }], guard := some (6, true) }) (v := ?_) rfl (by kernel_rfl) (by kernel_rfl) (by kernel_rfl) (fun _ _ _ h => h) (Or.inl ⟨by rfl, ?_⟩) hS2 ?_
            rotate_left
            · intro y hSy; obtain ⟨y0, y1, y2, y3, y4⟩ := hSy; go_simp; try with_reducible rfl
            simp only [Act.put, List.setIfInBounds_toArray, List.set_cons_succ, List.set_cons_zero]
            refine wpAnyH_take (i := 12) (oi := { dst := some 27, op := Op.load 9 (Operand.tmp 26), type := 9, pos := "l07_cache.go:36", after := #[{ on := 11, ground := Ground.data }, { on := 6, ground := Ground.guard }], guard := some (6, true) }) (v := ?_) rfl (by kernel_rfl) (by kernel_rfl) (by kernel_rfl) (fun _ _ _ h => h) (Or.inl ⟨by rfl, ?_⟩) hS2 ?_
            rotate_left
            · intro y hSy; obtain ⟨y0, y1, y2, y3, y4⟩ := hSy; go_simp; try with_reducible rfl
            simp only [Act.put, List.setIfInBounds_toArray, List.set_cons_succ, List.set_cons_zero]
            refine wpAnyH_take (i := 13) (oi := { dst := some 28, op := Op.fieldAddr 27 (Operand.tmp 4) 0, type := 0, pos := "l07_cache.go:36", after := #[{ on := 6, ground := Ground.guard }], guard := some (6, true) }) (v := ?_) rfl (by kernel_rfl) (by kernel_rfl) (by kernel_rfl) (fun _ _ _ h => h) (Or.inl ⟨by rfl, ?_⟩) hS2 ?_
            rotate_left
            · intro y hSy; obtain ⟨y0, y1, y2, y3, y4⟩ := hSy; go_simp; try with_reducible rfl
            simp only [Act.put, List.setIfInBounds_toArray, List.set_cons_succ, List.set_cons_zero]
            refine wpAnyH_take (i := 14) (oi := { dst := some 29, op := Op.load 9 (Operand.tmp 28), type := 9, pos := "l07_cache.go:36", after := #[{ on := 13, ground := Ground.data }, { on := 6, ground := Ground.guard }], guard := some (6, true) }) (v := ?_) rfl (by kernel_rfl) (by kernel_rfl) (by kernel_rfl) (fun _ _ _ h => h) (Or.inl ⟨by rfl, ?_⟩) hS2 ?_
            rotate_left
            · intro y hSy; obtain ⟨y0, y1, y2, y3, y4⟩ := hSy; go_simp; try with_reducible rfl
            simp only [Act.put, List.setIfInBounds_toArray, List.set_cons_succ, List.set_cons_zero]
            refine wpAnyH_take (i := 15) (oi := { dst := some 30, op := Op.binOp BinOp.geq 9 (Operand.tmp 27) (Operand.tmp 29) 9, type := 4, pos := "l07_cache.go:36", after := #[{ on := 12, ground := Ground.data }, { on := 14, ground := Ground.data }, { on := 6, ground := Ground.guard }], guard := some (6, true) }) (v := ?_) rfl (by kernel_rfl) (by kernel_rfl) (by kernel_rfl) (fun _ _ _ h => h) (Or.inl ⟨by rfl, ?_⟩) hS2 ?_
            rotate_left
            · intro y hSy; obtain ⟨y0, y1, y2, y3, y4⟩ := hSy; go_simp; try with_reducible rfl
            simp only [Act.put, List.setIfInBounds_toArray, List.set_cons_succ, List.set_cons_zero]
            refine wpAnyH_take (i := 16) (oi := { dst := some 31, op := Op.pick (Operand.tmp 21) (Operand.tmp 30) (Operand.const (Value.bool false)), type := 4, pos := "l07_cache.go:36", after := #[{ on := 6, ground := Ground.data }, { on := 15, ground := Ground.data }, { on := 3, ground := Ground.guard }], guard := some (3, false) }) (v := ?_) rfl (by kernel_rfl) (by kernel_rfl) (by kernel_rfl) (fun _ _ _ h => h) (Or.inl ⟨by rfl, ?_⟩) hS2 ?_
            rotate_left
            · intro y hSy; obtain ⟨y0, y1, y2, y3, y4⟩ := hSy; go_simp; try with_reducible rfl
            simp only [Act.put, List.setIfInBounds_toArray, List.set_cons_succ, List.set_cons_zero]
            refine wpAnyH_take (i := 17) (oi := { dst := some 32, op := Op.pick (Operand.tmp 18) (Operand.const (Value.bool true)) (Operand.tmp 31), type := 4, pos := "l07_cache.go:36", after := #[{ on := 3, ground := Ground.data }, { on := 16, ground := Ground.data }], guard := none }) (v := ?_) rfl (by kernel_rfl) (by kernel_rfl) (by kernel_rfl) (fun _ _ _ h => h) (Or.inl ⟨by rfl, ?_⟩) hS2 ?_
            rotate_left
            · intro y hSy; obtain ⟨y0, y1, y2, y3, y4⟩ := hSy; go_simp; try with_reducible rfl
            simp only [Act.put, List.setIfInBounds_toArray, List.set_cons_succ, List.set_cons_zero]
            refine wpAnyH_done (by kernel_rfl) ?_ _
            go_wp2_with fail
            go_ret
            exact ⟨retB (unhide HE), unhide HB2⟩
    · have q2 : ¬ (k : Int) < (len : Int) := by omega
      have HE : Hid (cacheB P = true) := by
        show _ = _
        have := unhide HT10
        rw [cacheB_end (by have := HL.out; omega) hu, HL.out]
        simpa using this
      clear hb hu
      go_wp2_with fail
      go_ret
      exact ⟨retB (unhide HE), unhide HB⟩

end Go.Proofs.Ytdcfkbnppbeahaa
