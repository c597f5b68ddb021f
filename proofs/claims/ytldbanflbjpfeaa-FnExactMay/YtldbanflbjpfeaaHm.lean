
/- The walks of spec.Fits and laws.FnExactFits: at every two texts the two agree; nothing that was there is written. -/
import Derived.Test.YtldbanflbjpfeaaHn
import Derived.Deep.RegionHeld3
namespace Go.Proofs.Ytldbanflbjpfeaa
open Go.RowKit Go.Deep

set_option maxRecDepth 100000 in
set_option maxHeartbeats 2000000 in
theorem fitS (p h : ByteArray) (w : World) (hp : p.size ≤ 2097152) (hh : h.size ≤ 2097152) :
    Calls Try.prog 21 #[.string p, .string h] w fun e w' => e = .returned (.bool (fitB p h)) ∧ Below w.heap.size w w' := by
  have h12 := hide (fun v => patS p v hp)
  have h10 := hide (fun v => hostS h v hh)
  have h33 := hide (fun v => star33 p v)
  have h15 := hide (fun v => labels27 h v hh)
  cases hP : patB p with
  | false =>
    have HE := hide (fitB_pat (h := h) hP)
    rw [hP] at h12
    go_enter Try.func21, Try.ntmps21
    go_wp2_with fail
    refine (unhide h12 _).mono ?_
    rintro e w2 ⟨rfl, hb2⟩
    go_wp2_with fail
    go_ret
    exact ⟨retB (unhide HE), hb2⟩
  | true =>
    rw [hP] at h12
    cases hH : hostB h with
    | false =>
      have HE := hide (fitB_host (p := p) hH)
      rw [hH] at h10
      go_enter Try.func21, Try.ntmps21
      go_wp2_with fail
      refine (unhide h12 _).mono ?_
      rintro e w2 ⟨rfl, hb2⟩
      have HB2 := hide hb2
      clear hb2
      go_wp2_with fail
      refine (unhide h10 _).mono ?_
      rintro e w3 ⟨rfl, hb3⟩
      have HB3 := hide (below_two (unhide HB2) hb3)
      clear hb3
      go_wp2_with fail
      go_ret
      exact ⟨retB (unhide HE), unhide HB3⟩
    | true =>
      rw [hH] at h10
      by_cases he : p = h
      · subst he
        have HE := hide (fitB_same hP hH)
        clear hP hH
        go_enter Try.func21, Try.ntmps21
        go_wp2_with fail
        refine (unhide h12 _).mono ?_
        rintro e w2 ⟨rfl, hb2⟩
        have HB2 := hide hb2
        clear hb2
        go_wp2_with fail
        refine (unhide h10 _).mono ?_
        rintro e w3 ⟨rfl, hb3⟩
        have HB3 := hide (below_two (unhide HB2) hb3)
        clear hb3
        go_wp2_with fail
        go_ret
        exact ⟨retB (unhide HE), unhide HB3⟩
      · obtain ⟨i, hi, i1, i2, i3⟩ := host_first (hostB_iff.1 hH)
        have q := str_beq he
        have HL : Hid ((labsOf h)[0]? = some (h.extract 0 i)) := by show _ = _; rw [i3]; rfl
        have HZ : Hid ((h.extract 0 i).size = i) := by show _ = _; rw [ByteArray.size_extract]; omega
        have w1 : wrap64 ((i : Int) + 1) = (i : Int) + 1 := by unfold wrap64; omega
        have w2 : IntKind.i64.wrap ((i : Int) + 1) = (i : Int) + 1 := IntWalk.i64_in _ ⟨by omega, by omega⟩
        have c3 : (i : Int) + 1 ≤ (h.size : Int) := by omega
        have c4 : (0 : Int) ≤ (i : Int) + 1 := by omega
        by_cases hs : starE p
        · have c5 : (2 : Int) ≤ (p.size : Int) := by have := starE_size hs; omega
          by_cases hz : 2 < p.size
          · have HE := hide (fitB_star hP hH he hs i1 i2 hi)
            have hsb : starB p = true := by simp [starB, hs, hz]
            rw [hsb] at h33
            clear hP hH i3 hs he hsb
            go_enter Try.func21, Try.ntmps21
            go_wp2_with fail
            refine (unhide h12 _).mono ?_
            rintro e w2 ⟨rfl, hb2⟩
            have HB2 := hide hb2
            clear hb2
            go_wp2_with fail
            refine (unhide h10 _).mono ?_
            rintro e w3 ⟨rfl, hb3⟩
            have HB3 := hide (below_two (unhide HB2) hb3)
            clear hb3
            go_wp2_with fail
            refine (unhide h15 _).mono ?_
            rintro e w4 ⟨v, rfl, htx, hb4⟩
            have HB4 := hide (below_two (unhide HB3) hb4)
            obtain ⟨g, c, rfl, hcell⟩ := htx.open (labs_ne _ _ _)
            have c0 := hcell 0 _ (unhide HL)
            have hz0 := unhide HZ
            have hlen := labs_pos h
            clear hb4 htx hcell HL HZ
            generalize h.extract 0 i = F at *
            subst hz0
            generalize hL : (labsOf h).length = L at *
            go_wp2_with fail
            first
              | go_region_held3 (fun _ => True) (trivial) ((go_at_call 36; refine (unhide h33 _).mono ?_; rintro e w5 ⟨rfl, rfl⟩))
              | fail
            go_wp2_with fail
            go_ret
            exact ⟨retB (by rw [unhide HE, str_dec]), (unhide HB4).drew⟩
          · exfalso
            have e1 := patB_iff.1 hP
            rcases e1 with e1 | e1
            · obtain ⟨k, hk, k1, k2, k3⟩ := host_first e1
              have e2 := e1.2.2 (p.extract 0 k) (by rw [k3]; exact List.mem_cons_self)
              have e3 := hs
              unfold starE at e3
              have e4 : byteAt p 0 = 42 := by
                have := byteAt_extract (s := p) (a := 0) (b := 2) (i := 0) (by omega) (by omega)
                rw [e3] at this
                rw [Nat.zero_add] at this
                rw [← this]
                rfl
              have hk0 : k ≠ 0 := fun e => by rw [e, e4] at k1; omega
              have e5 := e2.2.2 0 (by have := e2.1; omega)
              have e6 := okAt_labByte e5
              rw [byteAt_extract (by omega) (by omega)] at e6
              simp only [Nat.zero_add, e4] at e6
              unfold labByte at e6
              omega
            · exact lsP_empty (by rw [ByteArray.size_extract]; omega) e1.2
        · exact fitS_plain p h w hp hh hP hH he hs

end Go.Proofs.Ytldbanflbjpfeaa
