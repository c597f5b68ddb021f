
/- The walk of spec.Fits where the pattern is none with a star, and is not the host: nothing that was there is written. -/
import Derived.Test.YtldbanflbjpfeaaHl
import Derived.Deep.RegionHeld3
namespace Go.Proofs.Ytldbanflbjpfeaa
open Go.RowKit Go.Deep

set_option maxRecDepth 100000 in
set_option maxHeartbeats 8000000 in
theorem fitS_plain (p h : ByteArray) (w : World) (hp : p.size ≤ 2097152) (hh : h.size ≤ 2097152) (hP : patB p = true) (hH : hostB h = true) (he : ¬ p = h) (hs : ¬ starE p) :
    Calls Try.prog 21 #[.string p, .string h] w fun e w' => e = .returned (.bool (fitB p h)) ∧ Below w.heap.size w w' := by
  have h12 := hide (fun v => patS p v hp)
  have h10 := hide (fun v => hostS h v hh)
  have h33 := hide (fun v => star33 p v)
  have h15 := hide (fun v => labels27 h v hh)
  rw [hP] at h12
  rw [hH] at h10
  obtain ⟨i, hi, i1, i2, i3⟩ := host_first (hostB_iff.1 hH)
  have q := str_beq he
  have HL : Hid ((labsOf h)[0]? = some (h.extract 0 i)) := by show _ = _; rw [i3]; rfl
  have HZ : Hid ((h.extract 0 i).size = i) := by show _ = _; rw [ByteArray.size_extract]; omega
  have w1 : wrap64 ((i : Int) + 1) = (i : Int) + 1 := by unfold wrap64; omega
  have w2 : IntKind.i64.wrap ((i : Int) + 1) = (i : Int) + 1 := IntWalk.i64_in _ ⟨by omega, by omega⟩
  have c3 : (i : Int) + 1 ≤ (h.size : Int) := by omega
  have c4 : (0 : Int) ≤ (i : Int) + 1 := by omega
  have HE := hide (fitB_plain he hs)
  have hsb : starB p = false := by simp [starB, hs]
  rw [hsb] at h33
  clear hP hH i3 hs he hsb
  go_enter Try.func21, Try.ntmps21
  go_wp2_with fail
  refine (unhide h12 _).mono ?_
  rintro e w2 ⟨rfl, hb2⟩
  have HB2 := hide hb2
  clear hb2
  go_wp2_with fail
  refine (unhide h10 _).mono ?_
  rintro e w3 ⟨rfl, hb3⟩
  have HB3 := hide (below_two (unhide HB2) hb3)
  clear hb3
  go_wp2_with fail
  refine (unhide h15 _).mono ?_
  rintro e w4 ⟨v, rfl, htx, hb4⟩
  have HB4 := hide (below_two (unhide HB3) hb4)
  obtain ⟨g, c, rfl, hcell⟩ := htx.open (labs_ne _ _ _)
  have c0 := hcell 0 _ (unhide HL)
  have hz0 := unhide HZ
  have hlen := labs_pos h
  clear hb4 htx hcell HL HZ
  generalize h.extract 0 i = F at *
  subst hz0
  generalize hL : (labsOf h).length = L at *
  go_wp2_with fail
  clear h12 h10 h15 HB2 HB3 c0 hi i1 i2 w1 w2 c3 c4 hlen q
  first
    | go_region_with (go_at_call 36; refine (unhide h33 _).mono ?_; rintro e w5 ⟨rfl, rfl⟩)
    | fail
  all_goals (try go_wp2_with fail)
  all_goals (go_ret; exact ⟨retB (unhide HE), (unhide HB4).drew⟩)

end Go.Proofs.Ytldbanflbjpfeaa
