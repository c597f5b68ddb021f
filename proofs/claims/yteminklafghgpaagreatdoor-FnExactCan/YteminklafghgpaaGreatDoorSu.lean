
/- The walks of impl.sizeUpTo and impl.TermSize: of whatever term lies in memory, of at most 2^21 within it, they answer how many are within it, the first no more than it is told; nothing that was there is written. -/
import Derived.Test.YteminklafghgpaaGreatDoorStk
import Derived.Deep.LoopGhost
namespace Go.Proofs.YteminklafghgpaaGreatDoor
open Go.RowKit Go.Deep

def sizesP (ps : List (Tm × List Value)) : Nat := Tm.sizes (ps.map (·.1))
theorem sizesP_append (a b : List (Tm × List Value)) : sizesP (a ++ b) = sizesP a + sizesP b := by simp [sizesP, Tm.sizes_append]
theorem sizesP_one (p : Tm × List Value) : sizesP [p] = p.1.size := by simp [sizesP, Tm.sizes]
theorem length_le_sizesP (ps : List (Tm × List Value)) : ps.length ≤ sizesP ps := by
  have := Tm.length_le_sizes (ps.map (·.1))
  simpa [sizesP] using this

def capAt (z most : Int) : Int := if z ≤ most then z else most
theorem capAt_le {z most : Int} (h : z ≤ most) : capAt z most = z := by unfold capAt; rw [if_pos h]
theorem capAt_ge {z most : Int} (h : most ≤ z) : capAt z most = most := by unfold capAt; split <;> omega

set_option maxHeartbeats 1000000 in
theorem su_any (t : Tm) (op n : Int) (s : ByteArray) (a : Option Addr) (len cap : Nat) (most : Int) (w : World) (hl : Lies w 0 t (tmCells op n s a len cap)) (hsz : t.size ≤ 2097152) :
    Calls Tryz.prog 32 #[.agg #[.int .i64 op, .int .i64 n, .string s, .slice a len cap], .int .i64 most] w fun e w' => e = .returned (.int .i64 (capAt (t.size : Int) most)) ∧ Below w.heap.size w w' := by
  have HS : Stk w [(t, tmCells op n s a len cap)] (.slice (some ⟨w.heap.size + 1, 0, none⟩) 1 1) ((w.alloc (.cells #[.int .i64 op, .int .i64 n, .string s, .slice a len cap] 35)).alloc (.cells #[.int .i64 op, .int .i64 n, .string s, .slice a len cap] 35)) := by
    have := Stk.start (w0 := w.alloc (.cells #[.int .i64 op, .int .i64 n, .string s, .slice a len cap] 35)) ((Below.refl w.heap.size w).alloc (Nat.le_refl _) _) hl
    simpa [tmCells] using this
  have HS' := hide HS
  clear HS
  generalize hq : t.size = tot at *
  have Hq : Hid (t.size = tot) := hq
  clear hq hl
  go_enter Tryz.func32, Tryz.ntmps32
  go_wp2_with fail
  go_loopg [5, 6] (tot + 1) (fun gk l v wr => ∃ (ps : List (Tm × List Value)) (z : Nat), sizesP ps < gk ∧ l = .int .i64 z ∧ z + sizesP ps = tot + ps.length ∧ sizesP ps ≤ tot ∧ Stk w ps v wr)
  case atStart => exact ⟨[(t, tmCells op n s a len cap)], 1, by rw [sizesP_one, Hq.out]; omega, rfl, by rw [sizesP_one, Hq.out]; simp; omega, by rw [sizesP_one, Hq.out]; exact Nat.le_refl _, unhide HS'⟩
  case round =>
    obtain ⟨ps, z, hgk, rfl, htot, hpt, hstk⟩ := hrel
    clear HS'
    by_cases hps : ps = []
    · subst hps
      obtain ⟨av, c, hv, _⟩ := hstk.shape
      simp only [List.length_nil] at hv
      have HB := hide hstk.below
      have hzt : z = tot := by simpa [sizesP, Tm.sizes] using htot
      have HZ := hide hzt
      clear hzt hstk htot hgk hpt
      subst hv
      by_cases hzm : (z : Int) ≤ most
      · go_wp2_with fail
        go_ret
        exact ⟨ret_int (by rw [← unhide HZ, capAt_le hzm]), unhide HB⟩
      · have hzm' : most ≤ (z : Int) := by omega
        go_wp2_with fail
        go_ret
        exact ⟨ret_int (by rw [← unhide HZ, capAt_ge hzm']), unhide HB⟩
    · obtain ⟨us, p, rfl⟩ : ∃ us p, ps = us ++ [p] := ⟨ps.dropLast, ps.getLast hps, (List.dropLast_concat_getLast hps).symm⟩
      obtain ⟨g, c, rfl, hc1, hc2, hcell⟩ := hstk.top
      have hlen := length_le_sizesP us
      rw [sizesP_append, sizesP_one] at htot hgk hpt
      simp only [List.length_append, List.length_cons, List.length_nil, Nat.zero_add] at htot
      have hpos := p.1.size_pos
      by_cases hzm : (z : Int) < most
      · obtain ⟨pt, pc⟩ := p
        obtain ⟨op1, n1, s1, ks⟩ := pt
        have hlp := hstk.lies (.node op1 n1 s1 ks, pc) (by simp)
        simp only [Lies] at hlp
        obtain ⟨a1, cap1, rfl, _, _, hk⟩ := hlp
        have c3 := hcell 3 (.slice a1 ks.length cap1) rfl
        have hks : sizesP us + (1 + Tm.sizes ks) + z = tot + (us.length + 1) := by simp only [Tm.size] at htot; omega
        have hkl := Tm.length_le_sizes ks
        obtain ⟨kp, hkp, happ⟩ := hstk.push cap1 hk (by omega) 27
        have hkz : sizesP kp = Tm.sizes ks := by simp [sizesP, hkp]
        have hkn : kp.length = ks.length := by rw [← hkp]; simp
        have HZ := hide hkz
        have HN := hide hkn
        have HK := hide hkp
        have HA := hide happ
        have HG := hide hgk
        have HT := hide hks
        have HP := hide hpt
        have hb1 : z ≤ 2097152 := by omega
        have hb2 : us.length ≤ 2097152 := by omega
        have hb3 : z + ks.length ≤ 2097152 := by omega
        unfold maxLen at hc2
        clear hkz hkn hkp happ hgk htot hcell hstk hk hps hks hlen hkl hpos hpt
        generalize hul : us.length = ul at *
        have HU := hide hul
        clear hul
        go_wp2_with (at_builtin; refine wpList_append_run rfl _ _ 24 rfl _ _ rfl rfl (fun v' w' => Stk w (us ++ kp) v' w') (unhide HA) ?_; intro v' w' hst)
        go_roundg (sizesP us + Tm.sizes ks + 1)
        case measure => have := unhide HG; simp only [Tm.size] at this; omega
        case rel =>
          exact ⟨us ++ kp, z + ks.length, by rw [sizesP_append, unhide HZ]; omega, by go_num, by
            have h1 := unhide HT
            have h2 := unhide HU
            rw [sizesP_append, unhide HZ, List.length_append, unhide HN]
            omega, by
            have h1 := unhide HP
            simp only [Tm.size] at h1
            rw [sizesP_append, unhide HZ]
            omega, hst⟩
      · have hzm' : most ≤ (z : Int) := by omega
        have HB := hide hstk.below
        have hzt : (z : Int) ≤ tot := by omega
        have HZ := hide hzt
        clear hzt hstk htot hgk hcell hps hlen hpos hpt
        go_wp2_with fail
        all_goals
          go_ret
          exact ⟨ret_int (by have h2 := capAt_ge (z := (tot : Int)) (most := most) (by have := unhide HZ; omega); omega), unhide HB⟩

end Go.Proofs.YteminklafghgpaaGreatDoor
