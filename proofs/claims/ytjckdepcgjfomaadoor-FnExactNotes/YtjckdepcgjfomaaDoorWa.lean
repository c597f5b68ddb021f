/- The walk of spec.l12Words: what stands between blanks; nothing that was there is written. -/
import Derived.Test.YtjckdepcgjfomaaDoorHb
import Derived.Test.YtjckdepcgjfomaaDoorWq
namespace Go.Proofs.YtjckdepcgjfomaaDoor
open Go.RowKit Go.Deep

set_option maxRecDepth 100000 in
set_option maxHeartbeats 1000000 in
theorem words23 (s : ByteArray) (w : World) (hs : s.size ≤ 2097152) :
    Calls Tryd.prog 23 #[.string s] w fun e w' => ∃ v, e = .returned v ∧ Txs w (wdsOf s) v w' ∧ Below w.heap.size w w' := by
  go_enter Tryd.func23, Tryd.ntmps23
  go_wp2_with fail
  go_loopw [3, 4, 5] (fun v f i wr => ∃ (k fr : Nat) (ls : List ByteArray), i = .int .i64 k ∧ f = .int .i64 fr ∧ Txs w ls v wr ∧ Below w.heap.size w wr ∧ k ≤ s.size + 1 ∧ ls.length ≤ k ∧ GoneW s k fr ls) (fun _ _ i _ => s.size + 1 - (intOf i).toNat)
  case atStart => exact ⟨0, 0, [], rfl, rfl, Txs.lit w, abH _, by omega, by simp, Or.inl ⟨Nat.zero_le _, Nat.le_refl _, rfl⟩⟩
  case round =>
    obtain ⟨k, fr, ls, rfl, rfl, htx, hbw, hk, hlen, hgo⟩ := hrel
    obtain ⟨ua, uc, rfl⟩ := htx.shape
    have HTX := hide htx
    have HBW := hide hbw
    have HGO := hide hgo
    by_cases hp : k ≤ s.size
    · have hfr := hgo.le hp
      clear htx hbw hgo
      have c1 : (k : Int) ≤ (s.size : Int) := by omega
      have c2 : (fr : Int) ≤ (k : Int) := by omega
      have c3 : (0 : Int) ≤ (fr : Int) := by omega
      have c4 : (0 : Int) ≤ (k : Int) := by omega
      have w1 : wrap64 ((k : Int) + 1) = ((k + 1 : Nat) : Int) := by unfold wrap64; omega
      have HAP := hide ((unhide HTX).put (unhide HBW) (s.extract fr k) (b := wr.heap.size) (abH (.cells #[.string (s.extract fr k)] 9)) (box_cell wr _ 9 0 _ rfl) (by omega) 39)
      have HLEN : Hid (ls.length ≤ k) := hlen
      have HLT : Hid (∀ l, (ls ++ [l]).length ≤ k + 1) := fun l => by simp; exact hlen
      by_cases he : k = s.size
      · have hq : ((k : Int) == (s.size : Int)) = true := by simp [he]
        have HN := hide ((unhide HGO).last he (k + 1))
        have HE := hide he
        clear he
        generalize ls.length = ul at *
        go_wp2_with (at_builtin; refine wpList_append_run rfl _ _ 39 rfl _ _ rfl rfl (fun v' w' => Txs w (ls ++ [s.extract fr k]) v' w' ∧ (wr.alloc (.cells #[.string (s.extract fr k)] 9)).grownBy w' (Value.slice ua ul uc).ownBlock ∧ Below w.heap.size w w') (unhide HAP) ?_; rintro v3 w3 ⟨hb3, hg3, hbw3⟩; have HB3 := hide hb3; have HW3 := hide hbw3; clear hb3 hg3 hbw3)
        go_roundw
        case rel => exact ⟨k + 1, k + 1, _, rfl, rfl, unhide HB3, unhide HW3, by omega, unhide HLT _, unhide HN⟩
        case measure => simp only [intOf]; omega
      · have hlt : k < s.size := by omega
        have hq : ((k : Int) == (s.size : Int)) = false := by simp; omega
        have c5 : (k : Int) < (s.size : Int) := by omega
        have hb := byteAt_lt hlt
        by_cases hd : byteAt s k = 32
        · have HN := hide ((unhide HGO).dot hlt hd)
          rw [hd] at hb
          have hb' : ((((s[k]'hlt).toNat : Nat) : Int) == 32) = true := by rw [hb]; rfl
          generalize ls.length = ul at *
          go_wp2_with (at_builtin; refine wpList_append_run rfl _ _ 39 rfl _ _ rfl rfl (fun v' w' => Txs w (ls ++ [s.extract fr k]) v' w' ∧ (wr.alloc (.cells #[.string (s.extract fr k)] 9)).grownBy w' (Value.slice ua ul uc).ownBlock ∧ Below w.heap.size w w') (unhide HAP) ?_; rintro v3 w3 ⟨hb3, hg3, hbw3⟩; have HB3 := hide hb3; have HW3 := hide hbw3; clear hb3 hg3 hbw3)
          go_roundw
          case rel => exact ⟨k + 1, k + 1, _, rfl, rfl, unhide HB3, unhide HW3, by omega, unhide HLT _, unhide HN⟩
          case measure => simp only [intOf]; omega
        · have HN := hide ((unhide HGO).next hlt hd)
          have hb' : ((((s[k]'hlt).toNat : Nat) : Int) == 32) = false := by rw [hb]; simp; omega
          generalize hul : ls.length = ul at *
          go_wp2_with fail
          go_roundw
          case rel => exact ⟨k + 1, fr, ls, rfl, rfl, by have := unhide HTX; exact this, unhide HBW, by omega, by have := unhide HLEN; omega, unhide HN⟩
          case measure => simp only [intOf]; omega
    · have c1 : ¬ (k : Int) ≤ (s.size : Int) := by omega
      have he := (unhide HGO).end hp
      clear htx hbw hgo
      go_wp2_with fail
      go_ret
      refine ⟨_, rfl, ?_, unhide HBW⟩
      rw [← he]
      exact unhide HTX

end Go.Proofs.YtjckdepcgjfomaaDoor
