
/- The walks of spec.l5Label, spec.Labels, spec.l5Labels and spec.HostOk: whether a text is a host; nothing that was there is written. -/
import Derived.Test.YtbbidjckplpaiaaGreatDoorHa
import Derived.Laws.AppendOwn
import Derived.Deep.DeepAppendWide
import Derived.Deep.Fields
namespace Go.Proofs.YtbbidjckplpaiaaGreatDoor
open Go.RowKit Go.Deep

theorem in14 (x lo hi : Int) (w : World) :
    Calls Tryz.prog 42 #[.int .i64 x, .int .i64 lo, .int .i64 hi] w fun e w' => e = .returned (.bool (decide (lo ≤ x ∧ x ≤ hi))) ∧ w' = w := by
  go_enter Tryz.func42, Tryz.ntmps42
  go_wp2
  all_goals go_ret
  all_goals exact ⟨retB (by simp; omega), rfl⟩

set_option maxRecDepth 100000 in
set_option maxHeartbeats 1000000 in
theorem label28 (s : ByteArray) (w : World) (hs : s.size ≤ 2097152) :
    Calls Tryz.prog 129 #[.string s] w fun e w' => e = .returned (.bool (labB s)) ∧ w' = w := by
  have h14 := hide (fun v => in14 (s.size : Int) 1 10 v)
  go_enter Tryz.func129, Tryz.ntmps129
  go_wp2_with fail
  go_loopw [3] (fun n w' => ∃ k : Nat, n = .int .i64 k ∧ w' = w ∧ k ≤ s.size ∧ ∀ j, j < k → okAt s j) (fun n _ => s.size - (intOf n).toNat)
  case atStart => exact ⟨0, rfl, rfl, by omega, fun j hj => by omega⟩
  case round =>
    obtain ⟨k, rfl, rfl, hk, hall⟩ := hrel
    by_cases hp : k < s.size
    · have hb := byteAt_lt hp
      have c1 : (k : Int) < (s.size : Int) := by omega
      have w1 : wrap64 ((k : Int) + 1) = ((k + 1 : Nat) : Int) := by unfold wrap64; omega
      have w2 : wrap64 ((s.size : Int) - 1) = (s.size : Int) - 1 := by unfold wrap64; omega
      by_cases hok : okAt s k
      · have hok' := hok
        unfold okAt at hok'
        generalize byteAt s k = b at *
        have HM : Hid (∃ k' : Nat, Value.int .i64 ((k : Int) + 1) = .int .i64 k' ∧ True ∧ k' ≤ s.size ∧ ∀ j, j < k' → okAt s j) := ⟨k + 1, rfl, trivial, by omega, fun j hj => by
          rcases Nat.lt_or_ge j k with h | h
          · exact hall j h
          · obtain rfl : j = k := by omega
            exact hok⟩
        go_wp2
        all_goals first
          | (go_roundw
             case rel => exact unhide HM
             case measure => simp only [intOf]; omega)
          | (exfalso; simp at *; omega)
      · have hok' := hok
        unfold okAt at hok'
        have HN := hide (labB_no (s := s) fun hl => hok (hl.2.2 k hp))
        generalize byteAt s k = b at *
        go_wp2
        all_goals first
          | (go_ret; exact ⟨retB (unhide HN), rfl⟩)
          | (exfalso; simp at *; omega)
    · have c1 : ¬ (k : Int) < (s.size : Int) := by omega
      go_wp2_with fail
      refine (unhide h14 _).mono ?_
      rintro e w2 ⟨rfl, rfl⟩
      go_wp2_with fail
      go_ret
      refine ⟨retB ?_, rfl⟩
      by_cases hl : labP s
      · rw [labB_yes hl]; symm; simp; have := hl.1; have := hl.2.1; omega
      · rw [labB_no hl]; symm; simp; intro h1; refine Classical.byContradiction fun h2 => hl ⟨by omega, by omega, fun j hj => hall j (by omega)⟩


theorem infoS : (Tryz.prog.info? 9).map (fun i => (i.zero, i.size, i.bytes)) = some (some (.string ⟨#[]⟩), 1, 16) := by kernel_rfl
/-- The texts lie in a row of the call's own. -/
def Txs (w : World) (l : List ByteArray) (v : Value) (wr : World) : Prop := wr.ownsRow w.heap.size 9 1 v l.length (l.map fun b => Value.string b)
theorem Txs.shape {w wr : World} {l : List ByteArray} {v : Value} (h : Txs w l v wr) : ∃ a c, v = .slice a l.length c := by
  rcases h.2 with ⟨h1, h2⟩ | ⟨g, cap, cur, h1, _⟩
  · exact ⟨none, 0, by rw [h1, h2]⟩
  · exact ⟨_, _, h1⟩
theorem Txs.on {w wr w2 : World} {l : List ByteArray} {v : Value} (h : Txs w l v wr) (hb : Below wr.heap.size wr w2) : Txs w l v w2 :=
  World.ownsRow.kept h (w' := w2) (row := none) ⟨hb.os, hb.tape, hb.output, hb.size, fun k hk _ => hb.block k hk⟩ (by cases v.ownBlock <;> simp)
/-- One text more, out of a block of its own. -/
theorem Txs.put {w wr w0 : World} {l : List ByteArray} {tv : Value} (h : Txs w l tv wr) (hbw : Below w.heap.size w wr) (c : ByteArray) {b : Nat} (hb : Below wr.heap.size wr w0) (hc : w0.cell? ⟨b, 0, none⟩ = some (.string c)) (hn : l.length + 1 ≤ 1073741824) (ty : TypeId) :
    ∃ v' w', (Builtin.append_ #[79, 79] ty #[tv, .slice (some ⟨b, 0, none⟩) 1 1]).run Tryz.prog w0 = .ok v' w' ∧ Txs w (l ++ [c]) v' w' ∧ w0.grownBy w' tv.ownBlock ∧ Below w.heap.size w w' := by
  obtain ⟨i, hi, hzz⟩ := Option.map_eq_some_iff.1 infoS
  simp only [Prod.mk.injEq] at hzz
  obtain ⟨hz, hs, hby⟩ := hzz
  have h0 := h.on hb
  have hb0 : Below w.heap.size w w0 := hbw.trans (hb.mono hbw.size)
  obtain ⟨v', w', g1, g2, g3, _⟩ := run_append_own_wide (P := Tryz.prog) w0 w.heap.size 79 ty 9 i _ 1 16 Tryz.underlying79 hi hz hs hby rfl (by omega) tv l.length _ h0 ⟨b, 0, none⟩ 1 1 [.string c]
    rfl (fun j u hj => by
      rw [Addr.add_mid]
      match j, hj with
      | 0, hj => simp at hj; subst hj; exact hc) (fun u hu => by simp at hu; subst hu; rfl) (by unfold maxLen; omega) (by omega) hb0.size
  refine ⟨v', w', g1, ?_, g3, hb0.grown g3 hb0.size (fun k hk => (World.ownsRow.lt h0 k hk).1)⟩
  unfold Txs
  rw [List.length_append, List.map_append]
  simpa using g2

theorem abH {w : World} (x : Obj) : Below w.heap.size w (w.alloc x) := (Below.refl _ _).alloc (Nat.le_refl _) _
theorem Txs.lit (w : World) : Txs w [] (.slice (some ⟨w.heap.size, 0, none⟩) 0 0) (w.alloc (.cells #[] 9)) :=
  ⟨rfl, Or.inr ⟨w.heap.size, 0, #[], rfl, Nat.le_refl _, heap_alloc_new w _, Nat.le_refl _, Nat.zero_le _, rfl, rfl⟩⟩
/-- How far the labels are gone through. -/
def Gone (s : ByteArray) (k fr : Nat) (ls : List ByteArray) : Prop := (k ≤ s.size ∧ fr ≤ k ∧ ls ++ labs s (s.size - k) fr = labsOf s) ∨ (k = s.size + 1 ∧ ls = labsOf s)
theorem Gone.end {s : ByteArray} {k fr : Nat} {ls : List ByteArray} (h : Gone s k fr ls) (hk : ¬ k ≤ s.size) : ls = labsOf s := by
  rcases h with h | h
  · exact absurd h.1 hk
  · exact h.2
theorem Gone.last {s : ByteArray} {k fr : Nat} {ls : List ByteArray} (h : Gone s k fr ls) (hk : k = s.size) (fr' : Nat) : Gone s (k + 1) fr' (ls ++ [s.extract fr k]) := by
  rcases h with h | h
  · refine Or.inr ⟨by omega, ?_⟩
    rw [← h.2.2, hk, Nat.sub_self]
    simp [labs]
  · omega
theorem Gone.dot {s : ByteArray} {k fr : Nat} {ls : List ByteArray} (h : Gone s k fr ls) (hk : k < s.size) (hd : byteAt s k = 46) : Gone s (k + 1) (k + 1) (ls ++ [s.extract fr k]) := by
  rcases h with h | h
  · refine Or.inl ⟨by omega, Nat.le_refl _, ?_⟩
    rw [← h.2.2, labs_dot hk hd]
    simp
  · omega
theorem Gone.next {s : ByteArray} {k fr : Nat} {ls : List ByteArray} (h : Gone s k fr ls) (hk : k < s.size) (hd : ¬ byteAt s k = 46) : Gone s (k + 1) fr ls := by
  rcases h with h | h
  · exact Or.inl ⟨by omega, by omega, by rw [← h.2.2, labs_no hk hd]⟩
  · omega
theorem Gone.le {s : ByteArray} {k fr : Nat} {ls : List ByteArray} (h : Gone s k fr ls) (hk : k ≤ s.size) : fr ≤ k := by
  rcases h with h | h
  · exact h.2.1
  · omega

set_option maxRecDepth 100000 in
set_option maxHeartbeats 1000000 in
theorem labels27 (s : ByteArray) (w : World) (hs : s.size ≤ 2097152) :
    Calls Tryz.prog 128 #[.string s] w fun e w' => ∃ v, e = .returned v ∧ Txs w (labsOf s) v w' ∧ Below w.heap.size w w' := by
  go_enter Tryz.func128, Tryz.ntmps128
  go_wp2_with fail
  go_loopw [3, 4, 5] (fun v f i wr => ∃ (k fr : Nat) (ls : List ByteArray), i = .int .i64 k ∧ f = .int .i64 fr ∧ Txs w ls v wr ∧ Below w.heap.size w wr ∧ k ≤ s.size + 1 ∧ ls.length ≤ k ∧ Gone s k fr ls) (fun _ _ i _ => s.size + 1 - (intOf i).toNat)
  case atStart => exact ⟨0, 0, [], rfl, rfl, Txs.lit w, abH _, by omega, by simp, Or.inl ⟨Nat.zero_le _, Nat.le_refl _, rfl⟩⟩
  case round =>
    obtain ⟨k, fr, ls, rfl, rfl, htx, hbw, hk, hlen, hgo⟩ := hrel
    obtain ⟨ua, uc, rfl⟩ := htx.shape
    have HTX := hide htx
    have HBW := hide hbw
    have HGO := hide hgo
    by_cases hp : k ≤ s.size
    · have hfr := hgo.le hp
      clear htx hbw hgo
      have c1 : (k : Int) ≤ (s.size : Int) := by omega
      have c2 : (fr : Int) ≤ (k : Int) := by omega
      have c3 : (0 : Int) ≤ (fr : Int) := by omega
      have c4 : (0 : Int) ≤ (k : Int) := by omega
      have w1 : wrap64 ((k : Int) + 1) = ((k + 1 : Nat) : Int) := by unfold wrap64; omega
      have HAP := hide ((unhide HTX).put (unhide HBW) (s.extract fr k) (b := wr.heap.size) (abH (.cells #[.string (s.extract fr k)] 9)) (box_cell wr _ 9 0 _ rfl) (by omega) 79)
      have HLEN : Hid (ls.length ≤ k) := hlen
      have HLT : Hid (∀ l, (ls ++ [l]).length ≤ k + 1) := fun l => by simp; exact hlen
      by_cases he : k = s.size
      · have hq : ((k : Int) == (s.size : Int)) = true := by simp [he]
        have HN := hide ((unhide HGO).last he (k + 1))
        have HE := hide he
        clear he
        generalize ls.length = ul at *
        go_wp2_with (at_builtin; refine wpList_append_run rfl _ _ 79 rfl _ _ rfl rfl (fun v' w' => Txs w (ls ++ [s.extract fr k]) v' w' ∧ (wr.alloc (.cells #[.string (s.extract fr k)] 9)).grownBy w' (Value.slice ua ul uc).ownBlock ∧ Below w.heap.size w w') (unhide HAP) ?_; rintro v3 w3 ⟨hb3, hg3, hbw3⟩; have HB3 := hide hb3; have HW3 := hide hbw3; clear hb3 hg3 hbw3)
        go_roundw
        case rel => exact ⟨k + 1, k + 1, _, rfl, rfl, unhide HB3, unhide HW3, by omega, unhide HLT _, unhide HN⟩
        case measure => simp only [intOf]; omega
      · have hlt : k < s.size := by omega
        have hq : ((k : Int) == (s.size : Int)) = false := by simp; omega
        have c5 : (k : Int) < (s.size : Int) := by omega
        have hb := byteAt_lt hlt
        by_cases hd : byteAt s k = 46
        · have HN := hide ((unhide HGO).dot hlt hd)
          rw [hd] at hb
          have hb' : ((((s[k]'hlt).toNat : Nat) : Int) == 46) = true := by rw [hb]; rfl
          generalize ls.length = ul at *
          go_wp2_with (at_builtin; refine wpList_append_run rfl _ _ 79 rfl _ _ rfl rfl (fun v' w' => Txs w (ls ++ [s.extract fr k]) v' w' ∧ (wr.alloc (.cells #[.string (s.extract fr k)] 9)).grownBy w' (Value.slice ua ul uc).ownBlock ∧ Below w.heap.size w w') (unhide HAP) ?_; rintro v3 w3 ⟨hb3, hg3, hbw3⟩; have HB3 := hide hb3; have HW3 := hide hbw3; clear hb3 hg3 hbw3)
          go_roundw
          case rel => exact ⟨k + 1, k + 1, _, rfl, rfl, unhide HB3, unhide HW3, by omega, unhide HLT _, unhide HN⟩
          case measure => simp only [intOf]; omega
        · have HN := hide ((unhide HGO).next hlt hd)
          have hb' : ((((s[k]'hlt).toNat : Nat) : Int) == 46) = false := by rw [hb]; simp; omega
          generalize hul : ls.length = ul at *
          go_wp2_with fail
          go_roundw
          case rel => exact ⟨k + 1, fr, ls, rfl, rfl, by have := unhide HTX; exact this, unhide HBW, by omega, by have := unhide HLEN; omega, unhide HN⟩
          case measure => simp only [intOf]; omega
    · have c1 : ¬ (k : Int) ≤ (s.size : Int) := by omega
      have he := (unhide HGO).end hp
      clear htx hbw hgo
      go_wp2_with fail
      go_ret
      refine ⟨_, rfl, ?_, unhide HBW⟩
      rw [← he]
      exact unhide HTX

end Go.Proofs.YtbbidjckplpaiaaGreatDoor
