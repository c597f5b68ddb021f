
/- The walk of spec.TermSize: of whatever term lies in memory, of at most 2^21 within it, it answers how many are within it; nothing that was there is written. -/
import Derived.Test.YteminklafghgpaaGreatDoorSz
namespace Go.Proofs.YteminklafghgpaaGreatDoor
open Go.RowKit Go.Deep

theorem box_cell (w : World) (cs : Array Value) (t : TypeId) (j : Nat) (v : Value) (h : cs[j]? = some v) : (w.alloc (.cells cs t)).cell? ⟨w.heap.size, j, none⟩ = some v := by
  have e : (w.alloc (.cells cs t)).heap[w.heap.size]? = some (.cells cs t) := heap_alloc_new w _
  unfold World.cell?
  rw [e]
  exact h

def TsOk (t : Tm) : Prop := ∀ (op n : Int) (s : ByteArray) (a : Option Addr) (len cap : Nat) (w : World), Lies w 0 t (tmCells op n s a len cap) → t.size ≤ 2097152 →
  Calls Tryz.prog 27 #[.agg #[.int .i64 op, .int .i64 n, .string s, .slice a len cap]] w fun e w' => e = .returned (.int .i64 (t.size : Int)) ∧ Below w.heap.size w w'

set_option maxHeartbeats 400000 in
theorem ts_step (t : Tm) (h : ∀ x ∈ t.kids, TsOk x) : TsOk t := by
  intro op n s a len cap w hl hsz
  cases t with
  | node op' n' s' ks =>
    simp only [Lies, tmCells] at hl
    obtain ⟨a', cap', he, ⟨hs, hlc, hcm⟩, _, hk⟩ := hl
    simp only [List.cons.injEq, Value.int.injEq, Value.string.injEq, Value.slice.injEq, true_and, and_true] at he
    obtain ⟨rfl, rfl, rfl, rfl, rfl, rfl⟩ := he
    have HZ : Hid ((Tm.node op n s ks).size = 1 + Tm.sizes ks) := by show _ = _; simp only [Tm.size]
    generalize (Tm.node op n s ks).size = z at *
    have hzs : Tm.sizes ks ≤ 2097152 := by have := HZ.out; omega
    have h' : ∀ x ∈ ks, TsOk x := h
    clear h
    have hll := Tm.length_le_sizes ks
    generalize hlen : ks.length = len at *
    have HL : Hid (ks.length = len) := hlen
    clear hlen
    unfold maxLen at hs hcm
    go_enter Tryz.func27, Tryz.ntmps27
    go_wp2_with fail
    go_loopw [3, 4] (fun l i wr => ∃ k : Nat, k ≤ len ∧ i = .int .i64 k ∧ l = .int .i64 (1 + (Tm.sizes (ks.take k) : Int)) ∧ Below (w.heap.size + 1) (w.alloc (.cells #[.int .i64 op, .int .i64 n, .string s, .slice a len cap] 35)) wr) (fun _ i _ => len - (intOf i).toNat)
    case atStart => exact ⟨0, Nat.zero_le _, rfl, by simp [Tm.sizes], Below.refl _ _⟩
    case round =>
      obtain ⟨k, hkl, rfl, rfl, hb⟩ := hrel
      have b3 : wr.cell? ⟨w.heap.size, 3, none⟩ = some (.slice a len cap) := (hb.cell (p := ⟨w.heap.size, 3, none⟩) (by simp)).trans (box_cell _ _ _ 3 _ rfl)
      have hbw : Below w.heap.size w wr := ((Below.refl _ _).alloc (Nat.le_refl _) _).trans (hb.mono (by omega))
      by_cases hlt : k < len
      · have hlt' : k < ks.length := by have := HL.out; omega
        obtain ⟨b, o, op1, n1, s1, a1, len1, cap1, rfl, _, hbs, c0, c1, c2, c3, hT⟩ := hk.elem (k := k) hlt'
        have ht : ks.take (k + 1) = ks.take k ++ [ks[k]] := Tm.take_succ_get (by simp [hlt'])
        have hwt : Tm.sizes (ks.take (k + 1)) = Tm.sizes (ks.take k) + ks[k].size := by rw [ht, Tm.sizes_append]; simp [Tm.sizes]
        have HW : Hid (Tm.sizes (ks.take (k + 1)) = Tm.sizes (ks.take k) + ks[k].size) := hwt
        have hA : Tm.sizes (ks.take (k + 1)) ≤ Tm.sizes ks := by
          have := Tm.sizes_append (ks.take (k + 1)) (ks.drop (k + 1))
          rw [List.take_append_drop] at this
          omega
        have c0' := (hbw.cell (p := ⟨b, o + k * 4, none⟩) hbs).trans c0
        have c1' := (hbw.cell (p := ⟨b, o + k * 4 + 1, none⟩) hbs).trans c1
        have c2' := (hbw.cell (p := ⟨b, o + k * 4 + 2, none⟩) hbs).trans c2
        have c3' := (hbw.cell (p := ⟨b, o + k * 4 + 3, none⟩) hbs).trans c3
        have HT : Hid (Lies wr 0 ks[k] (tmCells op1 n1 s1 a1 len1 cap1)) := hT.below hbw
        have hct := h' ks[k] (List.getElem_mem hlt')
        generalize hwl : Tm.sizes (ks.take k) = wl at *
        generalize hwk : Tm.sizes (ks.take (k + 1)) = wk at *
        generalize hq : ks[k] = tk at *
        generalize hqw : tk.size = qw at *
        have Hqw : Hid (tk.size = qw) := hqw
        have Hwk : Hid (Tm.sizes (ks.take (k + 1)) = wk) := hwk
        have hq1 : wl + qw ≤ 2097152 := by omega
        have hq2 : qw ≤ 2097152 := by omega
        have HB : Hid (Below (w.heap.size + 1) (w.alloc (.cells #[.int .i64 op, .int .i64 n, .string s, .slice (some ⟨b, o, none⟩) len cap] 35)) wr) := hb
        clear hwl hwk hq hqw h' hk hT ht hwt hA c0 c1 c2 c3 hb hbw
        go_wp2_with fail
        refine (hct op1 n1 s1 a1 len1 cap1 _ HT.out (by rw [Hqw.out]; exact hq2)).mono ?_
        rintro e w2 ⟨rfl, hb2⟩
        rw [Hqw.out]
        go_wp2_with fail
        go_roundw
        case rel => exact ⟨k + 1, by omega, by go_num, by rw [Hwk.out, HW.out]; go_num, HB.out.trans (hb2.mono (by have := HB.out.size; simp at this; omega))⟩
        case measure => simp [intOf]; omega
      · go_wp2_with fail
        go_ret
        exact ⟨ret_int (by rw [List.take_of_length_le (by have := HL.out; omega), HZ.out]; omega), hbw⟩

theorem ts_any : ∀ (k : Nat) (t : Tm), t.size ≤ k → TsOk t
  | 0, t, h => by have := t.size_pos; omega
  | k + 1, t, h => ts_step t fun x hx => ts_any k x (by
      cases t with
      | node op n s ks =>
        have := Tm.size_mem (ks := ks) hx
        simp only [Tm.size] at h
        omega)

theorem ts_calls (t : Tm) : TsOk t := ts_any t.size t (Nat.le_refl _)

end Go.Proofs.YteminklafghgpaaGreatDoor
