
/- What can be known, as plain functions over terms; and the walk of spec.l2Has: whether a term is among some; nothing that was there is written. -/
import Derived.Test.YteminklafghgpaaGreatDoorSa
import Derived.Deep.RegionHeld3
namespace Go.Proofs.YteminklafghgpaaGreatDoor
open Go.RowKit Go.Deep

/-- Whether a term is among some. -/
def hasB (ps : List Tm) (t : Tm) : Bool := ps.any fun p => sameB p t
theorem hasB_take {ps : List Tm} {t : Tm} {k : Nat} (hk : k < ps.length) : hasB (ps.take (k + 1)) t = (hasB (ps.take k) t || sameB ps[k] t) := by
  unfold hasB
  rw [Tm.take_succ_get (t := ps[k]) (by simp [hk]), List.any_append]
  simp

set_option maxRecDepth 100000 in
set_option maxHeartbeats 2000000 in
theorem has_calls (ps : List Tm) (t : Tm) (pa : Option Addr) (pcap : Nat) (op n : Int) (s : ByteArray) (a : Option Addr) (len cap : Nat) (w : World) (hk : LiesAll w 0 pa 0 ps) (hl : Lies w 0 t (tmCells op n s a len cap)) (hpl : ps.length ≤ 2097152) :
    Calls Tryz.prog 29 #[.slice pa ps.length pcap, .agg #[.int .i64 op, .int .i64 n, .string s, .slice a len cap]] w fun e w' => e = .returned (.bool (hasB ps t)) ∧ Below w.heap.size w w' := by
  have hB0 : Below w.heap.size w (w.alloc (.cells #[.int .i64 op, .int .i64 n, .string s, .slice a len cap] 35)) := (Below.refl _ _).alloc (Nat.le_refl _) _
  have HK := hide (hk.below hB0)
  have HL := hide (hl.below hB0)
  have HB0 := hide hB0
  have HBX : Hid (∀ j v, (#[.int .i64 op, .int .i64 n, .string s, .slice a len cap] : Array Value)[j]? = some v → (w.alloc (.cells #[.int .i64 op, .int .i64 n, .string s, .slice a len cap] 35)).cell? ⟨w.heap.size, j, none⟩ = some v) := fun j v hj => box_cell w _ 35 j v hj
  have HSA : Hid (∀ p : Tm, SaOk p) := sa_calls
  have hlb : (ps.length : Int) ≤ 2097152 := by omega
  generalize hlen : ps.length = plen at *
  have HLN := hide hlen
  clear hk hl hB0 hlen
  go_enter Tryz.func29, Tryz.ntmps29
  go_wp2_with fail
  generalize hgw : w.alloc (.cells #[.int .i64 op, .int .i64 n, .string s, .slice a len cap] 35) = W0 at *
  have HS0 : Hid (W0.heap.size = w.heap.size + 1) := by show _ = _; rw [← hgw]; simp
  go_loopw [5] (fun i wr => ∃ k : Nat, k ≤ plen ∧ i = .int .i64 k ∧ hasB (ps.take k) t = false ∧ Below W0.heap.size W0 wr) (fun i _ => plen - (intOf i).toNat)
  case atStart => exact ⟨0, Nat.zero_le _, rfl, by simp [hasB], by rw [← hgw]; exact Below.refl _ _⟩
  case round =>
    obtain ⟨k, hkl, rfl, hno, hb⟩ := hrel
    have HNO := hide hno
    have HB := hide hb
    have HBW := hide ((unhide HB0).trans (hb.mono (by have := unhide HS0; omega)))
    clear hno
    by_cases hlt : k < plen
    · have hlt' : k < ps.length := by have := unhide HLN; omega
      obtain ⟨b, o, op1, n1, s1, a1, len1, cap1, rfl, _, hbs, c0, c1, c2, c3, hT⟩ := (unhide HK).elem (k := k) hlt'
      have HT := hide (hT.below hb)
      have c0 := (hb.cell (p := ⟨b, o + k * 4, none⟩) hbs).trans c0
      have c1 := (hb.cell (p := ⟨b, o + k * 4 + 1, none⟩) hbs).trans c1
      have c2 := (hb.cell (p := ⟨b, o + k * 4 + 2, none⟩) hbs).trans c2
      have c3 := (hb.cell (p := ⟨b, o + k * 4 + 3, none⟩) hbs).trans c3
      have HLW := hide ((unhide HL).below hb)
      have d0 := keepc hb (unhide HBX 0 _ rfl)
      have d1 := keepc hb (unhide HBX 1 _ rfl)
      have d2 := keepc hb (unhide HBX 2 _ rfl)
      have d3 := keepc hb (unhide HBX 3 _ rfl)
      have H47 := hide (unhide HSA ps[k] t op1 n1 s1 a1 len1 cap1 op n s a len cap)
      have HST : Hid (hasB (ps.take (k + 1)) t = (false || sameB ps[k] t)) := by show _ = _; rw [hasB_take hlt', unhide HNO]
      have HHT : Hid (sameB ps[k] t = true → hasB ps t = true) := fun h => by
        unfold hasB
        exact List.any_eq_true.2 ⟨ps[k], List.getElem_mem hlt', h⟩
      generalize sameB ps[k] t = sb at *
      clear hT hb HB0 HK HL HBX
      go_wp2_with fail
      go_region_held3 (fun x => x.cell? ⟨w.heap.size, 0, none⟩ = some (.int .i64 op) ∧ x.cell? ⟨w.heap.size, 1, none⟩ = some (.int .i64 n) ∧ x.cell? ⟨w.heap.size, 2, none⟩ = some (.string s) ∧ x.cell? ⟨w.heap.size, 3, none⟩ = some (.slice a len cap) ∧ x.cell? ⟨b, o + k * 4, none⟩ = some (.int .i64 op1) ∧ x.cell? ⟨b, o + k * 4 + 1, none⟩ = some (.int .i64 n1) ∧ x.cell? ⟨b, o + k * 4 + 2, none⟩ = some (.string s1) ∧ x.cell? ⟨b, o + k * 4 + 3, none⟩ = some (.slice a1 len1 cap1)) (go_keep)
        (first
          | (go_at_call 45
             refine (unhide H47 _ ((unhide HT).below ((Below.refl _ _).drew)) ((unhide HLW).below ((Below.refl _ _).drew))).mono ?_
             rintro e w2 ⟨rfl, hb2⟩
             have hb2' := hide (below_drw hb2)
             have f0 := keepc (unhide hb2') c0
             have f1 := keepc (unhide hb2') c1
             have f2 := keepc (unhide hb2') c2
             have f3 := keepc (unhide hb2') c3
             have f4 := keepc (unhide hb2') d0
             have f5 := keepc (unhide hb2') d1
             have f6 := keepc (unhide hb2') d2
             have f7 := keepc (unhide hb2') d3
             clear hb2))
      clear c0 c1 c2 c3 d0 d1 d2 d3 f0 f1 f2 f3 f4 f5 f6 f7
      cases sb with
      | true =>
        go_wp2_with fail
        go_ret
        exact ⟨ret_bool (unhide HHT trivial).symm, (unhide HBW).trans ((unhide hb2').mono (unhide HBW).size)⟩
      | false =>
        go_wp2_with fail
        go_roundw
        case rel => exact ⟨k + 1, by omega, by go_num, unhide HST, (unhide HB).trans ((unhide hb2').mono (unhide HB).size)⟩
        case measure => simp [intOf]; omega
    · go_wp2_with fail
      go_ret
      refine ⟨ret_bool ?_, unhide HBW⟩
      have h := unhide HNO
      rw [List.take_of_length_le (by have := unhide HLN; omega)] at h
      exact h.symm

end Go.Proofs.YteminklafghgpaaGreatDoor
