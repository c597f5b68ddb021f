/- The walks of spec.CacheGet and impl.CacheGet: the first policy of that domain that is not over, in memory of its own; nothing that was there is written. -/
import Derived.Test.YtdcfkbnppbeahaaQp
namespace Go.Proofs.Ytdcfkbnppbeahaa
open Go.RowKit Go.Deep

open Classical in
noncomputable def gotQ (P : List Pol) (d : ByteArray) (now : Int) : Option Pol := P.find? fun p => decide (p.d = d) && decide (now ≤ p.u)
/-- What is asked of the sizes of policies. -/
def polZ (p : Pol) : Prop := p.l.length ≤ 2097152 ∧ (∀ t ∈ p.l, t.size ≤ 2097152) ∧ p.d.size ≤ 2097152
def zeroP : Pol := ⟨⟨#[]⟩, 0, [], 0⟩
theorem gotQ_none {P : List Pol} {d : ByteArray} {now : Int} {k : Nat} (hk : ¬ k < P.length) (h : ∀ j p, j < k → P[j]? = some p → ¬ (p.d = d ∧ now ≤ p.u)) : gotQ P d now = none := by
  unfold gotQ
  rw [List.find?_eq_none]
  intro p hp
  obtain ⟨j, hj, e⟩ := List.getElem_of_mem hp
  have := h j p (by omega) (by rw [List.getElem?_eq_getElem hj, e])
  simp only [Bool.and_eq_true, decide_eq_true_eq]
  exact this
theorem gotQ_some {P : List Pol} {d : ByteArray} {now : Int} {k : Nat} {p : Pol} (hk : P[k]? = some p) (h : ∀ j p, j < k → P[j]? = some p → ¬ (p.d = d ∧ now ≤ p.u)) (hp : p.d = d ∧ now ≤ p.u) : gotQ P d now = some p := by
  unfold gotQ
  rw [List.find?_eq_some_iff_getElem]
  obtain ⟨hkl, hke⟩ := List.getElem?_eq_some_iff.1 hk
  refine ⟨by simp [hp.1, hp.2], k, hkl, hke, fun j hj => ?_⟩
  have hjl : j < P.length := by omega
  have := h j P[j] hj (List.getElem?_eq_getElem hjl)
  simp only [Bool.not_eq_true', Bool.and_eq_false_iff, decide_eq_false_iff_not]
  by_cases e : (P[j]).d = d
  · exact Or.inr fun h2 => this ⟨e, h2⟩
  · exact Or.inl e
theorem eq_toList {a b : ByteArray} (h : a = b) : (a.toList == b.toList) = true := by rw [h]; simp
theorem ne_toList {a b : ByteArray} (h : ¬ a = b) : (a.toList == b.toList) = false := by
  simp only [beq_eq_false_iff_ne, ne_eq]
  intro e
  exact h (Go.WideShapes.bytes_inj (by rwa [Lib.toList_data, Lib.toList_data] at e))

set_option maxRecDepth 100000 in
set_option maxHeartbeats 2000000 in
theorem getS (P : List Pol) (a : Option Addr) (cap : Nat) (d : ByteArray) (now : Int) (w : World) (hl : Pols w 0 a P) (hm : P.length ≤ 2097152) (hz : ∀ p ∈ P, polZ p) :
    Calls Try.prog 17 #[.slice a P.length cap, .string d, .int .i64 now] w fun e w' => ∃ v, e = .returned (.tuple #[.agg #[.string ((gotQ P d now).getD zeroP).d, .int .i64 ((gotQ P d now).getD zeroP).m, v, .int .i64 ((gotQ P d now).getD zeroP).u], .bool (gotQ P d now).isSome]) ∧ Txs w ((gotQ P d now).getD zeroP).l v w' ∧ Below w.heap.size w w' := by
  obtain ⟨W0, hW0⟩ : ∃ W0, w.alloc (.cells #[.string ⟨#[]⟩, .int .i64 0, .slice none 0 0, .int .i64 0] 27) = W0 := ⟨_, rfl⟩
  have hb0 : Below w.heap.size w W0 := by rw [← hW0]; exact abP _
  have HB0 := hide hb0
  have HY : Hid (RowP 27 W0 w.heap.size ⟨#[]⟩ 0 none 0 0 0) := by show RowP _ _ _ _ _ _ _ _ _; rw [← hW0]; exact RowP.new 27 w ⟨#[]⟩ 0 none 0 0 0
  have H := hide (hl.on hb0)
  have HZ := hide hz
  clear hl hz hb0
  generalize hlen : P.length = len at *
  have HL : Hid (P.length = len) := hlen
  clear hlen
  go_enter Try.func17, Try.ntmps17
  go_wp2_with fail
  clear hW0
  go_loopw [8] (fun n wr => ∃ k : Nat, n = .int .i64 (k : Int) ∧ Below W0.heap.size W0 wr ∧ k ≤ len ∧ ∀ j p, j < k → P[j]? = some p → ¬ (p.d = d ∧ now ≤ p.u)) (fun n _ => len - (intOf n).toNat)
  case atStart => exact ⟨0, rfl, Below.refl _ _, by omega, fun j p hj => by omega⟩
  case round =>
    obtain ⟨k, rfl, hb, hk, hall⟩ := hrel
    have HB := hide hb
    have HA := hide hall
    have HBT := hide (btP (unhide HB0) hb)
    have HY1 := hide ((unhide HY).below hb)
    by_cases hp : k < len
    · have hp' : k < P.length := by have := HL.out; omega
      obtain ⟨p, hkp⟩ : ∃ p, P[k]? = some p := ⟨_, List.getElem?_eq_getElem hp'⟩
      obtain ⟨b, o, x, xc, rfl, -, -, c0, c1, c2, c3, hT⟩ := ((unhide H).on hb).elem hkp
      have HT := hide hT
      have hpz := unhide HZ p (List.mem_of_getElem? hkp)
      have hct := hide (fun v hv => copyS p.l p.d p.m x xc p.u v hv hpz.1)
      have q2 : (k : Int) < (len : Int) := by omega
      have q3 : (0 : Int) ≤ (k : Int) := by omega
      have w1 : wrap64 ((k : Int) + 1) = ((k + 1 : Nat) : Int) := by unfold wrap64; omega
      have HN : Hid (¬ (p.d = d ∧ now ≤ p.u) → ∀ j q, j < k + 1 → P[j]? = some q → ¬ (q.d = d ∧ now ≤ q.u)) := fun hn j q hj hq => by
        rcases Nat.lt_or_ge j k with h | h
        · exact hall j q h hq
        · obtain rfl : j = k := by omega
          rw [hkp] at hq
          cases hq
          exact hn
      have HG : Hid (p.d = d ∧ now ≤ p.u → gotQ P d now = some p) := gotQ_some hkp hall
      clear hb hT hall hpz hkp
      by_cases hd : p.d = d
      · have e1 := eq_toList hd
        by_cases hu : now ≤ p.u
        · have HGG := hide (unhide HG ⟨hd, hu⟩)
          clear hd
          go_wp2_with fail
          refine (unhide hct _ (unhide HT)).mono ?_
          rintro e w2 ⟨v, rfl, htx, hb2⟩
          obtain ⟨ua, uc, rfl⟩ := htx.shape
          have HTX := hide htx
          have HY2 := hide ((unhide HY1).below hb2)
          have HB2 := hide (btP (unhide HBT) hb2)
          obtain ⟨d0, d1, d2, d3⟩ := (unhide HY2).facts
          have g0 := (unhide HY2).froz 0
          have g1 := (unhide HY2).froz 1
          have g2 := (unhide HY2).froz 2
          have g3 := (unhide HY2).froz 3
          have HLT : Hid (w.heap.size < wr.heap.size) := (unhide HY1).lt
          clear htx hb2 c0 c1 c2 c3
          go_wp2_with fail
          rw [unhide HGG]
          refine bodyPost_ret (v := .tuple #[.agg #[.string p.d, .int .i64 p.m, .slice ua p.l.length uc, .int .i64 p.u], .bool true]) (by simp [results, Try.results17, go_sem, d0, d1, d2, d3]) rfl ⟨_, rfl, ?_, ?_⟩
          · refine Txs.base (v0 := wr) ?_ (by have := unhide HLT; omega)
            repeat refine Txs.set ?_ (by have := unhide HLT; simp only; omega) _
            exact unhide HTX
          · repeat refine setBelow ?_ (by simp only; omega) _
            exact unhide HB2
        · have HM := hide (unhide HN fun h => hu h.2)
          clear hd
          go_wp2_with fail
          go_roundw
          case rel => exact ⟨k + 1, rfl, unhide HB, by omega, unhide HM⟩
          case measure => simp only [intOf]; omega
      · have e1 := ne_toList hd
        have HM := hide (unhide HN fun h => hd h.1)
        clear hd
        go_wp2_with fail
        go_roundw
        case rel => exact ⟨k + 1, rfl, unhide HB, by omega, unhide HM⟩
        case measure => simp only [intOf]; omega
    · have q2 : ¬ (k : Int) < (len : Int) := by omega
      have HGG := hide (gotQ_none (by have := HL.out; omega) hall)
      obtain ⟨d0, d1, d2, d3⟩ := (unhide HY1).facts
      have g0 := (unhide HY1).froz 0
      have g1 := (unhide HY1).froz 1
      have g2 := (unhide HY1).froz 2
      have g3 := (unhide HY1).froz 3
      clear hb hall
      go_wp2_with fail
      rw [unhide HGG]
      refine bodyPost_ret (v := .tuple #[.agg #[.string ⟨#[]⟩, .int .i64 0, .slice none 0 0, .int .i64 0], .bool false]) (by simp [results, Try.results17, go_sem, d0, d1, d2, d3]) rfl ⟨_, rfl, ⟨rfl, Or.inl ⟨rfl, rfl⟩⟩, ?_⟩
      repeat refine setBelow ?_ (by simp only; omega) _
      exact unhide HBT

end Go.Proofs.Ytdcfkbnppbeahaa
