/- The walk of spec.PolicyText at one mode. -/
import Derived.Test.YtadfpheebpcjoaaDoorPt
namespace Go.Proofs.YtadfpheebpcjoaaDoor
open Go.RowKit Go.Deep

theorem hd0 (l : List ByteArray) : (⟨#[118, 101, 114, 115, 105, 111, 110, 58, 32, 118, 49, 10, 109, 111, 100, 101, 58, 32]⟩ ++ ⟨#[110, 111, 110, 101]⟩ ++ ⟨#[10]⟩ : ByteArray) = accB ((tVM ++ mdWord 0) ++ tNL) (l.take 0) := by
  have e : mdWord 0 = ⟨#[110, 111, 110, 101]⟩ := by simp [mdWord]
  rw [e, List.take_zero]
  simp only [accB, tVM, tNL, List.foldl_nil]

set_option maxRecDepth 100000 in
set_option maxHeartbeats 1000000 in
theorem textS0i (l : List ByteArray) (d : ByteArray) (a : Option Addr) (cap : Nat) (u age : Int) (w : World) (hl : Txt w 0 a l) (hw : l.length + txw l ≤ 1048576) (hd : d.size ≤ 2097152) (hB : polB l d 0 u = true) (hage : 0 ≤ age ∧ age ≤ 100000) :
    Calls Tryd.prog 5 #[.agg #[.string d, .int .i64 0, .slice a l.length cap, .int .i64 u], .int .i64 age] w fun e w' => e = .returned (.string (polT l 0 age)) ∧ Below w.heap.size w w' := by
  have ht : ∀ t ∈ l, t.size ≤ 1048576 := fun t hx => by
    obtain ⟨k, hk, rfl⟩ := List.mem_iff_getElem.1 hx
    have := txw_get (List.getElem?_eq_getElem hk)
    omega
  have h10 := hide (fun v hv => polS l d 0 a cap u v hv (by omega) (fun t hx => by have := ht t hx; omega) hd)
  rw [hB] at h10
  have h11 := hide (fun v => inS age 0 100000 v)
  rw [show decide (0 ≤ age ∧ age ≤ 100000) = true from decide_eq_true hage] at h11
  have h12 := hide (fun v => digits_any age v (by omega) (by omega))
  have HIS := hide (itoa_size (ag := age) hage)
  have hb0 := abP (w := w) (.cells #[.string d, .int .i64 0, .slice a l.length cap, .int .i64 u] 27)
  have HB0 := hide hb0
  have HL0 := hide (hl.on hb0)
  have HX0 := hide (RowP.new 27 w d 0 a l.length cap u)
  have HSZ : Hid (∀ k, (accB ((tVM ++ mdWord 0) ++ tNL) (l.take k)).size ≤ 8388608) := fun k => by
    rw [accB_size]
    have h1 := head_size 0
    have h2 := txw_take_le l k
    have h3 : (l.take k).length ≤ l.length := by simp; omega
    omega
  have HSZ2 : Hid ((accB ((tVM ++ mdWord 0) ++ tNL) l).size ≤ 8388608) := by
    have := unhide HSZ l.length
    rwa [List.take_of_length_le (Nat.le_refl _)] at this
  have HRES : Hid (∀ A, A = accB ((tVM ++ mdWord 0) ++ tNL) l → ((A ++ ⟨#[97, 103, 101, 58, 32]⟩) ++ ⟨(Lib.itoa age).toArray⟩) ++ ⟨#[10]⟩ = polT l 0 age) := fun A hA => by rw [hA]; simp only [polT, tAGE, tNL]
  have HT := hide ht
  have HLL : Hid (l.length ≤ 1048576) := by show _ ≤ _; omega
  clear hl hw hd hB hage hb0 ht
  generalize hIT : (⟨(Lib.itoa age).toArray⟩ : ByteArray) = IT at *
  generalize hlen : l.length = len at *
  have HL : Hid (l.length = len) := hlen
  clear hIT hlen
  go_enter Tryd.func5, Tryd.ntmps5
  go_wp2_with fail
  generalize w.alloc (.cells #[.string d, .int .i64 0, .slice a len cap, .int .i64 u] 27) = V at *
  refine (unhide h10 _ (unhide HL0)).mono ?_
  rintro e w1 ⟨rfl, hb1⟩
  have HB1 := hide (btP (unhide HB0) hb1)
  have HL1 := hide ((unhide HL0).on hb1)
  have HX1 := hide ((unhide HX0).below hb1)
  clear hb1 HB0 HL0 HX0
  go_wp2_with fail
  refine (unhide h11 _).mono ?_
  rintro e w2 ⟨rfl, rfl⟩
  have hbr := abP (w := w2) (.cells #[.string ⟨#[110, 111, 110, 101]⟩, .string ⟨#[116, 101, 115, 116]⟩, .string ⟨#[104, 111, 108, 100]⟩] 9)
  have HB2 := hide (btP (unhide HB1) hbr)
  have HL2 := hide ((unhide HL1).on hbr)
  have HX2 := hide ((unhide HX1).below hbr)
  have r1 := box_cell w2 #[.string ⟨#[110, 111, 110, 101]⟩, .string ⟨#[116, 101, 115, 116]⟩, .string ⟨#[104, 111, 108, 100]⟩] 9 0 _ rfl
  clear hbr HB1 HL1 HX1
  obtain ⟨c0, c1, c2, c3⟩ := (unhide HX2).facts
  go_wp2_with fail
  generalize hV2 : w2.alloc (.cells #[.string ⟨#[110, 111, 110, 101]⟩, .string ⟨#[116, 101, 115, 116]⟩, .string ⟨#[104, 111, 108, 100]⟩] 9) = V2 at *
  clear hV2 r1 c0 c1 c2 c3
  generalize hH1 : (⟨#[118, 101, 114, 115, 105, 111, 110, 58, 32, 118, 49, 10, 109, 111, 100, 101, 58, 32]⟩ ++ ⟨#[110, 111, 110, 101]⟩ : ByteArray) = H1 at *
  generalize hH2 : (H1 ++ ⟨#[10]⟩ : ByteArray) = H2 at *
  have HH2 : Hid (H2 = accB ((tVM ++ mdWord 0) ++ tNL) (l.take 0)) := by show _ = _; rw [← hH2, ← hH1]; exact hd0 l
  clear hH1 hH2
  go_loopw [5, 6] (fun o i wr => ∃ k : Nat, i = .int .i64 (k : Int) ∧ o = .string (accB ((tVM ++ mdWord 0) ++ tNL) (l.take k)) ∧ Below V2.heap.size V2 wr ∧ k ≤ len) (fun _ i _ => len - (intOf i).toNat)
  case atStart => exact ⟨0, rfl, congrArg Value.string (unhide HH2), Below.refl _ _, Nat.zero_le _⟩
  case round =>
    obtain ⟨k, rfl, rfl, hb, hk⟩ := hrel
    have HB := hide hb
    obtain ⟨c0, c1, c2, c3⟩ := ((unhide HX2).below hb).facts
    have HSA := hide (unhide HSZ k)
    by_cases hp : k < len
    · have hp' : k < l.length := by have := HL.out; omega
      obtain ⟨t, hkt⟩ : ∃ t, l[k]? = some t := ⟨_, List.getElem?_eq_getElem hp'⟩
      obtain ⟨b, o, rfl, -, d0⟩ := ((unhide HL2).on hb) k t hkt
      have hts := unhide HT t (List.mem_of_getElem? hkt)
      have HST := hide (accB_step ((tVM ++ mdWord 0) ++ tNL) hkt)
      have q2 : (k : Int) < (len : Int) := by omega
      have q3 : (0 : Int) ≤ (k : Int) := by omega
      have w1 : wrap64 ((k : Int) + 1) = ((k + 1 : Nat) : Int) := wrapN (Nat.le_trans hk (unhide HLL)) rfl
      clear hb hkt
      generalize accB ((tVM ++ mdWord 0) ++ tNL) (l.take k) = A at *
      obtain ⟨A1, A2, A3, e1, e2, e3, HA3⟩ := three_adds A t (unhide HSA) hts
      have HST2 := hide ((unhide HST).trans (unhide HA3).symm)
      clear HST HA3 hts
      go_wp2_with fail
      go_roundw
      case rel => exact ⟨k + 1, by rw [w1], by rw [unhide HST2], unhide HB, hp⟩
      case measure =>
        show len - (intOf (.int .i64 (wrap64 ((k : Int) + 1)))).toNat < len - (intOf (.int .i64 (k : Int))).toNat
        exact round_measP w1 hp
    · have q2 : ¬ (k : Int) < (len : Int) := by omega
      have HAE : Hid (accB ((tVM ++ mdWord 0) ++ tNL) (l.take k) = accB ((tVM ++ mdWord 0) ++ tNL) l) := by show _ = _; rw [List.take_of_length_le (by have := HL.out; omega)]
      have his := unhide HIS
      have hsz := unhide HSA
      clear hb
      generalize accB ((tVM ++ mdWord 0) ++ tNL) (l.take k) = A at *
      go_wp2_with fail
      refine (unhide h12 _).mono ?_
      rintro e w4 ⟨rfl, hb4⟩
      have HB4 := hide (btP (unhide HB2) (btP (unhide HB) hb4))
      clear hb4 c0 c1 c2 c3
      go_wp2_with fail
      go_ret
      exact ⟨ret_str (unhide HRES A (unhide HAE)), unhide HB4⟩

set_option maxRecDepth 100000 in
set_option maxHeartbeats 1000000 in
theorem textS0o (l : List ByteArray) (d : ByteArray) (a : Option Addr) (cap : Nat) (u age : Int) (w : World) (hl : Txt w 0 a l) (hw : l.length + txw l ≤ 1048576) (hd : d.size ≤ 2097152) (hB : polB l d 0 u = true) (hage : ¬ (0 ≤ age ∧ age ≤ 100000)) :
    Calls Tryd.prog 5 #[.agg #[.string d, .int .i64 0, .slice a l.length cap, .int .i64 u], .int .i64 age] w fun e w' => e = .returned (.string (polT l 0 0)) ∧ Below w.heap.size w w' := by
  have ht : ∀ t ∈ l, t.size ≤ 1048576 := fun t hx => by
    obtain ⟨k, hk, rfl⟩ := List.mem_iff_getElem.1 hx
    have := txw_get (List.getElem?_eq_getElem hk)
    omega
  have h10 := hide (fun v hv => polS l d 0 a cap u v hv (by omega) (fun t hx => by have := ht t hx; omega) hd)
  rw [hB] at h10
  have h11 := hide (fun v => inS age 0 100000 v)
  rw [show decide (0 ≤ age ∧ age ≤ 100000) = false from decide_eq_false hage] at h11
  have h12 := hide (fun v => digits_any 0 v (by omega) (by omega))
  have HIS := hide (itoa_size (ag := 0) (by omega))
  have hb0 := abP (w := w) (.cells #[.string d, .int .i64 0, .slice a l.length cap, .int .i64 u] 27)
  have HB0 := hide hb0
  have HL0 := hide (hl.on hb0)
  have HX0 := hide (RowP.new 27 w d 0 a l.length cap u)
  have HSZ : Hid (∀ k, (accB ((tVM ++ mdWord 0) ++ tNL) (l.take k)).size ≤ 8388608) := fun k => by
    rw [accB_size]
    have h1 := head_size 0
    have h2 := txw_take_le l k
    have h3 : (l.take k).length ≤ l.length := by simp; omega
    omega
  have HSZ2 : Hid ((accB ((tVM ++ mdWord 0) ++ tNL) l).size ≤ 8388608) := by
    have := unhide HSZ l.length
    rwa [List.take_of_length_le (Nat.le_refl _)] at this
  have HRES : Hid (∀ A, A = accB ((tVM ++ mdWord 0) ++ tNL) l → ((A ++ ⟨#[97, 103, 101, 58, 32]⟩) ++ ⟨(Lib.itoa 0).toArray⟩) ++ ⟨#[10]⟩ = polT l 0 0) := fun A hA => by rw [hA]; simp only [polT, tAGE, tNL]
  have HT := hide ht
  have HLL : Hid (l.length ≤ 1048576) := by show _ ≤ _; omega
  clear hl hw hd hB hage hb0 ht
  generalize hIT : (⟨(Lib.itoa 0).toArray⟩ : ByteArray) = IT at *
  generalize hlen : l.length = len at *
  have HL : Hid (l.length = len) := hlen
  clear hIT hlen
  go_enter Tryd.func5, Tryd.ntmps5
  go_wp2_with fail
  generalize w.alloc (.cells #[.string d, .int .i64 0, .slice a len cap, .int .i64 u] 27) = V at *
  refine (unhide h10 _ (unhide HL0)).mono ?_
  rintro e w1 ⟨rfl, hb1⟩
  have HB1 := hide (btP (unhide HB0) hb1)
  have HL1 := hide ((unhide HL0).on hb1)
  have HX1 := hide ((unhide HX0).below hb1)
  clear hb1 HB0 HL0 HX0
  go_wp2_with fail
  refine (unhide h11 _).mono ?_
  rintro e w2 ⟨rfl, rfl⟩
  have hbr := abP (w := w2) (.cells #[.string ⟨#[110, 111, 110, 101]⟩, .string ⟨#[116, 101, 115, 116]⟩, .string ⟨#[104, 111, 108, 100]⟩] 9)
  have HB2 := hide (btP (unhide HB1) hbr)
  have HL2 := hide ((unhide HL1).on hbr)
  have HX2 := hide ((unhide HX1).below hbr)
  have r1 := box_cell w2 #[.string ⟨#[110, 111, 110, 101]⟩, .string ⟨#[116, 101, 115, 116]⟩, .string ⟨#[104, 111, 108, 100]⟩] 9 0 _ rfl
  clear hbr HB1 HL1 HX1
  obtain ⟨c0, c1, c2, c3⟩ := (unhide HX2).facts
  go_wp2_with fail
  generalize hV2 : w2.alloc (.cells #[.string ⟨#[110, 111, 110, 101]⟩, .string ⟨#[116, 101, 115, 116]⟩, .string ⟨#[104, 111, 108, 100]⟩] 9) = V2 at *
  clear hV2 r1 c0 c1 c2 c3
  generalize hH1 : (⟨#[118, 101, 114, 115, 105, 111, 110, 58, 32, 118, 49, 10, 109, 111, 100, 101, 58, 32]⟩ ++ ⟨#[110, 111, 110, 101]⟩ : ByteArray) = H1 at *
  generalize hH2 : (H1 ++ ⟨#[10]⟩ : ByteArray) = H2 at *
  have HH2 : Hid (H2 = accB ((tVM ++ mdWord 0) ++ tNL) (l.take 0)) := by show _ = _; rw [← hH2, ← hH1]; exact hd0 l
  clear hH1 hH2
  go_loopw [5, 6] (fun o i wr => ∃ k : Nat, i = .int .i64 (k : Int) ∧ o = .string (accB ((tVM ++ mdWord 0) ++ tNL) (l.take k)) ∧ Below V2.heap.size V2 wr ∧ k ≤ len) (fun _ i _ => len - (intOf i).toNat)
  case atStart => exact ⟨0, rfl, congrArg Value.string (unhide HH2), Below.refl _ _, Nat.zero_le _⟩
  case round =>
    obtain ⟨k, rfl, rfl, hb, hk⟩ := hrel
    have HB := hide hb
    obtain ⟨c0, c1, c2, c3⟩ := ((unhide HX2).below hb).facts
    have HSA := hide (unhide HSZ k)
    by_cases hp : k < len
    · have hp' : k < l.length := by have := HL.out; omega
      obtain ⟨t, hkt⟩ : ∃ t, l[k]? = some t := ⟨_, List.getElem?_eq_getElem hp'⟩
      obtain ⟨b, o, rfl, -, d0⟩ := ((unhide HL2).on hb) k t hkt
      have hts := unhide HT t (List.mem_of_getElem? hkt)
      have HST := hide (accB_step ((tVM ++ mdWord 0) ++ tNL) hkt)
      have q2 : (k : Int) < (len : Int) := by omega
      have q3 : (0 : Int) ≤ (k : Int) := by omega
      have w1 : wrap64 ((k : Int) + 1) = ((k + 1 : Nat) : Int) := wrapN (Nat.le_trans hk (unhide HLL)) rfl
      clear hb hkt
      generalize accB ((tVM ++ mdWord 0) ++ tNL) (l.take k) = A at *
      obtain ⟨A1, A2, A3, e1, e2, e3, HA3⟩ := three_adds A t (unhide HSA) hts
      have HST2 := hide ((unhide HST).trans (unhide HA3).symm)
      clear HST HA3 hts
      go_wp2_with fail
      go_roundw
      case rel => exact ⟨k + 1, by rw [w1], by rw [unhide HST2], unhide HB, hp⟩
      case measure =>
        show len - (intOf (.int .i64 (wrap64 ((k : Int) + 1)))).toNat < len - (intOf (.int .i64 (k : Int))).toNat
        exact round_measP w1 hp
    · have q2 : ¬ (k : Int) < (len : Int) := by omega
      have HAE : Hid (accB ((tVM ++ mdWord 0) ++ tNL) (l.take k) = accB ((tVM ++ mdWord 0) ++ tNL) l) := by show _ = _; rw [List.take_of_length_le (by have := HL.out; omega)]
      have his := unhide HIS
      have hsz := unhide HSA
      clear hb
      generalize accB ((tVM ++ mdWord 0) ++ tNL) (l.take k) = A at *
      go_wp2_with fail
      refine (unhide h12 _).mono ?_
      rintro e w4 ⟨rfl, hb4⟩
      have HB4 := hide (btP (unhide HB2) (btP (unhide HB) hb4))
      clear hb4 c0 c1 c2 c3
      go_wp2_with fail
      go_ret
      exact ⟨ret_str (unhide HRES A (unhide HAE)), unhide HB4⟩

end Go.Proofs.YtadfpheebpcjoaaDoor
