/- Lists of notes and of letters: the walks of laws.szNoteS, toNoteS, eqNoteS, eqLetterS; nothing that was there is written. -/
import Derived.Test.YtjckdepcgjfomaaDoorNe
import Derived.Test.YtjckdepcgjfomaaDoorNn
namespace Go.Proofs.YtjckdepcgjfomaaDoor
open Go.RowKit Go.Deep

theorem ntC_len (p : Nt) : (ntC p).length = 5 := rfl
theorem ltC_len (p : Lt) : (ltC p).length = 5 := rfl
instance : Inhabited Nt := ⟨⟨0, 0, ⟨#[]⟩, 0, 0⟩⟩
instance : Inhabited Lt := ⟨⟨⟨#[]⟩, 0, 0, 0, 0⟩⟩
def listN (P : List Nt) (i : Nat) : Nt := P[i]?.getD default
theorem listN_get {P : List Nt} {i : Nat} {p : Nt} (h : P[i]? = some p) : listN P i = p := by simp [listN, h]
def listL (P : List Lt) (i : Nat) : Lt := P[i]?.getD default
theorem listL_get {P : List Lt} {i : Nat} {p : Lt} (h : P[i]? = some p) : listL P i = p := by simp [listL, h]
theorem EO.elsN {w : World} {b : Nat} {P : List Nt} {ty : TypeId} (h : EO ntC ty w b P.length (listN P)) : Els ntC w 0 (some ⟨b, 0, none⟩) P := h.els (Nat.le_refl _) fun _ _ hp => listN_get hp
def nws : List Nt → Nat
  | [] => 0
  | p :: r => p.d.size + nws r
theorem nws_append (a b : List Nt) : nws (a ++ b) = nws a + nws b := by
  induction a with
  | nil => simp [nws]
  | cons t r ih => simp only [List.cons_append, nws, ih]; omega
theorem nws_take (l : List Nt) {k : Nat} {t : Nt} (h : l[k]? = some t) : nws (l.take (k + 1)) = nws (l.take k) + t.d.size := by
  rw [List.take_add_one, h, nws_append]; simp [nws]
theorem nws_take_le (l : List Nt) (k : Nat) : nws (l.take k) ≤ nws l := by
  have := nws_append (l.take k) (l.drop k)
  rw [List.take_append_drop] at this
  omega
theorem nws_get {l : List Nt} {k : Nat} {t : Nt} (h : l[k]? = some t) : t.d.size ≤ nws l := by
  have h1 := nws_take l h
  have h2 := nws_take_le l (k + 1)
  omega
theorem below_drew5 {w v : World} (h : Below w.drew.heap.size w.drew v) : Below w.heap.size w v := ((Below.refl _ _).drew).trans h

set_option maxRecDepth 100000 in
set_option maxHeartbeats 2000000 in
theorem eqNs (P : List Nt) (a a' : Option Addr) (c c' : Nat) (w : World) (hl : P.length ≤ 9223372036854775806) (h : Els ntC w 0 a P) (h' : Els ntC w 0 a' P) :
    Calls Tryd.prog 15 #[.slice a P.length c, .slice a' P.length c'] w fun e w' => e = .returned (.bool true) ∧ Below w.heap.size w w' := by
  have H := hide h
  have H' := hide h'
  clear h h'
  generalize hlen : P.length = len at *
  have HL : Hid (P.length = len) := hlen
  clear hlen
  have hne : ((len : Int) != (len : Int)) = false := by simp
  go_enter Tryd.func15, Tryd.ntmps15
  go_wp2_with fail
  go_loopw [5] (fun n wr => ∃ k : Nat, n = .int .i64 k ∧ Below w.heap.size w wr ∧ k ≤ len) (fun n _ => len - (intOf n).toNat)
  case atStart => exact ⟨0, rfl, Below.refl _ _, by omega⟩
  case round =>
    obtain ⟨k, rfl, hb, hk⟩ := hrel
    have HB := hide hb
    by_cases hp : k < len
    · have hp' : k < P.length := by have := HL.out; omega
      obtain ⟨p, hkp⟩ : ∃ p, P[k]? = some p := ⟨_, List.getElem?_eq_getElem hp'⟩
      obtain ⟨b, o, rfl, -, c0, c1, c2, c3, c4⟩ := ((unhide H).on hb).note hkp
      obtain ⟨b', o', rfl, -, d0, d1, d2, d3, d4⟩ := ((unhide H').on hb).note hkp
      have hct := hide (fun v => eqN p.k p.h p.d p.b p.t v)
      have q2 : (k : Int) < (len : Int) := by omega
      have q3 : (0 : Int) ≤ (k : Int) := by omega
      have w1 : wrap64 ((k : Int) + 1) = ((k + 1 : Nat) : Int) := by unfold wrap64; omega
      clear hb hkp
      go_wp2_with fail
      go_region_with (go_at_call 12; refine (unhide hct _).mono ?_; rintro e w2 ⟨rfl, hb2⟩; have HB2 := hide (btP (unhide HB) (below_drew5 hb2)); clear hb2)
      all_goals
        go_wp2_with fail
        go_roundw
        case rel => exact ⟨k + 1, rfl, unhide HB2, by omega⟩
        case measure => simp only [intOf]; omega
    · have c2 : ¬ (k : Int) < (len : Int) := by omega
      clear hb
      go_wp2_with fail
      go_ret
      exact ⟨rfl, unhide HB⟩


end Go.Proofs.YtjckdepcgjfomaaDoor
