/- The number of the host of a name: the walks of spec.HostNamed, impl.hostNamed and impl.HostNamed; nothing that was there is written. -/
import Derived.Test.YtepmgjklonhkgaaWwa
namespace Go.Proofs.Ytepmgjklonhkgaa
open Go.RowKit Go.Deep

/-- The number of the first one of that name, counted from k on; -1. -/
def hnm (n : ByteArray) : List Ho → Nat → Int
  | [], _ => -1
  | x :: r, k => if x.name = n then k else hnm n r (k + 1)
theorem hnm_next {n : ByteArray} {P : List Ho} {k : Nat} {x : Ho} (hk : P[k]? = some x) (hn : ¬ x.name = n) : hnm n (P.drop k) k = hnm n (P.drop (k + 1)) (k + 1) := by
  obtain ⟨h1, rfl⟩ := List.getElem?_eq_some_iff.1 hk
  rw [List.drop_eq_getElem_cons h1, hnm, if_neg hn]
theorem hnm_here {n : ByteArray} {P : List Ho} {k : Nat} {x : Ho} (hk : P[k]? = some x) (hn : x.name = n) : hnm n (P.drop k) k = k := by
  obtain ⟨h1, rfl⟩ := List.getElem?_eq_some_iff.1 hk
  rw [List.drop_eq_getElem_cons h1, hnm, if_pos hn]
theorem hnm_end {n : ByteArray} {P : List Ho} {k : Nat} (hk : ¬ k < P.length) : hnm n (P.drop k) k = -1 := by
  rw [List.drop_eq_nil_of_le (by omega), hnm]
theorem ba_ne {a b : ByteArray} (h : ¬ a = b) : (a.toList == b.toList) = false := by
  rw [beq_eq_false_iff_ne]
  exact fun e => h (by
    have e' : a.data.toList = b.data.toList := by rw [← ByteArray.toList_eq, ← ByteArray.toList_eq]; exact e
    cases a; cases b; congr 1; exact Array.ext' e')

set_option maxRecDepth 100000 in
set_option maxHeartbeats 4000000 in
theorem hn1 (x : Ho) (n : ByteArray) (g : Nat) (w : World) (hg : w.cell? ⟨g, 0, none⟩ = some (.string n)) (e : Bool) (he : e = decide (x.name = n)) :
    Calls Try.prog 44 #[.agg #[.string x.name, .int .i64 x.key, .bool x.lost], .pointer (some ⟨g, 0, none⟩)] w fun q w' => q = .returned (.bool e) ∧ Below w.heap.size w w' := by
  have hlt := lt_of_cell hg
  have hg' : (w.alloc (.cells #[.string x.name, .int .i64 x.key, .bool x.lost] 52)).cell? ⟨g, 0, none⟩ = some (.string n) := below_some (abG _) hg
  by_cases hx : x.name = n
  · rw [decide_eq_true hx] at he
    subst he
    obtain ⟨nm, key, lost⟩ := x
    replace hx : nm = n := hx
    subst hx
    go_enter Try.func44, Try.ntmps44
    go_wp2_with fail
    go_ret
    exact ⟨rfl, abG _⟩
  · rw [decide_eq_false hx] at he
    subst he
    have hne := ba_ne hx
    clear hx
    go_enter Try.func44, Try.ntmps44
    go_wp2_with fail
    go_ret
    exact ⟨rfl, abG _⟩

set_option maxRecDepth 100000 in
set_option maxHeartbeats 4000000 in
theorem idxH (P : List Ho) (a : Option Addr) (cap : Nat) (n : ByteArray) (g : Nat) (w : World) (hl : hoK.Ls w 0 a P) (hsz : P.length ≤ 2097152) (hg : w.cell? ⟨g, 0, none⟩ = some (.string n)) :
    Calls Try.prog 43 #[.slice a P.length cap, .func (.func 44) #[] #[.pointer (some ⟨g, 0, none⟩)]] w fun e w' => e = .returned (.int .i64 (hnm n P 0)) ∧ Below w.heap.size w w' := by
  have HT := hide hl
  have HG := hide hg
  clear hl hg
  generalize hlen : P.length = len at *
  have HL := hide hlen
  clear hlen
  go_enter Try.func43, Try.ntmps43
  go_wp2_with fail
  go_loopw [8] (fun i wr => ∃ k : Nat, i = .int .i64 k ∧ Below w.heap.size w wr ∧ k ≤ len ∧ hnm n P 0 = hnm n (P.drop k) k) (fun i _ => len - (intOf i).toNat)
  case atStart => exact ⟨0, rfl, Below.refl _ _, by omega, rfl⟩
  case round =>
    obtain ⟨k, rfl, hb, hk, ha⟩ := hrel
    have HBr := hide hb
    have HA := hide ha
    clear ha
    by_cases hp : k < len
    · have hp' : k < P.length := by have := HL.out; omega
      obtain ⟨x, hkx⟩ : ∃ x, P[k]? = some x := ⟨_, List.getElem?_eq_getElem hp'⟩
      obtain ⟨b, o, cs, rfl, -, -, HR, HT2, -⟩ := ((unhide HT).on hb).get hkx
      obtain ⟨rfl, -⟩ := HT2
      have c0 : wr.cell? ⟨b, o + k * 3, none⟩ = some (.string x.name) := HR 0 _ rfl
      have c1 : wr.cell? ⟨b, o + k * 3 + 1, none⟩ = some (.int .i64 x.key) := HR 1 _ rfl
      have c2 : wr.cell? ⟨b, o + k * 3 + 2, none⟩ = some (.bool x.lost) := HR 2 _ rfl
      have hct := hide (hn1 x n g wr (below_some hb (unhide HG)) _ rfl)
      have q2 : (k : Int) < (len : Int) := by omega
      have q3 : (0 : Int) ≤ (k : Int) := by omega
      have w1 : wrap64 ((k : Int) + 1) = ((k + 1 : Nat) : Int) := by unfold wrap64; omega
      by_cases hx : x.name = n
      · have HE : Hid (hnm n P 0 = (k : Int)) := (unhide HA).trans (hnm_here hkx hx)
        rw [decide_eq_true hx] at hct
        clear hb hkx HR hx
        go_wp2_with fail
        refine (unhide hct).mono ?_
        rintro e w2 ⟨rfl, hb2⟩
        have HB2 := hide (btG (unhide HBr) hb2)
        clear hb2
        go_wp2_with fail
        go_ret
        exact ⟨ret_int (unhide HE).symm, unhide HB2⟩
      · have HE : Hid (hnm n P 0 = hnm n (P.drop (k + 1)) (k + 1)) := (unhide HA).trans (hnm_next hkx hx)
        rw [decide_eq_false hx] at hct
        clear hb hkx HR hx
        go_wp2_with fail
        refine (unhide hct).mono ?_
        rintro e w2 ⟨rfl, hb2⟩
        have HB2 := hide (btG (unhide HBr) hb2)
        clear hb2
        go_wp2_with fail
        go_roundw
        case rel => exact ⟨k + 1, rfl, unhide HB2, by omega, unhide HE⟩
        case measure => simp only [intOf]; omega
    · have c2 : ¬ (k : Int) < (len : Int) := by omega
      have HE : Hid (hnm n P 0 = -1) := (unhide HA).trans (hnm_end (by have := HL.out; omega))
      clear hb
      go_wp2_with fail
      go_ret
      exact ⟨ret_int (unhide HE).symm, unhide HBr⟩

set_option maxRecDepth 100000 in
set_option maxHeartbeats 4000000 in
theorem hostNamedI (P : List Ho) (a : Option Addr) (cap : Nat) (n : ByteArray) (w : World) (hl : hoK.Ls w 0 a P) (hsz : P.length ≤ 2097152) :
    Calls Try.prog 23 #[.slice a P.length cap, .string n] w fun e w' => e = .returned (.int .i64 (hnm n P 0)) ∧ Below w.heap.size w w' := by
  have HC := hide (idxH P a cap n w.heap.size _ (hl.on (abG (.cells #[.string n] 9))) hsz (box_cell w #[.string n] 9 0 _ rfl))
  clear hl
  generalize hnm n P 0 = v at *
  go_enter Try.func23, Try.ntmps23
  go_wp2_with fail
  refine (unhide HC).mono ?_
  rintro e w2 ⟨rfl, hb2⟩
  have HB2 := hide (btG (abG _) hb2)
  clear hb2
  go_wp2_with fail
  go_ret
  exact ⟨rfl, unhide HB2⟩

set_option maxRecDepth 100000 in
set_option maxHeartbeats 4000000 in
theorem hnI (X : Wd) (cs : List Value) (n : ByteArray) (w : World) (h : wdAt w 0 X cs) (hz : ww X ≤ 1048576) :
    Calls Try.prog 7 #[.agg cs.toArray, .string n] w fun e w' => e = .returned (.int .i64 (hnm n X.hosts 0)) ∧ Below w.heap.size w w' := by
  obtain ⟨-, ak, ck, ac, cc, ah, ch, al, cl, aa, ca, az, cz, ai, ci, rfl, -, -, hy, -⟩ := h
  show Calls Try.prog 7 #[.agg #[.int .i64 X.time, .int .i64 X.fresh, .slice ak X.known.length ck, .slice ac X.cache.length cc, .slice ah X.hosts.length ch, .slice al X.letters.length cl, .string X.book, .int .i64 X.sure, .slice aa X.calls.length ca, .slice az X.talks.length cz, .slice ai X.told.length ci], .string n] w _
  have HC := hide (hostNamedI X.hosts ah ch n _ (hy.on (abG (.cells #[.int .i64 X.time, .int .i64 X.fresh, .slice ak X.known.length ck, .slice ac X.cache.length cc, .slice ah X.hosts.length ch, .slice al X.letters.length cl, .string X.book, .int .i64 X.sure, .slice aa X.calls.length ca, .slice az X.talks.length cz, .slice ai X.told.length ci] 40))) (by unfold ww at hz; omega))
  clear hy hz
  generalize hnm n X.hosts 0 = v at *
  go_enter Try.func7, Try.ntmps7
  go_wp2_with fail
  refine (unhide HC).mono ?_
  rintro e w2 ⟨rfl, hb2⟩
  have HB2 := hide (btG (abG _) hb2)
  clear hb2
  go_wp2_with fail
  go_ret
  exact ⟨rfl, unhide HB2⟩

set_option maxRecDepth 100000 in
set_option maxHeartbeats 4000000 in
theorem hnS (X : Wd) (cs : List Value) (n : ByteArray) (w : World) (h : wdAt w 0 X cs) (hz : ww X ≤ 1048576) :
    Calls Try.prog 5 #[.agg cs.toArray, .string n] w fun e w' => e = .returned (.int .i64 (hnm n X.hosts 0)) ∧ Below w.heap.size w w' := by
  obtain ⟨-, ak, ck, ac, cc, ah, ch, al, cl, aa, ca, az, cz, ai, ci, rfl, -, -, hy, -⟩ := h
  show Calls Try.prog 5 #[.agg #[.int .i64 X.time, .int .i64 X.fresh, .slice ak X.known.length ck, .slice ac X.cache.length cc, .slice ah X.hosts.length ch, .slice al X.letters.length cl, .string X.book, .int .i64 X.sure, .slice aa X.calls.length ca, .slice az X.talks.length cz, .slice ai X.told.length ci], .string n] w _
  have HX := hide (Box.new w 40 [.int .i64 X.time, .int .i64 X.fresh, .slice ak X.known.length ck, .slice ac X.cache.length cc, .slice ah X.hosts.length ch, .slice al X.letters.length cl, .string X.book, .int .i64 X.sure, .slice aa X.calls.length ca, .slice az X.talks.length cz, .slice ai X.told.length ci])
  have HT := hide (hy.on (abG (.cells #[.int .i64 X.time, .int .i64 X.fresh, .slice ak X.known.length ck, .slice ac X.cache.length cc, .slice ah X.hosts.length ch, .slice al X.letters.length cl, .string X.book, .int .i64 X.sure, .slice aa X.calls.length ca, .slice az X.talks.length cz, .slice ai X.told.length ci] 40)))
  have hsz : X.hosts.length ≤ 1048576 := by unfold ww at hz; omega
  clear hy hz
  generalize hP : X.hosts = P at *
  clear hP
  generalize hlen : P.length = len at *
  have HL := hide hlen
  clear hlen
  go_enter Try.func5, Try.ntmps5
  go_wp2_with fail
  go_loopw [5] (fun i wr => ∃ k : Nat, i = .int .i64 k ∧ wr = w.alloc (.cells #[.int .i64 X.time, .int .i64 X.fresh, .slice ak X.known.length ck, .slice ac X.cache.length cc, .slice ah len ch, .slice al X.letters.length cl, .string X.book, .int .i64 X.sure, .slice aa X.calls.length ca, .slice az X.talks.length cz, .slice ai X.told.length ci] 40) ∧ k ≤ len ∧ hnm n P 0 = hnm n (P.drop k) k) (fun i _ => len - (intOf i).toNat)
  case atStart => exact ⟨0, rfl, rfl, by omega, rfl⟩
  case round =>
    obtain ⟨k, rfl, rfl, hk, ha⟩ := hrel
    have HA := hide ha
    clear ha
    by_cases hp : k < len
    · have hp' : k < P.length := by have := HL.out; omega
      obtain ⟨x, hkx⟩ : ∃ x, P[k]? = some x := ⟨_, List.getElem?_eq_getElem hp'⟩
      obtain ⟨b, o, cs, rfl, -, -, HR, HT2, -⟩ := (unhide HT).get hkx
      obtain ⟨rfl, -⟩ := HT2
      have c0 : (w.alloc (.cells #[.int .i64 X.time, .int .i64 X.fresh, .slice ak X.known.length ck, .slice ac X.cache.length cc, .slice (some ⟨b, o, none⟩) len ch, .slice al X.letters.length cl, .string X.book, .int .i64 X.sure, .slice aa X.calls.length ca, .slice az X.talks.length cz, .slice ai X.told.length ci] 40)).cell? ⟨b, o + k * 3, none⟩ = some (.string x.name) := HR 0 _ rfl
      have q2 : (k : Int) < (len : Int) := by omega
      have q3 : (0 : Int) ≤ (k : Int) := by omega
      have w1 : wrap64 ((k : Int) + 1) = ((k + 1 : Nat) : Int) := by unfold wrap64; omega
      obtain ⟨nm, key, lost⟩ := x
      by_cases hx : nm = n
      · subst hx
        have HE : Hid (hnm nm P 0 = (k : Int)) := (unhide HA).trans (hnm_here hkx rfl)
        clear hkx HR
        go_wp2_with fail
        go_ret
        exact ⟨ret_int (unhide HE).symm, abG _⟩
      · have HE : Hid (hnm n P 0 = hnm n (P.drop (k + 1)) (k + 1)) := (unhide HA).trans (hnm_next hkx hx)
        have hne := ba_ne hx
        clear hkx HR hx
        go_wp2_with fail
        go_roundw
        case rel => exact ⟨k + 1, rfl, trivial, by omega, unhide HE⟩
        case measure => simp only [intOf]; omega
    · have c2 : ¬ (k : Int) < (len : Int) := by omega
      have HE : Hid (hnm n P 0 = -1) := (unhide HA).trans (hnm_end (by have := HL.out; omega))
      go_wp2_with fail
      go_ret
      exact ⟨ret_int (unhide HE).symm, abG _⟩

end Go.Proofs.Ytepmgjklonhkgaa
