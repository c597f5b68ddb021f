
/- What a right world is; both sides' answers on its parts, told by a part's cells. The number of the host of a name: the walks of spec.HostNamed, impl.hostNamed and impl.HostNamed; nothing that was there is written. impl.eachOk at terms, hosts and letters: it answers whether there are so many at most, each of them right by the function that is handed in. impl.eachOk at calls and talks: the function that is handed in is a method with its world bound. The parts of impl.WorldOk: hostOk, there, the two sides that embed it, and the methods that make them; nothing that was there is written. impl.namedOnce and impl.toldOk; nothing that was there is written. -/
import Derived.Test.YtbohladjahpfcaaGreatWwd
import Derived.Test.YtbohladjahpfcaaGreatSoi
import Derived.Test.YtbohladjahpfcaaGreatCli
import Derived.Test.YtbohladjahpfcaaGreatClu
import Derived.Test.YtbohladjahpfcaaGreatQi
import Derived.Test.YtbohladjahpfcaaGreatYk
import Derived.Deep.MidRow
import Derived.Deep.RegionHeld3
import Derived.Deep.RegionWith
namespace Go.Proofs.YtbohladjahpfcaaGreat
open Go.RowKit Go.Deep

noncomputable def clOk (x : Cl) : Bool := clientB x.st x.h x.mu x.ep x.bo x.t x.i x.o x.tl x.pr
noncomputable def svOk (x : Sv) : Bool := serverB x.st x.h x.ke x.ep x.t x.u x.i x.o x.tl x.l
noncomputable def leOk (x : Le) : Bool := letB x.d x.b x.s x.t x.n
noncomputable def hoOk (x : Ho) : Bool := hostB x.name && inB x.key 0 999
noncomputable def caOk (n : Nat) (x : Ca) : Bool := inB x.k 0 ((n : Int) - 1) && clOk x.c
noncomputable def taOk (n : Nat) (x : Ta) : Bool := inB x.k 0 ((n : Int) - 1) && svOk x.s
/-- Each name stands once. -/
def onceP (P : List Ho) (n : Nat) : Prop := ∀ i x, i < n → P[i]? = some x → ∀ k y, k < i → P[k]? = some y → ¬ y.name = x.name
open Classical in
noncomputable def onceB (P : List Ho) : Bool := decide (onceP P P.length)
def toldP (l : List Int) (n : Nat) : Prop := ∀ k x, k < n → l[k]? = some x → inB x 0 1000000 = true ∧ ∀ y, l[k - 1]? = some y → k ≠ 0 → y < x
open Classical in
noncomputable def toldB (l : List Int) : Bool := decide (toldP l l.length)
/-- A right world. -/
noncomputable def worldB (X : Wd) : Bool :=
  inB X.time 0 100000 && (inB X.fresh 1000 999990 && ((decide (X.known.length ≤ 300) && X.known.all okT) && (cacheB X.cache && ((decide (X.hosts.length ≤ 4) && X.hosts.all hoOk) && (onceB X.hosts && ((decide (X.letters.length ≤ 30) && X.letters.all leOk) && (decide (X.book.size ≤ 12000) && (inB X.sure 0 X.book.size && ((decide (X.calls.length ≤ 12) && X.calls.all (caOk X.letters.length)) && ((decide (X.talks.length ≤ 12) && X.talks.all (taOk X.hosts.length)) && toldB X.told))))))))))

theorem tmOkS (t : Tm) (cs : List Value) (w : World) (h : Lies w 0 t cs) (hz : t.wt ≤ 1048576) :
    Calls Tryz.prog 47 #[.agg cs.toArray] w fun e w' => e = .returned (.bool (okT t)) ∧ Below w.heap.size w w' := by
  obtain ⟨op, n, s, a, len, cap, rfl⟩ := h.cells
  exact ok8 t op n s a len cap w h (by have := t.size_le; omega)
theorem tmOkI (t : Tm) (cs : List Value) (w : World) (h : Lies w 0 t cs) (hz : t.wt ≤ 1048576) :
    Calls Tryz.prog 85 #[.agg cs.toArray] w fun e w' => e = .returned (.bool (okT t)) ∧ Below w.heap.size w w' := by
  obtain ⟨op, n, s, a, len, cap, rfl⟩ := h.cells
  exact ok10 t op n s a len cap w h (by have := t.size_le; omega)
theorem leOkS (x : Le) (cs : List Value) (w : World) (h : leAt w 0 x cs) (hz : lew x ≤ 1048576) :
    Calls Tryz.prog 48 #[.agg cs.toArray] w fun e w' => e = .returned (.bool (leOk x)) ∧ Below w.heap.size w w' := by
  obtain ⟨rfl, -⟩ := h
  exact okS x.d x.b x.s x.t x.n w (by unfold lew at hz; omega)
theorem leOkI (x : Le) (cs : List Value) (w : World) (h : leAt w 0 x cs) (hz : lew x ≤ 1048576) :
    Calls Tryz.prog 91 #[.agg cs.toArray] w fun e w' => e = .returned (.bool (leOk x)) ∧ Below w.heap.size w w' := by
  obtain ⟨rfl, -⟩ := h
  exact okI x.d x.b x.s x.t x.n w (by unfold lew at hz; omega)
theorem clOkS (x : Cl) (cs : List Value) (w : World) (h : clAt w 0 x cs) (hz : clw x ≤ 1048576) :
    Calls Tryz.prog 78 #[.agg cs.toArray] w fun e w' => e = .returned (.bool (clOk x)) ∧ Below w.heap.size w w' := by
  obtain ⟨-, op, n, s, a, len, cap, rfl, hl⟩ := h
  exact clientS x.t x.st x.h x.mu x.ep x.bo op n s a len cap x.i x.o x.tl x.pr w hl (by have := x.t.size_le; unfold clw at hz; omega) (by unfold clw at hz; omega)
theorem clOkI (x : Cl) (cs : List Value) (w : World) (h : clAt w 0 x cs) (hz : clw x ≤ 1048576) :
    Calls Tryz.prog 131 #[.agg cs.toArray] w fun e w' => e = .returned (.bool (clOk x)) ∧ Below w.heap.size w w' := by
  obtain ⟨-, op, n, s, a, len, cap, rfl, hl⟩ := h
  exact clientI x.t x.st x.h x.mu x.ep x.bo op n s a len cap x.i x.o x.tl x.pr w hl (by have := x.t.size_le; unfold clw at hz; omega) (by unfold clw at hz; omega)
theorem svOkS (x : Sv) (cs : List Value) (w : World) (h : svAt w 0 x cs) (hz : svw x ≤ 1048576) :
    Calls Tryz.prog 79 #[.agg cs.toArray] w fun e w' => e = .returned (.bool (svOk x)) ∧ Below w.heap.size w w' := by
  obtain ⟨-, -, op, n, s, a, len, cap, oq, m, r, c, lem, cat, g, gc, rfl, hl, hu, hi⟩ := h
  exact serverS x.t x.u x.l x.st x.h x.ke x.ep op n s a len cap oq m r c lem cat x.i x.o x.tl g gc w hl hu hi (by have := x.t.size_le; unfold svw at hz; omega) (by have := x.u.size_le; unfold svw at hz; omega) (by unfold svw at hz; omega) (by unfold svw at hz; omega)
theorem svOkI (x : Sv) (cs : List Value) (w : World) (h : svAt w 0 x cs) (hz : svw x ≤ 1048576) :
    Calls Tryz.prog 132 #[.agg cs.toArray] w fun e w' => e = .returned (.bool (svOk x)) ∧ Below w.heap.size w w' := by
  obtain ⟨-, -, op, n, s, a, len, cap, oq, m, r, c, lem, cat, g, gc, rfl, hl, hu, hi⟩ := h
  exact serverI x.t x.u x.l x.st x.h x.ke x.ep op n s a len cap oq m r c lem cat x.i x.o x.tl g gc w hl hu hi (by have := x.t.size_le; unfold svw at hz; omega) (by have := x.u.size_le; unfold svw at hz; omega) (by unfold svw at hz; omega) (by unfold svw at hz; omega)

/-- The number of the first one of that name, counted from k on; -1. -/
def hnm (n : ByteArray) : List Ho → Nat → Int
  | [], _ => -1
  | x :: r, k => if x.name = n then k else hnm n r (k + 1)
theorem hnm_next {n : ByteArray} {P : List Ho} {k : Nat} {x : Ho} (hk : P[k]? = some x) (hn : ¬ x.name = n) : hnm n (P.drop k) k = hnm n (P.drop (k + 1)) (k + 1) := by
  obtain ⟨h1, rfl⟩ := List.getElem?_eq_some_iff.1 hk
  rw [List.drop_eq_getElem_cons h1, hnm, if_neg hn]
theorem hnm_here {n : ByteArray} {P : List Ho} {k : Nat} {x : Ho} (hk : P[k]? = some x) (hn : x.name = n) : hnm n (P.drop k) k = k := by
  obtain ⟨h1, rfl⟩ := List.getElem?_eq_some_iff.1 hk
  rw [List.drop_eq_getElem_cons h1, hnm, if_pos hn]
theorem hnm_end {n : ByteArray} {P : List Ho} {k : Nat} (hk : ¬ k < P.length) : hnm n (P.drop k) k = -1 := by
  rw [List.drop_eq_nil_of_le (by omega), hnm]
theorem ba_ne {a b : ByteArray} (h : ¬ a = b) : (a.toList == b.toList) = false := by
  rw [beq_eq_false_iff_ne]
  exact fun e => h (by
    have e' : a.data.toList = b.data.toList := by rw [← ByteArray.toList_eq, ← ByteArray.toList_eq]; exact e
    cases a; cases b; congr 1; exact Array.ext' e')

set_option maxRecDepth 100000 in
set_option maxHeartbeats 4000000 in
theorem hn1 (x : Ho) (n : ByteArray) (g : Nat) (w : World) (hg : w.cell? ⟨g, 0, none⟩ = some (.string n)) (e : Bool) (he : e = decide (x.name = n)) :
    Calls Tryz.prog 129 #[.agg #[.string x.name, .int .i64 x.key, .bool x.lost], .pointer (some ⟨g, 0, none⟩)] w fun q w' => q = .returned (.bool e) ∧ Below w.heap.size w w' := by
  have hlt := lt_of_cell hg
  have hg' : (w.alloc (.cells #[.string x.name, .int .i64 x.key, .bool x.lost] 107)).cell? ⟨g, 0, none⟩ = some (.string n) := below_some (abG _) hg
  by_cases hx : x.name = n
  · rw [decide_eq_true hx] at he
    subst he
    obtain ⟨nm, key, lost⟩ := x
    replace hx : nm = n := hx
    subst hx
    go_enter Tryz.func129, Tryz.ntmps129
    go_wp2_with fail
    go_ret
    exact ⟨rfl, abG _⟩
  · rw [decide_eq_false hx] at he
    subst he
    have hne := ba_ne hx
    clear hx
    go_enter Tryz.func129, Tryz.ntmps129
    go_wp2_with fail
    go_ret
    exact ⟨rfl, abG _⟩

set_option maxRecDepth 100000 in
set_option maxHeartbeats 4000000 in
theorem idxH (P : List Ho) (a : Option Addr) (cap : Nat) (n : ByteArray) (g : Nat) (w : World) (hl : hoK.Ls w 0 a P) (hsz : P.length ≤ 2097152) (hg : w.cell? ⟨g, 0, none⟩ = some (.string n)) :
    Calls Tryz.prog 128 #[.slice a P.length cap, .func (.func 129) #[] #[.pointer (some ⟨g, 0, none⟩)]] w fun e w' => e = .returned (.int .i64 (hnm n P 0)) ∧ Below w.heap.size w w' := by
  have HT := hide hl
  have HG := hide hg
  clear hl hg
  generalize hlen : P.length = len at *
  have HL := hide hlen
  clear hlen
  go_enter Tryz.func128, Tryz.ntmps128
  go_wp2_with fail
  go_loopw [8] (fun i wr => ∃ k : Nat, i = .int .i64 k ∧ Below w.heap.size w wr ∧ k ≤ len ∧ hnm n P 0 = hnm n (P.drop k) k) (fun i _ => len - (intOf i).toNat)
  case atStart => exact ⟨0, rfl, Below.refl _ _, by omega, rfl⟩
  case round =>
    obtain ⟨k, rfl, hb, hk, ha⟩ := hrel
    have HBr := hide hb
    have HA := hide ha
    clear ha
    by_cases hp : k < len
    · have hp' : k < P.length := by have := HL.out; omega
      obtain ⟨x, hkx⟩ : ∃ x, P[k]? = some x := ⟨_, List.getElem?_eq_getElem hp'⟩
      obtain ⟨b, o, cs, rfl, -, -, HR, HT2, -⟩ := ((unhide HT).on hb).get hkx
      obtain ⟨rfl, -⟩ := HT2
      have c0 : wr.cell? ⟨b, o + k * 3, none⟩ = some (.string x.name) := HR 0 _ rfl
      have c1 : wr.cell? ⟨b, o + k * 3 + 1, none⟩ = some (.int .i64 x.key) := HR 1 _ rfl
      have c2 : wr.cell? ⟨b, o + k * 3 + 2, none⟩ = some (.bool x.lost) := HR 2 _ rfl
      have hct := hide (hn1 x n g wr (below_some hb (unhide HG)) _ rfl)
      have q2 : (k : Int) < (len : Int) := by omega
      have q3 : (0 : Int) ≤ (k : Int) := by omega
      have w1 : wrap64 ((k : Int) + 1) = ((k + 1 : Nat) : Int) := by unfold wrap64; omega
      by_cases hx : x.name = n
      · have HE : Hid (hnm n P 0 = (k : Int)) := (unhide HA).trans (hnm_here hkx hx)
        rw [decide_eq_true hx] at hct
        clear hb hkx HR hx
        go_wp2_with fail
        refine (unhide hct).mono ?_
        rintro e w2 ⟨rfl, hb2⟩
        have HB2 := hide (btG (unhide HBr) hb2)
        clear hb2
        go_wp2_with fail
        go_ret
        exact ⟨ret_int (unhide HE).symm, unhide HB2⟩
      · have HE : Hid (hnm n P 0 = hnm n (P.drop (k + 1)) (k + 1)) := (unhide HA).trans (hnm_next hkx hx)
        rw [decide_eq_false hx] at hct
        clear hb hkx HR hx
        go_wp2_with fail
        refine (unhide hct).mono ?_
        rintro e w2 ⟨rfl, hb2⟩
        have HB2 := hide (btG (unhide HBr) hb2)
        clear hb2
        go_wp2_with fail
        go_roundw
        case rel => exact ⟨k + 1, rfl, unhide HB2, by omega, unhide HE⟩
        case measure => simp only [intOf]; omega
    · have c2 : ¬ (k : Int) < (len : Int) := by omega
      have HE : Hid (hnm n P 0 = -1) := (unhide HA).trans (hnm_end (by have := HL.out; omega))
      clear hb
      go_wp2_with fail
      go_ret
      exact ⟨ret_int (unhide HE).symm, unhide HBr⟩

set_option maxRecDepth 100000 in
set_option maxHeartbeats 4000000 in
theorem hostNamedI (P : List Ho) (a : Option Addr) (cap : Nat) (n : ByteArray) (w : World) (hl : hoK.Ls w 0 a P) (hsz : P.length ≤ 2097152) :
    Calls Tryz.prog 112 #[.slice a P.length cap, .string n] w fun e w' => e = .returned (.int .i64 (hnm n P 0)) ∧ Below w.heap.size w w' := by
  have HC := hide (idxH P a cap n w.heap.size _ (hl.on (abG (.cells #[.string n] 9))) hsz (box_cell w #[.string n] 9 0 _ rfl))
  clear hl
  generalize hnm n P 0 = v at *
  go_enter Tryz.func112, Tryz.ntmps112
  go_wp2_with fail
  refine (unhide HC).mono ?_
  rintro e w2 ⟨rfl, hb2⟩
  have HB2 := hide (btG (abG _) hb2)
  clear hb2
  go_wp2_with fail
  go_ret
  exact ⟨rfl, unhide HB2⟩

theorem hnm_seek (n : ByteArray) (P : List Ho) : ∀ i, i ≤ P.length → ((∀ k y, k < i → P[k]? = some y → ¬ y.name = n) ∧ hnm n P 0 = hnm n (P.drop i) i) ∨ ∃ (k : Nat) (y : Ho), k < i ∧ P[k]? = some y ∧ y.name = n ∧ hnm n P 0 = (k : Int)
  | 0, _ => Or.inl ⟨fun k y hk => by omega, rfl⟩
  | i + 1, hi => by
    rcases hnm_seek n P i (by omega) with ⟨h1, h2⟩ | ⟨k, y, h1, h2, h3, h4⟩
    · obtain ⟨x, hx⟩ : ∃ x, P[i]? = some x := ⟨_, List.getElem?_eq_getElem (by omega)⟩
      by_cases hn : x.name = n
      · exact Or.inr ⟨i, x, by omega, hx, hn, h2.trans (hnm_here hx hn)⟩
      · refine Or.inl ⟨fun k y hk hy => ?_, h2.trans (hnm_next hx hn)⟩
        rcases Nat.lt_or_ge k i with q | q
        · exact h1 k y q hy
        · obtain rfl : k = i := by omega
          rw [hx] at hy
          cases hy
          exact hn
    · exact Or.inr ⟨k, y, by omega, h2, h3, h4⟩
theorem hnm_first {P : List Ho} {i : Nat} {x : Ho} (hx : P[i]? = some x) : (∀ k y, k < i → P[k]? = some y → ¬ y.name = x.name) ↔ hnm x.name P 0 = (i : Int) := by
  have hi := (List.getElem?_eq_some_iff.1 hx).1
  rcases hnm_seek x.name P i (by omega) with ⟨h1, h2⟩ | ⟨k, y, h1, h2, h3, h4⟩
  · exact ⟨fun _ => h2.trans (hnm_here hx rfl), fun _ => h1⟩
  · exact ⟨fun h => absurd h3 (h k y h1 h2), fun h => by omega⟩

theorem infoITm : (Tryz.prog.info? 52).map (·.size) = some 4 := by kernel_rfl

set_option maxRecDepth 100000 in
set_option maxHeartbeats 4000000 in
theorem eachTm (P : List Tm) (a : Option Addr) (cap : Nat) (most : Nat) (f : Tm → Bool) (w : World) (hl : tmK.Ls w 0 a P) (hsz : P.length ≤ 1048576) (hms : most ≤ 1000)
    (hf : ∀ x ∈ P, ∀ cs v, Below w.heap.size w v → tmK.at_ v 0 x cs → Calls Tryz.prog 85 #[.agg cs.toArray] v fun e v' => e = .returned (.bool (f x)) ∧ Below v.heap.size v v') :
    Calls Tryz.prog 84 #[.slice a P.length cap, .int .i64 (most : Int), .func (.func 85) #[] #[]] w fun e w' => e = .returned (.bool (decide (P.length ≤ most) && P.all f)) ∧ Below w.heap.size w w' := by
  have HT := hide hl
  have HF := hide hf
  clear hl hf
  generalize hlen : P.length = len at *
  have HL := hide hlen
  clear hlen
  by_cases hlm : (most : Int) < (len : Int)
  · have HE : Hid ((decide (len ≤ most) && P.all f) = false) := by show _ = _; rw [decide_eq_false (by omega), Bool.false_and]
    generalize (decide (len ≤ most) && P.all f) = r at *
    go_enter Tryz.func84, Tryz.ntmps84
    go_wp2_with fail
    go_ret
    exact ⟨retB (unhide HE), Below.refl _ _⟩
  · have HE : Hid ((decide (len ≤ most) && P.all f) = P.all f) := by show _ = _; rw [decide_eq_true (by omega), Bool.true_and]
    generalize (decide (len ≤ most) && P.all f) = r at *
    go_enter Tryz.func84, Tryz.ntmps84
    go_wp2_with fail
    go_loopw [15] (fun i wr => ∃ k : Nat, i = .int .i64 k ∧ Below w.heap.size w wr ∧ k ≤ len ∧ ∀ j x, j < k → P[j]? = some x → f x = true) (fun i _ => len - (intOf i).toNat)
    case atStart => exact ⟨0, rfl, Below.refl _ _, by omega, fun j x hj => by omega⟩
    case round =>
      obtain ⟨k, rfl, hb, hk, ha⟩ := hrel
      have HBr := hide hb
      have HA := hide ha
      clear ha
      by_cases hp : k < len
      · have hp' : k < P.length := by have := HL.out; omega
        obtain ⟨x, hkx⟩ : ∃ x, P[k]? = some x := ⟨_, List.getElem?_eq_getElem hp'⟩
        obtain ⟨b, o, cs, rfl, -, -, HR0, HT2, hcl0⟩ := ((unhide HT).on hb).get hkx
        have HR := hide (show wr.rangeAt b (o + k * 4) cs from HR0)
        have hcl := hide (show cs.length = 4 from hcl0)
        have hone := hide (tmK.one (w := wr) (L := 0) (x := x) HT2)
        have HZ := hide (Box.new wr 52 [.int .i64 0, .int .i64 0, .string ⟨#[]⟩, .slice none 0 0])
        have HFX := hide (fun v (hv : Below wr.heap.size wr v) => unhide HF x (List.mem_of_getElem? hkx) cs v (btG hb hv) (tmK.on (w := wr) (L := 0) (x := x) HT2 hv))
        have HK := hide hkx
        have q2 : (k : Int) < (len : Int) := by omega
        have q3 : (0 : Int) ≤ (k : Int) := by omega
        have w1 : wrap64 ((k : Int) + 1) = ((k + 1 : Nat) : Int) := by unfold wrap64; omega
        have HM : Hid (f x = true → ∀ j y, j < k + 1 → P[j]? = some y → f y = true) := fun hx j y hj hy => by
          rcases Nat.lt_or_ge j k with q | q
          · exact unhide HA j y q hy
          · obtain rfl : j = k := by omega
            rw [unhide HK] at hy
            cases hy
            exact hx
        have HN : Hid (f x = false → P.all f = false) := fun hx => List.all_eq_false.2 ⟨x, List.mem_of_getElem? (unhide HK), by simp [hx]⟩
        clear hkx HR0 HT2 hcl0 hb
        generalize f x = fx at *
        cases fx with
        | true =>
          go_wp2_with (first
          | (refine wpList_load_mid rfl _ _ rfl b (o + k * 4) rfl cs _ (unhide HR) Tryz.underlying52 rfl (by rw [unhide hcl]; exact infoITm) ?_)
          | (refine wpList_store_box rfl _ _ rfl wr.heap.size 0 cs (unhide HZ) (by rw [unhide hcl]; exact Nat.le_refl _) rfl rfl (by rw [unhide hcl]; exact infoITm) (unhide hone) ?_
             intro V hV
             have HV : Hid (Box V wr.heap.size 52 cs) := (by
               rw [hV]
               have hp : puts [.int .i64 0, .int .i64 0, .string ⟨#[]⟩, .slice none 0 0] 0 cs = cs := puts_all (by rw [unhide hcl]; rfl)
               have := Box.sets cs 0 _ _ (unhide HZ)
               rw [hp] at this
               exact this)
             have HBV : Hid (Below wr.heap.size wr V) := (by rw [hV]; exact setsG (abG _) (Nat.le_refl _))
             clear hV HZ)
          | (refine wpList_load_box rfl _ rfl wr.heap.size 0 cs (unhide HV) (fun j v hj => (by rw [Nat.zero_add]; exact hj)) rfl Tryz.underlying52 rfl (by rw [unhide hcl]; exact infoITm) ?_))
          refine (unhide HFX _ (unhide HBV)).mono ?_
          rintro e w3 ⟨rfl, hb3⟩
          have HB3 := hide (btG (btG (unhide HBr) (unhide HBV)) hb3)
          clear hb3
          go_wp2_with fail
          go_roundw
          case rel => exact ⟨k + 1, rfl, unhide HB3, by omega, unhide HM (by first | rfl | trivial)⟩
          case measure => simp only [intOf]; omega
        | false =>
          go_wp2_with (first
          | (refine wpList_load_mid rfl _ _ rfl b (o + k * 4) rfl cs _ (unhide HR) Tryz.underlying52 rfl (by rw [unhide hcl]; exact infoITm) ?_)
          | (refine wpList_store_box rfl _ _ rfl wr.heap.size 0 cs (unhide HZ) (by rw [unhide hcl]; exact Nat.le_refl _) rfl rfl (by rw [unhide hcl]; exact infoITm) (unhide hone) ?_
             intro V hV
             have HV : Hid (Box V wr.heap.size 52 cs) := (by
               rw [hV]
               have hp : puts [.int .i64 0, .int .i64 0, .string ⟨#[]⟩, .slice none 0 0] 0 cs = cs := puts_all (by rw [unhide hcl]; rfl)
               have := Box.sets cs 0 _ _ (unhide HZ)
               rw [hp] at this
               exact this)
             have HBV : Hid (Below wr.heap.size wr V) := (by rw [hV]; exact setsG (abG _) (Nat.le_refl _))
             clear hV HZ)
          | (refine wpList_load_box rfl _ rfl wr.heap.size 0 cs (unhide HV) (fun j v hj => (by rw [Nat.zero_add]; exact hj)) rfl Tryz.underlying52 rfl (by rw [unhide hcl]; exact infoITm) ?_))
          refine (unhide HFX _ (unhide HBV)).mono ?_
          rintro e w3 ⟨rfl, hb3⟩
          have HB3 := hide (btG (btG (unhide HBr) (unhide HBV)) hb3)
          clear hb3
          go_wp2_with fail
          go_ret
          exact ⟨retB ((unhide HE).trans (unhide HN (by first | rfl | trivial))), unhide HB3⟩
      · have c2 : ¬ (k : Int) < (len : Int) := by omega
        have HX : Hid (P.all f = true) := List.all_eq_true.2 fun x hx => by
          obtain ⟨j, hj⟩ := List.getElem?_of_mem hx
          exact unhide HA j x (by have := (List.getElem?_eq_some_iff.1 hj).1; have := HL.out; omega) hj
        clear hb
        go_wp2_with fail
        go_ret
        exact ⟨retB ((unhide HE).trans (unhide HX)), unhide HBr⟩

set_option maxRecDepth 100000 in
set_option maxHeartbeats 4000000 in
theorem eachHo (P : List Ho) (a : Option Addr) (cap : Nat) (most : Nat) (f : Ho → Bool) (w : World) (hl : hoK.Ls w 0 a P) (hsz : P.length ≤ 1048576) (hms : most ≤ 1000)
    (hf : ∀ x ∈ P, ∀ cs v, Below w.heap.size w v → hoK.at_ v 0 x cs → Calls Tryz.prog 88 #[.agg cs.toArray] v fun e v' => e = .returned (.bool (f x)) ∧ Below v.heap.size v v') :
    Calls Tryz.prog 87 #[.slice a P.length cap, .int .i64 (most : Int), .func (.func 88) #[] #[]] w fun e w' => e = .returned (.bool (decide (P.length ≤ most) && P.all f)) ∧ Below w.heap.size w w' := by
  have HT := hide hl
  have HF := hide hf
  clear hl hf
  generalize hlen : P.length = len at *
  have HL := hide hlen
  clear hlen
  by_cases hlm : (most : Int) < (len : Int)
  · have HE : Hid ((decide (len ≤ most) && P.all f) = false) := by show _ = _; rw [decide_eq_false (by omega), Bool.false_and]
    generalize (decide (len ≤ most) && P.all f) = r at *
    go_enter Tryz.func87, Tryz.ntmps87
    go_wp2_with fail
    go_ret
    exact ⟨retB (unhide HE), Below.refl _ _⟩
  · have HE : Hid ((decide (len ≤ most) && P.all f) = P.all f) := by show _ = _; rw [decide_eq_true (by omega), Bool.true_and]
    generalize (decide (len ≤ most) && P.all f) = r at *
    go_enter Tryz.func87, Tryz.ntmps87
    go_wp2_with fail
    go_loopw [15] (fun i wr => ∃ k : Nat, i = .int .i64 k ∧ Below w.heap.size w wr ∧ k ≤ len ∧ ∀ j x, j < k → P[j]? = some x → f x = true) (fun i _ => len - (intOf i).toNat)
    case atStart => exact ⟨0, rfl, Below.refl _ _, by omega, fun j x hj => by omega⟩
    case round =>
      obtain ⟨k, rfl, hb, hk, ha⟩ := hrel
      have HBr := hide hb
      have HA := hide ha
      clear ha
      by_cases hp : k < len
      · have hp' : k < P.length := by have := HL.out; omega
        obtain ⟨x, hkx⟩ : ∃ x, P[k]? = some x := ⟨_, List.getElem?_eq_getElem hp'⟩
        obtain ⟨b, o, cs, rfl, -, -, HR0, HT2, hcl0⟩ := ((unhide HT).on hb).get hkx
        have HR := hide (show wr.rangeAt b (o + k * 3) cs from HR0)
        have hcl := hide (show cs.length = 3 from hcl0)
        have hone := hide (hoK.one (w := wr) (L := 0) (x := x) HT2)
        have HZ := hide (Box.new wr 107 [.string ⟨#[]⟩, .int .i64 0, .bool false])
        have HFX := hide (fun v (hv : Below wr.heap.size wr v) => unhide HF x (List.mem_of_getElem? hkx) cs v (btG hb hv) (hoK.on (w := wr) (L := 0) (x := x) HT2 hv))
        have HK := hide hkx
        have q2 : (k : Int) < (len : Int) := by omega
        have q3 : (0 : Int) ≤ (k : Int) := by omega
        have w1 : wrap64 ((k : Int) + 1) = ((k + 1 : Nat) : Int) := by unfold wrap64; omega
        have HM : Hid (f x = true → ∀ j y, j < k + 1 → P[j]? = some y → f y = true) := fun hx j y hj hy => by
          rcases Nat.lt_or_ge j k with q | q
          · exact unhide HA j y q hy
          · obtain rfl : j = k := by omega
            rw [unhide HK] at hy
            cases hy
            exact hx
        have HN : Hid (f x = false → P.all f = false) := fun hx => List.all_eq_false.2 ⟨x, List.mem_of_getElem? (unhide HK), by simp [hx]⟩
        clear hkx HR0 HT2 hcl0 hb
        generalize f x = fx at *
        cases fx with
        | true =>
          go_wp2_with (first
          | (refine wpList_load_mid rfl _ _ rfl b (o + k * 3) rfl cs _ (unhide HR) Tryz.underlying107 rfl (by rw [unhide hcl]; exact infoIHo) ?_)
          | (refine wpList_store_box rfl _ _ rfl wr.heap.size 0 cs (unhide HZ) (by rw [unhide hcl]; exact Nat.le_refl _) rfl rfl (by rw [unhide hcl]; exact infoIHo) (unhide hone) ?_
             intro V hV
             have HV : Hid (Box V wr.heap.size 107 cs) := (by
               rw [hV]
               have hp : puts [.string ⟨#[]⟩, .int .i64 0, .bool false] 0 cs = cs := puts_all (by rw [unhide hcl]; rfl)
               have := Box.sets cs 0 _ _ (unhide HZ)
               rw [hp] at this
               exact this)
             have HBV : Hid (Below wr.heap.size wr V) := (by rw [hV]; exact setsG (abG _) (Nat.le_refl _))
             clear hV HZ)
          | (refine wpList_load_box rfl _ rfl wr.heap.size 0 cs (unhide HV) (fun j v hj => (by rw [Nat.zero_add]; exact hj)) rfl Tryz.underlying107 rfl (by rw [unhide hcl]; exact infoIHo) ?_))
          refine (unhide HFX _ (unhide HBV)).mono ?_
          rintro e w3 ⟨rfl, hb3⟩
          have HB3 := hide (btG (btG (unhide HBr) (unhide HBV)) hb3)
          clear hb3
          go_wp2_with fail
          go_roundw
          case rel => exact ⟨k + 1, rfl, unhide HB3, by omega, unhide HM (by first | rfl | trivial)⟩
          case measure => simp only [intOf]; omega
        | false =>
          go_wp2_with (first
          | (refine wpList_load_mid rfl _ _ rfl b (o + k * 3) rfl cs _ (unhide HR) Tryz.underlying107 rfl (by rw [unhide hcl]; exact infoIHo) ?_)
          | (refine wpList_store_box rfl _ _ rfl wr.heap.size 0 cs (unhide HZ) (by rw [unhide hcl]; exact Nat.le_refl _) rfl rfl (by rw [unhide hcl]; exact infoIHo) (unhide hone) ?_
             intro V hV
             have HV : Hid (Box V wr.heap.size 107 cs) := (by
               rw [hV]
               have hp : puts [.string ⟨#[]⟩, .int .i64 0, .bool false] 0 cs = cs := puts_all (by rw [unhide hcl]; rfl)
               have := Box.sets cs 0 _ _ (unhide HZ)
               rw [hp] at this
               exact this)
             have HBV : Hid (Below wr.heap.size wr V) := (by rw [hV]; exact setsG (abG _) (Nat.le_refl _))
             clear hV HZ)
          | (refine wpList_load_box rfl _ rfl wr.heap.size 0 cs (unhide HV) (fun j v hj => (by rw [Nat.zero_add]; exact hj)) rfl Tryz.underlying107 rfl (by rw [unhide hcl]; exact infoIHo) ?_))
          refine (unhide HFX _ (unhide HBV)).mono ?_
          rintro e w3 ⟨rfl, hb3⟩
          have HB3 := hide (btG (btG (unhide HBr) (unhide HBV)) hb3)
          clear hb3
          go_wp2_with fail
          go_ret
          exact ⟨retB ((unhide HE).trans (unhide HN (by first | rfl | trivial))), unhide HB3⟩
      · have c2 : ¬ (k : Int) < (len : Int) := by omega
        have HX : Hid (P.all f = true) := List.all_eq_true.2 fun x hx => by
          obtain ⟨j, hj⟩ := List.getElem?_of_mem hx
          exact unhide HA j x (by have := (List.getElem?_eq_some_iff.1 hj).1; have := HL.out; omega) hj
        clear hb
        go_wp2_with fail
        go_ret
        exact ⟨retB ((unhide HE).trans (unhide HX)), unhide HBr⟩

set_option maxRecDepth 100000 in
set_option maxHeartbeats 4000000 in
theorem eachLe (P : List Le) (a : Option Addr) (cap : Nat) (most : Nat) (f : Le → Bool) (w : World) (hl : leK.Ls w 0 a P) (hsz : P.length ≤ 1048576) (hms : most ≤ 1000)
    (hf : ∀ x ∈ P, ∀ cs v, Below w.heap.size w v → leK.at_ v 0 x cs → Calls Tryz.prog 91 #[.agg cs.toArray] v fun e v' => e = .returned (.bool (f x)) ∧ Below v.heap.size v v') :
    Calls Tryz.prog 90 #[.slice a P.length cap, .int .i64 (most : Int), .func (.func 91) #[] #[]] w fun e w' => e = .returned (.bool (decide (P.length ≤ most) && P.all f)) ∧ Below w.heap.size w w' := by
  have HT := hide hl
  have HF := hide hf
  clear hl hf
  generalize hlen : P.length = len at *
  have HL := hide hlen
  clear hlen
  by_cases hlm : (most : Int) < (len : Int)
  · have HE : Hid ((decide (len ≤ most) && P.all f) = false) := by show _ = _; rw [decide_eq_false (by omega), Bool.false_and]
    generalize (decide (len ≤ most) && P.all f) = r at *
    go_enter Tryz.func90, Tryz.ntmps90
    go_wp2_with fail
    go_ret
    exact ⟨retB (unhide HE), Below.refl _ _⟩
  · have HE : Hid ((decide (len ≤ most) && P.all f) = P.all f) := by show _ = _; rw [decide_eq_true (by omega), Bool.true_and]
    generalize (decide (len ≤ most) && P.all f) = r at *
    go_enter Tryz.func90, Tryz.ntmps90
    go_wp2_with fail
    go_loopw [15] (fun i wr => ∃ k : Nat, i = .int .i64 k ∧ Below w.heap.size w wr ∧ k ≤ len ∧ ∀ j x, j < k → P[j]? = some x → f x = true) (fun i _ => len - (intOf i).toNat)
    case atStart => exact ⟨0, rfl, Below.refl _ _, by omega, fun j x hj => by omega⟩
    case round =>
      obtain ⟨k, rfl, hb, hk, ha⟩ := hrel
      have HBr := hide hb
      have HA := hide ha
      clear ha
      by_cases hp : k < len
      · have hp' : k < P.length := by have := HL.out; omega
        obtain ⟨x, hkx⟩ : ∃ x, P[k]? = some x := ⟨_, List.getElem?_eq_getElem hp'⟩
        obtain ⟨b, o, cs, rfl, -, -, HR0, HT2, hcl0⟩ := ((unhide HT).on hb).get hkx
        have HR := hide (show wr.rangeAt b (o + k * 5) cs from HR0)
        have hcl := hide (show cs.length = 5 from hcl0)
        have hone := hide (leK.one (w := wr) (L := 0) (x := x) HT2)
        have HZ := hide (Box.new wr 103 [.string ⟨#[]⟩, .int .i64 0, .int .i64 0, .int .i64 0, .int .i64 0])
        have HFX := hide (fun v (hv : Below wr.heap.size wr v) => unhide HF x (List.mem_of_getElem? hkx) cs v (btG hb hv) (leK.on (w := wr) (L := 0) (x := x) HT2 hv))
        have HK := hide hkx
        have q2 : (k : Int) < (len : Int) := by omega
        have q3 : (0 : Int) ≤ (k : Int) := by omega
        have w1 : wrap64 ((k : Int) + 1) = ((k + 1 : Nat) : Int) := by unfold wrap64; omega
        have HM : Hid (f x = true → ∀ j y, j < k + 1 → P[j]? = some y → f y = true) := fun hx j y hj hy => by
          rcases Nat.lt_or_ge j k with q | q
          · exact unhide HA j y q hy
          · obtain rfl : j = k := by omega
            rw [unhide HK] at hy
            cases hy
            exact hx
        have HN : Hid (f x = false → P.all f = false) := fun hx => List.all_eq_false.2 ⟨x, List.mem_of_getElem? (unhide HK), by simp [hx]⟩
        clear hkx HR0 HT2 hcl0 hb
        generalize f x = fx at *
        cases fx with
        | true =>
          go_wp2_with (first
          | (refine wpList_load_mid rfl _ _ rfl b (o + k * 5) rfl cs _ (unhide HR) Tryz.underlying103 rfl (by rw [unhide hcl]; exact infoILe) ?_)
          | (refine wpList_store_box rfl _ _ rfl wr.heap.size 0 cs (unhide HZ) (by rw [unhide hcl]; exact Nat.le_refl _) rfl rfl (by rw [unhide hcl]; exact infoILe) (unhide hone) ?_
             intro V hV
             have HV : Hid (Box V wr.heap.size 103 cs) := (by
               rw [hV]
               have hp : puts [.string ⟨#[]⟩, .int .i64 0, .int .i64 0, .int .i64 0, .int .i64 0] 0 cs = cs := puts_all (by rw [unhide hcl]; rfl)
               have := Box.sets cs 0 _ _ (unhide HZ)
               rw [hp] at this
               exact this)
             have HBV : Hid (Below wr.heap.size wr V) := (by rw [hV]; exact setsG (abG _) (Nat.le_refl _))
             clear hV HZ)
          | (refine wpList_load_box rfl _ rfl wr.heap.size 0 cs (unhide HV) (fun j v hj => (by rw [Nat.zero_add]; exact hj)) rfl Tryz.underlying103 rfl (by rw [unhide hcl]; exact infoILe) ?_))
          refine (unhide HFX _ (unhide HBV)).mono ?_
          rintro e w3 ⟨rfl, hb3⟩
          have HB3 := hide (btG (btG (unhide HBr) (unhide HBV)) hb3)
          clear hb3
          go_wp2_with fail
          go_roundw
          case rel => exact ⟨k + 1, rfl, unhide HB3, by omega, unhide HM (by first | rfl | trivial)⟩
          case measure => simp only [intOf]; omega
        | false =>
          go_wp2_with (first
          | (refine wpList_load_mid rfl _ _ rfl b (o + k * 5) rfl cs _ (unhide HR) Tryz.underlying103 rfl (by rw [unhide hcl]; exact infoILe) ?_)
          | (refine wpList_store_box rfl _ _ rfl wr.heap.size 0 cs (unhide HZ) (by rw [unhide hcl]; exact Nat.le_refl _) rfl rfl (by rw [unhide hcl]; exact infoILe) (unhide hone) ?_
             intro V hV
             have HV : Hid (Box V wr.heap.size 103 cs) := (by
               rw [hV]
               have hp : puts [.string ⟨#[]⟩, .int .i64 0, .int .i64 0, .int .i64 0, .int .i64 0] 0 cs = cs := puts_all (by rw [unhide hcl]; rfl)
               have := Box.sets cs 0 _ _ (unhide HZ)
               rw [hp] at this
               exact this)
             have HBV : Hid (Below wr.heap.size wr V) := (by rw [hV]; exact setsG (abG _) (Nat.le_refl _))
             clear hV HZ)
          | (refine wpList_load_box rfl _ rfl wr.heap.size 0 cs (unhide HV) (fun j v hj => (by rw [Nat.zero_add]; exact hj)) rfl Tryz.underlying103 rfl (by rw [unhide hcl]; exact infoILe) ?_))
          refine (unhide HFX _ (unhide HBV)).mono ?_
          rintro e w3 ⟨rfl, hb3⟩
          have HB3 := hide (btG (btG (unhide HBr) (unhide HBV)) hb3)
          clear hb3
          go_wp2_with fail
          go_ret
          exact ⟨retB ((unhide HE).trans (unhide HN (by first | rfl | trivial))), unhide HB3⟩
      · have c2 : ¬ (k : Int) < (len : Int) := by omega
        have HX : Hid (P.all f = true) := List.all_eq_true.2 fun x hx => by
          obtain ⟨j, hj⟩ := List.getElem?_of_mem hx
          exact unhide HA j x (by have := (List.getElem?_eq_some_iff.1 hj).1; have := HL.out; omega) hj
        clear hb
        go_wp2_with fail
        go_ret
        exact ⟨retB ((unhide HE).trans (unhide HX)), unhide HBr⟩

set_option maxRecDepth 100000 in
set_option maxHeartbeats 4000000 in
theorem eachCa (P : List Ca) (a : Option Addr) (cap : Nat) (most : Nat) (f : Ca → Bool) (wc : Array Value) (w : World) (hl : caK.Ls w 0 a P) (hsz : P.length ≤ 1048576) (hms : most ≤ 1000)
    (hf : ∀ x ∈ P, ∀ cs v, Below w.heap.size w v → caK.at_ v 0 x cs → Calls Tryz.prog 93 #[.agg wc, .agg cs.toArray] v fun e v' => e = .returned (.bool (f x)) ∧ Below v.heap.size v v') :
    Calls Tryz.prog 92 #[.slice a P.length cap, .int .i64 (most : Int), .func (.func 93) #[.agg wc] #[]] w fun e w' => e = .returned (.bool (decide (P.length ≤ most) && P.all f)) ∧ Below w.heap.size w w' := by
  have HT := hide hl
  have HF := hide hf
  clear hl hf
  generalize hlen : P.length = len at *
  have HL := hide hlen
  clear hlen
  by_cases hlm : (most : Int) < (len : Int)
  · have HE : Hid ((decide (len ≤ most) && P.all f) = false) := by show _ = _; rw [decide_eq_false (by omega), Bool.false_and]
    generalize (decide (len ≤ most) && P.all f) = r at *
    go_enter Tryz.func92, Tryz.ntmps92
    go_wp2_with fail
    go_ret
    exact ⟨retB (unhide HE), Below.refl _ _⟩
  · have HE : Hid ((decide (len ≤ most) && P.all f) = P.all f) := by show _ = _; rw [decide_eq_true (by omega), Bool.true_and]
    generalize (decide (len ≤ most) && P.all f) = r at *
    go_enter Tryz.func92, Tryz.ntmps92
    go_wp2_with fail
    go_loopw [15] (fun i wr => ∃ k : Nat, i = .int .i64 k ∧ Below w.heap.size w wr ∧ k ≤ len ∧ ∀ j x, j < k → P[j]? = some x → f x = true) (fun i _ => len - (intOf i).toNat)
    case atStart => exact ⟨0, rfl, Below.refl _ _, by omega, fun j x hj => by omega⟩
    case round =>
      obtain ⟨k, rfl, hb, hk, ha⟩ := hrel
      have HBr := hide hb
      have HA := hide ha
      clear ha
      by_cases hp : k < len
      · have hp' : k < P.length := by have := HL.out; omega
        obtain ⟨x, hkx⟩ : ∃ x, P[k]? = some x := ⟨_, List.getElem?_eq_getElem hp'⟩
        obtain ⟨b, o, cs, rfl, -, -, HR0, HT2, hcl0⟩ := ((unhide HT).on hb).get hkx
        have HR := hide (show wr.rangeAt b (o + k * 15) cs from HR0)
        have hcl := hide (show cs.length = 15 from hcl0)
        have hone := hide (caK.one (w := wr) (L := 0) (x := x) HT2)
        have HZ := hide (Box.new wr 56 [.int .i64 0, .int .i64 0, .string ⟨#[]⟩, .bool false, .int .i64 0, .int .i64 0, .int .i64 0, .int .i64 0, .string ⟨#[]⟩, .slice none 0 0, .int .i64 0, .int .i64 0, .bool false, .bool false, .bool false])
        have HFX := hide (fun v (hv : Below wr.heap.size wr v) => unhide HF x (List.mem_of_getElem? hkx) cs v (btG hb hv) (caK.on (w := wr) (L := 0) (x := x) HT2 hv))
        have HK := hide hkx
        have q2 : (k : Int) < (len : Int) := by omega
        have q3 : (0 : Int) ≤ (k : Int) := by omega
        have w1 : wrap64 ((k : Int) + 1) = ((k + 1 : Nat) : Int) := by unfold wrap64; omega
        have HM : Hid (f x = true → ∀ j y, j < k + 1 → P[j]? = some y → f y = true) := fun hx j y hj hy => by
          rcases Nat.lt_or_ge j k with q | q
          · exact unhide HA j y q hy
          · obtain rfl : j = k := by omega
            rw [unhide HK] at hy
            cases hy
            exact hx
        have HN : Hid (f x = false → P.all f = false) := fun hx => List.all_eq_false.2 ⟨x, List.mem_of_getElem? (unhide HK), by simp [hx]⟩
        clear hkx HR0 HT2 hcl0 hb
        generalize f x = fx at *
        cases fx with
        | true =>
          go_wp2_with (first
          | (refine wpList_load_mid rfl _ _ rfl b (o + k * 15) rfl cs _ (unhide HR) Tryz.underlying56 rfl (by rw [unhide hcl]; exact infoICa) ?_)
          | (refine wpList_store_box rfl _ _ rfl wr.heap.size 0 cs (unhide HZ) (by rw [unhide hcl]; exact Nat.le_refl _) rfl rfl (by rw [unhide hcl]; exact infoICa) (unhide hone) ?_
             intro V hV
             have HV : Hid (Box V wr.heap.size 56 cs) := (by
               rw [hV]
               have hp : puts [.int .i64 0, .int .i64 0, .string ⟨#[]⟩, .bool false, .int .i64 0, .int .i64 0, .int .i64 0, .int .i64 0, .string ⟨#[]⟩, .slice none 0 0, .int .i64 0, .int .i64 0, .bool false, .bool false, .bool false] 0 cs = cs := puts_all (by rw [unhide hcl]; rfl)
               have := Box.sets cs 0 _ _ (unhide HZ)
               rw [hp] at this
               exact this)
             have HBV : Hid (Below wr.heap.size wr V) := (by rw [hV]; exact setsG (abG _) (Nat.le_refl _))
             clear hV HZ)
          | (refine wpList_load_box rfl _ rfl wr.heap.size 0 cs (unhide HV) (fun j v hj => (by rw [Nat.zero_add]; exact hj)) rfl Tryz.underlying56 rfl (by rw [unhide hcl]; exact infoICa) ?_))
          refine (unhide HFX _ (unhide HBV)).mono ?_
          rintro e w3 ⟨rfl, hb3⟩
          have HB3 := hide (btG (btG (unhide HBr) (unhide HBV)) hb3)
          clear hb3
          go_wp2_with fail
          go_roundw
          case rel => exact ⟨k + 1, rfl, unhide HB3, by omega, unhide HM (by first | rfl | trivial)⟩
          case measure => simp only [intOf]; omega
        | false =>
          go_wp2_with (first
          | (refine wpList_load_mid rfl _ _ rfl b (o + k * 15) rfl cs _ (unhide HR) Tryz.underlying56 rfl (by rw [unhide hcl]; exact infoICa) ?_)
          | (refine wpList_store_box rfl _ _ rfl wr.heap.size 0 cs (unhide HZ) (by rw [unhide hcl]; exact Nat.le_refl _) rfl rfl (by rw [unhide hcl]; exact infoICa) (unhide hone) ?_
             intro V hV
             have HV : Hid (Box V wr.heap.size 56 cs) := (by
               rw [hV]
               have hp : puts [.int .i64 0, .int .i64 0, .string ⟨#[]⟩, .bool false, .int .i64 0, .int .i64 0, .int .i64 0, .int .i64 0, .string ⟨#[]⟩, .slice none 0 0, .int .i64 0, .int .i64 0, .bool false, .bool false, .bool false] 0 cs = cs := puts_all (by rw [unhide hcl]; rfl)
               have := Box.sets cs 0 _ _ (unhide HZ)
               rw [hp] at this
               exact this)
             have HBV : Hid (Below wr.heap.size wr V) := (by rw [hV]; exact setsG (abG _) (Nat.le_refl _))
             clear hV HZ)
          | (refine wpList_load_box rfl _ rfl wr.heap.size 0 cs (unhide HV) (fun j v hj => (by rw [Nat.zero_add]; exact hj)) rfl Tryz.underlying56 rfl (by rw [unhide hcl]; exact infoICa) ?_))
          refine (unhide HFX _ (unhide HBV)).mono ?_
          rintro e w3 ⟨rfl, hb3⟩
          have HB3 := hide (btG (btG (unhide HBr) (unhide HBV)) hb3)
          clear hb3
          go_wp2_with fail
          go_ret
          exact ⟨retB ((unhide HE).trans (unhide HN (by first | rfl | trivial))), unhide HB3⟩
      · have c2 : ¬ (k : Int) < (len : Int) := by omega
        have HX : Hid (P.all f = true) := List.all_eq_true.2 fun x hx => by
          obtain ⟨j, hj⟩ := List.getElem?_of_mem hx
          exact unhide HA j x (by have := (List.getElem?_eq_some_iff.1 hj).1; have := HL.out; omega) hj
        clear hb
        go_wp2_with fail
        go_ret
        exact ⟨retB ((unhide HE).trans (unhide HX)), unhide HBr⟩

set_option maxRecDepth 100000 in
set_option maxHeartbeats 4000000 in
theorem eachTa (P : List Ta) (a : Option Addr) (cap : Nat) (most : Nat) (f : Ta → Bool) (wc : Array Value) (w : World) (hl : taK.Ls w 0 a P) (hsz : P.length ≤ 1048576) (hms : most ≤ 1000)
    (hf : ∀ x ∈ P, ∀ cs v, Below w.heap.size w v → taK.at_ v 0 x cs → Calls Tryz.prog 95 #[.agg wc, .agg cs.toArray] v fun e v' => e = .returned (.bool (f x)) ∧ Below v.heap.size v v') :
    Calls Tryz.prog 94 #[.slice a P.length cap, .int .i64 (most : Int), .func (.func 95) #[.agg wc] #[]] w fun e w' => e = .returned (.bool (decide (P.length ≤ most) && P.all f)) ∧ Below w.heap.size w w' := by
  have HT := hide hl
  have HF := hide hf
  clear hl hf
  generalize hlen : P.length = len at *
  have HL := hide hlen
  clear hlen
  by_cases hlm : (most : Int) < (len : Int)
  · have HE : Hid ((decide (len ≤ most) && P.all f) = false) := by show _ = _; rw [decide_eq_false (by omega), Bool.false_and]
    generalize (decide (len ≤ most) && P.all f) = r at *
    go_enter Tryz.func94, Tryz.ntmps94
    go_wp2_with fail
    go_ret
    exact ⟨retB (unhide HE), Below.refl _ _⟩
  · have HE : Hid ((decide (len ≤ most) && P.all f) = P.all f) := by show _ = _; rw [decide_eq_true (by omega), Bool.true_and]
    generalize (decide (len ≤ most) && P.all f) = r at *
    go_enter Tryz.func94, Tryz.ntmps94
    go_wp2_with fail
    go_loopw [15] (fun i wr => ∃ k : Nat, i = .int .i64 k ∧ Below w.heap.size w wr ∧ k ≤ len ∧ ∀ j x, j < k → P[j]? = some x → f x = true) (fun i _ => len - (intOf i).toNat)
    case atStart => exact ⟨0, rfl, Below.refl _ _, by omega, fun j x hj => by omega⟩
    case round =>
      obtain ⟨k, rfl, hb, hk, ha⟩ := hrel
      have HBr := hide hb
      have HA := hide ha
      clear ha
      by_cases hp : k < len
      · have hp' : k < P.length := by have := HL.out; omega
        obtain ⟨x, hkx⟩ : ∃ x, P[k]? = some x := ⟨_, List.getElem?_eq_getElem hp'⟩
        obtain ⟨b, o, cs, rfl, -, -, HR0, HT2, hcl0⟩ := ((unhide HT).on hb).get hkx
        have HR := hide (show wr.rangeAt b (o + k * 17) cs from HR0)
        have hcl := hide (show cs.length = 17 from hcl0)
        have hone := hide (taK.one (w := wr) (L := 0) (x := x) HT2)
        have HZ := hide (Box.new wr 114 [.int .i64 0, .int .i64 0, .string ⟨#[]⟩, .int .i64 0, .int .i64 0, .int .i64 0, .int .i64 0, .string ⟨#[]⟩, .slice none 0 0, .int .i64 0, .int .i64 0, .string ⟨#[]⟩, .slice none 0 0, .int .i64 0, .int .i64 0, .bool false, .slice none 0 0])
        have HFX := hide (fun v (hv : Below wr.heap.size wr v) => unhide HF x (List.mem_of_getElem? hkx) cs v (btG hb hv) (taK.on (w := wr) (L := 0) (x := x) HT2 hv))
        have HK := hide hkx
        have q2 : (k : Int) < (len : Int) := by omega
        have q3 : (0 : Int) ≤ (k : Int) := by omega
        have w1 : wrap64 ((k : Int) + 1) = ((k + 1 : Nat) : Int) := by unfold wrap64; omega
        have HM : Hid (f x = true → ∀ j y, j < k + 1 → P[j]? = some y → f y = true) := fun hx j y hj hy => by
          rcases Nat.lt_or_ge j k with q | q
          · exact unhide HA j y q hy
          · obtain rfl : j = k := by omega
            rw [unhide HK] at hy
            cases hy
            exact hx
        have HN : Hid (f x = false → P.all f = false) := fun hx => List.all_eq_false.2 ⟨x, List.mem_of_getElem? (unhide HK), by simp [hx]⟩
        clear hkx HR0 HT2 hcl0 hb
        generalize f x = fx at *
        cases fx with
        | true =>
          go_wp2_with (first
          | (refine wpList_load_mid rfl _ _ rfl b (o + k * 17) rfl cs _ (unhide HR) Tryz.underlying114 rfl (by rw [unhide hcl]; exact infoITa) ?_)
          | (refine wpList_store_box rfl _ _ rfl wr.heap.size 0 cs (unhide HZ) (by rw [unhide hcl]; exact Nat.le_refl _) rfl rfl (by rw [unhide hcl]; exact infoITa) (unhide hone) ?_
             intro V hV
             have HV : Hid (Box V wr.heap.size 114 cs) := (by
               rw [hV]
               have hp : puts [.int .i64 0, .int .i64 0, .string ⟨#[]⟩, .int .i64 0, .int .i64 0, .int .i64 0, .int .i64 0, .string ⟨#[]⟩, .slice none 0 0, .int .i64 0, .int .i64 0, .string ⟨#[]⟩, .slice none 0 0, .int .i64 0, .int .i64 0, .bool false, .slice none 0 0] 0 cs = cs := puts_all (by rw [unhide hcl]; rfl)
               have := Box.sets cs 0 _ _ (unhide HZ)
               rw [hp] at this
               exact this)
             have HBV : Hid (Below wr.heap.size wr V) := (by rw [hV]; exact setsG (abG _) (Nat.le_refl _))
             clear hV HZ)
          | (refine wpList_load_box rfl _ rfl wr.heap.size 0 cs (unhide HV) (fun j v hj => (by rw [Nat.zero_add]; exact hj)) rfl Tryz.underlying114 rfl (by rw [unhide hcl]; exact infoITa) ?_))
          refine (unhide HFX _ (unhide HBV)).mono ?_
          rintro e w3 ⟨rfl, hb3⟩
          have HB3 := hide (btG (btG (unhide HBr) (unhide HBV)) hb3)
          clear hb3
          go_wp2_with fail
          go_roundw
          case rel => exact ⟨k + 1, rfl, unhide HB3, by omega, unhide HM (by first | rfl | trivial)⟩
          case measure => simp only [intOf]; omega
        | false =>
          go_wp2_with (first
          | (refine wpList_load_mid rfl _ _ rfl b (o + k * 17) rfl cs _ (unhide HR) Tryz.underlying114 rfl (by rw [unhide hcl]; exact infoITa) ?_)
          | (refine wpList_store_box rfl _ _ rfl wr.heap.size 0 cs (unhide HZ) (by rw [unhide hcl]; exact Nat.le_refl _) rfl rfl (by rw [unhide hcl]; exact infoITa) (unhide hone) ?_
             intro V hV
             have HV : Hid (Box V wr.heap.size 114 cs) := (by
               rw [hV]
               have hp : puts [.int .i64 0, .int .i64 0, .string ⟨#[]⟩, .int .i64 0, .int .i64 0, .int .i64 0, .int .i64 0, .string ⟨#[]⟩, .slice none 0 0, .int .i64 0, .int .i64 0, .string ⟨#[]⟩, .slice none 0 0, .int .i64 0, .int .i64 0, .bool false, .slice none 0 0] 0 cs = cs := puts_all (by rw [unhide hcl]; rfl)
               have := Box.sets cs 0 _ _ (unhide HZ)
               rw [hp] at this
               exact this)
             have HBV : Hid (Below wr.heap.size wr V) := (by rw [hV]; exact setsG (abG _) (Nat.le_refl _))
             clear hV HZ)
          | (refine wpList_load_box rfl _ rfl wr.heap.size 0 cs (unhide HV) (fun j v hj => (by rw [Nat.zero_add]; exact hj)) rfl Tryz.underlying114 rfl (by rw [unhide hcl]; exact infoITa) ?_))
          refine (unhide HFX _ (unhide HBV)).mono ?_
          rintro e w3 ⟨rfl, hb3⟩
          have HB3 := hide (btG (btG (unhide HBr) (unhide HBV)) hb3)
          clear hb3
          go_wp2_with fail
          go_ret
          exact ⟨retB ((unhide HE).trans (unhide HN (by first | rfl | trivial))), unhide HB3⟩
      · have c2 : ¬ (k : Int) < (len : Int) := by omega
        have HX : Hid (P.all f = true) := List.all_eq_true.2 fun x hx => by
          obtain ⟨j, hj⟩ := List.getElem?_of_mem hx
          exact unhide HA j x (by have := (List.getElem?_eq_some_iff.1 hj).1; have := HL.out; omega) hj
        clear hb
        go_wp2_with fail
        go_ret
        exact ⟨retB ((unhide HE).trans (unhide HX)), unhide HBr⟩

set_option maxRecDepth 100000 in
set_option maxHeartbeats 4000000 in
theorem hoOkI (x : Ho) (cs : List Value) (w : World) (h : hoAt w 0 x cs) (hz : how x ≤ 1048576) :
    Calls Tryz.prog 88 #[.agg cs.toArray] w fun e w' => e = .returned (.bool (hoOk x)) ∧ Below w.heap.size w w' := by
  obtain ⟨name, key, lost⟩ := x
  obtain ⟨rfl, -⟩ := h
  have HC := hide (fun v => hostI name v (by unfold how at hz; simp only at hz; omega))
  have HX := hide (Box.new w 107 [.string name, .int .i64 key, .bool lost])
  show Calls Tryz.prog 88 #[.agg #[.string name, .int .i64 key, .bool lost]] w fun e w' => e = .returned (.bool (hostB name && inB key 0 999)) ∧ Below w.heap.size w w'
  clear hz
  cases hb : hostB name with
  | false =>
    rw [hb] at HC
    clear hb
    go_enter Tryz.func88, Tryz.ntmps88
    go_wp2_with fail
    refine (unhide HC _).mono ?_
    rintro e w2 ⟨rfl, hb2⟩
    have HB2 := hide (btG (abG _) hb2)
    clear hb2
    go_wp2_with fail
    go_ret
    exact ⟨rfl, unhide HB2⟩
  | true =>
    rw [hb] at HC
    clear hb
    rw [Bool.true_and]
    by_cases h1 : 0 ≤ key
    · by_cases h2 : key ≤ 999
      · have HE : Hid (inB key 0 999 = true) := decide_eq_true ⟨h1, h2⟩
        generalize inB key 0 999 = r at *
        go_enter Tryz.func88, Tryz.ntmps88
        go_wp2_with fail
        refine (unhide HC _).mono ?_
        rintro e w2 ⟨rfl, hb2⟩
        have c1 : w2.cell? ⟨w.heap.size, 1, none⟩ = some (.int .i64 key) := ((unhide HX).on hb2).cell rfl
        have HB2 := hide (btG (abG _) hb2)
        clear hb2
        go_wp2_with fail
        go_ret
        exact ⟨retB ((unhide HE).trans (by first | rfl | (simp; done) | (simp; omega))), unhide HB2⟩
      · have HE : Hid (inB key 0 999 = false) := decide_eq_false fun q => h2 q.2
        generalize inB key 0 999 = r at *
        go_enter Tryz.func88, Tryz.ntmps88
        go_wp2_with fail
        refine (unhide HC _).mono ?_
        rintro e w2 ⟨rfl, hb2⟩
        have c1 : w2.cell? ⟨w.heap.size, 1, none⟩ = some (.int .i64 key) := ((unhide HX).on hb2).cell rfl
        have HB2 := hide (btG (abG _) hb2)
        clear hb2
        go_wp2_with fail
        go_ret
        exact ⟨retB ((unhide HE).trans (by first | rfl | (simp; done) | (simp; omega))), unhide HB2⟩
    · have HE : Hid (inB key 0 999 = false) := decide_eq_false fun q => h1 q.1
      generalize inB key 0 999 = r at *
      go_enter Tryz.func88, Tryz.ntmps88
      go_wp2_with fail
      refine (unhide HC _).mono ?_
      rintro e w2 ⟨rfl, hb2⟩
      have c1 : w2.cell? ⟨w.heap.size, 1, none⟩ = some (.int .i64 key) := ((unhide HX).on hb2).cell rfl
      have HB2 := hide (btG (abG _) hb2)
      clear hb2
      go_wp2_with fail
      go_ret
      exact ⟨retB ((unhide HE).trans (by first | rfl | (simp; done) | (simp; omega))), unhide HB2⟩

set_option maxRecDepth 100000 in
set_option maxHeartbeats 4000000 in
theorem thereI (k n : Int) (w : World) : Calls Tryz.prog 130 #[.agg #[.int .i64 k, .int .i64 n]] w fun e w' => e = .returned (.bool (inB k 0 (n - 1))) ∧ Below w.heap.size w w' := by
  by_cases h1 : 0 ≤ k
  · by_cases h2 : k < n
    · have HE : Hid (inB k 0 (n - 1) = true) := decide_eq_true ⟨h1, by omega⟩
      generalize inB k 0 (n - 1) = r at *
      go_enter Tryz.func130, Tryz.ntmps130
      go_wp2_with fail
      go_ret
      exact ⟨retB ((unhide HE).trans (by first | rfl | (simp; done) | (simp; omega))), abG _⟩
    · have HE : Hid (inB k 0 (n - 1) = false) := decide_eq_false fun q => h2 (by have := q.2; omega)
      generalize inB k 0 (n - 1) = r at *
      go_enter Tryz.func130, Tryz.ntmps130
      go_wp2_with fail
      go_ret
      exact ⟨retB ((unhide HE).trans (by first | rfl | (simp; done) | (simp; omega))), abG _⟩
  · have HE : Hid (inB k 0 (n - 1) = false) := decide_eq_false fun q => h1 q.1
    generalize inB k 0 (n - 1) = r at *
    go_enter Tryz.func130, Tryz.ntmps130
    go_wp2_with fail
    go_ret
    exact ⟨retB ((unhide HE).trans (by first | rfl | (simp; done) | (simp; omega))), abG _⟩

set_option maxRecDepth 100000 in
set_option maxHeartbeats 4000000 in
theorem clrI (x : Cl) (cc : List Value) (k q : Int) (w : World) (h : clAt w 0 x cc) (hz : clw x ≤ 1048576) :
    Calls Tryz.prog 117 #[.agg (.int .i64 k :: .int .i64 q :: cc).toArray] w fun e w' => e = .returned (.bool (inB k 0 (q - 1) && clOk x)) ∧ Below w.heap.size w w' := by
  have h0 := h
  obtain ⟨-, op, n, s, a, len, cap, rfl, -⟩ := h
  show Calls Tryz.prog 117 #[.agg #[.int .i64 k, .int .i64 q, .int .i64 x.st, .string x.h, .bool x.mu, .int .i64 x.ep, .int .i64 x.bo, .int .i64 op, .int .i64 n, .string s, .slice a len cap, .int .i64 x.i, .int .i64 x.o, .bool x.tl, .bool x.pr]] w _
  have HT := hide (fun v => thereI k q v)
  have HX := hide (Box.new w 167 [.int .i64 k, .int .i64 q, .int .i64 x.st, .string x.h, .bool x.mu, .int .i64 x.ep, .int .i64 x.bo, .int .i64 op, .int .i64 n, .string s, .slice a len cap, .int .i64 x.i, .int .i64 x.o, .bool x.tl, .bool x.pr])
  have HC := hide (fun v (hv : Below w.heap.size w v) => clOkI x _ v (clK.on (w := w) (L := 0) (x := x) h0 hv) hz)
  clear h0 hz
  generalize clOk x = rr at *
  generalize inB k 0 (q - 1) = bb at *
  cases bb with
  | false =>
    rw [Bool.false_and]
    go_enter Tryz.func117, Tryz.ntmps117
    go_wp2_with fail
    refine (unhide HT _).mono ?_
    rintro e w2 ⟨rfl, hb2⟩
    have HB2 := hide (btG (abG _) hb2)
    clear hb2
    go_wp2_with fail
    go_ret
    exact ⟨rfl, unhide HB2⟩
  | true =>
    rw [Bool.true_and]
    go_enter Tryz.func117, Tryz.ntmps117
    go_wp2_with fail
    refine (unhide HT _).mono ?_
    rintro e w2 ⟨rfl, hb2⟩
    have HX2 := hide ((unhide HX).on hb2)
    have HB2 := hide (btG (abG _) hb2)
    clear hb2
    have c2 : w2.cell? ⟨w.heap.size, 2, none⟩ = some (.int .i64 x.st) := (unhide HX2).cell rfl
    have c3 : w2.cell? ⟨w.heap.size, 3, none⟩ = some (.string x.h) := (unhide HX2).cell rfl
    have c4 : w2.cell? ⟨w.heap.size, 4, none⟩ = some (.bool x.mu) := (unhide HX2).cell rfl
    have c5 : w2.cell? ⟨w.heap.size, 5, none⟩ = some (.int .i64 x.ep) := (unhide HX2).cell rfl
    have c6 : w2.cell? ⟨w.heap.size, 6, none⟩ = some (.int .i64 x.bo) := (unhide HX2).cell rfl
    have c7 : w2.cell? ⟨w.heap.size, 7, none⟩ = some (.int .i64 op) := (unhide HX2).cell rfl
    have c8 : w2.cell? ⟨w.heap.size, 8, none⟩ = some (.int .i64 n) := (unhide HX2).cell rfl
    have c9 : w2.cell? ⟨w.heap.size, 9, none⟩ = some (.string s) := (unhide HX2).cell rfl
    have c10 : w2.cell? ⟨w.heap.size, 10, none⟩ = some (.slice a len cap) := (unhide HX2).cell rfl
    have c11 : w2.cell? ⟨w.heap.size, 11, none⟩ = some (.int .i64 x.i) := (unhide HX2).cell rfl
    have c12 : w2.cell? ⟨w.heap.size, 12, none⟩ = some (.int .i64 x.o) := (unhide HX2).cell rfl
    have c13 : w2.cell? ⟨w.heap.size, 13, none⟩ = some (.bool x.tl) := (unhide HX2).cell rfl
    have c14 : w2.cell? ⟨w.heap.size, 14, none⟩ = some (.bool x.pr) := (unhide HX2).cell rfl
    go_wp2_with fail
    refine (unhide HC _ (unhide HB2)).mono ?_
    rintro e w3 ⟨rfl, hb3⟩
    have HB3 := hide (btG (unhide HB2) hb3)
    clear hb3
    go_wp2_with fail
    go_ret
    exact ⟨rfl, unhide HB3⟩

set_option maxRecDepth 100000 in
set_option maxHeartbeats 4000000 in
theorem tkrI (x : Sv) (cc : List Value) (k q : Int) (w : World) (h : svAt w 0 x cc) (hz : svw x ≤ 1048576) :
    Calls Tryz.prog 118 #[.agg (.int .i64 k :: .int .i64 q :: cc).toArray] w fun e w' => e = .returned (.bool (inB k 0 (q - 1) && svOk x)) ∧ Below w.heap.size w w' := by
  have h0 := h
  obtain ⟨-, -, op, n, s, a, len, cap, oq, m, r, c, lem, cat, g, gc, rfl, -⟩ := h
  show Calls Tryz.prog 118 #[.agg #[.int .i64 k, .int .i64 q, .int .i64 x.st, .string x.h, .int .i64 x.ke, .int .i64 x.ep, .int .i64 op, .int .i64 n, .string s, .slice a len cap, .int .i64 oq, .int .i64 m, .string r, .slice c lem cat, .int .i64 x.i, .int .i64 x.o, .bool x.tl, .slice g x.l.length gc]] w _
  have HT := hide (fun v => thereI k q v)
  have HX := hide (Box.new w 169 [.int .i64 k, .int .i64 q, .int .i64 x.st, .string x.h, .int .i64 x.ke, .int .i64 x.ep, .int .i64 op, .int .i64 n, .string s, .slice a len cap, .int .i64 oq, .int .i64 m, .string r, .slice c lem cat, .int .i64 x.i, .int .i64 x.o, .bool x.tl, .slice g x.l.length gc])
  have HC := hide (fun v (hv : Below w.heap.size w v) => svOkI x _ v (svK.on (w := w) (L := 0) (x := x) h0 hv) hz)
  clear h0 hz
  generalize svOk x = rr at *
  generalize inB k 0 (q - 1) = bb at *
  cases bb with
  | false =>
    rw [Bool.false_and]
    go_enter Tryz.func118, Tryz.ntmps118
    go_wp2_with fail
    refine (unhide HT _).mono ?_
    rintro e w2 ⟨rfl, hb2⟩
    have HB2 := hide (btG (abG _) hb2)
    clear hb2
    go_wp2_with fail
    go_ret
    exact ⟨rfl, unhide HB2⟩
  | true =>
    rw [Bool.true_and]
    go_enter Tryz.func118, Tryz.ntmps118
    go_wp2_with fail
    refine (unhide HT _).mono ?_
    rintro e w2 ⟨rfl, hb2⟩
    have HX2 := hide ((unhide HX).on hb2)
    have HB2 := hide (btG (abG _) hb2)
    clear hb2
    have c2 : w2.cell? ⟨w.heap.size, 2, none⟩ = some (.int .i64 x.st) := (unhide HX2).cell rfl
    have c3 : w2.cell? ⟨w.heap.size, 3, none⟩ = some (.string x.h) := (unhide HX2).cell rfl
    have c4 : w2.cell? ⟨w.heap.size, 4, none⟩ = some (.int .i64 x.ke) := (unhide HX2).cell rfl
    have c5 : w2.cell? ⟨w.heap.size, 5, none⟩ = some (.int .i64 x.ep) := (unhide HX2).cell rfl
    have c6 : w2.cell? ⟨w.heap.size, 6, none⟩ = some (.int .i64 op) := (unhide HX2).cell rfl
    have c7 : w2.cell? ⟨w.heap.size, 7, none⟩ = some (.int .i64 n) := (unhide HX2).cell rfl
    have c8 : w2.cell? ⟨w.heap.size, 8, none⟩ = some (.string s) := (unhide HX2).cell rfl
    have c9 : w2.cell? ⟨w.heap.size, 9, none⟩ = some (.slice a len cap) := (unhide HX2).cell rfl
    have c10 : w2.cell? ⟨w.heap.size, 10, none⟩ = some (.int .i64 oq) := (unhide HX2).cell rfl
    have c11 : w2.cell? ⟨w.heap.size, 11, none⟩ = some (.int .i64 m) := (unhide HX2).cell rfl
    have c12 : w2.cell? ⟨w.heap.size, 12, none⟩ = some (.string r) := (unhide HX2).cell rfl
    have c13 : w2.cell? ⟨w.heap.size, 13, none⟩ = some (.slice c lem cat) := (unhide HX2).cell rfl
    have c14 : w2.cell? ⟨w.heap.size, 14, none⟩ = some (.int .i64 x.i) := (unhide HX2).cell rfl
    have c15 : w2.cell? ⟨w.heap.size, 15, none⟩ = some (.int .i64 x.o) := (unhide HX2).cell rfl
    have c16 : w2.cell? ⟨w.heap.size, 16, none⟩ = some (.bool x.tl) := (unhide HX2).cell rfl
    have c17 : w2.cell? ⟨w.heap.size, 17, none⟩ = some (.slice g x.l.length gc) := (unhide HX2).cell rfl
    go_wp2_with fail
    refine (unhide HC _ (unhide HB2)).mono ?_
    rintro e w3 ⟨rfl, hb3⟩
    have HB3 := hide (btG (unhide HB2) hb3)
    clear hb3
    go_wp2_with fail
    go_ret
    exact ⟨rfl, unhide HB3⟩

set_option maxRecDepth 100000 in
set_option maxHeartbeats 4000000 in
theorem callOkI (X : Wd) (ws0 : List Value) (x : Ca) (cs : List Value) (w : World) (hX : ∃ w0 : World, wdAt w0 0 X ws0) (h : caAt w 0 x cs) (hz : caw x ≤ 1048576) :
    Calls Tryz.prog 93 #[.agg ws0.toArray, .agg cs.toArray] w fun e w' => e = .returned (.bool (caOk X.letters.length x)) ∧ Below w.heap.size w w' := by
  obtain ⟨w0, -, ak0, ck0, ac0, cc0, ah0, ch0, al0, cl0, aa0, ca0, az0, cz0, ai0, ci0, rfl, -⟩ := hX
  obtain ⟨cc, rfl, hc⟩ := h
  have hc0 := hc
  obtain ⟨-, op, n, s, a, len, cap, rfl, -⟩ := hc
  show Calls Tryz.prog 93 #[.agg #[.int .i64 X.time, .int .i64 X.fresh, .slice ak0 X.known.length ck0, .slice ac0 X.cache.length cc0, .slice ah0 X.hosts.length ch0, .slice al0 X.letters.length cl0, .string X.book, .int .i64 X.sure, .slice aa0 X.calls.length ca0, .slice az0 X.talks.length cz0, .slice ai0 X.told.length ci0], .agg #[.int .i64 x.k, .int .i64 x.c.st, .string x.c.h, .bool x.c.mu, .int .i64 x.c.ep, .int .i64 x.c.bo, .int .i64 op, .int .i64 n, .string s, .slice a len cap, .int .i64 x.c.i, .int .i64 x.c.o, .bool x.c.tl, .bool x.c.pr, .bool x.g]] w _
  have hb0 : Below w.heap.size w ((w.alloc (.cells #[.int .i64 X.time, .int .i64 X.fresh, .slice ak0 X.known.length ck0, .slice ac0 X.cache.length cc0, .slice ah0 X.hosts.length ch0, .slice al0 X.letters.length cl0, .string X.book, .int .i64 X.sure, .slice aa0 X.calls.length ca0, .slice az0 X.talks.length cz0, .slice ai0 X.told.length ci0] 40)).alloc (.cells #[.int .i64 x.k, .int .i64 x.c.st, .string x.c.h, .bool x.c.mu, .int .i64 x.c.ep, .int .i64 x.c.bo, .int .i64 op, .int .i64 n, .string s, .slice a len cap, .int .i64 x.c.i, .int .i64 x.c.o, .bool x.c.tl, .bool x.c.pr, .bool x.g] 56)) := btG (abG _) (abG _)
  have HX : Hid (Box ((w.alloc (.cells #[.int .i64 X.time, .int .i64 X.fresh, .slice ak0 X.known.length ck0, .slice ac0 X.cache.length cc0, .slice ah0 X.hosts.length ch0, .slice al0 X.letters.length cl0, .string X.book, .int .i64 X.sure, .slice aa0 X.calls.length ca0, .slice az0 X.talks.length cz0, .slice ai0 X.told.length ci0] 40)).alloc (.cells #[.int .i64 x.k, .int .i64 x.c.st, .string x.c.h, .bool x.c.mu, .int .i64 x.c.ep, .int .i64 x.c.bo, .int .i64 op, .int .i64 n, .string s, .slice a len cap, .int .i64 x.c.i, .int .i64 x.c.o, .bool x.c.tl, .bool x.c.pr, .bool x.g] 56)) (w.heap.size + 1) 56 [.int .i64 x.k, .int .i64 x.c.st, .string x.c.h, .bool x.c.mu, .int .i64 x.c.ep, .int .i64 x.c.bo, .int .i64 op, .int .i64 n, .string s, .slice a len cap, .int .i64 x.c.i, .int .i64 x.c.o, .bool x.c.tl, .bool x.c.pr, .bool x.g]) := by
    have := Box.new (w.alloc (.cells #[.int .i64 X.time, .int .i64 X.fresh, .slice ak0 X.known.length ck0, .slice ac0 X.cache.length cc0, .slice ah0 X.hosts.length ch0, .slice al0 X.letters.length cl0, .string X.book, .int .i64 X.sure, .slice aa0 X.calls.length ca0, .slice az0 X.talks.length cz0, .slice ai0 X.told.length ci0] 40)) 56 [.int .i64 x.k, .int .i64 x.c.st, .string x.c.h, .bool x.c.mu, .int .i64 x.c.ep, .int .i64 x.c.bo, .int .i64 op, .int .i64 n, .string s, .slice a len cap, .int .i64 x.c.i, .int .i64 x.c.o, .bool x.c.tl, .bool x.c.pr, .bool x.g]
    rwa [heap_size_alloc] at this
  have HC : Hid (∀ q : Int, q = (X.letters.length : Int) → Calls Tryz.prog _ #[.agg #[.int .i64 x.k, .int .i64 q, .int .i64 x.c.st, .string x.c.h, .bool x.c.mu, .int .i64 x.c.ep, .int .i64 x.c.bo, .int .i64 op, .int .i64 n, .string s, .slice a len cap, .int .i64 x.c.i, .int .i64 x.c.o, .bool x.c.tl, .bool x.c.pr]] ((w.alloc (.cells #[.int .i64 X.time, .int .i64 X.fresh, .slice ak0 X.known.length ck0, .slice ac0 X.cache.length cc0, .slice ah0 X.hosts.length ch0, .slice al0 X.letters.length cl0, .string X.book, .int .i64 X.sure, .slice aa0 X.calls.length ca0, .slice az0 X.talks.length cz0, .slice ai0 X.told.length ci0] 40)).alloc (.cells #[.int .i64 x.k, .int .i64 x.c.st, .string x.c.h, .bool x.c.mu, .int .i64 x.c.ep, .int .i64 x.c.bo, .int .i64 op, .int .i64 n, .string s, .slice a len cap, .int .i64 x.c.i, .int .i64 x.c.o, .bool x.c.tl, .bool x.c.pr, .bool x.g] 56)) fun e w' => e = .returned (.bool (caOk X.letters.length x)) ∧ Below ((w.alloc (.cells #[.int .i64 X.time, .int .i64 X.fresh, .slice ak0 X.known.length ck0, .slice ac0 X.cache.length cc0, .slice ah0 X.hosts.length ch0, .slice al0 X.letters.length cl0, .string X.book, .int .i64 X.sure, .slice aa0 X.calls.length ca0, .slice az0 X.talks.length cz0, .slice ai0 X.told.length ci0] 40)).alloc (.cells #[.int .i64 x.k, .int .i64 x.c.st, .string x.c.h, .bool x.c.mu, .int .i64 x.c.ep, .int .i64 x.c.bo, .int .i64 op, .int .i64 n, .string s, .slice a len cap, .int .i64 x.c.i, .int .i64 x.c.o, .bool x.c.tl, .bool x.c.pr, .bool x.g] 56)).heap.size ((w.alloc (.cells #[.int .i64 X.time, .int .i64 X.fresh, .slice ak0 X.known.length ck0, .slice ac0 X.cache.length cc0, .slice ah0 X.hosts.length ch0, .slice al0 X.letters.length cl0, .string X.book, .int .i64 X.sure, .slice aa0 X.calls.length ca0, .slice az0 X.talks.length cz0, .slice ai0 X.told.length ci0] 40)).alloc (.cells #[.int .i64 x.k, .int .i64 x.c.st, .string x.c.h, .bool x.c.mu, .int .i64 x.c.ep, .int .i64 x.c.bo, .int .i64 op, .int .i64 n, .string s, .slice a len cap, .int .i64 x.c.i, .int .i64 x.c.o, .bool x.c.tl, .bool x.c.pr, .bool x.g] 56)) w') := fun q hq => by
    subst hq
    exact clrI x.c _ x.k _ _ (clK.on (w := w) (L := 0) (x := x.c) hc0 hb0) hz
  have HB0 := hide hb0
  clear hb0 hc0 hz
  generalize caOk X.letters.length x = r at *
  go_enter Tryz.func93, Tryz.ntmps93
  go_wp2_with fail
  refine (unhide HC _ rfl).mono ?_
  rintro e w2 ⟨rfl, hb2⟩
  have HB2 := hide (btG (unhide HB0) hb2)
  clear hb2
  go_wp2_with fail
  go_ret
  exact ⟨rfl, unhide HB2⟩

set_option maxRecDepth 100000 in
set_option maxHeartbeats 4000000 in
theorem talkOkI (X : Wd) (ws0 : List Value) (x : Ta) (cs : List Value) (w : World) (hX : ∃ w0 : World, wdAt w0 0 X ws0) (h : taAt w 0 x cs) (hz : taw x ≤ 1048576) :
    Calls Tryz.prog 95 #[.agg ws0.toArray, .agg cs.toArray] w fun e w' => e = .returned (.bool (taOk X.hosts.length x)) ∧ Below w.heap.size w w' := by
  obtain ⟨w0, -, ak0, ck0, ac0, cc0, ah0, ch0, al0, cl0, aa0, ca0, az0, cz0, ai0, ci0, rfl, -⟩ := hX
  obtain ⟨cc, rfl, hc⟩ := h
  have hc0 := hc
  obtain ⟨-, -, op, n, s, a, len, cap, oq, m, r, c, lem, cat, g, gc, rfl, -⟩ := hc
  show Calls Tryz.prog 95 #[.agg #[.int .i64 X.time, .int .i64 X.fresh, .slice ak0 X.known.length ck0, .slice ac0 X.cache.length cc0, .slice ah0 X.hosts.length ch0, .slice al0 X.letters.length cl0, .string X.book, .int .i64 X.sure, .slice aa0 X.calls.length ca0, .slice az0 X.talks.length cz0, .slice ai0 X.told.length ci0], .agg #[.int .i64 x.k, .int .i64 x.s.st, .string x.s.h, .int .i64 x.s.ke, .int .i64 x.s.ep, .int .i64 op, .int .i64 n, .string s, .slice a len cap, .int .i64 oq, .int .i64 m, .string r, .slice c lem cat, .int .i64 x.s.i, .int .i64 x.s.o, .bool x.s.tl, .slice g x.s.l.length gc]] w _
  have hb0 : Below w.heap.size w ((w.alloc (.cells #[.int .i64 X.time, .int .i64 X.fresh, .slice ak0 X.known.length ck0, .slice ac0 X.cache.length cc0, .slice ah0 X.hosts.length ch0, .slice al0 X.letters.length cl0, .string X.book, .int .i64 X.sure, .slice aa0 X.calls.length ca0, .slice az0 X.talks.length cz0, .slice ai0 X.told.length ci0] 40)).alloc (.cells #[.int .i64 x.k, .int .i64 x.s.st, .string x.s.h, .int .i64 x.s.ke, .int .i64 x.s.ep, .int .i64 op, .int .i64 n, .string s, .slice a len cap, .int .i64 oq, .int .i64 m, .string r, .slice c lem cat, .int .i64 x.s.i, .int .i64 x.s.o, .bool x.s.tl, .slice g x.s.l.length gc] 114)) := btG (abG _) (abG _)
  have HX : Hid (Box ((w.alloc (.cells #[.int .i64 X.time, .int .i64 X.fresh, .slice ak0 X.known.length ck0, .slice ac0 X.cache.length cc0, .slice ah0 X.hosts.length ch0, .slice al0 X.letters.length cl0, .string X.book, .int .i64 X.sure, .slice aa0 X.calls.length ca0, .slice az0 X.talks.length cz0, .slice ai0 X.told.length ci0] 40)).alloc (.cells #[.int .i64 x.k, .int .i64 x.s.st, .string x.s.h, .int .i64 x.s.ke, .int .i64 x.s.ep, .int .i64 op, .int .i64 n, .string s, .slice a len cap, .int .i64 oq, .int .i64 m, .string r, .slice c lem cat, .int .i64 x.s.i, .int .i64 x.s.o, .bool x.s.tl, .slice g x.s.l.length gc] 114)) (w.heap.size + 1) 114 [.int .i64 x.k, .int .i64 x.s.st, .string x.s.h, .int .i64 x.s.ke, .int .i64 x.s.ep, .int .i64 op, .int .i64 n, .string s, .slice a len cap, .int .i64 oq, .int .i64 m, .string r, .slice c lem cat, .int .i64 x.s.i, .int .i64 x.s.o, .bool x.s.tl, .slice g x.s.l.length gc]) := by
    have := Box.new (w.alloc (.cells #[.int .i64 X.time, .int .i64 X.fresh, .slice ak0 X.known.length ck0, .slice ac0 X.cache.length cc0, .slice ah0 X.hosts.length ch0, .slice al0 X.letters.length cl0, .string X.book, .int .i64 X.sure, .slice aa0 X.calls.length ca0, .slice az0 X.talks.length cz0, .slice ai0 X.told.length ci0] 40)) 114 [.int .i64 x.k, .int .i64 x.s.st, .string x.s.h, .int .i64 x.s.ke, .int .i64 x.s.ep, .int .i64 op, .int .i64 n, .string s, .slice a len cap, .int .i64 oq, .int .i64 m, .string r, .slice c lem cat, .int .i64 x.s.i, .int .i64 x.s.o, .bool x.s.tl, .slice g x.s.l.length gc]
    rwa [heap_size_alloc] at this
  have HC : Hid (∀ q : Int, q = (X.hosts.length : Int) → Calls Tryz.prog _ #[.agg #[.int .i64 x.k, .int .i64 q, .int .i64 x.s.st, .string x.s.h, .int .i64 x.s.ke, .int .i64 x.s.ep, .int .i64 op, .int .i64 n, .string s, .slice a len cap, .int .i64 oq, .int .i64 m, .string r, .slice c lem cat, .int .i64 x.s.i, .int .i64 x.s.o, .bool x.s.tl, .slice g x.s.l.length gc]] ((w.alloc (.cells #[.int .i64 X.time, .int .i64 X.fresh, .slice ak0 X.known.length ck0, .slice ac0 X.cache.length cc0, .slice ah0 X.hosts.length ch0, .slice al0 X.letters.length cl0, .string X.book, .int .i64 X.sure, .slice aa0 X.calls.length ca0, .slice az0 X.talks.length cz0, .slice ai0 X.told.length ci0] 40)).alloc (.cells #[.int .i64 x.k, .int .i64 x.s.st, .string x.s.h, .int .i64 x.s.ke, .int .i64 x.s.ep, .int .i64 op, .int .i64 n, .string s, .slice a len cap, .int .i64 oq, .int .i64 m, .string r, .slice c lem cat, .int .i64 x.s.i, .int .i64 x.s.o, .bool x.s.tl, .slice g x.s.l.length gc] 114)) fun e w' => e = .returned (.bool (taOk X.hosts.length x)) ∧ Below ((w.alloc (.cells #[.int .i64 X.time, .int .i64 X.fresh, .slice ak0 X.known.length ck0, .slice ac0 X.cache.length cc0, .slice ah0 X.hosts.length ch0, .slice al0 X.letters.length cl0, .string X.book, .int .i64 X.sure, .slice aa0 X.calls.length ca0, .slice az0 X.talks.length cz0, .slice ai0 X.told.length ci0] 40)).alloc (.cells #[.int .i64 x.k, .int .i64 x.s.st, .string x.s.h, .int .i64 x.s.ke, .int .i64 x.s.ep, .int .i64 op, .int .i64 n, .string s, .slice a len cap, .int .i64 oq, .int .i64 m, .string r, .slice c lem cat, .int .i64 x.s.i, .int .i64 x.s.o, .bool x.s.tl, .slice g x.s.l.length gc] 114)).heap.size ((w.alloc (.cells #[.int .i64 X.time, .int .i64 X.fresh, .slice ak0 X.known.length ck0, .slice ac0 X.cache.length cc0, .slice ah0 X.hosts.length ch0, .slice al0 X.letters.length cl0, .string X.book, .int .i64 X.sure, .slice aa0 X.calls.length ca0, .slice az0 X.talks.length cz0, .slice ai0 X.told.length ci0] 40)).alloc (.cells #[.int .i64 x.k, .int .i64 x.s.st, .string x.s.h, .int .i64 x.s.ke, .int .i64 x.s.ep, .int .i64 op, .int .i64 n, .string s, .slice a len cap, .int .i64 oq, .int .i64 m, .string r, .slice c lem cat, .int .i64 x.s.i, .int .i64 x.s.o, .bool x.s.tl, .slice g x.s.l.length gc] 114)) w') := fun q hq => by
    subst hq
    exact tkrI x.s _ x.k _ _ (svK.on (w := w) (L := 0) (x := x.s) hc0 hb0) hz
  have HB0 := hide hb0
  clear hb0 hc0 hz
  generalize taOk X.hosts.length x = r at *
  go_enter Tryz.func95, Tryz.ntmps95
  go_wp2_with fail
  refine (unhide HC _ rfl).mono ?_
  rintro e w2 ⟨rfl, hb2⟩
  have HB2 := hide (btG (unhide HB0) hb2)
  clear hb2
  go_wp2_with fail
  go_ret
  exact ⟨rfl, unhide HB2⟩

open Classical in
set_option maxRecDepth 100000 in
set_option maxHeartbeats 4000000 in
theorem namedI (P : List Ho) (a : Option Addr) (cap : Nat) (w : World) (hl : hoK.Ls w 0 a P) (hsz : P.length ≤ 1048576) :
    Calls Tryz.prog 89 #[.slice a P.length cap] w fun e w' => e = .returned (.bool (onceB P)) ∧ Below w.heap.size w w' := by
  have HT := hide hl
  have HC := hide (fun n v hv => hostNamedI P a cap n v hv (by omega))
  clear hl
  generalize hlen : P.length = len at *
  have HL := hide hlen
  clear hlen
  have HE : Hid ((onceP P len → onceB P = true) ∧ (¬ onceP P len → onceB P = false)) := by have := unhide HL; subst this; exact ⟨fun h => decide_eq_true h, fun h => decide_eq_false h⟩
  generalize onceB P = r at *
  go_enter Tryz.func89, Tryz.ntmps89
  go_wp2_with fail
  go_loopw [7] (fun i wr => ∃ k : Nat, i = .int .i64 k ∧ Below w.heap.size w wr ∧ k ≤ len ∧ onceP P k) (fun i _ => len - (intOf i).toNat)
  case atStart => exact ⟨0, rfl, Below.refl _ _, by omega, fun i x hi => by omega⟩
  case round =>
    obtain ⟨k, rfl, hb, hk, ha⟩ := hrel
    have HBr := hide hb
    have HA := hide ha
    clear ha
    by_cases hp : k < len
    · have hp' : k < P.length := by have := HL.out; omega
      obtain ⟨x, hkx⟩ : ∃ x, P[k]? = some x := ⟨_, List.getElem?_eq_getElem hp'⟩
      obtain ⟨b, o, cs, rfl, -, -, HR0, HT2, -⟩ := ((unhide HT).on hb).get hkx
      obtain ⟨rfl, -⟩ := HT2
      obtain ⟨nm, key, lost⟩ := x
      have c0 : wr.cell? ⟨b, o + k * 3, none⟩ = some (.string nm) := HR0 0 _ rfl
      have c1 : wr.cell? ⟨b, o + k * 3 + 1, none⟩ = some (.int .i64 key) := HR0 1 _ rfl
      have c2 : wr.cell? ⟨b, o + k * 3 + 2, none⟩ = some (.bool lost) := HR0 2 _ rfl
      have hbz := abG (w := wr) (.cells #[.string nm, .int .i64 key, .bool lost] 107)
      have HCX := hide (unhide HC nm _ ((unhide HT).on (btG hb hbz)))
      have HBz := hide (btG hb hbz)
      have HF := hide (hnm_first hkx)
      have q2 : (k : Int) < (len : Int) := by omega
      have q3 : (0 : Int) ≤ (k : Int) := by omega
      have w1 : wrap64 ((k : Int) + 1) = ((k + 1 : Nat) : Int) := by unfold wrap64; omega
      have HK := hide hkx
      clear hkx HR0 hb hbz
      by_cases hx : hnm nm P 0 = (k : Int)
      · have HM : Hid (onceP P (k + 1)) := fun i y hi hy => by
          rcases Nat.lt_or_ge i k with q | q
          · exact unhide HA i y q hy
          · obtain rfl : i = k := by omega
            rw [unhide HK] at hy
            cases hy
            exact (unhide HF).2 hx
        rw [hx] at HCX
        clear hx
        go_wp2_with fail
        refine (unhide HCX).mono ?_
        rintro e w2 ⟨rfl, hb2⟩
        have HB2 := hide (btG (unhide HBz) hb2)
        clear hb2
        go_wp2_with fail
        go_roundw
        case rel => exact ⟨k + 1, rfl, unhide HB2, by omega, unhide HM⟩
        case measure => simp only [intOf]; omega
      · have HM : Hid (r = false) := (unhide HE).2 fun hq => hx ((unhide HF).1 (hq k _ (by omega) (unhide HK)))
        generalize hnm nm P 0 = v at *
        go_wp2_with fail
        refine (unhide HCX).mono ?_
        rintro e w2 ⟨rfl, hb2⟩
        have HB2 := hide (btG (unhide HBz) hb2)
        clear hb2
        go_wp2_with fail
        go_ret
        exact ⟨retB (unhide HM), unhide HB2⟩
    · have c2 : ¬ (k : Int) < (len : Int) := by omega
      have HM : Hid (r = true) := (unhide HE).1 (by have : k = len := by omega
                                                    rw [← this]; exact unhide HA)
      clear hb
      go_wp2_with fail
      go_ret
      exact ⟨retB (unhide HM), unhide HBr⟩

open Classical in
set_option maxRecDepth 100000 in
set_option maxHeartbeats 4000000 in
theorem toldI (l : List Int) (a : Option Addr) (cap : Nat) (w : World) (hl : Ints w 0 a l) (hsz : l.length ≤ 1048576) :
    Calls Tryz.prog 96 #[.slice a l.length cap] w fun e w' => e = .returned (.bool (toldB l)) ∧ Below w.heap.size w w' := by
  have HT := hide hl
  have HC := hide (fun n v => atomI n v)
  clear hl
  generalize hlen : l.length = len at *
  have HL := hide hlen
  clear hlen
  have HE : Hid ((toldP l len → toldB l = true) ∧ (¬ toldP l len → toldB l = false)) := by have := unhide HL; subst this; exact ⟨fun h => decide_eq_true h, fun h => decide_eq_false h⟩
  generalize toldB l = r at *
  go_enter Tryz.func96, Tryz.ntmps96
  go_wp2_with fail
  go_loopw [7] (fun i wr => ∃ k : Nat, i = .int .i64 k ∧ wr = w ∧ k ≤ len ∧ toldP l k) (fun i _ => len - (intOf i).toNat)
  case atStart => exact ⟨0, rfl, rfl, by omega, fun i x hi => by omega⟩
  case round =>
    obtain ⟨k, rfl, rfl, hk, ha⟩ := hrel
    have HA := hide ha
    clear ha
    by_cases hp : k < len
    · have hp' : k < l.length := by have := HL.out; omega
      obtain ⟨x, hkx⟩ : ∃ x, l[k]? = some x := ⟨_, List.getElem?_eq_getElem hp'⟩
      obtain ⟨b, o, rfl, -, c0⟩ := unhide HT k x hkx
      have q2 : (k : Int) < (len : Int) := by omega
      have q3 : (0 : Int) ≤ (k : Int) := by omega
      have w1 : wrap64 ((k : Int) + 1) = ((k + 1 : Nat) : Int) := by unfold wrap64; omega
      have HCX := hide (unhide HC x wr)
      have HK := hide hkx
      clear hkx
      cases hx : inB x 0 1000000 with
      | false =>
        have HM : Hid (r = false) := (unhide HE).2 fun hq => by have := (hq k x (by omega) (unhide HK)).1; rw [hx] at this; cases this
        rw [hx] at HCX
        clear hx
        go_wp2_with fail
        refine (unhide HCX).mono ?_
        rintro e w2 ⟨rfl, rfl⟩
        go_wp2_with fail
        go_ret
        exact ⟨retB (unhide HM), Below.refl _ _⟩
      | true =>
        have HX := hide hx
        rw [hx] at HCX
        clear hx
        by_cases hk0 : k = 0
        · subst hk0
          have HM : Hid (toldP l 1) := fun j y hj hy => by
            obtain rfl : j = 0 := by omega
            rw [unhide HK] at hy
            cases hy
            exact ⟨unhide HX, fun z hz hq => absurd rfl hq⟩
          have c0' : wr.cell? ⟨b, o, none⟩ = some (.int .i64 x) := c0
          clear c0
          go_wp2_with fail
          refine (unhide HCX).mono ?_
          rintro e w2 ⟨rfl, rfl⟩
          go_wp2_with fail
          go_roundw
          case rel => exact ⟨1, by first | rfl | simp, by first | rfl | trivial, by omega, unhide HM⟩
          case measure => simp only [intOf]; simp at hp ⊢; omega
        · obtain ⟨j, hj⟩ : ∃ j, k = j + 1 := ⟨k - 1, by omega⟩
          obtain ⟨y, hjy⟩ : ∃ y, l[j]? = some y := ⟨_, List.getElem?_eq_getElem (by omega)⟩
          obtain ⟨b', o', hbo, -, c1⟩ := unhide HT j y hjy
          cases hbo
          have c1' : wr.cell? ⟨b, o + (k - 1), none⟩ = some (.int .i64 y) := by rw [show k - 1 = j by omega]; exact c1
          have w0 : wrap64 ((k : Int) - 1) = (k : Int) - 1 := by unfold wrap64; omega
          have q4 : (0 : Int) < (k : Int) := by omega
          have q8 : (0 : Int) ≤ (k : Int) - 1 := by omega
          have q9 : (k : Int) - 1 < (len : Int) := by omega
          clear c1
          have q5 : (0 : Int) ≤ (j : Int) := by omega
          have q6 : (j : Int) < (len : Int) := by omega
          have HJ := hide hjy
          have HKJ := hide hj
          have q7 := hide hp
          clear hjy hj hk0
          by_cases hyx : y < x
          · have HM : Hid (toldP l (k + 1)) := fun i z hi hz => by
              rcases Nat.lt_or_ge i k with q | q
              · exact unhide HA i z q hz
              · obtain rfl : i = k := by omega
                rw [unhide HK] at hz
                cases hz
                refine ⟨unhide HX, fun u hu _ => ?_⟩
                rw [show i - 1 = j from by have := unhide HKJ; omega, unhide HJ] at hu
                cases hu
                exact hyx
            have hyx' : ¬ x ≤ y := by omega
            go_wp2_with fail
            refine (unhide HCX).mono ?_
            rintro e w2 ⟨rfl, rfl⟩
            go_wp2_with fail
            go_roundw
            case rel => exact ⟨k + 1, rfl, by first | rfl | trivial, by have := unhide q7; omega, unhide HM⟩
            case measure => have := unhide q7; simp only [intOf]; omega
          · have HM : Hid (r = false) := (unhide HE).2 fun hq => hyx (by
              have := (hq k x (unhide q7) (unhide HK)).2 y (by rw [show k - 1 = j from by have := unhide HKJ; omega]; exact unhide HJ) (by have := unhide HKJ; omega)
              exact this)
            have hyx' : x ≤ y := by omega
            go_wp2_with fail
            refine (unhide HCX).mono ?_
            rintro e w2 ⟨rfl, rfl⟩
            go_wp2_with fail
            go_ret
            exact ⟨retB (unhide HM), Below.refl _ _⟩
    · have c2 : ¬ (k : Int) < (len : Int) := by omega
      have HM : Hid (r = true) := (unhide HE).1 (by have : k = len := by omega
                                                    rw [← this]; exact unhide HA)
      go_wp2_with fail
      go_ret
      exact ⟨retB (unhide HM), Below.refl _ _⟩

end Go.Proofs.YtbohladjahpfcaaGreat
