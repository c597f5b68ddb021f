
/- A world as plain data in memory: its eleven cells, the lists that they lead to; what it weighs. The walk of laws.szWorld: it answers the room that is left when the world's weight is taken, or -1; nothing that was there is written. The walk of laws.toWorld: of whatever world lies in memory it makes the same one in new memory; nothing that was there is written. The walk of laws.eqWorld: of one world that lies in memory twice it answers true; nothing that was there is written. -/
import Derived.Test.YtbbidjckplpaiaaGreatDoorWp
import Derived.Test.YtbbidjckplpaiaaGreatDoorWcs
import Derived.Test.YtbbidjckplpaiaaGreatDoorWts
import Derived.Test.YtbbidjckplpaiaaGreatDoorEq
namespace Go.Proofs.YtbbidjckplpaiaaGreatDoor
open Go.RowKit Go.Deep

/-- No list of it is longer than Go takes one, nor its book. -/
def wdFit (X : Wd) : Prop := X.known.length ≤ maxLen ∧ X.cache.length ≤ maxLen ∧ X.hosts.length ≤ maxLen ∧ X.letters.length ≤ maxLen ∧ X.calls.length ≤ maxLen ∧ X.talks.length ≤ maxLen ∧ X.told.length ≤ maxLen ∧ X.book.size ≤ maxLen
/-- A world lies in memory: these are its cells. -/
def wdAt (w : World) (L : Nat) (X : Wd) (cs : List Value) : Prop := wdFit X ∧ ∃ ak ck ac cc ah ch al cl aa ca az cz ai ci, cs = [.int .i64 X.time, .int .i64 X.fresh, .slice ak X.known.length ck, .slice ac X.cache.length cc, .slice ah X.hosts.length ch, .slice al X.letters.length cl, .string X.book, .int .i64 X.sure, .slice aa X.calls.length ca, .slice az X.talks.length cz, .slice ai X.told.length ci] ∧ tmK.Ls w L ak X.known ∧ poK.Ls w L ac X.cache ∧ hoK.Ls w L ah X.hosts ∧ leK.Ls w L al X.letters ∧ caK.Ls w L aa X.calls ∧ taK.Ls w L az X.talks ∧ Ints w L ai X.told
def wdK : Kd Wd where
  n := 11
  at_ := wdAt
  pos := by omega
  len := by rintro w L X cs ⟨_, ak, ck, ac, cc, ah, ch, al, cl, aa, ca, az, cz, ai, ci, rfl, _⟩; rfl
  one := by rintro w L X cs ⟨_, ak, ck, ac, cc, ah, ch, al, cl, aa, ca, az, cz, ai, ci, rfl, _⟩; simp [Value.oneCell']
  carry := by
    rintro w w' L L' X cs hL hc ⟨h, ak, ck, ac, cc, ah, ch, al, cl, aa, ca, az, cz, ai, ci, rfl, h0, h1, h2, h3, h4, h5, h6⟩
    exact ⟨h, ak, ck, ac, cc, ah, ch, al, cl, aa, ca, az, cz, ai, ci, rfl, h0.carry hL hc, h1.carry hL hc, h2.carry hL hc, h3.carry hL hc, h4.carry hL hc, h5.carry hL hc, h6.carry hL hc⟩
/-- What a world weighs. -/
def ww (X : Wd) : Nat := (X.known.length + Tm.wts X.known) + ((X.cache.length + ws pw X.cache) + ((X.hosts.length + ws how X.hosts) + ((X.letters.length + ws lew X.letters) + (X.book.size + ((X.calls.length + ws caw X.calls) + ((X.talks.length + ws taw X.talks) + (X.told.length)))))))
theorem Ints.set {w : World} {L b j : Nat} {v : Value} {a : Option Addr} {l : List Int} (h : Ints w L a l) (hb : b < L) : Ints (w.setCell ⟨b, j, none⟩ v) L a l := h.carry (Nat.le_refl _) (fun _ _ _ _ => cell_set_other (by omega))
theorem Ints.sets {w : World} {L b j : Nat} {vs : List Value} {a : Option Addr} {l : List Int} (h : Ints w L a l) (hb : b < L) : Ints (w.setCells b j vs) L a l := h.carry (Nat.le_refl _) (fun _ _ _ _ => cell_setCells_far _ _ _ _ _ (by omega))
/-- The lists of terms, as the lists of a kind. -/
theorem szTms (P : List Tm) (a : Option Addr) (cap : Nat) (left : Int) (w : World) (hl : tmK.Ls w 0 a P) (hm : P.length ≤ maxLen) (h0 : 0 ≤ left) (h1 : left ≤ 1048576) :
    Calls Tryz.prog 9 #[.slice a P.length cap, .int .i64 left] w fun e w' => e = .returned (.int .i64 (szv left (P.length + Tm.wts P))) ∧ Below w.heap.size w w' :=
  szS_any P (fun t _ => sz_calls t) a cap left w (tmK_all hl) hm h0 h1
theorem toTms (P : List Tm) (a : Option Addr) (cap : Nat) (w : World) (hl : tmK.Ls w 0 a P) (hsz : P.length + Tm.wts P ≤ 1048576) :
    Calls Tryz.prog 20 #[.slice a P.length cap] w fun e w' => e = .returned (.slice (some ⟨w.heap.size, 0, none⟩) P.length P.length) ∧ tmK.Ls w' w.heap.size (some ⟨w.heap.size, 0, none⟩) P ∧ Below w.heap.size w w' :=
  (toS_any P (fun t _ => to_calls t) a cap w (tmK_all hl) (by have := Tm.sizes_le P; omega)).mono fun _ _ ⟨h1, h2, h3⟩ => ⟨h1, tmK_of h2, h3⟩
theorem eqTms (P : List Tm) (a a' : Option Addr) (c c' : Nat) (w : World) (hl : P.length + Tm.wts P ≤ 1048576) (h : tmK.Ls w 0 a P) (h' : tmK.Ls w 0 a' P) :
    Calls Tryz.prog 29 #[.slice a P.length c, .slice a' P.length c'] w fun e w' => e = .returned (.bool true) ∧ Below w.heap.size w w' :=
  eqS_any P (fun t _ => eq_calls t) a a' c c' w (tmK_all h) (tmK_all h') (by unfold maxLen; omega)
theorem szIs (P : List Int) (a : Option Addr) (cap : Nat) (left : Int) (w : World) (hm : P.length ≤ maxLen) (h0 : 0 ≤ left) (h1 : left ≤ 1048576) :
    Calls Tryz.prog 15 #[.slice a P.length cap, .int .i64 left] w fun e w' => e = .returned (.int .i64 (szv left P.length)) ∧ Below w.heap.size w w' :=
  (szI P a cap left w hm h0 h1).mono fun _ _ ⟨h1, h2⟩ => ⟨h1, by rw [h2]; exact Below.refl _ _⟩

set_option maxRecDepth 100000 in
set_option maxHeartbeats 4000000 in
theorem szWd (X : Wd) (cs : List Value) (l0 : Int) (w : World) (h : wdAt w 0 X cs) (hl0 : 0 ≤ l0) (hl1 : l0 ≤ 1048576) :
    Calls Tryz.prog 4 #[.agg cs.toArray, .int .i64 l0] w fun e w' => e = .returned (.int .i64 (szv l0 (ww X))) ∧ Below w.heap.size w w' := by
  obtain ⟨hfit, ak, ck, ac, cc, ah, ch, al, cl, aa, ca, az, cz, ai, ci, rfl, hy0, hy1, hy2, hy3, hy4, hy5, hy6⟩ := h
  obtain ⟨hm0, hm1, hm2, hm3, hm4, hm5, hm6, hmb⟩ := hfit
  have hb0 : Below w.heap.size w (w.alloc (.cells #[.int .i64 X.time, .int .i64 X.fresh, .slice ak X.known.length ck, .slice ac X.cache.length cc, .slice ah X.hosts.length ch, .slice al X.letters.length cl, .string X.book, .int .i64 X.sure, .slice aa X.calls.length ca, .slice az X.talks.length cz, .slice ai X.told.length ci] 30)) := abG _
  show Calls Tryz.prog 4 #[.agg #[.int .i64 X.time, .int .i64 X.fresh, .slice ak X.known.length ck, .slice ac X.cache.length cc, .slice ah X.hosts.length ch, .slice al X.letters.length cl, .string X.book, .int .i64 X.sure, .slice aa X.calls.length ca, .slice az X.talks.length cz, .slice ai X.told.length ci], .int .i64 l0] w _
  have HX := hide (Box.new w 30 [.int .i64 X.time, .int .i64 X.fresh, .slice ak X.known.length ck, .slice ac X.cache.length cc, .slice ah X.hosts.length ch, .slice al X.letters.length cl, .string X.book, .int .i64 X.sure, .slice aa X.calls.length ca, .slice az X.talks.length cz, .slice ai X.told.length ci])
  have HY0 := hide (hy0.on hb0)
  have HC0 := hide (fun left v hv h0 h1 => szTms X.known ak ck left v hv hm0 h0 h1)
  have HY1 := hide (hy1.on hb0)
  have HC1 := hide (fun left v hv h0 h1 => szPos X.cache ac cc left v hv hm1 h0 h1)
  have HY2 := hide (hy2.on hb0)
  have HC2 := hide (fun left v hv h0 h1 => szHos X.hosts ah ch left v hv hm2 h0 h1)
  have HY3 := hide (hy3.on hb0)
  have HC3 := hide (fun left v hv h0 h1 => szLes X.letters al cl left v hv hm3 h0 h1)
  have HY4 := hide (hy4.on hb0)
  have HC4 := hide (fun left v hv h0 h1 => szCas X.calls aa ca left v hv hm4 h0 h1)
  have HY5 := hide (hy5.on hb0)
  have HC5 := hide (fun left v hv h0 h1 => szTas X.talks az cz left v hv hm5 h0 h1)
  have HC6 := hide (fun left v h0 h1 => szIs X.told ai ci left v hm6 h0 h1)
  have HW : Hid (ww X = (X.known.length + Tm.wts X.known) + ((X.cache.length + ws pw X.cache) + ((X.hosts.length + ws how X.hosts) + ((X.letters.length + ws lew X.letters) + (X.book.size + ((X.calls.length + ws caw X.calls) + ((X.talks.length + ws taw X.talks) + (X.told.length)))))))) := rfl
  generalize ww X = W at *
  generalize (X.known.length + Tm.wts X.known) = q0 at *
  generalize (X.cache.length + ws pw X.cache) = q1 at *
  generalize (X.hosts.length + ws how X.hosts) = q2 at *
  generalize (X.letters.length + ws lew X.letters) = q3 at *
  generalize (X.calls.length + ws caw X.calls) = q4 at *
  generalize (X.talks.length + ws taw X.talks) = q5 at *
  generalize hqb : X.book.size = qb at *
  have HQB := hide hqb
  have hqm : qb ≤ 9223372036854775807 := by unfold maxLen at hmb; omega
  have HQM := hide hqm
  clear hqb hqm hmb
  have HB := hide hb0
  clear hb0 hy0 hy1 hy2 hy3 hy4 hy5 hy6 hm0 hm1 hm2 hm3 hm4 hm5 hm6
  go_enter Tryz.func4, Tryz.ntmps4
  go_wp2_with fail
  refine (unhide HC0 l0 _ (unhide HY0) hl0 hl1).mono ?_
  rintro e w2 ⟨rfl, hb0⟩
  have HB0 := hide (btG (unhide HB) hb0)
  have HX0 := hide ((unhide HX).on hb0)
  replace HY1 := hide ((unhide HY1).on hb0)
  replace HY2 := hide ((unhide HY2).on hb0)
  replace HY3 := hide ((unhide HY3).on hb0)
  replace HY4 := hide ((unhide HY4).on hb0)
  replace HY5 := hide ((unhide HY5).on hb0)
  clear hb0 HB HX 
  by_cases hw0 : (q0 : Int) ≤ l0
  rotate_left
  · have HR : Hid (szv l0 W = -1) := by have e := unhide HW; exact szv_no (by omega)
    rw [szv_no (by omega)]
    go_wp2_with fail
    go_ret
    exact ⟨ret_int (unhide HR).symm, unhide HB0⟩
  rw [szv_yes hw0]
  obtain ⟨r0, hr0⟩ : ∃ r : Int, r = l0 - (q0 : Int) := ⟨_, rfl⟩
  rw [← hr0]
  have HE0 := hide hr0
  have n0 : 0 ≤ r0 := by omega
  have m0 : r0 ≤ 1048576 := by omega
  have nx0 : ¬ r0 < 0 := by omega
  clear hr0 hw0
  have c3 : w2.cell? ⟨w.heap.size, 3, none⟩ = some (.slice ac X.cache.length cc) := (unhide HX0).cell rfl
  go_wp2_with fail
  refine (unhide HC1 r0 _ (unhide HY1) n0 m0).mono ?_
  rintro e w3 ⟨rfl, hb1⟩
  have HB1 := hide (btG (unhide HB0) hb1)
  have HX1 := hide ((unhide HX0).on hb1)
  replace HY2 := hide ((unhide HY2).on hb1)
  replace HY3 := hide ((unhide HY3).on hb1)
  replace HY4 := hide ((unhide HY4).on hb1)
  replace HY5 := hide ((unhide HY5).on hb1)
  clear hb1 HB0 HX0 
  by_cases hw1 : (q1 : Int) ≤ r0
  rotate_left
  · have HR : Hid (szv l0 W = -1) := by have e := unhide HW; have f0 := unhide HE0; exact szv_no (by omega)
    rw [szv_no (by omega)]
    go_wp2_with fail
    go_ret
    exact ⟨ret_int (unhide HR).symm, unhide HB1⟩
  rw [szv_yes hw1]
  obtain ⟨r1, hr1⟩ : ∃ r : Int, r = r0 - (q1 : Int) := ⟨_, rfl⟩
  rw [← hr1]
  have HE1 := hide hr1
  have n1 : 0 ≤ r1 := by omega
  have m1 : r1 ≤ 1048576 := by omega
  have nx1 : ¬ r1 < 0 := by omega
  clear hr1 hw1
  have c4 : w3.cell? ⟨w.heap.size, 4, none⟩ = some (.slice ah X.hosts.length ch) := (unhide HX1).cell rfl
  go_wp2_with fail
  refine (unhide HC2 r1 _ (unhide HY2) n1 m1).mono ?_
  rintro e w4 ⟨rfl, hb2⟩
  have HB2 := hide (btG (unhide HB1) hb2)
  have HX2 := hide ((unhide HX1).on hb2)
  replace HY3 := hide ((unhide HY3).on hb2)
  replace HY4 := hide ((unhide HY4).on hb2)
  replace HY5 := hide ((unhide HY5).on hb2)
  clear hb2 HB1 HX1 
  by_cases hw2 : (q2 : Int) ≤ r1
  rotate_left
  · have HR : Hid (szv l0 W = -1) := by have e := unhide HW; have f0 := unhide HE0; have f1 := unhide HE1; exact szv_no (by omega)
    rw [szv_no (by omega)]
    go_wp2_with fail
    go_ret
    exact ⟨ret_int (unhide HR).symm, unhide HB2⟩
  rw [szv_yes hw2]
  obtain ⟨r2, hr2⟩ : ∃ r : Int, r = r1 - (q2 : Int) := ⟨_, rfl⟩
  rw [← hr2]
  have HE2 := hide hr2
  have n2 : 0 ≤ r2 := by omega
  have m2 : r2 ≤ 1048576 := by omega
  have nx2 : ¬ r2 < 0 := by omega
  clear hr2 hw2
  have c5 : w4.cell? ⟨w.heap.size, 5, none⟩ = some (.slice al X.letters.length cl) := (unhide HX2).cell rfl
  go_wp2_with fail
  refine (unhide HC3 r2 _ (unhide HY3) n2 m2).mono ?_
  rintro e w5 ⟨rfl, hb3⟩
  have HB3 := hide (btG (unhide HB2) hb3)
  have HX3 := hide ((unhide HX2).on hb3)
  replace HY4 := hide ((unhide HY4).on hb3)
  replace HY5 := hide ((unhide HY5).on hb3)
  clear hb3 HB2 HX2 
  by_cases hw3 : (q3 : Int) ≤ r2
  rotate_left
  · have HR : Hid (szv l0 W = -1) := by have e := unhide HW; have f0 := unhide HE0; have f1 := unhide HE1; have f2 := unhide HE2; exact szv_no (by omega)
    rw [szv_no (by omega)]
    go_wp2_with fail
    go_ret
    exact ⟨ret_int (unhide HR).symm, unhide HB3⟩
  rw [szv_yes hw3]
  obtain ⟨r3, hr3⟩ : ∃ r : Int, r = r2 - (q3 : Int) := ⟨_, rfl⟩
  rw [← hr3]
  have HE3 := hide hr3
  have n3 : 0 ≤ r3 := by omega
  have m3 : r3 ≤ 1048576 := by omega
  have nx3 : ¬ r3 < 0 := by omega
  clear hr3 hw3
  have c8 : w5.cell? ⟨w.heap.size, 8, none⟩ = some (.slice aa X.calls.length ca) := (unhide HX3).cell rfl
  have c6 : w5.cell? ⟨w.heap.size, 6, none⟩ = some (.string X.book) := (unhide HX3).cell rfl
  by_cases hwb : r3 - (qb : Int) < 0
  · have wb : wrap64 (r3 - (qb : Int)) = r3 - (qb : Int) := by have := unhide HQM; unfold wrap64; omega
    have HR : Hid (szv l0 W = -1) := by have e := unhide HW; have f0 := unhide HE0; have f1 := unhide HE1; have f2 := unhide HE2; have f3 := unhide HE3; exact szv_no (by omega)
    have hqb := unhide HQB
    go_wp2_with fail
    go_ret
    exact ⟨ret_int (unhide HR).symm, unhide HB3⟩
  · obtain ⟨rb, hrb⟩ : ∃ rb : Int, rb = r3 - (qb : Int) := ⟨_, rfl⟩
    have wb : wrap64 (r3 - (qb : Int)) = rb := by rw [hrb]; have := unhide HQM; unfold wrap64; omega
    have HEb := hide hrb
    have nb : 0 ≤ rb := by omega
    have mb : rb ≤ 1048576 := by omega
    clear hrb hwb
    have hqb := unhide HQB
    have nbx : ¬ rb < 0 := by omega
    go_wp2_with fail
    refine (unhide HC4 rb _ (unhide HY4) nb mb).mono ?_
    rintro e w6 ⟨rfl, hb4⟩
    have HB4 := hide (btG (unhide HB3) hb4)
    have HX4 := hide ((unhide HX3).on hb4)
    replace HY5 := hide ((unhide HY5).on hb4)
    clear hb4 HB3 HX3 
    by_cases hw4 : (q4 : Int) ≤ rb
    rotate_left
    · have HR : Hid (szv l0 W = -1) := by have e := unhide HW; have f0 := unhide HE0; have f1 := unhide HE1; have f2 := unhide HE2; have f3 := unhide HE3; have fb := unhide HEb; exact szv_no (by omega)
      rw [szv_no (by omega)]
      go_wp2_with fail
      go_ret
      exact ⟨ret_int (unhide HR).symm, unhide HB4⟩
    rw [szv_yes hw4]
    obtain ⟨r4, hr4⟩ : ∃ r : Int, r = rb - (q4 : Int) := ⟨_, rfl⟩
    rw [← hr4]
    have HE4 := hide hr4
    have n4 : 0 ≤ r4 := by omega
    have m4 : r4 ≤ 1048576 := by omega
    have nx4 : ¬ r4 < 0 := by omega
    clear hr4 hw4
    have c9 : w6.cell? ⟨w.heap.size, 9, none⟩ = some (.slice az X.talks.length cz) := (unhide HX4).cell rfl
    go_wp2_with fail
    refine (unhide HC5 r4 _ (unhide HY5) n4 m4).mono ?_
    rintro e w7 ⟨rfl, hb5⟩
    have HB5 := hide (btG (unhide HB4) hb5)
    have HX5 := hide ((unhide HX4).on hb5)
    clear hb5 HB4 HX4 
    by_cases hw5 : (q5 : Int) ≤ r4
    rotate_left
    · have HR : Hid (szv l0 W = -1) := by have e := unhide HW; have f0 := unhide HE0; have f1 := unhide HE1; have f2 := unhide HE2; have f3 := unhide HE3; have fb := unhide HEb; have f4 := unhide HE4; exact szv_no (by omega)
      rw [szv_no (by omega)]
      go_wp2_with fail
      go_ret
      exact ⟨ret_int (unhide HR).symm, unhide HB5⟩
    rw [szv_yes hw5]
    obtain ⟨r5, hr5⟩ : ∃ r : Int, r = r4 - (q5 : Int) := ⟨_, rfl⟩
    rw [← hr5]
    have HE5 := hide hr5
    have n5 : 0 ≤ r5 := by omega
    have m5 : r5 ≤ 1048576 := by omega
    have nx5 : ¬ r5 < 0 := by omega
    clear hr5 hw5
    have c10 : w7.cell? ⟨w.heap.size, 10, none⟩ = some (.slice ai X.told.length ci) := (unhide HX5).cell rfl
    go_wp2_with fail
    refine (unhide HC6 r5 _ n5 m5).mono ?_
    rintro e w8 ⟨rfl, hb6⟩
    have HB6 := hide (btG (unhide HB5) hb6)
    have HX6 := hide ((unhide HX5).on hb6)
    clear hb6 HB5 HX5 
    by_cases hw6 : (X.told.length : Int) ≤ r5
    rotate_left
    · have HR : Hid (szv l0 W = -1) := by have e := unhide HW; have f0 := unhide HE0; have f1 := unhide HE1; have f2 := unhide HE2; have f3 := unhide HE3; have fb := unhide HEb; have f4 := unhide HE4; have f5 := unhide HE5; exact szv_no (by omega)
      rw [szv_no (by omega)]
      go_wp2_with fail
      go_ret
      exact ⟨ret_int (unhide HR).symm, unhide HB6⟩
    rw [szv_yes hw6]
    obtain ⟨r6, hr6⟩ : ∃ r : Int, r = r5 - (X.told.length : Int) := ⟨_, rfl⟩
    rw [← hr6]
    have HE6 := hide hr6
    have n6 : 0 ≤ r6 := by omega
    have m6 : r6 ≤ 1048576 := by omega
    have nx6 : ¬ r6 < 0 := by omega
    clear hr6 hw6
    have HR : Hid (szv l0 W = r6) := by have e := unhide HW; have f0 := unhide HE0; have f1 := unhide HE1; have f2 := unhide HE2; have f3 := unhide HE3; have fb := unhide HEb; have f4 := unhide HE4; have f5 := unhide HE5; have f6 := unhide HE6; show _ = _; rw [szv_yes (by omega)]; omega
    go_wp2_with fail
    go_ret
    exact ⟨ret_int (unhide HR).symm, unhide HB6⟩

theorem infoW : (Tryz.prog.info? 40).map (·.size) = some 11 := by kernel_rfl

set_option maxRecDepth 100000 in
set_option maxHeartbeats 4000000 in
theorem toWd (X : Wd) (cs : List Value) (w : World) (h : wdAt w 0 X cs) (hz : ww X ≤ 1048576) :
    Calls Tryz.prog 6 #[.agg cs.toArray] w fun e w' => ∃ ct, e = .returned (.agg ct.toArray) ∧ wdAt w' w.heap.size X ct ∧ Below w.heap.size w w' := by
  obtain ⟨hfit, ak, ck, ac, cc, ah, ch, al, cl, aa, ca, az, cz, ai, ci, rfl, hy0, hy1, hy2, hy3, hy4, hy5, hy6⟩ := h
  have HFT := hide hfit
  show Calls Tryz.prog 6 #[.agg #[.int .i64 X.time, .int .i64 X.fresh, .slice ak X.known.length ck, .slice ac X.cache.length cc, .slice ah X.hosts.length ch, .slice al X.letters.length cl, .string X.book, .int .i64 X.sure, .slice aa X.calls.length ca, .slice az X.talks.length cz, .slice ai X.told.length ci]] w _
  have hb0 : Below w.heap.size w (((w.alloc (.cells #[.int .i64 X.time, .int .i64 X.fresh, .slice ak X.known.length ck, .slice ac X.cache.length cc, .slice ah X.hosts.length ch, .slice al X.letters.length cl, .string X.book, .int .i64 X.sure, .slice aa X.calls.length ca, .slice az X.talks.length cz, .slice ai X.told.length ci] 30)).alloc (.cells #[.int .i64 0, .int .i64 0, .slice none 0 0, .slice none 0 0, .slice none 0 0, .slice none 0 0, .string ⟨#[]⟩, .int .i64 0, .slice none 0 0, .slice none 0 0, .slice none 0 0] 40)).alloc (.cells #[.int .i64 X.time, .int .i64 X.fresh, .slice none 0 0, .slice none 0 0, .slice none 0 0, .slice none 0 0, .string ⟨#[]⟩, .int .i64 0, .slice none 0 0, .slice none 0 0, .slice none 0 0] 40)) := btG (btG (abG _) (abG _)) (abG _)
  have HX : Hid (Box (((w.alloc (.cells #[.int .i64 X.time, .int .i64 X.fresh, .slice ak X.known.length ck, .slice ac X.cache.length cc, .slice ah X.hosts.length ch, .slice al X.letters.length cl, .string X.book, .int .i64 X.sure, .slice aa X.calls.length ca, .slice az X.talks.length cz, .slice ai X.told.length ci] 30)).alloc (.cells #[.int .i64 0, .int .i64 0, .slice none 0 0, .slice none 0 0, .slice none 0 0, .slice none 0 0, .string ⟨#[]⟩, .int .i64 0, .slice none 0 0, .slice none 0 0, .slice none 0 0] 40)).alloc (.cells #[.int .i64 X.time, .int .i64 X.fresh, .slice none 0 0, .slice none 0 0, .slice none 0 0, .slice none 0 0, .string ⟨#[]⟩, .int .i64 0, .slice none 0 0, .slice none 0 0, .slice none 0 0] 40)) w.heap.size 30 [.int .i64 X.time, .int .i64 X.fresh, .slice ak X.known.length ck, .slice ac X.cache.length cc, .slice ah X.hosts.length ch, .slice al X.letters.length cl, .string X.book, .int .i64 X.sure, .slice aa X.calls.length ca, .slice az X.talks.length cz, .slice ai X.told.length ci]) := ((Box.new w 30 [.int .i64 X.time, .int .i64 X.fresh, .slice ak X.known.length ck, .slice ac X.cache.length cc, .slice ah X.hosts.length ch, .slice al X.letters.length cl, .string X.book, .int .i64 X.sure, .slice aa X.calls.length ca, .slice az X.talks.length cz, .slice ai X.told.length ci]).on (abG (.cells #[.int .i64 0, .int .i64 0, .slice none 0 0, .slice none 0 0, .slice none 0 0, .slice none 0 0, .string ⟨#[]⟩, .int .i64 0, .slice none 0 0, .slice none 0 0, .slice none 0 0] 40))).on (abG (.cells #[.int .i64 X.time, .int .i64 X.fresh, .slice none 0 0, .slice none 0 0, .slice none 0 0, .slice none 0 0, .string ⟨#[]⟩, .int .i64 0, .slice none 0 0, .slice none 0 0, .slice none 0 0] 40))
  have HZ : Hid (Box (((w.alloc (.cells #[.int .i64 X.time, .int .i64 X.fresh, .slice ak X.known.length ck, .slice ac X.cache.length cc, .slice ah X.hosts.length ch, .slice al X.letters.length cl, .string X.book, .int .i64 X.sure, .slice aa X.calls.length ca, .slice az X.talks.length cz, .slice ai X.told.length ci] 30)).alloc (.cells #[.int .i64 0, .int .i64 0, .slice none 0 0, .slice none 0 0, .slice none 0 0, .slice none 0 0, .string ⟨#[]⟩, .int .i64 0, .slice none 0 0, .slice none 0 0, .slice none 0 0] 40)).alloc (.cells #[.int .i64 X.time, .int .i64 X.fresh, .slice none 0 0, .slice none 0 0, .slice none 0 0, .slice none 0 0, .string ⟨#[]⟩, .int .i64 0, .slice none 0 0, .slice none 0 0, .slice none 0 0] 40)) (w.heap.size + 1) 40 [.int .i64 0, .int .i64 0, .slice none 0 0, .slice none 0 0, .slice none 0 0, .slice none 0 0, .string ⟨#[]⟩, .int .i64 0, .slice none 0 0, .slice none 0 0, .slice none 0 0]) := by
    have := (Box.new (w.alloc (.cells #[.int .i64 X.time, .int .i64 X.fresh, .slice ak X.known.length ck, .slice ac X.cache.length cc, .slice ah X.hosts.length ch, .slice al X.letters.length cl, .string X.book, .int .i64 X.sure, .slice aa X.calls.length ca, .slice az X.talks.length cz, .slice ai X.told.length ci] 30)) 40 [.int .i64 0, .int .i64 0, .slice none 0 0, .slice none 0 0, .slice none 0 0, .slice none 0 0, .string ⟨#[]⟩, .int .i64 0, .slice none 0 0, .slice none 0 0, .slice none 0 0]).on (abG (.cells #[.int .i64 X.time, .int .i64 X.fresh, .slice none 0 0, .slice none 0 0, .slice none 0 0, .slice none 0 0, .string ⟨#[]⟩, .int .i64 0, .slice none 0 0, .slice none 0 0, .slice none 0 0] 40))
    rwa [heap_size_alloc] at this
  have HO : Hid (Box (((w.alloc (.cells #[.int .i64 X.time, .int .i64 X.fresh, .slice ak X.known.length ck, .slice ac X.cache.length cc, .slice ah X.hosts.length ch, .slice al X.letters.length cl, .string X.book, .int .i64 X.sure, .slice aa X.calls.length ca, .slice az X.talks.length cz, .slice ai X.told.length ci] 30)).alloc (.cells #[.int .i64 0, .int .i64 0, .slice none 0 0, .slice none 0 0, .slice none 0 0, .slice none 0 0, .string ⟨#[]⟩, .int .i64 0, .slice none 0 0, .slice none 0 0, .slice none 0 0] 40)).alloc (.cells #[.int .i64 X.time, .int .i64 X.fresh, .slice none 0 0, .slice none 0 0, .slice none 0 0, .slice none 0 0, .string ⟨#[]⟩, .int .i64 0, .slice none 0 0, .slice none 0 0, .slice none 0 0] 40)) (w.heap.size + 1 + 1) 40 [.int .i64 X.time, .int .i64 X.fresh, .slice none 0 0, .slice none 0 0, .slice none 0 0, .slice none 0 0, .string ⟨#[]⟩, .int .i64 0, .slice none 0 0, .slice none 0 0, .slice none 0 0]) := by
    have := Box.new ((w.alloc (.cells #[.int .i64 X.time, .int .i64 X.fresh, .slice ak X.known.length ck, .slice ac X.cache.length cc, .slice ah X.hosts.length ch, .slice al X.letters.length cl, .string X.book, .int .i64 X.sure, .slice aa X.calls.length ca, .slice az X.talks.length cz, .slice ai X.told.length ci] 30)).alloc (.cells #[.int .i64 0, .int .i64 0, .slice none 0 0, .slice none 0 0, .slice none 0 0, .slice none 0 0, .string ⟨#[]⟩, .int .i64 0, .slice none 0 0, .slice none 0 0, .slice none 0 0] 40)) 40 [.int .i64 X.time, .int .i64 X.fresh, .slice none 0 0, .slice none 0 0, .slice none 0 0, .slice none 0 0, .string ⟨#[]⟩, .int .i64 0, .slice none 0 0, .slice none 0 0, .slice none 0 0]
    rwa [heap_size_alloc, heap_size_alloc] at this
  have HB := hide hb0
  have HC0 := hide (fun v hv => toTms X.known ak ck v hv (show (X.known.length + Tm.wts X.known) ≤ 1048576 by unfold ww at hz; omega))
  have HY0 := hide hy0
  have HC1 := hide (fun v hv => toPos X.cache ac cc v hv (show (X.cache.length + ws pw X.cache) ≤ 1048576 by unfold ww at hz; omega))
  have HY1 := hide hy1
  have HC2 := hide (fun v hv => toHos X.hosts ah ch v hv (show (X.hosts.length + ws how X.hosts) ≤ 1048576 by unfold ww at hz; omega))
  have HY2 := hide hy2
  have HC3 := hide (fun v hv => toLes X.letters al cl v hv (show (X.letters.length + ws lew X.letters) ≤ 1048576 by unfold ww at hz; omega))
  have HY3 := hide hy3
  have HC4 := hide (fun v hv => toCas X.calls aa ca v hv (show (X.calls.length + ws caw X.calls) ≤ 1048576 by unfold ww at hz; omega))
  have HY4 := hide hy4
  have HC5 := hide (fun v hv => toTas X.talks az cz v hv (show (X.talks.length + ws taw X.talks) ≤ 1048576 by unfold ww at hz; omega))
  have HY5 := hide hy5
  have HC6 := hide (fun v hv => toI X.told ai ci v hv (show X.told.length ≤ 2097152 by unfold ww at hz; omega))
  have HY6 := hide hy6
  clear hb0 hfit hz hy0 hy1 hy2 hy3 hy4 hy5 hy6
  go_enter Tryz.func6, Tryz.ntmps6
  go_wp2_with fail
  refine (unhide HC0 _ ((unhide HY0).on (unhide HB))).mono ?_
  rintro e w2 ⟨rfl, hk0, hb0⟩
  obtain ⟨g0, hg0⟩ : ∃ g : Nat, g = (w.heap.size + 1 + 1 + 1) := ⟨_, rfl⟩
  simp only [heap_size_alloc] at hk0 hb0 ⊢
  rw [← hg0] at hk0 hb0 ⊢
  have hgz0 : w.heap.size + 3 ≤ g0 := by omega
  have hb0' : Below (((w.alloc (.cells #[.int .i64 X.time, .int .i64 X.fresh, .slice ak X.known.length ck, .slice ac X.cache.length cc, .slice ah X.hosts.length ch, .slice al X.letters.length cl, .string X.book, .int .i64 X.sure, .slice aa X.calls.length ca, .slice az X.talks.length cz, .slice ai X.told.length ci] 30)).alloc (.cells #[.int .i64 0, .int .i64 0, .slice none 0 0, .slice none 0 0, .slice none 0 0, .slice none 0 0, .string ⟨#[]⟩, .int .i64 0, .slice none 0 0, .slice none 0 0, .slice none 0 0] 40)).alloc (.cells #[.int .i64 X.time, .int .i64 X.fresh, .slice none 0 0, .slice none 0 0, .slice none 0 0, .slice none 0 0, .string ⟨#[]⟩, .int .i64 0, .slice none 0 0, .slice none 0 0, .slice none 0 0] 40)).heap.size (((w.alloc (.cells #[.int .i64 X.time, .int .i64 X.fresh, .slice ak X.known.length ck, .slice ac X.cache.length cc, .slice ah X.hosts.length ch, .slice al X.letters.length cl, .string X.book, .int .i64 X.sure, .slice aa X.calls.length ca, .slice az X.talks.length cz, .slice ai X.told.length ci] 30)).alloc (.cells #[.int .i64 0, .int .i64 0, .slice none 0 0, .slice none 0 0, .slice none 0 0, .slice none 0 0, .string ⟨#[]⟩, .int .i64 0, .slice none 0 0, .slice none 0 0, .slice none 0 0] 40)).alloc (.cells #[.int .i64 X.time, .int .i64 X.fresh, .slice none 0 0, .slice none 0 0, .slice none 0 0, .slice none 0 0, .string ⟨#[]⟩, .int .i64 0, .slice none 0 0, .slice none 0 0, .slice none 0 0] 40)) w2 := by simp only [heap_size_alloc]; rw [← hg0]; exact hb0
  have hsz0 : w.heap.size + 3 ≤ w2.heap.size := by have := hb0'.size; simp only [heap_size_alloc] at this; omega
  have HB0 := hide (btG (unhide HB) hb0')
  have HX0 := hide ((unhide HX).on hb0')
  have HZ0 := hide ((unhide HZ).on hb0')
  have HO0 := hide ((unhide HO).on hb0')
  have HK0_0 := hide (hk0.low hgz0)
  clear hk0 hb0 hb0' HB HX HZ HO hg0
  have HBv1 : Hid (Below w.heap.size w (w2.setCell ⟨w.heap.size + 1 + 1, 2, none⟩ (.slice (some ⟨g0, 0, none⟩) X.known.length X.known.length))) := setG (unhide HB0) (by omega)
  have HXv1 : Hid (Box (w2.setCell ⟨w.heap.size + 1 + 1, 2, none⟩ (.slice (some ⟨g0, 0, none⟩) X.known.length X.known.length)) w.heap.size 30 [.int .i64 X.time, .int .i64 X.fresh, .slice ak X.known.length ck, .slice ac X.cache.length cc, .slice ah X.hosts.length ch, .slice al X.letters.length cl, .string X.book, .int .i64 X.sure, .slice aa X.calls.length ca, .slice az X.talks.length cz, .slice ai X.told.length ci]) := (unhide HX0).far (by omega) _ _
  have HZv1 : Hid (Box (w2.setCell ⟨w.heap.size + 1 + 1, 2, none⟩ (.slice (some ⟨g0, 0, none⟩) X.known.length X.known.length)) (w.heap.size + 1) 40 [.int .i64 0, .int .i64 0, .slice none 0 0, .slice none 0 0, .slice none 0 0, .slice none 0 0, .string ⟨#[]⟩, .int .i64 0, .slice none 0 0, .slice none 0 0, .slice none 0 0]) := (unhide HZ0).far (by omega) _ _
  have HOv1 : Hid (Box (w2.setCell ⟨w.heap.size + 1 + 1, 2, none⟩ (.slice (some ⟨g0, 0, none⟩) X.known.length X.known.length)) (w.heap.size + 1 + 1) 40 [.int .i64 X.time, .int .i64 X.fresh, .slice (some ⟨g0, 0, none⟩) X.known.length X.known.length, .slice none 0 0, .slice none 0 0, .slice none 0 0, .string ⟨#[]⟩, .int .i64 0, .slice none 0 0, .slice none 0 0, .slice none 0 0]) := (unhide HO0).set _ _
  have HKv0_1 : Hid (tmK.Ls (w2.setCell ⟨w.heap.size + 1 + 1, 2, none⟩ (.slice (some ⟨g0, 0, none⟩) X.known.length X.known.length)) (w.heap.size + 3) (some ⟨g0, 0, none⟩) X.known) := (unhide HK0_0).set (by omega)
  have c3 : w2.cell? ⟨w.heap.size, 3, none⟩ = some (.slice ac X.cache.length cc) := (unhide HX0).cell rfl
  have d2 : w2.cell? ⟨w.heap.size + 1 + 1, 2, none⟩ = some (.slice none 0 0) := (unhide HO0).cell rfl
  have e2 : w2.frozen? ⟨w.heap.size + 1 + 1, 2, none⟩ = false := (unhide HO0).free _
  clear HX0 HZ0 HO0 HB0 HK0_0
  go_wp2_with fail
  clear c3 d2 e2
  refine (unhide HC1 _ ((unhide HY1).on (unhide HBv1))).mono ?_
  rintro e w3 ⟨rfl, hk1, hb1⟩
  obtain ⟨g1, hg1⟩ : ∃ g : Nat, g = w2.heap.size := ⟨_, rfl⟩
  simp only [size_setG] at hk1 hb1 ⊢
  rw [← hg1] at hk1 hb1 ⊢
  have hgz1 : w.heap.size + 3 ≤ g1 := by have := hsz0; omega
  have hb1' : Below (w2.setCell ⟨w.heap.size + 1 + 1, 2, none⟩ (.slice (some ⟨g0, 0, none⟩) X.known.length X.known.length)).heap.size (w2.setCell ⟨w.heap.size + 1 + 1, 2, none⟩ (.slice (some ⟨g0, 0, none⟩) X.known.length X.known.length)) w3 := by simp only [size_setG]; rw [← hg1]; exact hb1
  have hsz1 : w.heap.size + 3 ≤ w3.heap.size := by have := hb1'.size; simp only [size_setG] at this; omega
  have HB1 := hide (btG (unhide HBv1) hb1')
  have HX1 := hide ((unhide HXv1).on hb1')
  have HZ1 := hide ((unhide HZv1).on hb1')
  have HO1 := hide ((unhide HOv1).on hb1')
  have HK0_1 := hide ((unhide HKv0_1).on hb1')
  have HK1_1 := hide (hk1.low hgz1)
  clear hk1 hb1 hb1' HBv1 HXv1 HZv1 HOv1 hsz0 HKv0_1 hg1
  have HBv2 : Hid (Below w.heap.size w (w3.setCell ⟨w.heap.size + 1 + 1, 3, none⟩ (.slice (some ⟨g1, 0, none⟩) X.cache.length X.cache.length))) := setG (unhide HB1) (by omega)
  have HXv2 : Hid (Box (w3.setCell ⟨w.heap.size + 1 + 1, 3, none⟩ (.slice (some ⟨g1, 0, none⟩) X.cache.length X.cache.length)) w.heap.size 30 [.int .i64 X.time, .int .i64 X.fresh, .slice ak X.known.length ck, .slice ac X.cache.length cc, .slice ah X.hosts.length ch, .slice al X.letters.length cl, .string X.book, .int .i64 X.sure, .slice aa X.calls.length ca, .slice az X.talks.length cz, .slice ai X.told.length ci]) := (unhide HX1).far (by omega) _ _
  have HZv2 : Hid (Box (w3.setCell ⟨w.heap.size + 1 + 1, 3, none⟩ (.slice (some ⟨g1, 0, none⟩) X.cache.length X.cache.length)) (w.heap.size + 1) 40 [.int .i64 0, .int .i64 0, .slice none 0 0, .slice none 0 0, .slice none 0 0, .slice none 0 0, .string ⟨#[]⟩, .int .i64 0, .slice none 0 0, .slice none 0 0, .slice none 0 0]) := (unhide HZ1).far (by omega) _ _
  have HOv2 : Hid (Box (w3.setCell ⟨w.heap.size + 1 + 1, 3, none⟩ (.slice (some ⟨g1, 0, none⟩) X.cache.length X.cache.length)) (w.heap.size + 1 + 1) 40 [.int .i64 X.time, .int .i64 X.fresh, .slice (some ⟨g0, 0, none⟩) X.known.length X.known.length, .slice (some ⟨g1, 0, none⟩) X.cache.length X.cache.length, .slice none 0 0, .slice none 0 0, .string ⟨#[]⟩, .int .i64 0, .slice none 0 0, .slice none 0 0, .slice none 0 0]) := (unhide HO1).set _ _
  have HKv0_2 : Hid (tmK.Ls (w3.setCell ⟨w.heap.size + 1 + 1, 3, none⟩ (.slice (some ⟨g1, 0, none⟩) X.cache.length X.cache.length)) (w.heap.size + 3) (some ⟨g0, 0, none⟩) X.known) := (unhide HK0_1).set (by omega)
  have HKv1_2 : Hid (poK.Ls (w3.setCell ⟨w.heap.size + 1 + 1, 3, none⟩ (.slice (some ⟨g1, 0, none⟩) X.cache.length X.cache.length)) (w.heap.size + 3) (some ⟨g1, 0, none⟩) X.cache) := (unhide HK1_1).set (by omega)
  have c4 : w3.cell? ⟨w.heap.size, 4, none⟩ = some (.slice ah X.hosts.length ch) := (unhide HX1).cell rfl
  have d3 : w3.cell? ⟨w.heap.size + 1 + 1, 3, none⟩ = some (.slice none 0 0) := (unhide HO1).cell rfl
  have e3 : w3.frozen? ⟨w.heap.size + 1 + 1, 3, none⟩ = false := (unhide HO1).free _
  clear HX1 HZ1 HO1 HB1 HK0_1 HK1_1
  go_wp2_with fail
  clear c4 d3 e3
  refine (unhide HC2 _ ((unhide HY2).on (unhide HBv2))).mono ?_
  rintro e w4 ⟨rfl, hk2, hb2⟩
  obtain ⟨g2, hg2⟩ : ∃ g : Nat, g = w3.heap.size := ⟨_, rfl⟩
  simp only [size_setG] at hk2 hb2 ⊢
  rw [← hg2] at hk2 hb2 ⊢
  have hgz2 : w.heap.size + 3 ≤ g2 := by have := hsz1; omega
  have hb2' : Below (w3.setCell ⟨w.heap.size + 1 + 1, 3, none⟩ (.slice (some ⟨g1, 0, none⟩) X.cache.length X.cache.length)).heap.size (w3.setCell ⟨w.heap.size + 1 + 1, 3, none⟩ (.slice (some ⟨g1, 0, none⟩) X.cache.length X.cache.length)) w4 := by simp only [size_setG]; rw [← hg2]; exact hb2
  have hsz2 : w.heap.size + 3 ≤ w4.heap.size := by have := hb2'.size; simp only [size_setG] at this; omega
  have HB2 := hide (btG (unhide HBv2) hb2')
  have HX2 := hide ((unhide HXv2).on hb2')
  have HZ2 := hide ((unhide HZv2).on hb2')
  have HO2 := hide ((unhide HOv2).on hb2')
  have HK0_2 := hide ((unhide HKv0_2).on hb2')
  have HK1_2 := hide ((unhide HKv1_2).on hb2')
  have HK2_2 := hide (hk2.low hgz2)
  clear hk2 hb2 hb2' HBv2 HXv2 HZv2 HOv2 hsz1 HKv0_2 HKv1_2 hg2
  have HBv3 : Hid (Below w.heap.size w (w4.setCell ⟨w.heap.size + 1 + 1, 4, none⟩ (.slice (some ⟨g2, 0, none⟩) X.hosts.length X.hosts.length))) := setG (unhide HB2) (by omega)
  have HXv3 : Hid (Box (w4.setCell ⟨w.heap.size + 1 + 1, 4, none⟩ (.slice (some ⟨g2, 0, none⟩) X.hosts.length X.hosts.length)) w.heap.size 30 [.int .i64 X.time, .int .i64 X.fresh, .slice ak X.known.length ck, .slice ac X.cache.length cc, .slice ah X.hosts.length ch, .slice al X.letters.length cl, .string X.book, .int .i64 X.sure, .slice aa X.calls.length ca, .slice az X.talks.length cz, .slice ai X.told.length ci]) := (unhide HX2).far (by omega) _ _
  have HZv3 : Hid (Box (w4.setCell ⟨w.heap.size + 1 + 1, 4, none⟩ (.slice (some ⟨g2, 0, none⟩) X.hosts.length X.hosts.length)) (w.heap.size + 1) 40 [.int .i64 0, .int .i64 0, .slice none 0 0, .slice none 0 0, .slice none 0 0, .slice none 0 0, .string ⟨#[]⟩, .int .i64 0, .slice none 0 0, .slice none 0 0, .slice none 0 0]) := (unhide HZ2).far (by omega) _ _
  have HOv3 : Hid (Box (w4.setCell ⟨w.heap.size + 1 + 1, 4, none⟩ (.slice (some ⟨g2, 0, none⟩) X.hosts.length X.hosts.length)) (w.heap.size + 1 + 1) 40 [.int .i64 X.time, .int .i64 X.fresh, .slice (some ⟨g0, 0, none⟩) X.known.length X.known.length, .slice (some ⟨g1, 0, none⟩) X.cache.length X.cache.length, .slice (some ⟨g2, 0, none⟩) X.hosts.length X.hosts.length, .slice none 0 0, .string ⟨#[]⟩, .int .i64 0, .slice none 0 0, .slice none 0 0, .slice none 0 0]) := (unhide HO2).set _ _
  have HKv0_3 : Hid (tmK.Ls (w4.setCell ⟨w.heap.size + 1 + 1, 4, none⟩ (.slice (some ⟨g2, 0, none⟩) X.hosts.length X.hosts.length)) (w.heap.size + 3) (some ⟨g0, 0, none⟩) X.known) := (unhide HK0_2).set (by omega)
  have HKv1_3 : Hid (poK.Ls (w4.setCell ⟨w.heap.size + 1 + 1, 4, none⟩ (.slice (some ⟨g2, 0, none⟩) X.hosts.length X.hosts.length)) (w.heap.size + 3) (some ⟨g1, 0, none⟩) X.cache) := (unhide HK1_2).set (by omega)
  have HKv2_3 : Hid (hoK.Ls (w4.setCell ⟨w.heap.size + 1 + 1, 4, none⟩ (.slice (some ⟨g2, 0, none⟩) X.hosts.length X.hosts.length)) (w.heap.size + 3) (some ⟨g2, 0, none⟩) X.hosts) := (unhide HK2_2).set (by omega)
  have c5 : w4.cell? ⟨w.heap.size, 5, none⟩ = some (.slice al X.letters.length cl) := (unhide HX2).cell rfl
  have d4 : w4.cell? ⟨w.heap.size + 1 + 1, 4, none⟩ = some (.slice none 0 0) := (unhide HO2).cell rfl
  have e4 : w4.frozen? ⟨w.heap.size + 1 + 1, 4, none⟩ = false := (unhide HO2).free _
  clear HX2 HZ2 HO2 HB2 HK0_2 HK1_2 HK2_2
  go_wp2_with fail
  clear c5 d4 e4
  refine (unhide HC3 _ ((unhide HY3).on (unhide HBv3))).mono ?_
  rintro e w5 ⟨rfl, hk3, hb3⟩
  obtain ⟨g3, hg3⟩ : ∃ g : Nat, g = w4.heap.size := ⟨_, rfl⟩
  simp only [size_setG] at hk3 hb3 ⊢
  rw [← hg3] at hk3 hb3 ⊢
  have hgz3 : w.heap.size + 3 ≤ g3 := by have := hsz2; omega
  have hb3' : Below (w4.setCell ⟨w.heap.size + 1 + 1, 4, none⟩ (.slice (some ⟨g2, 0, none⟩) X.hosts.length X.hosts.length)).heap.size (w4.setCell ⟨w.heap.size + 1 + 1, 4, none⟩ (.slice (some ⟨g2, 0, none⟩) X.hosts.length X.hosts.length)) w5 := by simp only [size_setG]; rw [← hg3]; exact hb3
  have hsz3 : w.heap.size + 3 ≤ w5.heap.size := by have := hb3'.size; simp only [size_setG] at this; omega
  have HB3 := hide (btG (unhide HBv3) hb3')
  have HX3 := hide ((unhide HXv3).on hb3')
  have HZ3 := hide ((unhide HZv3).on hb3')
  have HO3 := hide ((unhide HOv3).on hb3')
  have HK0_3 := hide ((unhide HKv0_3).on hb3')
  have HK1_3 := hide ((unhide HKv1_3).on hb3')
  have HK2_3 := hide ((unhide HKv2_3).on hb3')
  have HK3_3 := hide (hk3.low hgz3)
  clear hk3 hb3 hb3' HBv3 HXv3 HZv3 HOv3 hsz2 HKv0_3 HKv1_3 HKv2_3 hg3
  have HBv4 : Hid (Below w.heap.size w (((w5.setCell ⟨w.heap.size + 1 + 1, 5, none⟩ (.slice (some ⟨g3, 0, none⟩) X.letters.length X.letters.length)).setCell ⟨w.heap.size + 1 + 1, 6, none⟩ (.string X.book)).setCell ⟨w.heap.size + 1 + 1, 7, none⟩ (.int .i64 X.sure))) := setG (setG (setG (unhide HB3) (by omega)) (by omega)) (by omega)
  have HXv4 : Hid (Box (((w5.setCell ⟨w.heap.size + 1 + 1, 5, none⟩ (.slice (some ⟨g3, 0, none⟩) X.letters.length X.letters.length)).setCell ⟨w.heap.size + 1 + 1, 6, none⟩ (.string X.book)).setCell ⟨w.heap.size + 1 + 1, 7, none⟩ (.int .i64 X.sure)) w.heap.size 30 [.int .i64 X.time, .int .i64 X.fresh, .slice ak X.known.length ck, .slice ac X.cache.length cc, .slice ah X.hosts.length ch, .slice al X.letters.length cl, .string X.book, .int .i64 X.sure, .slice aa X.calls.length ca, .slice az X.talks.length cz, .slice ai X.told.length ci]) := (((unhide HX3).far (by omega) _ _).far (by omega) _ _).far (by omega) _ _
  have HZv4 : Hid (Box (((w5.setCell ⟨w.heap.size + 1 + 1, 5, none⟩ (.slice (some ⟨g3, 0, none⟩) X.letters.length X.letters.length)).setCell ⟨w.heap.size + 1 + 1, 6, none⟩ (.string X.book)).setCell ⟨w.heap.size + 1 + 1, 7, none⟩ (.int .i64 X.sure)) (w.heap.size + 1) 40 [.int .i64 0, .int .i64 0, .slice none 0 0, .slice none 0 0, .slice none 0 0, .slice none 0 0, .string ⟨#[]⟩, .int .i64 0, .slice none 0 0, .slice none 0 0, .slice none 0 0]) := (((unhide HZ3).far (by omega) _ _).far (by omega) _ _).far (by omega) _ _
  have HOv4 : Hid (Box (((w5.setCell ⟨w.heap.size + 1 + 1, 5, none⟩ (.slice (some ⟨g3, 0, none⟩) X.letters.length X.letters.length)).setCell ⟨w.heap.size + 1 + 1, 6, none⟩ (.string X.book)).setCell ⟨w.heap.size + 1 + 1, 7, none⟩ (.int .i64 X.sure)) (w.heap.size + 1 + 1) 40 [.int .i64 X.time, .int .i64 X.fresh, .slice (some ⟨g0, 0, none⟩) X.known.length X.known.length, .slice (some ⟨g1, 0, none⟩) X.cache.length X.cache.length, .slice (some ⟨g2, 0, none⟩) X.hosts.length X.hosts.length, .slice (some ⟨g3, 0, none⟩) X.letters.length X.letters.length, .string X.book, .int .i64 X.sure, .slice none 0 0, .slice none 0 0, .slice none 0 0]) := (((unhide HO3).set _ _).set _ _).set _ _
  have HKv0_4 : Hid (tmK.Ls (((w5.setCell ⟨w.heap.size + 1 + 1, 5, none⟩ (.slice (some ⟨g3, 0, none⟩) X.letters.length X.letters.length)).setCell ⟨w.heap.size + 1 + 1, 6, none⟩ (.string X.book)).setCell ⟨w.heap.size + 1 + 1, 7, none⟩ (.int .i64 X.sure)) (w.heap.size + 3) (some ⟨g0, 0, none⟩) X.known) := (((unhide HK0_3).set (by omega)).set (by omega)).set (by omega)
  have HKv1_4 : Hid (poK.Ls (((w5.setCell ⟨w.heap.size + 1 + 1, 5, none⟩ (.slice (some ⟨g3, 0, none⟩) X.letters.length X.letters.length)).setCell ⟨w.heap.size + 1 + 1, 6, none⟩ (.string X.book)).setCell ⟨w.heap.size + 1 + 1, 7, none⟩ (.int .i64 X.sure)) (w.heap.size + 3) (some ⟨g1, 0, none⟩) X.cache) := (((unhide HK1_3).set (by omega)).set (by omega)).set (by omega)
  have HKv2_4 : Hid (hoK.Ls (((w5.setCell ⟨w.heap.size + 1 + 1, 5, none⟩ (.slice (some ⟨g3, 0, none⟩) X.letters.length X.letters.length)).setCell ⟨w.heap.size + 1 + 1, 6, none⟩ (.string X.book)).setCell ⟨w.heap.size + 1 + 1, 7, none⟩ (.int .i64 X.sure)) (w.heap.size + 3) (some ⟨g2, 0, none⟩) X.hosts) := (((unhide HK2_3).set (by omega)).set (by omega)).set (by omega)
  have HKv3_4 : Hid (leK.Ls (((w5.setCell ⟨w.heap.size + 1 + 1, 5, none⟩ (.slice (some ⟨g3, 0, none⟩) X.letters.length X.letters.length)).setCell ⟨w.heap.size + 1 + 1, 6, none⟩ (.string X.book)).setCell ⟨w.heap.size + 1 + 1, 7, none⟩ (.int .i64 X.sure)) (w.heap.size + 3) (some ⟨g3, 0, none⟩) X.letters) := (((unhide HK3_3).set (by omega)).set (by omega)).set (by omega)
  have c6 : w5.cell? ⟨w.heap.size, 6, none⟩ = some (.string X.book) := (unhide HX3).cell rfl
  have c7 : w5.cell? ⟨w.heap.size, 7, none⟩ = some (.int .i64 X.sure) := (unhide HX3).cell rfl
  have c8 : w5.cell? ⟨w.heap.size, 8, none⟩ = some (.slice aa X.calls.length ca) := (unhide HX3).cell rfl
  have d5 : w5.cell? ⟨w.heap.size + 1 + 1, 5, none⟩ = some (.slice none 0 0) := (unhide HO3).cell rfl
  have e5 : w5.frozen? ⟨w.heap.size + 1 + 1, 5, none⟩ = false := (unhide HO3).free _
  have d6 : w5.cell? ⟨w.heap.size + 1 + 1, 6, none⟩ = some (.string ⟨#[]⟩) := (unhide HO3).cell rfl
  have e6 : w5.frozen? ⟨w.heap.size + 1 + 1, 6, none⟩ = false := (unhide HO3).free _
  have d7 : w5.cell? ⟨w.heap.size + 1 + 1, 7, none⟩ = some (.int .i64 0) := (unhide HO3).cell rfl
  have e7 : w5.frozen? ⟨w.heap.size + 1 + 1, 7, none⟩ = false := (unhide HO3).free _
  clear HX3 HZ3 HO3 HB3 HK0_3 HK1_3 HK2_3 HK3_3
  go_wp2_with fail
  clear c6 c7 c8 d5 e5 d6 e6 d7 e7
  refine (unhide HC4 _ ((unhide HY4).on (unhide HBv4))).mono ?_
  rintro e w6 ⟨rfl, hk4, hb4⟩
  obtain ⟨g4, hg4⟩ : ∃ g : Nat, g = w5.heap.size := ⟨_, rfl⟩
  simp only [size_setG] at hk4 hb4 ⊢
  rw [← hg4] at hk4 hb4 ⊢
  have hgz4 : w.heap.size + 3 ≤ g4 := by have := hsz3; omega
  have hb4' : Below (((w5.setCell ⟨w.heap.size + 1 + 1, 5, none⟩ (.slice (some ⟨g3, 0, none⟩) X.letters.length X.letters.length)).setCell ⟨w.heap.size + 1 + 1, 6, none⟩ (.string X.book)).setCell ⟨w.heap.size + 1 + 1, 7, none⟩ (.int .i64 X.sure)).heap.size (((w5.setCell ⟨w.heap.size + 1 + 1, 5, none⟩ (.slice (some ⟨g3, 0, none⟩) X.letters.length X.letters.length)).setCell ⟨w.heap.size + 1 + 1, 6, none⟩ (.string X.book)).setCell ⟨w.heap.size + 1 + 1, 7, none⟩ (.int .i64 X.sure)) w6 := by simp only [size_setG]; rw [← hg4]; exact hb4
  have hsz4 : w.heap.size + 3 ≤ w6.heap.size := by have := hb4'.size; simp only [size_setG] at this; omega
  have HB4 := hide (btG (unhide HBv4) hb4')
  have HX4 := hide ((unhide HXv4).on hb4')
  have HZ4 := hide ((unhide HZv4).on hb4')
  have HO4 := hide ((unhide HOv4).on hb4')
  have HK0_4 := hide ((unhide HKv0_4).on hb4')
  have HK1_4 := hide ((unhide HKv1_4).on hb4')
  have HK2_4 := hide ((unhide HKv2_4).on hb4')
  have HK3_4 := hide ((unhide HKv3_4).on hb4')
  have HK4_4 := hide (hk4.low hgz4)
  clear hk4 hb4 hb4' HBv4 HXv4 HZv4 HOv4 hsz3 HKv0_4 HKv1_4 HKv2_4 HKv3_4 hg4
  have HBv5 : Hid (Below w.heap.size w (w6.setCell ⟨w.heap.size + 1 + 1, 8, none⟩ (.slice (some ⟨g4, 0, none⟩) X.calls.length X.calls.length))) := setG (unhide HB4) (by omega)
  have HXv5 : Hid (Box (w6.setCell ⟨w.heap.size + 1 + 1, 8, none⟩ (.slice (some ⟨g4, 0, none⟩) X.calls.length X.calls.length)) w.heap.size 30 [.int .i64 X.time, .int .i64 X.fresh, .slice ak X.known.length ck, .slice ac X.cache.length cc, .slice ah X.hosts.length ch, .slice al X.letters.length cl, .string X.book, .int .i64 X.sure, .slice aa X.calls.length ca, .slice az X.talks.length cz, .slice ai X.told.length ci]) := (unhide HX4).far (by omega) _ _
  have HZv5 : Hid (Box (w6.setCell ⟨w.heap.size + 1 + 1, 8, none⟩ (.slice (some ⟨g4, 0, none⟩) X.calls.length X.calls.length)) (w.heap.size + 1) 40 [.int .i64 0, .int .i64 0, .slice none 0 0, .slice none 0 0, .slice none 0 0, .slice none 0 0, .string ⟨#[]⟩, .int .i64 0, .slice none 0 0, .slice none 0 0, .slice none 0 0]) := (unhide HZ4).far (by omega) _ _
  have HOv5 : Hid (Box (w6.setCell ⟨w.heap.size + 1 + 1, 8, none⟩ (.slice (some ⟨g4, 0, none⟩) X.calls.length X.calls.length)) (w.heap.size + 1 + 1) 40 [.int .i64 X.time, .int .i64 X.fresh, .slice (some ⟨g0, 0, none⟩) X.known.length X.known.length, .slice (some ⟨g1, 0, none⟩) X.cache.length X.cache.length, .slice (some ⟨g2, 0, none⟩) X.hosts.length X.hosts.length, .slice (some ⟨g3, 0, none⟩) X.letters.length X.letters.length, .string X.book, .int .i64 X.sure, .slice (some ⟨g4, 0, none⟩) X.calls.length X.calls.length, .slice none 0 0, .slice none 0 0]) := (unhide HO4).set _ _
  have HKv0_5 : Hid (tmK.Ls (w6.setCell ⟨w.heap.size + 1 + 1, 8, none⟩ (.slice (some ⟨g4, 0, none⟩) X.calls.length X.calls.length)) (w.heap.size + 3) (some ⟨g0, 0, none⟩) X.known) := (unhide HK0_4).set (by omega)
  have HKv1_5 : Hid (poK.Ls (w6.setCell ⟨w.heap.size + 1 + 1, 8, none⟩ (.slice (some ⟨g4, 0, none⟩) X.calls.length X.calls.length)) (w.heap.size + 3) (some ⟨g1, 0, none⟩) X.cache) := (unhide HK1_4).set (by omega)
  have HKv2_5 : Hid (hoK.Ls (w6.setCell ⟨w.heap.size + 1 + 1, 8, none⟩ (.slice (some ⟨g4, 0, none⟩) X.calls.length X.calls.length)) (w.heap.size + 3) (some ⟨g2, 0, none⟩) X.hosts) := (unhide HK2_4).set (by omega)
  have HKv3_5 : Hid (leK.Ls (w6.setCell ⟨w.heap.size + 1 + 1, 8, none⟩ (.slice (some ⟨g4, 0, none⟩) X.calls.length X.calls.length)) (w.heap.size + 3) (some ⟨g3, 0, none⟩) X.letters) := (unhide HK3_4).set (by omega)
  have HKv4_5 : Hid (caK.Ls (w6.setCell ⟨w.heap.size + 1 + 1, 8, none⟩ (.slice (some ⟨g4, 0, none⟩) X.calls.length X.calls.length)) (w.heap.size + 3) (some ⟨g4, 0, none⟩) X.calls) := (unhide HK4_4).set (by omega)
  have c9 : w6.cell? ⟨w.heap.size, 9, none⟩ = some (.slice az X.talks.length cz) := (unhide HX4).cell rfl
  have d8 : w6.cell? ⟨w.heap.size + 1 + 1, 8, none⟩ = some (.slice none 0 0) := (unhide HO4).cell rfl
  have e8 : w6.frozen? ⟨w.heap.size + 1 + 1, 8, none⟩ = false := (unhide HO4).free _
  clear HX4 HZ4 HO4 HB4 HK0_4 HK1_4 HK2_4 HK3_4 HK4_4
  go_wp2_with fail
  clear c9 d8 e8
  refine (unhide HC5 _ ((unhide HY5).on (unhide HBv5))).mono ?_
  rintro e w7 ⟨rfl, hk5, hb5⟩
  obtain ⟨g5, hg5⟩ : ∃ g : Nat, g = w6.heap.size := ⟨_, rfl⟩
  simp only [size_setG] at hk5 hb5 ⊢
  rw [← hg5] at hk5 hb5 ⊢
  have hgz5 : w.heap.size + 3 ≤ g5 := by have := hsz4; omega
  have hb5' : Below (w6.setCell ⟨w.heap.size + 1 + 1, 8, none⟩ (.slice (some ⟨g4, 0, none⟩) X.calls.length X.calls.length)).heap.size (w6.setCell ⟨w.heap.size + 1 + 1, 8, none⟩ (.slice (some ⟨g4, 0, none⟩) X.calls.length X.calls.length)) w7 := by simp only [size_setG]; rw [← hg5]; exact hb5
  have hsz5 : w.heap.size + 3 ≤ w7.heap.size := by have := hb5'.size; simp only [size_setG] at this; omega
  have HB5 := hide (btG (unhide HBv5) hb5')
  have HX5 := hide ((unhide HXv5).on hb5')
  have HZ5 := hide ((unhide HZv5).on hb5')
  have HO5 := hide ((unhide HOv5).on hb5')
  have HK0_5 := hide ((unhide HKv0_5).on hb5')
  have HK1_5 := hide ((unhide HKv1_5).on hb5')
  have HK2_5 := hide ((unhide HKv2_5).on hb5')
  have HK3_5 := hide ((unhide HKv3_5).on hb5')
  have HK4_5 := hide ((unhide HKv4_5).on hb5')
  have HK5_5 := hide (hk5.low hgz5)
  clear hk5 hb5 hb5' HBv5 HXv5 HZv5 HOv5 hsz4 HKv0_5 HKv1_5 HKv2_5 HKv3_5 HKv4_5 hg5
  have HBv6 : Hid (Below w.heap.size w (w7.setCell ⟨w.heap.size + 1 + 1, 9, none⟩ (.slice (some ⟨g5, 0, none⟩) X.talks.length X.talks.length))) := setG (unhide HB5) (by omega)
  have HXv6 : Hid (Box (w7.setCell ⟨w.heap.size + 1 + 1, 9, none⟩ (.slice (some ⟨g5, 0, none⟩) X.talks.length X.talks.length)) w.heap.size 30 [.int .i64 X.time, .int .i64 X.fresh, .slice ak X.known.length ck, .slice ac X.cache.length cc, .slice ah X.hosts.length ch, .slice al X.letters.length cl, .string X.book, .int .i64 X.sure, .slice aa X.calls.length ca, .slice az X.talks.length cz, .slice ai X.told.length ci]) := (unhide HX5).far (by omega) _ _
  have HZv6 : Hid (Box (w7.setCell ⟨w.heap.size + 1 + 1, 9, none⟩ (.slice (some ⟨g5, 0, none⟩) X.talks.length X.talks.length)) (w.heap.size + 1) 40 [.int .i64 0, .int .i64 0, .slice none 0 0, .slice none 0 0, .slice none 0 0, .slice none 0 0, .string ⟨#[]⟩, .int .i64 0, .slice none 0 0, .slice none 0 0, .slice none 0 0]) := (unhide HZ5).far (by omega) _ _
  have HOv6 : Hid (Box (w7.setCell ⟨w.heap.size + 1 + 1, 9, none⟩ (.slice (some ⟨g5, 0, none⟩) X.talks.length X.talks.length)) (w.heap.size + 1 + 1) 40 [.int .i64 X.time, .int .i64 X.fresh, .slice (some ⟨g0, 0, none⟩) X.known.length X.known.length, .slice (some ⟨g1, 0, none⟩) X.cache.length X.cache.length, .slice (some ⟨g2, 0, none⟩) X.hosts.length X.hosts.length, .slice (some ⟨g3, 0, none⟩) X.letters.length X.letters.length, .string X.book, .int .i64 X.sure, .slice (some ⟨g4, 0, none⟩) X.calls.length X.calls.length, .slice (some ⟨g5, 0, none⟩) X.talks.length X.talks.length, .slice none 0 0]) := (unhide HO5).set _ _
  have HKv0_6 : Hid (tmK.Ls (w7.setCell ⟨w.heap.size + 1 + 1, 9, none⟩ (.slice (some ⟨g5, 0, none⟩) X.talks.length X.talks.length)) (w.heap.size + 3) (some ⟨g0, 0, none⟩) X.known) := (unhide HK0_5).set (by omega)
  have HKv1_6 : Hid (poK.Ls (w7.setCell ⟨w.heap.size + 1 + 1, 9, none⟩ (.slice (some ⟨g5, 0, none⟩) X.talks.length X.talks.length)) (w.heap.size + 3) (some ⟨g1, 0, none⟩) X.cache) := (unhide HK1_5).set (by omega)
  have HKv2_6 : Hid (hoK.Ls (w7.setCell ⟨w.heap.size + 1 + 1, 9, none⟩ (.slice (some ⟨g5, 0, none⟩) X.talks.length X.talks.length)) (w.heap.size + 3) (some ⟨g2, 0, none⟩) X.hosts) := (unhide HK2_5).set (by omega)
  have HKv3_6 : Hid (leK.Ls (w7.setCell ⟨w.heap.size + 1 + 1, 9, none⟩ (.slice (some ⟨g5, 0, none⟩) X.talks.length X.talks.length)) (w.heap.size + 3) (some ⟨g3, 0, none⟩) X.letters) := (unhide HK3_5).set (by omega)
  have HKv4_6 : Hid (caK.Ls (w7.setCell ⟨w.heap.size + 1 + 1, 9, none⟩ (.slice (some ⟨g5, 0, none⟩) X.talks.length X.talks.length)) (w.heap.size + 3) (some ⟨g4, 0, none⟩) X.calls) := (unhide HK4_5).set (by omega)
  have HKv5_6 : Hid (taK.Ls (w7.setCell ⟨w.heap.size + 1 + 1, 9, none⟩ (.slice (some ⟨g5, 0, none⟩) X.talks.length X.talks.length)) (w.heap.size + 3) (some ⟨g5, 0, none⟩) X.talks) := (unhide HK5_5).set (by omega)
  have c10 : w7.cell? ⟨w.heap.size, 10, none⟩ = some (.slice ai X.told.length ci) := (unhide HX5).cell rfl
  have d9 : w7.cell? ⟨w.heap.size + 1 + 1, 9, none⟩ = some (.slice none 0 0) := (unhide HO5).cell rfl
  have e9 : w7.frozen? ⟨w.heap.size + 1 + 1, 9, none⟩ = false := (unhide HO5).free _
  clear HX5 HZ5 HO5 HB5 HK0_5 HK1_5 HK2_5 HK3_5 HK4_5 HK5_5
  go_wp2_with fail
  clear c10 d9 e9
  refine (unhide HC6 _ ((unhide HY6).on (unhide HBv6))).mono ?_
  rintro e w8 ⟨rfl, hk6, hb6⟩
  obtain ⟨g6, hg6⟩ : ∃ g : Nat, g = w7.heap.size := ⟨_, rfl⟩
  simp only [size_setG] at hk6 hb6 ⊢
  rw [← hg6] at hk6 hb6 ⊢
  have hgz6 : w.heap.size + 3 ≤ g6 := by have := hsz5; omega
  have hb6' : Below (w7.setCell ⟨w.heap.size + 1 + 1, 9, none⟩ (.slice (some ⟨g5, 0, none⟩) X.talks.length X.talks.length)).heap.size (w7.setCell ⟨w.heap.size + 1 + 1, 9, none⟩ (.slice (some ⟨g5, 0, none⟩) X.talks.length X.talks.length)) w8 := by simp only [size_setG]; rw [← hg6]; exact hb6
  have hsz6 : w.heap.size + 3 ≤ w8.heap.size := by have := hb6'.size; simp only [size_setG] at this; omega
  have HB6 := hide (btG (unhide HBv6) hb6')
  have HX6 := hide ((unhide HXv6).on hb6')
  have HZ6 := hide ((unhide HZv6).on hb6')
  have HO6 := hide ((unhide HOv6).on hb6')
  have HK0_6 := hide ((unhide HKv0_6).on hb6')
  have HK1_6 := hide ((unhide HKv1_6).on hb6')
  have HK2_6 := hide ((unhide HKv2_6).on hb6')
  have HK3_6 := hide ((unhide HKv3_6).on hb6')
  have HK4_6 := hide ((unhide HKv4_6).on hb6')
  have HK5_6 := hide ((unhide HKv5_6).on hb6')
  have HK6_6 := hide (hk6.low hgz6)
  clear hk6 hb6 hb6' HBv6 HXv6 HZv6 HOv6 hsz5 HKv0_6 HKv1_6 HKv2_6 HKv3_6 HKv4_6 HKv5_6 hg6
  have HBv7 : Hid (Below w.heap.size w (w8.setCell ⟨w.heap.size + 1 + 1, 10, none⟩ (.slice (some ⟨g6, 0, none⟩) X.told.length X.told.length))) := setG (unhide HB6) (by omega)
  have HZv7 : Hid (Box (w8.setCell ⟨w.heap.size + 1 + 1, 10, none⟩ (.slice (some ⟨g6, 0, none⟩) X.told.length X.told.length)) (w.heap.size + 1) 40 [.int .i64 0, .int .i64 0, .slice none 0 0, .slice none 0 0, .slice none 0 0, .slice none 0 0, .string ⟨#[]⟩, .int .i64 0, .slice none 0 0, .slice none 0 0, .slice none 0 0]) := (unhide HZ6).far (by omega) _ _
  have HOv7 : Hid (Box (w8.setCell ⟨w.heap.size + 1 + 1, 10, none⟩ (.slice (some ⟨g6, 0, none⟩) X.told.length X.told.length)) (w.heap.size + 1 + 1) 40 [.int .i64 X.time, .int .i64 X.fresh, .slice (some ⟨g0, 0, none⟩) X.known.length X.known.length, .slice (some ⟨g1, 0, none⟩) X.cache.length X.cache.length, .slice (some ⟨g2, 0, none⟩) X.hosts.length X.hosts.length, .slice (some ⟨g3, 0, none⟩) X.letters.length X.letters.length, .string X.book, .int .i64 X.sure, .slice (some ⟨g4, 0, none⟩) X.calls.length X.calls.length, .slice (some ⟨g5, 0, none⟩) X.talks.length X.talks.length, .slice (some ⟨g6, 0, none⟩) X.told.length X.told.length]) := (unhide HO6).set _ _
  have HKv0_7 : Hid (tmK.Ls (w8.setCell ⟨w.heap.size + 1 + 1, 10, none⟩ (.slice (some ⟨g6, 0, none⟩) X.told.length X.told.length)) (w.heap.size + 3) (some ⟨g0, 0, none⟩) X.known) := (unhide HK0_6).set (by omega)
  have HKv1_7 : Hid (poK.Ls (w8.setCell ⟨w.heap.size + 1 + 1, 10, none⟩ (.slice (some ⟨g6, 0, none⟩) X.told.length X.told.length)) (w.heap.size + 3) (some ⟨g1, 0, none⟩) X.cache) := (unhide HK1_6).set (by omega)
  have HKv2_7 : Hid (hoK.Ls (w8.setCell ⟨w.heap.size + 1 + 1, 10, none⟩ (.slice (some ⟨g6, 0, none⟩) X.told.length X.told.length)) (w.heap.size + 3) (some ⟨g2, 0, none⟩) X.hosts) := (unhide HK2_6).set (by omega)
  have HKv3_7 : Hid (leK.Ls (w8.setCell ⟨w.heap.size + 1 + 1, 10, none⟩ (.slice (some ⟨g6, 0, none⟩) X.told.length X.told.length)) (w.heap.size + 3) (some ⟨g3, 0, none⟩) X.letters) := (unhide HK3_6).set (by omega)
  have HKv4_7 : Hid (caK.Ls (w8.setCell ⟨w.heap.size + 1 + 1, 10, none⟩ (.slice (some ⟨g6, 0, none⟩) X.told.length X.told.length)) (w.heap.size + 3) (some ⟨g4, 0, none⟩) X.calls) := (unhide HK4_6).set (by omega)
  have HKv5_7 : Hid (taK.Ls (w8.setCell ⟨w.heap.size + 1 + 1, 10, none⟩ (.slice (some ⟨g6, 0, none⟩) X.told.length X.told.length)) (w.heap.size + 3) (some ⟨g5, 0, none⟩) X.talks) := (unhide HK5_6).set (by omega)
  have HKv6_7 : Hid (Ints (w8.setCell ⟨w.heap.size + 1 + 1, 10, none⟩ (.slice (some ⟨g6, 0, none⟩) X.told.length X.told.length)) (w.heap.size + 3) (some ⟨g6, 0, none⟩) X.told) := (unhide HK6_6).set (by omega)
  have d10 : w8.cell? ⟨w.heap.size + 1 + 1, 10, none⟩ = some (.slice none 0 0) := (unhide HO6).cell rfl
  have e10 : w8.frozen? ⟨w.heap.size + 1 + 1, 10, none⟩ = false := (unhide HO6).free _
  clear HX6 HZ6 HO6 HB6 HK0_6 HK1_6 HK2_6 HK3_6 HK4_6 HK5_6 HK6_6
  go_wp2_with (first
  | (refine wpList_load_box rfl _ rfl (w.heap.size + 1 + 1) 0 [.int .i64 X.time, .int .i64 X.fresh, .slice (some ⟨g0, 0, none⟩) X.known.length X.known.length, .slice (some ⟨g1, 0, none⟩) X.cache.length X.cache.length, .slice (some ⟨g2, 0, none⟩) X.hosts.length X.hosts.length, .slice (some ⟨g3, 0, none⟩) X.letters.length X.letters.length, .string X.book, .int .i64 X.sure, .slice (some ⟨g4, 0, none⟩) X.calls.length X.calls.length, .slice (some ⟨g5, 0, none⟩) X.talks.length X.talks.length, .slice (some ⟨g6, 0, none⟩) X.told.length X.told.length] (unhide HOv7) (fun j v hj => (by rw [Nat.zero_add]; exact hj)) rfl Tryz.underlying40 rfl infoW ?_)
  | (refine wpList_store_box rfl _ _ rfl (w.heap.size + 1) 0 [.int .i64 X.time, .int .i64 X.fresh, .slice (some ⟨g0, 0, none⟩) X.known.length X.known.length, .slice (some ⟨g1, 0, none⟩) X.cache.length X.cache.length, .slice (some ⟨g2, 0, none⟩) X.hosts.length X.hosts.length, .slice (some ⟨g3, 0, none⟩) X.letters.length X.letters.length, .string X.book, .int .i64 X.sure, .slice (some ⟨g4, 0, none⟩) X.calls.length X.calls.length, .slice (some ⟨g5, 0, none⟩) X.talks.length X.talks.length, .slice (some ⟨g6, 0, none⟩) X.told.length X.told.length] (unhide HZv7) (by simp) rfl rfl infoW (by simp [Value.oneCell']) ?_
     intro V hV
     have HZV : Hid (Box V (w.heap.size + 1) 40 [.int .i64 X.time, .int .i64 X.fresh, .slice (some ⟨g0, 0, none⟩) X.known.length X.known.length, .slice (some ⟨g1, 0, none⟩) X.cache.length X.cache.length, .slice (some ⟨g2, 0, none⟩) X.hosts.length X.hosts.length, .slice (some ⟨g3, 0, none⟩) X.letters.length X.letters.length, .string X.book, .int .i64 X.sure, .slice (some ⟨g4, 0, none⟩) X.calls.length X.calls.length, .slice (some ⟨g5, 0, none⟩) X.talks.length X.talks.length, .slice (some ⟨g6, 0, none⟩) X.told.length X.told.length]) := (by rw [hV]; exact Box.sets [.int .i64 X.time, .int .i64 X.fresh, .slice (some ⟨g0, 0, none⟩) X.known.length X.known.length, .slice (some ⟨g1, 0, none⟩) X.cache.length X.cache.length, .slice (some ⟨g2, 0, none⟩) X.hosts.length X.hosts.length, .slice (some ⟨g3, 0, none⟩) X.letters.length X.letters.length, .string X.book, .int .i64 X.sure, .slice (some ⟨g4, 0, none⟩) X.calls.length X.calls.length, .slice (some ⟨g5, 0, none⟩) X.talks.length X.talks.length, .slice (some ⟨g6, 0, none⟩) X.told.length X.told.length] 0 _ _ (unhide HZv7))
     have HBV : Hid (Below w.heap.size w V) := (by rw [hV]; exact setsG (unhide HBv7) (by omega))
     have HKV0 : Hid (tmK.Ls V (w.heap.size + 3) (some ⟨g0, 0, none⟩) X.known) := (by rw [hV]; exact (unhide HKv0_7).sets (by omega))
     have HKV1 : Hid (poK.Ls V (w.heap.size + 3) (some ⟨g1, 0, none⟩) X.cache) := (by rw [hV]; exact (unhide HKv1_7).sets (by omega))
     have HKV2 : Hid (hoK.Ls V (w.heap.size + 3) (some ⟨g2, 0, none⟩) X.hosts) := (by rw [hV]; exact (unhide HKv2_7).sets (by omega))
     have HKV3 : Hid (leK.Ls V (w.heap.size + 3) (some ⟨g3, 0, none⟩) X.letters) := (by rw [hV]; exact (unhide HKv3_7).sets (by omega))
     have HKV4 : Hid (caK.Ls V (w.heap.size + 3) (some ⟨g4, 0, none⟩) X.calls) := (by rw [hV]; exact (unhide HKv4_7).sets (by omega))
     have HKV5 : Hid (taK.Ls V (w.heap.size + 3) (some ⟨g5, 0, none⟩) X.talks) := (by rw [hV]; exact (unhide HKv5_7).sets (by omega))
     have HKV6 : Hid (Ints V (w.heap.size + 3) (some ⟨g6, 0, none⟩) X.told) := (by rw [hV]; exact (unhide HKv6_7).sets (by omega))
     clear hV HBv7 HZv7 HOv7 HKv0_7 HKv1_7 HKv2_7 HKv3_7 HKv4_7 HKv5_7 HKv6_7))
  exact bodyPost_ret (v := .agg [.int .i64 X.time, .int .i64 X.fresh, .slice (some ⟨g0, 0, none⟩) X.known.length X.known.length, .slice (some ⟨g1, 0, none⟩) X.cache.length X.cache.length, .slice (some ⟨g2, 0, none⟩) X.hosts.length X.hosts.length, .slice (some ⟨g3, 0, none⟩) X.letters.length X.letters.length, .string X.book, .int .i64 X.sure, .slice (some ⟨g4, 0, none⟩) X.calls.length X.calls.length, .slice (some ⟨g5, 0, none⟩) X.talks.length X.talks.length, .slice (some ⟨g6, 0, none⟩) X.told.length X.told.length].toArray) (results_box Tryz.results6 (unhide HZV) rfl Tryz.underlying40 rfl infoW) rfl ⟨_, rfl, ⟨unhide HFT, _, _, _, _, _, _, _, _, _, _, _, _, _, _, rfl, (unhide HKV0).low (by omega), (unhide HKV1).low (by omega), (unhide HKV2).low (by omega), (unhide HKV3).low (by omega), (unhide HKV4).low (by omega), (unhide HKV5).low (by omega), (unhide HKV6).low (by omega)⟩, unhide HBV⟩

set_option maxRecDepth 100000 in
set_option maxHeartbeats 4000000 in
theorem eqWd (X : Wd) (cs cs' : List Value) (w : World) (h : wdAt w 0 X cs) (h' : wdAt w 0 X cs') (hz : ww X ≤ 1048576) :
    Calls Tryz.prog 8 #[.agg cs.toArray, .agg cs'.toArray] w fun e w' => e = .returned (.bool true) ∧ Below w.heap.size w w' := by
  obtain ⟨-, ak, ck, ac, cc, ah, ch, al, cl, aa, ca, az, cz, ai, ci, rfl, hy0, hy1, hy2, hy3, hy4, hy5, hy6⟩ := h
  obtain ⟨-, ak', ck', ac', cc', ah', ch', al', cl', aa', ca', az', cz', ai', ci', rfl, hv0, hv1, hv2, hv3, hv4, hv5, hv6⟩ := h'
  show Calls Tryz.prog 8 #[.agg #[.int .i64 X.time, .int .i64 X.fresh, .slice ak X.known.length ck, .slice ac X.cache.length cc, .slice ah X.hosts.length ch, .slice al X.letters.length cl, .string X.book, .int .i64 X.sure, .slice aa X.calls.length ca, .slice az X.talks.length cz, .slice ai X.told.length ci], .agg #[.int .i64 X.time, .int .i64 X.fresh, .slice ak' X.known.length ck', .slice ac' X.cache.length cc', .slice ah' X.hosts.length ch', .slice al' X.letters.length cl', .string X.book, .int .i64 X.sure, .slice aa' X.calls.length ca', .slice az' X.talks.length cz', .slice ai' X.told.length ci']] w _
  have hb0 : Below w.heap.size w ((w.alloc (.cells #[.int .i64 X.time, .int .i64 X.fresh, .slice ak X.known.length ck, .slice ac X.cache.length cc, .slice ah X.hosts.length ch, .slice al X.letters.length cl, .string X.book, .int .i64 X.sure, .slice aa X.calls.length ca, .slice az X.talks.length cz, .slice ai X.told.length ci] 40)).alloc (.cells #[.int .i64 X.time, .int .i64 X.fresh, .slice ak' X.known.length ck', .slice ac' X.cache.length cc', .slice ah' X.hosts.length ch', .slice al' X.letters.length cl', .string X.book, .int .i64 X.sure, .slice aa' X.calls.length ca', .slice az' X.talks.length cz', .slice ai' X.told.length ci'] 40)) := btG (abG _) (abG _)
  have HX : Hid (Box ((w.alloc (.cells #[.int .i64 X.time, .int .i64 X.fresh, .slice ak X.known.length ck, .slice ac X.cache.length cc, .slice ah X.hosts.length ch, .slice al X.letters.length cl, .string X.book, .int .i64 X.sure, .slice aa X.calls.length ca, .slice az X.talks.length cz, .slice ai X.told.length ci] 40)).alloc (.cells #[.int .i64 X.time, .int .i64 X.fresh, .slice ak' X.known.length ck', .slice ac' X.cache.length cc', .slice ah' X.hosts.length ch', .slice al' X.letters.length cl', .string X.book, .int .i64 X.sure, .slice aa' X.calls.length ca', .slice az' X.talks.length cz', .slice ai' X.told.length ci'] 40)) w.heap.size 40 [.int .i64 X.time, .int .i64 X.fresh, .slice ak X.known.length ck, .slice ac X.cache.length cc, .slice ah X.hosts.length ch, .slice al X.letters.length cl, .string X.book, .int .i64 X.sure, .slice aa X.calls.length ca, .slice az X.talks.length cz, .slice ai X.told.length ci]) := (Box.new w 40 [.int .i64 X.time, .int .i64 X.fresh, .slice ak X.known.length ck, .slice ac X.cache.length cc, .slice ah X.hosts.length ch, .slice al X.letters.length cl, .string X.book, .int .i64 X.sure, .slice aa X.calls.length ca, .slice az X.talks.length cz, .slice ai X.told.length ci]).on (abG (.cells #[.int .i64 X.time, .int .i64 X.fresh, .slice ak' X.known.length ck', .slice ac' X.cache.length cc', .slice ah' X.hosts.length ch', .slice al' X.letters.length cl', .string X.book, .int .i64 X.sure, .slice aa' X.calls.length ca', .slice az' X.talks.length cz', .slice ai' X.told.length ci'] 40))
  have HV : Hid (Box ((w.alloc (.cells #[.int .i64 X.time, .int .i64 X.fresh, .slice ak X.known.length ck, .slice ac X.cache.length cc, .slice ah X.hosts.length ch, .slice al X.letters.length cl, .string X.book, .int .i64 X.sure, .slice aa X.calls.length ca, .slice az X.talks.length cz, .slice ai X.told.length ci] 40)).alloc (.cells #[.int .i64 X.time, .int .i64 X.fresh, .slice ak' X.known.length ck', .slice ac' X.cache.length cc', .slice ah' X.hosts.length ch', .slice al' X.letters.length cl', .string X.book, .int .i64 X.sure, .slice aa' X.calls.length ca', .slice az' X.talks.length cz', .slice ai' X.told.length ci'] 40)) (w.heap.size + 1) 40 [.int .i64 X.time, .int .i64 X.fresh, .slice ak' X.known.length ck', .slice ac' X.cache.length cc', .slice ah' X.hosts.length ch', .slice al' X.letters.length cl', .string X.book, .int .i64 X.sure, .slice aa' X.calls.length ca', .slice az' X.talks.length cz', .slice ai' X.told.length ci']) := by
    have := Box.new (w.alloc (.cells #[.int .i64 X.time, .int .i64 X.fresh, .slice ak X.known.length ck, .slice ac X.cache.length cc, .slice ah X.hosts.length ch, .slice al X.letters.length cl, .string X.book, .int .i64 X.sure, .slice aa X.calls.length ca, .slice az X.talks.length cz, .slice ai X.told.length ci] 40)) 40 [.int .i64 X.time, .int .i64 X.fresh, .slice ak' X.known.length ck', .slice ac' X.cache.length cc', .slice ah' X.hosts.length ch', .slice al' X.letters.length cl', .string X.book, .int .i64 X.sure, .slice aa' X.calls.length ca', .slice az' X.talks.length cz', .slice ai' X.told.length ci']
    rwa [heap_size_alloc] at this
  have HB := hide hb0
  have HC0 := hide (fun v hv hv' => eqTms X.known ak ak' ck ck' v (show (X.known.length + Tm.wts X.known) ≤ 1048576 by unfold ww at hz; omega) hv hv')
  have HY0 := hide hy0
  have HV0 := hide hv0
  have HC1 := hide (fun v hv hv' => eqPos X.cache ac ac' cc cc' v (show (X.cache.length + ws pw X.cache) ≤ 1048576 by unfold ww at hz; omega) hv hv')
  have HY1 := hide hy1
  have HV1 := hide hv1
  have HC2 := hide (fun v hv hv' => eqHos X.hosts ah ah' ch ch' v (show (X.hosts.length + ws how X.hosts) ≤ 1048576 by unfold ww at hz; omega) hv hv')
  have HY2 := hide hy2
  have HV2 := hide hv2
  have HC3 := hide (fun v hv hv' => eqLes X.letters al al' cl cl' v (show (X.letters.length + ws lew X.letters) ≤ 1048576 by unfold ww at hz; omega) hv hv')
  have HY3 := hide hy3
  have HV3 := hide hv3
  have HC4 := hide (fun v hv hv' => eqCas X.calls aa aa' ca ca' v (show (X.calls.length + ws caw X.calls) ≤ 1048576 by unfold ww at hz; omega) hv hv')
  have HY4 := hide hy4
  have HV4 := hide hv4
  have HC5 := hide (fun v hv hv' => eqTas X.talks az az' cz cz' v (show (X.talks.length + ws taw X.talks) ≤ 1048576 by unfold ww at hz; omega) hv hv')
  have HY5 := hide hy5
  have HV5 := hide hv5
  have HC6 := hide (fun v hv hv' => eqI X.told ai ai' ci ci' v (show X.told.length ≤ 2097153 by unfold ww at hz; omega) hv hv')
  have HY6 := hide hy6
  have HV6 := hide hv6
  clear hb0 hz hy0 hv0 hy1 hv1 hy2 hv2 hy3 hv3 hy4 hv4 hy5 hv5 hy6 hv6
  go_enter Tryz.func8, Tryz.ntmps8
  go_wp2_with fail
  refine (unhide HC0 _ ((unhide HY0).on (unhide HB)) ((unhide HV0).on (unhide HB))).mono ?_
  rintro e w2 ⟨rfl, hb0⟩
  have HB0 := hide (btG (unhide HB) hb0)
  have HX0 := hide ((unhide HX).on hb0)
  have HZ0 := hide ((unhide HV).on hb0)
  clear hb0 HB HX HV
  have c3 : w2.cell? ⟨w.heap.size, 3, none⟩ = some (.slice ac X.cache.length cc) := (unhide HX0).cell rfl
  have d3 : w2.cell? ⟨w.heap.size + 1, 3, none⟩ = some (.slice ac' X.cache.length cc') := (unhide HZ0).cell rfl
  go_wp2_with fail
  refine (unhide HC1 _ ((unhide HY1).on (unhide HB0)) ((unhide HV1).on (unhide HB0))).mono ?_
  rintro e w3 ⟨rfl, hb1⟩
  have HB1 := hide (btG (unhide HB0) hb1)
  have HX1 := hide ((unhide HX0).on hb1)
  have HZ1 := hide ((unhide HZ0).on hb1)
  clear hb1 HB0 HX0 HZ0
  have c4 : w3.cell? ⟨w.heap.size, 4, none⟩ = some (.slice ah X.hosts.length ch) := (unhide HX1).cell rfl
  have d4 : w3.cell? ⟨w.heap.size + 1, 4, none⟩ = some (.slice ah' X.hosts.length ch') := (unhide HZ1).cell rfl
  go_wp2_with fail
  refine (unhide HC2 _ ((unhide HY2).on (unhide HB1)) ((unhide HV2).on (unhide HB1))).mono ?_
  rintro e w4 ⟨rfl, hb2⟩
  have HB2 := hide (btG (unhide HB1) hb2)
  have HX2 := hide ((unhide HX1).on hb2)
  have HZ2 := hide ((unhide HZ1).on hb2)
  clear hb2 HB1 HX1 HZ1
  have c5 : w4.cell? ⟨w.heap.size, 5, none⟩ = some (.slice al X.letters.length cl) := (unhide HX2).cell rfl
  have d5 : w4.cell? ⟨w.heap.size + 1, 5, none⟩ = some (.slice al' X.letters.length cl') := (unhide HZ2).cell rfl
  go_wp2_with fail
  refine (unhide HC3 _ ((unhide HY3).on (unhide HB2)) ((unhide HV3).on (unhide HB2))).mono ?_
  rintro e w5 ⟨rfl, hb3⟩
  have HB3 := hide (btG (unhide HB2) hb3)
  have HX3 := hide ((unhide HX2).on hb3)
  have HZ3 := hide ((unhide HZ2).on hb3)
  clear hb3 HB2 HX2 HZ2
  have c6 : w5.cell? ⟨w.heap.size, 6, none⟩ = some (.string X.book) := (unhide HX3).cell rfl
  have d6 : w5.cell? ⟨w.heap.size + 1, 6, none⟩ = some (.string X.book) := (unhide HZ3).cell rfl
  have c7 : w5.cell? ⟨w.heap.size, 7, none⟩ = some (.int .i64 X.sure) := (unhide HX3).cell rfl
  have d7 : w5.cell? ⟨w.heap.size + 1, 7, none⟩ = some (.int .i64 X.sure) := (unhide HZ3).cell rfl
  have c8 : w5.cell? ⟨w.heap.size, 8, none⟩ = some (.slice aa X.calls.length ca) := (unhide HX3).cell rfl
  have d8 : w5.cell? ⟨w.heap.size + 1, 8, none⟩ = some (.slice aa' X.calls.length ca') := (unhide HZ3).cell rfl
  go_wp2_with fail
  refine (unhide HC4 _ ((unhide HY4).on (unhide HB3)) ((unhide HV4).on (unhide HB3))).mono ?_
  rintro e w6 ⟨rfl, hb4⟩
  have HB4 := hide (btG (unhide HB3) hb4)
  have HX4 := hide ((unhide HX3).on hb4)
  have HZ4 := hide ((unhide HZ3).on hb4)
  clear hb4 HB3 HX3 HZ3
  have c9 : w6.cell? ⟨w.heap.size, 9, none⟩ = some (.slice az X.talks.length cz) := (unhide HX4).cell rfl
  have d9 : w6.cell? ⟨w.heap.size + 1, 9, none⟩ = some (.slice az' X.talks.length cz') := (unhide HZ4).cell rfl
  go_wp2_with fail
  refine (unhide HC5 _ ((unhide HY5).on (unhide HB4)) ((unhide HV5).on (unhide HB4))).mono ?_
  rintro e w7 ⟨rfl, hb5⟩
  have HB5 := hide (btG (unhide HB4) hb5)
  have HX5 := hide ((unhide HX4).on hb5)
  have HZ5 := hide ((unhide HZ4).on hb5)
  clear hb5 HB4 HX4 HZ4
  have c10 : w7.cell? ⟨w.heap.size, 10, none⟩ = some (.slice ai X.told.length ci) := (unhide HX5).cell rfl
  have d10 : w7.cell? ⟨w.heap.size + 1, 10, none⟩ = some (.slice ai' X.told.length ci') := (unhide HZ5).cell rfl
  go_wp2_with fail
  refine (unhide HC6 _ ((unhide HY6).on (unhide HB5)) ((unhide HV6).on (unhide HB5))).mono ?_
  rintro e w8 ⟨rfl, hb6⟩
  have HB6 := hide (btG (unhide HB5) hb6)
  have HX6 := hide ((unhide HX5).on hb6)
  have HZ6 := hide ((unhide HZ5).on hb6)
  clear hb6 HB5 HX5 HZ5
  go_wp2_with fail
  go_ret
  exact ⟨rfl, unhide HB6⟩

end Go.Proofs.YtbbidjckplpaiaaGreatDoor
