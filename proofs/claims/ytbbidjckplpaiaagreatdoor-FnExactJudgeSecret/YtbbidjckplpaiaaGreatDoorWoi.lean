
/- The walk of impl.WorldOk; nothing that was there is written. -/
import Derived.Test.YtbbidjckplpaiaaGreatDoorWoh
import Derived.Deep.MidRow
import Derived.Deep.RegionHeld3
import Derived.Deep.RegionWith
namespace Go.Proofs.YtbbidjckplpaiaaGreatDoor
open Go.RowKit Go.Deep

theorem wts_mem {t : Tm} {P : List Tm} (h : t ∈ P) : t.wt ≤ Tm.wts P := by
  induction P with
  | nil => cases h
  | cons x r ih =>
    simp only [Tm.wts]
    rcases List.mem_cons.1 h with rfl | h
    · omega
    · have := ih h; omega
theorem polZ_all {P : List Pol} (h : P.length + ws pw P ≤ 1048576) : ∀ p ∈ P, polZ p := fun p hp => by
  have h1 := ws_mem pw hp
  have h2 : pw p ≤ 1048576 := by omega
  unfold pw at h2
  refine ⟨by omega, fun t ht => ?_, by omega⟩
  obtain ⟨j, hj, rfl⟩ := List.mem_iff_getElem.1 ht
  have := txw_get (List.getElem?_eq_getElem hj)
  omega

set_option maxRecDepth 100000 in
set_option maxHeartbeats 4000000 in
theorem worldI (X : Wd) (cs : List Value) (w : World) (h : wdAt w 0 X cs) (hz : ww X ≤ 1048576) :
    Calls Tryz.prog 56 #[.agg cs.toArray] w fun e w' => e = .returned (.bool (worldB X)) ∧ Below w.heap.size w w' := by
  have h0 := h
  obtain ⟨-, ak, ck, ac, cc, ah, ch, al, cl, aa, ca, az, cz, ai, ci, rfl, hy0, hy1, hy2, hy3, hy4, hy5, hy6⟩ := h
  show Calls Tryz.prog 56 #[.agg #[.int .i64 X.time, .int .i64 X.fresh, .slice ak X.known.length ck, .slice ac X.cache.length cc, .slice ah X.hosts.length ch, .slice al X.letters.length cl, .string X.book, .int .i64 X.sure, .slice aa X.calls.length ca, .slice az X.talks.length cz, .slice ai X.told.length ci]] w _
  have HX := hide (Box.new w 40 [.int .i64 X.time, .int .i64 X.fresh, .slice ak X.known.length ck, .slice ac X.cache.length cc, .slice ah X.hosts.length ch, .slice al X.letters.length cl, .string X.book, .int .i64 X.sure, .slice aa X.calls.length ca, .slice az X.talks.length cz, .slice ai X.told.length ci])
  have HC0 := hide (fun v => inTime X.time v)
  have HC1 : Hid (∀ v, Below w.heap.size w v → Calls Tryz.prog 86 #[.slice ak X.known.length ck, .int .i64 300, .func (.func 87) #[] #[]] v fun e v' => e = .returned (.bool (decide (X.known.length ≤ 300) && X.known.all okT)) ∧ Below v.heap.size v v') := fun v hv =>
    eachTm X.known ak ck 300 okT v (hy0.on hv) (by unfold ww at hz; omega) (by omega) fun x hx cs u hu hA => tmOkI x cs u hA (by have := wts_mem hx; unfold ww at hz; omega)
  have HC2 := hide (fun v (hv : Below w.heap.size w v) => cacheI X.cache ac cc v (poK_pols (hy1.on hv)) (by unfold ww at hz; omega) (polZ_all (by unfold ww at hz; omega)))
  have HC3 : Hid (∀ v, Below w.heap.size w v → Calls Tryz.prog 89 #[.slice ah X.hosts.length ch, .int .i64 4, .func (.func 90) #[] #[]] v fun e v' => e = .returned (.bool (decide (X.hosts.length ≤ 4) && X.hosts.all hoOk)) ∧ Below v.heap.size v v') := fun v hv =>
    eachHo X.hosts ah ch 4 hoOk v (hy2.on hv) (by unfold ww at hz; omega) (by omega) fun x hx cs u hu hA => hoOkI x cs u hA (by have := ws_mem how hx; unfold ww at hz; omega)
  have HC4 := hide (fun v (hv : Below w.heap.size w v) => namedI X.hosts ah ch v (hy2.on hv) (by unfold ww at hz; omega))
  have HC5 : Hid (∀ v, Below w.heap.size w v → Calls Tryz.prog 92 #[.slice al X.letters.length cl, .int .i64 30, .func (.func 93) #[] #[]] v fun e v' => e = .returned (.bool (decide (X.letters.length ≤ 30) && X.letters.all leOk)) ∧ Below v.heap.size v v') := fun v hv =>
    eachLe X.letters al cl 30 leOk v (hy3.on hv) (by unfold ww at hz; omega) (by omega) fun x hx cs u hu hA => leOkI x cs u hA (by have := ws_mem lew hx; unfold ww at hz; omega)
  have HC6 : Hid (∀ v, Below w.heap.size w v → Calls Tryz.prog 94 #[.slice aa X.calls.length ca, .int .i64 12, .func (.func 95) #[.agg #[.int .i64 X.time, .int .i64 X.fresh, .slice ak X.known.length ck, .slice ac X.cache.length cc, .slice ah X.hosts.length ch, .slice al X.letters.length cl, .string X.book, .int .i64 X.sure, .slice aa X.calls.length ca, .slice az X.talks.length cz, .slice ai X.told.length ci]] #[]] v fun e v' => e = .returned (.bool (decide (X.calls.length ≤ 12) && X.calls.all (caOk X.letters.length))) ∧ Below v.heap.size v v') := fun v hv =>
    eachCa X.calls aa ca 12 (caOk X.letters.length) #[.int .i64 X.time, .int .i64 X.fresh, .slice ak X.known.length ck, .slice ac X.cache.length cc, .slice ah X.hosts.length ch, .slice al X.letters.length cl, .string X.book, .int .i64 X.sure, .slice aa X.calls.length ca, .slice az X.talks.length cz, .slice ai X.told.length ci] v (hy4.on hv) (by unfold ww at hz; omega) (by omega) fun x hx cs u hu hA => callOkI X [.int .i64 X.time, .int .i64 X.fresh, .slice ak X.known.length ck, .slice ac X.cache.length cc, .slice ah X.hosts.length ch, .slice al X.letters.length cl, .string X.book, .int .i64 X.sure, .slice aa X.calls.length ca, .slice az X.talks.length cz, .slice ai X.told.length ci] x cs u ⟨w, h0⟩ hA (by have := ws_mem caw hx; unfold ww at hz; omega) 
  have HC7 : Hid (∀ v, Below w.heap.size w v → Calls Tryz.prog 96 #[.slice az X.talks.length cz, .int .i64 12, .func (.func 97) #[.agg #[.int .i64 X.time, .int .i64 X.fresh, .slice ak X.known.length ck, .slice ac X.cache.length cc, .slice ah X.hosts.length ch, .slice al X.letters.length cl, .string X.book, .int .i64 X.sure, .slice aa X.calls.length ca, .slice az X.talks.length cz, .slice ai X.told.length ci]] #[]] v fun e v' => e = .returned (.bool (decide (X.talks.length ≤ 12) && X.talks.all (taOk X.hosts.length))) ∧ Below v.heap.size v v') := fun v hv =>
    eachTa X.talks az cz 12 (taOk X.hosts.length) #[.int .i64 X.time, .int .i64 X.fresh, .slice ak X.known.length ck, .slice ac X.cache.length cc, .slice ah X.hosts.length ch, .slice al X.letters.length cl, .string X.book, .int .i64 X.sure, .slice aa X.calls.length ca, .slice az X.talks.length cz, .slice ai X.told.length ci] v (hy5.on hv) (by unfold ww at hz; omega) (by omega) fun x hx cs u hu hA => talkOkI X [.int .i64 X.time, .int .i64 X.fresh, .slice ak X.known.length ck, .slice ac X.cache.length cc, .slice ah X.hosts.length ch, .slice al X.letters.length cl, .string X.book, .int .i64 X.sure, .slice aa X.calls.length ca, .slice az X.talks.length cz, .slice ai X.told.length ci] x cs u ⟨w, h0⟩ hA (by have := ws_mem taw hx; unfold ww at hz; omega)
  have HC8 := hide (fun v (hv : Below w.heap.size w v) => toldI X.told ai ci v (hy6.on hv) (by unfold ww at hz; omega))
  have hbk : X.book.size ≤ 1048576 := by unfold ww at hz; omega
  have HBK := hide hbk
  have HW : Hid (worldB X = (inB X.time 0 100000 && (inB X.fresh 1000 999990 && ((decide (X.known.length ≤ 300) && X.known.all okT) && (cacheB X.cache && ((decide (X.hosts.length ≤ 4) && X.hosts.all hoOk) && (onceB X.hosts && ((decide (X.letters.length ≤ 30) && X.letters.all leOk) && (decide (X.book.size ≤ 12000) && (inB X.sure 0 X.book.size && ((decide (X.calls.length ≤ 12) && X.calls.all (caOk X.letters.length)) && ((decide (X.talks.length ≤ 12) && X.talks.all (taOk X.hosts.length)) && (toldB X.told))))))))))))) := rfl
  have HT : Hid (decide (0 ≤ X.time ∧ X.time ≤ 100000) = inB X.time 0 100000) := rfl
  have HF : Hid (inB X.fresh 1000 999990 = decide (1000 ≤ X.fresh ∧ X.fresh ≤ 999990)) := rfl
  have HS : Hid (inB X.sure 0 X.book.size = decide (0 ≤ X.sure ∧ X.sure ≤ X.book.size)) := rfl
  clear hbk h0 hz hy0 hy1 hy2 hy3 hy4 hy5 hy6
  generalize worldB X = R at *
  generalize inB X.time 0 100000 = bt at *
  generalize inB X.fresh 1000 999990 = bf at *
  generalize (decide (X.known.length ≤ 300) && X.known.all okT) = bk at *
  generalize cacheB X.cache = bc at *
  generalize (decide (X.hosts.length ≤ 4) && X.hosts.all hoOk) = bh at *
  generalize onceB X.hosts = bo at *
  generalize (decide (X.letters.length ≤ 30) && X.letters.all leOk) = bl at *
  obtain ⟨bb, hbb⟩ : ∃ bb, bb = decide (X.book.size ≤ 12000) := ⟨_, rfl⟩
  rw [← hbb] at HW
  have HBB := hide hbb
  clear hbb
  generalize inB X.sure 0 X.book.size = bs at *
  generalize (decide (X.calls.length ≤ 12) && X.calls.all (caOk X.letters.length)) = ba at *
  generalize (decide (X.talks.length ≤ 12) && X.talks.all (taOk X.hosts.length)) = bz at *
  generalize toldB X.told = bd at *
  rw [unhide HT] at HC0
  clear HT
  go_enter Tryz.func56, Tryz.ntmps56
  go_wp2_with fail
  refine (unhide HC0 _).mono ?_
  rintro e w1 ⟨rfl, rfl⟩
  cases bt
  · have HE : Hid (R = false) := by show R = false; rw [unhide HW]; simp
    go_wp2_with fail
    go_ret
    exact ⟨retB (unhide HE), (abG _)⟩
  have hF := unhide HF
  by_cases hf1 : 1000 ≤ X.fresh
  rotate_left
  · have hb : bf = false := hF.trans (decide_eq_false fun q => hf1 q.1)
    subst hb
    have HE : Hid (R = false) := by show R = false; rw [unhide HW]; simp
    clear hF
    go_wp2_with fail
    go_ret
    exact ⟨retB (unhide HE), (abG _)⟩
  by_cases hf2 : X.fresh ≤ 999990
  rotate_left
  · have hb : bf = false := hF.trans (decide_eq_false fun q => hf2 q.2)
    subst hb
    have HE : Hid (R = false) := by show R = false; rw [unhide HW]; simp
    clear hF
    go_wp2_with fail
    go_ret
    exact ⟨retB (unhide HE), (abG _)⟩
  have hb : bf = true := hF.trans (decide_eq_true ⟨hf1, hf2⟩)
  subst hb
  clear hF
  go_wp2_with fail
  refine (unhide HC1 _ (abG _)).mono ?_
  rintro e w2 ⟨rfl, hb1⟩
  have HB1 := hide (btG (abG _) hb1)
  have HX1 := hide ((unhide HX).on hb1)
  clear hb1
  cases bk
  · have HE : Hid (R = false) := by show R = false; rw [unhide HW]; simp
    go_wp2_with fail
    go_ret
    exact ⟨retB (unhide HE), unhide HB1⟩
  have c3 : w2.cell? ⟨w.heap.size, 3, none⟩ = some (.slice ac X.cache.length cc) := (unhide HX1).cell rfl
  go_wp2_with fail
  refine (unhide HC2 _ (unhide HB1)).mono ?_
  rintro e w3 ⟨rfl, hb2⟩
  have HB2 := hide (btG (unhide HB1) hb2)
  have HX2 := hide ((unhide HX1).on hb2)
  clear hb2 HB1 HX1
  clear c3
  cases bc
  · have HE : Hid (R = false) := by show R = false; rw [unhide HW]; simp
    go_wp2_with fail
    go_ret
    exact ⟨retB (unhide HE), unhide HB2⟩
  have c4 : w3.cell? ⟨w.heap.size, 4, none⟩ = some (.slice ah X.hosts.length ch) := (unhide HX2).cell rfl
  go_wp2_with fail
  refine (unhide HC3 _ (unhide HB2)).mono ?_
  rintro e w4 ⟨rfl, hb3⟩
  have HB3 := hide (btG (unhide HB2) hb3)
  have HX3 := hide ((unhide HX2).on hb3)
  clear hb3 HB2 HX2
  clear c4
  cases bh
  · have HE : Hid (R = false) := by show R = false; rw [unhide HW]; simp
    go_wp2_with fail
    go_ret
    exact ⟨retB (unhide HE), unhide HB3⟩
  have c4 : w4.cell? ⟨w.heap.size, 4, none⟩ = some (.slice ah X.hosts.length ch) := (unhide HX3).cell rfl
  go_wp2_with fail
  refine (unhide HC4 _ (unhide HB3)).mono ?_
  rintro e w5 ⟨rfl, hb4⟩
  have HB4 := hide (btG (unhide HB3) hb4)
  have HX4 := hide ((unhide HX3).on hb4)
  clear hb4 HB3 HX3
  clear c4
  cases bo
  · have HE : Hid (R = false) := by show R = false; rw [unhide HW]; simp
    go_wp2_with fail
    go_ret
    exact ⟨retB (unhide HE), unhide HB4⟩
  have c5 : w5.cell? ⟨w.heap.size, 5, none⟩ = some (.slice al X.letters.length cl) := (unhide HX4).cell rfl
  go_wp2_with fail
  refine (unhide HC5 _ (unhide HB4)).mono ?_
  rintro e w6 ⟨rfl, hb5⟩
  have HB5 := hide (btG (unhide HB4) hb5)
  have HX5 := hide ((unhide HX4).on hb5)
  clear hb5 HB4 HX4
  clear c5
  cases bl
  · have HE : Hid (R = false) := by show R = false; rw [unhide HW]; simp
    go_wp2_with fail
    go_ret
    exact ⟨retB (unhide HE), unhide HB5⟩
  have c0 : w6.cell? ⟨w.heap.size, 0, none⟩ = some (.int .i64 X.time) := (unhide HX5).cell rfl
  have c1 : w6.cell? ⟨w.heap.size, 1, none⟩ = some (.int .i64 X.fresh) := (unhide HX5).cell rfl
  have c2 : w6.cell? ⟨w.heap.size, 2, none⟩ = some (.slice ak X.known.length ck) := (unhide HX5).cell rfl
  have c3 : w6.cell? ⟨w.heap.size, 3, none⟩ = some (.slice ac X.cache.length cc) := (unhide HX5).cell rfl
  have c4 : w6.cell? ⟨w.heap.size, 4, none⟩ = some (.slice ah X.hosts.length ch) := (unhide HX5).cell rfl
  have c5 : w6.cell? ⟨w.heap.size, 5, none⟩ = some (.slice al X.letters.length cl) := (unhide HX5).cell rfl
  have c6 : w6.cell? ⟨w.heap.size, 6, none⟩ = some (.string X.book) := (unhide HX5).cell rfl
  have c7 : w6.cell? ⟨w.heap.size, 7, none⟩ = some (.int .i64 X.sure) := (unhide HX5).cell rfl
  have c8 : w6.cell? ⟨w.heap.size, 8, none⟩ = some (.slice aa X.calls.length ca) := (unhide HX5).cell rfl
  have c9 : w6.cell? ⟨w.heap.size, 9, none⟩ = some (.slice az X.talks.length cz) := (unhide HX5).cell rfl
  have c10 : w6.cell? ⟨w.heap.size, 10, none⟩ = some (.slice ai X.told.length ci) := (unhide HX5).cell rfl
  have hB := unhide HBB
  by_cases hbk : (X.book.size : Int) ≤ 12000
  rotate_left
  · have hb : bb = false := hB.trans (decide_eq_false (by omega))
    subst hb
    have HE : Hid (R = false) := by show R = false; rw [unhide HW]; simp
    clear hB
    go_wp2_with fail
    go_ret
    exact ⟨retB (unhide HE), unhide HB5⟩
  have hb : bb = true := hB.trans (decide_eq_true (by omega))
  subst hb
  clear hB
  have hB := unhide HS
  by_cases hs1 : 0 ≤ X.sure
  rotate_left
  · have hb : bs = false := hB.trans (decide_eq_false fun q => hs1 q.1)
    subst hb
    have HE : Hid (R = false) := by show R = false; rw [unhide HW]; simp
    clear hB
    go_wp2_with fail
    go_ret
    exact ⟨retB (unhide HE), unhide HB5⟩
  by_cases hs2 : X.sure ≤ (X.book.size : Int)
  rotate_left
  · have hb : bs = false := hB.trans (decide_eq_false fun q => hs2 q.2)
    subst hb
    have HE : Hid (R = false) := by show R = false; rw [unhide HW]; simp
    clear hB
    go_wp2_with fail
    go_ret
    exact ⟨retB (unhide HE), unhide HB5⟩
  have hb : bs = true := hB.trans (decide_eq_true ⟨hs1, hs2⟩)
  subst hb
  clear hB
  go_wp2_with fail
  refine (unhide HC6 _ (unhide HB5)).mono ?_
  rintro e w7 ⟨rfl, hb6⟩
  have HB6 := hide (btG (unhide HB5) hb6)
  have HX6 := hide ((unhide HX5).on hb6)
  clear hb6 HB5 HX5
  clear c0 c1 c2 c3 c4 c5 c6 c7 c8 c9 c10
  cases ba
  · have HE : Hid (R = false) := by show R = false; rw [unhide HW]; simp
    go_wp2_with fail
    go_ret
    exact ⟨retB (unhide HE), unhide HB6⟩
  have c0 : w7.cell? ⟨w.heap.size, 0, none⟩ = some (.int .i64 X.time) := (unhide HX6).cell rfl
  have c1 : w7.cell? ⟨w.heap.size, 1, none⟩ = some (.int .i64 X.fresh) := (unhide HX6).cell rfl
  have c2 : w7.cell? ⟨w.heap.size, 2, none⟩ = some (.slice ak X.known.length ck) := (unhide HX6).cell rfl
  have c3 : w7.cell? ⟨w.heap.size, 3, none⟩ = some (.slice ac X.cache.length cc) := (unhide HX6).cell rfl
  have c4 : w7.cell? ⟨w.heap.size, 4, none⟩ = some (.slice ah X.hosts.length ch) := (unhide HX6).cell rfl
  have c5 : w7.cell? ⟨w.heap.size, 5, none⟩ = some (.slice al X.letters.length cl) := (unhide HX6).cell rfl
  have c6 : w7.cell? ⟨w.heap.size, 6, none⟩ = some (.string X.book) := (unhide HX6).cell rfl
  have c7 : w7.cell? ⟨w.heap.size, 7, none⟩ = some (.int .i64 X.sure) := (unhide HX6).cell rfl
  have c8 : w7.cell? ⟨w.heap.size, 8, none⟩ = some (.slice aa X.calls.length ca) := (unhide HX6).cell rfl
  have c9 : w7.cell? ⟨w.heap.size, 9, none⟩ = some (.slice az X.talks.length cz) := (unhide HX6).cell rfl
  have c10 : w7.cell? ⟨w.heap.size, 10, none⟩ = some (.slice ai X.told.length ci) := (unhide HX6).cell rfl
  go_wp2_with fail
  refine (unhide HC7 _ (unhide HB6)).mono ?_
  rintro e w8 ⟨rfl, hb7⟩
  have HB7 := hide (btG (unhide HB6) hb7)
  have HX7 := hide ((unhide HX6).on hb7)
  clear hb7 HB6 HX6
  clear c0 c1 c2 c3 c4 c5 c6 c7 c8 c9 c10
  cases bz
  · have HE : Hid (R = false) := by show R = false; rw [unhide HW]; simp
    go_wp2_with fail
    go_ret
    exact ⟨retB (unhide HE), unhide HB7⟩
  have c10 : w8.cell? ⟨w.heap.size, 10, none⟩ = some (.slice ai X.told.length ci) := (unhide HX7).cell rfl
  go_wp2_with fail
  refine (unhide HC8 _ (unhide HB7)).mono ?_
  rintro e w9 ⟨rfl, hb8⟩
  have HB8 := hide (btG (unhide HB7) hb8)
  clear hb8
  have HE : Hid (R = bd) := by show R = bd; rw [unhide HW]; simp
  go_wp2_with fail
  go_ret
  exact ⟨retB (unhide HE), unhide HB8⟩

end Go.Proofs.YtbbidjckplpaiaaGreatDoor
