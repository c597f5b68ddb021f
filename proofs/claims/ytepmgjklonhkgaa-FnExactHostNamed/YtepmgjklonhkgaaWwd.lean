/- The walk of laws.eqWorld: of one world that lies in memory twice it answers true; nothing that was there is written. -/
import Derived.Test.YtepmgjklonhkgaaWwa
namespace Go.Proofs.Ytepmgjklonhkgaa
open Go.RowKit Go.Deep

set_option maxRecDepth 100000 in
set_option maxHeartbeats 4000000 in
theorem eqWd (X : Wd) (cs cs' : List Value) (w : World) (h : wdAt w 0 X cs) (h' : wdAt w 0 X cs') (hz : ww X ≤ 1048576) :
    Calls Try.prog 8 #[.agg cs.toArray, .agg cs'.toArray] w fun e w' => e = .returned (.bool true) ∧ Below w.heap.size w w' := by
  obtain ⟨-, ak, ck, ac, cc, ah, ch, al, cl, aa, ca, az, cz, ai, ci, rfl, hy0, hy1, hy2, hy3, hy4, hy5, hy6⟩ := h
  obtain ⟨-, ak', ck', ac', cc', ah', ch', al', cl', aa', ca', az', cz', ai', ci', rfl, hv0, hv1, hv2, hv3, hv4, hv5, hv6⟩ := h'
  show Calls Try.prog 8 #[.agg #[.int .i64 X.time, .int .i64 X.fresh, .slice ak X.known.length ck, .slice ac X.cache.length cc, .slice ah X.hosts.length ch, .slice al X.letters.length cl, .string X.book, .int .i64 X.sure, .slice aa X.calls.length ca, .slice az X.talks.length cz, .slice ai X.told.length ci], .agg #[.int .i64 X.time, .int .i64 X.fresh, .slice ak' X.known.length ck', .slice ac' X.cache.length cc', .slice ah' X.hosts.length ch', .slice al' X.letters.length cl', .string X.book, .int .i64 X.sure, .slice aa' X.calls.length ca', .slice az' X.talks.length cz', .slice ai' X.told.length ci']] w _
  have hb0 : Below w.heap.size w ((w.alloc (.cells #[.int .i64 X.time, .int .i64 X.fresh, .slice ak X.known.length ck, .slice ac X.cache.length cc, .slice ah X.hosts.length ch, .slice al X.letters.length cl, .string X.book, .int .i64 X.sure, .slice aa X.calls.length ca, .slice az X.talks.length cz, .slice ai X.told.length ci] 40)).alloc (.cells #[.int .i64 X.time, .int .i64 X.fresh, .slice ak' X.known.length ck', .slice ac' X.cache.length cc', .slice ah' X.hosts.length ch', .slice al' X.letters.length cl', .string X.book, .int .i64 X.sure, .slice aa' X.calls.length ca', .slice az' X.talks.length cz', .slice ai' X.told.length ci'] 40)) := btG (abG _) (abG _)
  have HX : Hid (Box ((w.alloc (.cells #[.int .i64 X.time, .int .i64 X.fresh, .slice ak X.known.length ck, .slice ac X.cache.length cc, .slice ah X.hosts.length ch, .slice al X.letters.length cl, .string X.book, .int .i64 X.sure, .slice aa X.calls.length ca, .slice az X.talks.length cz, .slice ai X.told.length ci] 40)).alloc (.cells #[.int .i64 X.time, .int .i64 X.fresh, .slice ak' X.known.length ck', .slice ac' X.cache.length cc', .slice ah' X.hosts.length ch', .slice al' X.letters.length cl', .string X.book, .int .i64 X.sure, .slice aa' X.calls.length ca', .slice az' X.talks.length cz', .slice ai' X.told.length ci'] 40)) w.heap.size 40 [.int .i64 X.time, .int .i64 X.fresh, .slice ak X.known.length ck, .slice ac X.cache.length cc, .slice ah X.hosts.length ch, .slice al X.letters.length cl, .string X.book, .int .i64 X.sure, .slice aa X.calls.length ca, .slice az X.talks.length cz, .slice ai X.told.length ci]) := (Box.new w 40 [.int .i64 X.time, .int .i64 X.fresh, .slice ak X.known.length ck, .slice ac X.cache.length cc, .slice ah X.hosts.length ch, .slice al X.letters.length cl, .string X.book, .int .i64 X.sure, .slice aa X.calls.length ca, .slice az X.talks.length cz, .slice ai X.told.length ci]).on (abG (.cells #[.int .i64 X.time, .int .i64 X.fresh, .slice ak' X.known.length ck', .slice ac' X.cache.length cc', .slice ah' X.hosts.length ch', .slice al' X.letters.length cl', .string X.book, .int .i64 X.sure, .slice aa' X.calls.length ca', .slice az' X.talks.length cz', .slice ai' X.told.length ci'] 40))
  have HV : Hid (Box ((w.alloc (.cells #[.int .i64 X.time, .int .i64 X.fresh, .slice ak X.known.length ck, .slice ac X.cache.length cc, .slice ah X.hosts.length ch, .slice al X.letters.length cl, .string X.book, .int .i64 X.sure, .slice aa X.calls.length ca, .slice az X.talks.length cz, .slice ai X.told.length ci] 40)).alloc (.cells #[.int .i64 X.time, .int .i64 X.fresh, .slice ak' X.known.length ck', .slice ac' X.cache.length cc', .slice ah' X.hosts.length ch', .slice al' X.letters.length cl', .string X.book, .int .i64 X.sure, .slice aa' X.calls.length ca', .slice az' X.talks.length cz', .slice ai' X.told.length ci'] 40)) (w.heap.size + 1) 40 [.int .i64 X.time, .int .i64 X.fresh, .slice ak' X.known.length ck', .slice ac' X.cache.length cc', .slice ah' X.hosts.length ch', .slice al' X.letters.length cl', .string X.book, .int .i64 X.sure, .slice aa' X.calls.length ca', .slice az' X.talks.length cz', .slice ai' X.told.length ci']) := by
    have := Box.new (w.alloc (.cells #[.int .i64 X.time, .int .i64 X.fresh, .slice ak X.known.length ck, .slice ac X.cache.length cc, .slice ah X.hosts.length ch, .slice al X.letters.length cl, .string X.book, .int .i64 X.sure, .slice aa X.calls.length ca, .slice az X.talks.length cz, .slice ai X.told.length ci] 40)) 40 [.int .i64 X.time, .int .i64 X.fresh, .slice ak' X.known.length ck', .slice ac' X.cache.length cc', .slice ah' X.hosts.length ch', .slice al' X.letters.length cl', .string X.book, .int .i64 X.sure, .slice aa' X.calls.length ca', .slice az' X.talks.length cz', .slice ai' X.told.length ci']
    rwa [heap_size_alloc] at this
  have HB := hide hb0
  have HC0 := hide (fun v hv hv' => eqTms X.known ak ak' ck ck' v (show (X.known.length + Tm.wts X.known) ≤ 1048576 by unfold ww at hz; omega) hv hv')
  have HY0 := hide hy0
  have HV0 := hide hv0
  have HC1 := hide (fun v hv hv' => eqPos X.cache ac ac' cc cc' v (show (X.cache.length + ws pw X.cache) ≤ 1048576 by unfold ww at hz; omega) hv hv')
  have HY1 := hide hy1
  have HV1 := hide hv1
  have HC2 := hide (fun v hv hv' => eqHos X.hosts ah ah' ch ch' v (show (X.hosts.length + ws how X.hosts) ≤ 1048576 by unfold ww at hz; omega) hv hv')
  have HY2 := hide hy2
  have HV2 := hide hv2
  have HC3 := hide (fun v hv hv' => eqLes X.letters al al' cl cl' v (show (X.letters.length + ws lew X.letters) ≤ 1048576 by unfold ww at hz; omega) hv hv')
  have HY3 := hide hy3
  have HV3 := hide hv3
  have HC4 := hide (fun v hv hv' => eqCas X.calls aa aa' ca ca' v (show (X.calls.length + ws caw X.calls) ≤ 1048576 by unfold ww at hz; omega) hv hv')
  have HY4 := hide hy4
  have HV4 := hide hv4
  have HC5 := hide (fun v hv hv' => eqTas X.talks az az' cz cz' v (show (X.talks.length + ws taw X.talks) ≤ 1048576 by unfold ww at hz; omega) hv hv')
  have HY5 := hide hy5
  have HV5 := hide hv5
  have HC6 := hide (fun v hv hv' => eqI X.told ai ai' ci ci' v (show X.told.length ≤ 2097153 by unfold ww at hz; omega) hv hv')
  have HY6 := hide hy6
  have HV6 := hide hv6
  clear hb0 hz hy0 hv0 hy1 hv1 hy2 hv2 hy3 hv3 hy4 hv4 hy5 hv5 hy6 hv6
  go_enter Try.func8, Try.ntmps8
  go_wp2_with fail
  refine (unhide HC0 _ ((unhide HY0).on (unhide HB)) ((unhide HV0).on (unhide HB))).mono ?_
  rintro e w2 ⟨rfl, hb0⟩
  have HB0 := hide (btG (unhide HB) hb0)
  have HX0 := hide ((unhide HX).on hb0)
  have HZ0 := hide ((unhide HV).on hb0)
  clear hb0 HB HX HV
  have c3 : w2.cell? ⟨w.heap.size, 3, none⟩ = some (.slice ac X.cache.length cc) := (unhide HX0).cell rfl
  have d3 : w2.cell? ⟨w.heap.size + 1, 3, none⟩ = some (.slice ac' X.cache.length cc') := (unhide HZ0).cell rfl
  go_wp2_with fail
  refine (unhide HC1 _ ((unhide HY1).on (unhide HB0)) ((unhide HV1).on (unhide HB0))).mono ?_
  rintro e w3 ⟨rfl, hb1⟩
  have HB1 := hide (btG (unhide HB0) hb1)
  have HX1 := hide ((unhide HX0).on hb1)
  have HZ1 := hide ((unhide HZ0).on hb1)
  clear hb1 HB0 HX0 HZ0
  have c4 : w3.cell? ⟨w.heap.size, 4, none⟩ = some (.slice ah X.hosts.length ch) := (unhide HX1).cell rfl
  have d4 : w3.cell? ⟨w.heap.size + 1, 4, none⟩ = some (.slice ah' X.hosts.length ch') := (unhide HZ1).cell rfl
  go_wp2_with fail
  refine (unhide HC2 _ ((unhide HY2).on (unhide HB1)) ((unhide HV2).on (unhide HB1))).mono ?_
  rintro e w4 ⟨rfl, hb2⟩
  have HB2 := hide (btG (unhide HB1) hb2)
  have HX2 := hide ((unhide HX1).on hb2)
  have HZ2 := hide ((unhide HZ1).on hb2)
  clear hb2 HB1 HX1 HZ1
  have c5 : w4.cell? ⟨w.heap.size, 5, none⟩ = some (.slice al X.letters.length cl) := (unhide HX2).cell rfl
  have d5 : w4.cell? ⟨w.heap.size + 1, 5, none⟩ = some (.slice al' X.letters.length cl') := (unhide HZ2).cell rfl
  go_wp2_with fail
  refine (unhide HC3 _ ((unhide HY3).on (unhide HB2)) ((unhide HV3).on (unhide HB2))).mono ?_
  rintro e w5 ⟨rfl, hb3⟩
  have HB3 := hide (btG (unhide HB2) hb3)
  have HX3 := hide ((unhide HX2).on hb3)
  have HZ3 := hide ((unhide HZ2).on hb3)
  clear hb3 HB2 HX2 HZ2
  have c6 : w5.cell? ⟨w.heap.size, 6, none⟩ = some (.string X.book) := (unhide HX3).cell rfl
  have d6 : w5.cell? ⟨w.heap.size + 1, 6, none⟩ = some (.string X.book) := (unhide HZ3).cell rfl
  have c7 : w5.cell? ⟨w.heap.size, 7, none⟩ = some (.int .i64 X.sure) := (unhide HX3).cell rfl
  have d7 : w5.cell? ⟨w.heap.size + 1, 7, none⟩ = some (.int .i64 X.sure) := (unhide HZ3).cell rfl
  have c8 : w5.cell? ⟨w.heap.size, 8, none⟩ = some (.slice aa X.calls.length ca) := (unhide HX3).cell rfl
  have d8 : w5.cell? ⟨w.heap.size + 1, 8, none⟩ = some (.slice aa' X.calls.length ca') := (unhide HZ3).cell rfl
  go_wp2_with fail
  refine (unhide HC4 _ ((unhide HY4).on (unhide HB3)) ((unhide HV4).on (unhide HB3))).mono ?_
  rintro e w6 ⟨rfl, hb4⟩
  have HB4 := hide (btG (unhide HB3) hb4)
  have HX4 := hide ((unhide HX3).on hb4)
  have HZ4 := hide ((unhide HZ3).on hb4)
  clear hb4 HB3 HX3 HZ3
  have c9 : w6.cell? ⟨w.heap.size, 9, none⟩ = some (.slice az X.talks.length cz) := (unhide HX4).cell rfl
  have d9 : w6.cell? ⟨w.heap.size + 1, 9, none⟩ = some (.slice az' X.talks.length cz') := (unhide HZ4).cell rfl
  go_wp2_with fail
  refine (unhide HC5 _ ((unhide HY5).on (unhide HB4)) ((unhide HV5).on (unhide HB4))).mono ?_
  rintro e w7 ⟨rfl, hb5⟩
  have HB5 := hide (btG (unhide HB4) hb5)
  have HX5 := hide ((unhide HX4).on hb5)
  have HZ5 := hide ((unhide HZ4).on hb5)
  clear hb5 HB4 HX4 HZ4
  have c10 : w7.cell? ⟨w.heap.size, 10, none⟩ = some (.slice ai X.told.length ci) := (unhide HX5).cell rfl
  have d10 : w7.cell? ⟨w.heap.size + 1, 10, none⟩ = some (.slice ai' X.told.length ci') := (unhide HZ5).cell rfl
  go_wp2_with fail
  refine (unhide HC6 _ ((unhide HY6).on (unhide HB5)) ((unhide HV6).on (unhide HB5))).mono ?_
  rintro e w8 ⟨rfl, hb6⟩
  have HB6 := hide (btG (unhide HB5) hb6)
  have HX6 := hide ((unhide HX5).on hb6)
  have HZ6 := hide ((unhide HZ5).on hb6)
  clear hb6 HB5 HX5 HZ5
  go_wp2_with fail
  go_ret
  exact ⟨rfl, unhide HB6⟩

end Go.Proofs.Ytepmgjklonhkgaa
