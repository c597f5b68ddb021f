/- The walk of laws.toWorld: of whatever world lies in memory it makes the same one in new memory; nothing that was there is written. -/
import Derived.Test.YtepmgjklonhkgaaWwa
namespace Go.Proofs.Ytepmgjklonhkgaa
open Go.RowKit Go.Deep

theorem infoW : (Try.prog.info? 40).map (·.size) = some 11 := by kernel_rfl

set_option maxRecDepth 100000 in
set_option maxHeartbeats 4000000 in
theorem toWd (X : Wd) (cs : List Value) (w : World) (h : wdAt w 0 X cs) (hz : ww X ≤ 1048576) :
    Calls Try.prog 6 #[.agg cs.toArray] w fun e w' => ∃ ct, e = .returned (.agg ct.toArray) ∧ wdAt w' w.heap.size X ct ∧ Below w.heap.size w w' := by
  obtain ⟨hfit, ak, ck, ac, cc, ah, ch, al, cl, aa, ca, az, cz, ai, ci, rfl, hy0, hy1, hy2, hy3, hy4, hy5, hy6⟩ := h
  have HFT := hide hfit
  show Calls Try.prog 6 #[.agg #[.int .i64 X.time, .int .i64 X.fresh, .slice ak X.known.length ck, .slice ac X.cache.length cc, .slice ah X.hosts.length ch, .slice al X.letters.length cl, .string X.book, .int .i64 X.sure, .slice aa X.calls.length ca, .slice az X.talks.length cz, .slice ai X.told.length ci]] w _
  have hb0 : Below w.heap.size w (((w.alloc (.cells #[.int .i64 X.time, .int .i64 X.fresh, .slice ak X.known.length ck, .slice ac X.cache.length cc, .slice ah X.hosts.length ch, .slice al X.letters.length cl, .string X.book, .int .i64 X.sure, .slice aa X.calls.length ca, .slice az X.talks.length cz, .slice ai X.told.length ci] 30)).alloc (.cells #[.int .i64 0, .int .i64 0, .slice none 0 0, .slice none 0 0, .slice none 0 0, .slice none 0 0, .string ⟨#[]⟩, .int .i64 0, .slice none 0 0, .slice none 0 0, .slice none 0 0] 40)).alloc (.cells #[.int .i64 X.time, .int .i64 X.fresh, .slice none 0 0, .slice none 0 0, .slice none 0 0, .slice none 0 0, .string ⟨#[]⟩, .int .i64 0, .slice none 0 0, .slice none 0 0, .slice none 0 0] 40)) := btG (btG (abG _) (abG _)) (abG _)
  have HX : Hid (Box (((w.alloc (.cells #[.int .i64 X.time, .int .i64 X.fresh, .slice ak X.known.length ck, .slice ac X.cache.length cc, .slice ah X.hosts.length ch, .slice al X.letters.length cl, .string X.book, .int .i64 X.sure, .slice aa X.calls.length ca, .slice az X.talks.length cz, .slice ai X.told.length ci] 30)).alloc (.cells #[.int .i64 0, .int .i64 0, .slice none 0 0, .slice none 0 0, .slice none 0 0, .slice none 0 0, .string ⟨#[]⟩, .int .i64 0, .slice none 0 0, .slice none 0 0, .slice none 0 0] 40)).alloc (.cells #[.int .i64 X.time, .int .i64 X.fresh, .slice none 0 0, .slice none 0 0, .slice none 0 0, .slice none 0 0, .string ⟨#[]⟩, .int .i64 0, .slice none 0 0, .slice none 0 0, .slice none 0 0] 40)) w.heap.size 30 [.int .i64 X.time, .int .i64 X.fresh, .slice ak X.known.length ck, .slice ac X.cache.length cc, .slice ah X.hosts.length ch, .slice al X.letters.length cl, .string X.book, .int .i64 X.sure, .slice aa X.calls.length ca, .slice az X.talks.length cz, .slice ai X.told.length ci]) := ((Box.new w 30 [.int .i64 X.time, .int .i64 X.fresh, .slice ak X.known.length ck, .slice ac X.cache.length cc, .slice ah X.hosts.length ch, .slice al X.letters.length cl, .string X.book, .int .i64 X.sure, .slice aa X.calls.length ca, .slice az X.talks.length cz, .slice ai X.told.length ci]).on (abG (.cells #[.int .i64 0, .int .i64 0, .slice none 0 0, .slice none 0 0, .slice none 0 0, .slice none 0 0, .string ⟨#[]⟩, .int .i64 0, .slice none 0 0, .slice none 0 0, .slice none 0 0] 40))).on (abG (.cells #[.int .i64 X.time, .int .i64 X.fresh, .slice none 0 0, .slice none 0 0, .slice none 0 0, .slice none 0 0, .string ⟨#[]⟩, .int .i64 0, .slice none 0 0, .slice none 0 0, .slice none 0 0] 40))
  have HZ : Hid (Box (((w.alloc (.cells #[.int .i64 X.time, .int .i64 X.fresh, .slice ak X.known.length ck, .slice ac X.cache.length cc, .slice ah X.hosts.length ch, .slice al X.letters.length cl, .string X.book, .int .i64 X.sure, .slice aa X.calls.length ca, .slice az X.talks.length cz, .slice ai X.told.length ci] 30)).alloc (.cells #[.int .i64 0, .int .i64 0, .slice none 0 0, .slice none 0 0, .slice none 0 0, .slice none 0 0, .string ⟨#[]⟩, .int .i64 0, .slice none 0 0, .slice none 0 0, .slice none 0 0] 40)).alloc (.cells #[.int .i64 X.time, .int .i64 X.fresh, .slice none 0 0, .slice none 0 0, .slice none 0 0, .slice none 0 0, .string ⟨#[]⟩, .int .i64 0, .slice none 0 0, .slice none 0 0, .slice none 0 0] 40)) (w.heap.size + 1) 40 [.int .i64 0, .int .i64 0, .slice none 0 0, .slice none 0 0, .slice none 0 0, .slice none 0 0, .string ⟨#[]⟩, .int .i64 0, .slice none 0 0, .slice none 0 0, .slice none 0 0]) := by
    have := (Box.new (w.alloc (.cells #[.int .i64 X.time, .int .i64 X.fresh, .slice ak X.known.length ck, .slice ac X.cache.length cc, .slice ah X.hosts.length ch, .slice al X.letters.length cl, .string X.book, .int .i64 X.sure, .slice aa X.calls.length ca, .slice az X.talks.length cz, .slice ai X.told.length ci] 30)) 40 [.int .i64 0, .int .i64 0, .slice none 0 0, .slice none 0 0, .slice none 0 0, .slice none 0 0, .string ⟨#[]⟩, .int .i64 0, .slice none 0 0, .slice none 0 0, .slice none 0 0]).on (abG (.cells #[.int .i64 X.time, .int .i64 X.fresh, .slice none 0 0, .slice none 0 0, .slice none 0 0, .slice none 0 0, .string ⟨#[]⟩, .int .i64 0, .slice none 0 0, .slice none 0 0, .slice none 0 0] 40))
    rwa [heap_size_alloc] at this
  have HO : Hid (Box (((w.alloc (.cells #[.int .i64 X.time, .int .i64 X.fresh, .slice ak X.known.length ck, .slice ac X.cache.length cc, .slice ah X.hosts.length ch, .slice al X.letters.length cl, .string X.book, .int .i64 X.sure, .slice aa X.calls.length ca, .slice az X.talks.length cz, .slice ai X.told.length ci] 30)).alloc (.cells #[.int .i64 0, .int .i64 0, .slice none 0 0, .slice none 0 0, .slice none 0 0, .slice none 0 0, .string ⟨#[]⟩, .int .i64 0, .slice none 0 0, .slice none 0 0, .slice none 0 0] 40)).alloc (.cells #[.int .i64 X.time, .int .i64 X.fresh, .slice none 0 0, .slice none 0 0, .slice none 0 0, .slice none 0 0, .string ⟨#[]⟩, .int .i64 0, .slice none 0 0, .slice none 0 0, .slice none 0 0] 40)) (w.heap.size + 1 + 1) 40 [.int .i64 X.time, .int .i64 X.fresh, .slice none 0 0, .slice none 0 0, .slice none 0 0, .slice none 0 0, .string ⟨#[]⟩, .int .i64 0, .slice none 0 0, .slice none 0 0, .slice none 0 0]) := by
    have := Box.new ((w.alloc (.cells #[.int .i64 X.time, .int .i64 X.fresh, .slice ak X.known.length ck, .slice ac X.cache.length cc, .slice ah X.hosts.length ch, .slice al X.letters.length cl, .string X.book, .int .i64 X.sure, .slice aa X.calls.length ca, .slice az X.talks.length cz, .slice ai X.told.length ci] 30)).alloc (.cells #[.int .i64 0, .int .i64 0, .slice none 0 0, .slice none 0 0, .slice none 0 0, .slice none 0 0, .string ⟨#[]⟩, .int .i64 0, .slice none 0 0, .slice none 0 0, .slice none 0 0] 40)) 40 [.int .i64 X.time, .int .i64 X.fresh, .slice none 0 0, .slice none 0 0, .slice none 0 0, .slice none 0 0, .string ⟨#[]⟩, .int .i64 0, .slice none 0 0, .slice none 0 0, .slice none 0 0]
    rwa [heap_size_alloc, heap_size_alloc] at this
  have HB := hide hb0
  have HC0 := hide (fun v hv => toTms X.known ak ck v hv (show (X.known.length + Tm.wts X.known) ≤ 1048576 by unfold ww at hz; omega))
  have HY0 := hide hy0
  have HC1 := hide (fun v hv => toPos X.cache ac cc v hv (show (X.cache.length + ws pw X.cache) ≤ 1048576 by unfold ww at hz; omega))
  have HY1 := hide hy1
  have HC2 := hide (fun v hv => toHos X.hosts ah ch v hv (show (X.hosts.length + ws how X.hosts) ≤ 1048576 by unfold ww at hz; omega))
  have HY2 := hide hy2
  have HC3 := hide (fun v hv => toLes X.letters al cl v hv (show (X.letters.length + ws lew X.letters) ≤ 1048576 by unfold ww at hz; omega))
  have HY3 := hide hy3
  have HC4 := hide (fun v hv => toCas X.calls aa ca v hv (show (X.calls.length + ws caw X.calls) ≤ 1048576 by unfold ww at hz; omega))
  have HY4 := hide hy4
  have HC5 := hide (fun v hv => toTas X.talks az cz v hv (show (X.talks.length + ws taw X.talks) ≤ 1048576 by unfold ww at hz; omega))
  have HY5 := hide hy5
  have HC6 := hide (fun v hv => toI X.told ai ci v hv (show X.told.length ≤ 2097152 by unfold ww at hz; omega))
  have HY6 := hide hy6
  clear hb0 hfit hz hy0 hy1 hy2 hy3 hy4 hy5 hy6
  go_enter Try.func6, Try.ntmps6
  go_wp2_with fail
  refine (unhide HC0 _ ((unhide HY0).on (unhide HB))).mono ?_
  rintro e w2 ⟨rfl, hk0, hb0⟩
  obtain ⟨g0, hg0⟩ : ∃ g : Nat, g = (w.heap.size + 1 + 1 + 1) := ⟨_, rfl⟩
  simp only [heap_size_alloc] at hk0 hb0 ⊢
  rw [← hg0] at hk0 hb0 ⊢
  have hgz0 : w.heap.size + 3 ≤ g0 := by omega
  have hb0' : Below (((w.alloc (.cells #[.int .i64 X.time, .int .i64 X.fresh, .slice ak X.known.length ck, .slice ac X.cache.length cc, .slice ah X.hosts.length ch, .slice al X.letters.length cl, .string X.book, .int .i64 X.sure, .slice aa X.calls.length ca, .slice az X.talks.length cz, .slice ai X.told.length ci] 30)).alloc (.cells #[.int .i64 0, .int .i64 0, .slice none 0 0, .slice none 0 0, .slice none 0 0, .slice none 0 0, .string ⟨#[]⟩, .int .i64 0, .slice none 0 0, .slice none 0 0, .slice none 0 0] 40)).alloc (.cells #[.int .i64 X.time, .int .i64 X.fresh, .slice none 0 0, .slice none 0 0, .slice none 0 0, .slice none 0 0, .string ⟨#[]⟩, .int .i64 0, .slice none 0 0, .slice none 0 0, .slice none 0 0] 40)).heap.size (((w.alloc (.cells #[.int .i64 X.time, .int .i64 X.fresh, .slice ak X.known.length ck, .slice ac X.cache.length cc, .slice ah X.hosts.length ch, .slice al X.letters.length cl, .string X.book, .int .i64 X.sure, .slice aa X.calls.length ca, .slice az X.talks.length cz, .slice ai X.told.length ci] 30)).alloc (.cells #[.int .i64 0, .int .i64 0, .slice none 0 0, .slice none 0 0, .slice none 0 0, .slice none 0 0, .string ⟨#[]⟩, .int .i64 0, .slice none 0 0, .slice none 0 0, .slice none 0 0] 40)).alloc (.cells #[.int .i64 X.time, .int .i64 X.fresh, .slice none 0 0, .slice none 0 0, .slice none 0 0, .slice none 0 0, .string ⟨#[]⟩, .int .i64 0, .slice none 0 0, .slice none 0 0, .slice none 0 0] 40)) w2 := by simp only [heap_size_alloc]; rw [← hg0]; exact hb0
  have hsz0 : w.heap.size + 3 ≤ w2.heap.size := by have := hb0'.size; simp only [heap_size_alloc] at this; omega
  have HB0 := hide (btG (unhide HB) hb0')
  have HX0 := hide ((unhide HX).on hb0')
  have HZ0 := hide ((unhide HZ).on hb0')
  have HO0 := hide ((unhide HO).on hb0')
  have HK0_0 := hide (hk0.low hgz0)
  clear hk0 hb0 hb0' HB HX HZ HO hg0
  have HBv1 : Hid (Below w.heap.size w (w2.setCell ⟨w.heap.size + 1 + 1, 2, none⟩ (.slice (some ⟨g0, 0, none⟩) X.known.length X.known.length))) := setG (unhide HB0) (by omega)
  have HXv1 : Hid (Box (w2.setCell ⟨w.heap.size + 1 + 1, 2, none⟩ (.slice (some ⟨g0, 0, none⟩) X.known.length X.known.length)) w.heap.size 30 [.int .i64 X.time, .int .i64 X.fresh, .slice ak X.known.length ck, .slice ac X.cache.length cc, .slice ah X.hosts.length ch, .slice al X.letters.length cl, .string X.book, .int .i64 X.sure, .slice aa X.calls.length ca, .slice az X.talks.length cz, .slice ai X.told.length ci]) := (unhide HX0).far (by omega) _ _
  have HZv1 : Hid (Box (w2.setCell ⟨w.heap.size + 1 + 1, 2, none⟩ (.slice (some ⟨g0, 0, none⟩) X.known.length X.known.length)) (w.heap.size + 1) 40 [.int .i64 0, .int .i64 0, .slice none 0 0, .slice none 0 0, .slice none 0 0, .slice none 0 0, .string ⟨#[]⟩, .int .i64 0, .slice none 0 0, .slice none 0 0, .slice none 0 0]) := (unhide HZ0).far (by omega) _ _
  have HOv1 : Hid (Box (w2.setCell ⟨w.heap.size + 1 + 1, 2, none⟩ (.slice (some ⟨g0, 0, none⟩) X.known.length X.known.length)) (w.heap.size + 1 + 1) 40 [.int .i64 X.time, .int .i64 X.fresh, .slice (some ⟨g0, 0, none⟩) X.known.length X.known.length, .slice none 0 0, .slice none 0 0, .slice none 0 0, .string ⟨#[]⟩, .int .i64 0, .slice none 0 0, .slice none 0 0, .slice none 0 0]) := (unhide HO0).set _ _
  have HKv0_1 : Hid (tmK.Ls (w2.setCell ⟨w.heap.size + 1 + 1, 2, none⟩ (.slice (some ⟨g0, 0, none⟩) X.known.length X.known.length)) (w.heap.size + 3) (some ⟨g0, 0, none⟩) X.known) := (unhide HK0_0).set (by omega)
  have c3 : w2.cell? ⟨w.heap.size, 3, none⟩ = some (.slice ac X.cache.length cc) := (unhide HX0).cell rfl
  have d2 : w2.cell? ⟨w.heap.size + 1 + 1, 2, none⟩ = some (.slice none 0 0) := (unhide HO0).cell rfl
  have e2 : w2.frozen? ⟨w.heap.size + 1 + 1, 2, none⟩ = false := (unhide HO0).free _
  clear HX0 HZ0 HO0 HB0 HK0_0
  go_wp2_with fail
  clear c3 d2 e2
  refine (unhide HC1 _ ((unhide HY1).on (unhide HBv1))).mono ?_
  rintro e w3 ⟨rfl, hk1, hb1⟩
  obtain ⟨g1, hg1⟩ : ∃ g : Nat, g = w2.heap.size := ⟨_, rfl⟩
  simp only [size_setG] at hk1 hb1 ⊢
  rw [← hg1] at hk1 hb1 ⊢
  have hgz1 : w.heap.size + 3 ≤ g1 := by have := hsz0; omega
  have hb1' : Below (w2.setCell ⟨w.heap.size + 1 + 1, 2, none⟩ (.slice (some ⟨g0, 0, none⟩) X.known.length X.known.length)).heap.size (w2.setCell ⟨w.heap.size + 1 + 1, 2, none⟩ (.slice (some ⟨g0, 0, none⟩) X.known.length X.known.length)) w3 := by simp only [size_setG]; rw [← hg1]; exact hb1
  have hsz1 : w.heap.size + 3 ≤ w3.heap.size := by have := hb1'.size; simp only [size_setG] at this; omega
  have HB1 := hide (btG (unhide HBv1) hb1')
  have HX1 := hide ((unhide HXv1).on hb1')
  have HZ1 := hide ((unhide HZv1).on hb1')
  have HO1 := hide ((unhide HOv1).on hb1')
  have HK0_1 := hide ((unhide HKv0_1).on hb1')
  have HK1_1 := hide (hk1.low hgz1)
  clear hk1 hb1 hb1' HBv1 HXv1 HZv1 HOv1 hsz0 HKv0_1 hg1
  have HBv2 : Hid (Below w.heap.size w (w3.setCell ⟨w.heap.size + 1 + 1, 3, none⟩ (.slice (some ⟨g1, 0, none⟩) X.cache.length X.cache.length))) := setG (unhide HB1) (by omega)
  have HXv2 : Hid (Box (w3.setCell ⟨w.heap.size + 1 + 1, 3, none⟩ (.slice (some ⟨g1, 0, none⟩) X.cache.length X.cache.length)) w.heap.size 30 [.int .i64 X.time, .int .i64 X.fresh, .slice ak X.known.length ck, .slice ac X.cache.length cc, .slice ah X.hosts.length ch, .slice al X.letters.length cl, .string X.book, .int .i64 X.sure, .slice aa X.calls.length ca, .slice az X.talks.length cz, .slice ai X.told.length ci]) := (unhide HX1).far (by omega) _ _
  have HZv2 : Hid (Box (w3.setCell ⟨w.heap.size + 1 + 1, 3, none⟩ (.slice (some ⟨g1, 0, none⟩) X.cache.length X.cache.length)) (w.heap.size + 1) 40 [.int .i64 0, .int .i64 0, .slice none 0 0, .slice none 0 0, .slice none 0 0, .slice none 0 0, .string ⟨#[]⟩, .int .i64 0, .slice none 0 0, .slice none 0 0, .slice none 0 0]) := (unhide HZ1).far (by omega) _ _
  have HOv2 : Hid (Box (w3.setCell ⟨w.heap.size + 1 + 1, 3, none⟩ (.slice (some ⟨g1, 0, none⟩) X.cache.length X.cache.length)) (w.heap.size + 1 + 1) 40 [.int .i64 X.time, .int .i64 X.fresh, .slice (some ⟨g0, 0, none⟩) X.known.length X.known.length, .slice (some ⟨g1, 0, none⟩) X.cache.length X.cache.length, .slice none 0 0, .slice none 0 0, .string ⟨#[]⟩, .int .i64 0, .slice none 0 0, .slice none 0 0, .slice none 0 0]) := (unhide HO1).set _ _
  have HKv0_2 : Hid (tmK.Ls (w3.setCell ⟨w.heap.size + 1 + 1, 3, none⟩ (.slice (some ⟨g1, 0, none⟩) X.cache.length X.cache.length)) (w.heap.size + 3) (some ⟨g0, 0, none⟩) X.known) := (unhide HK0_1).set (by omega)
  have HKv1_2 : Hid (poK.Ls (w3.setCell ⟨w.heap.size + 1 + 1, 3, none⟩ (.slice (some ⟨g1, 0, none⟩) X.cache.length X.cache.length)) (w.heap.size + 3) (some ⟨g1, 0, none⟩) X.cache) := (unhide HK1_1).set (by omega)
  have c4 : w3.cell? ⟨w.heap.size, 4, none⟩ = some (.slice ah X.hosts.length ch) := (unhide HX1).cell rfl
  have d3 : w3.cell? ⟨w.heap.size + 1 + 1, 3, none⟩ = some (.slice none 0 0) := (unhide HO1).cell rfl
  have e3 : w3.frozen? ⟨w.heap.size + 1 + 1, 3, none⟩ = false := (unhide HO1).free _
  clear HX1 HZ1 HO1 HB1 HK0_1 HK1_1
  go_wp2_with fail
  clear c4 d3 e3
  refine (unhide HC2 _ ((unhide HY2).on (unhide HBv2))).mono ?_
  rintro e w4 ⟨rfl, hk2, hb2⟩
  obtain ⟨g2, hg2⟩ : ∃ g : Nat, g = w3.heap.size := ⟨_, rfl⟩
  simp only [size_setG] at hk2 hb2 ⊢
  rw [← hg2] at hk2 hb2 ⊢
  have hgz2 : w.heap.size + 3 ≤ g2 := by have := hsz1; omega
  have hb2' : Below (w3.setCell ⟨w.heap.size + 1 + 1, 3, none⟩ (.slice (some ⟨g1, 0, none⟩) X.cache.length X.cache.length)).heap.size (w3.setCell ⟨w.heap.size + 1 + 1, 3, none⟩ (.slice (some ⟨g1, 0, none⟩) X.cache.length X.cache.length)) w4 := by simp only [size_setG]; rw [← hg2]; exact hb2
  have hsz2 : w.heap.size + 3 ≤ w4.heap.size := by have := hb2'.size; simp only [size_setG] at this; omega
  have HB2 := hide (btG (unhide HBv2) hb2')
  have HX2 := hide ((unhide HXv2).on hb2')
  have HZ2 := hide ((unhide HZv2).on hb2')
  have HO2 := hide ((unhide HOv2).on hb2')
  have HK0_2 := hide ((unhide HKv0_2).on hb2')
  have HK1_2 := hide ((unhide HKv1_2).on hb2')
  have HK2_2 := hide (hk2.low hgz2)
  clear hk2 hb2 hb2' HBv2 HXv2 HZv2 HOv2 hsz1 HKv0_2 HKv1_2 hg2
  have HBv3 : Hid (Below w.heap.size w (w4.setCell ⟨w.heap.size + 1 + 1, 4, none⟩ (.slice (some ⟨g2, 0, none⟩) X.hosts.length X.hosts.length))) := setG (unhide HB2) (by omega)
  have HXv3 : Hid (Box (w4.setCell ⟨w.heap.size + 1 + 1, 4, none⟩ (.slice (some ⟨g2, 0, none⟩) X.hosts.length X.hosts.length)) w.heap.size 30 [.int .i64 X.time, .int .i64 X.fresh, .slice ak X.known.length ck, .slice ac X.cache.length cc, .slice ah X.hosts.length ch, .slice al X.letters.length cl, .string X.book, .int .i64 X.sure, .slice aa X.calls.length ca, .slice az X.talks.length cz, .slice ai X.told.length ci]) := (unhide HX2).far (by omega) _ _
  have HZv3 : Hid (Box (w4.setCell ⟨w.heap.size + 1 + 1, 4, none⟩ (.slice (some ⟨g2, 0, none⟩) X.hosts.length X.hosts.length)) (w.heap.size + 1) 40 [.int .i64 0, .int .i64 0, .slice none 0 0, .slice none 0 0, .slice none 0 0, .slice none 0 0, .string ⟨#[]⟩, .int .i64 0, .slice none 0 0, .slice none 0 0, .slice none 0 0]) := (unhide HZ2).far (by omega) _ _
  have HOv3 : Hid (Box (w4.setCell ⟨w.heap.size + 1 + 1, 4, none⟩ (.slice (some ⟨g2, 0, none⟩) X.hosts.length X.hosts.length)) (w.heap.size + 1 + 1) 40 [.int .i64 X.time, .int .i64 X.fresh, .slice (some ⟨g0, 0, none⟩) X.known.length X.known.length, .slice (some ⟨g1, 0, none⟩) X.cache.length X.cache.length, .slice (some ⟨g2, 0, none⟩) X.hosts.length X.hosts.length, .slice none 0 0, .string ⟨#[]⟩, .int .i64 0, .slice none 0 0, .slice none 0 0, .slice none 0 0]) := (unhide HO2).set _ _
  have HKv0_3 : Hid (tmK.Ls (w4.setCell ⟨w.heap.size + 1 + 1, 4, none⟩ (.slice (some ⟨g2, 0, none⟩) X.hosts.length X.hosts.length)) (w.heap.size + 3) (some ⟨g0, 0, none⟩) X.known) := (unhide HK0_2).set (by omega)
  have HKv1_3 : Hid (poK.Ls (w4.setCell ⟨w.heap.size + 1 + 1, 4, none⟩ (.slice (some ⟨g2, 0, none⟩) X.hosts.length X.hosts.length)) (w.heap.size + 3) (some ⟨g1, 0, none⟩) X.cache) := (unhide HK1_2).set (by omega)
  have HKv2_3 : Hid (hoK.Ls (w4.setCell ⟨w.heap.size + 1 + 1, 4, none⟩ (.slice (some ⟨g2, 0, none⟩) X.hosts.length X.hosts.length)) (w.heap.size + 3) (some ⟨g2, 0, none⟩) X.hosts) := (unhide HK2_2).set (by omega)
  have c5 : w4.cell? ⟨w.heap.size, 5, none⟩ = some (.slice al X.letters.length cl) := (unhide HX2).cell rfl
  have d4 : w4.cell? ⟨w.heap.size + 1 + 1, 4, none⟩ = some (.slice none 0 0) := (unhide HO2).cell rfl
  have e4 : w4.frozen? ⟨w.heap.size + 1 + 1, 4, none⟩ = false := (unhide HO2).free _
  clear HX2 HZ2 HO2 HB2 HK0_2 HK1_2 HK2_2
  go_wp2_with fail
  clear c5 d4 e4
  refine (unhide HC3 _ ((unhide HY3).on (unhide HBv3))).mono ?_
  rintro e w5 ⟨rfl, hk3, hb3⟩
  obtain ⟨g3, hg3⟩ : ∃ g : Nat, g = w4.heap.size := ⟨_, rfl⟩
  simp only [size_setG] at hk3 hb3 ⊢
  rw [← hg3] at hk3 hb3 ⊢
  have hgz3 : w.heap.size + 3 ≤ g3 := by have := hsz2; omega
  have hb3' : Below (w4.setCell ⟨w.heap.size + 1 + 1, 4, none⟩ (.slice (some ⟨g2, 0, none⟩) X.hosts.length X.hosts.length)).heap.size (w4.setCell ⟨w.heap.size + 1 + 1, 4, none⟩ (.slice (some ⟨g2, 0, none⟩) X.hosts.length X.hosts.length)) w5 := by simp only [size_setG]; rw [← hg3]; exact hb3
  have hsz3 : w.heap.size + 3 ≤ w5.heap.size := by have := hb3'.size; simp only [size_setG] at this; omega
  have HB3 := hide (btG (unhide HBv3) hb3')
  have HX3 := hide ((unhide HXv3).on hb3')
  have HZ3 := hide ((unhide HZv3).on hb3')
  have HO3 := hide ((unhide HOv3).on hb3')
  have HK0_3 := hide ((unhide HKv0_3).on hb3')
  have HK1_3 := hide ((unhide HKv1_3).on hb3')
  have HK2_3 := hide ((unhide HKv2_3).on hb3')
  have HK3_3 := hide (hk3.low hgz3)
  clear hk3 hb3 hb3' HBv3 HXv3 HZv3 HOv3 hsz2 HKv0_3 HKv1_3 HKv2_3 hg3
  have HBv4 : Hid (Below w.heap.size w (((w5.setCell ⟨w.heap.size + 1 + 1, 5, none⟩ (.slice (some ⟨g3, 0, none⟩) X.letters.length X.letters.length)).setCell ⟨w.heap.size + 1 + 1, 6, none⟩ (.string X.book)).setCell ⟨w.heap.size + 1 + 1, 7, none⟩ (.int .i64 X.sure))) := setG (setG (setG (unhide HB3) (by omega)) (by omega)) (by omega)
  have HXv4 : Hid (Box (((w5.setCell ⟨w.heap.size + 1 + 1, 5, none⟩ (.slice (some ⟨g3, 0, none⟩) X.letters.length X.letters.length)).setCell ⟨w.heap.size + 1 + 1, 6, none⟩ (.string X.book)).setCell ⟨w.heap.size + 1 + 1, 7, none⟩ (.int .i64 X.sure)) w.heap.size 30 [.int .i64 X.time, .int .i64 X.fresh, .slice ak X.known.length ck, .slice ac X.cache.length cc, .slice ah X.hosts.length ch, .slice al X.letters.length cl, .string X.book, .int .i64 X.sure, .slice aa X.calls.length ca, .slice az X.talks.length cz, .slice ai X.told.length ci]) := (((unhide HX3).far (by omega) _ _).far (by omega) _ _).far (by omega) _ _
  have HZv4 : Hid (Box (((w5.setCell ⟨w.heap.size + 1 + 1, 5, none⟩ (.slice (some ⟨g3, 0, none⟩) X.letters.length X.letters.length)).setCell ⟨w.heap.size + 1 + 1, 6, none⟩ (.string X.book)).setCell ⟨w.heap.size + 1 + 1, 7, none⟩ (.int .i64 X.sure)) (w.heap.size + 1) 40 [.int .i64 0, .int .i64 0, .slice none 0 0, .slice none 0 0, .slice none 0 0, .slice none 0 0, .string ⟨#[]⟩, .int .i64 0, .slice none 0 0, .slice none 0 0, .slice none 0 0]) := (((unhide HZ3).far (by omega) _ _).far (by omega) _ _).far (by omega) _ _
  have HOv4 : Hid (Box (((w5.setCell ⟨w.heap.size + 1 + 1, 5, none⟩ (.slice (some ⟨g3, 0, none⟩) X.letters.length X.letters.length)).setCell ⟨w.heap.size + 1 + 1, 6, none⟩ (.string X.book)).setCell ⟨w.heap.size + 1 + 1, 7, none⟩ (.int .i64 X.sure)) (w.heap.size + 1 + 1) 40 [.int .i64 X.time, .int .i64 X.fresh, .slice (some ⟨g0, 0, none⟩) X.known.length X.known.length, .slice (some ⟨g1, 0, none⟩) X.cache.length X.cache.length, .slice (some ⟨g2, 0, none⟩) X.hosts.length X.hosts.length, .slice (some ⟨g3, 0, none⟩) X.letters.length X.letters.length, .string X.book, .int .i64 X.sure, .slice none 0 0, .slice none 0 0, .slice none 0 0]) := (((unhide HO3).set _ _).set _ _).set _ _
  have HKv0_4 : Hid (tmK.Ls (((w5.setCell ⟨w.heap.size + 1 + 1, 5, none⟩ (.slice (some ⟨g3, 0, none⟩) X.letters.length X.letters.length)).setCell ⟨w.heap.size + 1 + 1, 6, none⟩ (.string X.book)).setCell ⟨w.heap.size + 1 + 1, 7, none⟩ (.int .i64 X.sure)) (w.heap.size + 3) (some ⟨g0, 0, none⟩) X.known) := (((unhide HK0_3).set (by omega)).set (by omega)).set (by omega)
  have HKv1_4 : Hid (poK.Ls (((w5.setCell ⟨w.heap.size + 1 + 1, 5, none⟩ (.slice (some ⟨g3, 0, none⟩) X.letters.length X.letters.length)).setCell ⟨w.heap.size + 1 + 1, 6, none⟩ (.string X.book)).setCell ⟨w.heap.size + 1 + 1, 7, none⟩ (.int .i64 X.sure)) (w.heap.size + 3) (some ⟨g1, 0, none⟩) X.cache) := (((unhide HK1_3).set (by omega)).set (by omega)).set (by omega)
  have HKv2_4 : Hid (hoK.Ls (((w5.setCell ⟨w.heap.size + 1 + 1, 5, none⟩ (.slice (some ⟨g3, 0, none⟩) X.letters.length X.letters.length)).setCell ⟨w.heap.size + 1 + 1, 6, none⟩ (.string X.book)).setCell ⟨w.heap.size + 1 + 1, 7, none⟩ (.int .i64 X.sure)) (w.heap.size + 3) (some ⟨g2, 0, none⟩) X.hosts) := (((unhide HK2_3).set (by omega)).set (by omega)).set (by omega)
  have HKv3_4 : Hid (leK.Ls (((w5.setCell ⟨w.heap.size + 1 + 1, 5, none⟩ (.slice (some ⟨g3, 0, none⟩) X.letters.length X.letters.length)).setCell ⟨w.heap.size + 1 + 1, 6, none⟩ (.string X.book)).setCell ⟨w.heap.size + 1 + 1, 7, none⟩ (.int .i64 X.sure)) (w.heap.size + 3) (some ⟨g3, 0, none⟩) X.letters) := (((unhide HK3_3).set (by omega)).set (by omega)).set (by omega)
  have c6 : w5.cell? ⟨w.heap.size, 6, none⟩ = some (.string X.book) := (unhide HX3).cell rfl
  have c7 : w5.cell? ⟨w.heap.size, 7, none⟩ = some (.int .i64 X.sure) := (unhide HX3).cell rfl
  have c8 : w5.cell? ⟨w.heap.size, 8, none⟩ = some (.slice aa X.calls.length ca) := (unhide HX3).cell rfl
  have d5 : w5.cell? ⟨w.heap.size + 1 + 1, 5, none⟩ = some (.slice none 0 0) := (unhide HO3).cell rfl
  have e5 : w5.frozen? ⟨w.heap.size + 1 + 1, 5, none⟩ = false := (unhide HO3).free _
  have d6 : w5.cell? ⟨w.heap.size + 1 + 1, 6, none⟩ = some (.string ⟨#[]⟩) := (unhide HO3).cell rfl
  have e6 : w5.frozen? ⟨w.heap.size + 1 + 1, 6, none⟩ = false := (unhide HO3).free _
  have d7 : w5.cell? ⟨w.heap.size + 1 + 1, 7, none⟩ = some (.int .i64 0) := (unhide HO3).cell rfl
  have e7 : w5.frozen? ⟨w.heap.size + 1 + 1, 7, none⟩ = false := (unhide HO3).free _
  clear HX3 HZ3 HO3 HB3 HK0_3 HK1_3 HK2_3 HK3_3
  go_wp2_with fail
  clear c6 c7 c8 d5 e5 d6 e6 d7 e7
  refine (unhide HC4 _ ((unhide HY4).on (unhide HBv4))).mono ?_
  rintro e w6 ⟨rfl, hk4, hb4⟩
  obtain ⟨g4, hg4⟩ : ∃ g : Nat, g = w5.heap.size := ⟨_, rfl⟩
  simp only [size_setG] at hk4 hb4 ⊢
  rw [← hg4] at hk4 hb4 ⊢
  have hgz4 : w.heap.size + 3 ≤ g4 := by have := hsz3; omega
  have hb4' : Below (((w5.setCell ⟨w.heap.size + 1 + 1, 5, none⟩ (.slice (some ⟨g3, 0, none⟩) X.letters.length X.letters.length)).setCell ⟨w.heap.size + 1 + 1, 6, none⟩ (.string X.book)).setCell ⟨w.heap.size + 1 + 1, 7, none⟩ (.int .i64 X.sure)).heap.size (((w5.setCell ⟨w.heap.size + 1 + 1, 5, none⟩ (.slice (some ⟨g3, 0, none⟩) X.letters.length X.letters.length)).setCell ⟨w.heap.size + 1 + 1, 6, none⟩ (.string X.book)).setCell ⟨w.heap.size + 1 + 1, 7, none⟩ (.int .i64 X.sure)) w6 := by simp only [size_setG]; rw [← hg4]; exact hb4
  have hsz4 : w.heap.size + 3 ≤ w6.heap.size := by have := hb4'.size; simp only [size_setG] at this; omega
  have HB4 := hide (btG (unhide HBv4) hb4')
  have HX4 := hide ((unhide HXv4).on hb4')
  have HZ4 := hide ((unhide HZv4).on hb4')
  have HO4 := hide ((unhide HOv4).on hb4')
  have HK0_4 := hide ((unhide HKv0_4).on hb4')
  have HK1_4 := hide ((unhide HKv1_4).on hb4')
  have HK2_4 := hide ((unhide HKv2_4).on hb4')
  have HK3_4 := hide ((unhide HKv3_4).on hb4')
  have HK4_4 := hide (hk4.low hgz4)
  clear hk4 hb4 hb4' HBv4 HXv4 HZv4 HOv4 hsz3 HKv0_4 HKv1_4 HKv2_4 HKv3_4 hg4
  have HBv5 : Hid (Below w.heap.size w (w6.setCell ⟨w.heap.size + 1 + 1, 8, none⟩ (.slice (some ⟨g4, 0, none⟩) X.calls.length X.calls.length))) := setG (unhide HB4) (by omega)
  have HXv5 : Hid (Box (w6.setCell ⟨w.heap.size + 1 + 1, 8, none⟩ (.slice (some ⟨g4, 0, none⟩) X.calls.length X.calls.length)) w.heap.size 30 [.int .i64 X.time, .int .i64 X.fresh, .slice ak X.known.length ck, .slice ac X.cache.length cc, .slice ah X.hosts.length ch, .slice al X.letters.length cl, .string X.book, .int .i64 X.sure, .slice aa X.calls.length ca, .slice az X.talks.length cz, .slice ai X.told.length ci]) := (unhide HX4).far (by omega) _ _
  have HZv5 : Hid (Box (w6.setCell ⟨w.heap.size + 1 + 1, 8, none⟩ (.slice (some ⟨g4, 0, none⟩) X.calls.length X.calls.length)) (w.heap.size + 1) 40 [.int .i64 0, .int .i64 0, .slice none 0 0, .slice none 0 0, .slice none 0 0, .slice none 0 0, .string ⟨#[]⟩, .int .i64 0, .slice none 0 0, .slice none 0 0, .slice none 0 0]) := (unhide HZ4).far (by omega) _ _
  have HOv5 : Hid (Box (w6.setCell ⟨w.heap.size + 1 + 1, 8, none⟩ (.slice (some ⟨g4, 0, none⟩) X.calls.length X.calls.length)) (w.heap.size + 1 + 1) 40 [.int .i64 X.time, .int .i64 X.fresh, .slice (some ⟨g0, 0, none⟩) X.known.length X.known.length, .slice (some ⟨g1, 0, none⟩) X.cache.length X.cache.length, .slice (some ⟨g2, 0, none⟩) X.hosts.length X.hosts.length, .slice (some ⟨g3, 0, none⟩) X.letters.length X.letters.length, .string X.book, .int .i64 X.sure, .slice (some ⟨g4, 0, none⟩) X.calls.length X.calls.length, .slice none 0 0, .slice none 0 0]) := (unhide HO4).set _ _
  have HKv0_5 : Hid (tmK.Ls (w6.setCell ⟨w.heap.size + 1 + 1, 8, none⟩ (.slice (some ⟨g4, 0, none⟩) X.calls.length X.calls.length)) (w.heap.size + 3) (some ⟨g0, 0, none⟩) X.known) := (unhide HK0_4).set (by omega)
  have HKv1_5 : Hid (poK.Ls (w6.setCell ⟨w.heap.size + 1 + 1, 8, none⟩ (.slice (some ⟨g4, 0, none⟩) X.calls.length X.calls.length)) (w.heap.size + 3) (some ⟨g1, 0, none⟩) X.cache) := (unhide HK1_4).set (by omega)
  have HKv2_5 : Hid (hoK.Ls (w6.setCell ⟨w.heap.size + 1 + 1, 8, none⟩ (.slice (some ⟨g4, 0, none⟩) X.calls.length X.calls.length)) (w.heap.size + 3) (some ⟨g2, 0, none⟩) X.hosts) := (unhide HK2_4).set (by omega)
  have HKv3_5 : Hid (leK.Ls (w6.setCell ⟨w.heap.size + 1 + 1, 8, none⟩ (.slice (some ⟨g4, 0, none⟩) X.calls.length X.calls.length)) (w.heap.size + 3) (some ⟨g3, 0, none⟩) X.letters) := (unhide HK3_4).set (by omega)
  have HKv4_5 : Hid (caK.Ls (w6.setCell ⟨w.heap.size + 1 + 1, 8, none⟩ (.slice (some ⟨g4, 0, none⟩) X.calls.length X.calls.length)) (w.heap.size + 3) (some ⟨g4, 0, none⟩) X.calls) := (unhide HK4_4).set (by omega)
  have c9 : w6.cell? ⟨w.heap.size, 9, none⟩ = some (.slice az X.talks.length cz) := (unhide HX4).cell rfl
  have d8 : w6.cell? ⟨w.heap.size + 1 + 1, 8, none⟩ = some (.slice none 0 0) := (unhide HO4).cell rfl
  have e8 : w6.frozen? ⟨w.heap.size + 1 + 1, 8, none⟩ = false := (unhide HO4).free _
  clear HX4 HZ4 HO4 HB4 HK0_4 HK1_4 HK2_4 HK3_4 HK4_4
  go_wp2_with fail
  clear c9 d8 e8
  refine (unhide HC5 _ ((unhide HY5).on (unhide HBv5))).mono ?_
  rintro e w7 ⟨rfl, hk5, hb5⟩
  obtain ⟨g5, hg5⟩ : ∃ g : Nat, g = w6.heap.size := ⟨_, rfl⟩
  simp only [size_setG] at hk5 hb5 ⊢
  rw [← hg5] at hk5 hb5 ⊢
  have hgz5 : w.heap.size + 3 ≤ g5 := by have := hsz4; omega
  have hb5' : Below (w6.setCell ⟨w.heap.size + 1 + 1, 8, none⟩ (.slice (some ⟨g4, 0, none⟩) X.calls.length X.calls.length)).heap.size (w6.setCell ⟨w.heap.size + 1 + 1, 8, none⟩ (.slice (some ⟨g4, 0, none⟩) X.calls.length X.calls.length)) w7 := by simp only [size_setG]; rw [← hg5]; exact hb5
  have hsz5 : w.heap.size + 3 ≤ w7.heap.size := by have := hb5'.size; simp only [size_setG] at this; omega
  have HB5 := hide (btG (unhide HBv5) hb5')
  have HX5 := hide ((unhide HXv5).on hb5')
  have HZ5 := hide ((unhide HZv5).on hb5')
  have HO5 := hide ((unhide HOv5).on hb5')
  have HK0_5 := hide ((unhide HKv0_5).on hb5')
  have HK1_5 := hide ((unhide HKv1_5).on hb5')
  have HK2_5 := hide ((unhide HKv2_5).on hb5')
  have HK3_5 := hide ((unhide HKv3_5).on hb5')
  have HK4_5 := hide ((unhide HKv4_5).on hb5')
  have HK5_5 := hide (hk5.low hgz5)
  clear hk5 hb5 hb5' HBv5 HXv5 HZv5 HOv5 hsz4 HKv0_5 HKv1_5 HKv2_5 HKv3_5 HKv4_5 hg5
  have HBv6 : Hid (Below w.heap.size w (w7.setCell ⟨w.heap.size + 1 + 1, 9, none⟩ (.slice (some ⟨g5, 0, none⟩) X.talks.length X.talks.length))) := setG (unhide HB5) (by omega)
  have HXv6 : Hid (Box (w7.setCell ⟨w.heap.size + 1 + 1, 9, none⟩ (.slice (some ⟨g5, 0, none⟩) X.talks.length X.talks.length)) w.heap.size 30 [.int .i64 X.time, .int .i64 X.fresh, .slice ak X.known.length ck, .slice ac X.cache.length cc, .slice ah X.hosts.length ch, .slice al X.letters.length cl, .string X.book, .int .i64 X.sure, .slice aa X.calls.length ca, .slice az X.talks.length cz, .slice ai X.told.length ci]) := (unhide HX5).far (by omega) _ _
  have HZv6 : Hid (Box (w7.setCell ⟨w.heap.size + 1 + 1, 9, none⟩ (.slice (some ⟨g5, 0, none⟩) X.talks.length X.talks.length)) (w.heap.size + 1) 40 [.int .i64 0, .int .i64 0, .slice none 0 0, .slice none 0 0, .slice none 0 0, .slice none 0 0, .string ⟨#[]⟩, .int .i64 0, .slice none 0 0, .slice none 0 0, .slice none 0 0]) := (unhide HZ5).far (by omega) _ _
  have HOv6 : Hid (Box (w7.setCell ⟨w.heap.size + 1 + 1, 9, none⟩ (.slice (some ⟨g5, 0, none⟩) X.talks.length X.talks.length)) (w.heap.size + 1 + 1) 40 [.int .i64 X.time, .int .i64 X.fresh, .slice (some ⟨g0, 0, none⟩) X.known.length X.known.length, .slice (some ⟨g1, 0, none⟩) X.cache.length X.cache.length, .slice (some ⟨g2, 0, none⟩) X.hosts.length X.hosts.length, .slice (some ⟨g3, 0, none⟩) X.letters.length X.letters.length, .string X.book, .int .i64 X.sure, .slice (some ⟨g4, 0, none⟩) X.calls.length X.calls.length, .slice (some ⟨g5, 0, none⟩) X.talks.length X.talks.length, .slice none 0 0]) := (unhide HO5).set _ _
  have HKv0_6 : Hid (tmK.Ls (w7.setCell ⟨w.heap.size + 1 + 1, 9, none⟩ (.slice (some ⟨g5, 0, none⟩) X.talks.length X.talks.length)) (w.heap.size + 3) (some ⟨g0, 0, none⟩) X.known) := (unhide HK0_5).set (by omega)
  have HKv1_6 : Hid (poK.Ls (w7.setCell ⟨w.heap.size + 1 + 1, 9, none⟩ (.slice (some ⟨g5, 0, none⟩) X.talks.length X.talks.length)) (w.heap.size + 3) (some ⟨g1, 0, none⟩) X.cache) := (unhide HK1_5).set (by omega)
  have HKv2_6 : Hid (hoK.Ls (w7.setCell ⟨w.heap.size + 1 + 1, 9, none⟩ (.slice (some ⟨g5, 0, none⟩) X.talks.length X.talks.length)) (w.heap.size + 3) (some ⟨g2, 0, none⟩) X.hosts) := (unhide HK2_5).set (by omega)
  have HKv3_6 : Hid (leK.Ls (w7.setCell ⟨w.heap.size + 1 + 1, 9, none⟩ (.slice (some ⟨g5, 0, none⟩) X.talks.length X.talks.length)) (w.heap.size + 3) (some ⟨g3, 0, none⟩) X.letters) := (unhide HK3_5).set (by omega)
  have HKv4_6 : Hid (caK.Ls (w7.setCell ⟨w.heap.size + 1 + 1, 9, none⟩ (.slice (some ⟨g5, 0, none⟩) X.talks.length X.talks.length)) (w.heap.size + 3) (some ⟨g4, 0, none⟩) X.calls) := (unhide HK4_5).set (by omega)
  have HKv5_6 : Hid (taK.Ls (w7.setCell ⟨w.heap.size + 1 + 1, 9, none⟩ (.slice (some ⟨g5, 0, none⟩) X.talks.length X.talks.length)) (w.heap.size + 3) (some ⟨g5, 0, none⟩) X.talks) := (unhide HK5_5).set (by omega)
  have c10 : w7.cell? ⟨w.heap.size, 10, none⟩ = some (.slice ai X.told.length ci) := (unhide HX5).cell rfl
  have d9 : w7.cell? ⟨w.heap.size + 1 + 1, 9, none⟩ = some (.slice none 0 0) := (unhide HO5).cell rfl
  have e9 : w7.frozen? ⟨w.heap.size + 1 + 1, 9, none⟩ = false := (unhide HO5).free _
  clear HX5 HZ5 HO5 HB5 HK0_5 HK1_5 HK2_5 HK3_5 HK4_5 HK5_5
  go_wp2_with fail
  clear c10 d9 e9
  refine (unhide HC6 _ ((unhide HY6).on (unhide HBv6))).mono ?_
  rintro e w8 ⟨rfl, hk6, hb6⟩
  obtain ⟨g6, hg6⟩ : ∃ g : Nat, g = w7.heap.size := ⟨_, rfl⟩
  simp only [size_setG] at hk6 hb6 ⊢
  rw [← hg6] at hk6 hb6 ⊢
  have hgz6 : w.heap.size + 3 ≤ g6 := by have := hsz5; omega
  have hb6' : Below (w7.setCell ⟨w.heap.size + 1 + 1, 9, none⟩ (.slice (some ⟨g5, 0, none⟩) X.talks.length X.talks.length)).heap.size (w7.setCell ⟨w.heap.size + 1 + 1, 9, none⟩ (.slice (some ⟨g5, 0, none⟩) X.talks.length X.talks.length)) w8 := by simp only [size_setG]; rw [← hg6]; exact hb6
  have hsz6 : w.heap.size + 3 ≤ w8.heap.size := by have := hb6'.size; simp only [size_setG] at this; omega
  have HB6 := hide (btG (unhide HBv6) hb6')
  have HX6 := hide ((unhide HXv6).on hb6')
  have HZ6 := hide ((unhide HZv6).on hb6')
  have HO6 := hide ((unhide HOv6).on hb6')
  have HK0_6 := hide ((unhide HKv0_6).on hb6')
  have HK1_6 := hide ((unhide HKv1_6).on hb6')
  have HK2_6 := hide ((unhide HKv2_6).on hb6')
  have HK3_6 := hide ((unhide HKv3_6).on hb6')
  have HK4_6 := hide ((unhide HKv4_6).on hb6')
  have HK5_6 := hide ((unhide HKv5_6).on hb6')
  have HK6_6 := hide (hk6.low hgz6)
  clear hk6 hb6 hb6' HBv6 HXv6 HZv6 HOv6 hsz5 HKv0_6 HKv1_6 HKv2_6 HKv3_6 HKv4_6 HKv5_6 hg6
  have HBv7 : Hid (Below w.heap.size w (w8.setCell ⟨w.heap.size + 1 + 1, 10, none⟩ (.slice (some ⟨g6, 0, none⟩) X.told.length X.told.length))) := setG (unhide HB6) (by omega)
  have HZv7 : Hid (Box (w8.setCell ⟨w.heap.size + 1 + 1, 10, none⟩ (.slice (some ⟨g6, 0, none⟩) X.told.length X.told.length)) (w.heap.size + 1) 40 [.int .i64 0, .int .i64 0, .slice none 0 0, .slice none 0 0, .slice none 0 0, .slice none 0 0, .string ⟨#[]⟩, .int .i64 0, .slice none 0 0, .slice none 0 0, .slice none 0 0]) := (unhide HZ6).far (by omega) _ _
  have HOv7 : Hid (Box (w8.setCell ⟨w.heap.size + 1 + 1, 10, none⟩ (.slice (some ⟨g6, 0, none⟩) X.told.length X.told.length)) (w.heap.size + 1 + 1) 40 [.int .i64 X.time, .int .i64 X.fresh, .slice (some ⟨g0, 0, none⟩) X.known.length X.known.length, .slice (some ⟨g1, 0, none⟩) X.cache.length X.cache.length, .slice (some ⟨g2, 0, none⟩) X.hosts.length X.hosts.length, .slice (some ⟨g3, 0, none⟩) X.letters.length X.letters.length, .string X.book, .int .i64 X.sure, .slice (some ⟨g4, 0, none⟩) X.calls.length X.calls.length, .slice (some ⟨g5, 0, none⟩) X.talks.length X.talks.length, .slice (some ⟨g6, 0, none⟩) X.told.length X.told.length]) := (unhide HO6).set _ _
  have HKv0_7 : Hid (tmK.Ls (w8.setCell ⟨w.heap.size + 1 + 1, 10, none⟩ (.slice (some ⟨g6, 0, none⟩) X.told.length X.told.length)) (w.heap.size + 3) (some ⟨g0, 0, none⟩) X.known) := (unhide HK0_6).set (by omega)
  have HKv1_7 : Hid (poK.Ls (w8.setCell ⟨w.heap.size + 1 + 1, 10, none⟩ (.slice (some ⟨g6, 0, none⟩) X.told.length X.told.length)) (w.heap.size + 3) (some ⟨g1, 0, none⟩) X.cache) := (unhide HK1_6).set (by omega)
  have HKv2_7 : Hid (hoK.Ls (w8.setCell ⟨w.heap.size + 1 + 1, 10, none⟩ (.slice (some ⟨g6, 0, none⟩) X.told.length X.told.length)) (w.heap.size + 3) (some ⟨g2, 0, none⟩) X.hosts) := (unhide HK2_6).set (by omega)
  have HKv3_7 : Hid (leK.Ls (w8.setCell ⟨w.heap.size + 1 + 1, 10, none⟩ (.slice (some ⟨g6, 0, none⟩) X.told.length X.told.length)) (w.heap.size + 3) (some ⟨g3, 0, none⟩) X.letters) := (unhide HK3_6).set (by omega)
  have HKv4_7 : Hid (caK.Ls (w8.setCell ⟨w.heap.size + 1 + 1, 10, none⟩ (.slice (some ⟨g6, 0, none⟩) X.told.length X.told.length)) (w.heap.size + 3) (some ⟨g4, 0, none⟩) X.calls) := (unhide HK4_6).set (by omega)
  have HKv5_7 : Hid (taK.Ls (w8.setCell ⟨w.heap.size + 1 + 1, 10, none⟩ (.slice (some ⟨g6, 0, none⟩) X.told.length X.told.length)) (w.heap.size + 3) (some ⟨g5, 0, none⟩) X.talks) := (unhide HK5_6).set (by omega)
  have HKv6_7 : Hid (Ints (w8.setCell ⟨w.heap.size + 1 + 1, 10, none⟩ (.slice (some ⟨g6, 0, none⟩) X.told.length X.told.length)) (w.heap.size + 3) (some ⟨g6, 0, none⟩) X.told) := (unhide HK6_6).set (by omega)
  have d10 : w8.cell? ⟨w.heap.size + 1 + 1, 10, none⟩ = some (.slice none 0 0) := (unhide HO6).cell rfl
  have e10 : w8.frozen? ⟨w.heap.size + 1 + 1, 10, none⟩ = false := (unhide HO6).free _
  clear HX6 HZ6 HO6 HB6 HK0_6 HK1_6 HK2_6 HK3_6 HK4_6 HK5_6 HK6_6
  go_wp2_with (first
  | (refine wpList_load_box rfl _ rfl (w.heap.size + 1 + 1) 0 [.int .i64 X.time, .int .i64 X.fresh, .slice (some ⟨g0, 0, none⟩) X.known.length X.known.length, .slice (some ⟨g1, 0, none⟩) X.cache.length X.cache.length, .slice (some ⟨g2, 0, none⟩) X.hosts.length X.hosts.length, .slice (some ⟨g3, 0, none⟩) X.letters.length X.letters.length, .string X.book, .int .i64 X.sure, .slice (some ⟨g4, 0, none⟩) X.calls.length X.calls.length, .slice (some ⟨g5, 0, none⟩) X.talks.length X.talks.length, .slice (some ⟨g6, 0, none⟩) X.told.length X.told.length] (unhide HOv7) (fun j v hj => (by rw [Nat.zero_add]; exact hj)) rfl Try.underlying40 rfl infoW ?_)
  | (refine wpList_store_box rfl _ _ rfl (w.heap.size + 1) 0 [.int .i64 X.time, .int .i64 X.fresh, .slice (some ⟨g0, 0, none⟩) X.known.length X.known.length, .slice (some ⟨g1, 0, none⟩) X.cache.length X.cache.length, .slice (some ⟨g2, 0, none⟩) X.hosts.length X.hosts.length, .slice (some ⟨g3, 0, none⟩) X.letters.length X.letters.length, .string X.book, .int .i64 X.sure, .slice (some ⟨g4, 0, none⟩) X.calls.length X.calls.length, .slice (some ⟨g5, 0, none⟩) X.talks.length X.talks.length, .slice (some ⟨g6, 0, none⟩) X.told.length X.told.length] (unhide HZv7) (by simp) rfl rfl infoW (by simp [Value.oneCell']) ?_
     intro V hV
     have HZV : Hid (Box V (w.heap.size + 1) 40 [.int .i64 X.time, .int .i64 X.fresh, .slice (some ⟨g0, 0, none⟩) X.known.length X.known.length, .slice (some ⟨g1, 0, none⟩) X.cache.length X.cache.length, .slice (some ⟨g2, 0, none⟩) X.hosts.length X.hosts.length, .slice (some ⟨g3, 0, none⟩) X.letters.length X.letters.length, .string X.book, .int .i64 X.sure, .slice (some ⟨g4, 0, none⟩) X.calls.length X.calls.length, .slice (some ⟨g5, 0, none⟩) X.talks.length X.talks.length, .slice (some ⟨g6, 0, none⟩) X.told.length X.told.length]) := (by rw [hV]; exact Box.sets [.int .i64 X.time, .int .i64 X.fresh, .slice (some ⟨g0, 0, none⟩) X.known.length X.known.length, .slice (some ⟨g1, 0, none⟩) X.cache.length X.cache.length, .slice (some ⟨g2, 0, none⟩) X.hosts.length X.hosts.length, .slice (some ⟨g3, 0, none⟩) X.letters.length X.letters.length, .string X.book, .int .i64 X.sure, .slice (some ⟨g4, 0, none⟩) X.calls.length X.calls.length, .slice (some ⟨g5, 0, none⟩) X.talks.length X.talks.length, .slice (some ⟨g6, 0, none⟩) X.told.length X.told.length] 0 _ _ (unhide HZv7))
     have HBV : Hid (Below w.heap.size w V) := (by rw [hV]; exact setsG (unhide HBv7) (by omega))
     have HKV0 : Hid (tmK.Ls V (w.heap.size + 3) (some ⟨g0, 0, none⟩) X.known) := (by rw [hV]; exact (unhide HKv0_7).sets (by omega))
     have HKV1 : Hid (poK.Ls V (w.heap.size + 3) (some ⟨g1, 0, none⟩) X.cache) := (by rw [hV]; exact (unhide HKv1_7).sets (by omega))
     have HKV2 : Hid (hoK.Ls V (w.heap.size + 3) (some ⟨g2, 0, none⟩) X.hosts) := (by rw [hV]; exact (unhide HKv2_7).sets (by omega))
     have HKV3 : Hid (leK.Ls V (w.heap.size + 3) (some ⟨g3, 0, none⟩) X.letters) := (by rw [hV]; exact (unhide HKv3_7).sets (by omega))
     have HKV4 : Hid (caK.Ls V (w.heap.size + 3) (some ⟨g4, 0, none⟩) X.calls) := (by rw [hV]; exact (unhide HKv4_7).sets (by omega))
     have HKV5 : Hid (taK.Ls V (w.heap.size + 3) (some ⟨g5, 0, none⟩) X.talks) := (by rw [hV]; exact (unhide HKv5_7).sets (by omega))
     have HKV6 : Hid (Ints V (w.heap.size + 3) (some ⟨g6, 0, none⟩) X.told) := (by rw [hV]; exact (unhide HKv6_7).sets (by omega))
     clear hV HBv7 HZv7 HOv7 HKv0_7 HKv1_7 HKv2_7 HKv3_7 HKv4_7 HKv5_7 HKv6_7))
  exact bodyPost_ret (v := .agg [.int .i64 X.time, .int .i64 X.fresh, .slice (some ⟨g0, 0, none⟩) X.known.length X.known.length, .slice (some ⟨g1, 0, none⟩) X.cache.length X.cache.length, .slice (some ⟨g2, 0, none⟩) X.hosts.length X.hosts.length, .slice (some ⟨g3, 0, none⟩) X.letters.length X.letters.length, .string X.book, .int .i64 X.sure, .slice (some ⟨g4, 0, none⟩) X.calls.length X.calls.length, .slice (some ⟨g5, 0, none⟩) X.talks.length X.talks.length, .slice (some ⟨g6, 0, none⟩) X.told.length X.told.length].toArray) (results_box Try.results6 (unhide HZV) rfl Try.underlying40 rfl infoW) rfl ⟨_, rfl, ⟨unhide HFT, _, _, _, _, _, _, _, _, _, _, _, _, _, _, rfl, (unhide HKV0).low (by omega), (unhide HKV1).low (by omega), (unhide HKV2).low (by omega), (unhide HKV3).low (by omega), (unhide HKV4).low (by omega), (unhide HKV5).low (by omega), (unhide HKV6).low (by omega)⟩, unhide HBV⟩

end Go.Proofs.Ytepmgjklonhkgaa
