
/- The walks of spec.HelloOf, impl.pubOfHello and impl.HelloOf: the open half of which a term is the greeting, and true; else zero and false; the second in new blocks of its own; nothing that was there is written. -/
import Derived.Test.YtmklgikbajhcpaaGreatDoorG4
import Derived.Test.YtmklgikbajhcpaaGreatDoorG2
import Derived.Deep.RegionHeld3
import Derived.Deep.RegionWith
import Derived.Deep.DeepCutAuto
namespace Go.Proofs.YtmklgikbajhcpaaGreatDoor
open Go.RowKit Go.Deep

/-- The open half of which a term is the greeting. -/
def helloO (t : Tm) : Option Tm := (behO 3 (textT helloW) t).bind fun k => if k.opOf = 4 then some k else none
theorem helloO_some {t k : Tm} (h : helloO t = some k) : behO 3 (textT helloW) t = some k ∧ k.opOf = 4 ∧ okT k = true := by
  obtain ⟨y, h1, h2⟩ := Option.bind_eq_some_iff.1 h
  split at h2
  · rename_i h4
    obtain rfl : y = k := by simpa using h2
    obtain ⟨n, s, k0, rfl, hok, _⟩ := behO_some h1
    exact ⟨h1, h4, okT_kid hok (by simp)⟩
  · cases h2
theorem helloO_none {t : Tm} (h : helloO t = none) : behO 3 (textT helloW) t = none ∨ ∃ k, behO 3 (textT helloW) t = some k ∧ k.opOf ≠ 4 := by
  cases hb : behO 3 (textT helloW) t with
  | none => exact Or.inl rfl
  | some k =>
    refine Or.inr ⟨k, rfl, fun h4 => ?_⟩
    simp [helloO, hb, h4] at h

set_option maxRecDepth 100000 in
set_option maxHeartbeats 2000000 in
theorem helloOfS_no1 (t : Tm) (op n : Int) (s : ByteArray) (a : Option Addr) (len cap : Nat) (w : World) (hl : Lies w 0 t (tmCells op n s a len cap)) (hsz : t.size ≤ 2097152) (hb : behO 3 (textT helloW) t = none) :
    Calls Tryz.prog 25 #[.agg #[.int .i64 op, .int .i64 n, .string s, .slice a len cap]] w fun e w' => e = .returned (.tuple #[.agg #[.int .i64 0, .int .i64 0, .string ByteArray.empty, .slice none 0 0], .bool false]) ∧ Below w.heap.size w w' := by
  have hB0 : Below w.heap.size w ((w.alloc (.cells #[.int .i64 op, .int .i64 n, .string s, .slice a len cap] 29)).alloc (.cells #[.int .i64 0, .int .i64 0, .string ByteArray.empty, .slice none 0 0] 29)) := bt (ab _) (ab _) (Nat.le_refl _)
  have HX : Hid (ZBox ((w.alloc (.cells #[.int .i64 op, .int .i64 n, .string s, .slice a len cap] 29)).alloc (.cells #[.int .i64 0, .int .i64 0, .string ByteArray.empty, .slice none 0 0] 29)) (w.heap.size + 1)) := by
    have := ZBox.new (w.alloc (.cells #[.int .i64 op, .int .i64 n, .string s, .slice a len cap] 29))
    rwa [heap_size_alloc] at this
  have HS0 : Hid (((w.alloc (.cells #[.int .i64 op, .int .i64 n, .string s, .slice a len cap] 29)).alloc (.cells #[.int .i64 0, .int .i64 0, .string ByteArray.empty, .slice none 0 0] 29)).heap.size = w.heap.size + 2) := by show _ = _; simp
  have HRA : Hid (RowT 29 ((w.alloc (.cells #[.int .i64 op, .int .i64 n, .string s, .slice a len cap] 29)).alloc (.cells #[.int .i64 0, .int .i64 0, .string ByteArray.empty, .slice none 0 0] 29)) w.heap.size op n s a len cap) := (RowT.new 29 w op n s a len cap).below (ab _)
  have h34 := hide (fun V h => named_none t helloW (by decide) op n s a len cap V h hsz hb)
  have HLA := hide (hl.below hB0)
  have HB0 := hide hB0
  clear hl hsz hb hB0 HRA
  go_enter Tryz.func25, Tryz.ntmps25
  go_wp2_with fail
  refine (unhide h34 _ (unhide HLA)).mono ?_
  rintro e w2 ⟨rfl, hb2⟩
  have HB2 := hide (bt (unhide HB0) hb2 (Nat.le_refl _))
  have HX2 := hide ((unhide HX).below hb2)
  obtain ⟨d0, d1, d2, d3, e0, e1, e2, e3⟩ := (unhide HX2).facts
  have hlt := lt_of_heap (unhide HX2)
  have hne := Nat.ne_of_lt hlt
  have hne' := Ne.symm hne
  clear hb2
  go_wp2_with fail
  have hK := (RowT.fill (ty := 29) (show RowT 29 w2 (w.heap.size + 1) 0 0 ByteArray.empty none 0 0 from unhide HX2) 0 0 ⟨#[]⟩ none 0 0).below (ab (.cells #[.int .i64 0, .int .i64 0, .string ByteArray.empty, .slice none 0 0] 29))
  obtain ⟨k0, k1, k2, k3⟩ := hK.facts
  exact bodyPost_ret (v := .tuple #[.agg #[.int .i64 0, .int .i64 0, .string ByteArray.empty, .slice none 0 0], .bool false]) (by simp [results, Tryz.results25, go_sem, k0, k1, k2, k3]; try rfl) rfl ⟨rfl, bt (set4_below (unhide HB2) (by omega)) (ab _) (Nat.le_refl _)⟩

set_option maxRecDepth 100000 in
set_option maxHeartbeats 2000000 in
theorem helloOfS_no2 (t : Tm) (op n : Int) (s : ByteArray) (a : Option Addr) (len cap : Nat) (w : World) (hl : Lies w 0 t (tmCells op n s a len cap)) (hsz : t.size ≤ 2097152) (k : Tm) (hb : behO 3 (textT helloW) t = some k) (h4 : k.opOf ≠ 4) :
    Calls Tryz.prog 25 #[.agg #[.int .i64 op, .int .i64 n, .string s, .slice a len cap]] w fun e w' => e = .returned (.tuple #[.agg #[.int .i64 0, .int .i64 0, .string ByteArray.empty, .slice none 0 0], .bool false]) ∧ Below w.heap.size w w' := by
  have hB0 : Below w.heap.size w ((w.alloc (.cells #[.int .i64 op, .int .i64 n, .string s, .slice a len cap] 29)).alloc (.cells #[.int .i64 0, .int .i64 0, .string ByteArray.empty, .slice none 0 0] 29)) := bt (ab _) (ab _) (Nat.le_refl _)
  have HX : Hid (ZBox ((w.alloc (.cells #[.int .i64 op, .int .i64 n, .string s, .slice a len cap] 29)).alloc (.cells #[.int .i64 0, .int .i64 0, .string ByteArray.empty, .slice none 0 0] 29)) (w.heap.size + 1)) := by
    have := ZBox.new (w.alloc (.cells #[.int .i64 op, .int .i64 n, .string s, .slice a len cap] 29))
    rwa [heap_size_alloc] at this
  have HS0 : Hid (((w.alloc (.cells #[.int .i64 op, .int .i64 n, .string s, .slice a len cap] 29)).alloc (.cells #[.int .i64 0, .int .i64 0, .string ByteArray.empty, .slice none 0 0] 29)).heap.size = w.heap.size + 2) := by show _ = _; simp
  have HRA : Hid (RowT 29 ((w.alloc (.cells #[.int .i64 op, .int .i64 n, .string s, .slice a len cap] 29)).alloc (.cells #[.int .i64 0, .int .i64 0, .string ByteArray.empty, .slice none 0 0] 29)) w.heap.size op n s a len cap) := (RowT.new 29 w op n s a len cap).below (ab _)
  have h34 := hide (fun V h => named_some t k helloW (by decide) op n s a len cap V h hsz hb)
  have HLA := hide (hl.below hB0)
  have HB0 := hide hB0
  clear hl hsz hb hB0 HRA
  go_enter Tryz.func25, Tryz.ntmps25
  go_wp2_with fail
  refine (unhide h34 _ (unhide HLA)).mono ?_
  rintro e w2 ⟨op4, n4, s4, a4, len4, cap4, rfl, hL4, hb2⟩
  have HO4 : Hid (op4 = k.opOf) := lies_opOf hL4
  have HB2 := hide (bt (unhide HB0) hb2 (Nat.le_refl _))
  have HX2 := hide ((unhide HX).below hb2)
  have HL4 := hide (hL4.below hb2)
  obtain ⟨d0, d1, d2, d3, e0, e1, e2, e3⟩ := (unhide HX2).facts
  have hlt := lt_of_heap (unhide HX2)
  have hne := Nat.ne_of_lt hlt
  have hne' := Ne.symm hne
  have q4 : (op4 != 4) = true := by rw [unhide HO4]; simpa using h4
  clear hb2 hL4
  go_wp2_with fail
  have hK := (RowT.fill (ty := 29) (show RowT 29 w2 (w.heap.size + 1) 0 0 ByteArray.empty none 0 0 from unhide HX2) 0 0 ⟨#[]⟩ none 0 0).below (ab (.cells #[.int .i64 op4, .int .i64 n4, .string s4, .slice a4 len4 cap4] 29))
  obtain ⟨k0, k1, k2, k3⟩ := hK.facts
  exact bodyPost_ret (v := .tuple #[.agg #[.int .i64 0, .int .i64 0, .string ByteArray.empty, .slice none 0 0], .bool false]) (by simp [results, Tryz.results25, go_sem, k0, k1, k2, k3]; try rfl) rfl ⟨rfl, bt (set4_below (unhide HB2) (by omega)) (ab _) (Nat.le_refl _)⟩

set_option maxRecDepth 100000 in
set_option maxHeartbeats 2000000 in
theorem helloOfS_yes (t : Tm) (op n : Int) (s : ByteArray) (a : Option Addr) (len cap : Nat) (w : World) (hl : Lies w 0 t (tmCells op n s a len cap)) (hsz : t.size ≤ 2097152) (k : Tm) (hb : behO 3 (textT helloW) t = some k) (h4 : k.opOf = 4) (hk : k.size ≤ 200) :
    Calls Tryz.prog 25 #[.agg #[.int .i64 op, .int .i64 n, .string s, .slice a len cap]] w fun e w' => ∃ op' n' s' a' len' cap', e = .returned (.tuple #[.agg #[.int .i64 op', .int .i64 n', .string s', .slice a' len' cap'], .bool true]) ∧ Lies w' 0 k (tmCells op' n' s' a' len' cap') ∧ Below w.heap.size w w' := by
  have hB0 : Below w.heap.size w ((w.alloc (.cells #[.int .i64 op, .int .i64 n, .string s, .slice a len cap] 29)).alloc (.cells #[.int .i64 0, .int .i64 0, .string ByteArray.empty, .slice none 0 0] 29)) := bt (ab _) (ab _) (Nat.le_refl _)
  have HX : Hid (ZBox ((w.alloc (.cells #[.int .i64 op, .int .i64 n, .string s, .slice a len cap] 29)).alloc (.cells #[.int .i64 0, .int .i64 0, .string ByteArray.empty, .slice none 0 0] 29)) (w.heap.size + 1)) := by
    have := ZBox.new (w.alloc (.cells #[.int .i64 op, .int .i64 n, .string s, .slice a len cap] 29))
    rwa [heap_size_alloc] at this
  have HS0 : Hid (((w.alloc (.cells #[.int .i64 op, .int .i64 n, .string s, .slice a len cap] 29)).alloc (.cells #[.int .i64 0, .int .i64 0, .string ByteArray.empty, .slice none 0 0] 29)).heap.size = w.heap.size + 2) := by show _ = _; simp
  have HRA : Hid (RowT 29 ((w.alloc (.cells #[.int .i64 op, .int .i64 n, .string s, .slice a len cap] 29)).alloc (.cells #[.int .i64 0, .int .i64 0, .string ByteArray.empty, .slice none 0 0] 29)) w.heap.size op n s a len cap) := (RowT.new 29 w op n s a len cap).below (ab _)
  have h34 := hide (fun V h => named_some t k helloW (by decide) op n s a len cap V h hsz hb)
  have HLA := hide (hl.below hB0)
  have HB0 := hide hB0
  clear hl hsz hb hB0 HRA
  go_enter Tryz.func25, Tryz.ntmps25
  go_wp2_with fail
  refine (unhide h34 _ (unhide HLA)).mono ?_
  rintro e w2 ⟨op4, n4, s4, a4, len4, cap4, rfl, hL4, hb2⟩
  have HO4 : Hid (op4 = k.opOf) := lies_opOf hL4
  have HB2 := hide (bt (unhide HB0) hb2 (Nat.le_refl _))
  have HX2 := hide ((unhide HX).below hb2)
  have HL4 := hide (hL4.below hb2)
  obtain ⟨d0, d1, d2, d3, e0, e1, e2, e3⟩ := (unhide HX2).facts
  have hlt := lt_of_heap (unhide HX2)
  have hne := Nat.ne_of_lt hlt
  have hne' := Ne.symm hne
  have q4 : (op4 != 4) = false := by rw [unhide HO4]; simpa using h4
  clear hb2 hL4
  have h35 := hide (fun V h => cz_calls k op4 n4 s4 a4 len4 cap4 V h (by omega))
  have HB3 := hide (bt (unhide HB2) (ab (.cells #[.int .i64 op4, .int .i64 n4, .string s4, .slice a4 len4 cap4] 29)) (Nat.le_refl _))
  have HX3 := hide ((unhide HX2).below (ab (.cells #[.int .i64 op4, .int .i64 n4, .string s4, .slice a4 len4 cap4] 29)))
  have HL5 := hide ((unhide HL4).below (ab (.cells #[.int .i64 op4, .int .i64 n4, .string s4, .slice a4 len4 cap4] 29)))
  clear HB2 HX2 HL4 hk
  go_wp2_with fail
  refine (unhide h35 _ (unhide HL5)).mono ?_
  rintro e w3 ⟨a5, cap5, f5, rfl, hO5, ⟨_, hge⟩, hb3⟩
  have HB4 := hide (bt (unhide HB3) hb3 (Nat.le_refl _))
  have HX4 := hide ((unhide HX3).below hb3)
  have HO5 := hide hO5
  have HGE := hide hge
  clear d0 d1 d2 d3 e0 e1 e2 e3 hO5 hge hb3 HB3 HX3
  obtain ⟨d0, d1, d2, d3, e0, e1, e2, e3⟩ := (unhide HX4).facts
  go_wp2_with fail
  exact bodyPost_ret (v := .tuple #[.agg #[.int .i64 op4, .int .i64 n4, .string s4, .slice a5 len4 cap5], .bool true]) (by simp [results, Tryz.results25, go_sem, d0, d1, d2, d3]; try rfl) rfl ⟨_, _, _, _, _, _, rfl, (Own.keep _ _ _ (unhide HO5) (fun b hb => set4_heap _ _ _ _ _ _ b (by have := unhide HGE b hb; simp only [heap_size_alloc] at this; omega))).lies0, set4_below (unhide HB4) (by omega)⟩

/-- The box of what came, and what came beside it. -/
def CutB (w2 : World) (op n : Int) (s : ByteArray) (a : Option Addr) (len cap : Nat) (ev : Value) (p q : Value) (wx : World) : Prop := ∃ b, p = .pointer (some ⟨b, 0, none⟩) ∧ q = ev ∧ w2.heap.size ≤ b ∧ RowT 29 wx b op n s a len cap ∧ Below w2.heap.size w2 wx
theorem CutB.late {w2 w5 : World} {op n : Int} {s : ByteArray} {a : Option Addr} {len cap : Nat} {ev : Value} (hb : Below w2.heap.size w2 w5) : CutB w2 op n s a len cap ev (.pointer (some ⟨w5.heap.size, 0, none⟩)) ev (w5.alloc (.cells #[.int .i64 op, .int .i64 n, .string s, .slice a len cap] 29)) :=
  ⟨_, rfl, rfl, hb.size, RowT.new 29 w5 op n s a len cap, bt hb (ab _) (Nat.le_refl _)⟩
theorem CutB.early {w2 w5 : World} {g : Nat} {op n : Int} {s : ByteArray} {a : Option Addr} {len cap : Nat} {ev : Value} (hb : Below w2.heap.size w2 w5) (hz : ZBox w5 g) (hg : w2.heap.size ≤ g) : CutB w2 op n s a len cap ev (.pointer (some ⟨g, 0, none⟩)) ev ((((w5.setCell ⟨g, 0, none⟩ (.int .i64 op)).setCell ⟨g, 1, none⟩ (.int .i64 n)).setCell ⟨g, 2, none⟩ (.string s)).setCell ⟨g, 3, none⟩ (.slice a len cap)) :=
  ⟨_, rfl, rfl, hg, fill26 hz op n s a len cap, set4_below hb hg⟩

set_option maxRecDepth 100000 in
set_option maxHeartbeats 2000000 in
theorem pubOf_no1 (t : Tm) (op n : Int) (s : ByteArray) (a : Option Addr) (len cap : Nat) (x : Addr) (w : World) (he : ErrAt x w) (hl : Lies w 0 t (tmCells op n s a len cap)) (hsz : t.size ≤ 2097152) (hb : behO 3 (textT helloW) t = none) :
    Calls Tryz.prog 88 #[.agg #[.int .i64 op, .int .i64 n, .string s, .slice a len cap]] w fun e w' => e = .returned (.tuple #[.agg #[.int .i64 0, .int .i64 0, .string ByteArray.empty, .slice none 0 0], .iface 202 (.pointer (some x))]) ∧ Below w.heap.size w w' := by
  have hB0 : Below w.heap.size w ((w.alloc (.cells #[.int .i64 op, .int .i64 n, .string s, .slice a len cap] 29)).alloc (.cells #[.int .i64 0, .int .i64 0, .string ByteArray.empty, .slice none 0 0] 29)) := bt (ab _) (ab _) (Nat.le_refl _)
  have HX : Hid (ZBox ((w.alloc (.cells #[.int .i64 op, .int .i64 n, .string s, .slice a len cap] 29)).alloc (.cells #[.int .i64 0, .int .i64 0, .string ByteArray.empty, .slice none 0 0] 29)) (w.heap.size + 1)) := by
    have := ZBox.new (w.alloc (.cells #[.int .i64 op, .int .i64 n, .string s, .slice a len cap] 29))
    rwa [heap_size_alloc] at this
  have HRA : Hid (RowT 29 ((w.alloc (.cells #[.int .i64 op, .int .i64 n, .string s, .slice a len cap] 29)).alloc (.cells #[.int .i64 0, .int .i64 0, .string ByteArray.empty, .slice none 0 0] 29)) w.heap.size op n s a len cap) := (RowT.new 29 w op n s a len cap).below (ab _)
  have h32 := hide (wordI (⟨#[104, 101, 108, 108, 111]⟩ : ByteArray))
  have h50 := hide (fun V (hV : Below w.heap.size w V) => behind_none 3 (Or.inl rfl) (textT helloW) t 2 0 (⟨#[104, 101, 108, 108, 111]⟩ : ByteArray) none 0 0 op n s a len cap x V (he.on hV) (text_lies helloW (by decide) V) (hl.below hV) hsz hb)
  have HER := hide he
  have HB0 := hide hB0
  clear hl hsz hb hB0 he
  go_enter Tryz.func88, Tryz.ntmps88
  go_wp2_with fail
  generalize hgw : ((w.alloc (.cells #[.int .i64 op, .int .i64 n, .string s, .slice a len cap] 29)).alloc (.cells #[.int .i64 0, .int .i64 0, .string ByteArray.empty, .slice none 0 0] 29)) = W0 at *
  refine gw_world hgw ?_
  clear hgw
  obtain ⟨c0, c1, c2, c3⟩ := (unhide HRA).facts
  have hx0 := lt_of_cell c0
  have hxn0 := Nat.ne_of_lt hx0
  have hxm0 := Ne.symm hxn0
  go_cut [4, 5] (fun p q wx => CutB W0 0 0 ByteArray.empty none 0 0 (.iface 202 (.pointer (some x))) p q wx)
  case first =>
    go_region_held3 (fun x => x.cell? ⟨w.heap.size, 0, none⟩ = some (.int .i64 op) ∧ x.cell? ⟨w.heap.size, 1, none⟩ = some (.int .i64 n) ∧ x.cell? ⟨w.heap.size, 2, none⟩ = some (.string s) ∧ x.cell? ⟨w.heap.size, 3, none⟩ = some (.slice a len cap)) (go_keep)
      (first
        | (go_at_call 92
           refine (unhide h32 _).mono ?_
           rintro e w2 ⟨rfl, hb2⟩
           try have zz2 := hide ((ZBox.new W0).drew.below hb2)
           have hb02 : Hid (Below W0.heap.size W0 w2) := by
             first
               | exact below_drew' hb2
               | exact bt (ab _) (below_drew' hb2) (Nat.le_refl _)
           have f0 := kpc (unhide hb02) c0
           have f1 := kpc (unhide hb02) c1
           have f2 := kpc (unhide hb02) c2
           have f3 := kpc (unhide hb02) c3
           have hy0 := lt_of_cell f0
           have hyn0 := Nat.ne_of_lt hy0
           have hym0 := Ne.symm hyn0)
        | (go_at_call 131
           refine (unhide h50 _ ?_).mono ?_
           first
             | exact bt (unhide HB0) (unhide hb02) (Nat.le_refl _)
             | exact bt (bt (unhide HB0) (unhide hb02) (Nat.le_refl _)) (ab _) (Nat.le_refl _)
           rintro e w3 ⟨rfl, hb3⟩
           try have zz3 := hide ((unhide zz2).below hb3)
           try have zz3 := hide ((ZBox.new w2).below hb3)
           have hb23 : Hid (Below w2.heap.size w2 w3) := by
             first
               | exact hb3
               | exact bt (ab _) hb3 (Nat.le_refl _)
           have g0 := kpc (unhide hb23) f0
           have g1 := kpc (unhide hb23) f1
           have g2 := kpc (unhide hb23) f2
           have g3 := kpc (unhide hb23) f3
           try obtain ⟨p0, p1, p2, p3, q0, q1, q2, q3⟩ := (unhide zz3).facts
           have hz0 := lt_of_cell g0
           have hzn0 := Nat.ne_of_lt hz0
           have hzm0 := Ne.symm hzn0))
    all_goals
      go_wp2_with fail
      go_meet
      have hb03 := bt (unhide hb02) (unhide hb23) (Nat.le_refl _)
      have s02 := (unhide hb02).size
      first
        | (with_reducible refine CutB.late ?_
           exact hb03)
        | (with_reducible refine CutB.early ?_ ?_ ?_
           exact hb03
           exact unhide zz3
           omega)
  case rest =>
    obtain ⟨bW, rfl, rfl, hge, hRW, hbc⟩ := hcut
    have HB2 := hide (bt (unhide HB0) hbc (Nat.le_refl _))
    have HX2 := hide ((unhide HX).below hbc)
    have hs1 := lt_of_heap (unhide HX)
    have hne : bW ≠ w.heap.size + 1 := by omega
    have hne' := Ne.symm hne
    obtain ⟨d0, d1, d2, d3, e0, e1, e2, e3⟩ := (unhide HX2).facts
    clear hbc hRW c0 c1 c2 c3
    go_wp2_with fail
    exact bodyPost_ret (v := .tuple #[.agg #[.int .i64 0, .int .i64 0, .string ByteArray.empty, .slice none 0 0], .iface 202 (.pointer (some x))]) (by simp [results, Tryz.results88, go_sem, d0, d1, d2, d3]; try rfl) rfl ⟨rfl, set4_below (unhide HB2) (by omega)⟩

set_option maxRecDepth 100000 in
set_option maxHeartbeats 2000000 in
theorem pubOf_no2 (k0 k : Tm) (n : Int) (s : ByteArray) (b q cap2 : Nat) (op3 n3 : Int) (s3 : ByteArray) (a3 : Option Addr) (len3 cap3 : Nat) (op4 n4 : Int) (s4 : ByteArray) (a4 : Option Addr) (len4 cap4 : Nat) (x : Addr) (w : World) (he : ErrAt x w) (hl : Lies w 0 (.node 3 n s [k0, k]) (tmCells 3 n s (some ⟨b, q, none⟩) 2 cap2)) (hsz : (Tm.node 3 n s [k0, k]).size ≤ 2097152) (hok : okT (.node 3 n s [k0, k]) = true)
    (r0 : w.cell? ⟨b, q, none⟩ = some (.int .i64 op3)) (r1 : w.cell? ⟨b, q + 1, none⟩ = some (.int .i64 n3)) (r2 : w.cell? ⟨b, q + 2, none⟩ = some (.string s3)) (r3 : w.cell? ⟨b, q + 3, none⟩ = some (.slice a3 len3 cap3)) (r4 : w.cell? ⟨b, q + 4, none⟩ = some (.int .i64 op4)) (r5 : w.cell? ⟨b, q + 5, none⟩ = some (.int .i64 n4)) (r6 : w.cell? ⟨b, q + 6, none⟩ = some (.string s4)) (r7 : w.cell? ⟨b, q + 7, none⟩ = some (.slice a4 len4 cap4)) (hk0 : Lies w 0 k0 (tmCells op3 n3 s3 a3 len3 cap3)) (hsm : sameB k0 (textT helloW) = true) (h4 : op4 ≠ 4) :
    Calls Tryz.prog 88 #[.agg #[.int .i64 3, .int .i64 n, .string s, .slice (some ⟨b, q, none⟩) 2 cap2]] w fun e w' => e = .returned (.tuple #[.agg #[.int .i64 0, .int .i64 0, .string ByteArray.empty, .slice none 0 0], .iface 202 (.pointer (some x))]) ∧ Below w.heap.size w w' := by
  have hB0 : Below w.heap.size w ((w.alloc (.cells #[.int .i64 3, .int .i64 n, .string s, .slice (some ⟨b, q, none⟩) 2 cap2] 29)).alloc (.cells #[.int .i64 0, .int .i64 0, .string ByteArray.empty, .slice none 0 0] 29)) := bt (ab _) (ab _) (Nat.le_refl _)
  have HX : Hid (ZBox ((w.alloc (.cells #[.int .i64 3, .int .i64 n, .string s, .slice (some ⟨b, q, none⟩) 2 cap2] 29)).alloc (.cells #[.int .i64 0, .int .i64 0, .string ByteArray.empty, .slice none 0 0] 29)) (w.heap.size + 1)) := by
    have := ZBox.new (w.alloc (.cells #[.int .i64 3, .int .i64 n, .string s, .slice (some ⟨b, q, none⟩) 2 cap2] 29))
    rwa [heap_size_alloc] at this
  have HRA : Hid (RowT 29 ((w.alloc (.cells #[.int .i64 3, .int .i64 n, .string s, .slice (some ⟨b, q, none⟩) 2 cap2] 29)).alloc (.cells #[.int .i64 0, .int .i64 0, .string ByteArray.empty, .slice none 0 0] 29)) w.heap.size 3 n s (some ⟨b, q, none⟩) 2 cap2) := (RowT.new 29 w 3 n s (some ⟨b, q, none⟩) 2 cap2).below (ab _)
  have h32 := hide (wordI (⟨#[104, 101, 108, 108, 111]⟩ : ByteArray))
  have h50 := hide (fun V (hV : Below w.heap.size w V) => behind_yes (textT helloW) k0 k 2 0 (⟨#[104, 101, 108, 108, 111]⟩ : ByteArray) none 0 0 3 n s b q cap2 op3 n3 s3 a3 len3 cap3 op4 n4 s4 a4 len4 cap4 x V (he.on hV) (text_lies helloW (by decide) V) (hl.below hV) hsz hok (kpc hV r0) (kpc hV r1) (kpc hV r2) (kpc hV r3) (hk0.below hV) (kpc hV r4) (kpc hV r5) (kpc hV r6) (kpc hV r7) hsm)
  have HER := hide he
  have HB0 := hide hB0
  have q4 : (op4 != 4) = true := by simpa using h4
  clear h4
  clear hl hsz hok hB0 he hk0 hsm r0 r1 r2 r3 r4 r5 r6 r7
  go_enter Tryz.func88, Tryz.ntmps88
  go_wp2_with fail
  generalize hgw : ((w.alloc (.cells #[.int .i64 3, .int .i64 n, .string s, .slice (some ⟨b, q, none⟩) 2 cap2] 29)).alloc (.cells #[.int .i64 0, .int .i64 0, .string ByteArray.empty, .slice none 0 0] 29)) = W0 at *
  refine gw_world hgw ?_
  clear hgw
  obtain ⟨c0, c1, c2, c3⟩ := (unhide HRA).facts
  have hx0 := lt_of_cell c0
  have hxn0 := Nat.ne_of_lt hx0
  have hxm0 := Ne.symm hxn0
  go_cut [4, 5] (fun p q wx => CutB W0 op4 n4 s4 a4 len4 cap4 .nilIface p q wx)
  case first =>
    go_region_held3 (fun x => x.cell? ⟨w.heap.size, 0, none⟩ = some (.int .i64 3) ∧ x.cell? ⟨w.heap.size, 1, none⟩ = some (.int .i64 n) ∧ x.cell? ⟨w.heap.size, 2, none⟩ = some (.string s) ∧ x.cell? ⟨w.heap.size, 3, none⟩ = some (.slice (some ⟨b, q, none⟩) 2 cap2)) (go_keep)
      (first
        | (go_at_call 92
           refine (unhide h32 _).mono ?_
           rintro e w2 ⟨rfl, hb2⟩
           try have zz2 := hide ((ZBox.new W0).drew.below hb2)
           have hb02 : Hid (Below W0.heap.size W0 w2) := by
             first
               | exact below_drew' hb2
               | exact bt (ab _) (below_drew' hb2) (Nat.le_refl _)
           have f0 := kpc (unhide hb02) c0
           have f1 := kpc (unhide hb02) c1
           have f2 := kpc (unhide hb02) c2
           have f3 := kpc (unhide hb02) c3
           have hy0 := lt_of_cell f0
           have hyn0 := Nat.ne_of_lt hy0
           have hym0 := Ne.symm hyn0)
        | (go_at_call 131
           refine (unhide h50 _ ?_).mono ?_
           first
             | exact bt (unhide HB0) (unhide hb02) (Nat.le_refl _)
             | exact bt (bt (unhide HB0) (unhide hb02) (Nat.le_refl _)) (ab _) (Nat.le_refl _)
           rintro e w3 ⟨rfl, hb3⟩
           try have zz3 := hide ((unhide zz2).below hb3)
           try have zz3 := hide ((ZBox.new w2).below hb3)
           have hb23 : Hid (Below w2.heap.size w2 w3) := by
             first
               | exact hb3
               | exact bt (ab _) hb3 (Nat.le_refl _)
           have g0 := kpc (unhide hb23) f0
           have g1 := kpc (unhide hb23) f1
           have g2 := kpc (unhide hb23) f2
           have g3 := kpc (unhide hb23) f3
           try obtain ⟨p0, p1, p2, p3, q0, q1, q2, q3⟩ := (unhide zz3).facts
           have hz0 := lt_of_cell g0
           have hzn0 := Nat.ne_of_lt hz0
           have hzm0 := Ne.symm hzn0))
    all_goals
      go_wp2_with fail
      go_meet
      have hb03 := bt (unhide hb02) (unhide hb23) (Nat.le_refl _)
      have s02 := (unhide hb02).size
      first
        | (with_reducible refine CutB.late ?_
           exact hb03)
        | (with_reducible refine CutB.early ?_ ?_ ?_
           exact hb03
           exact unhide zz3
           omega)
  case rest =>
    obtain ⟨bW, rfl, rfl, hge, hRW, hbc⟩ := hcut
    have HB2 := hide (bt (unhide HB0) hbc (Nat.le_refl _))
    have HX2 := hide ((unhide HX).below hbc)
    have hs1 := lt_of_heap (unhide HX)
    have hne : bW ≠ w.heap.size + 1 := by omega
    have hne' := Ne.symm hne
    obtain ⟨d0, d1, d2, d3, e0, e1, e2, e3⟩ := (unhide HX2).facts
    obtain ⟨r0, r1, r2, r3⟩ := hRW.facts
    have g0 := ((unhide HER).on (unhide HB2)).cell
    have hz1 : (w.heap.size + 1 = 0) = False := by simp
    have hz2 : (0 = w.heap.size + 1) = False := by simp
    clear hbc hRW c0 c1 c2 c3
    go_wp2_with fail
    go_region
    all_goals go_wp2_with fail
    all_goals
      exact bodyPost_ret (v := .tuple #[.agg #[.int .i64 0, .int .i64 0, .string ByteArray.empty, .slice none 0 0], .iface 202 (.pointer (some x))]) (by simp [results, Tryz.results88, go_sem, d0, d1, d2, d3]; try rfl) rfl ⟨rfl, set4_below (unhide HB2).drew (by omega)⟩

set_option maxRecDepth 100000 in
set_option maxHeartbeats 2000000 in
theorem pubOf_yes (k0 k : Tm) (n : Int) (s : ByteArray) (b q cap2 : Nat) (op3 n3 : Int) (s3 : ByteArray) (a3 : Option Addr) (len3 cap3 : Nat) (op4 n4 : Int) (s4 : ByteArray) (a4 : Option Addr) (len4 cap4 : Nat) (x : Addr) (w : World) (he : ErrAt x w) (hl : Lies w 0 (.node 3 n s [k0, k]) (tmCells 3 n s (some ⟨b, q, none⟩) 2 cap2)) (hsz : (Tm.node 3 n s [k0, k]).size ≤ 2097152) (hok : okT (.node 3 n s [k0, k]) = true)
    (r0 : w.cell? ⟨b, q, none⟩ = some (.int .i64 op3)) (r1 : w.cell? ⟨b, q + 1, none⟩ = some (.int .i64 n3)) (r2 : w.cell? ⟨b, q + 2, none⟩ = some (.string s3)) (r3 : w.cell? ⟨b, q + 3, none⟩ = some (.slice a3 len3 cap3)) (r4 : w.cell? ⟨b, q + 4, none⟩ = some (.int .i64 op4)) (r5 : w.cell? ⟨b, q + 5, none⟩ = some (.int .i64 n4)) (r6 : w.cell? ⟨b, q + 6, none⟩ = some (.string s4)) (r7 : w.cell? ⟨b, q + 7, none⟩ = some (.slice a4 len4 cap4)) (hk0 : Lies w 0 k0 (tmCells op3 n3 s3 a3 len3 cap3)) (hsm : sameB k0 (textT helloW) = true) (h4 : op4 = 4) :
    Calls Tryz.prog 88 #[.agg #[.int .i64 3, .int .i64 n, .string s, .slice (some ⟨b, q, none⟩) 2 cap2]] w fun e w' => e = .returned (.tuple #[.agg #[.int .i64 op4, .int .i64 n4, .string s4, .slice a4 len4 cap4], .nilIface]) ∧ Below w.heap.size w w' := by
  have hB0 : Below w.heap.size w ((w.alloc (.cells #[.int .i64 3, .int .i64 n, .string s, .slice (some ⟨b, q, none⟩) 2 cap2] 29)).alloc (.cells #[.int .i64 0, .int .i64 0, .string ByteArray.empty, .slice none 0 0] 29)) := bt (ab _) (ab _) (Nat.le_refl _)
  have HX : Hid (ZBox ((w.alloc (.cells #[.int .i64 3, .int .i64 n, .string s, .slice (some ⟨b, q, none⟩) 2 cap2] 29)).alloc (.cells #[.int .i64 0, .int .i64 0, .string ByteArray.empty, .slice none 0 0] 29)) (w.heap.size + 1)) := by
    have := ZBox.new (w.alloc (.cells #[.int .i64 3, .int .i64 n, .string s, .slice (some ⟨b, q, none⟩) 2 cap2] 29))
    rwa [heap_size_alloc] at this
  have HRA : Hid (RowT 29 ((w.alloc (.cells #[.int .i64 3, .int .i64 n, .string s, .slice (some ⟨b, q, none⟩) 2 cap2] 29)).alloc (.cells #[.int .i64 0, .int .i64 0, .string ByteArray.empty, .slice none 0 0] 29)) w.heap.size 3 n s (some ⟨b, q, none⟩) 2 cap2) := (RowT.new 29 w 3 n s (some ⟨b, q, none⟩) 2 cap2).below (ab _)
  have h32 := hide (wordI (⟨#[104, 101, 108, 108, 111]⟩ : ByteArray))
  have h50 := hide (fun V (hV : Below w.heap.size w V) => behind_yes (textT helloW) k0 k 2 0 (⟨#[104, 101, 108, 108, 111]⟩ : ByteArray) none 0 0 3 n s b q cap2 op3 n3 s3 a3 len3 cap3 op4 n4 s4 a4 len4 cap4 x V (he.on hV) (text_lies helloW (by decide) V) (hl.below hV) hsz hok (kpc hV r0) (kpc hV r1) (kpc hV r2) (kpc hV r3) (hk0.below hV) (kpc hV r4) (kpc hV r5) (kpc hV r6) (kpc hV r7) hsm)
  have HER := hide he
  have HB0 := hide hB0
  have q4 : (op4 != 4) = false := by simpa using h4
  clear h4
  clear hl hsz hok hB0 he hk0 hsm r0 r1 r2 r3 r4 r5 r6 r7
  go_enter Tryz.func88, Tryz.ntmps88
  go_wp2_with fail
  generalize hgw : ((w.alloc (.cells #[.int .i64 3, .int .i64 n, .string s, .slice (some ⟨b, q, none⟩) 2 cap2] 29)).alloc (.cells #[.int .i64 0, .int .i64 0, .string ByteArray.empty, .slice none 0 0] 29)) = W0 at *
  refine gw_world hgw ?_
  clear hgw
  obtain ⟨c0, c1, c2, c3⟩ := (unhide HRA).facts
  have hx0 := lt_of_cell c0
  have hxn0 := Nat.ne_of_lt hx0
  have hxm0 := Ne.symm hxn0
  go_cut [4, 5] (fun p q wx => CutB W0 op4 n4 s4 a4 len4 cap4 .nilIface p q wx)
  case first =>
    go_region_held3 (fun x => x.cell? ⟨w.heap.size, 0, none⟩ = some (.int .i64 3) ∧ x.cell? ⟨w.heap.size, 1, none⟩ = some (.int .i64 n) ∧ x.cell? ⟨w.heap.size, 2, none⟩ = some (.string s) ∧ x.cell? ⟨w.heap.size, 3, none⟩ = some (.slice (some ⟨b, q, none⟩) 2 cap2)) (go_keep)
      (first
        | (go_at_call 92
           refine (unhide h32 _).mono ?_
           rintro e w2 ⟨rfl, hb2⟩
           try have zz2 := hide ((ZBox.new W0).drew.below hb2)
           have hb02 : Hid (Below W0.heap.size W0 w2) := by
             first
               | exact below_drew' hb2
               | exact bt (ab _) (below_drew' hb2) (Nat.le_refl _)
           have f0 := kpc (unhide hb02) c0
           have f1 := kpc (unhide hb02) c1
           have f2 := kpc (unhide hb02) c2
           have f3 := kpc (unhide hb02) c3
           have hy0 := lt_of_cell f0
           have hyn0 := Nat.ne_of_lt hy0
           have hym0 := Ne.symm hyn0)
        | (go_at_call 131
           refine (unhide h50 _ ?_).mono ?_
           first
             | exact bt (unhide HB0) (unhide hb02) (Nat.le_refl _)
             | exact bt (bt (unhide HB0) (unhide hb02) (Nat.le_refl _)) (ab _) (Nat.le_refl _)
           rintro e w3 ⟨rfl, hb3⟩
           try have zz3 := hide ((unhide zz2).below hb3)
           try have zz3 := hide ((ZBox.new w2).below hb3)
           have hb23 : Hid (Below w2.heap.size w2 w3) := by
             first
               | exact hb3
               | exact bt (ab _) hb3 (Nat.le_refl _)
           have g0 := kpc (unhide hb23) f0
           have g1 := kpc (unhide hb23) f1
           have g2 := kpc (unhide hb23) f2
           have g3 := kpc (unhide hb23) f3
           try obtain ⟨p0, p1, p2, p3, q0, q1, q2, q3⟩ := (unhide zz3).facts
           have hz0 := lt_of_cell g0
           have hzn0 := Nat.ne_of_lt hz0
           have hzm0 := Ne.symm hzn0))
    all_goals
      go_wp2_with fail
      go_meet
      have hb03 := bt (unhide hb02) (unhide hb23) (Nat.le_refl _)
      have s02 := (unhide hb02).size
      first
        | (with_reducible refine CutB.late ?_
           exact hb03)
        | (with_reducible refine CutB.early ?_ ?_ ?_
           exact hb03
           exact unhide zz3
           omega)
  case rest =>
    obtain ⟨bW, rfl, rfl, hge, hRW, hbc⟩ := hcut
    have HB2 := hide (bt (unhide HB0) hbc (Nat.le_refl _))
    have HX2 := hide ((unhide HX).below hbc)
    have hs1 := lt_of_heap (unhide HX)
    have hne : bW ≠ w.heap.size + 1 := by omega
    have hne' := Ne.symm hne
    obtain ⟨d0, d1, d2, d3, e0, e1, e2, e3⟩ := (unhide HX2).facts
    obtain ⟨r0, r1, r2, r3⟩ := hRW.facts
    have g0 := ((unhide HER).on (unhide HB2)).cell
    have hz1 : (w.heap.size + 1 = 0) = False := by simp
    have hz2 : (0 = w.heap.size + 1) = False := by simp
    clear hbc hRW c0 c1 c2 c3
    go_wp2_with fail
    exact bodyPost_ret (v := .tuple #[.agg #[.int .i64 op4, .int .i64 n4, .string s4, .slice a4 len4 cap4], .nilIface]) (by simp [results, Tryz.results88, go_sem, d0, d1, d2, d3]; try rfl) rfl ⟨rfl, set4_below (unhide HB2) (by omega)⟩

set_option maxRecDepth 100000 in
set_option maxHeartbeats 2000000 in
theorem helloOfI_no (op n : Int) (s : ByteArray) (a : Option Addr) (len cap : Nat) (x : Addr) (w : World) (he : ErrAt x w) (h37 : ∀ V, Below w.heap.size w V → Calls Tryz.prog 88 #[.agg #[.int .i64 op, .int .i64 n, .string s, .slice a len cap]] V fun e w' => e = .returned (.tuple #[.agg #[.int .i64 0, .int .i64 0, .string ByteArray.empty, .slice none 0 0], .iface 202 (.pointer (some x))]) ∧ Below V.heap.size V w') :
    Calls Tryz.prog 24 #[.agg #[.int .i64 op, .int .i64 n, .string s, .slice a len cap]] w fun e w' => e = .returned (.tuple #[.agg #[.int .i64 0, .int .i64 0, .string ByteArray.empty, .slice none 0 0], .bool false]) ∧ Below w.heap.size w w' := by
  have hB0 : Below w.heap.size w ((w.alloc (.cells #[.int .i64 op, .int .i64 n, .string s, .slice a len cap] 29)).alloc (.cells #[.int .i64 0, .int .i64 0, .string ByteArray.empty, .slice none 0 0] 29)) := bt (ab _) (ab _) (Nat.le_refl _)
  have HX : Hid (ZBox ((w.alloc (.cells #[.int .i64 op, .int .i64 n, .string s, .slice a len cap] 29)).alloc (.cells #[.int .i64 0, .int .i64 0, .string ByteArray.empty, .slice none 0 0] 29)) (w.heap.size + 1)) := by
    have := ZBox.new (w.alloc (.cells #[.int .i64 op, .int .i64 n, .string s, .slice a len cap] 29))
    rwa [heap_size_alloc] at this
  have HS0 : Hid (((w.alloc (.cells #[.int .i64 op, .int .i64 n, .string s, .slice a len cap] 29)).alloc (.cells #[.int .i64 0, .int .i64 0, .string ByteArray.empty, .slice none 0 0] 29)).heap.size = w.heap.size + 2) := by show _ = _; simp
  have HRA : Hid (RowT 29 ((w.alloc (.cells #[.int .i64 op, .int .i64 n, .string s, .slice a len cap] 29)).alloc (.cells #[.int .i64 0, .int .i64 0, .string ByteArray.empty, .slice none 0 0] 29)) w.heap.size op n s a len cap) := (RowT.new 29 w op n s a len cap).below (ab _)
  have H37 := hide h37
  have HER := hide he
  have HB0 := hide hB0
  clear h37 he hB0 HRA
  go_enter Tryz.func24, Tryz.ntmps24
  go_wp2_with fail
  refine (unhide H37 _ (unhide HB0)).mono ?_
  rintro e w2 ⟨rfl, hb2⟩
  have HB2 := hide (bt (unhide HB0) hb2 (Nat.le_refl _))
  have HX2 := hide ((unhide HX).below hb2)
  have h36 := hide (fun z he => answer_no 0 0 ByteArray.empty none 0 0 x z he)
  clear hb2 HB0 HX
  go_wp2_with fail
  refine (unhide h36 _ ((unhide HER).on (unhide HB2))).mono ?_
  rintro e w3 ⟨rfl, hb3⟩
  have HB3 := hide (bt (unhide HB2) hb3 (Nat.le_refl _))
  obtain ⟨d0, d1, d2, d3, e0, e1, e2, e3⟩ := ((unhide HX2).below hb3).facts
  clear hb3
  go_wp2_with fail
  exact bodyPost_ret (v := .tuple #[.agg #[.int .i64 0, .int .i64 0, .string ByteArray.empty, .slice none 0 0], .bool false]) (by simp [results, Tryz.results24, go_sem, d0, d1, d2, d3]; try rfl) rfl ⟨rfl, set4_below (unhide HB3) (by omega)⟩

set_option maxRecDepth 100000 in
set_option maxHeartbeats 2000000 in
theorem helloOfI_yes (k : Tm) (op n : Int) (s : ByteArray) (a : Option Addr) (len cap : Nat) (op4 n4 : Int) (s4 : ByteArray) (a4 : Option Addr) (len4 cap4 : Nat) (x : Addr) (w : World) (he : ErrAt x w) (hk : Lies w 0 k (tmCells op4 n4 s4 a4 len4 cap4)) (hok : okT k = true) (h37 : ∀ V, Below w.heap.size w V → Calls Tryz.prog 88 #[.agg #[.int .i64 op, .int .i64 n, .string s, .slice a len cap]] V fun e w' => e = .returned (.tuple #[.agg #[.int .i64 op4, .int .i64 n4, .string s4, .slice a4 len4 cap4], .nilIface]) ∧ Below V.heap.size V w') :
    Calls Tryz.prog 24 #[.agg #[.int .i64 op, .int .i64 n, .string s, .slice a len cap]] w fun e w' => ∃ op' n' s' a' len' cap' fp, e = .returned (.tuple #[.agg #[.int .i64 op', .int .i64 n', .string s', .slice a' len' cap'], .bool true]) ∧ Own w' k (tmCells op' n' s' a' len' cap') fp ∧ (fp.Nodup ∧ ∀ y ∈ fp, w.heap.size ≤ y) ∧ Below w.heap.size w w' := by
  have hB0 : Below w.heap.size w ((w.alloc (.cells #[.int .i64 op, .int .i64 n, .string s, .slice a len cap] 29)).alloc (.cells #[.int .i64 0, .int .i64 0, .string ByteArray.empty, .slice none 0 0] 29)) := bt (ab _) (ab _) (Nat.le_refl _)
  have HX : Hid (ZBox ((w.alloc (.cells #[.int .i64 op, .int .i64 n, .string s, .slice a len cap] 29)).alloc (.cells #[.int .i64 0, .int .i64 0, .string ByteArray.empty, .slice none 0 0] 29)) (w.heap.size + 1)) := by
    have := ZBox.new (w.alloc (.cells #[.int .i64 op, .int .i64 n, .string s, .slice a len cap] 29))
    rwa [heap_size_alloc] at this
  have HS0 : Hid (((w.alloc (.cells #[.int .i64 op, .int .i64 n, .string s, .slice a len cap] 29)).alloc (.cells #[.int .i64 0, .int .i64 0, .string ByteArray.empty, .slice none 0 0] 29)).heap.size = w.heap.size + 2) := by show _ = _; simp
  have HRA : Hid (RowT 29 ((w.alloc (.cells #[.int .i64 op, .int .i64 n, .string s, .slice a len cap] 29)).alloc (.cells #[.int .i64 0, .int .i64 0, .string ByteArray.empty, .slice none 0 0] 29)) w.heap.size op n s a len cap) := (RowT.new 29 w op n s a len cap).below (ab _)
  have H37 := hide h37
  have HER := hide he
  have HLK := hide hk
  have HB0 := hide hB0
  have h36 := hide (fun z hl he => answer_yes k op4 n4 s4 a4 len4 cap4 x z hl (by have := okT_small hok; omega) he)
  clear h37 he hB0 HRA hk hok
  go_enter Tryz.func24, Tryz.ntmps24
  go_wp2_with fail
  refine (unhide H37 _ (unhide HB0)).mono ?_
  rintro e w2 ⟨rfl, hb2⟩
  have HB2 := hide (bt (unhide HB0) hb2 (Nat.le_refl _))
  have HX2 := hide ((unhide HX).below hb2)
  have HLT := hide (lt_of_heap (unhide HX2))
  clear hb2 HB0 HX
  go_wp2_with fail
  refine (unhide h36 _ ((unhide HLK).below (unhide HB2)) ((unhide HER).on (unhide HB2))).mono ?_
  rintro e w3 ⟨a7, cap7, fp, rfl, hO, ⟨hnd, hge⟩, hb3⟩
  have HB3 := hide (bt (unhide HB2) hb3 (Nat.le_refl _))
  have HO := hide hO
  have HND := hide hnd
  have HGE := hide hge
  obtain ⟨d0, d1, d2, d3, e0, e1, e2, e3⟩ := ((unhide HX2).below hb3).facts
  clear hb3 hO hnd hge
  go_wp2_with fail
  exact bodyPost_ret (v := .tuple #[.agg #[.int .i64 op4, .int .i64 n4, .string s4, .slice a7 len4 cap7], .bool true]) (by simp [results, Tryz.results24, go_sem, d0, d1, d2, d3]; try rfl) rfl ⟨_, _, _, _, _, _, fp, rfl, Own.keep _ _ _ (unhide HO) (fun b hb => set4_heap _ _ _ _ _ _ b (by have := unhide HGE b hb; have := unhide HLT; omega)), ⟨unhide HND, fun y hy => by have := unhide HGE y hy; have := unhide HLT; omega⟩, set4_below (unhide HB3) (by omega)⟩

/-- Both sides of HelloOf, at whatever term. -/
theorem helloOfS (t : Tm) (op n : Int) (s : ByteArray) (a : Option Addr) (len cap : Nat) (w : World) (hl : Lies w 0 t (tmCells op n s a len cap)) (hsz : t.size ≤ 2097152) :
    (helloO t = none → Calls Tryz.prog 25 #[.agg #[.int .i64 op, .int .i64 n, .string s, .slice a len cap]] w fun e w' => e = .returned (.tuple #[.agg #[.int .i64 0, .int .i64 0, .string ByteArray.empty, .slice none 0 0], .bool false]) ∧ Below w.heap.size w w') ∧
      (∀ k, helloO t = some k → Calls Tryz.prog 25 #[.agg #[.int .i64 op, .int .i64 n, .string s, .slice a len cap]] w fun e w' => ∃ op' n' s' a' len' cap', e = .returned (.tuple #[.agg #[.int .i64 op', .int .i64 n', .string s', .slice a' len' cap'], .bool true]) ∧ Lies w' 0 k (tmCells op' n' s' a' len' cap') ∧ Below w.heap.size w w') := by
  refine ⟨fun h => ?_, fun k h => ?_⟩
  · rcases helloO_none h with h | ⟨k, h, h4⟩
    · exact helloOfS_no1 t op n s a len cap w hl hsz h
    · exact helloOfS_no2 t op n s a len cap w hl hsz k h h4
  · obtain ⟨h1, h4, hok⟩ := helloO_some h
    have hz : k.size ≤ 200 := by
      simp only [okT, Bool.and_eq_true, decide_eq_true_eq] at hok
      exact hok.1
    exact helloOfS_yes t op n s a len cap w hl hsz k h1 h4 hz

theorem helloOfI (t : Tm) (op n : Int) (s : ByteArray) (a : Option Addr) (len cap : Nat) (x : Addr) (w : World) (he : ErrAt x w) (hl : Lies w 0 t (tmCells op n s a len cap)) (hsz : t.size ≤ 2097152) :
    (helloO t = none → Calls Tryz.prog 24 #[.agg #[.int .i64 op, .int .i64 n, .string s, .slice a len cap]] w fun e w' => e = .returned (.tuple #[.agg #[.int .i64 0, .int .i64 0, .string ByteArray.empty, .slice none 0 0], .bool false]) ∧ Below w.heap.size w w') ∧
      (∀ k, helloO t = some k → Calls Tryz.prog 24 #[.agg #[.int .i64 op, .int .i64 n, .string s, .slice a len cap]] w fun e w' => ∃ op' n' s' a' len' cap' fp, e = .returned (.tuple #[.agg #[.int .i64 op', .int .i64 n', .string s', .slice a' len' cap'], .bool true]) ∧ Own w' k (tmCells op' n' s' a' len' cap') fp ∧ (fp.Nodup ∧ ∀ y ∈ fp, w.heap.size ≤ y) ∧ Below w.heap.size w w') := by
  refine ⟨fun h => ?_, fun k h => ?_⟩
  · rcases helloO_none h with h | ⟨k, h, h4⟩
    · exact helloOfI_no op n s a len cap x w he fun V hV => pubOf_no1 t op n s a len cap x V (he.on hV) (hl.below hV) hsz h
    · obtain ⟨nt, st, k0, rfl, hok, hs⟩ := behO_some h
      obtain ⟨rfl, rfl, rfl, rfl, b, q, op3, n3, s3, a3, len3, cap3, op4, n4, s4, a4, len4, cap4, rfl, ⟨r0, r1, r2, r3, hk0⟩, r4, r5, r6, r7, hk1⟩ := lies_kids hl
      exact helloOfI_no 3 n s (some ⟨b, q, none⟩) 2 cap x w he fun V hV => pubOf_no2 k0 k n s b q cap op3 n3 s3 a3 len3 cap3 op4 n4 s4 a4 len4 cap4 x V (he.on hV) (hl.below hV) hsz hok (kpc hV r0) (kpc hV r1) (kpc hV r2) (kpc hV r3) (kpc hV r4) (kpc hV r5) (kpc hV r6) (kpc hV r7) (hk0.below hV) hs (by rw [lies_opOf hk1]; exact h4)
  · obtain ⟨h1, h4, hokk⟩ := helloO_some h
    obtain ⟨nt, st, k0, rfl, hok, hs⟩ := behO_some h1
    obtain ⟨rfl, rfl, rfl, rfl, b, q, op3, n3, s3, a3, len3, cap3, op4, n4, s4, a4, len4, cap4, rfl, ⟨r0, r1, r2, r3, hk0⟩, r4, r5, r6, r7, hk1⟩ := lies_kids hl
    exact helloOfI_yes k 3 n s (some ⟨b, q, none⟩) 2 cap op4 n4 s4 a4 len4 cap4 x w he hk1 hokk fun V hV => pubOf_yes k0 k n s b q cap op3 n3 s3 a3 len3 cap3 op4 n4 s4 a4 len4 cap4 x V (he.on hV) (hl.below hV) hsz hok (kpc hV r0) (kpc hV r1) (kpc hV r2) (kpc hV r3) (kpc hV r4) (kpc hV r5) (kpc hV r6) (kpc hV r7) (hk0.below hV) hs (by rw [lies_opOf hk1]; exact h4)


end Go.Proofs.YtmklgikbajhcpaaGreatDoor
