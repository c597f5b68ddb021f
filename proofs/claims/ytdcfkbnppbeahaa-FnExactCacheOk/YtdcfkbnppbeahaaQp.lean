/- The walks of impl's each over texts, impl.ownPolicy and spec.l7Copy: the policy with its texts in memory of its own. -/
import Derived.Test.YtdcfkbnppbeahaaQo
import Derived.Deep.Upon
import Derived.Deep.AppendSrc
namespace Go.Proofs.Ytdcfkbnppbeahaa
open Go.RowKit Go.Deep

/-- One text more, out of a block of its own. -/
theorem Txs.put59 {w wr w0 : World} {l : List ByteArray} {tv : Value} (h : Txs w l tv wr) (hbw : Below w.heap.size w wr) (c : ByteArray) {b : Nat} (hb : Below wr.heap.size wr w0) (hc : w0.cell? ⟨b, 0, none⟩ = some (.string c)) (hn : l.length + 1 ≤ 1073741824) (ty : TypeId) :
    ∃ v' w', (Builtin.append_ #[59, 59] ty #[tv, .slice (some ⟨b, 0, none⟩) 1 1]).run Try.prog w0 = .ok v' w' ∧ Txs w (l ++ [c]) v' w' ∧ w0.grownBy w' tv.ownBlock ∧ Below w.heap.size w w' := by
  obtain ⟨i, hi, hzz⟩ := Option.map_eq_some_iff.1 infoS
  simp only [Prod.mk.injEq] at hzz
  obtain ⟨hz, hs, hby⟩ := hzz
  have h0 := h.on hb
  have hb0 : Below w.heap.size w w0 := hbw.trans (hb.mono hbw.size)
  obtain ⟨v', w', g1, g2, g3, _⟩ := run_append_own_wide (P := Try.prog) w0 w.heap.size 59 ty 9 i _ 1 16 Try.underlying59 hi hz hs hby rfl (by omega) tv l.length _ h0 ⟨b, 0, none⟩ 1 1 [.string c]
    rfl (fun j u hj => by
      rw [Addr.add_mid]
      match j, hj with
      | 0, hj => simp at hj; subst hj; exact hc) (fun u hu => by simp at hu; subst hu; rfl) (by unfold maxLen; omega) (by omega) hb0.size
  refine ⟨v', w', g1, ?_, g3, hb0.grown g3 hb0.size (fun k hk => (World.ownsRow.lt h0 k hk).1)⟩
  unfold Txs
  rw [List.length_append, List.map_append]
  simpa using g2
theorem Txs.empty (w : World) : Txs w [] (.slice none 0 0) w := ⟨rfl, Or.inl ⟨rfl, rfl⟩⟩

set_option maxRecDepth 100000 in
set_option maxHeartbeats 1000000 in
theorem eachT (l : List ByteArray) (a : Option Addr) (cap : Nat) (w : World) (hl : Txt w 0 a l) (hm : l.length ≤ 2097152) (ht : ∀ t ∈ l, t.size ≤ 2097152) :
    Calls Try.prog 46 #[.slice a l.length cap, .func (.func 45) #[] #[]] w fun e w' => ∃ v, e = .returned v ∧ Txs w l v w' ∧ Below w.heap.size w w' := by
  have HC := hide (fun t (h : t ∈ l) v => clone36 t v (ht t h))
  have H := hide hl
  clear hl ht
  generalize hlen : l.length = len at *
  have HL : Hid (l.length = len) := hlen
  clear hlen
  go_enter Try.func46, Try.ntmps46
  go_wp2_with fail
  go_loopw [5, 10] (fun v i wr => ∃ k : Nat, i = .int .i64 (k : Int) ∧ Txs w (l.take k) v wr ∧ Below w.heap.size w wr ∧ k ≤ len) (fun _ i _ => len - (intOf i).toNat)
  case atStart => exact ⟨0, rfl, Txs.empty w, Below.refl _ _, by omega⟩
  case round =>
    obtain ⟨k, rfl, htx, hb, hk⟩ := hrel
    obtain ⟨ua, uc, rfl⟩ := htx.shape
    have HTX := hide htx
    have HB := hide hb
    have hul : (l.take k).length = k := by have := HL.out; rw [List.length_take]; omega
    by_cases hp : k < len
    · have hp' : k < l.length := by have := HL.out; omega
      obtain ⟨t, hkt⟩ : ∃ t, l[k]? = some t := ⟨_, List.getElem?_eq_getElem hp'⟩
      obtain ⟨b, o, rfl, -, c0⟩ := ((unhide H).on hb) k t hkt
      have hc := hide (fun v => unhide HC t (List.mem_of_getElem? hkt) v)
      have HTK : Hid (l.take (k + 1) = l.take k ++ [t]) := by show _ = _; rw [List.take_add_one, hkt]; rfl
      have q2 : (k : Int) < (len : Int) := by omega
      have q3 : (0 : Int) ≤ (k : Int) := by omega
      have w1 : wrap64 ((k : Int) + 1) = ((k + 1 : Nat) : Int) := by unfold wrap64; omega
      have HUL := hide hul
      clear htx hb hkt
      rw [hul]
      rw [hul] at HTX
      clear hul
      go_wp2_with fail
      refine (unhide hc _).mono ?_
      rintro e w2 ⟨rfl, hb2⟩
      have HAP : Hid (∃ v' w', (Builtin.append_ #[59, 59] 59 #[.slice ua k uc, .slice (some ⟨w2.heap.size, 0, none⟩) 1 1]).run Try.prog (w2.alloc (.cells #[.string t] 9)) = .ok v' w' ∧ (Txs w (l.take k ++ [t]) v' w' ∧ Below w.heap.size w w')) := by
        obtain ⟨v', w', g1, g2, -, g4⟩ := ((unhide HTX).on hb2).put59 (btP (unhide HB) hb2) t (b := w2.heap.size) (abH (.cells #[.string t] 9)) (box_cell w2 _ 9 0 _ rfl) (by rw [unhide HUL]; omega) 59
        exact ⟨v', w', g1, g2, g4⟩
      clear hb2
      go_wp2_with (at_builtin; refine wpList_append_run rfl _ _ 59 rfl (.slice ua k uc) (.slice (some ⟨w2.heap.size, 0, none⟩) 1 1) rfl rfl (fun v' w' => Txs w (l.take k ++ [t]) v' w' ∧ Below w.heap.size w w') (unhide HAP) ?_; rintro v3 w3 ⟨hb3, hbw3⟩; have HB3 := hide hb3; have HW3 := hide hbw3; clear hb3 hbw3)
      go_roundw
      case rel => exact ⟨k + 1, rfl, by rw [unhide HTK]; exact unhide HB3, unhide HW3, by omega⟩
      case measure => simp only [intOf]; omega
    · have q2 : ¬ (k : Int) < (len : Int) := by omega
      have hkl : k = len := by omega
      subst hkl
      have HE : Hid (l.take k = l) := List.take_of_length_le (by have := HL.out; omega)
      clear htx hb
      rw [hul]
      rw [hul] at HTX
      clear hul
      go_wp2_with fail
      go_ret
      refine ⟨_, rfl, ?_, unhide HB⟩
      have := unhide HTX
      rwa [unhide HE] at this

theorem Txs.base {w v0 wr : World} {l : List ByteArray} {v : Value} (h : Txs v0 l v wr) (hs : w.heap.size ≤ v0.heap.size) : Txs w l v wr := by
  refine ⟨h.1, ?_⟩
  rcases h.2 with h2 | ⟨g, cap, cur, h1, h2, h3⟩
  · exact Or.inl h2
  · exact Or.inr ⟨g, cap, cur, h1, by omega, h3⟩
theorem Txs.set {w0 wr : World} {l : List ByteArray} {v : Value} (h : Txs w0 l v wr) {p : Addr} (hp : p.block < w0.heap.size) (u : Value) : Txs w0 l v (wr.setCell p u) := by
  refine ⟨h.1, ?_⟩
  rcases h.2 with h2 | ⟨g, cap, cur, h1, h2, h3, h4⟩
  · exact Or.inl h2
  · exact Or.inr ⟨g, cap, cur, h1, h2, by rw [Below.heap_setCell wr p u g (by omega)]; exact h3, h4⟩
theorem RowP.set0 {ty : TypeId} {w : World} {b : Nat} {d : ByteArray} {m : Int} {a : Option Addr} {len cap : Nat} {u : Int} (hr : RowP ty w b d m a len cap u) (d' : ByteArray) : RowP ty (w.setCell ⟨b, 0, none⟩ (.string d')) b d' m a len cap u := by
  unfold RowP at hr ⊢
  rw [heap_setCell_same w b 0 _ ty _ hr]
  rfl
theorem RowP.set2 {ty : TypeId} {w : World} {b : Nat} {d : ByteArray} {m : Int} {a : Option Addr} {len cap : Nat} {u : Int} (hr : RowP ty w b d m a len cap u) (a' : Option Addr) (len' cap' : Nat) : RowP ty (w.setCell ⟨b, 2, none⟩ (.slice a' len' cap')) b d m a' len' cap' u := by
  unfold RowP at hr ⊢
  rw [heap_setCell_same w b 2 _ ty _ hr]
  rfl
theorem RowP.far {ty : TypeId} {w : World} {b : Nat} {d : ByteArray} {m : Int} {a : Option Addr} {len cap : Nat} {u : Int} (hr : RowP ty w b d m a len cap u) {p : Addr} (hp : b ≠ p.block) (v : Value) : RowP ty (w.setCell p v) b d m a len cap u := by
  unfold RowP at hr ⊢
  rw [Below.heap_setCell w p v b hp]
  exact hr
theorem RowP.froz {ty : TypeId} {w : World} {b : Nat} {d : ByteArray} {m : Int} {a : Option Addr} {len cap : Nat} {u : Int} (hr : RowP ty w b d m a len cap u) (j : Nat) : w.frozen? ⟨b, j, none⟩ = false := frozen_of_row hr
theorem setBelow {w v : World} (h : Below w.heap.size w v) {p : Addr} (hp : w.heap.size ≤ p.block) (u : Value) : Below w.heap.size w (v.setCell p u) := h.setCell hp u

set_option maxRecDepth 100000 in
set_option maxHeartbeats 1000000 in
theorem ownI (l : List ByteArray) (d : ByteArray) (m : Int) (a : Option Addr) (cap : Nat) (u : Int) (w : World) (hl : Txt w 0 a l) (hm : l.length ≤ 2097152) (ht : ∀ t ∈ l, t.size ≤ 2097152) (hd : d.size ≤ 2097152) :
    Calls Try.prog 37 #[.agg #[.string d, .int .i64 m, .slice a l.length cap, .int .i64 u]] w fun e w' => ∃ v, e = .returned (.agg #[.string d, .int .i64 m, v, .int .i64 u]) ∧ Txs w l v w' ∧ Below w.heap.size w w' := by
  have h45 := hide (fun v => clone36 d v hd)
  have h46 := hide (fun v hv => eachT l a cap v hv hm ht)
  have hb0 : Below w.heap.size w ((w.alloc (.cells #[.string d, .int .i64 m, .slice a l.length cap, .int .i64 u] 27)).alloc (.cells #[.string ⟨#[]⟩, .int .i64 0, .slice none 0 0, .int .i64 0] 27)) := btP (abP _) (abP _)
  have HB0 := hide hb0
  have HX := hide ((RowP.new 27 w d m a l.length cap u).below (abP (.cells #[.string ⟨#[]⟩, .int .i64 0, .slice none 0 0, .int .i64 0] 27)))
  have HY : Hid (RowP 27 ((w.alloc (.cells #[.string d, .int .i64 m, .slice a l.length cap, .int .i64 u] 27)).alloc (.cells #[.string ⟨#[]⟩, .int .i64 0, .slice none 0 0, .int .i64 0] 27)) (w.heap.size + 1) ⟨#[]⟩ 0 none 0 0 0) := by
    have := RowP.new 27 (w.alloc (.cells #[.string d, .int .i64 m, .slice a l.length cap, .int .i64 u] 27)) ⟨#[]⟩ 0 none 0 0 0
    rwa [heap_size_alloc] at this
  have HL := hide hl
  clear hl ht hd hb0
  generalize hlen : l.length = len at *
  have HLN := hide hlen
  clear hlen
  go_enter Try.func37, Try.ntmps37
  go_wp2_with fail
  generalize (w.alloc (.cells #[.string d, .int .i64 m, .slice a len cap, .int .i64 u] 27)).alloc (.cells #[.string ⟨#[]⟩, .int .i64 0, .slice none 0 0, .int .i64 0] 27) = W0 at *
  refine (unhide h45 _).mono ?_
  rintro e w1 ⟨rfl, hb1⟩
  have HX1 := hide ((unhide HX).below hb1)
  have HY1 := hide ((unhide HY).below hb1)
  have HB1 := hide (btP (unhide HB0) hb1)
  obtain ⟨c0, c1, c2, c3⟩ := (unhide HX1).facts
  have f0 := (unhide HX1).froz 0
  clear hb1 HB0 HX HY
  have HX2 := hide ((unhide HX1).set0 d)
  have HY2 := hide ((unhide HY1).far (p := ⟨w.heap.size, 0, none⟩) (by simp) (.string d))
  have HB2 := hide (setBelow (unhide HB1) (p := ⟨w.heap.size, 0, none⟩) (Nat.le_refl _) (.string d))
  have HL2 := hide ((unhide HL).on (unhide HB2))
  go_wp2_with fail
  generalize hW2 : w1.setCell ⟨w.heap.size, 0, none⟩ (.string d) = W2 at *
  clear hW2 c0 c1 c2 c3 f0 HX1 HY1 HB1
  refine (unhide h46 _ (unhide HL2)).mono ?_
  rintro e w3 ⟨v, rfl, htx, hb3⟩
  obtain ⟨ua, uc, rfl⟩ := htx.shape
  have HX3 := hide ((unhide HX2).below hb3)
  have HY3 := hide ((unhide HY2).below hb3)
  have HB3 := hide (btP (unhide HB2) hb3)
  have HTX := hide htx
  have HZ : Hid (w.heap.size + 1 < W2.heap.size) := (unhide HY2).lt
  rw [unhide HLN]
  obtain ⟨c0, c1, c2, c3⟩ := (unhide HX3).facts
  obtain ⟨d0, d1, d2, d3⟩ := (unhide HY3).facts
  have f2 := (unhide HX3).froz 2
  have g0 := (unhide HY3).froz 0
  have g1 := (unhide HY3).froz 1
  have g2 := (unhide HY3).froz 2
  have g3 := (unhide HY3).froz 3
  clear htx hb3 HX2 HY2 HB2 HL2
  go_wp2_with fail
  refine bodyPost_ret (v := .agg #[.string d, .int .i64 m, .slice ua len uc, .int .i64 u]) (by simp [results, Try.results37, go_sem, d0, d1, d2, d3]) rfl ⟨_, rfl, ?_, ?_⟩
  · refine Txs.base (v0 := W2) ?_ (by have := unhide HZ; omega)
    repeat refine Txs.set ?_ (by have := unhide HZ; simp only; omega) _
    have := unhide HTX
    rwa [unhide HLN] at this
  · repeat refine setBelow ?_ (by simp only; omega) _
    exact unhide HB3

/-- All of a list, behind nothing. -/
theorem Txs.many {w wr : World} {g : Nat} (h : Txs w [] (.slice (some ⟨g, 0, none⟩) 0 0) wr) (hbw : Below w.heap.size w wr) {l : List ByteArray} {x : Option Addr} (hx : Txt wr 0 x l) (hn : l.length ≤ 2097152) (c : Nat) (ty : TypeId) :
    ∃ v' w', (Builtin.append_ #[22, 22] ty #[.slice (some ⟨g, 0, none⟩) 0 0, .slice x l.length c]).run Try.prog wr = .ok v' w' ∧ (Txs w l v' w' ∧ Below w.heap.size w w') := by
  obtain ⟨i, hi, hzz⟩ := Option.map_eq_some_iff.1 infoS
  simp only [Prod.mk.injEq] at hzz
  obtain ⟨hz, hs, hby⟩ := hzz
  cases x with
  | none =>
    have hl : l = [] := by
      cases l with
      | nil => rfl
      | cons t r => obtain ⟨b, o, h1, _⟩ := hx 0 t rfl; cases h1
    subst hl
    exact ⟨_, _, run_append_nothing (P := Try.prog) wr 22 22 ty 9 i Try.underlying22 hi _ 0 0 (Nat.le_refl _) _ (Src.ofNil wr Try.underlying22 c), h, hbw⟩
  | some a =>
    obtain ⟨v', w', g1, g2, g3, _⟩ := run_append_own_wide (P := Try.prog) wr w.heap.size 22 ty 9 i _ 1 16 Try.underlying22 hi hz hs hby rfl (by omega) _ 0 _ h a l.length c (l.map fun b => Value.string b)
      (by simp) (fun j u hj => by
        simp only [List.getElem?_map, Option.map_eq_some_iff] at hj
        obtain ⟨t, ht, rfl⟩ := hj
        obtain ⟨b, o, h1, _, h3⟩ := hx j t ht
        simp only [Option.some.injEq] at h1
        subst h1
        rw [Addr.add_mid]
        exact h3) (fun u hu => by simp at hu; obtain ⟨t, _, rfl⟩ := hu; rfl) (by unfold maxLen; omega) (by omega) hbw.size
    refine ⟨v', w', g1, ?_, hbw.grown g3 hbw.size (fun k hk => (World.ownsRow.lt h k hk).1)⟩
    unfold Txs
    simpa using g2

set_option maxRecDepth 100000 in
set_option maxHeartbeats 1000000 in
theorem copyS (l : List ByteArray) (d : ByteArray) (m : Int) (a : Option Addr) (cap : Nat) (u : Int) (w : World) (hl : Txt w 0 a l) (hm : l.length ≤ 2097152) :
    Calls Try.prog 35 #[.agg #[.string d, .int .i64 m, .slice a l.length cap, .int .i64 u]] w fun e w' => ∃ v, e = .returned (.agg #[.string d, .int .i64 m, v, .int .i64 u]) ∧ Txs w l v w' ∧ Below w.heap.size w w' := by
  obtain ⟨W0, hW0⟩ : ∃ W0, (w.alloc (.cells #[.string d, .int .i64 m, .slice a l.length cap, .int .i64 u] 27)).alloc (.cells #[.string ⟨#[]⟩, .int .i64 0, .slice none 0 0, .int .i64 0] 27) = W0 := ⟨_, rfl⟩
  have hb0 : Below w.heap.size w W0 := by rw [← hW0]; exact btP (abP _) (abP _)
  have hX : RowP 27 W0 w.heap.size d m a l.length cap u := by rw [← hW0]; exact (RowP.new 27 w d m a l.length cap u).below (abP (.cells #[.string ⟨#[]⟩, .int .i64 0, .slice none 0 0, .int .i64 0] 27))
  have hY : RowP 27 W0 (w.heap.size + 1) ⟨#[]⟩ 0 none 0 0 0 := by
    have := RowP.new 27 (w.alloc (.cells #[.string d, .int .i64 m, .slice a l.length cap, .int .i64 u] 27)) ⟨#[]⟩ 0 none 0 0 0
    rw [← hW0]
    rwa [heap_size_alloc] at this
  have hb1 : Below W0.heap.size W0 (W0.alloc (.cells #[] 9)) := abP _
  have HAP := hide (Txs.many (Txs.lit W0) hb1 ((hl.on hb0).on hb1) hm cap 22)
  have HX := hide (hX.below hb1)
  have HB0 := hide hb0
  have HXL := hide hX.lt
  have HYL := hide hY.lt
  have HX1 := hide hX
  have HY1 := hide hY
  have HLN : Hid (∃ n, l.length = n) := ⟨_, rfl⟩
  obtain ⟨c0, c1, c2, c3⟩ := (hX.below hb1).facts
  clear hl hb0 hX hY hb1 HLN
  generalize hlen : l.length = len at *
  have HLN := hide hlen
  clear hlen
  go_enter Try.func35, Try.ntmps35
  go_wp2_with (at_builtin; refine wpList_append_run rfl _ _ 22 rfl (.slice (some ⟨W0.heap.size, 0, none⟩) 0 0) (.slice a len cap) rfl rfl (fun v' w' => Txs W0 l v' w' ∧ Below W0.heap.size W0 w') (unhide HAP) ?_; rintro v3 w3 ⟨htx, hb3⟩; obtain ⟨ua, uc, hv3⟩ := htx.shape; rw [unhide HLN] at hv3; subst hv3; have HTX := hide htx; have HB3 := hide hb3; have HX3 := hide ((unhide HX1).below hb3); have HY3 := hide ((unhide HY1).below hb3); obtain ⟨e0, e1, e2, e3⟩ := (unhide HX3).facts; obtain ⟨d0, d1, d2, d3⟩ := (unhide HY3).facts; have f2 := (unhide HX3).froz 2; have g0 := (unhide HY3).froz 0; have g1 := (unhide HY3).froz 1; have g2 := (unhide HY3).froz 2; have g3 := (unhide HY3).froz 3; clear htx hb3 c0 c1 c2 c3)
  refine bodyPost_ret (v := .agg #[.string d, .int .i64 m, .slice ua len uc, .int .i64 u]) (by simp [results, Try.results35, go_sem, d0, d1, d2, d3]) rfl ⟨_, rfl, ?_, ?_⟩
  · refine Txs.base (v0 := W0) ?_ (by have := unhide HYL; omega)
    repeat refine Txs.set ?_ (by have := unhide HYL; simp only; omega) _
    have := unhide HTX
    exact this
  · repeat refine setBelow ?_ (by simp only; omega) _
    exact btP (unhide HB0) (unhide HB3)

end Go.Proofs.Ytdcfkbnppbeahaa
