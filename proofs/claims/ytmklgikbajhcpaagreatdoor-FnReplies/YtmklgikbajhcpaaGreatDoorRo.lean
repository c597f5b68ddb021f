
/- What is read of a reply, as plain data, and the walk of impl.readReply: the four terms, or the named error; nothing that was there is written. -/
import Derived.Test.YtmklgikbajhcpaaGreatDoorG1
import Derived.Test.YtmklgikbajhcpaaGreatDoorRz
import Derived.Test.YtmklgikbajhcpaaGreatDoorBo
import Derived.Deep.RegionHeld3
import Derived.Deep.RegionWith
import Derived.Deep.DeepCutAuto
namespace Go.Proofs.YtmklgikbajhcpaaGreatDoor
open Go.RowKit Go.Deep

/-- What is read of a reply. -/
def replyO (e t : Tm) : Option (Tm × Tm × Tm × Tm) :=
  match inO 2 t with
  | some [k0, pub, sealed] =>
    if sameB k0 (textT replyW) = true then
      if shrB e pub = true then
        match openO (keyT (shrT e pub) 0) 0 sealed with
        | some body =>
          match inO 1 body with
          | some [c, g] => some (pub, shrT e pub, c, g)
          | _ => none
        | none => none
      else none
    else none
  | _ => none

theorem rowO_len : ∀ (m : Nat) (t : Tm) (l : List Tm), rowO m t = some l → l.length = m + 1
  | 0, t, l, h => by simp only [rowO, Option.some.injEq] at h; subst h; rfl
  | m + 1, .node op n s ks, l, h => by
    match ks with
    | [] => simp [rowO] at h
    | [_] => simp [rowO] at h
    | _ :: _ :: _ :: _ => simp [rowO] at h
    | [a, b] =>
      simp only [rowO] at h
      split at h
      · obtain ⟨r, h1, h2⟩ := Option.map_eq_some_iff.1 h
        subst h2
        simp [rowO_len m b r h1]
      · cases h
theorem inO_len {m : Nat} {t : Tm} {l : List Tm} (h : inO m t = some l) : l.length = m + 1 := by
  unfold inO at h
  split at h
  · exact rowO_len m t l h
  · cases h
theorem three_of {L : List (Tm × Tc)} (h : L.length = 3) : ∃ p q r, L = [p, q, r] := by
  match L, h with
  | [p, q, r], _ => exact ⟨p, q, r, rfl⟩
theorem two_ofL {L : List (Tm × Tc)} (h : L.length = 2) : ∃ p q, L = [p, q] := by
  match L, h with
  | [p, q], _ => exact ⟨p, q, rfl⟩

/-- Sixteen cells stand at the head of a block, and may be written. -/
structure RowVR (w : World) (b : Nat) (C : Array Value) : Prop where
  size : C.size = 16
  cells : w.rangeAt b 0 C.toList
  there : w.there b 0 16
theorem below_setCells {B : Nat} {w v : World} (h : Below B w v) {b : Nat} (hb : B ≤ b) : ∀ (vs : List Value) (o : Nat), Below B w (v.setCells b o vs) := by
  intro vs
  induction vs generalizing v with
  | nil => intro o; exact h
  | cons x r ih => intro o; rw [World.setCells]; exact ih (h.setCell hb _) (o + 1)
theorem RowVR.new (w : World) (C : Array Value) (hC : C.size = 16) : RowVR (w.alloc (.cells C 89)) w.heap.size C where
  size := hC
  cells := fun j v hj => by rw [Nat.zero_add]; exact box_cell w _ 89 j _ (by simpa using hj)
  there := fun j hj => ⟨by rw [Nat.zero_add, box_cell w C 89 j _ (Array.getElem?_eq_getElem (by omega))]; rfl, frozen_of_row (heap_alloc_new w _)⟩
theorem RowVR.below {w w' : World} {b : Nat} {C : Array Value} (h : RowVR w b C) (hb : Below w.heap.size w w') : RowVR w' b C := by
  have h0 : b < w.heap.size := by
    have := (h.there 0 (by omega)).1
    obtain ⟨u, hu⟩ := Option.isSome_iff_exists.1 this
    exact lt_of_cell hu
  have hk := hb.block b h0
  refine ⟨h.size, fun j v hj => (World.cell?_of_block hk).trans (h.cells j v hj), fun j hj => ⟨by rw [World.cell?_of_block hk]; exact (h.there j hj).1, ?_⟩⟩
  have := (h.there j hj).2
  unfold World.frozen? at this ⊢
  simp only at this ⊢
  rw [hk]
  exact this
theorem RowVR.store {w : World} {b : Nat} {C : Array Value} (h : RowVR w b C) (D : Array Value) (hD : D.size = 16) : RowVR (w.setCells b 0 D.toList) b D where
  size := hD
  cells := World.rangeAt_setCells_same w b 0 D.toList (by rw [Array.length_toList, hD]; exact h.there)
  there := World.there_setCells h.there b 0 D.toList
theorem set16 (w : World) (b : Nat) (x0 x1 x2 x3 x4 x5 x6 x7 x8 x9 x10 x11 x12 x13 x14 x15 : Value) : ((((((((((((((((w.setCell ⟨b, 0, none⟩ x0).setCell ⟨b, 1, none⟩ x1).setCell ⟨b, 2, none⟩ x2).setCell ⟨b, 3, none⟩ x3).setCell ⟨b, 4, none⟩ x4).setCell ⟨b, 5, none⟩ x5).setCell ⟨b, 6, none⟩ x6).setCell ⟨b, 7, none⟩ x7).setCell ⟨b, 8, none⟩ x8).setCell ⟨b, 9, none⟩ x9).setCell ⟨b, 10, none⟩ x10).setCell ⟨b, 11, none⟩ x11).setCell ⟨b, 12, none⟩ x12).setCell ⟨b, 13, none⟩ x13).setCell ⟨b, 14, none⟩ x14).setCell ⟨b, 15, none⟩ x15) = w.setCells b 0 [x0, x1, x2, x3, x4, x5, x6, x7, x8, x9, x10, x11, x12, x13, x14, x15] := by
  simp only [World.setCells, Nat.zero_add, Nat.reduceAdd]
theorem RowVR.drew {w : World} {b : Nat} {C : Array Value} (h : RowVR w b C) : RowVR w.drew b C := ⟨h.size, h.cells, h.there⟩
theorem infoR : (Tryz.prog.info? 89).map (·.size) = some 16 := by kernel_rfl
theorem RowVR.load {w : World} {b : Nat} {C : Array Value} (h : RowVR w b C) : (loadVar 89 ⟨b, 0, none⟩).run Tryz.prog w = .ok (.agg C) w := by
  have := run_loadVar_mid (P := Tryz.prog) w b 0 89 C.toList _ h.cells Tryz.underlying89 rfl (by rw [infoR, Array.length_toList, h.size])
  simpa using this
theorem wpList_storeR {ops : Array Oper} {rest : List Oper} {o : Oper} {aa : Act} {w : World} {Q : Exit → Act → World → Prop} {b : Nat} {C : Array Value} (hgd : o.guard = none) (x y : Operand) (ho : o.op = .store 89 x y) (D : Array Value) (h : RowVR w b C) (hD : D.size = 16) (h1 : D.all (·.oneCell') = true) (hx : aa.eval x = .pointer (some ⟨b, 0, none⟩)) (hy : aa.eval y = .agg D)
    {B : Nat} {w0 : World} (hb : Below B w0 w) (hB : B ≤ b) (hq : ∀ W, RowVR W b D → Below B w0 W → wpList Tryz.prog ops Q rest (aa.put o.dst undef) W) : wpList Tryz.prog ops Q (o :: rest) aa w :=
  wpList_store_mid hgd 89 x y ho b 0 D hx hy (by rw [hD]; exact h.there) (by rw [infoR, hD]) h1 (hq _ (h.store D hD) (below_setCells hb hB _ _))
theorem results_cell_tmp {P : Program} {fn : Func} {c u : Tmp} {ty : TypeId} (h : fn.results = #[.cell c ty, .tmp u]) {tmps : Array Value} {w : World} {v : Value} {b : Addr} (hp : tmps.getD c undef = .pointer (some b)) (hl : (loadVar ty b).run P w = .ok v w) :
    (results fn tmps).run P w = .ok (.tuple #[v, tmps.getD u undef]) w := by
  have hp' : tmps[c]?.getD undef = .pointer (some b) := by simpa using hp
  simp [results, h, hp', hl, asAddr]

set_option maxRecDepth 100000 in
set_option maxHeartbeats 4000000 in
theorem read_no1 (t : Tm) (op n : Int) (s : ByteArray) (a : Option Addr) (len cap : Nat) (op2 n2 : Int) (s2 : ByteArray) (a2 : Option Addr) (len2 cap2 : Nat) (x : Addr) (w : World) (he : ErrAt x w) (hl2 : Lies w 0 t (tmCells op2 n2 s2 a2 len2 cap2)) (hst : t.size ≤ 1048577) (hn : inO 2 t = none) : Calls Tryz.prog 80 #[.agg #[.int .i64 op, .int .i64 n, .string s, .slice a len cap], .agg #[.int .i64 op2, .int .i64 n2, .string s2, .slice a2 len2 cap2]] w fun q w' => q = .returned (.tuple #[.agg #[.int .i64 0, .int .i64 0, .string ⟨#[]⟩, .slice none 0 0, .int .i64 0, .int .i64 0, .string ⟨#[]⟩, .slice none 0 0, .int .i64 0, .int .i64 0, .string ⟨#[]⟩, .slice none 0 0, .int .i64 0, .int .i64 0, .string ⟨#[]⟩, .slice none 0 0], .iface 202 (.pointer (some x))]) ∧ Below w.heap.size w w' := by
  have hb0 : Below w.heap.size w (((w.alloc (.cells #[.int .i64 op, .int .i64 n, .string s, .slice a len cap] 29)).alloc (.cells #[.int .i64 op2, .int .i64 n2, .string s2, .slice a2 len2 cap2] 29)).alloc (.cells #[.int .i64 0, .int .i64 0, .string ⟨#[]⟩, .slice none 0 0, .int .i64 0, .int .i64 0, .string ⟨#[]⟩, .slice none 0 0, .int .i64 0, .int .i64 0, .string ⟨#[]⟩, .slice none 0 0, .int .i64 0, .int .i64 0, .string ⟨#[]⟩, .slice none 0 0] 89)) := bt (bt (ab _) (ab _) (Nat.le_refl _)) (ab _) (Nat.le_refl _)
  have hI := hide (inRow 2 (by omega) t op2 n2 s2 a2 len2 cap2 x _ (he.on hb0) (hl2.below hb0) (by omega))
  have HB0 := hide hb0
  have HR : Hid (RowVR (((w.alloc (.cells #[.int .i64 op, .int .i64 n, .string s, .slice a len cap] 29)).alloc (.cells #[.int .i64 op2, .int .i64 n2, .string s2, .slice a2 len2 cap2] 29)).alloc (.cells #[.int .i64 0, .int .i64 0, .string ⟨#[]⟩, .slice none 0 0, .int .i64 0, .int .i64 0, .string ⟨#[]⟩, .slice none 0 0, .int .i64 0, .int .i64 0, .string ⟨#[]⟩, .slice none 0 0, .int .i64 0, .int .i64 0, .string ⟨#[]⟩, .slice none 0 0] 89)) (w.heap.size + 1 + 1) #[.int .i64 0, .int .i64 0, .string ⟨#[]⟩, .slice none 0 0, .int .i64 0, .int .i64 0, .string ⟨#[]⟩, .slice none 0 0, .int .i64 0, .int .i64 0, .string ⟨#[]⟩, .slice none 0 0, .int .i64 0, .int .i64 0, .string ⟨#[]⟩, .slice none 0 0]) := by have := RowVR.new ((w.alloc (.cells #[.int .i64 op, .int .i64 n, .string s, .slice a len cap] 29)).alloc (.cells #[.int .i64 op2, .int .i64 n2, .string s2, .slice a2 len2 cap2] 29)) #[.int .i64 0, .int .i64 0, .string ⟨#[]⟩, .slice none 0 0, .int .i64 0, .int .i64 0, .string ⟨#[]⟩, .slice none 0 0, .int .i64 0, .int .i64 0, .string ⟨#[]⟩, .slice none 0 0, .int .i64 0, .int .i64 0, .string ⟨#[]⟩, .slice none 0 0] rfl; rwa [heap_size_alloc, heap_size_alloc] at this
  have HN := hide hn
  clear he hl2 hb0 hst hn
  go_enter Tryz.func80, Tryz.ntmps80
  go_wp2_with fail
  refine (unhide hI).mono ?_
  rintro q w1 ⟨hb1, h1⟩
  rcases h1 with ⟨-, rfl⟩ | ⟨L, v, h2, -⟩
  · have HB1 := hide (bt (unhide HB0) hb1 (Nat.le_refl _))
    have HR1 := hide ((unhide HR).below hb1)
    clear hb1
    go_wp2_with (refine wpList_storeR rfl (.tmp 4) (.tmp 18) rfl #[.int .i64 0, .int .i64 0, .string ⟨#[]⟩, .slice none 0 0, .int .i64 0, .int .i64 0, .string ⟨#[]⟩, .slice none 0 0, .int .i64 0, .int .i64 0, .string ⟨#[]⟩, .slice none 0 0, .int .i64 0, .int .i64 0, .string ⟨#[]⟩, .slice none 0 0] (unhide HR1) rfl (by simp [Value.oneCell']) rfl rfl (unhide HB1) (by omega) ?_; intro W hW hBW; have HW := hide hW; have HBW := hide hBW; clear hW hBW)
    have hLV := (unhide HW).load
    exact bodyPost_ret (v := .tuple #[.agg #[.int .i64 0, .int .i64 0, .string ⟨#[]⟩, .slice none 0 0, .int .i64 0, .int .i64 0, .string ⟨#[]⟩, .slice none 0 0, .int .i64 0, .int .i64 0, .string ⟨#[]⟩, .slice none 0 0, .int .i64 0, .int .i64 0, .string ⟨#[]⟩, .slice none 0 0], .iface 202 (.pointer (some x))]) (results_cell_tmp Tryz.results80 rfl hLV) rfl ⟨rfl, unhide HBW⟩
  · rw [unhide HN] at h2
    cases h2

end Go.Proofs.YtmklgikbajhcpaaGreatDoor
