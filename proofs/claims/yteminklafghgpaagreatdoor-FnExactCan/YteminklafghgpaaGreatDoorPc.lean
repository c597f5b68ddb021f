
/- A term put behind others, once, if there is room: as lists. The walk of spec.l2Add: a term is put behind others, once, if there is room. What the walk of spec.Parts needs: its first loop as lists; the empty literal. The walk of spec.l2Add again: besides, what the list's terms lie in is kept. What is known, as lists of terms: impl's way (what is whole is marked; what gave all that it gives is passed over) comes to the model's list, step by step. What one pass over a list of right terms does, place by place. The walk of spec.Parts: all that can be taken apart, in a list of its own; nothing that was there is written. The walk of spec.Can: whether a term can be made by what can be taken apart from some; nothing that was there is written. -/
import Derived.Test.YteminklafghgpaaGreatDoorHm
import Derived.Test.YteminklafghgpaaGreatDoorCz
import Derived.Test.YteminklafghgpaaGreatDoorRl
import Derived.Test.YteminklafghgpaaGreatDoorEy
import Derived.Test.YteminklafghgpaaGreatDoorMd
import Derived.Deep.RegionHeld3
import Derived.Deep.RegionWith
namespace Go.Proofs.YteminklafghgpaaGreatDoor
open Go.RowKit Go.Deep

/-- A term put behind others, once, if there is room. -/
def addP (L : List Tm) (t : Tm) : List Tm := if (decide (300 ≤ L.length) || hasB L t) = true then L else L ++ [t]

set_option maxRecDepth 100000 in
set_option maxHeartbeats 1000000 in
theorem add_full (B : Nat) (ks : List Tm) (f : List Nat) (t : Tm) (pa : Option Addr) (pcap : Nat) (op n : Int) (s : ByteArray) (a : Option Addr) (len cap : Nat) (w : World) (hg : Grow B ks (.slice pa ks.length pcap) f w) (hB : B ≤ w.heap.size) (hn : ks.length ≤ 300) (h : 300 ≤ ks.length) :
    Calls Tryz.prog 18 #[.slice pa ks.length pcap, .agg #[.int .i64 op, .int .i64 n, .string s, .slice a len cap]] w fun e w' => ∃ v' f', e = .returned v' ∧ Grow B (addP ks t) v' f' w' ∧ Below B w w' := by
  have HG := hide hg
  have hP : addP ks t = ks := by unfold addP; simp [h]
  rw [hP]
  generalize hk : ks.length = L at *
  obtain rfl : L = 300 := by omega
  clear hg hn h hP
  go_enter Tryz.func18, Tryz.ntmps18
  go_wp2_with fail
  go_ret
  exact ⟨_, f, rfl, (unhide HG).carry ((Below.refl _ _).alloc (Nat.le_refl _) _), (Below.refl _ _).alloc hB _⟩

set_option maxRecDepth 100000 in
set_option maxHeartbeats 1000000 in
theorem add_has (B : Nat) (ks : List Tm) (f : List Nat) (t : Tm) (pa : Option Addr) (pcap : Nat) (op n : Int) (s : ByteArray) (a : Option Addr) (len cap : Nat) (w : World) (hg : Grow B ks (.slice pa ks.length pcap) f w) (hB : B ≤ w.heap.size) (hl : Lies w 0 t (tmCells op n s a len cap)) (h : ks.length < 300) (hh : hasB ks t = true) :
    Calls Tryz.prog 18 #[.slice pa ks.length pcap, .agg #[.int .i64 op, .int .i64 n, .string s, .slice a len cap]] w fun e w' => ∃ v' f', e = .returned v' ∧ Grow B (addP ks t) v' f' w' ∧ Below B w w' := by
  have hab : Below w.heap.size w (w.alloc (.cells #[.int .i64 op, .int .i64 n, .string s, .slice a len cap] 35)) := (Below.refl _ _).alloc (Nat.le_refl _) _
  have HG := hide hg
  have hP : addP ks t = ks := by unfold addP; rw [hh]; simp
  rw [hP]
  obtain ⟨a1, c1, fp, he, _, _, hko, _, _⟩ := hg.kids
  simp only [Value.slice.injEq, true_and] at he
  obtain ⟨rfl, rfl⟩ := he
  have hhas := has_calls ks t pa pcap op n s a len cap (w.alloc (.cells #[.int .i64 op, .int .i64 n, .string s, .slice a len cap] 35)) (hko.lies.below hab) (hl.below hab) (by omega)
  rw [hh] at hhas
  have HH := hide hhas
  have HAB := hide hab
  clear hg hP hko hhas hab hl hh
  generalize hk : ks.length = L at *
  go_enter Tryz.func18, Tryz.ntmps18
  go_wp2_with fail
  refine (unhide HH).mono ?_
  rintro e w2 ⟨rfl, hb2⟩
  have hbb : Below w.heap.size w w2 := (unhide HAB).trans (hb2.mono (unhide HAB).size)
  clear hb2
  go_wp2_with fail
  go_ret
  exact ⟨_, f, rfl, (unhide HG).carry hbb, hbb.mono hB⟩

set_option maxRecDepth 100000 in
set_option maxHeartbeats 1000000 in
theorem add_new (B : Nat) (ks : List Tm) (f : List Nat) (t : Tm) (pa : Option Addr) (pcap : Nat) (op n : Int) (s : ByteArray) (a : Option Addr) (len cap : Nat) (w : World) (hg : Grow B ks (.slice pa ks.length pcap) f w) (hB : B ≤ w.heap.size) (hl : Lies w 0 t (tmCells op n s a len cap)) (hz : t.size ≤ 2097152) (h : ks.length < 300) (hh : hasB ks t = false) :
    Calls Tryz.prog 18 #[.slice pa ks.length pcap, .agg #[.int .i64 op, .int .i64 n, .string s, .slice a len cap]] w fun e w' => ∃ v' f', e = .returned v' ∧ Grow B (addP ks t) v' f' w' ∧ Below B w w' := by
  have hab : Below w.heap.size w (w.alloc (.cells #[.int .i64 op, .int .i64 n, .string s, .slice a len cap] 35)) := (Below.refl _ _).alloc (Nat.le_refl _) _
  have HG := hide hg
  have hP : addP ks t = ks ++ [t] := by unfold addP; rw [hh]; simp; omega
  rw [hP]
  obtain ⟨a1, c1, fp, he, _, _, hko, _, _⟩ := hg.kids
  simp only [Value.slice.injEq, true_and] at he
  obtain ⟨rfl, rfl⟩ := he
  have hhas := has_calls ks t pa pcap op n s a len cap (w.alloc (.cells #[.int .i64 op, .int .i64 n, .string s, .slice a len cap] 35)) (hko.lies.below hab) (hl.below hab) (by omega)
  rw [hh] at hhas
  have HH := hide hhas
  have HAB := hide hab
  have HL := hide hl
  have HZ := hide hz
  have HC := hide (cz_calls t op n s a len cap)
  have hlk : ks.length ≤ 4194304 := by omega
  have HLK := hide hlk
  clear hg hP hko hhas hab hl hh hz hlk
  generalize hk : ks.length = L at *
  go_enter Tryz.func18, Tryz.ntmps18
  go_wp2_with fail
  refine (unhide HH).mono ?_
  rintro e w2 ⟨rfl, hb2⟩
  have hbb : Below w.heap.size w w2 := (unhide HAB).trans (hb2.mono (unhide HAB).size)
  have hrow : w2.heap[w.heap.size]? = some (.cells #[.int .i64 op, .int .i64 n, .string s, .slice a len cap] 35 (0, 0)) := (hb2.block _ (by simp)).trans (heap_alloc_new w _)
  have d0 := cell_of_row hrow (j := 0) (by simp)
  have d1 := cell_of_row hrow (j := 1) (by simp)
  have d2 := cell_of_row hrow (j := 2) (by simp)
  have d3 := cell_of_row hrow (j := 3) (by simp)
  simp only [List.getElem_toArray, List.getElem_cons_zero, List.getElem_cons_succ] at d0 d1 d2 d3
  have HBB := hide hbb
  clear hb2 hbb hrow
  go_wp2_with fail
  refine (unhide HC w2 ((unhide HL).below (unhide HBB)) (unhide HZ)).mono ?_
  rintro e w3 ⟨a3, c3, f3, rfl, hO, ⟨hnd, hge⟩, hb3⟩
  have hbw3 : Below w.heap.size w w3 := (unhide HBB).trans (hb3.mono (unhide HBB).size)
  have hb4 : Below w3.heap.size w3 (w3.alloc (.cells #[.int .i64 op, .int .i64 n, .string s, .slice a3 len c3] 35)) := (Below.refl _ _).alloc (Nat.le_refl _) _
  have hbw4 : Below w.heap.size w (w3.alloc (.cells #[.int .i64 op, .int .i64 n, .string s, .slice a3 len c3] 35)) := hbw3.trans (hb4.mono hbw3.size)
  have hs2 := (unhide HBB).size
  have HP := hide (((unhide HG).carry hbw4).push (t := t) (Own.keep t _ f3 hO fun x hx => hb4.block x (Own.lt _ _ _ hO x hx)) hnd (fun x hx => by have := hge x hx; omega) (fun x hx hxf => by have := hge x hx; have := (unhide HG).lt x hxf; omega) (fun g hgv hx => by have := hge g hx; have := (unhide HG).own_lt g hgv; omega) (b := w3.heap.size) (o := 0) (fun j v hj => box_at w3 _ j v hj) 1 (by have := unhide HLK; omega) (by have := hbw4.size; omega) 24)
  have HBW := hide hbw4
  clear hO hnd hge hb3 hbw3 hb4 hbw4
  go_wp2_with (at_builtin; refine wpList_append_run rfl _ _ 24 rfl _ _ rfl rfl (fun v' w' => Grow B (ks ++ [t]) v' (f ++ f3) w' ∧ Below B (w3.alloc (.cells #[.int .i64 op, .int .i64 n, .string s, .slice a3 len c3] 35)) w') (unhide HP) ?_; rintro v5 w5 ⟨k1, k2⟩; have HK1 := hide k1; have HK2 := hide k2; clear k1 k2)
  go_ret
  exact ⟨_, f ++ f3, rfl, unhide HK1, ((unhide HBW).mono hB).trans (unhide HK2)⟩

/-- spec.l2Add at whatever list of its own and whatever term. -/
theorem add_calls (B : Nat) (ks : List Tm) (f : List Nat) (t : Tm) (v : Value) (op n : Int) (s : ByteArray) (a : Option Addr) (len cap : Nat) (w : World) (hg : Grow B ks v f w) (hB : B ≤ w.heap.size) (hl : Lies w 0 t (tmCells op n s a len cap)) (hz : t.size ≤ 2097152) (hn : ks.length ≤ 300) :
    Calls Tryz.prog 18 #[v, .agg #[.int .i64 op, .int .i64 n, .string s, .slice a len cap]] w fun e w' => ∃ v' f', e = .returned v' ∧ Grow B (addP ks t) v' f' w' ∧ Below B w w' := by
  obtain ⟨pa, pcap, rfl, _, _⟩ := hg.shape
  by_cases h : 300 ≤ ks.length
  · exact add_full B ks f t pa pcap op n s a len cap w hg hB hn h
  · cases hh : hasB ks t with
    | true => exact add_has B ks f t pa pcap op n s a len cap w hg hB hl (by omega) hh
    | false => exact add_new B ks f t pa pcap op n s a len cap w hg hB hl hz (by omega) hh

/-- The list behind the first k terms. -/
def gotP (ts : List Tm) (k : Nat) : List Tm := ((ts.take k).filter okT).foldl addP []

theorem addP_le {L : List Tm} {t : Tm} (h : L.length ≤ 300) : (addP L t).length ≤ 300 := by
  unfold addP
  split
  · exact h
  · rename_i hh
    simp at hh
    simp
    omega

theorem adds_le : ∀ (ps L : List Tm), L.length ≤ 300 → (ps.foldl addP L).length ≤ 300
  | [], _, h => h
  | p :: ps, L, h => by rw [List.foldl_cons]; exact adds_le ps _ (addP_le h)

theorem got_le (ts : List Tm) (k : Nat) : (gotP ts k).length ≤ 300 := adds_le _ _ (by simp)

theorem got_succ {ts : List Tm} {k : Nat} (h : k < ts.length) : gotP ts (k + 1) = if okT ts[k] = true then addP (gotP ts k) ts[k] else gotP ts k := by
  unfold gotP
  rw [Tm.take_succ_get (List.getElem?_eq_getElem h), List.filter_append, List.foldl_append]
  cases hk : okT ts[k] <;> simp [hk]

/-- The empty literal is a list of its own. -/
theorem Grow.lit (B : Nat) (w : World) (hB : B ≤ w.heap.size) : Grow B [] (.slice (some ⟨w.heap.size, 0, none⟩) 0 0) [] (w.alloc (.cells #[] 35)) :=
  ⟨⟨[], ⟨rfl, .inr ⟨w.heap.size, 0, #[], rfl, hB, heap_alloc_new w _, Nat.le_refl _, Nat.zero_le _, rfl, rfl⟩⟩, by simp [OwnRow]⟩, by simp, by simp, by simp⟩

theorem Grow.push2 {B : Nat} {ks : List Tm} {v : Value} {f : List Nat} {w : World} (h : Grow B ks v f w) {t : Tm} {cs : List Value} {f1 : List Nat} (ht : Own w t cs f1) (hnd : f1.Nodup) (hge : ∀ x ∈ f1, B ≤ x)
    (hd : ∀ x ∈ f1, x ∉ f) (hv : ∀ g, v.ownBlock = some g → g ∉ f1) {b o : Nat} (hr : w.rangeAt b o cs) (c : Nat) (hn : ks.length ≤ 4194304) (hB : B ≤ w.heap.size) (ty : TypeId) :
    ∃ v' w', (Builtin.append_ #[24, 24] ty #[v, .slice (some ⟨b, o, none⟩) 1 c]).run Tryz.prog w = .ok v' w' ∧ Grow B (ks ++ [t]) v' (f ++ f1) w' ∧ Below B w w' ∧ ∀ x, x < w.heap.size → (∀ g, v.ownBlock = some g → x ≠ g) → w'.heap[x]? = w.heap[x]? := by
  obtain ⟨v', w', q1, q2, q3⟩ := h.push ht hnd hge hd hv hr c hn hB ty
  refine ⟨v', w', q1, q2, q3, ?_⟩
  obtain ⟨xs, ho, hrow⟩ := h.row
  obtain ⟨i, hi, hzz⟩ := Option.map_eq_some_iff.1 info24
  simp only [Prod.mk.injEq] at hzz
  obtain ⟨hz, hs, hb⟩ := hzz
  have h4 := ht.length
  have hnews : ∀ j u, cs[j]? = some u → w.cell? ((⟨b, o, none⟩ : Addr).add j) = some u := fun j u hj => by rw [Addr.add_mid]; exact hr j u hj
  obtain ⟨v2, w2, k1, k2, k3, k4⟩ := run_append_own_wide (P := Tryz.prog) w B 24 ty 35 i _ 4 56 Tryz.underlying24 hi hz hs hb rfl (by omega) v ks.length xs ho ⟨b, o, none⟩ 1 c cs (by omega) hnews ht.one
    (by unfold maxLen; omega) (by omega) hB
  rw [q1] at k1
  injection k1 with e1 e2
  subst e2
  exact fun x hx hne => k3.block x hx fun e => hne x e.symm rfl

set_option maxRecDepth 100000 in
set_option maxHeartbeats 1000000 in
theorem add_full2 (B : Nat) (ks : List Tm) (f : List Nat) (t : Tm) (pa : Option Addr) (pcap : Nat) (op n : Int) (s : ByteArray) (a : Option Addr) (len cap : Nat) (w : World) (hg : Grow B ks (.slice pa ks.length pcap) f w) (hB : B ≤ w.heap.size) (hn : ks.length ≤ 300) (h : 300 ≤ ks.length) :
    Calls Tryz.prog 18 #[.slice pa ks.length pcap, .agg #[.int .i64 op, .int .i64 n, .string s, .slice a len cap]] w fun e w' => ∃ v' f', e = .returned v' ∧ Grow B (addP ks t) v' f' w' ∧ Below B w w' ∧ ∀ x, x < w.heap.size → (∀ g, (Value.slice pa ks.length pcap).ownBlock = some g → x ≠ g) → w'.heap[x]? = w.heap[x]? := by
  have HG := hide hg
  have hP : addP ks t = ks := by unfold addP; simp [h]
  rw [hP]
  generalize hk : ks.length = L at *
  obtain rfl : L = 300 := by omega
  clear hg hn h hP
  go_enter Tryz.func18, Tryz.ntmps18
  go_wp2_with fail
  go_ret
  exact ⟨_, f, rfl, (unhide HG).carry ((Below.refl _ _).alloc (Nat.le_refl _) _), (Below.refl _ _).alloc hB _, fun x hx _ => ((Below.refl _ _).alloc (Nat.le_refl _) _ : Below w.heap.size w _).block x hx⟩

set_option maxRecDepth 100000 in
set_option maxHeartbeats 1000000 in
theorem add_has2 (B : Nat) (ks : List Tm) (f : List Nat) (t : Tm) (pa : Option Addr) (pcap : Nat) (op n : Int) (s : ByteArray) (a : Option Addr) (len cap : Nat) (w : World) (hg : Grow B ks (.slice pa ks.length pcap) f w) (hB : B ≤ w.heap.size) (hl : Lies w 0 t (tmCells op n s a len cap)) (h : ks.length < 300) (hh : hasB ks t = true) :
    Calls Tryz.prog 18 #[.slice pa ks.length pcap, .agg #[.int .i64 op, .int .i64 n, .string s, .slice a len cap]] w fun e w' => ∃ v' f', e = .returned v' ∧ Grow B (addP ks t) v' f' w' ∧ Below B w w' ∧ ∀ x, x < w.heap.size → (∀ g, (Value.slice pa ks.length pcap).ownBlock = some g → x ≠ g) → w'.heap[x]? = w.heap[x]? := by
  have hab : Below w.heap.size w (w.alloc (.cells #[.int .i64 op, .int .i64 n, .string s, .slice a len cap] 35)) := (Below.refl _ _).alloc (Nat.le_refl _) _
  have HG := hide hg
  have hP : addP ks t = ks := by unfold addP; rw [hh]; simp
  rw [hP]
  obtain ⟨a1, c1, fp, he, _, _, hko, _, _⟩ := hg.kids
  simp only [Value.slice.injEq, true_and] at he
  obtain ⟨rfl, rfl⟩ := he
  have hhas := has_calls ks t pa pcap op n s a len cap (w.alloc (.cells #[.int .i64 op, .int .i64 n, .string s, .slice a len cap] 35)) (hko.lies.below hab) (hl.below hab) (by omega)
  rw [hh] at hhas
  have HH := hide hhas
  have HAB := hide hab
  clear hg hP hko hhas hab hl hh
  generalize hk : ks.length = L at *
  go_enter Tryz.func18, Tryz.ntmps18
  go_wp2_with fail
  refine (unhide HH).mono ?_
  rintro e w2 ⟨rfl, hb2⟩
  have hbb : Below w.heap.size w w2 := (unhide HAB).trans (hb2.mono (unhide HAB).size)
  clear hb2
  go_wp2_with fail
  go_ret
  exact ⟨_, f, rfl, (unhide HG).carry hbb, hbb.mono hB, fun x hx _ => hbb.block x hx⟩

set_option maxRecDepth 100000 in
set_option maxHeartbeats 1000000 in
theorem add_new2 (B : Nat) (ks : List Tm) (f : List Nat) (t : Tm) (pa : Option Addr) (pcap : Nat) (op n : Int) (s : ByteArray) (a : Option Addr) (len cap : Nat) (w : World) (hg : Grow B ks (.slice pa ks.length pcap) f w) (hB : B ≤ w.heap.size) (hl : Lies w 0 t (tmCells op n s a len cap)) (hz : t.size ≤ 2097152) (h : ks.length < 300) (hh : hasB ks t = false) :
    Calls Tryz.prog 18 #[.slice pa ks.length pcap, .agg #[.int .i64 op, .int .i64 n, .string s, .slice a len cap]] w fun e w' => ∃ v' f', e = .returned v' ∧ Grow B (addP ks t) v' f' w' ∧ Below B w w' ∧ ∀ x, x < w.heap.size → (∀ g, (Value.slice pa ks.length pcap).ownBlock = some g → x ≠ g) → w'.heap[x]? = w.heap[x]? := by
  have hab : Below w.heap.size w (w.alloc (.cells #[.int .i64 op, .int .i64 n, .string s, .slice a len cap] 35)) := (Below.refl _ _).alloc (Nat.le_refl _) _
  have HG := hide hg
  have hP : addP ks t = ks ++ [t] := by unfold addP; rw [hh]; simp; omega
  rw [hP]
  obtain ⟨a1, c1, fp, he, _, _, hko, _, _⟩ := hg.kids
  simp only [Value.slice.injEq, true_and] at he
  obtain ⟨rfl, rfl⟩ := he
  have hhas := has_calls ks t pa pcap op n s a len cap (w.alloc (.cells #[.int .i64 op, .int .i64 n, .string s, .slice a len cap] 35)) (hko.lies.below hab) (hl.below hab) (by omega)
  rw [hh] at hhas
  have HH := hide hhas
  have HAB := hide hab
  have HL := hide hl
  have HZ := hide hz
  have HC := hide (cz_calls t op n s a len cap)
  have hlk : ks.length ≤ 4194304 := by omega
  have HLK := hide hlk
  clear hg hP hko hhas hab hl hh hz hlk
  generalize hk : ks.length = L at *
  go_enter Tryz.func18, Tryz.ntmps18
  go_wp2_with fail
  refine (unhide HH).mono ?_
  rintro e w2 ⟨rfl, hb2⟩
  have hbb : Below w.heap.size w w2 := (unhide HAB).trans (hb2.mono (unhide HAB).size)
  have hrow : w2.heap[w.heap.size]? = some (.cells #[.int .i64 op, .int .i64 n, .string s, .slice a len cap] 35 (0, 0)) := (hb2.block _ (by simp)).trans (heap_alloc_new w _)
  have d0 := cell_of_row hrow (j := 0) (by simp)
  have d1 := cell_of_row hrow (j := 1) (by simp)
  have d2 := cell_of_row hrow (j := 2) (by simp)
  have d3 := cell_of_row hrow (j := 3) (by simp)
  simp only [List.getElem_toArray, List.getElem_cons_zero, List.getElem_cons_succ] at d0 d1 d2 d3
  have HBB := hide hbb
  clear hb2 hbb hrow
  go_wp2_with fail
  refine (unhide HC w2 ((unhide HL).below (unhide HBB)) (unhide HZ)).mono ?_
  rintro e w3 ⟨a3, c3, f3, rfl, hO, ⟨hnd, hge⟩, hb3⟩
  have hbw3 : Below w.heap.size w w3 := (unhide HBB).trans (hb3.mono (unhide HBB).size)
  have hb4 : Below w3.heap.size w3 (w3.alloc (.cells #[.int .i64 op, .int .i64 n, .string s, .slice a3 len c3] 35)) := (Below.refl _ _).alloc (Nat.le_refl _) _
  have hbw4 : Below w.heap.size w (w3.alloc (.cells #[.int .i64 op, .int .i64 n, .string s, .slice a3 len c3] 35)) := hbw3.trans (hb4.mono hbw3.size)
  have hs2 := (unhide HBB).size
  have HP := hide (((unhide HG).carry hbw4).push2 (t := t) (Own.keep t _ f3 hO fun x hx => hb4.block x (Own.lt _ _ _ hO x hx)) hnd (fun x hx => by have := hge x hx; omega) (fun x hx hxf => by have := hge x hx; have := (unhide HG).lt x hxf; omega) (fun g hgv hx => by have := hge g hx; have := (unhide HG).own_lt g hgv; omega) (b := w3.heap.size) (o := 0) (fun j v hj => box_at w3 _ j v hj) 1 (by have := unhide HLK; omega) (by have := hbw4.size; omega) 24)
  have HBW := hide hbw4
  clear hO hnd hge hb3 hbw3 hb4 hbw4
  go_wp2_with (at_builtin; refine wpList_append_run rfl _ _ 24 rfl _ _ rfl rfl (fun v' w' => Grow B (ks ++ [t]) v' (f ++ f3) w' ∧ Below B (w3.alloc (.cells #[.int .i64 op, .int .i64 n, .string s, .slice a3 len c3] 35)) w' ∧ ∀ x, x < (w3.alloc (.cells #[.int .i64 op, .int .i64 n, .string s, .slice a3 len c3] 35)).heap.size → (∀ g, (Value.slice pa L pcap).ownBlock = some g → x ≠ g) → w'.heap[x]? = (w3.alloc (.cells #[.int .i64 op, .int .i64 n, .string s, .slice a3 len c3] 35)).heap[x]?) (unhide HP) ?_; rintro v5 w5 ⟨k1, k2, k3⟩; have HK1 := hide k1; have HK2 := hide k2; have HK3 := hide k3; clear k1 k2 k3)
  go_ret
  exact ⟨_, f ++ f3, rfl, unhide HK1, ((unhide HBW).mono hB).trans (unhide HK2), fun x hx hne => (unhide HK3 x (by have := (unhide HBW).size; omega) hne).trans ((unhide HBW).block x hx)⟩

/-- spec.l2Add at whatever list of its own and whatever term. -/
theorem add_calls2 (B : Nat) (ks : List Tm) (f : List Nat) (t : Tm) (v : Value) (op n : Int) (s : ByteArray) (a : Option Addr) (len cap : Nat) (w : World) (hg : Grow B ks v f w) (hB : B ≤ w.heap.size) (hl : Lies w 0 t (tmCells op n s a len cap)) (hz : t.size ≤ 2097152) (hn : ks.length ≤ 300) :
    Calls Tryz.prog 18 #[v, .agg #[.int .i64 op, .int .i64 n, .string s, .slice a len cap]] w fun e w' => ∃ v' f', e = .returned v' ∧ Grow B (addP ks t) v' f' w' ∧ Below B w w' ∧ ∀ x, x < w.heap.size → (∀ g, v.ownBlock = some g → x ≠ g) → w'.heap[x]? = w.heap[x]? := by
  obtain ⟨pa, pcap, rfl, _, _⟩ := hg.shape
  by_cases h : 300 ≤ ks.length
  · exact add_full2 B ks f t pa pcap op n s a len cap w hg hB hn h
  · cases hh : hasB ks t with
    | true => exact add_has2 B ks f t pa pcap op n s a len cap w hg hB hl (by omega) hh
    | false => exact add_new2 B ks f t pa pcap op n s a len cap w hg hB hl hz (by omega) hh

/-- What a term may give, ever. -/
def mayP : Tm → List Tm
  | .node op _ _ [x, y] => if op = 3 then [x, y] else if op = 7 ∨ op = 8 then [y] else []
  | _ => []

/-- Whether it gives it by now. -/
def opnP (L : List Tm) : Tm → Bool
  | .node op _ _ [x, _] => if op = 7 then mkB L x else true
  | _ => true

/-- The model: what it gives by now. -/
def stepP (L : List Tm) (t : Tm) : List Tm := if opnP L t = true then (mayP t).foldl addP L else L

def passP : Nat → Nat → List Tm → List Tm
  | 0, _, L => L
  | f + 1, i, L => match L[i]? with
    | none => L
    | some t => passP f (i + 1) (stepP L t)

def loopP : Nat → List Tm → List Tm
  | 0, L => L
  | f + 1, L => if L.length < (passP 301 0 L).length then loopP f (passP 301 0 L) else passP 301 0 L

def partsP (ts : List Tm) : List Tm := loopP 301 ((ts.filter okT).foldl addP [])

/-- impl: what is known, and of each whether it is whole. -/
def learnP (s : List Tm × List Bool) (t : Tm) : List Tm × List Bool := if (decide (300 ≤ s.1.length) || hasB s.1 t) = true then s else (s.1 ++ [t], s.2 ++ [true])

def passI : Nat → Nat → List Tm × List Bool → List Tm × List Bool
  | 0, _, s => s
  | f + 1, i, s => match s.1[i]? with
    | none => s
    | some t => if s.2[i]? = some true ∧ opnP s.1 t = true then passI f (i + 1) ((mayP t).foldl learnP (s.1, s.2.set i false)) else passI f (i + 1) s

def loopI : Nat → List Tm × List Bool → List Tm × List Bool
  | 0, s => s
  | f + 1, s => if s.1.length < (passI 301 0 s).1.length then loopI f (passI 301 0 s) else passI 301 0 s

def partsI (ts : List Tm) : List Tm := (loopI 301 ((ts.filter okT).foldl learnP ([], []))).1

theorem same_me (t : Tm) : sameB t t = true := by simp [sameB, cmpT_same]

theorem hasB_append {L M : List Tm} {t : Tm} (h : hasB L t = true) : hasB (L ++ M) t = true := by
  unfold hasB at *
  rw [List.any_append, h, Bool.true_or]

/-- It gave all that it gives. -/
def GaveP (L : List Tm) (t : Tm) : Prop := ∀ p ∈ mayP t, hasB L p = true ∨ 300 ≤ L.length

theorem GaveP.append {L M : List Tm} {t : Tm} (h : GaveP L t) : GaveP (L ++ M) t := fun p hp => (h p hp).imp hasB_append (fun h => by rw [List.length_append]; omega)

theorem addP_id {L : List Tm} {p : Tm} (h : hasB L p = true ∨ 300 ≤ L.length) : addP L p = L := by
  unfold addP
  rw [if_pos]
  rcases h with h | h
  · rw [h, Bool.or_true]
  · simp [h]

theorem addP_grows (L : List Tm) (t : Tm) : ∃ M, addP L t = L ++ M := by
  unfold addP
  split
  · exact ⟨[], by simp⟩
  · exact ⟨[t], rfl⟩

theorem foldl_grows : ∀ (ps L : List Tm), ∃ M, ps.foldl addP L = L ++ M
  | [], L => ⟨[], by simp⟩
  | p :: ps, L => by
    obtain ⟨M, hM⟩ := addP_grows L p
    obtain ⟨N, hN⟩ := foldl_grows ps (addP L p)
    exact ⟨M ++ N, by rw [List.foldl_cons, hN, hM, List.append_assoc]⟩

theorem foldl_id : ∀ (ps L : List Tm), (∀ p ∈ ps, hasB L p = true ∨ 300 ≤ L.length) → ps.foldl addP L = L
  | [], _, _ => rfl
  | p :: ps, L, h => by
    rw [List.foldl_cons, addP_id (h p (by simp))]
    exact foldl_id ps L fun q hq => h q (by simp [hq])

theorem addP_has (L : List Tm) (t : Tm) : hasB (addP L t) t = true ∨ 300 ≤ (addP L t).length := by
  unfold addP
  split
  · rename_i h
    simp only [Bool.or_eq_true, decide_eq_true_eq] at h
    exact h.symm
  · left
    unfold hasB
    simp [same_me]

theorem foldl_has : ∀ (ps L : List Tm) (p : Tm), p ∈ ps → hasB (ps.foldl addP L) p = true ∨ 300 ≤ (ps.foldl addP L).length
  | [], _, _, h => by cases h
  | q :: ps, L, p, h => by
    rw [List.foldl_cons]
    rcases List.mem_cons.1 h with rfl | h
    · obtain ⟨M, hM⟩ := foldl_grows ps (addP L p)
      rw [hM]
      exact (addP_has L p).imp hasB_append (fun h => by rw [List.length_append]; omega)
    · exact foldl_has ps _ p h

theorem learn_fst (s : List Tm × List Bool) (t : Tm) : (learnP s t).1 = addP s.1 t := by
  unfold learnP addP
  split <;> rfl

theorem learns_fst : ∀ (ps : List Tm) (s : List Tm × List Bool), (ps.foldl learnP s).1 = ps.foldl addP s.1
  | [], _ => rfl
  | p :: ps, s => by rw [List.foldl_cons, List.foldl_cons, learns_fst ps, learn_fst]

/-- What is not whole gave all that it gives. -/
def WholeP (s : List Tm × List Bool) : Prop := s.2.length = s.1.length ∧ ∀ (j : Nat) (t : Tm), s.1[j]? = some t → s.2[j]? = some false → GaveP s.1 t

theorem WholeP.learn {s : List Tm × List Bool} (h : WholeP s) (t : Tm) : WholeP (learnP s t) := by
  unfold learnP
  split
  · exact h
  · refine ⟨by simp [h.1], fun j u hu hb => ?_⟩
    have hj : j < s.1.length := by
      rcases Nat.lt_or_ge j s.1.length with hj | hj
      · exact hj
      · rw [List.getElem?_append_right (by rw [h.1]; exact hj)] at hb
        rw [List.getElem?_singleton] at hb
        split at hb <;> cases hb
    rw [List.getElem?_append_left hj] at hu
    rw [List.getElem?_append_left (by rw [h.1]; exact hj)] at hb
    exact (h.2 j u hu hb).append

theorem WholeP.learns : ∀ (ps : List Tm) {s : List Tm × List Bool}, WholeP s → WholeP (ps.foldl learnP s)
  | [], _, h => h
  | p :: ps, _, h => by rw [List.foldl_cons]; exact WholeP.learns ps (h.learn p)

theorem learn_set (s : List Tm × List Bool) (i : Nat) (hi : i < s.2.length) (t : Tm) : learnP (s.1, s.2.set i false) t = ((learnP s t).1, (learnP s t).2.set i false) ∧ i < (learnP s t).2.length := by
  unfold learnP
  split
  · exact ⟨rfl, hi⟩
  · refine ⟨?_, by simp; omega⟩
    simp only [Prod.mk.injEq, true_and]
    rw [List.set_append_left _ _ hi]

theorem learns_set : ∀ (ps : List Tm) (s : List Tm × List Bool) (i : Nat), i < s.2.length → ps.foldl learnP (s.1, s.2.set i false) = ((ps.foldl learnP s).1, (ps.foldl learnP s).2.set i false)
  | [], _, _, _ => rfl
  | p :: ps, s, i, hi => by
    rw [List.foldl_cons, List.foldl_cons, (learn_set s i hi p).1]
    exact learns_set ps (learnP s p) i (learn_set s i hi p).2

theorem WholeP.open {s : List Tm × List Bool} (h : WholeP s) {i : Nat} {t : Tm} (ht : s.1[i]? = some t) : WholeP ((mayP t).foldl learnP (s.1, s.2.set i false)) := by
  have hi : i < s.1.length := (List.getElem?_eq_some_iff.1 ht).1
  rw [learns_set _ s i (by rw [h.1]; exact hi)]
  have h2 := WholeP.learns (mayP t) h
  have h3 : ((mayP t).foldl learnP s).1 = (mayP t).foldl addP s.1 := learns_fst _ _
  refine ⟨by rw [List.length_set]; exact h2.1, fun j u hu hb => ?_⟩
  simp only at hu hb ⊢
  by_cases hj : j = i
  · subst hj
    rw [h3] at hu ⊢
    obtain ⟨M, hM⟩ := foldl_grows (mayP t) s.1
    have hu' := hu
    rw [hM, List.getElem?_append_left hi, ht] at hu'
    obtain rfl := Option.some.inj hu'
    exact fun p hp => foldl_has _ _ p hp
  · rw [List.getElem?_set_ne (Ne.symm hj)] at hb
    exact h2.2 j u hu hb

theorem pass_same : ∀ (f i : Nat) (s : List Tm × List Bool), WholeP s → (passI f i s).1 = passP f i s.1 ∧ WholeP (passI f i s)
  | 0, _, _, h => ⟨rfl, h⟩
  | f + 1, i, s, h => by
    unfold passI passP
    cases ht : s.1[i]? with
    | none => exact ⟨rfl, h⟩
    | some t =>
      simp only []
      split
      · rename_i hw
        obtain ⟨h1, h2⟩ := pass_same f (i + 1) _ (h.open ht)
        refine ⟨?_, h2⟩
        rw [h1, learns_fst]
        unfold stepP
        rw [if_pos hw.2]
      · rename_i hw
        obtain ⟨h1, h2⟩ := pass_same f (i + 1) s h
        refine ⟨?_, h2⟩
        rw [h1]
        have hst : stepP s.1 t = s.1 := by
          unfold stepP
          split
          · rename_i ho
            have hi : i < s.1.length := (List.getElem?_eq_some_iff.1 ht).1
            have hb : s.2[i]? = some false := by
              have hl : i < s.2.length := by rw [h.1]; exact hi
              cases hv : s.2[i] with
              | false => rw [List.getElem?_eq_getElem hl, hv]
              | true => exact absurd ⟨by rw [List.getElem?_eq_getElem hl, hv], ho⟩ hw
            exact foldl_id _ _ (h.2 i t ht hb)
          · rfl
        rw [hst]

theorem loop_same : ∀ (f : Nat) (s : List Tm × List Bool), WholeP s → (loopI f s).1 = loopP f s.1
  | 0, _, _ => rfl
  | f + 1, s, h => by
    unfold loopI loopP
    obtain ⟨h1, h2⟩ := pass_same 301 0 s h
    rw [h1]
    split
    · rw [loop_same f _ h2, h1]
    · exact h1

theorem parts_same (ts : List Tm) : partsI ts = partsP ts := by
  unfold partsI partsP
  have h0 : WholeP (([], []) : List Tm × List Bool) := ⟨rfl, fun j t h => by simp at h⟩
  rw [loop_same _ _ (WholeP.learns _ h0), learns_fst]

theorem ok_two {o n : Int} {s : ByteArray} {ks : List Tm} (ho : o = 3 ∨ o = 7 ∨ o = 8) (h : okT (.node o n s ks) = true) : ∃ k0 k1, ks = [k0, k1] := by
  have hl : ks.length = 2 := by
    simp only [okT, rightT, Bool.and_eq_true, headB, decide_eq_true_eq] at h
    have hk : kidsOf o = 2 := by rcases ho with rfl | rfl | rfl <;> decide
    rcases ho with rfl | rfl | rfl
    · have := h.2.1.1
      simp [kidsOf] at this
      omega
    · have := h.2.1.1
      simp [kidsOf] at this
      omega
    · have := h.2.1.1
      simp [kidsOf] at this
      omega
  match ks, hl with
  | [k0, k1], _ => exact ⟨k0, k1, rfl⟩

theorem pass_end {N : List Tm} {k : Nat} (hk : N.length ≤ k) (h3 : k ≤ 300) : passP (301 - k) k N = N := by
  obtain ⟨f, hf⟩ : ∃ f, 301 - k = f + 1 := ⟨300 - k, by omega⟩
  rw [hf, passP, List.getElem?_eq_none hk]
theorem pass_step {N : List Tm} {k : Nat} {t : Tm} (ht : N[k]? = some t) (h3 : k < 300) : passP (301 - k) k N = passP (301 - (k + 1)) (k + 1) (stepP N t) := by
  obtain ⟨f, hf⟩ : ∃ f, 301 - k = f + 1 := ⟨300 - k, by omega⟩
  have hf2 : 301 - (k + 1) = f := by omega
  rw [hf, hf2]
  conv => lhs; rw [passP]
  rw [ht]
theorem step_pair (L : List Tm) (n : Int) (s : ByteArray) (x y : Tm) : stepP L (.node 3 n s [x, y]) = addP (addP L x) y := by simp [stepP, opnP, mayP]
theorem step_sign (L : List Tm) (n : Int) (s : ByteArray) (x y : Tm) : stepP L (.node 8 n s [x, y]) = addP L y := by simp [stepP, opnP, mayP]
theorem step_seal (L : List Tm) (n : Int) (s : ByteArray) (x y : Tm) : stepP L (.node 7 n s [x, y]) = if mkB L x = true then addP L y else L := by simp [stepP, opnP, mayP]
theorem step_else (L : List Tm) {op n : Int} {s : ByteArray} {ks : List Tm} (h3 : op ≠ 3) (h7 : op ≠ 7) (h8 : op ≠ 8) : stepP L (.node op n s ks) = L := by
  have : mayP (.node op n s ks) = [] := by
    match ks with
    | [] => rfl
    | [_] => rfl
    | [x, y] => simp [mayP, h3, h7, h8]
    | _ :: _ :: _ :: _ => rfl
  unfold stepP
  rw [this]
  simp
theorem addP_ok {L : List Tm} {t : Tm} (h : ∀ x ∈ L, okT x = true) (ht : okT t = true) : ∀ x ∈ addP L t, okT x = true := by
  intro x hx
  unfold addP at hx
  split at hx
  · exact h x hx
  · rcases List.mem_append.1 hx with hx | hx
    · exact h x hx
    · simp at hx
      rw [hx]
      exact ht
theorem addP_ge (L : List Tm) (t : Tm) : L.length ≤ (addP L t).length := by
  unfold addP
  split
  · exact Nat.le_refl _
  · simp
theorem got_ok (ts : List Tm) (k : Nat) : ∀ x ∈ gotP ts k, okT x = true := by
  unfold gotP
  have : ∀ (ps L : List Tm), (∀ x ∈ ps, okT x = true) → (∀ x ∈ L, okT x = true) → ∀ x ∈ ps.foldl addP L, okT x = true := by
    intro ps
    induction ps with
    | nil => intro L _ h; exact h
    | cons p ps ih =>
      intro L hp h
      rw [List.foldl_cons]
      exact ih _ (fun x hx => hp x (List.mem_cons_of_mem _ hx)) (addP_ok h (hp p List.mem_cons_self))
  exact this _ _ (fun x hx => (List.mem_filter.1 hx).2) (fun x hx => by cases hx)
theorem got_all (ts : List Tm) : loopP 301 (gotP ts ts.length) = partsP ts := by
  unfold gotP partsP
  rw [List.take_length]

/-- A term of a list of its own: its cells, and the blocks that it lies in. -/
theorem Grow.elem {B : Nat} {ks : List Tm} {v : Value} {f : List Nat} {w : World} (h : Grow B ks v f w) {i : Nat} (hi : i < ks.length) :
    ∃ g c op n s a len cap fp, v = .slice (some ⟨g, 0, none⟩) ks.length c ∧ w.cell? ⟨g, i * 4, none⟩ = some (.int .i64 op) ∧ w.cell? ⟨g, i * 4 + 1, none⟩ = some (.int .i64 n) ∧ w.cell? ⟨g, i * 4 + 2, none⟩ = some (.string s) ∧ w.cell? ⟨g, i * 4 + 3, none⟩ = some (.slice a len cap) ∧ Own w ks[i] (tmCells op n s a len cap) fp ∧ ∀ x ∈ fp, x ∈ f := by
  obtain ⟨xs, ho, hr⟩ := h.row
  rcases ho.2 with ⟨h1, h2⟩ | ⟨g, cap0, cur, h1, h2, h3, h4, h5, h6, h7⟩
  · omega
  · have hc : ∀ j u, xs[j]? = some u → w.cell? ⟨g, j, none⟩ = some u := fun j u hj => by
      have := ho.cells (g := g) (by rw [h1]; rfl) j u hj
      rw [Addr.add_mid, Nat.zero_add] at this
      exact this
    have hall : OwnAll w g 0 ks f := OwnRow.all hr fun j u hj => by rw [Nat.zero_mul, Nat.zero_add]; exact hc j u hj
    have hsp : ks = ks.take i ++ ks[i] :: ks.drop (i + 1) := by rw [← List.drop_eq_getElem_cons hi, List.take_append_drop]
    have hall2 := hall
    rw [hsp] at hall2
    obtain ⟨fA, f1, fB, cs, hf, _, hrange, hown, _⟩ := OwnAll.split hall2
    obtain ⟨op, n, s, a, len, cap, rfl⟩ := (Own.lies (L := 0) _ _ _ hown (fun _ _ => Nat.zero_le _)).cells
    have hlen : (ks.take i).length = i := by rw [List.length_take]; omega
    rw [hlen, Nat.zero_add] at hrange
    refine ⟨g, cap0, op, n, s, a, len, cap, f1, h1, ?_, ?_, ?_, ?_, hown, fun x hx => by rw [hf]; simp [hx]⟩
    · exact hrange 0 _ rfl
    · exact hrange 1 _ rfl
    · exact hrange 2 _ rfl
    · exact hrange 3 _ rfl

theorem loop_more {ts M : List Tm} (hM : M.length ≤ 300) (h : ∃ fu, 300 < fu + M.length ∧ loopP fu M = partsP ts) :
    (M.length < (passP 301 0 M).length → ∃ fu, 300 < fu + (passP 301 0 M).length ∧ loopP fu (passP 301 0 M) = partsP ts) ∧ (¬ M.length < (passP 301 0 M).length → passP 301 0 M = partsP ts) := by
  obtain ⟨fu, h1, h2⟩ := h
  obtain ⟨f, rfl⟩ : ∃ f, fu = f + 1 := ⟨fu - 1, by omega⟩
  rw [loopP] at h2
  refine ⟨fun hl => ⟨f, by omega, ?_⟩, fun hl => ?_⟩
  · rw [if_pos hl] at h2
    exact h2
  · rw [if_neg hl] at h2
    exact h2
theorem Own.lies0 {w : World} {t : Tm} {cs : List Value} {f : List Nat} (h : Own w t cs f) : Lies w 0 t cs := Own.lies t cs f h fun _ _ => Nat.zero_le _
theorem okT_small2 {t : Tm} (h : okT t = true) : t.size ≤ 2097152 := by
  simp only [okT, Bool.and_eq_true, decide_eq_true_eq] at h
  omega
/-- A term of two kids in blocks of its own: where the kids lie. -/
theorem Own.two {w : World} {op n : Int} {s : ByteArray} {x y : Tm} {a : Option Addr} {len cap : Nat} {fp : List Nat} (h : Own w (.node op n s [x, y]) (tmCells op n s a len cap) fp) :
    ∃ bk ox nx sx ax lx cx oy ny sy ay ly cy fx fy, a = some ⟨bk, 0, none⟩ ∧
      (w.cell? ⟨bk, 0, none⟩ = some (.int .i64 ox) ∧ w.cell? ⟨bk, 1, none⟩ = some (.int .i64 nx) ∧ w.cell? ⟨bk, 2, none⟩ = some (.string sx) ∧ w.cell? ⟨bk, 3, none⟩ = some (.slice ax lx cx) ∧
        w.cell? ⟨bk, 4, none⟩ = some (.int .i64 oy) ∧ w.cell? ⟨bk, 5, none⟩ = some (.int .i64 ny) ∧ w.cell? ⟨bk, 6, none⟩ = some (.string sy) ∧ w.cell? ⟨bk, 7, none⟩ = some (.slice ay ly cy)) ∧
      bk ∈ fp ∧ (Own w x (tmCells ox nx sx ax lx cx) fx ∧ ∀ z ∈ fx, z ∈ fp) ∧ (Own w y (tmCells oy ny sy ay ly cy) fy ∧ ∀ z ∈ fy, z ∈ fp) := by
  rw [Own] at h
  obtain ⟨a1, cap1, he, _, _, hh⟩ := h
  simp only [tmCells, List.cons.injEq, Value.slice.injEq, true_and, and_true] at he
  obtain ⟨rfl, _, _⟩ := he
  rcases hh with ⟨h0, _⟩ | ⟨b, C, f, rfl, rfl, hb, hall⟩
  · cases h0
  · rw [OwnAll] at hall
    obtain ⟨cs1, f1, f2, rfl, r1, o1, hall2⟩ := hall
    rw [OwnAll] at hall2
    obtain ⟨cs2, f3, f4, rfl, r2, o2, _⟩ := hall2
    obtain ⟨ox, nx, sx, ax, lx, cx, rfl⟩ := (Own.lies (L := 0) _ _ _ o1 (fun _ _ => Nat.zero_le _)).cells
    obtain ⟨oy, ny, sy, ay, ly, cy, rfl⟩ := (Own.lies (L := 0) _ _ _ o2 (fun _ _ => Nat.zero_le _)).cells
    exact ⟨b, ox, nx, sx, ax, lx, cx, oy, ny, sy, ay, ly, cy, f1, f3, rfl, ⟨r1 0 _ rfl, r1 1 _ rfl, r1 2 _ rfl, r1 3 _ rfl, r2 0 _ rfl, r2 1 _ rfl, r2 2 _ rfl, r2 3 _ rfl⟩, by simp, ⟨o1, fun z hz => by simp [hz]⟩, ⟨o2, fun z hz => by simp [hz]⟩⟩
/-- Two terms that lie in a list's own blocks, put behind it one after the other. -/
theorem two_adds {w wr V : World} {N : List Tm} {f3 : List Nat} {g NL gc : Nat} {x y : Tm} {ox nx : Int} {sx : ByteArray} {ax : Option Addr} {lx cx : Nat} {oy ny : Int} {sy : ByteArray} {ay : Option Addr} {ly cy : Nat} {fx fy : List Nat}
    (hBV : Below wr.heap.size wr V) (hG : Grow w.heap.size N (.slice (some ⟨g, 0, none⟩) NL gc) f3 wr) (hB : Below w.heap.size w wr) (_hx : (0 : Nat) = 0) (hox : Own wr x (tmCells ox nx sx ax lx cx) fx) (hoy : Own wr y (tmCells oy ny sy ay ly cy) fy) (hfy : ∀ z ∈ fy, z ∈ f3)
    (zx : x.size ≤ 2097152) (zy : y.size ≤ 2097152) (hN : N.length ≤ 300) :
    Calls Tryz.prog 18 #[.slice (some ⟨g, 0, none⟩) NL gc, .agg #[.int .i64 ox, .int .i64 nx, .string sx, .slice ax lx cx]] V.drew fun e w1 => ∃ v1, e = .returned v1 ∧ (∀ z, z < V.heap.size → z ≠ g → w1.heap[z]? = V.heap[z]?) ∧
      Calls Tryz.prog 18 #[v1, .agg #[.int .i64 oy, .int .i64 ny, .string sy, .slice ay ly cy]] w1 fun e w2 => ∃ v2 f2, e = .returned v2 ∧ Grow w.heap.size (addP (addP N x) y) v2 f2 w2 ∧ Below w.heap.size w w2 := by
  have hb : Below wr.heap.size wr V.drew := hBV.drew
  have hox2 := (Own.keep x _ fx hox fun z hz => hb.block z (Own.lt _ _ _ hox z hz)).lies0
  refine (add_calls2 w.heap.size N f3 x _ ox nx sx ax lx cx V.drew (hG.carry hb) (Nat.le_trans hB.size hb.size) hox2 zx hN).mono ?_
  rintro e w1 ⟨v1, f1, rfl, hg1, hb1, hk1⟩
  refine ⟨v1, rfl, fun z hz hne => hk1 z hz (fun g' hg' e => hne (by cases hg'; exact e)), ?_⟩
  have hoy2 : Own V.drew y (tmCells oy ny sy ay ly cy) fy := Own.keep y _ fy hoy fun z hz => hb.block z (Own.lt _ _ _ hoy z hz)
  have hoy3 : Own w1 y (tmCells oy ny sy ay ly cy) fy := Own.keep y _ fy hoy2 fun z hz => hk1 z (Own.lt _ _ _ hoy2 z hz) fun g' hg' e => hG.out g' hg' (e ▸ hfy z hz)
  have hbw : Below w.heap.size w w1 := (hB.trans (hb.mono hB.size)).trans hb1
  refine (add_calls2 w.heap.size (addP N x) f1 y v1 oy ny sy ay ly cy w1 hg1 hbw.size hoy3.lies0 zy (addP_le hN)).mono ?_
  rintro e w2 ⟨v2, f2, rfl, hg2, hb2, _⟩
  exact ⟨v2, f2, rfl, hg2, hbw.trans hb2⟩
theorem kcell {w w' : World} (h : Below w.heap.size w w') {b o : Nat} {v : Value} (hc : w.cell? ⟨b, o, none⟩ = some v) : w'.cell? ⟨b, o, none⟩ = some v := by
  rw [h.cell (p := ⟨b, o, none⟩) ?_, hc]
  refine Classical.byContradiction fun hn => ?_
  have : w.heap[b]? = none := Array.getElem?_eq_none_iff.2 (by simpa using hn)
  simp [World.cell?, this] at hc
theorem grow_lies {B : Nat} {N : List Tm} {g NL gc : Nat} {f : List Nat} {w : World} (h : Grow B N (.slice (some ⟨g, 0, none⟩) NL gc) f w) : LiesAll w 0 (some ⟨g, 0, none⟩) 0 N := by
  obtain ⟨a1, c1, fp, he, _, _, hko, _, _⟩ := h.kids
  simp only [Value.slice.injEq] at he
  obtain ⟨rfl, _, _⟩ := he
  exact hko.lies
theorem md2 (N : List Tm) (x : Tm) (NL : Nat) (hN : N.length = NL) (hl : NL ≤ 300) (zx : x.size ≤ 2097152) (okx : okT x = true) (pa : Option Addr) (pcap : Nat) (op n : Int) (s : ByteArray) (a : Option Addr) (len cap : Nat) (w : World) (h1 : LiesAll w 0 pa 0 N) (h2 : Lies w 0 x (tmCells op n s a len cap)) :
    Calls Tryz.prog 19 #[.slice pa NL pcap, .agg #[.int .i64 op, .int .i64 n, .string s, .slice a len cap]] w fun e w' => e = .returned (.bool (mkB N x)) ∧ Below w.heap.size w w' := by
  subst hN
  exact md_calls N x (by omega) zx (by simp only [okT, Bool.and_eq_true] at okx; exact okx.2) pa pcap op n s a len cap w h1 h2
theorem one_add {w wr V : World} {N : List Tm} {f3 : List Nat} {v : Value} {y : Tm} {oy ny : Int} {sy : ByteArray} {ay : Option Addr} {ly cy : Nat} {fy : List Nat}
    (hBV : Below wr.heap.size wr V) (hG : Grow w.heap.size N v f3 wr) (hB : Below w.heap.size w wr) (hoy : Own wr y (tmCells oy ny sy ay ly cy) fy) (zy : y.size ≤ 2097152) (hN : N.length ≤ 300) :
    Calls Tryz.prog 18 #[v, .agg #[.int .i64 oy, .int .i64 ny, .string sy, .slice ay ly cy]] V fun e w2 => ∃ v2 f2, e = .returned v2 ∧ Grow w.heap.size (addP N y) v2 f2 w2 ∧ Below w.heap.size w w2 := by
  have hoy2 := (Own.keep y _ fy hoy fun z hz => hBV.block z (Own.lt _ _ _ hoy z hz)).lies0
  refine (add_calls2 w.heap.size N f3 y v oy ny sy ay ly cy V (hG.carry hBV) (Nat.le_trans hB.size hBV.size) hoy2 zy hN).mono ?_
  rintro e w1 ⟨v1, f1, rfl, hg1, hb1, _⟩
  exact ⟨v1, f1, rfl, hg1, (hB.trans (hBV.mono hB.size)).trans hb1⟩
theorem kfacts (k n : Nat) (h : k < n) (hn : n ≤ 300) : wrap64 ((k : Int) + 1) = ((k + 1 : Nat) : Int) ∧ (k : Int) < (n : Int) ∧ k < 300 := by
  refine ⟨?_, by omega, by omega⟩
  unfold wrap64
  omega
def lenOf : Value → Nat
  | .slice _ n _ => n
  | _ => 0
def bitOf : Value → Nat
  | .bool true => 1
  | _ => 0

set_option maxRecDepth 100000 in
set_option maxHeartbeats 4000000 in
theorem partsS (ts : List Tm) (pa : Option Addr) (pcap : Nat) (w : World) (hk : LiesAll w 0 pa 0 ts) (hlen : ts.length ≤ 2097152) (hz : ∀ t ∈ ts, t.size ≤ 2097152) :
    Calls Tryz.prog 6 #[.slice pa ts.length pcap] w fun e w' => ∃ v f, e = .returned v ∧ Grow w.heap.size (partsP ts) v f w' ∧ Below w.heap.size w w' := by
  have HK := hide hk
  have hlb : (ts.length : Int) ≤ 2097152 := by omega
  have HZ := hide hz
  generalize hl : ts.length = tl at *
  have HLN := hide hl
  clear hk hz hl
  go_enter Tryz.func6, Tryz.ntmps6
  go_wp2_with fail
  go_loopw [3, 4] (fun v i wr => ∃ (k : Nat) (f : List Nat), k ≤ tl ∧ i = .int .i64 k ∧ Grow w.heap.size (gotP ts k) v f wr ∧ Below w.heap.size w wr) (fun _ i _ => tl - (intOf i).toNat)
  case atStart => exact ⟨0, [], Nat.zero_le _, rfl, Grow.lit _ _ (Nat.le_refl _), (Below.refl _ _).alloc (Nat.le_refl _) _⟩
  case round =>
    obtain ⟨k, f, hkl, rfl, hg, hb⟩ := hrel
    have HG := hide hg
    have HB := hide hb
    obtain ⟨va, vc, rfl, _, _⟩ := hg.shape
    have hgl := got_le ts k
    by_cases hlt : k < tl
    · have hlt' : k < ts.length := by have := unhide HLN; omega
      obtain ⟨b, o, op1, n1, s1, a1, len1, cap1, rfl, _, hbs, c0, c1, c2, c3, hT⟩ := (unhide HK).elem (k := k) hlt'
      have HT := hide (hT.below hb)
      have c0 := (hb.cell (p := ⟨b, o + k * 4, none⟩) hbs).trans c0
      have c1 := (hb.cell (p := ⟨b, o + k * 4 + 1, none⟩) hbs).trans c1
      have c2 := (hb.cell (p := ⟨b, o + k * 4 + 2, none⟩) hbs).trans c2
      have c3 := (hb.cell (p := ⟨b, o + k * 4 + 3, none⟩) hbs).trans c3
      have hzk := unhide HZ ts[k] (List.getElem_mem hlt')
      have HS := hide (got_succ hlt')
      clear hT hb hg
      generalize ts[k] = tk at *
      have h17 := hide (fun v hv => ok8 tk op1 n1 s1 a1 len1 cap1 v hv hzk)
      have q1 : (k : Int) < (tl : Int) := by omega
      have q0 : (0 : Int) ≤ (k : Int) := by omega
      have w1 : wrap64 ((k : Int) + 1) = ((k + 1 : Nat) : Int) := by unfold wrap64; omega
      generalize hL : (gotP ts k).length = L at *
      cases hok : okT tk with
      | false =>
        have HS2 : Hid (gotP ts (k + 1) = gotP ts k) := by show _ = _; rw [unhide HS, hok]; rfl
        rw [hok] at h17
        clear hok HS
        go_wp2_with fail
        refine (unhide h17 _ (unhide HT)).mono ?_
        rintro e w2 ⟨rfl, hb2⟩
        have HG2 := hide ((unhide HG).carry hb2)
        have HB2 := hide ((unhide HB).trans (hb2.mono (unhide HB).size))
        clear hb2
        go_wp2_with fail
        go_roundw
        case rel => exact ⟨k + 1, f, by omega, rfl, by rw [unhide HS2]; exact unhide HG2, unhide HB2⟩
        case measure => simp only [intOf]; omega
      | true =>
        have HS2 : Hid (gotP ts (k + 1) = addP (gotP ts k) tk) := by show _ = _; rw [unhide HS, hok]; rfl
        rw [hok] at h17
        clear hok HS
        go_wp2_with fail
        refine (unhide h17 _ (unhide HT)).mono ?_
        rintro e w2 ⟨rfl, hb2⟩
        have hbs2 : b < wr.heap.size := by have := (unhide HB).size; omega
        have c0 := (hb2.cell (p := ⟨b, o + k * 4, none⟩) hbs2).trans c0
        have c1 := (hb2.cell (p := ⟨b, o + k * 4 + 1, none⟩) hbs2).trans c1
        have c2 := (hb2.cell (p := ⟨b, o + k * 4 + 2, none⟩) hbs2).trans c2
        have c3 := (hb2.cell (p := ⟨b, o + k * 4 + 3, none⟩) hbs2).trans c3
        have HG2 := hide ((unhide HG).carry hb2)
        have HB2 := hide ((unhide HB).trans (hb2.mono (unhide HB).size))
        have HT2 := hide ((unhide HT).below hb2)
        have h18 := hide (add_calls2 w.heap.size (gotP ts k) f tk (.slice va L vc) op1 n1 s1 a1 len1 cap1 w2 (unhide HG2) (unhide HB2).size (unhide HT2) hzk (by omega))
        clear hb2
        go_wp2_with fail
        refine (unhide h18).mono ?_
        rintro e w3 ⟨v3, f3, rfl, hg3, hb3, -⟩
        have HG3 := hide hg3
        have HB3 := hide ((unhide HB2).trans hb3)
        clear hg3 hb3
        go_wp2_with fail
        go_roundw
        case rel => exact ⟨k + 1, f3, by omega, rfl, by rw [unhide HS2]; exact unhide HG3, unhide HB3⟩
        case measure => simp only [intOf]; omega
    · have q1 : ¬ (k : Int) < (tl : Int) := by omega
      have hk2 : k = tl := by omega
      subst hk2
      have HGA : Hid (loopP 301 (gotP ts k) = partsP ts) := by show _ = _; rw [← got_all ts, unhide HLN]
      have HOK := hide (got_ok ts k)
      clear hb hg
      generalize hG : gotP ts k = G at *
      generalize hL : G.length = L at *
      go_wp2_with fail
      go_loopw [3, 5, 6] (fun v m _ wr => ∃ (M : List Tm) (f : List Nat) (b : Bool), m = .bool b ∧ Grow w.heap.size M v f wr ∧ Below w.heap.size w wr ∧ M.length ≤ 300 ∧ (∀ t ∈ M, okT t = true) ∧ ((b = true ∧ ∃ fu, 300 < fu + M.length ∧ loopP fu M = partsP ts) ∨ (b = false ∧ M = partsP ts))) (fun v m _ _ => 2 * (301 - lenOf v) + bitOf m)
      case atStart => exact ⟨G, f, true, rfl, unhide HG, unhide HB, by omega, unhide HOK, Or.inl ⟨rfl, 301, by omega, unhide HGA⟩⟩
      case round =>
        obtain ⟨M, f2, b, rfl, hg, hb, hM, hok, hcase⟩ := hrel
        have HG2 := hide hg
        have HB2 := hide hb
        have HO2 := hide hok
        have HC2 := hide hcase
        obtain ⟨va2, vc2, rfl, _, _⟩ := hg.shape
        clear hg hb hok hcase
        cases b with
        | false =>
          have HE : Hid (M = partsP ts) := by
            rcases unhide HC2 with ⟨h, _⟩ | ⟨_, h⟩
            · cases h
            · exact h
          generalize hM2 : M.length = ML at *
          go_wp2_with fail
          go_ret
          exact ⟨_, rfl, ⟨f2, by rw [← unhide HE]; exact unhide HG2⟩, unhide HB2⟩
        | true =>
          have HE : Hid (∃ fu, 300 < fu + M.length ∧ loopP fu M = partsP ts) := by
            rcases unhide HC2 with ⟨_, h⟩ | ⟨h, _⟩
            · exact h
            · cases h
          have HLP := hide (loop_more (ts := ts) hM (unhide HE))
          generalize hPP : passP 301 0 M = PP at *
          have HPP := hide hPP
          clear hPP
          generalize hM2 : M.length = ML at *
          go_wp2_with fail
          go_loopw [3, 7, 8] (fun v i _ wr => ∃ (k2 : Nat) (N : List Tm) (f : List Nat), i = .int .i64 k2 ∧ Grow w.heap.size N v f wr ∧ Below w.heap.size w wr ∧ N.length ≤ 300 ∧ (∀ t ∈ N, okT t = true) ∧ k2 ≤ N.length ∧ ML ≤ N.length ∧ passP (301 - k2) k2 N = PP) (fun _ i _ _ => 301 - (intOf i).toNat)
          case atStart => exact ⟨0, M, f2, rfl, unhide HG2, unhide HB2, by omega, unhide HO2, Nat.zero_le _, by omega, unhide HPP⟩
          case round =>
            obtain ⟨k2, N, f3, rfl, hg, hb, hN, hok, hk2, hMN, hpass⟩ := hrel
            have HG3 := hide hg
            have HB3 := hide hb
            have HO3 := hide hok
            have HP3 := hide hpass
            have q0 : (0 : Int) ≤ (k2 : Int) := by omega
            by_cases hlt2 : k2 < N.length
            · obtain ⟨w1, q1, h300⟩ := kfacts k2 N.length hlt2 hN
              obtain ⟨g, gc, op, n, st, a, len, cap, fp, rfl, c0, c1, c2, c3, hown, hfp⟩ := hg.elem hlt2
              have hokT := hok N[k2] (List.getElem_mem hlt2)
              have hget : N[k2]? = some N[k2] := List.getElem?_eq_getElem hlt2
              have hstep := pass_step hget h300
              rw [hpass] at hstep
              have HST := hide hstep
              generalize N[k2] = T at *
              clear hg hb hok hpass hstep hget
              obtain ⟨op', n', st', ks⟩ := T
              have hh := hown
              simp only [Own, tmCells, List.cons.injEq, Value.int.injEq, Value.string.injEq, Value.slice.injEq, true_and, and_true] at hh
              obtain ⟨a', cap', ⟨rfl, rfl, rfl, rfl, rfl, rfl⟩, hrest⟩ := hh
              have HOWN := hide hown
              have HFP := hide hfp
              clear hown hrest hfp
              generalize hN2 : N.length = NL at *
              have HV : Hid (Below wr.heap.size wr (wr.alloc (.cells #[.int .i64 op, .int .i64 n, .string st, .slice a ks.length cap] 35))) := (Below.refl _ _).alloc (Nat.le_refl _) _
              have hgl : g < wr.heap.size := ((unhide HG3).own_lt g rfl).2
              by_cases o3 : op = 3
              · subst o3
                obtain ⟨x, y, rfl⟩ := ok_two (Or.inl rfl) hokT
                obtain ⟨bk, ox, nx, sx, ax, lx, cx, oy, ny, sy, ay, ly, cy, fx, fy, rfl, m0, hbk, hx, hy⟩ := (unhide HOWN).two
                have okx := okT_kids hokT (x := x) (by simp)
                have oky := okT_kids hokT (x := y) (by simp)
                have zx := okT_small2 okx
                have zy := okT_small2 oky
                have HST2 := HST
                rw [step_pair] at HST2
                have HO4 := hide (addP_ok (addP_ok (unhide HO3) okx) oky)
                have hl1 := addP_le (t := x) (show N.length ≤ 300 by omega)
                have hl2 := addP_le (t := y) hl1
                have hl3 := addP_ge N x
                have hl4 := addP_ge (addP N x) y
                have HM0 := hide m0
                have HX := hide hx
                have HY := hide hy
                have hbkg : bk ≠ g := fun e => (unhide HG3).out g rfl (unhide HFP g (e ▸ hbk))
                have hbkl : bk < wr.heap.size := (unhide HG3).lt bk (unhide HFP bk hbk)
                have HFY : Hid (∀ z ∈ fy, z ∈ f3) := fun z hz => unhide HFP z ((unhide HY).2 z hz)
                have HNOT : Hid (∀ z ∈ f3, z ≠ g ∧ z < wr.heap.size) := fun z hz => ⟨fun e => (unhide HG3).out g rfl (e ▸ hz), (unhide HG3).lt z hz⟩
                clear m0 hx hy
                go_wp2_with fail
                obtain ⟨V, hV⟩ : ∃ V, V = wr.alloc (.cells #[.int .i64 3, .int .i64 n, .string st, .slice (some ⟨bk, 0, none⟩) 2 cap] 35) := ⟨_, rfl⟩
                rw [← hV]
                have hBV : Below wr.heap.size wr V := by rw [hV]; exact (Below.refl _ _).alloc (Nat.le_refl _) _
                have e3 : V.cell? ⟨wr.heap.size, 3, none⟩ = some (.slice (some ⟨bk, 0, none⟩) 2 cap) := by rw [hV]; exact box_cell wr _ 35 3 _ rfl
                have hbbl : wr.heap.size < V.heap.size := by rw [hV, heap_size_alloc]; exact Nat.lt_succ_self _
                have hbbg : wr.heap.size ≠ g := fun e => Nat.lt_irrefl _ (e ▸ hgl)
                have hbkV : bk < V.heap.size := Nat.lt_trans hbkl hbbl
                clear hV
                obtain ⟨m0, m1, m2, m3, m4, m5, m6, m7⟩ := unhide HM0
                have p0 := (hBV.cell (p := ⟨bk, 0, none⟩) hbkl).trans m0
                have p1 := (hBV.cell (p := ⟨bk, 1, none⟩) hbkl).trans m1
                have p2 := (hBV.cell (p := ⟨bk, 2, none⟩) hbkl).trans m2
                have p3 := (hBV.cell (p := ⟨bk, 3, none⟩) hbkl).trans m3
                have p4 := (hBV.cell (p := ⟨bk, 4, none⟩) hbkl).trans m4
                have p5 := (hBV.cell (p := ⟨bk, 5, none⟩) hbkl).trans m5
                have p6 := (hBV.cell (p := ⟨bk, 6, none⟩) hbkl).trans m6
                have p7 := (hBV.cell (p := ⟨bk, 7, none⟩) hbkl).trans m7
                have HA := hide (two_adds (w := w) (wr := wr) (V := V) hBV (unhide HG3) (unhide HB3) rfl (unhide HX).1 (unhide HY).1 (fun z hz => unhide HFP z ((unhide HY).2 z hz)) zx zy (show N.length ≤ 300 by omega))
                clear m0 m1 m2 m3 m4 m5 m6 m7 hBV HM0
                first
                  | go_region_with (first
                      | (go_at_call 18
                         have qq := HC1
                         clear qq
                         refine (unhide HC1).mono ?_
                         rintro e y2 ⟨v2, f5, rfl, hg5, hb5⟩
                         have HG5 := hide hg5
                         have HB5 := hide hb5
                         clear hg5 hb5)
                      | (go_at_call 18
                         refine (unhide HA).mono ?_
                         rintro e y1 ⟨v1, rfl, hk1, hc1⟩
                         have HC1 := hide hc1
                         have e3' := (World.cell?_of_block (hk1 wr.heap.size hbbl hbbg)).trans e3
                         have p4' := (World.cell?_of_block (hk1 bk hbkV hbkg)).trans p4
                         have p5' := (World.cell?_of_block (hk1 bk hbkV hbkg)).trans p5
                         have p6' := (World.cell?_of_block (hk1 bk hbkV hbkg)).trans p6
                         have p7' := (World.cell?_of_block (hk1 bk hbkV hbkg)).trans p7
                         clear hc1 hk1))
                  | fail
                all_goals go_wp2_with fail
                all_goals go_roundw
                all_goals first
                  | exact ⟨k2 + 1, addP (addP N x) y, f5, rfl, unhide HG5, unhide HB5, hl2, unhide HO4, by omega, by omega, (unhide HST2).symm⟩
                  | (simp only [intOf]; omega)
              · by_cases o8 : op = 8
                · subst o8
                  obtain ⟨x, y, rfl⟩ := ok_two (Or.inr (Or.inr rfl)) hokT
                  obtain ⟨bk, ox, nx, sx, ax, lx, cx, oy, ny, sy, ay, ly, cy, fx, fy, rfl, m0, hbk, hx, hy⟩ := (unhide HOWN).two
                  have okx := okT_kids hokT (x := x) (by simp)
                  have oky := okT_kids hokT (x := y) (by simp)
                  have zx := okT_small2 okx
                  have zy := okT_small2 oky
                  have HO4 := hide (addP_ok (unhide HO3) oky)
                  have hl1 := addP_le (t := y) (show N.length ≤ 300 by omega)
                  have hl3 := addP_ge N y
                  have HM0 := hide m0
                  have HX := hide hx
                  have HY := hide hy
                  have hbkl : bk < wr.heap.size := (unhide HG3).lt bk (unhide HFP bk hbk)
                  clear m0 hx hy
                  have HST2 := HST
                  rw [step_sign] at HST2
                  have HA := hide (fun V' hV' => one_add (w := w) (wr := wr) (V := V') hV' (unhide HG3) (unhide HB3) (unhide HY).1 zy (show N.length ≤ 300 by omega))
                  have hBV : Below wr.heap.size wr (wr.alloc (.cells #[.int .i64 8, .int .i64 n, .string st, .slice (some ⟨bk, 0, none⟩) 2 cap] 35)) := (Below.refl _ _).alloc (Nat.le_refl _) _
                  obtain ⟨m0, m1, m2, m3, m4, m5, m6, m7⟩ := unhide HM0
                  have p0 := (hBV.cell (p := ⟨bk, 0, none⟩) hbkl).trans m0
                  have p1 := (hBV.cell (p := ⟨bk, 1, none⟩) hbkl).trans m1
                  have p2 := (hBV.cell (p := ⟨bk, 2, none⟩) hbkl).trans m2
                  have p3 := (hBV.cell (p := ⟨bk, 3, none⟩) hbkl).trans m3
                  have p4 := (hBV.cell (p := ⟨bk, 4, none⟩) hbkl).trans m4
                  have p5 := (hBV.cell (p := ⟨bk, 5, none⟩) hbkl).trans m5
                  have p6 := (hBV.cell (p := ⟨bk, 6, none⟩) hbkl).trans m6
                  have p7 := (hBV.cell (p := ⟨bk, 7, none⟩) hbkl).trans m7
                  have HBV := hide hBV
                  clear m0 m1 m2 m3 m4 m5 m6 m7 hBV HM0
                  go_wp2_with fail
                  refine (unhide HA _ (unhide HBV)).mono ?_
                  rintro e y2 ⟨v2, f5, rfl, hg5, hb5⟩
                  have HG5 := hide hg5
                  have HB5 := hide hb5
                  clear hg5 hb5 p0 p1 p2 p3 p4 p5 p6 p7
                  go_wp2_with fail
                  go_roundw
                  case rel => exact ⟨k2 + 1, addP N y, f5, rfl, unhide HG5, unhide HB5, hl1, unhide HO4, by omega, by omega, (unhide HST2).symm⟩
                  case measure => simp only [intOf]; omega
                · by_cases o7 : op = 7
                  · subst o7
                    obtain ⟨x, y, rfl⟩ := ok_two (Or.inr (Or.inl rfl)) hokT
                    obtain ⟨bk, ox, nx, sx, ax, lx, cx, oy, ny, sy, ay, ly, cy, fx, fy, rfl, m0, hbk, hx, hy⟩ := (unhide HOWN).two
                    have okx := okT_kids hokT (x := x) (by simp)
                    have oky := okT_kids hokT (x := y) (by simp)
                    have zx := okT_small2 okx
                    have zy := okT_small2 oky
                    have HO4 := hide (addP_ok (unhide HO3) oky)
                    have hl1 := addP_le (t := y) (show N.length ≤ 300 by omega)
                    have hl3 := addP_ge N y
                    have HM0 := hide m0
                    have HX := hide hx
                    have HY := hide hy
                    have hbkl : bk < wr.heap.size := (unhide HG3).lt bk (unhide HFP bk hbk)
                    clear m0 hx hy
                    have HST2 := HST
                    rw [step_seal] at HST2
                    have HMD := hide (md2 N x NL hN2 (by omega) zx okx)
                    have HA := hide (fun V' hV' => one_add (w := w) (wr := wr) (V := V') hV' (unhide HG3) (unhide HB3) (unhide HY).1 zy (show N.length ≤ 300 by omega))
                    have HKD := hide (grow_lies (unhide HG3))
                    have HXL := hide (unhide HX).1.lies0
                    have hBV : Below wr.heap.size wr (wr.alloc (.cells #[.int .i64 7, .int .i64 n, .string st, .slice (some ⟨bk, 0, none⟩) 2 cap] 35)) := (Below.refl _ _).alloc (Nat.le_refl _) _
                    obtain ⟨m0, m1, m2, m3, m4, m5, m6, m7⟩ := unhide HM0
                    have p0 := (hBV.cell (p := ⟨bk, 0, none⟩) hbkl).trans m0
                    have p1 := (hBV.cell (p := ⟨bk, 1, none⟩) hbkl).trans m1
                    have p2 := (hBV.cell (p := ⟨bk, 2, none⟩) hbkl).trans m2
                    have p3 := (hBV.cell (p := ⟨bk, 3, none⟩) hbkl).trans m3
                    have p4 := (hBV.cell (p := ⟨bk, 4, none⟩) hbkl).trans m4
                    have p5 := (hBV.cell (p := ⟨bk, 5, none⟩) hbkl).trans m5
                    have p6 := (hBV.cell (p := ⟨bk, 6, none⟩) hbkl).trans m6
                    have p7 := (hBV.cell (p := ⟨bk, 7, none⟩) hbkl).trans m7
                    have HBV := hide hBV
                    clear m0 m1 m2 m3 m4 m5 m6 m7 hBV HM0
                    cases hmk : mkB N x with
                    | true =>
                      rw [hmk] at HMD
                      have HST3 : Hid (PP = passP (301 - (k2 + 1)) (k2 + 1) (addP N y)) := by have := unhide HST2; rw [hmk] at this; exact this
                      go_wp2_with fail
                      refine (unhide HMD _ gc ox nx sx ax lx cx _ ((unhide HKD).below (unhide HBV)) ((unhide HXL).below (unhide HBV))).mono ?_
                      rintro e y1 ⟨rfl, hb1⟩
                      have HB1 := hide ((unhide HBV).trans (hb1.mono (unhide HBV).size))
                      have b3 := kcell hb1 (box_cell wr _ 35 3 _ rfl)
                      have p4 := kcell hb1 p4
                      have p5 := kcell hb1 p5
                      have p6 := kcell hb1 p6
                      have p7 := kcell hb1 p7
                      clear hb1
                      go_wp2_with fail
                      refine (unhide HA _ (unhide HB1)).mono ?_
                      rintro e y2 ⟨v2, f5, rfl, hg5, hb5⟩
                      have HG5 := hide hg5
                      have HB5 := hide hb5
                      clear hg5 hb5 p0 p1 p2 p3 p4 p5 p6 p7
                      go_wp2_with fail
                      go_roundw
                      case rel => exact ⟨k2 + 1, addP N y, f5, rfl, unhide HG5, unhide HB5, hl1, unhide HO4, by omega, by omega, (unhide HST3).symm⟩
                      case measure => simp only [intOf]; omega
                    | false =>
                      rw [hmk] at HMD
                      have HST3 : Hid (PP = passP (301 - (k2 + 1)) (k2 + 1) N) := by have := unhide HST2; rw [hmk] at this; exact this
                      go_wp2_with fail
                      refine (unhide HMD _ gc ox nx sx ax lx cx _ ((unhide HKD).below (unhide HBV)) ((unhide HXL).below (unhide HBV))).mono ?_
                      rintro e y1 ⟨rfl, hb1⟩
                      have HB1 := hide ((unhide HBV).trans (hb1.mono (unhide HBV).size))
                      have HG5 := hide ((unhide HG3).carry (unhide HB1))
                      have HB5 := hide ((unhide HB3).trans ((unhide HB1).mono (unhide HB3).size))
                      clear hb1 p0 p1 p2 p3 p4 p5 p6 p7
                      go_wp2_with fail
                      go_roundw
                      case rel => exact ⟨k2 + 1, N, f3, rfl, unhide HG5, unhide HB5, by omega, unhide HO3, by omega, by omega, (unhide HST3).symm⟩
                      case measure => simp only [intOf]; omega
                  · have HST2 := HST
                    rw [step_else N o3 o7 o8] at HST2
                    have q3 : (op == 3) = false := by simpa using o3
                    have q7 : (op == 7) = false := by simpa using o7
                    have q8 : (op == 8) = false := by simpa using o8
                    have HB4 := hide ((unhide HB3).trans ((unhide HV).mono (unhide HB3).size))
                    have HG4 := hide ((unhide HG3).carry (unhide HV))
                    go_wp2_with fail
                    go_roundw
                    case rel => exact ⟨k2 + 1, N, f3, rfl, unhide HG4, unhide HB4, by omega, unhide HO3, by omega, by omega, (unhide HST2).symm⟩
                    case measure => simp only [intOf]; omega
            · obtain ⟨va3, vc3, rfl, _, _⟩ := hg.shape
              rw [pass_end (by omega) (by omega)] at hpass
              subst hpass
              clear hg hb hok
              have q1 : ¬ (k2 : Int) < (N.length : Int) := by omega
              have HLP2 := HLP
              generalize hN2 : N.length = NL at *
              by_cases hmore : ML < NL
              · have q2 : (ML : Int) < (NL : Int) := by omega
                go_wp2_with fail
                go_roundw
                case rel => exact ⟨N, f3, true, by simp, unhide HG3, unhide HB3, by omega, unhide HO3, Or.inl ⟨rfl, by rw [hN2]; exact (unhide HLP2).1 hmore⟩⟩
                case measure => simp [lenOf, bitOf]; omega
              · have q2 : ¬ (ML : Int) < (NL : Int) := by omega
                go_wp2_with fail
                go_roundw
                case rel => exact ⟨N, f3, false, by simp, unhide HG3, unhide HB3, by omega, unhide HO3, Or.inr ⟨rfl, (unhide HLP2).2 hmore⟩⟩
                case measure => simp [lenOf, bitOf]; omega

theorem parts_le (ts : List Tm) : (partsP ts).length ≤ 300 := by
  have hs : ∀ (L : List Tm) (t : Tm), L.length ≤ 300 → (stepP L t).length ≤ 300 := fun L t h => by
    unfold stepP
    split
    · exact adds_le _ _ h
    · exact h
  have hp : ∀ (f i : Nat) (L : List Tm), L.length ≤ 300 → (passP f i L).length ≤ 300 := by
    intro f
    induction f with
    | zero => intro i L h; exact h
    | succ f ih =>
      intro i L h
      rw [passP]
      split
      · exact h
      · exact ih _ _ (hs _ _ h)
  have hl : ∀ (f : Nat) (L : List Tm), L.length ≤ 300 → (loopP f L).length ≤ 300 := by
    intro f
    induction f with
    | zero => intro L h; exact h
    | succ f ih =>
      intro L h
      rw [loopP]
      split
      · exact ih _ (hp _ _ _ h)
      · exact hp _ _ _ h
  exact hl _ _ (adds_le _ _ (by simp))

theorem below_drewD {w v : World} (h : Below w.drew.heap.size w.drew v) : Below w.heap.size w v := ((Below.refl _ _).drew).trans h

set_option maxRecDepth 100000 in
set_option maxHeartbeats 2000000 in
theorem canS (ts : List Tm) (t : Tm) (pa : Option Addr) (pcap : Nat) (op n : Int) (s : ByteArray) (a : Option Addr) (len cap : Nat) (w : World) (hk : LiesAll w 0 pa 0 ts) (hlen : ts.length ≤ 2097152) (hz : ∀ t ∈ ts, t.size ≤ 2097152) (hl : Lies w 0 t (tmCells op n s a len cap)) (ht : t.size ≤ 2097152) :
    Calls Tryz.prog 13 #[.slice pa ts.length pcap, .agg #[.int .i64 op, .int .i64 n, .string s, .slice a len cap]] w fun e w' => e = .returned (.bool (okT t && mkB (partsP ts) t)) ∧ Below w.heap.size w w' := by
  have h17 := hide (fun v hv => ok8 t op n s a len cap v hv ht)
  have h6 := hide (fun v hv => partsS ts pa pcap v hv hlen hz)
  have hple := parts_le ts
  have hB0 : Below w.heap.size w (w.alloc (.cells #[.int .i64 op, .int .i64 n, .string s, .slice a len cap] 35)) := (Below.refl _ _).alloc (Nat.le_refl _) _
  have HK := hide (hk.below hB0)
  have HL := hide (hl.below hB0)
  have HB0 := hide hB0
  have d0 := box_cell w #[.int .i64 op, .int .i64 n, .string s, .slice a len cap] 35 0 _ rfl
  have d1 := box_cell w #[.int .i64 op, .int .i64 n, .string s, .slice a len cap] 35 1 _ rfl
  have d2 := box_cell w #[.int .i64 op, .int .i64 n, .string s, .slice a len cap] 35 2 _ rfl
  have d3 := box_cell w #[.int .i64 op, .int .i64 n, .string s, .slice a len cap] 35 3 _ rfl
  clear hk hl hB0
  generalize hP : partsP ts = PT at *
  cases hok : okT t with
  | false =>
    rw [hok] at h17
    generalize ts.length = tl at *
    go_enter Tryz.func13, Tryz.ntmps13
    go_wp2_with fail
    generalize w.alloc (.cells #[.int .i64 op, .int .i64 n, .string s, .slice a len cap] 35) = V at *
    first
      | go_region_with (go_at_call 17
                        refine (unhide h17 _ ((unhide HL).below ((Below.refl _ _).drew))).mono ?_
                        rintro e y1 ⟨rfl, hb1⟩
                        have HB1 := hide ((unhide HB0).trans ((below_drewD hb1).mono (unhide HB0).size))
                        clear hb1)
      | fail
    all_goals go_wp2_with fail
    all_goals (go_ret; exact ⟨rfl, unhide HB1⟩)
  | true =>
    rw [hok] at h17
    have h19 := hide (fun PL hPL => md2 PT t PL hPL (by omega) ht hok)
    generalize ts.length = tl at *
    go_enter Tryz.func13, Tryz.ntmps13
    go_wp2_with fail
    generalize w.alloc (.cells #[.int .i64 op, .int .i64 n, .string s, .slice a len cap] 35) = V at *
    first
      | go_region_with (first
          | (go_at_call 19
             have qq := HC2
             clear qq
             refine (unhide h19 PT.length rfl _ _ op n s a len cap _ (unhide HKD) (unhide HL2)).mono ?_
             rintro e y3 ⟨rfl, hb3⟩
             have HB3 := hide ((unhide HC2).trans (hb3.mono (unhide HC2).size))
             clear hb3)
          | (go_at_call 6
             have qq := HC1
             clear qq
             refine (unhide h6 _ ((unhide HK).below (unhide HY1))).mono ?_
             rintro e y2 ⟨v, f, rfl, hg, hb2⟩
             obtain ⟨va, vc, rfl, _, _⟩ := hg.shape
             obtain ⟨a1, c1, fp, he, _, _, hko, _, _⟩ := hg.kids
             simp only [Value.slice.injEq, true_and] at he
             obtain ⟨rfl, rfl⟩ := he
             have HKD := hide hko.lies
             have HL2 := hide (((unhide HL).below (unhide HY1)).below hb2)
             have HC2 := hide ((unhide HC1).trans (hb2.mono (unhide HC1).size))
             have g0 := kcell hb2 f0
             have g1 := kcell hb2 f1
             have g2 := kcell hb2 f2
             have g3 := kcell hb2 f3
             clear hg hb2 hko)
          | (go_at_call 17
             refine (unhide h17 _ ((unhide HL).below ((Below.refl _ _).drew))).mono ?_
             rintro e y1 ⟨rfl, hb1⟩
             have HY1 := hide (below_drewD hb1)
             have HC1 := hide ((unhide HB0).trans ((unhide HY1).mono (unhide HB0).size))
             have f0 := kcell (unhide HY1) d0
             have f1 := kcell (unhide HY1) d1
             have f2 := kcell (unhide HY1) d2
             have f3 := kcell (unhide HY1) d3
             clear hb1))
      | fail
    all_goals go_wp2_with fail
    all_goals (go_ret; exact ⟨rfl, unhide HB3⟩)

end Go.Proofs.YteminklafghgpaaGreatDoor
