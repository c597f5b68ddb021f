
/- Rows of texts and policies in memory, and the walks of laws.szStringS, toStringS, eqStringS, szPolicy, toPolicy, eqPolicy. -/
import Derived.Test.YtepmgjklonhkgaaIn
import Derived.Deep.RegionHeld3
namespace Go.Proofs.Ytepmgjklonhkgaa
open Go.RowKit Go.Deep

/-- The texts lie in the world, one behind the other, in a block from L on. -/
def Txt (w : World) (L : Nat) (a : Option Addr) (l : List ByteArray) : Prop := ∀ k t, l[k]? = some t → ∃ b o, a = some ⟨b, o, none⟩ ∧ L ≤ b ∧ w.cell? ⟨b, o + k, none⟩ = some (.string t)
theorem Txt.on {w w' : World} {L : Nat} {a : Option Addr} {l : List ByteArray} (h : Txt w L a l) (hb : Below w.heap.size w w') : Txt w' L a l := fun k t hk => by
  obtain ⟨b, o, h1, h2, h3⟩ := h k t hk
  exact ⟨b, o, h1, h2, below_some hb h3⟩
theorem Txt.low {w : World} {L L' : Nat} {a : Option Addr} {l : List ByteArray} (h : Txt w L a l) (hL : L' ≤ L) : Txt w L' a l := fun k t hk => by
  obtain ⟨b, o, h1, h2, h3⟩ := h k t hk
  exact ⟨b, o, h1, by omega, h3⟩

def txw : List ByteArray → Nat
  | [] => 0
  | t :: r => t.size + txw r
theorem txw_append (a b : List ByteArray) : txw (a ++ b) = txw a + txw b := by
  induction a with
  | nil => simp [txw]
  | cons t r ih => simp only [List.cons_append, txw, ih]; omega
theorem txw_take (l : List ByteArray) {k : Nat} {t : ByteArray} (h : l[k]? = some t) : txw (l.take (k + 1)) = txw (l.take k) + t.size := by
  rw [List.take_add_one, h, txw_append]; simp [txw]
theorem txw_take_le (l : List ByteArray) (k : Nat) : txw (l.take k) ≤ txw l := by
  have := txw_append (l.take k) (l.drop k)
  rw [List.take_append_drop] at this
  omega
theorem txw_get {l : List ByteArray} {k : Nat} {t : ByteArray} (h : l[k]? = some t) : t.size ≤ txw l := by
  have h1 := txw_take l h
  have h2 := txw_take_le l (k + 1)
  omega

set_option maxRecDepth 100000 in
set_option maxHeartbeats 1000000 in
theorem szT (l : List ByteArray) (a : Option Addr) (cap : Nat) (left : Int) (w : World) (hl : Txt w 0 a l) (hm : l.length ≤ maxLen) (ht : ∀ t ∈ l, t.size ≤ maxLen) (h0 : 0 ≤ left) (h1 : left ≤ 1048576) :
    Calls Try.prog 51 #[.slice a l.length cap, .int .i64 left] w fun e w' => e = .returned (.int .i64 (szv left (l.length + txw l))) ∧ w' = w := by
  unfold maxLen at hm ht
  generalize hlen : l.length = len at *
  have HL : Hid (l.length = len) := hlen
  clear hlen
  have w0 : wrap64 (left - (len : Int)) = left - (len : Int) := by unfold wrap64; omega
  by_cases hlt : left - len < 0
  · have HE : Hid (szv left (len + txw l) = -1) := szv_no (by omega)
    go_enter Try.func51, Try.ntmps51
    go_wp2_with fail
    go_ret
    exact ⟨ret_int (unhide HE).symm, rfl⟩
  · go_enter Try.func51, Try.ntmps51
    go_wp2_with fail
    go_loopw [1, 5] (fun x i wr => ∃ k : Nat, k ≤ len ∧ i = .int .i64 k ∧ (len : Int) + (txw (l.take k) : Int) ≤ left ∧ x = .int .i64 (left - len - (txw (l.take k) : Int)) ∧ wr = w) (fun _ i _ => len - (intOf i).toNat)
    case atStart => exact ⟨0, Nat.zero_le _, rfl, by simp [txw]; omega, by simp [txw], rfl⟩
    case round =>
      obtain ⟨k, hk, rfl, hle, rfl, rfl⟩ := hrel
      by_cases hkl : k < len
      · have hkl' : k < l.length := by have := HL.out; omega
        obtain ⟨t, hkt⟩ : ∃ t, l[k]? = some t := ⟨_, List.getElem?_eq_getElem hkl'⟩
        obtain ⟨b, o, rfl, -, c0⟩ := hl k t hkt
        have hts := ht t (List.mem_of_getElem? hkt)
        have HW := hide (txw_take l hkt)
        have HA := hide (txw_take_le l (k + 1))
        have c2 : (k : Int) < (len : Int) := by omega
        have c3 : (0 : Int) ≤ (k : Int) := by omega
        generalize hwl : txw (l.take k) = wl at *
        generalize hwk : txw (l.take (k + 1)) = wk at *
        have w1 : wrap64 (left - len - wl - (t.size : Int)) = left - len - wl - (t.size : Int) := by unfold wrap64; omega
        have w2 : wrap64 ((k : Int) + 1) = ((k + 1 : Nat) : Int) := by unfold wrap64; omega
        have Hwk : Hid (txw (l.take (k + 1)) = wk) := hwk
        clear hwl hwk hkt hl ht
        by_cases hw : (t.size : Int) ≤ left - len - wl
        · have hsv : ¬ left - len - wl - (t.size : Int) < 0 := by omega
          go_wp2_with fail
          go_roundw
          case rel => exact ⟨k + 1, by omega, rfl, by have := HW.out; have := Hwk.out; omega, by have := HW.out; have := Hwk.out; rw [this]; congr 1; omega, trivial⟩
          case measure => simp [intOf]; omega
        · have hsv : left - len - wl - (t.size : Int) < 0 := by omega
          go_wp2_with fail
          go_ret
          exact ⟨ret_int (by rw [szv_no (by have := HW.out; have := HA.out; omega)]), rfl⟩
      · have c2 : ¬ (k : Int) < (len : Int) := by omega
        go_wp2_with fail
        go_ret
        have hkk : k = len := by omega
        exact ⟨ret_int (by rw [List.take_of_length_le (by have := HL.out; omega)] at hle ⊢; rw [szv_yes (by omega)]; omega), rfl⟩

theorem infoStr : (Try.prog.info? 9).map (fun i => (i.zero, i.size, i.bytes)) = some (some (.string ByteArray.empty), 1, 16) := by kernel_rfl

theorem make_tx (n : Nat) (hn : n ≤ 2097152) (w : World) :
    (Instr.makeSlice 72 (.int .i64 (n : Int)) (.int .i64 (n : Int))).run Try.prog w = .ok (.slice (some ⟨w.heap.size, 0, none⟩) n n) (w.alloc (.cells (madeCells #[.string ByteArray.empty] n) 9)) := by
  obtain ⟨i, hi, hzz⟩ := Option.map_eq_some_iff.1 infoStr
  simp only [Prod.mk.injEq] at hzz
  obtain ⟨hz, hs, hb⟩ := hzz
  have hr := run_make (P := Try.prog) w 72 9 i _ Try.underlying72 hi hz .i64 .i64 n n (by omega) (Int.le_refl _) (by rw [hb]; omega) (by omega)
  simp only [Int.toNat_natCast, hs, Nat.mul_one] at hr
  exact hr

/-- In the middle of the copy: k of the texts are there. -/
structure TxMid (w : World) (l : List ByteArray) (k : Nat) (wr : World) : Prop where
  below : Below w.heap.size w wr
  row : ∃ C, wr.heap[w.heap.size]? = some (.cells C 9 (0, 0)) ∧ C.size = l.length
  done : ∀ j t, j < k → l[j]? = some t → wr.cell? ⟨w.heap.size, j, none⟩ = some (.string t)

theorem TxMid.start (w : World) (l : List ByteArray) : TxMid w l 0 (w.alloc (.cells (madeCells #[.string ByteArray.empty] l.length) 9)) :=
  ⟨(Below.refl _ _).alloc (Nat.le_refl _) _, ⟨_, heap_alloc_new w _, size_madeCells _ _⟩, fun _ _ hj => absurd hj (Nat.not_lt_zero _)⟩

theorem TxMid.step {w wr : World} {l : List ByteArray} {k : Nat} {t : ByteArray} (h : TxMid w l k wr) (hk : l[k]? = some t) : TxMid w l (k + 1) (wr.setCell ⟨w.heap.size, k, none⟩ (.string t)) := by
  obtain ⟨C, h1, h2⟩ := h.row
  have hlt : k < l.length := by
    by_cases hq : k < l.length
    · exact hq
    · rw [List.getElem?_eq_none (by omega)] at hk; cases hk
  have h3 : (wr.setCell ⟨w.heap.size, k, none⟩ (.string t)).heap[w.heap.size]? = some (.cells (C.setIfInBounds k (.string t)) 9 (0, 0)) := by
    simp only [World.setCell, Array.getElem?_modify]
    simp [h1]
  refine ⟨h.below.setCell (Nat.le_refl _) _, ⟨_, h3, by simpa using h2⟩, fun j x hj hx => ?_⟩
  show (wr.setCell ⟨w.heap.size, k, none⟩ (.string t)).cell? ⟨w.heap.size, j, none⟩ = _
  by_cases hjk : j = k
  · subst hjk
    rw [hk] at hx
    cases hx
    exact (cell_of_row h3 (by simp; omega)).trans (by simp)
  · rw [World.cell?_setCell_other _ _ _ _ (fun e => hjk (by cases e; rfl))]
    exact h.done j x (by omega) hx

theorem TxMid.at {w wr : World} {l : List ByteArray} {k : Nat} (h : TxMid w l k wr) (hk : k < l.length) : (∃ v, wr.cell? ⟨w.heap.size, k, none⟩ = some v) ∧ wr.frozen? ⟨w.heap.size, k, none⟩ = false := by
  obtain ⟨C, h1, h2⟩ := h.row
  exact ⟨⟨_, cell_of_row h1 (by omega)⟩, frozen_of_row h1⟩

theorem TxMid.txt {w wr : World} {l : List ByteArray} (h : TxMid w l l.length wr) : Txt wr w.heap.size (some ⟨w.heap.size, 0, none⟩) l := fun k t hk => by
  have hkl : k < l.length := by
    by_cases hq : k < l.length
    · exact hq
    · rw [List.getElem?_eq_none (by omega)] at hk; cases hk
  exact ⟨_, _, rfl, Nat.le_refl _, by rw [Nat.zero_add]; exact h.done k t hkl hk⟩

set_option maxRecDepth 100000 in
set_option maxHeartbeats 1000000 in
theorem toT (l : List ByteArray) (a : Option Addr) (cap : Nat) (w : World) (hl : Txt w 0 a l) (hsz : l.length ≤ 2097152) :
    Calls Try.prog 54 #[.slice a l.length cap] w fun e w' => e = .returned (.slice (some ⟨w.heap.size, 0, none⟩) l.length l.length) ∧ Txt w' w.heap.size (some ⟨w.heap.size, 0, none⟩) l ∧ Below w.heap.size w w' := by
  have hmk := make_tx l.length hsz
  have HM := hide (TxMid.start w l)
  have HT := hide hl
  clear hl
  generalize hlen : l.length = len at hmk hsz HM ⊢
  have HL : Hid (l.length = len) := hlen
  clear hlen
  go_enter Try.func54, Try.ntmps54
  go_wp2_with fail
  go_loopw [4] (fun i wr => ∃ k : Nat, k ≤ len ∧ i = .int .i64 k ∧ TxMid w l k wr) (fun i _ => len - (intOf i).toNat)
  case atStart => exact ⟨0, Nat.zero_le _, rfl, HM.out⟩
  case round =>
    obtain ⟨k, hkl, rfl, hM⟩ := hrel
    by_cases hlt : k < len
    · have hlt' : k < l.length := by have := HL.out; omega
      obtain ⟨t, hkt⟩ : ∃ t, l[k]? = some t := ⟨_, List.getElem?_eq_getElem hlt'⟩
      obtain ⟨b, o, rfl, -, c0⟩ := HT.out k t hkt
      have c0' := below_some hM.below c0
      obtain ⟨⟨u0, d0⟩, f0⟩ := hM.at hlt'
      have HM2 := hide (hM.step hkt)
      have c2 : (k : Int) < (len : Int) := by omega
      have c3 : (0 : Int) ≤ (k : Int) := by omega
      have w2 : wrap64 ((k : Int) + 1) = ((k + 1 : Nat) : Int) := by unfold wrap64; omega
      clear hM hkt c0
      go_wp2_with fail
      go_roundw
      case rel => exact ⟨k + 1, by omega, rfl, HM2.out⟩
      case measure => simp [intOf]; omega
    · have c2 : ¬ (k : Int) < (len : Int) := by omega
      go_wp2_with fail
      go_ret
      have hkk : k = l.length := by have := HL.out; omega
      subst hkk
      exact ⟨rfl, hM.txt, hM.below⟩

set_option maxRecDepth 100000 in
set_option maxHeartbeats 1000000 in
theorem eqT (l : List ByteArray) (a a' : Option Addr) (c c' : Nat) (w : World) (hl : l.length ≤ 2097153) (h : Txt w 0 a l) (h' : Txt w 0 a' l) :
    Calls Try.prog 57 #[.slice a l.length c, .slice a' l.length c'] w fun e w' => e = .returned (.bool true) ∧ Below w.heap.size w w' := by
  have H := hide h
  have H' := hide h'
  clear h h'
  go_enter Try.func57, Try.ntmps57
  go_wp2_with fail
  go_loopw [5] (fun n wr => ∃ k : Nat, n = .int .i64 k ∧ Below w.heap.size w wr ∧ k ≤ l.length) (fun n _ => l.length - (intOf n).toNat)
  case atStart => exact ⟨0, rfl, Below.refl _ _, by omega⟩
  case round =>
    obtain ⟨k, rfl, hb, hk⟩ := hrel
    have HB := hide hb
    by_cases hp : k < l.length
    · obtain ⟨t, ht⟩ : ∃ t, l[k]? = some t := ⟨_, List.getElem?_eq_getElem hp⟩
      obtain ⟨b, o, rfl, -, d0⟩ := unhide H k t ht
      obtain ⟨b', o', rfl, -, d1⟩ := unhide H' k t ht
      have c0 := below_some hb d0
      have c1 := below_some hb d1
      have c2 : (k : Int) < (l.length : Int) := by omega
      have c3 : (0 : Int) ≤ (k : Int) := by omega
      have w1 : wrap64 ((k : Int) + 1) = ((k + 1 : Nat) : Int) := by unfold wrap64; omega
      clear hb ht d0 d1
      generalize hL : l.length = L at *
      go_wp2_with fail
      go_region
      go_wp2_with fail
      go_roundw
      case rel => exact ⟨k + 1, rfl, (unhide HB).drew, by omega⟩
      case measure => simp only [intOf]; omega
    · have c2 : ¬ (k : Int) < (l.length : Int) := by omega
      clear hb
      generalize hL : l.length = L at *
      go_wp2_with fail
      go_ret
      exact ⟨rfl, unhide HB⟩

/-- The four cells of a policy in a block of its own. -/
def RowP (ty : TypeId) (w : World) (b : Nat) (d : ByteArray) (m : Int) (a : Option Addr) (len cap : Nat) (u : Int) : Prop := w.heap[b]? = some (.cells #[.string d, .int .i64 m, .slice a len cap, .int .i64 u] ty (0, 0))
theorem RowP.new (ty : TypeId) (w : World) (d : ByteArray) (m : Int) (a : Option Addr) (len cap : Nat) (u : Int) : RowP ty (w.alloc (.cells #[.string d, .int .i64 m, .slice a len cap, .int .i64 u] ty)) w.heap.size d m a len cap u := heap_alloc_new w _
theorem RowP.lt {ty : TypeId} {w : World} {b : Nat} {d : ByteArray} {m : Int} {a : Option Addr} {len cap : Nat} {u : Int} (hr : RowP ty w b d m a len cap u) : b < w.heap.size := (Array.getElem?_eq_some_iff.1 hr).1
theorem RowP.below {ty : TypeId} {w w' : World} {b : Nat} {d : ByteArray} {m : Int} {a : Option Addr} {len cap : Nat} {u : Int} (hr : RowP ty w b d m a len cap u) (hb : Below w.heap.size w w') : RowP ty w' b d m a len cap u := (hb.block b hr.lt).trans hr
theorem RowP.facts {ty : TypeId} {w : World} {b : Nat} {d : ByteArray} {m : Int} {a : Option Addr} {len cap : Nat} {u : Int} (hr : RowP ty w b d m a len cap u) :
    w.cell? ⟨b, 0, none⟩ = some (.string d) ∧ w.cell? ⟨b, 1, none⟩ = some (.int .i64 m) ∧ w.cell? ⟨b, 2, none⟩ = some (.slice a len cap) ∧ w.cell? ⟨b, 3, none⟩ = some (.int .i64 u) :=
  ⟨cell_of_row hr (by simp), cell_of_row hr (by simp), cell_of_row hr (by simp), cell_of_row hr (by simp)⟩

theorem abP {w : World} (x : Obj) : Below w.heap.size w (w.alloc x) := (Below.refl _ _).alloc (Nat.le_refl _) _
theorem btP {w v x : World} (h : Below w.heap.size w v) (h2 : Below v.heap.size v x) : Below w.heap.size w x := h.trans (h2.mono h.size)

set_option maxRecDepth 100000 in
set_option maxHeartbeats 1000000 in
theorem szP (l : List ByteArray) (d : ByteArray) (m : Int) (a : Option Addr) (cap : Nat) (u : Int) (w : World) (hl : Txt w 0 a l) (hm : l.length ≤ maxLen) (ht : ∀ t ∈ l, t.size ≤ maxLen) (hd : d.size ≤ maxLen) :
    Calls Try.prog 32 #[.agg #[.string d, .int .i64 m, .slice a l.length cap, .int .i64 u], .int .i64 1048576] w fun e w' => e = .returned (.int .i64 (szv 1048576 (d.size + (l.length + txw l)))) ∧ Below w.heap.size w w' := by
  have hmm : d.size ≤ 9223372036854775807 := by unfold maxLen at hd; omega
  obtain ⟨left, hleft⟩ : ∃ left : Int, left = 1048576 - (d.size : Int) := ⟨_, rfl⟩
  have w1 : wrap64 (1048576 - (d.size : Int)) = left := by unfold wrap64; omega
  have HL := hide (hl.on (abP (.cells #[.string d, .int .i64 m, .slice a l.length cap, .int .i64 u] 74)))
  by_cases h1 : left < 0
  · have HE : Hid (szv 1048576 (d.size + (l.length + txw l)) = -1) := szv_no (by omega)
    clear hleft hl hm ht hd hmm
    go_enter Try.func32, Try.ntmps32
    go_wp2_with fail
    go_ret
    exact ⟨ret_int (unhide HE).symm, abP _⟩
  · have HC := hide (fun v hv => szT l a cap left v hv hm ht (by omega) (by omega))
    clear hl hm ht hd hmm
    by_cases h2 : ((l.length + txw l : Nat) : Int) ≤ left
    · have HE : Hid (szv 1048576 (d.size + (l.length + txw l)) = left - (l.length + txw l : Nat)) := by
        show _ = _
        rw [szv_yes (by omega)]; omega
      rw [szv_yes h2] at HC
      have h3 : ¬ left - ((l.length + txw l : Nat) : Int) < 0 := by omega
      generalize ((l.length + txw l : Nat) : Int) = q at *
      clear hleft
      go_enter Try.func32, Try.ntmps32
      go_wp2_with fail
      refine (unhide HC _ (unhide HL)).mono ?_
      rintro e w2 ⟨rfl, rfl⟩
      go_wp2_with fail
      go_ret
      exact ⟨ret_int (unhide HE).symm, abP _⟩
    · have HE : Hid (szv 1048576 (d.size + (l.length + txw l)) = -1) := szv_no (by omega)
      rw [szv_no (by omega)] at HC
      clear hleft
      go_enter Try.func32, Try.ntmps32
      go_wp2_with fail
      refine (unhide HC _ (unhide HL)).mono ?_
      rintro e w2 ⟨rfl, rfl⟩
      go_wp2_with fail
      go_ret
      exact ⟨ret_int (unhide HE).symm, abP _⟩

set_option maxRecDepth 100000 in
set_option maxHeartbeats 1000000 in
theorem toP (l : List ByteArray) (d : ByteArray) (m : Int) (a : Option Addr) (cap : Nat) (u : Int) (w : World) (hl : Txt w 0 a l) (hsz : l.length ≤ 2097152) :
    Calls Try.prog 38 #[.agg #[.string d, .int .i64 m, .slice a l.length cap, .int .i64 u]] w fun e w' => ∃ a', e = .returned (.agg #[.string d, .int .i64 m, .slice a' l.length l.length, .int .i64 u]) ∧ Txt w' w.heap.size a' l ∧ Below w.heap.size w w' := by
  have hb0 : Below w.heap.size w (((w.alloc (.cells #[.string d, .int .i64 m, .slice a l.length cap, .int .i64 u] 74)).alloc (.cells #[.string ⟨#[]⟩, .int .i64 0, .slice none 0 0, .int .i64 0] 93)).alloc (.cells #[.string d, .int .i64 m, .slice none 0 0, .int .i64 0] 93)) := btP (btP (abP _) (abP _)) (abP _)
  have HL := hide (hl.on hb0)
  have HB0 := hide hb0
  have HC := hide (fun v hv => toT l a cap v hv hsz)
  clear hl hb0
  generalize hlen : l.length = len at *
  go_enter Try.func38, Try.ntmps38
  go_wp2_with fail
  refine (unhide HC _ (unhide HL)).mono ?_
  rintro e w2 ⟨rfl, hL2, hb2⟩
  have HB2 := hide (btP (unhide HB0) hb2)
  obtain ⟨hc, hf⟩ := bcell hb2
  clear hb2 HB0 HL HC
  go_wp2_with fail
  simp only [heap_size_alloc] at hL2 hc
  refine bodyPost_ret (v := .agg #[.string d, .int .i64 m, .slice (some ⟨w.heap.size + 1 + 1 + 1, 0, none⟩) len len, .int .i64 u]) (by simp [results, Try.results38, go_sem, hc]) rfl ⟨_, rfl, ?_, ?_⟩
  · intro k t hk
    obtain ⟨b, o, h1, h2, h3⟩ := hL2 k t hk
    refine ⟨b, o, h1, by omega, ?_⟩
    repeat rw [cell_set_other (by omega)]
    exact h3
  · repeat refine Below.setCell ?_ (by simp <;> omega) _
    exact unhide HB2

set_option maxRecDepth 100000 in
set_option maxHeartbeats 1000000 in
theorem eqP (l : List ByteArray) (d : ByteArray) (m : Int) (a a' : Option Addr) (c c' : Nat) (u : Int) (w : World) (hl : Txt w 0 a l) (hl' : Txt w 0 a' l) (hsz : l.length ≤ 2097152) :
    Calls Try.prog 46 #[.agg #[.string d, .int .i64 m, .slice a l.length c, .int .i64 u], .agg #[.string d, .int .i64 m, .slice a' l.length c', .int .i64 u]] w fun e w' => e = .returned (.bool true) ∧ Below w.heap.size w w' := by
  have hb0 : Below w.heap.size w ((w.alloc (.cells #[.string d, .int .i64 m, .slice a l.length c, .int .i64 u] 93)).alloc (.cells #[.string d, .int .i64 m, .slice a' l.length c', .int .i64 u] 93)) := btP (abP _) (abP _)
  have HL := hide (hl.on hb0)
  have HL' := hide (hl'.on hb0)
  have HB0 := hide hb0
  have HX := hide ((RowP.new 93 w d m a l.length c u).below (abP (.cells #[.string d, .int .i64 m, .slice a' l.length c', .int .i64 u] 93)))
  have HY : Hid (RowP 93 ((w.alloc (.cells #[.string d, .int .i64 m, .slice a l.length c, .int .i64 u] 93)).alloc (.cells #[.string d, .int .i64 m, .slice a' l.length c', .int .i64 u] 93)) (w.heap.size + 1) d m a' l.length c' u) := by
    have := RowP.new 93 (w.alloc (.cells #[.string d, .int .i64 m, .slice a l.length c, .int .i64 u] 93)) d m a' l.length c' u
    rwa [heap_size_alloc] at this
  have HC := hide (fun v hv hv' => eqT l a a' c c' v (by omega) hv hv')
  clear hl hl' hb0
  generalize hlen : l.length = len at *
  go_enter Try.func46, Try.ntmps46
  go_wp2_with fail
  refine (unhide HC _ (unhide HL) (unhide HL')).mono ?_
  rintro e w2 ⟨rfl, hb2⟩
  obtain ⟨c0, c1, c2, c3⟩ := ((unhide HX).below hb2).facts
  obtain ⟨d0, d1, d2, d3⟩ := ((unhide HY).below hb2).facts
  have HB2 := hide (btP (unhide HB0) hb2)
  clear hb2
  go_wp2_with fail
  go_ret
  exact ⟨rfl, unhide HB2⟩

noncomputable def holdB (m u now : Int) : Bool := decide (m = 2 ∧ now ≤ u)

end Go.Proofs.Ytepmgjklonhkgaa
