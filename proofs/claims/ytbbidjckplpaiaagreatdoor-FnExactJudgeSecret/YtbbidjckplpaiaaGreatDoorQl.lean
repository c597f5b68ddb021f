
/- Patterns of hosts as plain texts, and the walks of spec.l5Star, spec.PatternOk and impl.PatternOk: whether a text is a pattern; nothing that was there is written. Rows of texts and policies in memory, and the walks of laws.szStringS, toStringS, eqStringS, szPolicy, toPolicy, eqPolicy. Right policies as plain data, and the walks of spec.l1In, impl.inTime, spec.l6Domain, impl.domainOk, impl.modeWord, impl.mxOk. Right policies, and the walks of spec.PolicyOk and impl.PolicyOk: whether a policy is right; nothing that was there is written. Lists of policies in memory, and the walks of laws.szPolicyS, toPolicyS, eqPolicyS. -/
import Derived.Test.YtbbidjckplpaiaaGreatDoorHj
import Derived.Test.YtbbidjckplpaiaaGreatDoorTo
import Derived.Deep.RegionHeld3
namespace Go.Proofs.YtbbidjckplpaiaaGreatDoor
open Go.RowKit Go.Deep

/-- It begins with a star and a byte 46. -/
def starE (s : ByteArray) : Prop := s.extract 0 2 = ⟨#[42, 46]⟩
theorem starE_size {s : ByteArray} (h : starE s) : 2 ≤ s.size := by
  have := congrArg ByteArray.size h
  rw [ByteArray.size_extract] at this
  have e : (⟨#[42, 46]⟩ : ByteArray).size = 2 := rfl
  omega
theorem star_prefix (s : ByteArray) : Lib.hasPrefix s.data.toList [42, 46] = true ↔ starE s := by
  unfold Lib.hasPrefix starE
  rw [List.isPrefixOf_iff_prefix, List.prefix_iff_eq_take, Lib.extract_eq]
  constructor
  · intro h
    simp only [List.length_cons, List.length_nil] at h
    simp only [List.drop_zero]
    rw [← h]
  · intro h
    have := congrArg (fun b : ByteArray => b.data.toList) h
    simp only [List.drop_zero] at this
    simpa using this.symm
theorem star_yes {s : ByteArray} (h : starE s) : Lib.hasPrefix s.data.toList [42, 46] = true := (star_prefix s).2 h
theorem star_no {s : ByteArray} (h : ¬ starE s) : Lib.hasPrefix s.data.toList [42, 46] = false := by
  cases hb : Lib.hasPrefix s.data.toList [42, 46]
  · rfl
  · exact absurd ((star_prefix s).1 hb) h
theorem trim_yes {s : ByteArray} (h : starE s) : (⟨(Lib.trimPrefix s.data.toList [42, 46]).toArray⟩ : ByteArray) = s.extract 2 s.size := by
  unfold Lib.trimPrefix
  rw [star_yes h, if_pos rfl, Lib.extract_eq]
  congr 2
  rw [List.take_of_length_le]
  · rfl
  · rw [List.length_drop, ← Lib.size_eq]
    exact Nat.le_refl _
theorem trim_no {s : ByteArray} (h : ¬ starE s) : (⟨(Lib.trimPrefix s.data.toList [42, 46]).toArray⟩ : ByteArray) = s := by
  unfold Lib.trimPrefix
  rw [star_no h]
  rfl
/-- A pattern. -/
def patP (s : ByteArray) : Prop := hostP s ∨ starE s ∧ lsP 1 (s.extract 2 s.size)
open Classical in
noncomputable def patB (s : ByteArray) : Bool := decide (patP s)
theorem patB_yes {s : ByteArray} (h : patP s) : patB s = true := by simp [patB, h]
theorem patB_no {s : ByteArray} (h : ¬ patP s) : patB s = false := by simp [patB, h]
theorem patB_iff {s : ByteArray} : patB s = true ↔ patP s := by simp [patB]
theorem patB_host {s : ByteArray} (h : hostB s = true) : patB s = true := patB_yes (Or.inl (hostB_iff.1 h))
theorem patB_star {s : ByteArray} (h : hostB s = false) (h2 : starE s) : patB s = lsB 1 (s.extract 2 s.size) := by
  have hn : ¬ hostP s := fun hp => by rw [hostB_yes hp] at h; cases h
  by_cases hl : lsP 1 (s.extract 2 s.size)
  · rw [lsB_yes hl, patB_yes (Or.inr ⟨h2, hl⟩)]
  · rw [lsB_no hl, patB_no fun hp => hp.elim hn fun x => hl x.2]
theorem patB_none {s : ByteArray} (h : hostB s = false) (h2 : ¬ starE s) : patB s = false :=
  patB_no fun hp => hp.elim (fun hh => by rw [hostB_yes hh] at h; cases h) fun x => h2 x.1
/-- Of no byte there are no labels. -/
theorem lsP_empty {n : Nat} {s : ByteArray} (h : s.size = 0) : ¬ lsP n s := fun hl => by
  have := hl.2.2 (s.extract 0 s.size) (by unfold labsOf; rw [h]; simp [labs, h])
  have h1 := this.1
  rw [ByteArray.size_extract] at h1
  omega
open Classical in
noncomputable def starB (s : ByteArray) : Bool := decide (2 < s.size ∧ starE s)

set_option maxRecDepth 100000 in
theorem star33 (s : ByteArray) (w : World) : Calls Tryz.prog 127 #[.string s] w fun e w' => e = .returned (.bool (starB s)) ∧ w' = w := by
  by_cases h : 2 < s.size
  · have c1 : (2 : Int) < (s.size : Int) := by omega
    have c2 : (2 : Int) ≤ (s.size : Int) := by omega
    by_cases he : starE s
    · have HE : Hid (starB s = true) := by show _ = _; simp [starB, h, he]
      unfold starE at he
      go_enter Tryz.func127, Tryz.ntmps127
      go_wp2_with fail
      go_ret
      exact ⟨retB (unhide HE), rfl⟩
    · have HE : Hid (starB s = false) := by show _ = _; simp [starB, he]
      unfold starE at he
      go_enter Tryz.func127, Tryz.ntmps127
      go_wp2_with fail
      go_ret
      exact ⟨retB (by rw [unhide HE]; symm; simp; exact fun h => he (by rw [Lib.extract_eq, ← Lib.extract_toList, h])), rfl⟩
  · have c1 : ¬ (2 : Int) < (s.size : Int) := by omega
    have HE : Hid (starB s = false) := by show _ = _; simp [starB, h]
    go_enter Tryz.func127, Tryz.ntmps127
    go_wp2_with fail
    go_ret
    exact ⟨retB (unhide HE), rfl⟩

set_option maxRecDepth 100000 in
set_option maxHeartbeats 1000000 in
theorem patS (s : ByteArray) (w : World) (hs : s.size ≤ 2097152) :
    Calls Tryz.prog 106 #[.string s] w fun e w' => e = .returned (.bool (patB s)) ∧ Below w.heap.size w w' := by
  have h9 := hide (fun v => hostS s v hs)
  have h33 := hide (fun v => star33 s v)
  have h31 := hide (fun v => labels18 1 (s.extract 2 s.size) v (by have := size_extract_le s 2 s.size; omega))
  cases hB : hostB s with
  | true =>
    have HE := hide (patB_host hB)
    rw [hB] at h9
    go_enter Tryz.func106, Tryz.ntmps106
    go_wp2_with fail
    refine (unhide h9 _).mono ?_
    rintro e w2 ⟨rfl, hb2⟩
    go_wp2_with fail
    go_ret
    exact ⟨retB (unhide HE), hb2⟩
  | false =>
    rw [hB] at h9
    by_cases h2 : 2 < s.size ∧ starE s
    · have HE := hide (patB_star hB h2.2)
      have hsb : starB s = true := by simp [starB, h2]
      rw [hsb] at h33
      have c2 : (2 : Int) ≤ (s.size : Int) := by have := h2.1; omega
      clear hsb h2
      go_enter Tryz.func106, Tryz.ntmps106
      go_wp2_with fail
      refine (unhide h9 _).mono ?_
      rintro e w2 ⟨rfl, hb2⟩
      have HB2 := hide hb2
      clear hb2
      go_wp2_with fail
      refine (unhide h33 _).mono ?_
      rintro e w3 ⟨rfl, rfl⟩
      go_wp2_with fail
      refine (unhide h31 _).mono ?_
      rintro e w4 ⟨rfl, hb4⟩
      go_wp2_with fail
      go_ret
      exact ⟨retB (unhide HE), (unhide HB2).trans (hb4.mono (unhide HB2).size)⟩
    · have hsb : starB s = false := by simp [starB]; intro h; exact fun h3 => h2 ⟨h, h3⟩
      have HE : Hid (patB s = false) := by
        show _ = _
        by_cases h3 : starE s
        · rw [patB_star hB h3, lsB_no (lsP_empty (by rw [ByteArray.size_extract]; have := starE_size h3; have : ¬ 2 < s.size := fun h => h2 ⟨h, h3⟩; omega))]
        · exact patB_none hB h3
      rw [hsb] at h33
      clear hsb h2
      go_enter Tryz.func106, Tryz.ntmps106
      go_wp2_with fail
      refine (unhide h9 _).mono ?_
      rintro e w2 ⟨rfl, hb2⟩
      have HB2 := hide hb2
      clear hb2
      go_wp2_with fail
      refine (unhide h33 _).mono ?_
      rintro e w3 ⟨rfl, rfl⟩
      go_wp2_with fail
      go_ret
      exact ⟨retB (unhide HE), unhide HB2⟩

theorem cut34 (s : ByteArray) (w : World) : Calls Tryz.prog 159 #[.string s, .string ⟨#[42, 46]⟩] w fun e w' => e = .returned (.tuple #[.string ⟨(Lib.trimPrefix s.data.toList [42, 46]).toArray⟩, .bool (Lib.hasPrefix s.data.toList [42, 46])]) ∧ w' = w :=
  Tryz.strings_CutPrefix s ⟨#[42, 46]⟩ w

set_option maxRecDepth 100000 in
set_option maxHeartbeats 1000000 in
theorem patI (s : ByteArray) (w : World) (hs : s.size ≤ 2097152) :
    Calls Tryz.prog 146 #[.string s] w fun e w' => e = .returned (.bool (patB s)) ∧ Below w.heap.size w w' := by
  have h10 := hide (fun v => hostI s v hs)
  have h34 := hide (fun v => cut34 s v)
  have h32 := hide (fun v => labelsOkI 1 (s.extract 2 s.size) v (by have := size_extract_le s 2 s.size; omega))
  cases hB : hostB s with
  | true =>
    have HE := hide (patB_host hB)
    rw [hB] at h10
    generalize (⟨(Lib.trimPrefix s.data.toList [42, 46]).toArray⟩ : ByteArray) = R at *
    generalize Lib.hasPrefix s.data.toList [42, 46] = M at *
    go_enter Tryz.func146, Tryz.ntmps146
    go_wp2_with fail
    refine (unhide h34 _).mono ?_
    rintro e w1 ⟨rfl, rfl⟩
    go_wp2_with fail
    refine (unhide h10 _).mono ?_
    rintro e w2 ⟨rfl, hb2⟩
    go_wp2_with fail
    go_ret
    exact ⟨retB (unhide HE), hb2⟩
  | false =>
    rw [hB] at h10
    by_cases h2 : starE s
    · have HE := hide (patB_star hB h2)
      rw [star_yes h2, trim_yes h2] at h34
      clear h2
      go_enter Tryz.func146, Tryz.ntmps146
      go_wp2_with fail
      refine (unhide h34 _).mono ?_
      rintro e w1 ⟨rfl, rfl⟩
      go_wp2_with fail
      refine (unhide h10 _).mono ?_
      rintro e w2 ⟨rfl, hb2⟩
      have HB2 := hide hb2
      clear hb2
      go_wp2_with fail
      refine (unhide h32 _).mono ?_
      rintro e w4 ⟨rfl, hb4⟩
      go_wp2_with fail
      go_ret
      exact ⟨retB (unhide HE), (unhide HB2).trans (hb4.mono (unhide HB2).size)⟩
    · have HE := hide (patB_none hB h2)
      rw [star_no h2, trim_no h2] at h34
      clear h2
      go_enter Tryz.func146, Tryz.ntmps146
      go_wp2_with fail
      refine (unhide h34 _).mono ?_
      rintro e w1 ⟨rfl, rfl⟩
      go_wp2_with fail
      refine (unhide h10 _).mono ?_
      rintro e w2 ⟨rfl, hb2⟩
      go_wp2_with fail
      go_ret
      exact ⟨retB (unhide HE), hb2⟩

/-- The texts lie in the world, one behind the other, in a block from L on. -/
def Txt (w : World) (L : Nat) (a : Option Addr) (l : List ByteArray) : Prop := ∀ k t, l[k]? = some t → ∃ b o, a = some ⟨b, o, none⟩ ∧ L ≤ b ∧ w.cell? ⟨b, o + k, none⟩ = some (.string t)
theorem Txt.on {w w' : World} {L : Nat} {a : Option Addr} {l : List ByteArray} (h : Txt w L a l) (hb : Below w.heap.size w w') : Txt w' L a l := fun k t hk => by
  obtain ⟨b, o, h1, h2, h3⟩ := h k t hk
  exact ⟨b, o, h1, h2, below_some hb h3⟩
theorem Txt.low {w : World} {L L' : Nat} {a : Option Addr} {l : List ByteArray} (h : Txt w L a l) (hL : L' ≤ L) : Txt w L' a l := fun k t hk => by
  obtain ⟨b, o, h1, h2, h3⟩ := h k t hk
  exact ⟨b, o, h1, by omega, h3⟩

def txw : List ByteArray → Nat
  | [] => 0
  | t :: r => t.size + txw r
theorem txw_append (a b : List ByteArray) : txw (a ++ b) = txw a + txw b := by
  induction a with
  | nil => simp [txw]
  | cons t r ih => simp only [List.cons_append, txw, ih]; omega
theorem txw_take (l : List ByteArray) {k : Nat} {t : ByteArray} (h : l[k]? = some t) : txw (l.take (k + 1)) = txw (l.take k) + t.size := by
  rw [List.take_add_one, h, txw_append]; simp [txw]
theorem txw_take_le (l : List ByteArray) (k : Nat) : txw (l.take k) ≤ txw l := by
  have := txw_append (l.take k) (l.drop k)
  rw [List.take_append_drop] at this
  omega
theorem txw_get {l : List ByteArray} {k : Nat} {t : ByteArray} (h : l[k]? = some t) : t.size ≤ txw l := by
  have h1 := txw_take l h
  have h2 := txw_take_le l (k + 1)
  omega

set_option maxRecDepth 100000 in
set_option maxHeartbeats 1000000 in
theorem szT (l : List ByteArray) (a : Option Addr) (cap : Nat) (left : Int) (w : World) (hl : Txt w 0 a l) (hm : l.length ≤ maxLen) (ht : ∀ t ∈ l, t.size ≤ maxLen) (h0 : 0 ≤ left) (h1 : left ≤ 1048576) :
    Calls Tryz.prog 70 #[.slice a l.length cap, .int .i64 left] w fun e w' => e = .returned (.int .i64 (szv left (l.length + txw l))) ∧ w' = w := by
  unfold maxLen at hm ht
  generalize hlen : l.length = len at *
  have HL : Hid (l.length = len) := hlen
  clear hlen
  have w0 : wrap64 (left - (len : Int)) = left - (len : Int) := by unfold wrap64; omega
  by_cases hlt : left - len < 0
  · have HE : Hid (szv left (len + txw l) = -1) := szv_no (by omega)
    go_enter Tryz.func70, Tryz.ntmps70
    go_wp2_with fail
    go_ret
    exact ⟨ret_int (unhide HE).symm, rfl⟩
  · go_enter Tryz.func70, Tryz.ntmps70
    go_wp2_with fail
    go_loopw [1, 5] (fun x i wr => ∃ k : Nat, k ≤ len ∧ i = .int .i64 k ∧ (len : Int) + (txw (l.take k) : Int) ≤ left ∧ x = .int .i64 (left - len - (txw (l.take k) : Int)) ∧ wr = w) (fun _ i _ => len - (intOf i).toNat)
    case atStart => exact ⟨0, Nat.zero_le _, rfl, by simp [txw]; omega, by simp [txw], rfl⟩
    case round =>
      obtain ⟨k, hk, rfl, hle, rfl, rfl⟩ := hrel
      by_cases hkl : k < len
      · have hkl' : k < l.length := by have := HL.out; omega
        obtain ⟨t, hkt⟩ : ∃ t, l[k]? = some t := ⟨_, List.getElem?_eq_getElem hkl'⟩
        obtain ⟨b, o, rfl, -, c0⟩ := hl k t hkt
        have hts := ht t (List.mem_of_getElem? hkt)
        have HW := hide (txw_take l hkt)
        have HA := hide (txw_take_le l (k + 1))
        have c2 : (k : Int) < (len : Int) := by omega
        have c3 : (0 : Int) ≤ (k : Int) := by omega
        generalize hwl : txw (l.take k) = wl at *
        generalize hwk : txw (l.take (k + 1)) = wk at *
        have w1 : wrap64 (left - len - wl - (t.size : Int)) = left - len - wl - (t.size : Int) := by unfold wrap64; omega
        have w2 : wrap64 ((k : Int) + 1) = ((k + 1 : Nat) : Int) := by unfold wrap64; omega
        have Hwk : Hid (txw (l.take (k + 1)) = wk) := hwk
        clear hwl hwk hkt hl ht
        by_cases hw : (t.size : Int) ≤ left - len - wl
        · have hsv : ¬ left - len - wl - (t.size : Int) < 0 := by omega
          go_wp2_with fail
          go_roundw
          case rel => exact ⟨k + 1, by omega, rfl, by have := HW.out; have := Hwk.out; omega, by have := HW.out; have := Hwk.out; rw [this]; congr 1; omega, trivial⟩
          case measure => simp [intOf]; omega
        · have hsv : left - len - wl - (t.size : Int) < 0 := by omega
          go_wp2_with fail
          go_ret
          exact ⟨ret_int (by rw [szv_no (by have := HW.out; have := HA.out; omega)]), rfl⟩
      · have c2 : ¬ (k : Int) < (len : Int) := by omega
        go_wp2_with fail
        go_ret
        have hkk : k = len := by omega
        exact ⟨ret_int (by rw [List.take_of_length_le (by have := HL.out; omega)] at hle ⊢; rw [szv_yes (by omega)]; omega), rfl⟩

theorem infoStr : (Tryz.prog.info? 9).map (fun i => (i.zero, i.size, i.bytes)) = some (some (.string ByteArray.empty), 1, 16) := by kernel_rfl

theorem make_tx (n : Nat) (hn : n ≤ 2097152) (w : World) :
    (Instr.makeSlice 79 (.int .i64 (n : Int)) (.int .i64 (n : Int))).run Tryz.prog w = .ok (.slice (some ⟨w.heap.size, 0, none⟩) n n) (w.alloc (.cells (madeCells #[.string ByteArray.empty] n) 9)) := by
  obtain ⟨i, hi, hzz⟩ := Option.map_eq_some_iff.1 infoStr
  simp only [Prod.mk.injEq] at hzz
  obtain ⟨hz, hs, hb⟩ := hzz
  have hr := run_make (P := Tryz.prog) w 79 9 i _ Tryz.underlying79 hi hz .i64 .i64 n n (by omega) (Int.le_refl _) (by rw [hb]; omega) (by omega)
  simp only [Int.toNat_natCast, hs, Nat.mul_one] at hr
  exact hr

/-- In the middle of the copy: k of the texts are there. -/
structure TxMid (w : World) (l : List ByteArray) (k : Nat) (wr : World) : Prop where
  below : Below w.heap.size w wr
  row : ∃ C, wr.heap[w.heap.size]? = some (.cells C 9 (0, 0)) ∧ C.size = l.length
  done : ∀ j t, j < k → l[j]? = some t → wr.cell? ⟨w.heap.size, j, none⟩ = some (.string t)

theorem TxMid.start (w : World) (l : List ByteArray) : TxMid w l 0 (w.alloc (.cells (madeCells #[.string ByteArray.empty] l.length) 9)) :=
  ⟨(Below.refl _ _).alloc (Nat.le_refl _) _, ⟨_, heap_alloc_new w _, size_madeCells _ _⟩, fun _ _ hj => absurd hj (Nat.not_lt_zero _)⟩

theorem TxMid.step {w wr : World} {l : List ByteArray} {k : Nat} {t : ByteArray} (h : TxMid w l k wr) (hk : l[k]? = some t) : TxMid w l (k + 1) (wr.setCell ⟨w.heap.size, k, none⟩ (.string t)) := by
  obtain ⟨C, h1, h2⟩ := h.row
  have hlt : k < l.length := by
    by_cases hq : k < l.length
    · exact hq
    · rw [List.getElem?_eq_none (by omega)] at hk; cases hk
  have h3 : (wr.setCell ⟨w.heap.size, k, none⟩ (.string t)).heap[w.heap.size]? = some (.cells (C.setIfInBounds k (.string t)) 9 (0, 0)) := by
    simp only [World.setCell, Array.getElem?_modify]
    simp [h1]
  refine ⟨h.below.setCell (Nat.le_refl _) _, ⟨_, h3, by simpa using h2⟩, fun j x hj hx => ?_⟩
  show (wr.setCell ⟨w.heap.size, k, none⟩ (.string t)).cell? ⟨w.heap.size, j, none⟩ = _
  by_cases hjk : j = k
  · subst hjk
    rw [hk] at hx
    cases hx
    exact (cell_of_row h3 (by simp; omega)).trans (by simp)
  · rw [World.cell?_setCell_other _ _ _ _ (fun e => hjk (by cases e; rfl))]
    exact h.done j x (by omega) hx

theorem TxMid.at {w wr : World} {l : List ByteArray} {k : Nat} (h : TxMid w l k wr) (hk : k < l.length) : (∃ v, wr.cell? ⟨w.heap.size, k, none⟩ = some v) ∧ wr.frozen? ⟨w.heap.size, k, none⟩ = false := by
  obtain ⟨C, h1, h2⟩ := h.row
  exact ⟨⟨_, cell_of_row h1 (by omega)⟩, frozen_of_row h1⟩

theorem TxMid.txt {w wr : World} {l : List ByteArray} (h : TxMid w l l.length wr) : Txt wr w.heap.size (some ⟨w.heap.size, 0, none⟩) l := fun k t hk => by
  have hkl : k < l.length := by
    by_cases hq : k < l.length
    · exact hq
    · rw [List.getElem?_eq_none (by omega)] at hk; cases hk
  exact ⟨_, _, rfl, Nat.le_refl _, by rw [Nat.zero_add]; exact h.done k t hkl hk⟩

set_option maxRecDepth 100000 in
set_option maxHeartbeats 1000000 in
theorem toT (l : List ByteArray) (a : Option Addr) (cap : Nat) (w : World) (hl : Txt w 0 a l) (hsz : l.length ≤ 2097152) :
    Calls Tryz.prog 82 #[.slice a l.length cap] w fun e w' => e = .returned (.slice (some ⟨w.heap.size, 0, none⟩) l.length l.length) ∧ Txt w' w.heap.size (some ⟨w.heap.size, 0, none⟩) l ∧ Below w.heap.size w w' := by
  have hmk := make_tx l.length hsz
  have HM := hide (TxMid.start w l)
  have HT := hide hl
  clear hl
  generalize hlen : l.length = len at hmk hsz HM ⊢
  have HL : Hid (l.length = len) := hlen
  clear hlen
  go_enter Tryz.func82, Tryz.ntmps82
  go_wp2_with fail
  go_loopw [4] (fun i wr => ∃ k : Nat, k ≤ len ∧ i = .int .i64 k ∧ TxMid w l k wr) (fun i _ => len - (intOf i).toNat)
  case atStart => exact ⟨0, Nat.zero_le _, rfl, HM.out⟩
  case round =>
    obtain ⟨k, hkl, rfl, hM⟩ := hrel
    by_cases hlt : k < len
    · have hlt' : k < l.length := by have := HL.out; omega
      obtain ⟨t, hkt⟩ : ∃ t, l[k]? = some t := ⟨_, List.getElem?_eq_getElem hlt'⟩
      obtain ⟨b, o, rfl, -, c0⟩ := HT.out k t hkt
      have c0' := below_some hM.below c0
      obtain ⟨⟨u0, d0⟩, f0⟩ := hM.at hlt'
      have HM2 := hide (hM.step hkt)
      have c2 : (k : Int) < (len : Int) := by omega
      have c3 : (0 : Int) ≤ (k : Int) := by omega
      have w2 : wrap64 ((k : Int) + 1) = ((k + 1 : Nat) : Int) := by unfold wrap64; omega
      clear hM hkt c0
      go_wp2_with fail
      go_roundw
      case rel => exact ⟨k + 1, by omega, rfl, HM2.out⟩
      case measure => simp [intOf]; omega
    · have c2 : ¬ (k : Int) < (len : Int) := by omega
      go_wp2_with fail
      go_ret
      have hkk : k = l.length := by have := HL.out; omega
      subst hkk
      exact ⟨rfl, hM.txt, hM.below⟩

set_option maxRecDepth 100000 in
set_option maxHeartbeats 1000000 in
theorem eqT (l : List ByteArray) (a a' : Option Addr) (c c' : Nat) (w : World) (hl : l.length ≤ 2097153) (h : Txt w 0 a l) (h' : Txt w 0 a' l) :
    Calls Tryz.prog 103 #[.slice a l.length c, .slice a' l.length c'] w fun e w' => e = .returned (.bool true) ∧ Below w.heap.size w w' := by
  have H := hide h
  have H' := hide h'
  clear h h'
  go_enter Tryz.func103, Tryz.ntmps103
  go_wp2_with fail
  go_loopw [5] (fun n wr => ∃ k : Nat, n = .int .i64 k ∧ Below w.heap.size w wr ∧ k ≤ l.length) (fun n _ => l.length - (intOf n).toNat)
  case atStart => exact ⟨0, rfl, Below.refl _ _, by omega⟩
  case round =>
    obtain ⟨k, rfl, hb, hk⟩ := hrel
    have HB := hide hb
    by_cases hp : k < l.length
    · obtain ⟨t, ht⟩ : ∃ t, l[k]? = some t := ⟨_, List.getElem?_eq_getElem hp⟩
      obtain ⟨b, o, rfl, -, d0⟩ := unhide H k t ht
      obtain ⟨b', o', rfl, -, d1⟩ := unhide H' k t ht
      have c0 := below_some hb d0
      have c1 := below_some hb d1
      have c2 : (k : Int) < (l.length : Int) := by omega
      have c3 : (0 : Int) ≤ (k : Int) := by omega
      have w1 : wrap64 ((k : Int) + 1) = ((k + 1 : Nat) : Int) := by unfold wrap64; omega
      clear hb ht d0 d1
      generalize hL : l.length = L at *
      go_wp2_with fail
      go_region
      go_wp2_with fail
      go_roundw
      case rel => exact ⟨k + 1, rfl, (unhide HB).drew, by omega⟩
      case measure => simp only [intOf]; omega
    · have c2 : ¬ (k : Int) < (l.length : Int) := by omega
      clear hb
      generalize hL : l.length = L at *
      go_wp2_with fail
      go_ret
      exact ⟨rfl, unhide HB⟩

/-- The four cells of a policy in a block of its own. -/
def RowP (ty : TypeId) (w : World) (b : Nat) (d : ByteArray) (m : Int) (a : Option Addr) (len cap : Nat) (u : Int) : Prop := w.heap[b]? = some (.cells #[.string d, .int .i64 m, .slice a len cap, .int .i64 u] ty (0, 0))
theorem RowP.new (ty : TypeId) (w : World) (d : ByteArray) (m : Int) (a : Option Addr) (len cap : Nat) (u : Int) : RowP ty (w.alloc (.cells #[.string d, .int .i64 m, .slice a len cap, .int .i64 u] ty)) w.heap.size d m a len cap u := heap_alloc_new w _
theorem RowP.lt {ty : TypeId} {w : World} {b : Nat} {d : ByteArray} {m : Int} {a : Option Addr} {len cap : Nat} {u : Int} (hr : RowP ty w b d m a len cap u) : b < w.heap.size := (Array.getElem?_eq_some_iff.1 hr).1
theorem RowP.below {ty : TypeId} {w w' : World} {b : Nat} {d : ByteArray} {m : Int} {a : Option Addr} {len cap : Nat} {u : Int} (hr : RowP ty w b d m a len cap u) (hb : Below w.heap.size w w') : RowP ty w' b d m a len cap u := (hb.block b hr.lt).trans hr
theorem RowP.facts {ty : TypeId} {w : World} {b : Nat} {d : ByteArray} {m : Int} {a : Option Addr} {len cap : Nat} {u : Int} (hr : RowP ty w b d m a len cap u) :
    w.cell? ⟨b, 0, none⟩ = some (.string d) ∧ w.cell? ⟨b, 1, none⟩ = some (.int .i64 m) ∧ w.cell? ⟨b, 2, none⟩ = some (.slice a len cap) ∧ w.cell? ⟨b, 3, none⟩ = some (.int .i64 u) :=
  ⟨cell_of_row hr (by simp), cell_of_row hr (by simp), cell_of_row hr (by simp), cell_of_row hr (by simp)⟩

theorem abP {w : World} (x : Obj) : Below w.heap.size w (w.alloc x) := (Below.refl _ _).alloc (Nat.le_refl _) _
theorem btP {w v x : World} (h : Below w.heap.size w v) (h2 : Below v.heap.size v x) : Below w.heap.size w x := h.trans (h2.mono h.size)

set_option maxRecDepth 100000 in
set_option maxHeartbeats 1000000 in
theorem szP (l : List ByteArray) (d : ByteArray) (m : Int) (a : Option Addr) (cap : Nat) (u : Int) (w : World) (hl : Txt w 0 a l) (hm : l.length ≤ maxLen) (ht : ∀ t ∈ l, t.size ≤ maxLen) (hd : d.size ≤ maxLen) :
    Calls Tryz.prog 37 #[.agg #[.string d, .int .i64 m, .slice a l.length cap, .int .i64 u], .int .i64 1048576] w fun e w' => e = .returned (.int .i64 (szv 1048576 (d.size + (l.length + txw l)))) ∧ Below w.heap.size w w' := by
  have hmm : d.size ≤ 9223372036854775807 := by unfold maxLen at hd; omega
  obtain ⟨left, hleft⟩ : ∃ left : Int, left = 1048576 - (d.size : Int) := ⟨_, rfl⟩
  have w1 : wrap64 (1048576 - (d.size : Int)) = left := by unfold wrap64; omega
  have HL := hide (hl.on (abP (.cells #[.string d, .int .i64 m, .slice a l.length cap, .int .i64 u] 81)))
  by_cases h1 : left < 0
  · have HE : Hid (szv 1048576 (d.size + (l.length + txw l)) = -1) := szv_no (by omega)
    clear hleft hl hm ht hd hmm
    go_enter Tryz.func37, Tryz.ntmps37
    go_wp2_with fail
    go_ret
    exact ⟨ret_int (unhide HE).symm, abP _⟩
  · have HC := hide (fun v hv => szT l a cap left v hv hm ht (by omega) (by omega))
    clear hl hm ht hd hmm
    by_cases h2 : ((l.length + txw l : Nat) : Int) ≤ left
    · have HE : Hid (szv 1048576 (d.size + (l.length + txw l)) = left - (l.length + txw l : Nat)) := by
        show _ = _
        rw [szv_yes (by omega)]; omega
      rw [szv_yes h2] at HC
      have h3 : ¬ left - ((l.length + txw l : Nat) : Int) < 0 := by omega
      generalize ((l.length + txw l : Nat) : Int) = q at *
      clear hleft
      go_enter Tryz.func37, Tryz.ntmps37
      go_wp2_with fail
      refine (unhide HC _ (unhide HL)).mono ?_
      rintro e w2 ⟨rfl, rfl⟩
      go_wp2_with fail
      go_ret
      exact ⟨ret_int (unhide HE).symm, abP _⟩
    · have HE : Hid (szv 1048576 (d.size + (l.length + txw l)) = -1) := szv_no (by omega)
      rw [szv_no (by omega)] at HC
      clear hleft
      go_enter Tryz.func37, Tryz.ntmps37
      go_wp2_with fail
      refine (unhide HC _ (unhide HL)).mono ?_
      rintro e w2 ⟨rfl, rfl⟩
      go_wp2_with fail
      go_ret
      exact ⟨ret_int (unhide HE).symm, abP _⟩

set_option maxRecDepth 100000 in
set_option maxHeartbeats 1000000 in
theorem toP (l : List ByteArray) (d : ByteArray) (m : Int) (a : Option Addr) (cap : Nat) (u : Int) (w : World) (hl : Txt w 0 a l) (hsz : l.length ≤ 2097152) :
    Calls Tryz.prog 51 #[.agg #[.string d, .int .i64 m, .slice a l.length cap, .int .i64 u]] w fun e w' => ∃ a', e = .returned (.agg #[.string d, .int .i64 m, .slice a' l.length l.length, .int .i64 u]) ∧ Txt w' w.heap.size a' l ∧ Below w.heap.size w w' := by
  have hb0 : Below w.heap.size w (((w.alloc (.cells #[.string d, .int .i64 m, .slice a l.length cap, .int .i64 u] 81)).alloc (.cells #[.string ⟨#[]⟩, .int .i64 0, .slice none 0 0, .int .i64 0] 104)).alloc (.cells #[.string d, .int .i64 m, .slice none 0 0, .int .i64 0] 104)) := btP (btP (abP _) (abP _)) (abP _)
  have HL := hide (hl.on hb0)
  have HB0 := hide hb0
  have HC := hide (fun v hv => toT l a cap v hv hsz)
  clear hl hb0
  generalize hlen : l.length = len at *
  go_enter Tryz.func51, Tryz.ntmps51
  go_wp2_with fail
  refine (unhide HC _ (unhide HL)).mono ?_
  rintro e w2 ⟨rfl, hL2, hb2⟩
  have HB2 := hide (btP (unhide HB0) hb2)
  obtain ⟨hc, hf⟩ := bcell hb2
  clear hb2 HB0 HL HC
  go_wp2_with fail
  simp only [heap_size_alloc] at hL2 hc
  refine bodyPost_ret (v := .agg #[.string d, .int .i64 m, .slice (some ⟨w.heap.size + 1 + 1 + 1, 0, none⟩) len len, .int .i64 u]) (by simp [results, Tryz.results51, go_sem, hc]) rfl ⟨_, rfl, ?_, ?_⟩
  · intro k t hk
    obtain ⟨b, o, h1, h2, h3⟩ := hL2 k t hk
    refine ⟨b, o, h1, by omega, ?_⟩
    repeat rw [cell_set_other (by omega)]
    exact h3
  · repeat refine Below.setCell ?_ (by simp <;> omega) _
    exact unhide HB2

set_option maxRecDepth 100000 in
set_option maxHeartbeats 1000000 in
theorem eqP (l : List ByteArray) (d : ByteArray) (m : Int) (a a' : Option Addr) (c c' : Nat) (u : Int) (w : World) (hl : Txt w 0 a l) (hl' : Txt w 0 a' l) (hsz : l.length ≤ 2097152) :
    Calls Tryz.prog 65 #[.agg #[.string d, .int .i64 m, .slice a l.length c, .int .i64 u], .agg #[.string d, .int .i64 m, .slice a' l.length c', .int .i64 u]] w fun e w' => e = .returned (.bool true) ∧ Below w.heap.size w w' := by
  have hb0 : Below w.heap.size w ((w.alloc (.cells #[.string d, .int .i64 m, .slice a l.length c, .int .i64 u] 104)).alloc (.cells #[.string d, .int .i64 m, .slice a' l.length c', .int .i64 u] 104)) := btP (abP _) (abP _)
  have HL := hide (hl.on hb0)
  have HL' := hide (hl'.on hb0)
  have HB0 := hide hb0
  have HX := hide ((RowP.new 104 w d m a l.length c u).below (abP (.cells #[.string d, .int .i64 m, .slice a' l.length c', .int .i64 u] 104)))
  have HY : Hid (RowP 104 ((w.alloc (.cells #[.string d, .int .i64 m, .slice a l.length c, .int .i64 u] 104)).alloc (.cells #[.string d, .int .i64 m, .slice a' l.length c', .int .i64 u] 104)) (w.heap.size + 1) d m a' l.length c' u) := by
    have := RowP.new 104 (w.alloc (.cells #[.string d, .int .i64 m, .slice a l.length c, .int .i64 u] 104)) d m a' l.length c' u
    rwa [heap_size_alloc] at this
  have HC := hide (fun v hv hv' => eqT l a a' c c' v (by omega) hv hv')
  clear hl hl' hb0
  generalize hlen : l.length = len at *
  go_enter Tryz.func65, Tryz.ntmps65
  go_wp2_with fail
  refine (unhide HC _ (unhide HL) (unhide HL')).mono ?_
  rintro e w2 ⟨rfl, hb2⟩
  obtain ⟨c0, c1, c2, c3⟩ := ((unhide HX).below hb2).facts
  obtain ⟨d0, d1, d2, d3⟩ := ((unhide HY).below hb2).facts
  have HB2 := hide (btP (unhide HB0) hb2)
  clear hb2
  go_wp2_with fail
  go_ret
  exact ⟨rfl, unhide HB2⟩

noncomputable def holdB (m u now : Int) : Bool := decide (m = 2 ∧ now ≤ u)

theorem inTime (n : Int) (w : World) : Calls Tryz.prog 85 #[.int .i64 n] w fun e w' => e = .returned (.bool (decide (0 ≤ n ∧ n ≤ 100000))) ∧ w' = w := by
  by_cases h1 : 0 ≤ n
  · by_cases h2 : n ≤ 100000
    · rw [show decide (0 ≤ n ∧ n ≤ 100000) = true from decide_eq_true ⟨h1, h2⟩]
      go_enter Tryz.func85, Tryz.ntmps85
      go_wp2_with fail
      go_ret
      exact ⟨retB (by simp), rfl⟩
    · rw [show decide (0 ≤ n ∧ n ≤ 100000) = false from decide_eq_false (by omega)]
      go_enter Tryz.func85, Tryz.ntmps85
      go_wp2_with fail
      go_ret
      exact ⟨retB (by simp), rfl⟩
  · rw [show decide (0 ≤ n ∧ n ≤ 100000) = false from decide_eq_false (by omega)]
    go_enter Tryz.func85, Tryz.ntmps85
    go_wp2_with fail
    go_ret
    exact ⟨rfl, rfl⟩

theorem inS (n lo hi : Int) (w : World) : Calls Tryz.prog 42 #[.int .i64 n, .int .i64 lo, .int .i64 hi] w fun e w' => e = .returned (.bool (decide (lo ≤ n ∧ n ≤ hi))) ∧ w' = w := by
  by_cases h1 : lo ≤ n
  · by_cases h2 : n ≤ hi
    · rw [show decide (lo ≤ n ∧ n ≤ hi) = true from decide_eq_true ⟨h1, h2⟩]
      go_enter Tryz.func42, Tryz.ntmps42
      go_wp2_with fail
      go_ret
      exact ⟨retB (by simp), rfl⟩
    · rw [show decide (lo ≤ n ∧ n ≤ hi) = false from decide_eq_false (by omega)]
      go_enter Tryz.func42, Tryz.ntmps42
      go_wp2_with fail
      go_ret
      exact ⟨retB (by simp), rfl⟩
  · rw [show decide (lo ≤ n ∧ n ≤ hi) = false from decide_eq_false (by omega)]
    go_enter Tryz.func42, Tryz.ntmps42
    go_wp2_with fail
    go_ret
    exact ⟨rfl, rfl⟩

/-- A domain. -/
def domByte (c : Nat) : Prop := 97 ≤ c ∧ c ≤ 122
def domP (s : ByteArray) : Prop := (1 ≤ s.size ∧ s.size ≤ 10) ∧ ∀ k, k < s.size → domByte (byteAt s k)
open Classical in
noncomputable def domB (s : ByteArray) : Bool := decide (domP s)
theorem domB_yes {s : ByteArray} (h : domP s) : domB s = true := by simp [domB, h]
theorem domB_no {s : ByteArray} (h : ¬ domP s) : domB s = false := by simp [domB, h]
theorem domB_iff {s : ByteArray} : domB s = true ↔ domP s := by simp [domB]

set_option maxRecDepth 100000 in
set_option maxHeartbeats 1000000 in
theorem domS (s : ByteArray) (w : World) (hs : s.size ≤ 2097152) :
    Calls Tryz.prog 77 #[.string s] w fun e w' => e = .returned (.bool (domB s)) ∧ w' = w := by
  have h28 := hide (fun v => inS (s.size : Int) 1 10 v)
  go_enter Tryz.func77, Tryz.ntmps77
  go_wp2_with fail
  go_loopw [3] (fun x w' => ∃ k : Nat, x = .int .i64 k ∧ w' = w ∧ k ≤ s.size ∧ ∀ j, j < k → domByte (byteAt s j)) (fun x _ => s.size - (intOf x).toNat)
  case atStart => exact ⟨0, rfl, rfl, by omega, fun j hj => by omega⟩
  case round =>
    obtain ⟨k, rfl, rfl, hk, hall⟩ := hrel
    by_cases hp : k < s.size
    · have c1 : (k : Int) < (s.size : Int) := by omega
      have c3 : (0 : Int) ≤ (k : Int) := by omega
      have w1 : wrap64 ((k : Int) + 1) = ((k + 1 : Nat) : Int) := by unfold wrap64; omega
      have hbt := byteAt_lt hp
      by_cases ha : domByte (byteAt s k)
      · have HM : Hid (∀ j, j < k + 1 → domByte (byteAt s j)) := fun j hj => by
          rcases Nat.lt_or_ge j k with h | h
          · exact hall j h
          · obtain rfl : j = k := by omega
            exact ha
        have q1 : ¬ ((s[k]'hp).toNat : Int) < 97 := by rw [hbt]; unfold domByte at ha; omega
        have q2 : ¬ (122 : Int) < ((s[k]'hp).toNat : Int) := by rw [hbt]; unfold domByte at ha; omega
        clear hall ha hbt
        go_wp2_with fail
        go_roundw
        case rel => exact ⟨k + 1, rfl, by simp, by omega, unhide HM⟩
        case measure => simp only [intOf]; omega
      · have HE := hide (domB_no (s := s) fun hh => ha (hh.2 k hp))
        by_cases q0 : byteAt s k < 97
        · have q1 : ((s[k]'hp).toNat : Int) < 97 := by rw [hbt]; omega
          clear hall ha hbt
          go_wp2_with fail
          go_ret
          exact ⟨retB (unhide HE), rfl⟩
        · have q1 : ¬ ((s[k]'hp).toNat : Int) < 97 := by rw [hbt]; omega
          have q2 : (122 : Int) < ((s[k]'hp).toNat : Int) := by rw [hbt]; unfold domByte at ha; omega
          clear hall ha hbt
          go_wp2_with fail
          go_ret
          exact ⟨retB (unhide HE), rfl⟩
    · have c1 : ¬ (k : Int) < (s.size : Int) := by omega
      have HE : Hid (domB s = decide ((1 : Int) ≤ (s.size : Int) ∧ (s.size : Int) ≤ 10)) := by
        show _ = _
        by_cases h1 : 1 ≤ s.size ∧ s.size ≤ 10
        · rw [domB_yes ⟨h1, fun j hj => hall j (by omega)⟩]; symm; simp; omega
        · rw [domB_no fun hh => h1 hh.1]; symm; simp; omega
      clear hall
      generalize decide ((1 : Int) ≤ (s.size : Int) ∧ (s.size : Int) ≤ 10) = D at *
      go_wp2_with fail
      refine (unhide h28 _).mono ?_
      rintro e w2 ⟨rfl, rfl⟩
      go_wp2_with fail
      go_ret
      exact ⟨retB (unhide HE), rfl⟩

set_option maxRecDepth 100000 in
set_option maxHeartbeats 1000000 in
theorem domI (s : ByteArray) (w : World) (hs : s.size ≤ 2097152) :
    Calls Tryz.prog 116 #[.string s] w fun e w' => e = .returned (.bool (domB s)) ∧ Below w.heap.size w w' := by
  by_cases h1 : s.size < 1
  · have c1 : (s.size : Int) < 1 := by omega
    have HE := hide (domB_no (s := s) fun hh => by have := hh.1.1; omega)
    go_enter Tryz.func116, Tryz.ntmps116
    go_wp2_with fail
    go_ret
    exact ⟨retB (unhide HE), Below.refl _ _⟩
  · have c1 : ¬ (s.size : Int) < 1 := by omega
    by_cases h2 : 10 < s.size
    · have c2 : (10 : Int) < (s.size : Int) := by omega
      have HE := hide (domB_no (s := s) fun hh => by have := hh.1.2; omega)
      go_enter Tryz.func116, Tryz.ntmps116
      go_wp2_with fail
      go_ret
      exact ⟨retB (unhide HE), Below.refl _ _⟩
    · have c2 : ¬ (10 : Int) < (s.size : Int) := by omega
      go_enter Tryz.func116, Tryz.ntmps116
      go_wp2_with fail
      go_loopw [4] (fun _ w' => ∃ pos : Nat, w' = w.iter s pos ∧ pos ≤ s.size ∧ ∀ k, k < pos → domByte (byteAt s k)) (fun _ w' => s.size - w'.iterPos w.heap.size)
      case atStart => exact ⟨0, rfl, by omega, fun k hk => by omega⟩
      case round =>
        obtain ⟨pos, rfl, hpos, hall⟩ := hrel
        by_cases hp : pos < s.size
        · have hnx : ∀ ty, (Instr.next (.pointer (some ⟨w.heap.size, 0, none⟩)) true ty).run Tryz.prog (w.iter s pos) = _ := fun ty => run_next_any w s pos ty hp
          by_cases hin : domByte (byteAt s pos)
          · have hlt : byteAt s pos < 128 := by unfold domByte at hin; omega
            rw [decode_byte hp hlt] at hnx
            have q1 : ¬ (byteAt s pos : Int) < 97 := by unfold domByte at hin; omega
            have q2 : ¬ (122 : Int) < (byteAt s pos : Int) := by unfold domByte at hin; omega
            go_wp2_with fail
            go_roundw
            case rel =>
              refine ⟨pos + 1, rfl, by omega, fun k hk => ?_⟩
              rcases Nat.lt_or_ge k pos with hk' | hk'
              · exact hall k hk'
              · obtain rfl : k = pos := by omega
                exact hin
            case measure =>
              simp
              omega
          · have hx : ¬ (97 ≤ (Utf8.decode s pos).1 ∧ (Utf8.decode s pos).1 ≤ 122) := by
              rcases Nat.lt_or_ge (byteAt s pos) 128 with hl | hl
              · rw [decode_byte hp hl]
                unfold domByte at hin
                exact hin
              · have := decode_not hp hl
                omega
            have HE := hide (domB_no (s := s) fun hh => hin (hh.2 pos hp))
            generalize (Utf8.decode s pos) = D at *
            by_cases q0 : D.1 < 97
            · have q1 : (D.1 : Int) < 97 := by omega
              clear hx hall
              go_wp2_with fail
              go_ret
              exact ⟨retB (unhide HE), iterBelow (Below.refl _ _)⟩
            · have q1 : ¬ (D.1 : Int) < 97 := by omega
              have q2 : (122 : Int) < (D.1 : Int) := by omega
              clear hx hall
              go_wp2_with fail
              go_ret
              exact ⟨retB (unhide HE), iterBelow (Below.refl _ _)⟩
        · have hnx : ∀ ty, (Instr.next (.pointer (some ⟨w.heap.size, 0, none⟩)) true ty).run Tryz.prog (w.iter s pos) = _ := fun ty => run_next_end w s pos ty hp
          go_wp2_with fail
          go_ret
          exact ⟨retB (domB_yes ⟨by omega, fun k hk => hall k (by omega)⟩), iterBelow (Below.refl _ _)⟩

/-- The word of a mode, and whether there is one. -/
def mdWord (m : Int) : ByteArray := if m = 0 then ⟨#[110, 111, 110, 101]⟩ else if m = 1 then ⟨#[116, 101, 115, 116]⟩ else if m = 2 then ⟨#[104, 111, 108, 100]⟩ else ⟨#[]⟩
set_option maxRecDepth 100000 in
theorem modeI (m : Int) (w : World) : Calls Tryz.prog 131 #[.int .i64 m] w fun e w' => e = .returned (.tuple #[.string (mdWord m), .bool (decide (0 ≤ m ∧ m ≤ 2))]) ∧ w' = w := by
  by_cases h0 : m = 0
  · subst h0
    go_enter Tryz.func131, Tryz.ntmps131
    go_wp2_with fail
    refine bodyPost_ret (v := .tuple #[.string (mdWord 0), .bool true]) (by simp [results, Tryz.results131, go_sem, mdWord]) rfl ⟨rfl, rfl⟩
  · by_cases h1 : m = 1
    · subst h1
      go_enter Tryz.func131, Tryz.ntmps131
      go_wp2_with fail
      refine bodyPost_ret (v := .tuple #[.string (mdWord 1), .bool true]) (by simp [results, Tryz.results131, go_sem, mdWord]) rfl ⟨rfl, rfl⟩
    · by_cases h2 : m = 2
      · subst h2
        go_enter Tryz.func131, Tryz.ntmps131
        go_wp2_with fail
        refine bodyPost_ret (v := .tuple #[.string (mdWord 2), .bool true]) (by simp [results, Tryz.results131, go_sem, mdWord]) rfl ⟨rfl, rfl⟩
      · have HE : Hid (mdWord m = ⟨#[]⟩ ∧ decide (0 ≤ m ∧ m ≤ 2) = false) := ⟨by simp [mdWord, h0, h1, h2], decide_eq_false (by omega)⟩
        have q0 : (m == 0) = false := by simpa using h0
        have q1 : (m == 1) = false := by simpa using h1
        have q2 : (m == 2) = false := by simpa using h2
        clear h0 h1 h2
        go_enter Tryz.func131, Tryz.ntmps131
        go_wp2_with fail
        obtain ⟨e1, e2⟩ := unhide HE
        refine bodyPost_ret (v := .tuple #[.string ⟨#[]⟩, .bool false]) (by simp [results, Tryz.results131, go_sem]) rfl ⟨by rw [e1, e2], rfl⟩

/-- The patterns of a policy of that mode. -/
def mxP (l : List ByteArray) (m : Int) : Prop := (l.length ≤ 5 ∧ (m = 0 ∨ 0 < l.length)) ∧ ∀ t ∈ l, patP t
open Classical in
noncomputable def mxB (l : List ByteArray) (m : Int) : Bool := decide (mxP l m)
theorem mxB_yes {l : List ByteArray} {m : Int} (h : mxP l m) : mxB l m = true := by simp [mxB, h]
theorem mxB_no {l : List ByteArray} {m : Int} (h : ¬ mxP l m) : mxB l m = false := by simp [mxB, h]

set_option maxRecDepth 100000 in
set_option maxHeartbeats 1000000 in
theorem mxI (l : List ByteArray) (a : Option Addr) (cap : Nat) (m : Int) (w : World) (hl : Txt w 0 a l) (hm : l.length ≤ 2097152) (ht : ∀ t ∈ l, t.size ≤ 2097152) :
    Calls Tryz.prog 132 #[.slice a l.length cap, .int .i64 m] w fun e w' => e = .returned (.bool (mxB l m)) ∧ Below w.heap.size w w' := by
  have HP := hide (fun t (h : t ∈ l) v => patI t v (ht t h))
  have H := hide hl
  clear hl ht
  by_cases h5 : 5 < l.length
  · have c5 : (5 : Int) < (l.length : Int) := by omega
    have HE := hide (mxB_no (l := l) (m := m) fun hh => by have := hh.1.1; omega)
    generalize l.length = len at *
    go_enter Tryz.func132, Tryz.ntmps132
    go_wp2_with fail
    go_ret
    exact ⟨retB (unhide HE), Below.refl _ _⟩
  · have c5 : ¬ (5 : Int) < (l.length : Int) := by omega
    by_cases hz : l.length = 0 ∧ m ≠ 0
    · have c0 : ((l.length : Int) == 0) = true := by rw [hz.1]; rfl
      have cm : (m != 0) = true := by simpa using hz.2
      have HE := hide (mxB_no (l := l) (m := m) fun hh => by rcases hh.1.2 with h | h; exact hz.2 h; exact absurd h (by have := hz.1; omega))
      clear hz
      generalize l.length = len at *
      go_enter Tryz.func132, Tryz.ntmps132
      go_wp2_with fail
      go_ret
      exact ⟨retB (unhide HE), Below.refl _ _⟩
    · have HZ : Hid (l.length ≤ 5 ∧ (m = 0 ∨ 0 < l.length)) := ⟨by omega, by by_cases h : m = 0; exact Or.inl h; exact Or.inr (Nat.pos_of_ne_zero fun e => hz ⟨e, h⟩)⟩
      have HY : Hid (∀ k, ¬ k < l.length → (∀ j t, j < k → l[j]? = some t → patP t) → mxB l m = true) := fun k hk h => mxB_yes ⟨HZ, fun t hm => by
        obtain ⟨j, hj, e⟩ := List.getElem_of_mem hm
        exact h j t (by omega) (by rw [List.getElem?_eq_getElem hj, e])⟩
      have HW : Hid (∀ wr, Below w.heap.size w wr → Calls Tryz.prog 132 #[.slice a l.length cap, .int .i64 m] w fun e w' => e = .returned (.bool (mxB l m)) ∧ Below w.heap.size w w') := fun _ _ => by
        have key : ((l.length : Int) == 0) = false ∨ (((l.length : Int) == 0) = true ∧ (m != 0) = false) := by
          by_cases h : l.length = 0
          · right; exact ⟨by simp [h], by simp; exact Classical.byContradiction fun hm0 => hz ⟨h, hm0⟩⟩
          · left; simp; intro e; exact h (by simp [e])
        clear hz
        rcases key with q | ⟨q, q'⟩
        all_goals
          go_enter Tryz.func132, Tryz.ntmps132
          go_wp2_with fail
          go_loopw [21] (fun x w' => ∃ k : Nat, x = .int .i64 k ∧ Below w.heap.size w w' ∧ k ≤ l.length ∧ ∀ j t, j < k → l[j]? = some t → patP t) (fun x _ => l.length - (intOf x).toNat)
          case atStart => exact ⟨0, rfl, Below.refl _ _, by omega, fun j l hj => by omega⟩
          case round =>
            obtain ⟨k, rfl, hbq, hk, hall⟩ := hrel
            have HBQ := hide hbq
            by_cases hp : k < l.length
            · obtain ⟨t, hkt⟩ : ∃ t, l[k]? = some t := ⟨_, List.getElem?_eq_getElem hp⟩
              obtain ⟨b, o, rfl, -, d0⟩ := unhide H k t hkt
              have c0 := below_some hbq d0
              have hmem : t ∈ l := List.mem_of_getElem? hkt
              have hc := hide (fun v => unhide HP t hmem v)
              have c1 : (k : Int) < (l.length : Int) := by omega
              have c3 : (0 : Int) ≤ (k : Int) := by omega
              have w1 : wrap64 ((k : Int) + 1) = ((k + 1 : Nat) : Int) := by unfold wrap64; omega
              clear hbq d0
              cases hB : patB t with
              | true =>
                have HM : Hid (∀ j x, j < k + 1 → l[j]? = some x → patP x) := fun j x hj hx => by
                  rcases Nat.lt_or_ge j k with h | h
                  · exact hall j x h hx
                  · obtain rfl : j = k := by omega
                    rw [hkt] at hx
                    cases hx
                    exact patB_iff.1 hB
                rw [hB] at hc
                clear hkt hmem hall hB
                generalize hL : l.length = L at *
                go_wp2_with fail
                refine (unhide hc _).mono ?_
                rintro e w2 ⟨rfl, hb2⟩
                have HB2 := hide (btP (unhide HBQ) hb2)
                clear hb2
                go_wp2_with fail
                go_roundw
                case rel => exact ⟨k + 1, rfl, unhide HB2, by omega, unhide HM⟩
                case measure => simp only [intOf]; omega
              | false =>
                have HE := hide (mxB_no (l := l) (m := m) fun hh => by have := patB_yes (hh.2 t hmem); rw [hB] at this; cases this)
                rw [hB] at hc
                clear hkt hmem hall hB
                generalize hL : l.length = L at *
                go_wp2_with fail
                refine (unhide hc _).mono ?_
                rintro e w2 ⟨rfl, hb2⟩
                have HB2 := hide (btP (unhide HBQ) hb2)
                clear hb2
                go_wp2_with fail
                go_ret
                exact ⟨retB (unhide HE), unhide HB2⟩
            · have c1 : ¬ (k : Int) < (l.length : Int) := by omega
              have HE := hide (unhide HY k hp hall)
              clear hall hbq
              generalize hL : l.length = L at *
              go_wp2_with fail
              go_ret
              exact ⟨retB (unhide HE), unhide HBQ⟩
      exact unhide HW w (Below.refl _ _)

/-- A right policy. -/
noncomputable def polB (l : List ByteArray) (d : ByteArray) (m u : Int) : Bool := domB d && (decide (0 ≤ m ∧ m ≤ 2) && (mxB l m && decide (0 ≤ u ∧ u ≤ 100000)))

set_option maxRecDepth 100000 in
set_option maxHeartbeats 2000000 in
theorem polI (l : List ByteArray) (d : ByteArray) (m : Int) (a : Option Addr) (cap : Nat) (u : Int) (w : World) (hl : Txt w 0 a l) (hm : l.length ≤ 2097152) (ht : ∀ t ∈ l, t.size ≤ 2097152) (hd : d.size ≤ 2097152) :
    Calls Tryz.prog 113 #[.agg #[.string d, .int .i64 m, .slice a l.length cap, .int .i64 u]] w fun e w' => e = .returned (.bool (polB l d m u)) ∧ Below w.heap.size w w' := by
  have hb0 := abP (w := w) (.cells #[.string d, .int .i64 m, .slice a l.length cap, .int .i64 u] 104)
  have HB0 := hide hb0
  have HL := hide (hl.on hb0)
  have HX := hide (RowP.new 104 w d m a l.length cap u)
  have h30 := hide (fun v => modeI m v)
  have h31 := hide (fun v => domI d v hd)
  have h32 := hide (fun v hv => mxI l a cap m v hv hm ht)
  have h33 := hide (fun v => inTime u v)
  clear hl hb0 hm ht hd
  cases hD : domB d with
  | false =>
    have HE : Hid (polB l d m u = false) := by show _ = _; simp [polB, hD]
    rw [hD] at h31
    clear hD
    generalize decide (0 ≤ m ∧ m ≤ 2) = K at *
    generalize mdWord m = MW at *
    generalize l.length = len at *
    go_enter Tryz.func113, Tryz.ntmps113
    go_wp2_with fail
    refine (unhide h30 _).mono ?_
    rintro e w1 ⟨rfl, rfl⟩
    go_wp2_with fail
    refine (unhide h31 _).mono ?_
    rintro e w2 ⟨rfl, hb2⟩
    have HB2 := hide (btP (unhide HB0) hb2)
    obtain ⟨c0, c1, c2, c3⟩ := ((unhide HX).below hb2).facts
    clear hb2
    go_wp2_with fail
    go_ret
    exact ⟨retB (unhide HE), unhide HB2⟩
  | true =>
    rw [hD] at h31
    by_cases hM : 0 ≤ m ∧ m ≤ 2
    · rw [show decide (0 ≤ m ∧ m ≤ 2) = true from decide_eq_true hM] at h30
      cases hX : mxB l m with
      | false =>
        have HE : Hid (polB l d m u = false) := by show _ = _; simp [polB, hX]
        rw [hX] at h32
        clear hD hM hX
        generalize mdWord m = MW at *
        generalize l.length = len at *
        go_enter Tryz.func113, Tryz.ntmps113
        go_wp2_with fail
        refine (unhide h30 _).mono ?_
        rintro e w1 ⟨rfl, rfl⟩
        go_wp2_with fail
        refine (unhide h31 _).mono ?_
        rintro e w2 ⟨rfl, hb2⟩
        have HB2 := hide (btP (unhide HB0) hb2)
        have HX2 := hide ((unhide HX).below hb2)
        have HL2 := hide ((unhide HL).on hb2)
        obtain ⟨c0, c1, c2, c3⟩ := (unhide HX2).facts
        clear hb2
        go_wp2_with fail
        refine (unhide h32 _ (unhide HL2)).mono ?_
        rintro e w3 ⟨rfl, hb3⟩
        have HB3 := hide (btP (unhide HB2) hb3)
        clear c0 c1 c2 c3
        obtain ⟨c0, c1, c2, c3⟩ := ((unhide HX2).below hb3).facts
        clear hb3
        go_wp2_with fail
        go_ret
        exact ⟨retB (unhide HE), unhide HB3⟩
      | true =>
        have HE : Hid (polB l d m u = decide (0 ≤ u ∧ u ≤ 100000)) := by show _ = _; simp [polB, hX, hD, hM]
        rw [hX] at h32
        clear hD hM hX
        generalize decide (0 ≤ u ∧ u ≤ 100000) = U at *
        generalize mdWord m = MW at *
        generalize l.length = len at *
        go_enter Tryz.func113, Tryz.ntmps113
        go_wp2_with fail
        refine (unhide h30 _).mono ?_
        rintro e w1 ⟨rfl, rfl⟩
        go_wp2_with fail
        refine (unhide h31 _).mono ?_
        rintro e w2 ⟨rfl, hb2⟩
        have HB2 := hide (btP (unhide HB0) hb2)
        have HX2 := hide ((unhide HX).below hb2)
        have HL2 := hide ((unhide HL).on hb2)
        obtain ⟨c0, c1, c2, c3⟩ := (unhide HX2).facts
        clear hb2
        go_wp2_with fail
        refine (unhide h32 _ (unhide HL2)).mono ?_
        rintro e w3 ⟨rfl, hb3⟩
        have HB3 := hide (btP (unhide HB2) hb3)
        clear c0 c1 c2 c3
        obtain ⟨c0, c1, c2, c3⟩ := ((unhide HX2).below hb3).facts
        clear hb3
        go_wp2_with fail
        refine (unhide h33 _).mono ?_
        rintro e w4 ⟨rfl, rfl⟩
        go_wp2_with fail
        go_ret
        exact ⟨retB (unhide HE), unhide HB3⟩
    · have HE : Hid (polB l d m u = false) := by
        show _ = _
        rw [polB, show decide (0 ≤ m ∧ m ≤ 2) = false from decide_eq_false hM]
        simp
      rw [show decide (0 ≤ m ∧ m ≤ 2) = false from decide_eq_false hM] at h30
      clear hD hM
      generalize mdWord m = MW at *
      generalize l.length = len at *
      go_enter Tryz.func113, Tryz.ntmps113
      go_wp2_with fail
      refine (unhide h30 _).mono ?_
      rintro e w1 ⟨rfl, rfl⟩
      go_wp2_with fail
      refine (unhide h31 _).mono ?_
      rintro e w2 ⟨rfl, hb2⟩
      have HB2 := hide (btP (unhide HB0) hb2)
      obtain ⟨c0, c1, c2, c3⟩ := ((unhide HX).below hb2).facts
      clear hb2
      go_wp2_with fail
      go_ret
      exact ⟨retB (unhide HE), unhide HB2⟩

set_option maxRecDepth 100000 in
set_option maxHeartbeats 2000000 in
theorem polS (l : List ByteArray) (d : ByteArray) (m : Int) (a : Option Addr) (cap : Nat) (u : Int) (w : World) (hl : Txt w 0 a l) (hm : l.length ≤ 2097152) (ht : ∀ t ∈ l, t.size ≤ 2097152) (hd : d.size ≤ 2097152) :
    Calls Tryz.prog 73 #[.agg #[.string d, .int .i64 m, .slice a l.length cap, .int .i64 u]] w fun e w' => e = .returned (.bool (polB l d m u)) ∧ Below w.heap.size w w' := by
  have hb0 := abP (w := w) (.cells #[.string d, .int .i64 m, .slice a l.length cap, .int .i64 u] 104)
  have HB0 := hide hb0
  have HL := hide (hl.on hb0)
  have HX := hide (RowP.new 104 w d m a l.length cap u)
  have HP := hide (fun t (h : t ∈ l) v => patS t v (ht t h))
  have h27 := hide (fun v => domS d v hd)
  have h28 := hide (fun v => inS m 0 2 v)
  have h28' := hide (fun v => inS u 0 100000 v)
  clear hl ht hd
  go_enter Tryz.func73, Tryz.ntmps73
  go_wp2_with fail
  generalize hW0 : w.alloc (.cells #[.string d, .int .i64 m, .slice a l.length cap, .int .i64 u] 104) = W0 at *
  clear hW0
  go_loopw [3] (fun x w' => ∃ k : Nat, x = .int .i64 k ∧ Below W0.heap.size W0 w' ∧ k ≤ l.length ∧ ∀ j t, j < k → l[j]? = some t → patP t) (fun x _ => l.length - (intOf x).toNat)
  case atStart => exact ⟨0, rfl, Below.refl _ _, by omega, fun j t hj => by omega⟩
  case round =>
    obtain ⟨k, rfl, hbq, hk, hall⟩ := hrel
    have HBQ := hide hbq
    have HBT := hide (btP (unhide HB0) hbq)
    obtain ⟨c0, c1, c2, c3⟩ := ((unhide HX).below hbq).facts
    by_cases hp : k < l.length
    · obtain ⟨t, hkt⟩ : ∃ t, l[k]? = some t := ⟨_, List.getElem?_eq_getElem hp⟩
      obtain ⟨b, o, rfl, -, d0⟩ := ((unhide HL).on hbq) k t hkt
      have hmem : t ∈ l := List.mem_of_getElem? hkt
      have hc := hide (fun v => unhide HP t hmem v)
      have q1 : (k : Int) < (l.length : Int) := by omega
      have q3 : (0 : Int) ≤ (k : Int) := by omega
      have w1 : wrap64 ((k : Int) + 1) = ((k + 1 : Nat) : Int) := by unfold wrap64; omega
      clear hbq
      cases hB : patB t with
      | true =>
        have HM : Hid (∀ j x, j < k + 1 → l[j]? = some x → patP x) := fun j x hj hx => by
          rcases Nat.lt_or_ge j k with h | h
          · exact hall j x h hx
          · obtain rfl : j = k := by omega
            rw [hkt] at hx
            cases hx
            exact patB_iff.1 hB
        rw [hB] at hc
        clear hkt hmem hall hB
        generalize hL : l.length = L at *
        go_wp2_with fail
        refine (unhide hc _).mono ?_
        rintro e w2 ⟨rfl, hb2⟩
        have HB2 := hide (btP (unhide HBQ) hb2)
        clear hb2
        go_wp2_with fail
        go_roundw
        case rel => exact ⟨k + 1, rfl, unhide HB2, by omega, unhide HM⟩
        case measure => simp only [intOf]; omega
      | false =>
        have HE : Hid (polB l d m u = false) := by
          show _ = _
          rw [polB, mxB_no (l := l) (m := m) fun hh => by have := patB_yes (hh.2 t hmem); rw [hB] at this; cases this]
          simp
        rw [hB] at hc
        clear hkt hmem hall hB
        generalize hL : l.length = L at *
        go_wp2_with fail
        refine (unhide hc _).mono ?_
        rintro e w2 ⟨rfl, hb2⟩
        have HB2 := hide (btP (unhide HBT) hb2)
        clear hb2
        go_wp2_with fail
        go_ret
        exact ⟨retB (unhide HE), unhide HB2⟩
    · have q1 : ¬ (k : Int) < (l.length : Int) := by omega
      have hAll : ∀ t ∈ l, patP t := fun t hm => by
        obtain ⟨j, hj, e⟩ := List.getElem_of_mem hm
        exact hall j t (by omega) (by rw [List.getElem?_eq_getElem hj, e])
      clear hall hbq
      cases hD : domB d with
      | false =>
        have HE : Hid (polB l d m u = false) := by show _ = _; simp [polB, hD]
        rw [hD] at h27
        clear hD hAll
        generalize hL : l.length = L at *
        go_wp2_with fail
        refine (unhide h27 _).mono ?_
        rintro e w2 ⟨rfl, rfl⟩
        go_wp2_with fail
        go_ret
        exact ⟨retB (unhide HE), unhide HBT⟩
      | true =>
        rw [hD] at h27
        by_cases hM : 0 ≤ m ∧ m ≤ 2
        · rw [show decide (0 ≤ m ∧ m ≤ 2) = true from decide_eq_true hM] at h28
          by_cases h5 : l.length ≤ 5
          · have q5 : (l.length : Int) ≤ 5 := by omega
            by_cases hmz : m = 0
            · have qm : (m == 0) = true := by simpa using hmz
              have HE : Hid (polB l d m u = decide (0 ≤ u ∧ u ≤ 100000)) := by show _ = _; simp [polB, hD, hM, mxB_yes (l := l) (m := m) ⟨⟨h5, Or.inl hmz⟩, hAll⟩]
              clear hD hM hAll hmz h5
              generalize decide (0 ≤ u ∧ u ≤ 100000) = U at *
              generalize hL : l.length = L at *
              go_wp2_with fail
              refine (unhide h27 _).mono ?_
              rintro e w2 ⟨rfl, rfl⟩
              go_wp2_with fail
              refine (unhide h28 _).mono ?_
              rintro e w2 ⟨rfl, rfl⟩
              go_wp2_with fail
              refine (unhide h28' _).mono ?_
              rintro e w2 ⟨rfl, rfl⟩
              go_wp2_with fail
              go_ret
              exact ⟨retB (unhide HE), unhide HBT⟩
            · have qm : (m == 0) = false := by simpa using hmz
              by_cases hz : 0 < l.length
              · have qz : (0 : Int) < (l.length : Int) := by omega
                have HE : Hid (polB l d m u = decide (0 ≤ u ∧ u ≤ 100000)) := by show _ = _; simp [polB, hD, hM, mxB_yes (l := l) (m := m) ⟨⟨h5, Or.inr hz⟩, hAll⟩]
                clear hD hM hAll hmz hz h5
                generalize decide (0 ≤ u ∧ u ≤ 100000) = U at *
                generalize hL : l.length = L at *
                go_wp2_with fail
                refine (unhide h27 _).mono ?_
                rintro e w2 ⟨rfl, rfl⟩
                go_wp2_with fail
                refine (unhide h28 _).mono ?_
                rintro e w2 ⟨rfl, rfl⟩
                go_wp2_with fail
                refine (unhide h28' _).mono ?_
                rintro e w2 ⟨rfl, rfl⟩
                go_wp2_with fail
                go_ret
                exact ⟨retB (unhide HE), unhide HBT⟩
              · have qz : ¬ (0 : Int) < (l.length : Int) := by omega
                have HE : Hid (polB l d m u = false) := by show _ = _; rw [polB, mxB_no (l := l) (m := m) fun hh => hh.1.2.elim hmz hz]; simp
                clear hD hM hAll hmz hz h5
                generalize hL : l.length = L at *
                go_wp2_with fail
                refine (unhide h27 _).mono ?_
                rintro e w2 ⟨rfl, rfl⟩
                go_wp2_with fail
                refine (unhide h28 _).mono ?_
                rintro e w2 ⟨rfl, rfl⟩
                go_wp2_with fail
                go_ret
                exact ⟨retB (unhide HE), unhide HBT⟩
          · have q5 : ¬ (l.length : Int) ≤ 5 := by omega
            have HE : Hid (polB l d m u = false) := by show _ = _; rw [polB, mxB_no (l := l) (m := m) fun hh => h5 hh.1.1]; simp
            clear hD hM hAll h5
            generalize hL : l.length = L at *
            go_wp2_with fail
            refine (unhide h27 _).mono ?_
            rintro e w2 ⟨rfl, rfl⟩
            go_wp2_with fail
            refine (unhide h28 _).mono ?_
            rintro e w2 ⟨rfl, rfl⟩
            go_wp2_with fail
            go_ret
            exact ⟨retB (unhide HE), unhide HBT⟩
        · have HE : Hid (polB l d m u = false) := by
            show _ = _
            rw [polB, show decide (0 ≤ m ∧ m ≤ 2) = false from decide_eq_false hM]
            simp
          rw [show decide (0 ≤ m ∧ m ≤ 2) = false from decide_eq_false hM] at h28
          clear hD hM hAll
          generalize hL : l.length = L at *
          go_wp2_with fail
          refine (unhide h27 _).mono ?_
          rintro e w2 ⟨rfl, rfl⟩
          go_wp2_with fail
          refine (unhide h28 _).mono ?_
          rintro e w2 ⟨rfl, rfl⟩
          go_wp2_with fail
          go_ret
          exact ⟨retB (unhide HE), unhide HBT⟩

structure Pol where
  d : ByteArray
  m : Int
  l : List ByteArray
  u : Int

/-- The cells of a policy. -/
def polCells (p : Pol) (a : Option Addr) (cap : Nat) : List Value := [.string p.d, .int .i64 p.m, .slice a p.l.length cap, .int .i64 p.u]
def pw (p : Pol) : Nat := p.d.size + (p.l.length + txw p.l)
def pws : List Pol → Nat
  | [] => 0
  | p :: r => pw p + pws r
theorem pws_append (a b : List Pol) : pws (a ++ b) = pws a + pws b := by
  induction a with
  | nil => simp [pws]
  | cons t r ih => simp only [List.cons_append, pws, ih]; omega
theorem pws_take (l : List Pol) {k : Nat} {t : Pol} (h : l[k]? = some t) : pws (l.take (k + 1)) = pws (l.take k) + pw t := by
  rw [List.take_add_one, h, pws_append]; simp [pws]
theorem pws_take_le (l : List Pol) (k : Nat) : pws (l.take k) ≤ pws l := by
  have := pws_append (l.take k) (l.drop k)
  rw [List.take_append_drop] at this
  omega
theorem pws_get {l : List Pol} {k : Nat} {t : Pol} (h : l[k]? = some t) : pw t ≤ pws l := by
  have h1 := pws_take l h
  have h2 := pws_take_le l (k + 1)
  omega

/-- The policies lie in the world, one behind the other, in blocks from L on. -/
def Pols (w : World) (L : Nat) (a : Option Addr) (P : List Pol) : Prop := ∀ k p, P[k]? = some p → ∃ b o x cap, a = some ⟨b, o, none⟩ ∧ L ≤ b ∧ w.rangeAt b (o + k * 4) (polCells p x cap) ∧ Txt w L x p.l
theorem Pols.on {w w' : World} {L : Nat} {a : Option Addr} {P : List Pol} (h : Pols w L a P) (hb : Below w.heap.size w w') : Pols w' L a P := fun k p hk => by
  obtain ⟨b, o, x, cap, h1, h2, h3, h4⟩ := h k p hk
  exact ⟨b, o, x, cap, h1, h2, rangeAt_below h3 hb, h4.on hb⟩
theorem Pols.low {w : World} {L L' : Nat} {a : Option Addr} {P : List Pol} (h : Pols w L a P) (hL : L' ≤ L) : Pols w L' a P := fun k p hk => by
  obtain ⟨b, o, x, cap, h1, h2, h3, h4⟩ := h k p hk
  exact ⟨b, o, x, cap, h1, by omega, h3, h4.low hL⟩
theorem Pols.elem {w : World} {L : Nat} {a : Option Addr} {P : List Pol} (h : Pols w L a P) {k : Nat} {p : Pol} (hk : P[k]? = some p) :
    ∃ b o x cap, a = some ⟨b, o, none⟩ ∧ L ≤ b ∧ b < w.heap.size ∧ w.cell? ⟨b, o + k * 4, none⟩ = some (.string p.d) ∧ w.cell? ⟨b, o + k * 4 + 1, none⟩ = some (.int .i64 p.m) ∧ w.cell? ⟨b, o + k * 4 + 2, none⟩ = some (.slice x p.l.length cap) ∧ w.cell? ⟨b, o + k * 4 + 3, none⟩ = some (.int .i64 p.u) ∧ Txt w L x p.l := by
  obtain ⟨b, o, x, cap, h1, h2, h3, h4⟩ := h k p hk
  exact ⟨b, o, x, cap, h1, h2, rangeAt_lt h3 (by simp [polCells]), h3 0 _ rfl, h3 1 _ rfl, h3 2 _ rfl, h3 3 _ rfl, h4⟩
/-- The texts of a policy are not too long. -/
def polFit (p : Pol) : Prop := p.l.length ≤ maxLen ∧ (∀ t ∈ p.l, t.size ≤ maxLen) ∧ p.d.size ≤ maxLen

set_option maxRecDepth 100000 in
set_option maxHeartbeats 1000000 in
theorem szPg (l : List ByteArray) (d : ByteArray) (m : Int) (a : Option Addr) (cap : Nat) (u : Int) (l0 : Int) (hl0 : 0 ≤ l0) (hl1 : l0 ≤ 1048576) (w : World) (hl : Txt w 0 a l) (hm : l.length ≤ maxLen) (ht : ∀ t ∈ l, t.size ≤ maxLen) (hd : d.size ≤ maxLen) :
    Calls Tryz.prog 37 #[.agg #[.string d, .int .i64 m, .slice a l.length cap, .int .i64 u], .int .i64 l0] w fun e w' => e = .returned (.int .i64 (szv l0 (d.size + (l.length + txw l)))) ∧ Below w.heap.size w w' := by
  have hmm : d.size ≤ 9223372036854775807 := by unfold maxLen at hd; omega
  obtain ⟨left, hleft⟩ : ∃ left : Int, left = l0 - (d.size : Int) := ⟨_, rfl⟩
  have w1 : wrap64 (l0 - (d.size : Int)) = left := by unfold wrap64; omega
  have HL := hide (hl.on (abP (.cells #[.string d, .int .i64 m, .slice a l.length cap, .int .i64 u] 81)))
  by_cases h1 : left < 0
  · have HE : Hid (szv l0 (d.size + (l.length + txw l)) = -1) := szv_no (by omega)
    clear hleft hl hm ht hd hmm
    go_enter Tryz.func37, Tryz.ntmps37
    go_wp2_with fail
    go_ret
    exact ⟨ret_int (unhide HE).symm, abP _⟩
  · have HC := hide (fun v hv => szT l a cap left v hv hm ht (by omega) (by omega))
    clear hl hm ht hd hmm
    by_cases h2 : ((l.length + txw l : Nat) : Int) ≤ left
    · have HE : Hid (szv l0 (d.size + (l.length + txw l)) = left - (l.length + txw l : Nat)) := by
        show _ = _
        rw [szv_yes (by omega)]; omega
      rw [szv_yes h2] at HC
      have h3 : ¬ left - ((l.length + txw l : Nat) : Int) < 0 := by omega
      generalize ((l.length + txw l : Nat) : Int) = q at *
      clear hleft
      go_enter Tryz.func37, Tryz.ntmps37
      go_wp2_with fail
      refine (unhide HC _ (unhide HL)).mono ?_
      rintro e w2 ⟨rfl, rfl⟩
      go_wp2_with fail
      go_ret
      exact ⟨ret_int (unhide HE).symm, abP _⟩
    · have HE : Hid (szv l0 (d.size + (l.length + txw l)) = -1) := szv_no (by omega)
      rw [szv_no (by omega)] at HC
      clear hleft
      go_enter Tryz.func37, Tryz.ntmps37
      go_wp2_with fail
      refine (unhide HC _ (unhide HL)).mono ?_
      rintro e w2 ⟨rfl, rfl⟩
      go_wp2_with fail
      go_ret
      exact ⟨ret_int (unhide HE).symm, abP _⟩


set_option maxRecDepth 100000 in
set_option maxHeartbeats 1000000 in
theorem szQ (P : List Pol) (a : Option Addr) (cap : Nat) (w : World) (hl : Pols w 0 a P) (hm : P.length ≤ maxLen) (hf : ∀ p ∈ P, polFit p) :
    Calls Tryz.prog 10 #[.slice a P.length cap, .int .i64 1048576] w fun e w' => e = .returned (.int .i64 (szv 1048576 (P.length + pws P))) ∧ Below w.heap.size w w' := by
  unfold maxLen at hm
  generalize hlen : P.length = len at *
  have HL : Hid (P.length = len) := hlen
  clear hlen
  have w0 : wrap64 (1048576 - (len : Int)) = 1048576 - (len : Int) := by unfold wrap64; omega
  by_cases hlt : (1048576 : Int) - len < 0
  · have HE : Hid (szv 1048576 (len + pws P) = -1) := szv_no (by omega)
    go_enter Tryz.func10, Tryz.ntmps10
    go_wp2_with fail
    go_ret
    exact ⟨ret_int (unhide HE).symm, Below.refl _ _⟩
  · go_enter Tryz.func10, Tryz.ntmps10
    go_wp2_with fail
    go_loopw [1, 5] (fun x i wr => ∃ k : Nat, k ≤ len ∧ i = .int .i64 k ∧ (len : Int) + (pws (P.take k) : Int) ≤ 1048576 ∧ x = .int .i64 (1048576 - len - (pws (P.take k) : Int)) ∧ Below w.heap.size w wr) (fun _ i _ => len - (intOf i).toNat)
    case atStart => exact ⟨0, Nat.zero_le _, rfl, by simp [pws]; omega, by simp [pws], Below.refl _ _⟩
    case round =>
      obtain ⟨k, hk, rfl, hle, rfl, hbr⟩ := hrel
      have HB := hide hbr
      by_cases hkl : k < len
      · have hkl' : k < P.length := by have := HL.out; omega
        obtain ⟨p, hkp⟩ : ∃ p, P[k]? = some p := ⟨_, List.getElem?_eq_getElem hkl'⟩
        obtain ⟨b, o, x, xc, rfl, -, -, c0, c1, c2, c3, hT⟩ := (hl.on hbr).elem hkp
        have hpf := hf p (List.mem_of_getElem? hkp)
        have HT := hide hT
        have HW := hide (pws_take P hkp)
        have HA := hide (pws_take_le P (k + 1))
        have q2 : (k : Int) < (len : Int) := by omega
        have q3 : (0 : Int) ≤ (k : Int) := by omega
        generalize hwl : pws (P.take k) = wl at *
        generalize hwk : pws (P.take (k + 1)) = wk at *
        have w2 : wrap64 ((k : Int) + 1) = ((k + 1 : Nat) : Int) := by unfold wrap64; omega
        have Hwk : Hid (pws (P.take (k + 1)) = wk) := hwk
        have HC := hide (fun v hv => szPg p.l p.d p.m x xc p.u (1048576 - len - wl) (by omega) (by omega) v hv hpf.1 hpf.2.1 hpf.2.2)
        have hpw : p.d.size + (p.l.length + txw p.l) = pw p := rfl
        rw [hpw] at HC
        clear hwl hwk hkp hl hf hT hpf hpw hbr
        generalize hq : pw p = q at *
        by_cases hw : (q : Int) ≤ 1048576 - len - wl
        · rw [szv_yes hw] at HC
          have hsv : ¬ (1048576 : Int) - len - wl - (q : Int) < 0 := by omega
          go_wp2_with fail
          refine (unhide HC _ (unhide HT)).mono ?_
          rintro e w3 ⟨rfl, hb3⟩
          have HB3 := hide (btP (unhide HB) hb3)
          clear hb3
          go_wp2_with fail
          go_roundw
          case rel => exact ⟨k + 1, by omega, rfl, by have := HW.out; have := Hwk.out; omega, by have := HW.out; have := Hwk.out; rw [this]; congr 1; omega, unhide HB3⟩
          case measure => simp [intOf]; omega
        · rw [szv_no (by omega)] at HC
          go_wp2_with fail
          refine (unhide HC _ (unhide HT)).mono ?_
          rintro e w3 ⟨rfl, hb3⟩
          have HB3 := hide (btP (unhide HB) hb3)
          clear hb3
          go_wp2_with fail
          go_ret
          exact ⟨ret_int (by rw [szv_no (by have := HW.out; have := HA.out; omega)]), unhide HB3⟩
      · have c2 : ¬ (k : Int) < (len : Int) := by omega
        clear hbr
        go_wp2_with fail
        go_ret
        have hkk : k = len := by omega
        exact ⟨ret_int (by rw [List.take_of_length_le (by have := HL.out; omega)] at hle ⊢; rw [szv_yes (by omega)]; omega), unhide HB⟩

theorem infoPol : (Tryz.prog.info? 104).map (fun i => (i.zero, i.size, i.bytes)) = some (some (.agg #[.string ByteArray.empty, .int .i64 0, .slice none 0 0, .int .i64 0]), 4, 56) := by kernel_rfl
def madePol (n : Nat) : Array Value := madeCells #[.string ByteArray.empty, .int .i64 0, .slice none 0 0, .int .i64 0] (n * 4)
theorem madePol_size (n : Nat) : (madePol n).size = n * 4 := size_madeCells _ _

theorem make_pol (n : Nat) (hn : n ≤ 2097152) (w : World) :
    (Instr.makeSlice 34 (.int .i64 (n : Int)) (.int .i64 (n : Int))).run Tryz.prog w = .ok (.slice (some ⟨w.heap.size, 0, none⟩) n n) (w.alloc (.cells (madePol n) 104)) := by
  obtain ⟨i, hi, hzz⟩ := Option.map_eq_some_iff.1 infoPol
  simp only [Prod.mk.injEq] at hzz
  obtain ⟨hz, hs, hb⟩ := hzz
  have hr := run_make (P := Tryz.prog) w 34 104 i _ Tryz.underlying34 hi hz .i64 .i64 n n (by omega) (Int.le_refl _) (by rw [hb]; omega) (by omega)
  simp only [Int.toNat_natCast, hs] at hr
  exact hr

/-- In the middle of the copy: k of the policies are there. -/
structure QMid (w : World) (P : List Pol) (k : Nat) (wr : World) : Prop where
  below : Below w.heap.size w wr
  row : ∃ C, wr.heap[w.heap.size]? = some (.cells C 104 (0, 0)) ∧ C.size = P.length * 4
  done : ∀ j p, j < k → P[j]? = some p → ∃ x, wr.rangeAt w.heap.size (j * 4) (polCells p x p.l.length) ∧ Txt wr (w.heap.size + 1) x p.l

theorem QMid.start (w : World) (P : List Pol) : QMid w P 0 (w.alloc (.cells (madePol P.length) 104)) :=
  ⟨(Below.refl _ _).alloc (Nat.le_refl _) _, ⟨madePol P.length, heap_alloc_new w _, madePol_size _⟩, fun _ _ hj => absurd hj (Nat.not_lt_zero _)⟩

theorem QMid.lt {w wr : World} {P : List Pol} {k : Nat} (h : QMid w P k wr) : w.heap.size < wr.heap.size := by
  obtain ⟨C, h1, _⟩ := h.row
  by_cases hb : w.heap.size < wr.heap.size
  · exact hb
  · have : wr.heap[w.heap.size]? = none := by simp; omega
    rw [this] at h1
    cases h1

theorem QMid.row2 {w wr w2 : World} {P : List Pol} {k : Nat} (h : QMid w P k wr) (hb : Below wr.heap.size wr w2) : ∃ C, w2.heap[w.heap.size]? = some (.cells C 104 (0, 0)) ∧ C.size = P.length * 4 := by
  obtain ⟨C, h1, h2⟩ := h.row
  exact ⟨C, (hb.block _ h.lt).trans h1, h2⟩

theorem QMid.there {w wr w2 : World} {P : List Pol} {k : Nat} (h : QMid w P k wr) (hb : Below wr.heap.size wr w2) (hk : k < P.length) : w2.there w.heap.size (k * 4) 4 := by
  obtain ⟨C, h1, h2⟩ := h.row2 hb
  intro j hj
  exact ⟨by rw [cell_of_row h1 (by omega)]; rfl, frozen_of_row h1⟩

theorem Txt.cells {w w' : World} {L : Nat} {a : Option Addr} {l : List ByteArray} (h : Txt w L a l) (hc : ∀ b o, L ≤ b → b < w.heap.size → w'.cell? ⟨b, o, none⟩ = w.cell? ⟨b, o, none⟩) : Txt w' L a l := fun k t hk => by
  obtain ⟨b, o, h1, h2, h3⟩ := h k t hk
  exact ⟨b, o, h1, h2, by rw [hc b _ h2 (lt_of_cell h3)]; exact h3⟩

theorem QMid.step {w wr w2 : World} {P : List Pol} {k : Nat} {p : Pol} {x : Option Addr} (h : QMid w P k wr) (hb : Below wr.heap.size wr w2) (hk : P[k]? = some p) (hl : Txt w2 wr.heap.size x p.l) :
    QMid w P (k + 1) (w2.setCells w.heap.size (k * 4) (polCells p x p.l.length)) := by
  have hlt := h.lt
  have hkl : k < P.length := (List.getElem?_eq_some_iff.1 hk).1
  have hth := h.there hb hkl
  have out : ∀ b o, w.heap.size + 1 ≤ b → (w2.setCells w.heap.size (k * 4) (polCells p x p.l.length)).cell? ⟨b, o, none⟩ = w2.cell? ⟨b, o, none⟩ := fun b o hbb =>
    World.cell?_setCells_out _ _ _ _ _ (fun e => by simp only at e; omega)
  obtain ⟨C, h1, h2⟩ := h.row2 hb
  obtain ⟨C', g1, g2⟩ := setCells_row (polCells p x p.l.length) (k * 4) w2 C h1
  refine ⟨?_, ⟨C', g1, g2.trans h2⟩, fun j t hj ht => ?_⟩
  · refine (h.below.trans (hb.mono (by omega))).trans ?_
    have : ∀ (vs : List Value) (o : Nat) (v : World), Below w.heap.size v (v.setCells w.heap.size o vs) := by
      intro vs
      induction vs with
      | nil => exact fun o v => Below.refl _ _
      | cons x r ih => exact fun o v => ((Below.refl _ v).setCell (p := ⟨w.heap.size, o, none⟩) (Nat.le_refl _) x).trans (ih (o + 1) _)
    exact this _ _ _
  · rcases Nat.lt_succ_iff_lt_or_eq.1 hj with hjk | rfl
    · obtain ⟨y, r1, r2⟩ := h.done j t hjk ht
      have r3 : w2.rangeAt w.heap.size (j * 4) (polCells t y t.l.length) := rangeAt_below r1 hb
      exact ⟨y, World.rangeAt_setCells_apart r3 _ _ _ (Or.inr (Or.inl (by simp [polCells]; omega))), (r2.on hb).cells fun b o hb1 _ => out b o hb1⟩
    · rw [hk] at ht
      cases ht
      exact ⟨x, World.rangeAt_setCells_same _ _ _ _ hth, (hl.low (by omega)).cells fun b o hb1 _ => out b o hb1⟩

theorem QMid.pols {w wr : World} {P : List Pol} (h : QMid w P P.length wr) : Pols wr w.heap.size (some ⟨w.heap.size, 0, none⟩) P := fun k p hk => by
  have hkl : k < P.length := (List.getElem?_eq_some_iff.1 hk).1
  obtain ⟨x, h1, h2⟩ := h.done k p hkl hk
  exact ⟨w.heap.size, 0, x, _, rfl, Nat.le_refl _, by rw [Nat.zero_add]; exact h1, h2.low (by omega)⟩

set_option maxRecDepth 100000 in
set_option maxHeartbeats 1000000 in
theorem toQ (P : List Pol) (a : Option Addr) (cap : Nat) (w : World) (hl : Pols w 0 a P) (hsz : P.length ≤ 2097152) (hz : ∀ p ∈ P, p.l.length ≤ 2097152) :
    Calls Tryz.prog 21 #[.slice a P.length cap] w fun e w' => e = .returned (.slice (some ⟨w.heap.size, 0, none⟩) P.length P.length) ∧ Pols w' w.heap.size (some ⟨w.heap.size, 0, none⟩) P ∧ Below w.heap.size w w' := by
  have hmk := make_pol P.length hsz
  have HM := hide (QMid.start w P)
  have HZ := hide hz
  have HT := hide hl
  clear hl hz
  generalize hlen : P.length = len at hmk hsz HM ⊢
  have HL : Hid (P.length = len) := hlen
  clear hlen
  go_enter Tryz.func21, Tryz.ntmps21
  go_wp2_with fail
  go_loopw [4] (fun i wr => ∃ k : Nat, k ≤ len ∧ i = .int .i64 k ∧ QMid w P k wr) (fun i _ => len - (intOf i).toNat)
  case atStart => exact ⟨0, Nat.zero_le _, rfl, HM.out⟩
  case round =>
    obtain ⟨k, hkl, rfl, hM⟩ := hrel
    by_cases hlt : k < len
    · have hlt' : k < P.length := by have := HL.out; omega
      obtain ⟨p, hkp⟩ : ∃ p, P[k]? = some p := ⟨_, List.getElem?_eq_getElem hlt'⟩
      obtain ⟨b, o, x, xc, rfl, -, -, c0, c1, c2, c3, hT⟩ := ((unhide HT).on hM.below).elem hkp
      have hTx := hide hT
      have HC := hide (fun v hv => toP p.l p.d p.m x xc p.u v hv (unhide HZ p (List.mem_of_getElem? hkp)))
      have HS : Hid (∀ w2 y, Below wr.heap.size wr w2 → Txt w2 wr.heap.size y p.l → QMid w P (k + 1) (w2.setCells w.heap.size (k * 4) (polCells p y p.l.length))) := fun w2 y hb hy => hM.step hb hkp hy
      have HH : Hid (∀ w2, Below wr.heap.size wr w2 → w2.there w.heap.size (k * 4) 4) := fun w2 hb => hM.there hb hlt'
      have q2 : (k : Int) < (len : Int) := by omega
      have q3 : (0 : Int) ≤ (k : Int) := by omega
      have w2 : wrap64 ((k : Int) + 1) = ((k + 1 : Nat) : Int) := by unfold wrap64; omega
      clear hM hkp hT
      go_wp2_with fail
      refine (unhide HC _ (unhide hTx)).mono ?_
      rintro e w2 ⟨a2, rfl, hL2, hb2⟩
      have hth := unhide HH _ hb2
      obtain ⟨d0, f0⟩ := hth 0 (by omega)
      obtain ⟨d1, f1⟩ := hth 1 (by omega)
      obtain ⟨d2, f2⟩ := hth 2 (by omega)
      obtain ⟨d3, f3⟩ := hth 3 (by omega)
      obtain ⟨u0, d0⟩ := Option.isSome_iff_exists.1 d0
      obtain ⟨u1, d1⟩ := Option.isSome_iff_exists.1 d1
      obtain ⟨u2, d2⟩ := Option.isSome_iff_exists.1 d2
      obtain ⟨u3, d3⟩ := Option.isSome_iff_exists.1 d3
      rw [Nat.add_zero] at d0 f0
      have HM2 := hide (unhide HS w2 a2 hb2 hL2)
      clear hL2 hth hb2
      go_wp2_with fail
      go_roundw
      case rel => exact ⟨k + 1, by omega, rfl, HM2.out⟩
      case measure => simp [intOf]; omega
    · have c2 : ¬ (k : Int) < (len : Int) := by omega
      go_wp2_with fail
      go_ret
      have hkk : k = P.length := by have := HL.out; omega
      subst hkk
      exact ⟨rfl, hM.pols, hM.below⟩

theorem below_drewQ {w v : World} (h : Below w.drew.heap.size w.drew v) : Below w.heap.size w v := ((Below.refl _ _).drew).trans h

set_option maxRecDepth 100000 in
set_option maxHeartbeats 1000000 in
theorem eqQ (P : List Pol) (a a' : Option Addr) (c c' : Nat) (w : World) (hl : P.length ≤ 2097153) (hz : ∀ p ∈ P, p.l.length ≤ 2097152) (h : Pols w 0 a P) (h' : Pols w 0 a' P) :
    Calls Tryz.prog 30 #[.slice a P.length c, .slice a' P.length c'] w fun e w' => e = .returned (.bool true) ∧ Below w.heap.size w w' := by
  have H := hide h
  have H' := hide h'
  have HZ := hide hz
  clear h h' hz
  generalize hlen : P.length = len at *
  have HL : Hid (P.length = len) := hlen
  clear hlen
  have hne : ((len : Int) != (len : Int)) = false := by simp
  go_enter Tryz.func30, Tryz.ntmps30
  go_wp2_with fail
  go_loopw [5] (fun n wr => ∃ k : Nat, n = .int .i64 k ∧ Below w.heap.size w wr ∧ k ≤ len) (fun n _ => len - (intOf n).toNat)
  case atStart => exact ⟨0, rfl, Below.refl _ _, by omega⟩
  case round =>
    obtain ⟨k, rfl, hb, hk⟩ := hrel
    have HB := hide hb
    by_cases hp : k < len
    · have hp' : k < P.length := by have := HL.out; omega
      obtain ⟨p, hkp⟩ : ∃ p, P[k]? = some p := ⟨_, List.getElem?_eq_getElem hp'⟩
      obtain ⟨b, o, x, xc, rfl, -, -, c0, c1, c2, c3, hT⟩ := ((unhide H).on hb).elem hkp
      obtain ⟨b', o', x', xc', rfl, -, -, d0, d1, d2, d3, hT'⟩ := ((unhide H').on hb).elem hkp
      have HT := hide (hT.on (Below.refl _ _).drew)
      have HT' := hide (hT'.on (Below.refl _ _).drew)
      have hct := hide (fun v hv hv' => eqP p.l p.d p.m x x' xc xc' p.u v hv hv' (unhide HZ p (List.mem_of_getElem? hkp)))
      have q2 : (k : Int) < (len : Int) := by omega
      have q3 : (0 : Int) ≤ (k : Int) := by omega
      have w1 : wrap64 ((k : Int) + 1) = ((k + 1 : Nat) : Int) := by unfold wrap64; omega
      clear hb hkp hT hT'
      go_wp2_with fail
      go_region_with (go_at_call 65; refine (unhide hct _ (unhide HT) (unhide HT')).mono ?_; rintro e w2 ⟨rfl, hb2⟩; have HB2 := hide (btP (unhide HB) (below_drewQ hb2)); clear hb2)
      all_goals
        go_wp2_with fail
        go_roundw
        case rel => exact ⟨k + 1, rfl, unhide HB2, by omega⟩
        case measure => simp only [intOf]; omega
    · have c2 : ¬ (k : Int) < (len : Int) := by omega
      clear hb
      go_wp2_with fail
      go_ret
      exact ⟨rfl, unhide HB⟩

end Go.Proofs.YtbbidjckplpaiaaGreatDoor
