
/- The walks of spec.l2Pub and spec.l2Made: whether a right term can be put together of some; nothing that was there is written. -/
import Derived.Test.YteminklafghgpaaGreatDoorHm
import Derived.Test.YteminklafghgpaaGreatDoorRl
import Derived.Test.YteminklafghgpaaGreatDoorOx
import Derived.Deep.DeepCutAuto
namespace Go.Proofs.YteminklafghgpaaGreatDoor
open Go.RowKit Go.Deep

/-- The open half of a term. -/
def pubT (t : Tm) : Tm := .node 4 0 ByteArray.empty [t]
mutual
/-- Whether a term can be put together of some. -/
def mkB (ps : List Tm) : Tm → Bool
  | .node op n s ks => (decide (op = 2) || hasB ps (.node op n s ks)) || (decide (op ≠ 1) && (if op = 5 then mkS ps ks else mkL ps ks))
def mkL (ps : List Tm) : List Tm → Bool
  | [] => true
  | t :: r => mkB ps t && mkL ps r
def mkS (ps : List Tm) : List Tm → Bool
  | [x, y] => (mkB ps x && (hasB ps (pubT y) || mkB ps y)) || (mkB ps y && (hasB ps (pubT x) || mkB ps x))
  | _ => false
end

theorem mkB_pub (ps : List Tm) (t : Tm) : mkB ps (pubT t) = (hasB ps (pubT t) || mkB ps t) := by
  simp [pubT, mkB, mkL]
theorem mkS_pub (ps : List Tm) (x y : Tm) : mkS ps [x, y] = ((mkB ps x && mkB ps (pubT y)) || (mkB ps y && mkB ps (pubT x))) := by
  rw [mkB_pub, mkB_pub]
  simp only [mkS]

theorem rightL_mem' {x : Tm} : ∀ {ks : List Tm}, rightL ks = true → x ∈ ks → rightT x = true
  | [], _, h => by cases h
  | t :: r, h, hx => by
    simp only [rightL, Bool.and_eq_true] at h
    rcases List.mem_cons.1 hx with rfl | hx
    · exact h.1
    · exact rightL_mem' h.2 hx

theorem abC {w : World} (x : Obj) : Below w.heap.size w (w.alloc x) := (Below.refl _ _).alloc (Nat.le_refl _) _
theorem btC {B : Nat} {w v v' : World} (h : Below B w v) (hb : Below v.heap.size v v') (hB : B ≤ w.heap.size) : Below B w v' := h.trans (hb.mono (Nat.le_trans hB h.size))

theorem pub_lies {X : World} {t : Tm} {op n : Int} {s : ByteArray} {a : Option Addr} {len cap : Nat} (hl : Lies X 0 t (tmCells op n s a len cap)) : Lies (X.alloc (.cells #[.int .i64 op, .int .i64 n, .string s, .slice a len cap] 35)) 0 (pubT t) (tmCells 4 0 ByteArray.empty (some ⟨X.heap.size, 0, none⟩) 1 1) := by
  simp only [pubT, Lies, LiesAll]
  refine ⟨_, _, rfl, ⟨by simp [maxLen], by simp, by simp [maxLen]⟩, ⟨by decide, by decide⟩, ⟨X.heap.size, 0, _, rfl, Nat.zero_le _, fun j v hj => ?_, hl.below (abC _)⟩, trivial⟩
  rw [Nat.zero_mul, Nat.zero_add]
  exact box_cell X _ 35 j v (by simpa [tmCells] using hj)

set_option maxRecDepth 100000 in
set_option maxHeartbeats 1000000 in
theorem l2pub (t : Tm) (op n : Int) (s : ByteArray) (a : Option Addr) (len cap : Nat) (w : World) (hl : Lies w 0 t (tmCells op n s a len cap)) :
    Calls Tryz.prog 31 #[.agg #[.int .i64 op, .int .i64 n, .string s, .slice a len cap]] w fun e w' => ∃ b, e = .returned (.agg #[.int .i64 4, .int .i64 0, .string ByteArray.empty, .slice (some ⟨b, 0, none⟩) 1 1]) ∧ Lies w' 0 (pubT t) (tmCells 4 0 ByteArray.empty (some ⟨b, 0, none⟩) 1 1) ∧ Below w.heap.size w w' := by
  have HL := hide hl
  clear hl
  go_enter Tryz.func31, Tryz.ntmps31
  go_wp2_with fail
  have hb2 : Below w.heap.size w ((w.alloc (.cells #[.int .i64 op, .int .i64 n, .string s, .slice a len cap] 35)).alloc (.cells #[.int .i64 4, .int .i64 0, .string ByteArray.empty, .slice (some ⟨w.heap.size + 1 + 1, 0, none⟩) 1 1] 35)) := btC (abC _) (abC _) (Nat.le_refl _)
  have hp := pub_lies (X := (w.alloc (.cells #[.int .i64 op, .int .i64 n, .string s, .slice a len cap] 35)).alloc (.cells #[.int .i64 4, .int .i64 0, .string ByteArray.empty, .slice (some ⟨w.heap.size + 1 + 1, 0, none⟩) 1 1] 35)) ((unhide HL).below hb2)
  simp only [heap_size_alloc] at hp
  refine bodyPost_ret (v := .agg #[.int .i64 4, .int .i64 0, .string ByteArray.empty, .slice (some ⟨w.heap.size + 1 + 1, 0, none⟩) 1 1]) (by simp [results, Tryz.results31, go_sem]; rfl) rfl ⟨w.heap.size + 1 + 1, rfl, hp, btC hb2 (abC _) (Nat.le_refl _)⟩

/-- spec.l2Made at a right term. -/
def MdOk (ps : List Tm) (t : Tm) : Prop := ∀ (pa : Option Addr) (pcap : Nat) (op n : Int) (s : ByteArray) (a : Option Addr) (len cap : Nat) (w : World), LiesAll w 0 pa 0 ps → Lies w 0 t (tmCells op n s a len cap) →
  Calls Tryz.prog 19 #[.slice pa ps.length pcap, .agg #[.int .i64 op, .int .i64 n, .string s, .slice a len cap]] w fun e w' => e = .returned (.bool (mkB ps t)) ∧ Below w.heap.size w w'

set_option maxRecDepth 100000 in
set_option maxHeartbeats 2000000 in
theorem md_text (ps : List Tm) (n1 : Int) (s1 : ByteArray) (ks : List Tm) : MdOk ps (.node 2 n1 s1 ks) := by
  intro pa pcap op n s a len cap w hps hl
  have he := hl
  simp only [Lies, tmCells, List.cons.injEq, Value.int.injEq, Value.string.injEq, Value.slice.injEq, true_and, and_true] at he
  obtain ⟨a9, c9, ⟨rfl, rfl, rfl, rfl, rfl, rfl⟩, _⟩ := he
  have hm : mkB ps (.node 2 n s ks) = true := by simp [mkB]
  rw [hm]
  clear hm hl hps
  go_enter Tryz.func19, Tryz.ntmps19
  go_wp2_with fail
  go_ret
  exact ⟨rfl, abC _⟩

set_option maxRecDepth 100000 in
set_option maxHeartbeats 2000000 in
theorem md_has (ps : List Tm) (t : Tm) (hlen : ps.length ≤ 2097152) (h2 : hasB ps t = true) (hop : ∀ n s ks, t ≠ .node 2 n s ks) : MdOk ps t := by
  intro pa pcap op n s a len cap w hps hl
  have hx := hide (has_calls ps t pa pcap op n s a len cap)
  rw [h2] at hx
  obtain ⟨o1, n1, s1, ks⟩ := t
  have he := hl
  simp only [Lies, tmCells, List.cons.injEq, Value.int.injEq, Value.string.injEq, Value.slice.injEq, true_and, and_true] at he
  obtain ⟨a9, c9, ⟨rfl, rfl, rfl, rfl, rfl, rfl⟩, _⟩ := he
  have hm : mkB ps (.node op n s ks) = true := by simp [mkB, h2]
  have q2 : (op == 2) = false := by
    simp only [beq_eq_false_iff_ne, ne_eq]
    rintro rfl
    exact hop n s ks rfl
  rw [hm]
  have HL := hide (hl.below (abC (.cells #[.int .i64 op, .int .i64 n, .string s, .slice a ks.length cap] 35)))
  have HP := hide (hps.below (abC (.cells #[.int .i64 op, .int .i64 n, .string s, .slice a ks.length cap] 35)))
  clear hm hl hps h2 hop
  go_enter Tryz.func19, Tryz.ntmps19
  go_wp2_with fail
  refine (unhide hx _ (unhide HP) (unhide HL) hlen).mono ?_
  rintro e w2 ⟨rfl, hb2⟩
  go_wp2_with fail
  go_ret
  exact ⟨rfl, btC (abC _) hb2 (Nat.le_refl _)⟩

set_option maxRecDepth 100000 in
set_option maxHeartbeats 2000000 in
theorem md_atom (ps : List Tm) (n1 : Int) (s1 : ByteArray) (ks : List Tm) (hlen : ps.length ≤ 2097152) (h2 : hasB ps (.node 1 n1 s1 ks) = false) : MdOk ps (.node 1 n1 s1 ks) := by
  intro pa pcap op n s a len cap w hps hl
  have hx := hide (has_calls ps (.node 1 n1 s1 ks) pa pcap op n s a len cap)
  rw [h2] at hx
  have he := hl
  simp only [Lies, tmCells, List.cons.injEq, Value.int.injEq, Value.string.injEq, Value.slice.injEq, true_and, and_true] at he
  obtain ⟨a9, c9, ⟨rfl, rfl, rfl, rfl, rfl, rfl⟩, _⟩ := he
  have hm : mkB ps (.node 1 n s ks) = false := by simp [mkB, h2]
  rw [hm]
  have HL := hide (hl.below (abC (.cells #[.int .i64 1, .int .i64 n, .string s, .slice a ks.length cap] 35)))
  have HP := hide (hps.below (abC (.cells #[.int .i64 1, .int .i64 n, .string s, .slice a ks.length cap] 35)))
  have HBX : Hid (∀ j v, (#[.int .i64 1, .int .i64 n, .string s, .slice a ks.length cap] : Array Value)[j]? = some v → (w.alloc (.cells #[.int .i64 1, .int .i64 n, .string s, .slice a ks.length cap] 35)).cell? ⟨w.heap.size, j, none⟩ = some v) := fun j v hj => box_cell w _ 35 j v hj
  clear hm hl hps h2
  go_enter Tryz.func19, Tryz.ntmps19
  go_wp2_with fail
  refine (unhide hx _ (unhide HP) (unhide HL) hlen).mono ?_
  rintro e w2 ⟨rfl, hb2⟩
  have d0 := keepc hb2 (unhide HBX 0 _ rfl)
  go_wp2_with fail
  go_ret
  exact ⟨rfl, btC (abC _) hb2 (Nat.le_refl _)⟩


theorem mkL_drop {ps ks : List Tm} {k : Nat} (h : k < ks.length) : mkL ps (ks.drop k) = (mkB ps ks[k] && mkL ps (ks.drop (k + 1))) := by
  rw [← List.getElem_cons_drop h]
  simp only [mkL]

set_option maxRecDepth 100000 in
set_option maxHeartbeats 2000000 in
theorem md_kids (ps : List Tm) (op1 n1 : Int) (s1 : ByteArray) (ks : List Tm) (hlen : ps.length ≤ 2097152) (hkl : ks.length ≤ 2097152) (h2 : hasB ps (.node op1 n1 s1 ks) = false) (e1 : op1 ≠ 1) (e2 : op1 ≠ 2) (e5 : op1 ≠ 5) (hkids : ∀ x ∈ ks, MdOk ps x) : MdOk ps (.node op1 n1 s1 ks) := by
  intro pa pcap op n s a len cap w hps hl
  have hx := hide (has_calls ps (.node op1 n1 s1 ks) pa pcap op n s a len cap)
  rw [h2] at hx
  have he := hl
  simp only [Lies, tmCells, List.cons.injEq, Value.int.injEq, Value.string.injEq, Value.slice.injEq, true_and, and_true] at he
  obtain ⟨a9, c9, ⟨rfl, rfl, rfl, rfl, rfl, rfl⟩, _, _, hka⟩ := he
  have HM : Hid (mkB ps (.node op n s ks) = mkL ps ks) := by show _ = _; simp [mkB, h2, e1, e2, e5]
  generalize mkB ps (.node op n s ks) = R at *
  have q1 : (op == 1) = false := by simpa using e1
  have q2 : (op == 2) = false := by simpa using e2
  have q5 : (op == 5) = false := by simpa using e5
  have HL := hide (hl.below (abC (.cells #[.int .i64 op, .int .i64 n, .string s, .slice a ks.length cap] 35)))
  have HP := hide (hps.below (abC (.cells #[.int .i64 op, .int .i64 n, .string s, .slice a ks.length cap] 35)))
  have HKA := hide (hka.below (abC (.cells #[.int .i64 op, .int .i64 n, .string s, .slice a ks.length cap] 35)))
  have HBX : Hid (∀ j v, (#[.int .i64 op, .int .i64 n, .string s, .slice a ks.length cap] : Array Value)[j]? = some v → (w.alloc (.cells #[.int .i64 op, .int .i64 n, .string s, .slice a ks.length cap] 35)).cell? ⟨w.heap.size, j, none⟩ = some v) := fun j v hj => box_cell w _ 35 j v hj
  have HB0 : Hid (Below w.heap.size w (w.alloc (.cells #[.int .i64 op, .int .i64 n, .string s, .slice a ks.length cap] 35))) := abC _
  have HKD := hide hkids
  have hkl' : (ks.length : Int) ≤ 2097152 := by omega
  generalize hklen : ks.length = klen at *
  have HKL := hide hklen
  clear hl hps h2 hka hkids e1 e2 e5 hklen
  go_enter Tryz.func19, Tryz.ntmps19
  go_wp2_with fail
  refine (unhide hx _ (unhide HP) (unhide HL) hlen).mono ?_
  rintro e w2 ⟨rfl, hb2⟩
  have HP2 := hide ((unhide HP).below hb2)
  have HK2 := hide ((unhide HKA).below hb2)
  have HB2 := hide (btC (unhide HB0) hb2 (Nat.le_refl _))
  have d0 := keepc hb2 (unhide HBX 0 _ rfl)
  have d3 := keepc hb2 (unhide HBX 3 _ rfl)
  clear hb2 HP HKA HB0 HBX HL hx
  go_wp2_with fail
  have D3 := hide d3
  go_loopw [7] (fun i wr => ∃ k : Nat, k ≤ klen ∧ i = .int .i64 k ∧ mkL ps ks = mkL ps (ks.drop k) ∧ Below w2.heap.size w2 wr) (fun i _ => klen - (intOf i).toNat)
  case atStart => exact ⟨0, Nat.zero_le _, rfl, by simp, Below.refl _ _⟩
  case round =>
    obtain ⟨k, hkk, rfl, hmk, hb⟩ := hrel
    have HMK := hide hmk
    have HB := hide hb
    have f3 := keepc hb (unhide D3)
    clear hmk d0 d3
    by_cases hlt : k < klen
    · have hlt' : k < ks.length := by have := unhide HKL; omega
      obtain ⟨b, o, op4, n4, s4, a4, len4, cap4, rfl, _, hbs, c0, c1, c2, c3, hT⟩ := (unhide HK2).elem (k := k) hlt'
      have c0 := (hb.cell (p := ⟨b, o + k * 4, none⟩) hbs).trans c0
      have c1 := (hb.cell (p := ⟨b, o + k * 4 + 1, none⟩) hbs).trans c1
      have c2 := (hb.cell (p := ⟨b, o + k * 4 + 2, none⟩) hbs).trans c2
      have c3 := (hb.cell (p := ⟨b, o + k * 4 + 3, none⟩) hbs).trans c3
      have HT := hide (hT.below hb)
      have HPW := hide ((unhide HP2).below hb)
      have HC := hide (unhide HKD ks[k] (List.getElem_mem hlt'))
      have HST : Hid (mkL ps ks = (mkB ps ks[k] && mkL ps (ks.drop (k + 1)))) := by show _ = _; rw [unhide HMK, mkL_drop hlt']
      have HCK := hide (unhide HC pa pcap op4 n4 s4 a4 len4 cap4)
      generalize mkB ps ks[k] = mb at *
      clear hT hb
      go_wp2_with fail
      refine (unhide HCK _ (unhide HPW) (unhide HT)).mono ?_
      rintro e w3 ⟨rfl, hb3⟩
      have HB3 := hide ((unhide HB).trans (hb3.mono (unhide HB).size))
      clear hb3 c0 c1 c2 c3
      cases mb with
      | true =>
        go_wp2_with fail
        go_roundw
        case rel => exact ⟨k + 1, by omega, by go_num, by have := unhide HST; simpa using this, unhide HB3⟩
        case measure => simp [intOf]; omega
      | false =>
        go_wp2_with fail
        go_ret
        refine ⟨ret_bool ?_, (unhide HB2).trans ((unhide HB3).mono (unhide HB2).size)⟩
        have := unhide HST
        rw [unhide HM, this]
        rfl
    · go_wp2_with fail
      go_ret
      refine ⟨ret_bool ?_, (unhide HB2).trans ((unhide HB).mono (unhide HB2).size)⟩
      rw [unhide HM, unhide HMK, List.drop_of_length_le (by have := unhide HKL; omega)]
      rfl


/-- Two boxes, with a term each. -/
def ShCut (w2 : World) (o1 n1 : Int) (s1 : ByteArray) (a1 : Option Addr) (l1 c1 : Nat) (o2 n2 : Int) (s2 : ByteArray) (a2 : Option Addr) (l2 c2 : Nat) (p q : Value) (wx : World) : Prop := ∃ b6 b7, p = .pointer (some ⟨b6, 0, none⟩) ∧ q = .pointer (some ⟨b7, 0, none⟩) ∧ wx.heap[b6]? = some (.cells #[.int .i64 o1, .int .i64 n1, .string s1, .slice a1 l1 c1] 35 (0, 0)) ∧ wx.heap[b7]? = some (.cells #[.int .i64 o2, .int .i64 n2, .string s2, .slice a2 l2 c2] 35 (0, 0)) ∧ Below w2.heap.size w2 wx
theorem ShCut.one (w2 : World) (o1 n1 : Int) (s1 : ByteArray) (a1 : Option Addr) (l1 c1 : Nat) (o2 n2 : Int) (s2 : ByteArray) (a2 : Option Addr) (l2 c2 : Nat) : ShCut w2 o1 n1 s1 a1 l1 c1 o2 n2 s2 a2 l2 c2 (.pointer (some ⟨w2.heap.size, 0, none⟩)) (.pointer (some ⟨w2.heap.size + 1, 0, none⟩)) ((w2.alloc (.cells #[.int .i64 o1, .int .i64 n1, .string s1, .slice a1 l1 c1] 35)).alloc (.cells #[.int .i64 o2, .int .i64 n2, .string s2, .slice a2 l2 c2] 35)).drew := by
  have h2 := heap_alloc_new (w2.alloc (.cells #[.int .i64 o1, .int .i64 n1, .string s1, .slice a1 l1 c1] 35)) (.cells #[.int .i64 o2, .int .i64 n2, .string s2, .slice a2 l2 c2] 35)
  rw [heap_size_alloc] at h2
  have h1 := ((abC (w := w2.alloc (.cells #[.int .i64 o1, .int .i64 n1, .string s1, .slice a1 l1 c1] 35)) (.cells #[.int .i64 o2, .int .i64 n2, .string s2, .slice a2 l2 c2] 35)).block w2.heap.size (by simp)).trans (heap_alloc_new w2 (.cells #[.int .i64 o1, .int .i64 n1, .string s1, .slice a1 l1 c1] 35))
  have hb := btC (abC (w := w2) (.cells #[.int .i64 o1, .int .i64 n1, .string s1, .slice a1 l1 c1] 35)) (abC (.cells #[.int .i64 o2, .int .i64 n2, .string s2, .slice a2 l2 c2] 35)) (Nat.le_refl _)
  exact ⟨_, _, rfl, rfl, h1, h2, hb.drew⟩
theorem ShCut.two (w2 : World) (o1 n1 : Int) (s1 : ByteArray) (a1 : Option Addr) (l1 c1 : Nat) (o2 n2 : Int) (s2 : ByteArray) (a2 : Option Addr) (l2 c2 : Nat) : ShCut w2 o1 n1 s1 a1 l1 c1 o2 n2 s2 a2 l2 c2 (.pointer (some ⟨w2.heap.size + 1, 0, none⟩)) (.pointer (some ⟨w2.heap.size, 0, none⟩)) ((w2.alloc (.cells #[.int .i64 o2, .int .i64 n2, .string s2, .slice a2 l2 c2] 35)).alloc (.cells #[.int .i64 o1, .int .i64 n1, .string s1, .slice a1 l1 c1] 35)).drew := by
  have h2 := heap_alloc_new (w2.alloc (.cells #[.int .i64 o2, .int .i64 n2, .string s2, .slice a2 l2 c2] 35)) (.cells #[.int .i64 o1, .int .i64 n1, .string s1, .slice a1 l1 c1] 35)
  rw [heap_size_alloc] at h2
  have h1 := ((abC (w := w2.alloc (.cells #[.int .i64 o2, .int .i64 n2, .string s2, .slice a2 l2 c2] 35)) (.cells #[.int .i64 o1, .int .i64 n1, .string s1, .slice a1 l1 c1] 35)).block w2.heap.size (by simp)).trans (heap_alloc_new w2 (.cells #[.int .i64 o2, .int .i64 n2, .string s2, .slice a2 l2 c2] 35))
  have hb := btC (abC (w := w2) (.cells #[.int .i64 o2, .int .i64 n2, .string s2, .slice a2 l2 c2] 35)) (abC (.cells #[.int .i64 o1, .int .i64 n1, .string s1, .slice a1 l1 c1] 35)) (Nat.le_refl _)
  exact ⟨_, _, rfl, rfl, h2, h1, hb.drew⟩

set_option maxRecDepth 100000 in
set_option maxHeartbeats 4000000 in
theorem md_share (ps : List Tm) (n9 : Int) (s9 : ByteArray) (x y : Tm) (hlen : ps.length ≤ 2097152) (h2 : hasB ps (.node 5 n9 s9 [x, y]) = false) (hx1 : MdOk ps x) (hy1 : MdOk ps y) (hx2 : MdOk ps (pubT x)) (hy2 : MdOk ps (pubT y)) : MdOk ps (.node 5 n9 s9 [x, y]) := by
  intro pa pcap op n s a len cap w hps hl
  have hh := hide (has_calls ps (.node 5 n9 s9 [x, y]) pa pcap op n s a len cap)
  rw [h2] at hh
  have he := hl
  simp only [Lies, tmCells, List.cons.injEq, Value.int.injEq, Value.string.injEq, Value.slice.injEq, true_and, and_true] at he
  obtain ⟨a9, c9, ⟨rfl, rfl, rfl, rfl, rfl, rfl⟩, _, _, hka⟩ := he
  have HM : Hid (mkB ps (.node 5 n s [x, y]) = ((mkB ps x && mkB ps (pubT y)) || (mkB ps y && mkB ps (pubT x)))) := by show _ = _; rw [← mkS_pub]; simp [mkB, h2]
  generalize mkB ps (.node 5 n s [x, y]) = R at *
  obtain ⟨b, o, o1, n1, s1, a1, l1, c1, rfl, _, hbs, c0, c1', c2, c3, hX⟩ := hka.elem (k := 0) (by simp)
  obtain ⟨b', o', o2, n2, s2, a2, l2, c2', he2, _, hbs', d0, d1, d2, d3, hY⟩ := hka.elem (k := 1) (by simp)
  cases he2
  simp only [Nat.zero_mul, Nat.add_zero, Nat.one_mul, List.getElem_cons_zero, List.getElem_cons_succ, List.length_cons, List.length_nil] at c0 c1' c2 c3 d0 d1 d2 d3 hX hY hh hl ⊢
  have HL := hide (hl.below (abC (.cells #[.int .i64 5, .int .i64 n, .string s, .slice (some ⟨b, o, none⟩) 2 cap] 35)))
  have HP := hide (hps.below (abC (.cells #[.int .i64 5, .int .i64 n, .string s, .slice (some ⟨b, o, none⟩) 2 cap] 35)))
  have HX := hide (hX.below (abC (.cells #[.int .i64 5, .int .i64 n, .string s, .slice (some ⟨b, o, none⟩) 2 cap] 35)))
  have HY := hide (hY.below (abC (.cells #[.int .i64 5, .int .i64 n, .string s, .slice (some ⟨b, o, none⟩) 2 cap] 35)))
  have HC := hide (And.intro (keepc (abC (.cells #[.int .i64 5, .int .i64 n, .string s, .slice (some ⟨b, o, none⟩) 2 cap] 35)) c0) (And.intro (keepc (abC (.cells #[.int .i64 5, .int .i64 n, .string s, .slice (some ⟨b, o, none⟩) 2 cap] 35)) c1') (And.intro (keepc (abC (.cells #[.int .i64 5, .int .i64 n, .string s, .slice (some ⟨b, o, none⟩) 2 cap] 35)) c2) (keepc (abC (.cells #[.int .i64 5, .int .i64 n, .string s, .slice (some ⟨b, o, none⟩) 2 cap] 35)) c3))))
  have HD := hide (And.intro (keepc (abC (.cells #[.int .i64 5, .int .i64 n, .string s, .slice (some ⟨b, o, none⟩) 2 cap] 35)) d0) (And.intro (keepc (abC (.cells #[.int .i64 5, .int .i64 n, .string s, .slice (some ⟨b, o, none⟩) 2 cap] 35)) d1) (And.intro (keepc (abC (.cells #[.int .i64 5, .int .i64 n, .string s, .slice (some ⟨b, o, none⟩) 2 cap] 35)) d2) (keepc (abC (.cells #[.int .i64 5, .int .i64 n, .string s, .slice (some ⟨b, o, none⟩) 2 cap] 35)) d3))))
  have HBX : Hid (∀ j v, (#[.int .i64 5, .int .i64 n, .string s, .slice (some ⟨b, o, none⟩) 2 cap] : Array Value)[j]? = some v → (w.alloc (.cells #[.int .i64 5, .int .i64 n, .string s, .slice (some ⟨b, o, none⟩) 2 cap] 35)).cell? ⟨w.heap.size, j, none⟩ = some v) := fun j v hj => box_cell w _ 35 j v hj
  have HB0 : Hid (Below w.heap.size w (w.alloc (.cells #[.int .i64 5, .int .i64 n, .string s, .slice (some ⟨b, o, none⟩) 2 cap] 35))) := abC _
  have H1 := hide (hx1 pa pcap o1 n1 s1 a1 l1 c1)
  have H2 := hide (hy1 pa pcap o2 n2 s2 a2 l2 c2')
  have H3 : Hid (∀ g, _) := fun g => hx2 pa pcap 4 0 ByteArray.empty (some ⟨g, 0, none⟩) 1 1
  have H4 : Hid (∀ g, _) := fun g => hy2 pa pcap 4 0 ByteArray.empty (some ⟨g, 0, none⟩) 1 1
  have HP1 := hide (l2pub x o1 n1 s1 a1 l1 c1)
  have HP2 := hide (l2pub y o2 n2 s2 a2 l2 c2')
  generalize mkB ps x = mx at *
  generalize mkB ps y = my at *
  generalize mkB ps (pubT x) = px at *
  generalize mkB ps (pubT y) = py at *
  clear hl hps h2 hka hX hY c0 c1' c2 c3 d0 d1 d2 d3 hx1 hy1 hx2 hy2 hbs hbs'
  go_enter Tryz.func19, Tryz.ntmps19
  go_wp2_with fail
  refine (unhide hh _ (unhide HP) (unhide HL) hlen).mono ?_
  rintro e w2 ⟨rfl, hb2⟩
  have HP := hide ((unhide HP).below hb2)
  have HX := hide ((unhide HX).below hb2)
  have HY := hide ((unhide HY).below hb2)
  have HB2 := hide (btC (unhide HB0) hb2 (Nat.le_refl _))
  have t0 := keepc hb2 (unhide HBX 0 _ rfl)
  have t3 := keepc hb2 (unhide HBX 3 _ rfl)
  have e0 := keepc hb2 (unhide HC).1
  have e1 := keepc hb2 (unhide HC).2.1
  have e2 := keepc hb2 (unhide HC).2.2.1
  have e3 := keepc hb2 (unhide HC).2.2.2
  have f0 := keepc hb2 (unhide HD).1
  have f1 := keepc hb2 (unhide HD).2.1
  have f2 := keepc hb2 (unhide HD).2.2.1
  have f3 := keepc hb2 (unhide HD).2.2.2
  have l0 := lt_of_cell t0
  have l2' := lt_of_cell e0
  have m0 := Nat.ne_of_lt l0
  have m1 := Ne.symm m0
  have m2 := Nat.ne_of_lt l2'
  have m3 := Ne.symm m2
  clear hb2 HB0 HBX HL hh HC HD
  go_wp2_with fail
  go_cut [5, 6] (fun p q wx => ShCut w2 o1 n1 s1 a1 l1 c1 o2 n2 s2 a2 l2 c2' p q wx)
  case first =>
    go_region
    · go_wp2_with fail
      go_meet
      exact ShCut.one w2 o1 n1 s1 a1 l1 c1 o2 n2 s2 a2 l2 c2'
    · go_wp2_with fail
      go_meet
      exact ShCut.two w2 o1 n1 s1 a1 l1 c1 o2 n2 s2 a2 l2 c2'
  case rest =>
    obtain ⟨b6, b7, rfl, rfl, hR6, hR7, hb3⟩ := hcut
    have HP := hide ((unhide HP).below hb3)
    have HX := hide ((unhide HX).below hb3)
    have HY := hide ((unhide HY).below hb3)
    have HB3 := hide (btC (unhide HB2) hb3 (Nat.le_refl _))
    have K6 : Hid (∀ v, Below wc.heap.size wc v → v.heap[b6]? = some (.cells #[.int .i64 o1, .int .i64 n1, .string s1, .slice a1 l1 c1] 35 (0, 0))) := fun v hv => (hv.block b6 (lt_of_heap hR6)).trans hR6
    have K7 : Hid (∀ v, Below wc.heap.size wc v → v.heap[b7]? = some (.cells #[.int .i64 o2, .int .i64 n2, .string s2, .slice a2 l2 c2'] 35 (0, 0))) := fun v hv => (hv.block b7 (lt_of_heap hR7)).trans hR7
    clear hb3 t0 t3 e0 e1 e2 e3 f0 f1 f2 f3 l0 l2' m0 m1 m2 m3 HB2
    have c0 := cell_of_row hR6 (j := 0) (by simp)
    have c1' := cell_of_row hR6 (j := 1) (by simp)
    have c2 := cell_of_row hR6 (j := 2) (by simp)
    have c3 := cell_of_row hR6 (j := 3) (by simp)
    simp only [List.getElem_toArray, List.getElem_cons_zero, List.getElem_cons_succ] at c0 c1' c2 c3
    clear hR6 hR7
    go_wp2_with fail
    refine (unhide H1 _ (unhide HP) (unhide HX)).mono ?_
    rintro e w4 ⟨rfl, hb4⟩
    have F4 := hide hb4
    clear hb4 c0 c1' c2 c3
    cases mx with
    | false =>
      have hrca := unhide K6 w4 (unhide F4)
      have ca0 := cell_of_row hrca (j := 0) (by simp)
      have ca1 := cell_of_row hrca (j := 1) (by simp)
      have ca2 := cell_of_row hrca (j := 2) (by simp)
      have ca3 := cell_of_row hrca (j := 3) (by simp)
      simp only [List.getElem_toArray, List.getElem_cons_zero, List.getElem_cons_succ] at ca0 ca1 ca2 ca3
      clear hrca
      have hrda := unhide K7 w4 (unhide F4)
      have da0 := cell_of_row hrda (j := 0) (by simp)
      have da1 := cell_of_row hrda (j := 1) (by simp)
      have da2 := cell_of_row hrda (j := 2) (by simp)
      have da3 := cell_of_row hrda (j := 3) (by simp)
      simp only [List.getElem_toArray, List.getElem_cons_zero, List.getElem_cons_succ] at da0 da1 da2 da3
      clear hrda
      go_wp2_with fail
      refine (unhide H2 _ ((unhide HP).below (unhide F4)) ((unhide HY).below (unhide F4))).mono ?_
      rintro e v5 ⟨rfl, hb5⟩
      have F5 := hide (btC (unhide F4) hb5 (Nat.le_refl _))
      clear hb5
      clear ca0 ca1 ca2 ca3 da0 da1 da2 da3
      cases my with
      | true =>
        have hrch := unhide K6 v5 (unhide F5)
        have ch0 := cell_of_row hrch (j := 0) (by simp)
        have ch1 := cell_of_row hrch (j := 1) (by simp)
        have ch2 := cell_of_row hrch (j := 2) (by simp)
        have ch3 := cell_of_row hrch (j := 3) (by simp)
        simp only [List.getElem_toArray, List.getElem_cons_zero, List.getElem_cons_succ] at ch0 ch1 ch2 ch3
        clear hrch
        have hrdh := unhide K7 v5 (unhide F5)
        have dh0 := cell_of_row hrdh (j := 0) (by simp)
        have dh1 := cell_of_row hrdh (j := 1) (by simp)
        have dh2 := cell_of_row hrdh (j := 2) (by simp)
        have dh3 := cell_of_row hrdh (j := 3) (by simp)
        simp only [List.getElem_toArray, List.getElem_cons_zero, List.getElem_cons_succ] at dh0 dh1 dh2 dh3
        clear hrdh
        go_wp2_with fail
        refine (unhide HP1 _ ((unhide HX).below (unhide F5))).mono ?_
        rintro e v6 ⟨g6, rfl, hLp6, hb6⟩
        have F6 := hide (btC (unhide F5) hb6 (Nat.le_refl _))
        have HLP6 := hide hLp6
        clear hb6 hLp6
        clear ch0 ch1 ch2 ch3 dh0 dh1 dh2 dh3
        go_wp2_with fail
        refine (unhide H3 g6 _ ((unhide HP).below (unhide F6)) (unhide HLP6)).mono ?_
        rintro e v7 ⟨rfl, hb7⟩
        have F7 := hide (btC (unhide F6) hb7 (Nat.le_refl _))
        clear hb7
        cases px with
        | true =>
          go_wp2_with fail
          go_ret
          exact ⟨ret_bool (by rw [unhide HM]; simp), (unhide HB3).trans ((unhide F7).mono (unhide HB3).size)⟩
        | false =>
          go_wp2_with fail
          go_ret
          exact ⟨ret_bool (by rw [unhide HM]; simp), (unhide HB3).trans ((unhide F7).mono (unhide HB3).size)⟩
      | false =>
        go_wp2_with fail
        go_ret
        exact ⟨ret_bool (by rw [unhide HM]; simp), (unhide HB3).trans ((unhide F5).mono (unhide HB3).size)⟩
    | true =>
      have hrca := unhide K6 w4 (unhide F4)
      have ca0 := cell_of_row hrca (j := 0) (by simp)
      have ca1 := cell_of_row hrca (j := 1) (by simp)
      have ca2 := cell_of_row hrca (j := 2) (by simp)
      have ca3 := cell_of_row hrca (j := 3) (by simp)
      simp only [List.getElem_toArray, List.getElem_cons_zero, List.getElem_cons_succ] at ca0 ca1 ca2 ca3
      clear hrca
      have hrda := unhide K7 w4 (unhide F4)
      have da0 := cell_of_row hrda (j := 0) (by simp)
      have da1 := cell_of_row hrda (j := 1) (by simp)
      have da2 := cell_of_row hrda (j := 2) (by simp)
      have da3 := cell_of_row hrda (j := 3) (by simp)
      simp only [List.getElem_toArray, List.getElem_cons_zero, List.getElem_cons_succ] at da0 da1 da2 da3
      clear hrda
      go_wp2_with fail
      refine (unhide HP2 _ ((unhide HY).below (unhide F4))).mono ?_
      rintro e v2 ⟨g2, rfl, hLp2, hb2⟩
      have F2 := hide (btC (unhide F4) hb2 (Nat.le_refl _))
      have HLP2 := hide hLp2
      clear hb2 hLp2
      clear ca0 ca1 ca2 ca3 da0 da1 da2 da3
      go_wp2_with fail
      refine (unhide H4 g2 _ ((unhide HP).below (unhide F2)) (unhide HLP2)).mono ?_
      rintro e v3 ⟨rfl, hb3⟩
      have F3 := hide (btC (unhide F2) hb3 (Nat.le_refl _))
      clear hb3
      cases py with
      | true =>
        go_wp2_with fail
        go_ret
        exact ⟨ret_bool (by rw [unhide HM]; simp), (unhide HB3).trans ((unhide F3).mono (unhide HB3).size)⟩
      | false =>
        have hrcb := unhide K6 v3 (unhide F3)
        have cb0 := cell_of_row hrcb (j := 0) (by simp)
        have cb1 := cell_of_row hrcb (j := 1) (by simp)
        have cb2 := cell_of_row hrcb (j := 2) (by simp)
        have cb3 := cell_of_row hrcb (j := 3) (by simp)
        simp only [List.getElem_toArray, List.getElem_cons_zero, List.getElem_cons_succ] at cb0 cb1 cb2 cb3
        clear hrcb
        have hrdb := unhide K7 v3 (unhide F3)
        have db0 := cell_of_row hrdb (j := 0) (by simp)
        have db1 := cell_of_row hrdb (j := 1) (by simp)
        have db2 := cell_of_row hrdb (j := 2) (by simp)
        have db3 := cell_of_row hrdb (j := 3) (by simp)
        simp only [List.getElem_toArray, List.getElem_cons_zero, List.getElem_cons_succ] at db0 db1 db2 db3
        clear hrdb
        go_wp2_with fail
        refine (unhide H2 _ ((unhide HP).below (unhide F3)) ((unhide HY).below (unhide F3))).mono ?_
        rintro e v5 ⟨rfl, hb5⟩
        have F5 := hide (btC (unhide F3) hb5 (Nat.le_refl _))
        clear hb5
        clear cb0 cb1 cb2 cb3 db0 db1 db2 db3
        cases my with
        | true =>
          have hrch := unhide K6 v5 (unhide F5)
          have ch0 := cell_of_row hrch (j := 0) (by simp)
          have ch1 := cell_of_row hrch (j := 1) (by simp)
          have ch2 := cell_of_row hrch (j := 2) (by simp)
          have ch3 := cell_of_row hrch (j := 3) (by simp)
          simp only [List.getElem_toArray, List.getElem_cons_zero, List.getElem_cons_succ] at ch0 ch1 ch2 ch3
          clear hrch
          have hrdh := unhide K7 v5 (unhide F5)
          have dh0 := cell_of_row hrdh (j := 0) (by simp)
          have dh1 := cell_of_row hrdh (j := 1) (by simp)
          have dh2 := cell_of_row hrdh (j := 2) (by simp)
          have dh3 := cell_of_row hrdh (j := 3) (by simp)
          simp only [List.getElem_toArray, List.getElem_cons_zero, List.getElem_cons_succ] at dh0 dh1 dh2 dh3
          clear hrdh
          go_wp2_with fail
          refine (unhide HP1 _ ((unhide HX).below (unhide F5))).mono ?_
          rintro e v6 ⟨g6, rfl, hLp6, hb6⟩
          have F6 := hide (btC (unhide F5) hb6 (Nat.le_refl _))
          have HLP6 := hide hLp6
          clear hb6 hLp6
          clear ch0 ch1 ch2 ch3 dh0 dh1 dh2 dh3
          go_wp2_with fail
          refine (unhide H3 g6 _ ((unhide HP).below (unhide F6)) (unhide HLP6)).mono ?_
          rintro e v7 ⟨rfl, hb7⟩
          have F7 := hide (btC (unhide F6) hb7 (Nat.le_refl _))
          clear hb7
          cases px with
          | true =>
            go_wp2_with fail
            go_ret
            exact ⟨ret_bool (by rw [unhide HM]; simp), (unhide HB3).trans ((unhide F7).mono (unhide HB3).size)⟩
          | false =>
            go_wp2_with fail
            go_ret
            exact ⟨ret_bool (by rw [unhide HM]; simp), (unhide HB3).trans ((unhide F7).mono (unhide HB3).size)⟩
        | false =>
          go_wp2_with fail
          go_ret
          exact ⟨ret_bool (by rw [unhide HM]; simp), (unhide HB3).trans ((unhide F5).mono (unhide HB3).size)⟩


theorem md_any (ps : List Tm) (hlen : ps.length ≤ 2097152) : ∀ (k : Nat) (t : Tm), t.size ≤ k → t.size ≤ 2097152 → rightT t = true → MdOk ps t
  | 0, t, h, _, _ => by have := t.size_pos; omega
  | k + 1, t, h, hz, hr => by
    obtain ⟨op, n, s, ks⟩ := t
    by_cases e2 : op = 2
    · subst e2
      exact md_text ps n s ks
    cases hh : hasB ps (.node op n s ks) with
    | true => exact md_has ps _ hlen hh fun n' s' ks' e => e2 (by cases e; rfl)
    | false =>
      by_cases e1 : op = 1
      · subst e1
        exact md_atom ps n s ks hlen hh
      have hr' := hr
      simp only [rightT, Bool.and_eq_true] at hr'
      have hkr : ∀ x ∈ ks, rightT x = true := fun x hx => rightL_mem' hr'.2 hx
      simp only [Tm.size] at h hz
      by_cases e5 : op = 5
      · subst e5
        have hk2 : ks.length = 2 := by
          have := headB_len hr'.1.1
          simp only [kidsOf] at this
          simp at this
          omega
        obtain ⟨x, y, rfl⟩ := two_of hk2
        simp only [Tm.sizes] at h hz
        have sx := x.size_pos
        have sy := y.size_pos
        have rp : ∀ z : Tm, rightT z = true → rightT (pubT z) = true := fun z hzr => by
          simp only [pubT, rightT, rightL, hzr, Bool.and_true, Bool.and_eq_true]
          exact ⟨show headB 4 0 ByteArray.empty 1 = true by decide, by simp [shareB]⟩
        have zp : ∀ z : Tm, (pubT z).size = 1 + z.size := fun z => by simp [pubT, Tm.size, Tm.sizes]
        exact md_share ps n s x y hlen hh (md_any ps hlen k x (by omega) (by omega) (hkr x (by simp))) (md_any ps hlen k y (by omega) (by omega) (hkr y (by simp)))
          (md_any ps hlen k _ (by rw [zp]; omega) (by rw [zp]; omega) (rp x (hkr x (by simp)))) (md_any ps hlen k _ (by rw [zp]; omega) (by rw [zp]; omega) (rp y (hkr y (by simp))))
      · exact md_kids ps op n s ks hlen (by have := Tm.length_le_sizes ks; omega) hh e1 e2 e5 fun x hx => md_any ps hlen k x (by have := Tm.size_mem hx; omega) (by have := Tm.size_mem hx; omega) (hkr x hx)

/-- spec.l2Made at whatever right term. -/
theorem md_calls (ps : List Tm) (t : Tm) (hlen : ps.length ≤ 2097152) (hz : t.size ≤ 2097152) (hr : rightT t = true) : MdOk ps t := md_any ps hlen t.size t (Nat.le_refl _) hz hr


/-- What spec.Made answers. -/
def madeB (ps : List Tm) (t : Tm) : Bool := okT t && mkB ps t

end Go.Proofs.YteminklafghgpaaGreatDoor
