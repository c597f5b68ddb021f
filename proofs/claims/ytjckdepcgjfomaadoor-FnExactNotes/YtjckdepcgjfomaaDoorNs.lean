/- The walk of spec.Notes: notes line by line, up to the first line that is none; nothing that was there is written. -/
import Derived.Test.YtjckdepcgjfomaaDoorWx
import Derived.Test.YtjckdepcgjfomaaDoorNl
import Derived.Test.YtjckdepcgjfomaaDoorNm
namespace Go.Proofs.YtjckdepcgjfomaaDoor
open Go.RowKit Go.Deep

def NoteR.nt (n : NoteR) : Nt := ⟨n.k, n.h, n.d, n.b, n.t⟩
/-- The notes of a text from a place on, the line that is under way having begun at the second number; and where what was read ends. -/
noncomputable def nts (s : ByteArray) : Nat → Nat → List Nt × Nat
  | 0, fr => ([], fr)
  | f + 1, fr => if byteAt s (s.size - (f + 1)) = 10 then (match noteO (s.extract fr (s.size - (f + 1) + 1)) with
    | some n => (n.nt :: (nts s f (s.size - (f + 1) + 1)).1, (nts s f (s.size - (f + 1) + 1)).2)
    | none => ([], fr)) else nts s f fr
noncomputable def ntsOf (s : ByteArray) : List Nt × Nat := nts s s.size 0
theorem nts_some {s : ByteArray} {i fr : Nat} {n : NoteR} (hi : i < s.size) (h : byteAt s i = 10) (hn : noteO (s.extract fr (i + 1)) = some n) : nts s (s.size - i) fr = (n.nt :: (nts s (s.size - (i + 1)) (i + 1)).1, (nts s (s.size - (i + 1)) (i + 1)).2) := by
  have e : s.size - i = (s.size - (i + 1)) + 1 := by omega
  have e2 : s.size - (s.size - (i + 1) + 1) = i := by omega
  rw [e, nts, e2, if_pos h, hn]
theorem nts_none {s : ByteArray} {i fr : Nat} (hi : i < s.size) (h : byteAt s i = 10) (hn : noteO (s.extract fr (i + 1)) = none) : nts s (s.size - i) fr = ([], fr) := by
  have e : s.size - i = (s.size - (i + 1)) + 1 := by omega
  have e2 : s.size - (s.size - (i + 1) + 1) = i := by omega
  rw [e, nts, e2, if_pos h, hn]
theorem nts_no {s : ByteArray} {i fr : Nat} (hi : i < s.size) (h : ¬ byteAt s i = 10) : nts s (s.size - i) fr = nts s (s.size - (i + 1)) fr := by
  have e : s.size - i = (s.size - (i + 1)) + 1 := by omega
  have e2 : s.size - (s.size - (i + 1) + 1) = i := by omega
  conv => lhs; rw [e, nts, e2, if_neg h]
/-- So far it was gone. -/
def GoneN (s : ByteArray) (k fr : Nat) (ls : List Nt) : Prop := ls ++ (nts s (s.size - k) fr).1 = (ntsOf s).1 ∧ (nts s (s.size - k) fr).2 = (ntsOf s).2
theorem GoneN.start (s : ByteArray) : GoneN s 0 0 [] := ⟨rfl, rfl⟩
theorem GoneN.step {s : ByteArray} {k fr : Nat} {ls : List Nt} {n : NoteR} (h : GoneN s k fr ls) (hk : k < s.size) (hb : byteAt s k = 10) (hn : noteO (s.extract fr (k + 1)) = some n) : GoneN s (k + 1) (k + 1) (ls ++ [n.nt]) := by
  obtain ⟨h1, h2⟩ := h
  rw [nts_some hk hb hn] at h1 h2
  exact ⟨by rw [← h1]; simp, h2⟩
theorem GoneN.stop {s : ByteArray} {k fr : Nat} {ls : List Nt} (h : GoneN s k fr ls) (hk : k < s.size) (hb : byteAt s k = 10) (hn : noteO (s.extract fr (k + 1)) = none) : ls = (ntsOf s).1 ∧ fr = (ntsOf s).2 := by
  obtain ⟨h1, h2⟩ := h
  rw [nts_none hk hb hn] at h1 h2
  exact ⟨by rw [← h1]; simp, h2⟩
theorem GoneN.next {s : ByteArray} {k fr : Nat} {ls : List Nt} (h : GoneN s k fr ls) (hk : k < s.size) (hb : ¬ byteAt s k = 10) : GoneN s (k + 1) fr ls := by
  obtain ⟨h1, h2⟩ := h
  rw [nts_no hk hb] at h1 h2
  exact ⟨h1, h2⟩
theorem GoneN.end {s : ByteArray} {k fr : Nat} {ls : List Nt} (h : GoneN s k fr ls) (hk : k = s.size) : ls = (ntsOf s).1 ∧ fr = (ntsOf s).2 := by
  obtain ⟨h1, h2⟩ := h
  rw [hk, Nat.sub_self] at h1 h2
  exact ⟨by rw [← h1]; simp [nts], h2⟩
theorem infoNt : (Tryd.prog.info? 26).map (fun i => (i.zero, i.size, i.bytes)) = some (some (.agg #[.int .i64 0, .int .i64 0, .string ByteArray.empty, .int .i64 0, .int .i64 0]), 5, 48) := by kernel_rfl
theorem nt_push {B : Nat} {L : List Nt} {v : Value} {w V : World} (h : GE ntC 26 B L v w) (hb : Below w.heap.size w V) (p : Nt) {b : Nat} (hr : V.rangeAt b 0 (ntC p)) (hn : L.length ≤ 68719476736) (hB : B ≤ w.heap.size) :
    ∃ v' w', (Builtin.append_ #[33, 33] 33 #[v, .slice (some ⟨b, 0, none⟩) 1 1]).run Tryd.prog V = .ok v' w' ∧ (GE ntC 26 B (L ++ [p]) v' w' ∧ Below B V w' ∧ Chg (fun y => v.ownBlock = some y) V w') :=
  GE.push' ntC_len ntC_one Tryd.underlying33 infoNt rfl (h.on hb) p (b := b) (o := 0) hr 1 hn (Nat.le_trans hB hb.size) 33
theorem row_range {w : World} {b : Nat} {p : Nt} (h : w.heap[b]? = some (.cells #[.int .i64 p.k, .int .i64 p.h, .string p.d, .int .i64 p.b, .int .i64 p.t] 26 (0, 0))) : w.rangeAt b 0 (ntC p) := by
  intro j u hj
  match j, hj with
  | 0, hj => simp [ntC] at hj; subst hj; exact cell_of_row h (by simp)
  | 1, hj => simp [ntC] at hj; subst hj; exact cell_of_row h (by simp)
  | 2, hj => simp [ntC] at hj; subst hj; exact cell_of_row h (by simp)
  | 3, hj => simp [ntC] at hj; subst hj; exact cell_of_row h (by simp)
  | 4, hj => simp [ntC] at hj; subst hj; exact cell_of_row h (by simp)
  | j + 5, hj => simp [ntC] at hj

set_option maxRecDepth 100000 in
set_option maxHeartbeats 2000000 in
theorem notesS (s : ByteArray) (w : World) (hs : s.size ≤ 2097152) :
    Calls Tryd.prog 13 #[.string s] w fun e w' => ∃ v, e = .returned (.tuple #[v, .int .i64 ((ntsOf s).2 : Int)]) ∧ GE ntC 26 w.heap.size (ntsOf s).1 v w' ∧ Below w.heap.size w w' := by
  go_enter Tryd.func13, Tryd.ntmps13
  go_wp2_with fail
  go_loopw [4, 5, 6] (fun v f i wr => ∃ (k fr : Nat) (ls : List Nt), i = .int .i64 k ∧ f = .int .i64 fr ∧ GE ntC 26 w.heap.size ls v wr ∧ Below w.heap.size w wr ∧ (k ≤ s.size ∧ fr ≤ k ∧ ls.length ≤ k) ∧ GoneN s k fr ls) (fun _ _ i _ => s.size - (intOf i).toNat)
  case atStart => exact ⟨0, 0, [], rfl, rfl, GE.lit ntC 26 _ w (Nat.le_refl _), abP _, ⟨Nat.zero_le _, Nat.le_refl _, Nat.le_refl _⟩, GoneN.start s⟩
  case round =>
    obtain ⟨k, fr, ls, rfl, rfl, hge, hbw, ⟨hk, hfr, hlen⟩, hgo⟩ := hrel
    obtain ⟨ua, uc, rfl⟩ := hge.shape
    have HGE := hide hge
    have HBW := hide hbw
    have HGO := hide hgo
    clear hge hbw hgo
    by_cases hp : k < s.size
    · have c1 : (k : Int) < (s.size : Int) := by omega
      have c2 : (0 : Int) ≤ (k : Int) := by omega
      have c3 : (0 : Int) ≤ (fr : Int) := by omega
      have w1 : wrap64 ((k : Int) + 1) = ((k + 1 : Nat) : Int) := by unfold wrap64; omega
      have c4 : (fr : Int) ≤ ((k + 1 : Nat) : Int) := by omega
      have c5 : ((k + 1 : Nat) : Int) ≤ (s.size : Int) := by omega
      have c6 : (0 : Int) ≤ ((k + 1 : Nat) : Int) := by omega
      have hb := byteAt_lt hp
      have HM : Hid (s.size - (((k + 1 : Nat) : Int)).toNat < s.size - ((k : Int)).toNat) := by show _ < _; omega
      have HK : Hid (k + 1 ≤ s.size ∧ fr ≤ k + 1 ∧ ls.length + 1 ≤ k + 1) := ⟨by omega, by omega, by omega⟩
      have HLN : Hid (ls.length ≤ 68719476736) := by show _ ≤ _; omega
      by_cases hd : byteAt s k = 10
      · rw [hd] at hb
        have hb' : (((s[k]'hp).toNat : Int) != 10) = false := by rw [hb]; rfl
        obtain ⟨line, hline⟩ : ∃ line, line = s.extract fr (k + 1) := ⟨_, rfl⟩
        have hS := hide (fun v => noteOfS line v (by rw [hline]; exact Nat.le_trans (size_extract_le _ _ _) hs))
        cases hn : noteO line with
        | none =>
          rw [hn] at hS
          rw [hline] at hn
          obtain ⟨hE1, hE2⟩ := (unhide HGO).stop hp hd hn
          have HE := hide (And.intro hE1 hE2)
          unfold ansO at hS
          have HL := hide hline.symm
          have HF := hide (show (fr : Int) = (((ntsOf s).2 : Nat) : Int) by rw [hE2])
          clear hn hE1 hE2 hline HM HK hk hfr hlen hd
          generalize ls.length = ul at *
          go_wp2_with fail
          rw [unhide HL]
          refine (unhide hS _).mono ?_
          rintro e w2 ⟨rfl, hb2⟩
          have HB2 := hide hb2
          clear hb2
          go_wp2_with fail
          refine bodyPost_ret (v := .tuple #[.slice ua ul uc, .int .i64 (fr : Int)]) (by simp [results, Tryd.results13, go_sem]) rfl ⟨.slice ua ul uc, by rw [unhide HF], ?_, btP (unhide HBW) (btP (unhide HB2) (abP _))⟩
          rw [← (unhide HE).1]
          exact ((unhide HGE).on (unhide HB2)).on (abP _)
        | some n =>
          rw [hn] at hS
          rw [hline] at hn
          have HN := hide ((unhide HGO).step hp hd hn)
          obtain ⟨pk, ph, pd, pb, pt⟩ := n
          unfold ansO at hS
          have HL := hide hline.symm
          have HLL : Hid ((ls ++ [(⟨pk, ph, pd, pb, pt⟩ : Nt)]).length = ls.length + 1) := by show _ = _; simp
          clear hn hline hk hfr hlen hd HGO
          have HLN2 := HLN
          generalize hul : ls.length = ul at HLN2 ⊢
          go_wp2_with fail
          rw [unhide HL]
          refine (unhide hS _).mono ?_
          rintro e w2 ⟨rfl, hb2⟩
          have HB2 := hide hb2
          clear hb2
          have r0 := heap_alloc_new w2 (.cells #[.int .i64 pk, .int .i64 ph, .string pd, .int .i64 pb, .int .i64 pt] 26)
          have HBA : Hid (Below wr.heap.size wr ((w2.alloc (.cells #[.int .i64 pk, .int .i64 ph, .string pd, .int .i64 pb, .int .i64 pt] 26)).alloc (.cells #[.int .i64 pk, .int .i64 ph, .string pd, .int .i64 pb, .int .i64 pt] 26))) := btP (btP (unhide HB2) (abP _)) (abP _)
          have HAP := hide (nt_push (unhide HGE) (unhide HBA) ⟨pk, ph, pd, pb, pt⟩ (row_range (heap_alloc_new (w2.alloc (.cells #[.int .i64 pk, .int .i64 ph, .string pd, .int .i64 pb, .int .i64 pt] 26)) _)) (unhide HLN) (unhide HBW).size)
          have eP : (w2.alloc (.cells #[.int .i64 pk, .int .i64 ph, .string pd, .int .i64 pb, .int .i64 pt] 26)).heap.size = w2.heap.size + 1 := heap_size_alloc _ _
          rw [eP, hul] at HAP
          clear r0 eP
          go_wp2_with (at_builtin; refine wpList_append_run rfl _ _ 33 rfl (.slice ua ul uc) (.slice (some ⟨w2.heap.size + 1, 0, none⟩) 1 1) rfl rfl (fun v' w' => GE ntC 26 w.heap.size (ls ++ [⟨pk, ph, pd, pb, pt⟩]) v' w' ∧ Below w.heap.size ((w2.alloc (.cells #[.int .i64 pk, .int .i64 ph, .string pd, .int .i64 pb, .int .i64 pt] 26)).alloc (.cells #[.int .i64 pk, .int .i64 ph, .string pd, .int .i64 pb, .int .i64 pt] 26)) w' ∧ Chg (fun y => (Value.slice ua ul uc).ownBlock = some y) ((w2.alloc (.cells #[.int .i64 pk, .int .i64 ph, .string pd, .int .i64 pb, .int .i64 pt] 26)).alloc (.cells #[.int .i64 pk, .int .i64 ph, .string pd, .int .i64 pb, .int .i64 pt] 26)) w') (unhide HAP) ?_; rintro v3 w3 ⟨hg3, hb3, -⟩; have HG3 := hide hg3; have HB3 := hide hb3; clear hg3 hb3)
          go_roundw
          case rel => exact ⟨k + 1, k + 1, _, rfl, rfl, unhide HG3, (btP (unhide HBW) (unhide HBA)).trans (unhide HB3), ⟨(unhide HK).1, Nat.le_refl _, by rw [unhide HLL]; exact (unhide HK).2.2⟩, unhide HN⟩
          case measure => exact unhide HM
      · have hb' : (((s[k]'hp).toNat : Int) != 10) = true := by rw [hb]; simp; omega
        have HN := hide ((unhide HGO).next hp hd)
        have HK2 : Hid (k + 1 ≤ s.size ∧ fr ≤ k + 1 ∧ ls.length ≤ k + 1) := ⟨by omega, by omega, by omega⟩
        clear hd HGO HK HLN hk hfr hlen
        obtain ⟨ul, hul⟩ : ∃ ul, ul = ls.length := ⟨_, rfl⟩
        rw [← hul] at HGE ⊢
        have HUL := hide hul
        clear hul
        go_wp2_with fail
        go_roundw
        case rel => exact ⟨k + 1, fr, ls, rfl, rfl, unhide HGE, unhide HBW, unhide HK2, unhide HN⟩
        case measure => exact unhide HM
    · have c1 : ¬ (k : Int) < (s.size : Int) := by omega
      have hE := (unhide HGO).end (by omega)
      have HE := hide hE
      have HF := hide (show (fr : Int) = (((ntsOf s).2 : Nat) : Int) by rw [hE.2])
      clear hE
      go_wp2_with fail
      refine bodyPost_ret (v := .tuple #[.slice ua ls.length uc, .int .i64 (fr : Int)]) (by simp [results, Tryd.results13, go_sem]) rfl ⟨.slice ua ls.length uc, by rw [unhide HF], ?_, unhide HBW⟩
      rw [← (unhide HE).1]
      exact unhide HGE

end Go.Proofs.YtjckdepcgjfomaaDoor
