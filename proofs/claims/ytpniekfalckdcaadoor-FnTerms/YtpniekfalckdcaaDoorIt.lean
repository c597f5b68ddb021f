
/- The walk of impl.TermText: of whatever term lies in memory, of at most 2^21 within it and of at most 2^21 bytes, it answers its text; nothing that was there is written. -/
import Derived.Test.YtpniekfalckdcaaDoorAk
import Derived.Laws.IdiomStrings
namespace Go.Proofs.YtpniekfalckdcaaDoor
open Go.RowKit Go.Deep

theorem wordT (op n : Int) (s : ByteArray) (a : Option Addr) (len cap : Nat) (w : World) (h : kidOp op = true) :
    Calls Tryd.prog 37 #[.agg #[.int .i64 op, .int .i64 n, .string s, .slice a len cap]] w fun e w' => e = .returned (.tuple #[.string ⟨(nameOf op).toArray⟩, .bool true]) ∧ Below w.heap.size w w' := by
  have h' : 3 ≤ op ∧ op ≤ 8 := by simpa [kidOp] using h
  obtain rfl | rfl | rfl | rfl | rfl | rfl : op = 3 ∨ op = 4 ∨ op = 5 ∨ op = 6 ∨ op = 7 ∨ op = 8 := by omega
  · exact word3 n s a len cap w
  · exact word4 n s a len cap w
  · exact word5 n s a len cap w
  · exact word6 n s a len cap w
  · exact word7 n s a len cap w
  · exact word8 n s a len cap w

theorem wordF (op n : Int) (s : ByteArray) (a : Option Addr) (len cap : Nat) (w : World) (h : kidOp op = false) (hn : (Lit.int .i64 n).wf = true) (hs : (wordOf op n s).length ≤ 67108864) (ht : Tab w) :
    Calls Tryd.prog 37 #[.agg #[.int .i64 op, .int .i64 n, .string s, .slice a len cap]] w fun e w' => e = .returned (.tuple #[.string ⟨(wordOf op n s).toArray⟩, .bool false]) ∧ Below w.heap.size w w' := by
  by_cases h1 : op = 1
  · subst h1
    have hb : -9223372036854775808 ≤ n ∧ n ≤ 9223372036854775807 := by
      have h' : (decide (IntKind.min .i64 ≤ n) && decide (n ≤ IntKind.max .i64)) = true := hn
      rw [Bool.and_eq_true, decide_eq_true_iff, decide_eq_true_iff] at h'
      exact h'
    exact word1 n s a len cap w hb.1 hb.2 ht
  · by_cases h2 : op = 2
    · subst h2
      refine word2 n s a len cap w ?_
      simp [wordOf] at hs
      have : s.size = s.data.size := rfl
      omega
    · have h' : ¬ (3 ≤ op ∧ op ≤ 8) := by simpa [kidOp] using h
      have hw : wordOf op n s = [63] := by unfold wordOf; rw [if_neg h1, if_neg h2]
      rw [hw]
      exact word0 op n s a len cap w (by simpa using h1) (by simpa using h2) (by simp; omega) (by simp; omega) (by simp; omega) (by simp; omega) (by simp; omega) (by simp; omega)

/-- An append of a string, by what its run comes to. -/
theorem wpList_append_str {P : Program} {w : World} {ops : Array Oper} {rest : List Oper} {o : Oper} {a : Act} {Q : Exit → Act → World → Prop} (hgd : o.guard = none) (s x : Operand) (t t' : TypeId)
    (ho : o.op = .call { callee := .builtin .append, args := #[s, x], argTypes := #[t, t'] }) (v xv : Value) (hs : a.eval s = v) (hx : a.eval x = xv) (R : Value → World → Prop)
    (hrun : ∃ v' w', (Builtin.append_ #[t, t'] o.type #[v, xv]).run P w = .ok v' w' ∧ R v' w') (h : ∀ v' w', R v' w' → wpList P ops Q rest (a.put o.dst v') w') : wpList P ops Q (o :: rest) a w :=
  wpList_plain hgd fun K hK => by
    obtain ⟨v', w', hr, h2⟩ := hrun
    unfold Oper.wp execOp
    simp only [ho, resolve, invoke, builtin, Sem.run_bind, Sem.run_pure, Result.andThen_ok, List.map_toArray, List.map_cons, List.map_nil, hs, hx, hr]
    exact hK _ _ (h v' w' h2)

/-- The box of the piece that is written. -/
def Nx (nb : Nat) (cs : List Value) (wr : World) : Prop := wr.heap[nb]? = some (.cells cs.toArray 49 (0, 0))

theorem Nx.lt {nb : Nat} {cs : List Value} {wr : World} (h : Nx nb cs wr) : nb < wr.heap.size := by
  unfold Nx at h
  exact (Array.getElem?_eq_some_iff.1 h).1
theorem Nx.on {nb : Nat} {cs : List Value} {wr w2 : World} (h : Nx nb cs wr) (hb : Below wr.heap.size wr w2) : Nx nb cs w2 := by
  have := h.lt
  unfold Nx at h ⊢
  rw [hb.block nb this]
  exact h
theorem Nx.kept {w w0 w2 : World} {nb : Nat} {cs : List Value} {l : List UInt8} {tv : Value} (h : Nx nb cs w0) (hb : Bts w l tv w0) (hg : w0.grownBy w2 tv.ownBlock) : Nx nb cs w2 := by
  have hlt := h.lt
  unfold Nx at h ⊢
  rw [hg.block nb hlt]
  · exact h
  · rcases hb.2 with ⟨h1, _⟩ | ⟨g, cap, cur, h1, _, h2, _⟩
    · rw [h1]; simp [Value.ownBlock]
    · rw [h1]
      intro e
      simp only [Value.ownBlock, Option.some.injEq] at e
      rw [← e, h] at h2
      simp at h2
theorem Nx.cell {nb : Nat} {cs : List Value} {wr : World} (h : Nx nb cs wr) {j : Nat} {v : Value} (hj : cs[j]? = some v) : wr.cell? ⟨nb, j, none⟩ = some v := by
  unfold Nx at h
  simp [World.cell?, h]
  simpa using hj

theorem bts_conv {w wr : World} {l : List UInt8} {tv : Value} (h : Bts w l tv wr) : (convert 22 9 tv).run Tryd.prog wr = .ok (.string ⟨l.toArray⟩) wr := by
  have ho := h
  rcases h.2 with ⟨h1, h2⟩ | ⟨g, cap, cur, h1, _⟩
  · obtain rfl : l = [] := by simpa using h2
    rw [h1]
    exact run_convert_bytes_nil wr 22 5 Tryd.underlying22 Tryd.underlying5 0 0 9 Tryd.underlying9
  · rw [h1]
    exact run_convert_bytes_back wr 22 9 5 ⟨g, 0, none⟩ cap l Tryd.underlying22 Tryd.underlying5 Tryd.underlying9 fun j hj =>
      World.ownsRow.cells ho (g := g) (by rw [h1]; rfl) j _ (by simp [hj])

/-- A moment of the loop: what is written, what is still to be written, the piece that is taken. -/
structure Md (w : World) (us : List Pc) (nb : Nat) (cs : List Value) (l : List UInt8) (v tv : Value) (wr : World) : Prop where
  st : Stp w us v wr
  bt : Bts w l tv wr
  nx : Nx nb cs wr

theorem Md.on {w : World} {us : List Pc} {nb : Nat} {cs : List Value} {l : List UInt8} {v tv : Value} {wr w2 : World} (h : Md w us nb cs l v tv wr) (hb : Below wr.heap.size wr w2) : Md w us nb cs l v tv w2 := ⟨h.st.on hb, h.bt.on hb, h.nx.on hb⟩

theorem Md.start {w wr : World} {us : List Pc} {l : List UInt8} {v tv : Value} (h : Stp w us v wr) (hb : Bts w l tv wr) (cs : List Value) : Md w us wr.heap.size cs l v tv (wr.alloc (.cells cs.toArray 49)) :=
  ⟨h.on ((Below.refl _ _).alloc (Nat.le_refl _) _), hb.on ((Below.refl _ _).alloc (Nat.le_refl _) _), heap_alloc_new wr _⟩

theorem Md.write {w : World} {us : List Pc} {nb : Nat} {cs : List Value} {l : List UInt8} {v tv : Value} {wr : World} (h : Md w us nb cs l v tv wr) (m : List UInt8) (hn : l.length + m.length ≤ 1073741824) (ty : TypeId) :
    ∃ v' w', (Builtin.append_ #[22, 9] ty #[tv, .string ⟨m.toArray⟩]).run Tryd.prog wr = .ok v' w' ∧ Md w us nb cs (l ++ m) v v' w' := by
  obtain ⟨v', w', g1, g2, g3, g4⟩ := h.bt.write h.st.below m hn ty
  exact ⟨v', w', g1, h.st.kept h.bt g3 g4, g2, h.nx.kept h.bt g3⟩

theorem Md.put {w : World} {us : List Pc} {nb : Nat} {cs : List Value} {l : List UInt8} {v tv : Value} {wr w0 : World} (h : Md w us nb cs l v tv wr) (c : UInt8) {b : Nat} (hb : Below wr.heap.size wr w0) (hc : w0.cell? ⟨b, 0, none⟩ = some (.int .u8 c.toNat)) (hn : l.length + 1 ≤ 1073741824) (ty : TypeId) :
    ∃ v' w', (Builtin.append_ #[22, 22] ty #[tv, .slice (some ⟨b, 0, none⟩) 1 1]).run Tryd.prog w0 = .ok v' w' ∧ Md w us nb cs (l ++ [c]) v v' w' := by
  obtain ⟨v', w', g1, g2, g3, g4⟩ := h.bt.put h.st.below c hb hc hn ty
  exact ⟨v', w', g1, (h.st.on hb).kept (h.bt.on hb) g3 g4, g2, (h.nx.on hb).kept (h.bt.on hb) g3⟩

set_option maxHeartbeats 2000000 in
set_option maxRecDepth 100000 in
theorem itx19 (t : Tm) (op n : Int) (s : ByteArray) (a : Option Addr) (len cap : Nat) (w : World) (hl : Lies w 0 t (tmCells op n s a len cap)) (hsz : t.size ≤ 2097152) (hwt : t.wt ≤ 2097152) (htab : Tab w) :
    Calls Tryd.prog 19 #[.agg #[.int .i64 op, .int .i64 n, .string s, .slice a len cap]] w fun e w' => e = .returned (.string ⟨(textT t).toArray⟩) ∧ Below w.heap.size w w' := by
  have hlen := textT_length t _ hl
  have hT : (textT t).length ≤ 67108864 := by omega
  have HS : Stp w [termPc t (tmCells op n s a len cap)] (.slice (some ⟨w.heap.size + 1, 0, none⟩) 1 1) ((w.alloc (.cells #[.int .i64 op, .int .i64 n, .string s, .slice a len cap] 26)).alloc (.cells #[.string ⟨#[]⟩, .int .i64 op, .int .i64 n, .string s, .slice a len cap] 49)) := by
    have := Stp.start (w0 := w.alloc (.cells #[.int .i64 op, .int .i64 n, .string s, .slice a len cap] 26)) (p := termPc t (tmCells op n s a len cap)) ((Below.refl w.heap.size w).alloc (Nat.le_refl _) _) hl
    simpa [tmCells, termPc, Pc.cells] using this
  have HS' := hide HS
  have HT : Hid (textQ [termPc t (tmCells op n s a len cap)] = textT t) := by
    show _ = _
    simp [textQ, termPc, Pc.text]
  have HW : Hid (workQ [termPc t (tmCells op n s a len cap)] ≤ 3 * t.size) := by
    show _ ≤ _
    simp [workQ, termPc, Pc.work]
  have HTab := hide htab
  have HTL := hide hT
  have HB0 : Hid (∀ wx : World, Bts w [] (.slice none 0 0) wx) := fun wx => ⟨rfl, Or.inl ⟨rfl, rfl⟩⟩
  clear HS hlen hwt htab hT
  generalize textT t = T at *
  generalize t.size = tot at *
  clear hl
  go_enter Tryd.func19, Tryd.ntmps19
  go_wp2_with fail
  go_loopg [3, 4] (3 * tot + 1) (fun gk tv v wr => ∃ (ps : List Pc) (l : List UInt8), workQ ps < gk ∧ workQ ps ≤ 3 * tot ∧ l ++ textQ ps = T ∧ Stp w ps v wr ∧ Bts w l tv wr)
  case atStart => exact ⟨[termPc t (tmCells op n s a len cap)], [], by have := unhide HW; omega, unhide HW, by rw [List.nil_append]; exact unhide HT, unhide HS', unhide HB0 _⟩
  case round =>
    obtain ⟨ps, l, hgk, hpt, htx, hstk, hbt⟩ := hrel
    clear HS' HT HW
    by_cases hps : ps = []
    · subst hps
      obtain ⟨av, c, hv, _⟩ := hstk.shape
      simp only [List.length_nil] at hv
      have HB := hide hstk.below
      have hconv := bts_conv hbt
      have HX : Hid (l = T) := by
        show _ = _
        simpa [textQ] using htx
      clear hstk hbt hgk hpt htx
      subst hv
      go_wp2_with fail
      go_ret
      exact ⟨ret_str (by rw [unhide HX]), unhide HB⟩
    · obtain ⟨us, p, rfl⟩ : ∃ us p, ps = us ++ [p] := ⟨ps.dropLast, ps.getLast hps, (List.dropLast_concat_getLast hps).symm⟩
      obtain ⟨g, c, rfl, hc1, hc2, hcell, hus⟩ := hstk.top
      have hlp := hstk.lies p (by simp)
      have hlw := length_le_work us
      rw [workQ_snoc] at hgk hpt
      rw [textQ_snoc] at htx
      have hul : us.length ≤ 6291456 := by omega
      obtain ⟨pm, pt, pc⟩ := p
      obtain ⟨op1, n1, s1, ks⟩ := pt
      have hlp0 := hlp
      simp only [Lies] at hlp
      obtain ⟨a1, cap1, rfl, ⟨_, hk1, hk2⟩, ⟨_, hwn⟩, hk⟩ := hlp
      have p0 := hcell 0 _ rfl
      have p1 := hcell 1 _ rfl
      have p2 := hcell 2 _ rfl
      have p3 := hcell 3 _ rfl
      have p4 := hcell 4 _ rfl
      rw [Nat.add_zero] at p0
      have HM := hide (Md.start hus hbt [.string ⟨pm.toArray⟩, .int .i64 op1, .int .i64 n1, .string s1, .slice a1 ks.length cap1])
      have HG := hide hgk
      have HP := hide hpt
      have HX := hide htx
      have HK := hide hk
      have HC : Hid (ks.length ≤ cap1 ∧ cap1 ≤ maxLen) := ⟨hk1, hk2⟩
      have HN := hide hwn
      have hll : l.length + (Pc.text ⟨pm, .node op1 n1 s1 ks, tmCells op1 n1 s1 a1 ks.length cap1⟩).length ≤ 67108864 := by
        have h1 := unhide HTL
        rw [← htx] at h1
        simp only [List.length_append] at h1
        omega
      have HLL := hide hll
      unfold maxLen at hc2
      clear hll hgk hpt htx hk hk1 hk2 hwn hstk hbt hcell hus hlw hlp0 hps
      generalize hulg : us.length = ul at *
      have HU := hide hulg
      clear hulg
      by_cases hm : pm = []
      · subst hm
        have hbox : ∀ (x : World) (cs : Array Value), Below x.heap.size x (x.alloc (.cells cs 5)) := fun x cs => (Below.refl _ _).alloc (Nat.le_refl _) _
        have HBX := hide hbox
        clear hbox
        by_cases hko : kidOp op1 = true
        · have hwd := wordT op1 n1 s1 a1 ks.length cap1
          have HTX : Hid (Pc.text ⟨[], .node op1 n1 s1 ks, tmCells op1 n1 s1 a1 ks.length cap1⟩ = nameOf op1 ++ (40 :: (textF true ks ++ [41]))) := by
            show _ = _
            simp [Pc.text, textT, hko]
          have HWK : Hid (Pc.work ⟨[], .node op1 n1 s1 ks, tmCells op1 n1 s1 a1 ks.length cap1⟩ = 3 * Tm.sizes ks + 2) := by
            show _ = _
            simp [Pc.work, Tm.size]
            omega
          have HLN : Hid (l.length + (nameOf op1).length + 1 ≤ 67108864) := by
            have h1 := unhide HLL
            rw [unhide HTX] at h1
            simp only [List.length_append, List.length_cons] at h1
            show _ ≤ _
            omega
          generalize nameOf op1 = nm at *
          go_wp2_with fail
          refine (hwd _ hko).mono ?_
          rintro e w2 ⟨rfl, hb2⟩
          have HM2 := hide ((unhide HM).on hb2)
          clear HM hb2 hwd p0 p1 p2 p3 p4
          go_wp2_with (at_builtin; first
            | (refine wpList_append_str rfl _ _ 22 9 rfl _ _ rfl rfl (fun v' w' => Md w us wr.heap.size [.string ⟨#[]⟩, .int .i64 op1, .int .i64 n1, .string s1, .slice a1 ks.length cap1] (l ++ nm) (.slice (some ⟨g, 0, none⟩) ul c) v' w') ((unhide HM2).write nm (by have := unhide HLN; omega) 22) ?_; intro v3 w3 hst3; have HM3 := hide hst3; clear hst3)
            | (refine wpList_append_run rfl _ _ 22 rfl _ _ rfl rfl (fun v' w' => Md w us wr.heap.size [.string ⟨#[]⟩, .int .i64 op1, .int .i64 n1, .string s1, .slice a1 ks.length cap1] (l ++ nm ++ [40]) (.slice (some ⟨g, 0, none⟩) ul c) v' w') ((unhide HM3).put 40 (unhide HBX _ _) (box_cell _ _ _ 0 _ rfl) (by have := unhide HLN; rw [List.length_append]; omega) 22) ?_; intro v4 w4 hst4; have HM4 := hide hst4; have q4 := hst4.nx.cell (j := 4) (v := .slice a1 ks.length cap1) rfl; clear hst4))
          refine (kids34 us ks _ _ _ a1 cap1 w _ (unhide HM4).st (unhide HM4).bt (unhide HK) (by have := unhide HC; omega) (by have h1 := unhide HP; have h2 := unhide HWK; omega)).mono ?_
          rintro e w5 ⟨v5, rfl, hM5⟩
          have HM5 := hide hM5
          clear hM5 HM4 q4
          go_wp2_with fail
          go_roundg (workQ us + (3 * Tm.sizes ks + 2))
          case measure => have h1 := unhide HG; have h2 := unhide HWK; omega
          case rel =>
            obtain ⟨ps, k1, k2, k3⟩ := (unhide HM5).st
            exact ⟨ps, l ++ nm ++ [40], by simp only [List.drop_zero] at k3; omega, by have h1 := unhide HP; have h2 := unhide HWK; simp only [List.drop_zero] at k3; omega, by
              have h1 := unhide HX
              rw [unhide HTX] at h1
              rw [k2, ← h1]
              simp, k1, (unhide HM5).bt⟩
        · have hkf : kidOp op1 = false := by simpa using hko
          have hwd := wordF op1 n1 s1 a1 ks.length cap1
          have HTX : Hid (Pc.text ⟨[], .node op1 n1 s1 ks, tmCells op1 n1 s1 a1 ks.length cap1⟩ = wordOf op1 n1 s1) := by
            show _ = _
            simp [Pc.text, textT, hkf]
          have HWK : Hid (1 ≤ Pc.work ⟨[], .node op1 n1 s1 ks, tmCells op1 n1 s1 a1 ks.length cap1⟩) := work_pos _
          have HLN : Hid (l.length + (wordOf op1 n1 s1).length ≤ 67108864) := by
            have h1 := unhide HLL
            rw [unhide HTX] at h1
            exact h1
          have HTW : Hid (Tab (wr.alloc (.cells #[.string ⟨#[]⟩, .int .i64 op1, .int .i64 n1, .string s1, .slice a1 ks.length cap1] 49))) := by
            refine (unhide HTab).on ?_
            have := (unhide HM).st.below
            simpa using this
          generalize wordOf op1 n1 s1 = nm at *
          clear hko
          go_wp2_with fail
          refine (hwd _ hkf (unhide HN) (by have := unhide HLN; omega) (unhide HTW)).mono ?_
          rintro e w2 ⟨rfl, hb2⟩
          have HM2 := hide ((unhide HM).on hb2)
          clear HM hb2 hwd p0 p1 p2 p3 p4 HTW
          go_wp2_with (at_builtin; refine wpList_append_str rfl _ _ 22 9 rfl _ _ rfl rfl (fun v' w' => Md w us wr.heap.size [.string ⟨#[]⟩, .int .i64 op1, .int .i64 n1, .string s1, .slice a1 ks.length cap1] (l ++ nm) (.slice (some ⟨g, 0, none⟩) ul c) v' w') ((unhide HM2).write nm (by have := unhide HLN; omega) 22) ?_; intro v3 w3 hst3)
          go_roundg (workQ us + 1)
          case measure => have h1 := unhide HG; have h2 := unhide HWK; omega
          case rel => exact ⟨us, l ++ nm, by omega, by have h1 := unhide HP; omega, by have h1 := unhide HX; rw [unhide HTX] at h1; rw [← h1]; simp, hst3.st, hst3.bt⟩
      · have hne : pm.isEmpty = false := by simpa using hm
        have HTX : Hid (Pc.text ⟨pm, .node op1 n1 s1 ks, tmCells op1 n1 s1 a1 ks.length cap1⟩ = pm) := by
          show _ = _
          simp [Pc.text, hm]
        have HWK : Hid (Pc.work ⟨pm, .node op1 n1 s1 ks, tmCells op1 n1 s1 a1 ks.length cap1⟩ = 1) := by
          show _ = _
          simp [Pc.work, hm]
        clear hm
        go_wp2_with (at_builtin; refine wpList_append_str rfl _ _ 22 9 rfl _ _ rfl rfl (fun v' w' => Md w us wr.heap.size [.string ⟨pm.toArray⟩, .int .i64 op1, .int .i64 n1, .string s1, .slice a1 ks.length cap1] (l ++ pm) (.slice (some ⟨g, 0, none⟩) ul c) v' w') ((unhide HM).write pm (by have h1 := unhide HLL; rw [unhide HTX] at h1; omega) 22) ?_; intro v' w' hst)
        go_roundg (workQ us + 1)
        case measure => have h1 := unhide HG; have h2 := unhide HWK; omega
        case rel => exact ⟨us, l ++ pm, by omega, by have h1 := unhide HP; omega, by have h1 := unhide HX; rw [unhide HTX] at h1; rw [← h1]; simp, hst.st, hst.bt⟩

end Go.Proofs.YtpniekfalckdcaaDoor
