
/- The pieces that impl.TermText keeps for itself, still to be written: a list in a slice of its own, beside the bytes that are written. -/
import Derived.Test.YtpniekfalckdcaaDoorWd
import Derived.Lib.AppendStr
import Derived.Deep.LoopGhost
namespace Go.Proofs.YtpniekfalckdcaaDoor
open Go.RowKit Go.Deep

theorem info48 : (Tryd.prog.info? 49).map (fun i => (i.zero, i.size, i.bytes)) = some (some (.agg #[.string ByteArray.empty, .int .i64 0, .int .i64 0, .string ByteArray.empty, .slice none 0 0]), 5, 72) := by kernel_rfl
theorem info5 : (Tryd.prog.info? 5).map (fun i => (i.zero, i.size, i.bytes)) = some (some (.int .u8 0), 1, 1) := by kernel_rfl

/-- A piece: a mark, or a term where the mark is empty; the term's cells. -/
structure Pc where
  m : List UInt8
  t : Tm
  cs : List Value

def Pc.cells (p : Pc) : List Value := .string ⟨p.m.toArray⟩ :: p.cs
def Pc.text (p : Pc) : List UInt8 := if p.m = [] then textT p.t else p.m
def Pc.work (p : Pc) : Nat := if p.m = [] then 3 * p.t.size - 1 else 1

def markPc (m : List UInt8) : Pc := ⟨m, .node 0 0 ByteArray.empty [], tmCells 0 0 ByteArray.empty none 0 0⟩
def termPc (t : Tm) (cs : List Value) : Pc := ⟨[], t, cs⟩

theorem lies_zero (w : World) : Lies w 0 (.node 0 0 ByteArray.empty []) (tmCells 0 0 ByteArray.empty none 0 0) := by
  simp only [Lies]
  exact ⟨none, 0, rfl, ⟨by simp [maxLen], by simp, by simp⟩, ⟨by decide, by decide⟩, by simp [LiesAll]⟩

theorem Pc.length {w : World} {p : Pc} (h : Lies w 0 p.t p.cs) : p.cells.length = 5 := by
  unfold Pc.cells
  rw [List.length_cons, h.length]

theorem Pc.one {w : World} {p : Pc} (h : Lies w 0 p.t p.cs) : ∀ u ∈ p.cells, u.oneCell' = true := fun u hu => by
  rcases List.mem_cons.1 hu with rfl | hu
  · rfl
  · exact h.one u hu

theorem pcs_length {w : World} : ∀ {ps : List Pc}, (∀ p ∈ ps, Lies w 0 p.t p.cs) → (ps.flatMap Pc.cells).length = ps.length * 5
  | [], _ => rfl
  | p :: r, h => by
    have h1 := Pc.length (h p (by simp))
    have h2 := pcs_length (ps := r) fun q hq => h q (by simp [hq])
    simp only [List.flatMap_cons, List.length_append, List.length_cons, h1, h2]
    omega

/-- What is still to be written, from the list's end on. -/
def textQ : List Pc → List UInt8
  | [] => []
  | p :: r => textQ r ++ p.text
theorem textQ_append (a b : List Pc) : textQ (a ++ b) = textQ b ++ textQ a := by
  induction a with
  | nil => simp [textQ]
  | cons p r ih => simp only [List.cons_append, textQ, ih, List.append_assoc]
theorem textQ_snoc (us : List Pc) (p : Pc) : textQ (us ++ [p]) = p.text ++ textQ us := by rw [textQ_append]; simp [textQ]

def workQ : List Pc → Nat
  | [] => 0
  | p :: r => p.work + workQ r
theorem workQ_append (a b : List Pc) : workQ (a ++ b) = workQ a + workQ b := by
  induction a with
  | nil => simp [workQ]
  | cons p r ih => simp only [List.cons_append, workQ, ih]; omega
theorem workQ_snoc (us : List Pc) (p : Pc) : workQ (us ++ [p]) = workQ us + p.work := by rw [workQ_append]; simp [workQ]
theorem work_pos (p : Pc) : 1 ≤ p.work := by
  unfold Pc.work
  split
  · have := p.t.size_pos; omega
  · omega
theorem length_le_work (ps : List Pc) : ps.length ≤ workQ ps := by
  induction ps with
  | nil => simp [workQ]
  | cons p r ih => have := work_pos p; simp only [workQ, List.length_cons]; omega

structure Stp (w : World) (ps : List Pc) (v : Value) (wr : World) : Prop where
  below : Below w.heap.size w wr
  own : wr.ownsRow w.heap.size 49 5 v ps.length (ps.flatMap Pc.cells)
  lies : ∀ p ∈ ps, Lies w 0 p.t p.cs

/-- The bytes that are written lie in a slice of their own. -/
def Bts (w : World) (l : List UInt8) (v : Value) (wr : World) : Prop := wr.ownsRow w.heap.size 5 1 v l.length (l.map fun b => Value.int .u8 b.toNat)

/-- The two rows are two blocks: their elements are of two types. -/
theorem rows_apart {w wr : World} {ps : List Pc} {l : List UInt8} {v tv : Value} (h : Stp w ps v wr) (hb : Bts w l tv wr) : tv.ownBlock = none ∨ tv.ownBlock ≠ v.ownBlock := by
  rcases hb.2 with ⟨h1, _⟩ | ⟨g, cap, cur, h1, _, h2, _⟩
  · left; rw [h1]; rfl
  · right
    rcases h.own.2 with ⟨k1, _⟩ | ⟨g', cap', cur', k1, _, k2, _⟩
    · rw [h1, k1]; simp [Value.ownBlock]
    · rw [h1, k1]
      intro e
      simp only [Value.ownBlock, Option.some.injEq] at e
      rw [e, k2] at h2
      simp at h2

theorem rows_apart' {w wr : World} {ps : List Pc} {l : List UInt8} {v tv : Value} (h : Stp w ps v wr) (hb : Bts w l tv wr) : v.ownBlock = none ∨ v.ownBlock ≠ tv.ownBlock := by
  rcases h.own.2 with ⟨k1, _⟩ | ⟨g', cap', cur', k1, _, k2, _⟩
  · left; rw [k1]; rfl
  · right
    rcases rows_apart h hb with e | e
    · rw [e, k1]; simp [Value.ownBlock]
    · exact fun q => e q.symm

theorem Stp.on {w wr w2 : World} {ps : List Pc} {v : Value} (h : Stp w ps v wr) (hb : Below wr.heap.size wr w2) : Stp w ps v w2 :=
  ⟨h.below.trans (hb.mono h.below.size), h.own.kept (w' := w2) (row := none) ⟨hb.os, hb.tape, hb.output, hb.size, fun k hk _ => hb.block k hk⟩ (by cases v.ownBlock <;> simp), h.lies⟩

theorem Bts.on {w wr w2 : World} {l : List UInt8} {v : Value} (h : Bts w l v wr) (hb : Below wr.heap.size wr w2) : Bts w l v w2 :=
  World.ownsRow.kept h (w' := w2) (row := none) ⟨hb.os, hb.tape, hb.output, hb.size, fun k hk _ => hb.block k hk⟩ (by cases v.ownBlock <;> simp)

theorem Stp.shape {w wr : World} {ps : List Pc} {v : Value} (h : Stp w ps v wr) : ∃ a c, v = .slice a ps.length c ∧ ps.length ≤ c ∧ c ≤ maxLen := by
  rcases h.own.2 with ⟨h1, h2⟩ | ⟨g, cap, cur, h1, _, _, h2, h3, _⟩
  · exact ⟨none, 0, by rw [h2]; exact h1, by omega, by simp⟩
  · exact ⟨_, _, h1, h2, h3⟩

theorem Stp.top {w wr : World} {us : List Pc} {p : Pc} {v : Value} (h : Stp w (us ++ [p]) v wr) :
    ∃ g c, v = .slice (some ⟨g, 0, none⟩) (us.length + 1) c ∧ us.length + 1 ≤ c ∧ c ≤ maxLen ∧ (∀ j u, p.cells[j]? = some u → wr.cell? ⟨g, us.length * 5 + j, none⟩ = some u) ∧ Stp w us (.slice (some ⟨g, 0, none⟩) us.length c) wr := by
  have ho := h.own
  rcases ho.2 with ⟨h1, h2⟩ | ⟨g, cap, cur, h1, _, _, h2, h3, _⟩
  · simp at h2
  · simp only [List.length_append, List.length_cons, List.length_nil, Nat.zero_add] at h1 h2
    have hus := pcs_length (ps := us) (w := w) fun q hq => h.lies q (by simp [hq])
    refine ⟨g, cap, h1, h2, h3, fun j u hj => ?_, h.below, ?_, fun q hq => h.lies q (by simp [hq])⟩
    · have hj5 : j < 5 := by
        have := Pc.length (h.lies p (by simp))
        have := (List.getElem?_eq_some_iff.1 hj).1
        omega
      have hcells := ho.cells (g := g) (by rw [h1]; rfl) (us.length * 5 + j) u (by
        simp only [List.flatMap_append, List.flatMap_cons, List.flatMap_nil, List.append_nil]
        rw [List.getElem?_append_right (by omega), hus, show us.length * 5 + j - us.length * 5 = j by omega]
        exact hj)
      rw [Addr.add_mid, Nat.zero_add] at hcells
      exact hcells
    · rw [h1] at ho
      simp only [List.flatMap_append, List.flatMap_cons, List.flatMap_nil, List.append_nil, List.length_append, List.length_cons, List.length_nil, Nat.zero_add] at ho
      exact ownsRow_pop (n := us.length) hus ho

/-- A piece is put on, out of a block of its own; the bytes stay. -/
theorem Stp.push {w wr : World} {us : List Pc} {v : Value} (h : Stp w us v wr) {p : Pc} (hp : Lies w 0 p.t p.cs) {w0 : World} {b : Nat} (hb : Below wr.heap.size wr w0) (hr : w0.rangeAt b 0 p.cells) (hn : us.length + 1 ≤ 16777216) (ty : TypeId) :
    ∃ v' w', (Builtin.append_ #[50, 50] ty #[v, .slice (some ⟨b, 0, none⟩) 1 1]).run Tryd.prog w0 = .ok v' w' ∧ Stp w (us ++ [p]) v' w' ∧ ∀ l tv, Bts w l tv wr → Bts w l tv w' := by
  obtain ⟨i, hi, hzz⟩ := Option.map_eq_some_iff.1 info48
  simp only [Prod.mk.injEq] at hzz
  obtain ⟨hz, hs, hby⟩ := hzz
  have h0 := h.on hb
  obtain ⟨v', w', g1, g2, g3, _⟩ := run_append_own_wide (P := Tryd.prog) w0 w.heap.size 50 ty 49 i _ 5 72 Tryd.underlying50 hi hz hs hby rfl (by omega) v us.length _ h0.own ⟨b, 0, none⟩ 1 1 p.cells
    (by rw [Pc.length hp]) (fun j u hj => by rw [Addr.add_mid]; exact hr j u hj) (Pc.one hp) (by unfold maxLen; omega) (by omega) h0.below.size
  refine ⟨v', w', g1, ⟨h0.below.grown g3 h0.below.size (fun k hk => (h0.own.lt k hk).1), ?_, fun q hq => ?_⟩, fun l tv hl => ?_⟩
  · rw [List.length_append, List.flatMap_append]
    simpa using g2
  · rcases List.mem_append.1 hq with hq | hq
    · exact h.lies q hq
    · rw [List.mem_singleton] at hq
      subst hq
      exact hp
  · exact World.ownsRow.kept (hl.on hb) g3 (rows_apart h0 (hl.on hb))

theorem Stp.start {w w0 : World} {p : Pc} (hb : Below w.heap.size w w0) (hp : Lies w 0 p.t p.cs) :
    Stp w [p] (.slice (some ⟨w0.heap.size, 0, none⟩) 1 1) (w0.alloc (.cells p.cells.toArray 49)) := by
  refine ⟨hb.alloc hb.size _, ?_, fun q hq => by rw [List.mem_singleton] at hq; subst hq; exact hp⟩
  have := World.ownsRow_lit (base := w.heap.size) (e := 49) (size := 5) w0 p.cells.toArray 1 hb.size (by simp [maxLen]) (by simp [Pc.length hp])
  simpa using this

/-- A text is written behind the bytes; the pieces stay. -/
theorem Bts.write {w wr : World} {l : List UInt8} {tv : Value} (h : Bts w l tv wr) (hbw : Below w.heap.size w wr) (m : List UInt8) (hn : l.length + m.length ≤ 1073741824) (ty : TypeId) :
    ∃ v' w', (Builtin.append_ #[22, 9] ty #[tv, .string ⟨m.toArray⟩]).run Tryd.prog wr = .ok v' w' ∧ Bts w (l ++ m) v' w' ∧ wr.grownBy w' tv.ownBlock ∧ Below w.heap.size w w' := by
  obtain ⟨i, hi, hzz⟩ := Option.map_eq_some_iff.1 info5
  simp only [Prod.mk.injEq] at hzz
  obtain ⟨hz, hs, hby⟩ := hzz
  have hsz : (⟨m.toArray⟩ : ByteArray).size = m.length := by simp [ByteArray.size]
  obtain ⟨v', w', g1, g2, g3, _⟩ := Lib.run_append_own_string (P := Tryd.prog) wr w.heap.size 22 9 ty 5 i Tryd.underlying22 Tryd.underlying9 hi hz hs hby tv l.length _ h ⟨m.toArray⟩ (by rw [hsz]; unfold maxLen; omega) (by rw [hsz]; omega) hbw.size
  refine ⟨v', w', g1, ?_, g3, hbw.grown g3 hbw.size (fun k hk => (World.ownsRow.lt h k hk).1)⟩
  unfold Bts
  rw [List.length_append, List.map_append]
  simpa [hsz, Lib.strCells] using g2

/-- One byte is written behind the bytes, out of a block of its own. -/
theorem Bts.put {w wr w0 : World} {l : List UInt8} {tv : Value} (h : Bts w l tv wr) (hbw : Below w.heap.size w wr) (c : UInt8) {b : Nat} (hb : Below wr.heap.size wr w0) (hc : w0.cell? ⟨b, 0, none⟩ = some (.int .u8 c.toNat)) (hn : l.length + 1 ≤ 1073741824) (ty : TypeId) :
    ∃ v' w', (Builtin.append_ #[22, 22] ty #[tv, .slice (some ⟨b, 0, none⟩) 1 1]).run Tryd.prog w0 = .ok v' w' ∧ Bts w (l ++ [c]) v' w' ∧ w0.grownBy w' tv.ownBlock ∧ Below w.heap.size w w' := by
  obtain ⟨i, hi, hzz⟩ := Option.map_eq_some_iff.1 info5
  simp only [Prod.mk.injEq] at hzz
  obtain ⟨hz, hs, hby⟩ := hzz
  have h0 := h.on hb
  have hb0 : Below w.heap.size w w0 := hbw.trans (hb.mono hbw.size)
  obtain ⟨v', w', g1, g2, g3, _⟩ := run_append_own_wide (P := Tryd.prog) w0 w.heap.size 22 ty 5 i _ 1 1 Tryd.underlying22 hi hz hs hby rfl (by omega) tv l.length _ h0 ⟨b, 0, none⟩ 1 1 [.int .u8 c.toNat]
    rfl (fun j u hj => by
      rw [Addr.add_mid]
      match j, hj with
      | 0, hj => simp at hj; subst hj; exact hc) (fun u hu => by simp at hu; subst hu; rfl) (by unfold maxLen; omega) (by omega) hb0.size
  refine ⟨v', w', g1, ?_, g3, hb0.grown g3 hb0.size (fun k hk => (World.ownsRow.lt h0 k hk).1)⟩
  unfold Bts
  rw [List.length_append, List.map_append]
  simpa using g2

theorem Stp.kept {w wr w2 : World} {ps : List Pc} {v tv : Value} {l : List UInt8} (h : Stp w ps v wr) (hb : Bts w l tv wr) (hg : wr.grownBy w2 tv.ownBlock) (hw : Below w.heap.size w w2) : Stp w ps v w2 :=
  ⟨hw, h.own.kept hg (rows_apart' h hb), h.lies⟩

end Go.Proofs.YtpniekfalckdcaaDoor
