/- The exact text of a term, as a list of bytes: two right terms with one exact text are one. A row of bytes of the call's own that grows; the walk of impl.addHead: what a term has beside its kids, written behind the bytes. What can be known, as plain functions over terms; and the walk of spec.l2Has: whether a term is among some; nothing that was there is written. A list of terms in a slice of its own, each term in blocks of its own: what append makes of it. The walks of spec.l2Pub and spec.l2Made: whether a right term can be put together of some; nothing that was there is written. How impl puts a term together by exact texts, as a plain function: of a term that is right it answers as the model does. The walks of impl.addExact and impl.exactText: the exact text of a right term, written behind the bytes of a row of the call's own; and as a string. The walks of laws.toTerm and laws.toTermS, and of impl.copyTerm: of whatever term lies in memory they make the same term, in new blocks of its own; nothing that was there is written. A term in the middle of its copy: cells of its own, whose kids are either copied already or still where they lay; what is still to be done is a list of places. What holds in the middle of impl.copyTerm: the term half copied, the row of places that are still to be done, the box of the result; one round's steps as lemmas. The walk of impl.copyTerm: of whatever term lies in memory it makes the same term, in new blocks of its own; nothing that was there is written. The walk of spec.l1Copy: of whatever term lies in memory it makes the same term, in new blocks of its own; nothing that was there is written. errors.Is, asked of the program's one named error: of that error itself true, of none false; nothing in memory turns. And the tables of strconv, and the variable that holds the error, carried from world to world. The boxes of an argument and of a result, a term in a block of its own, and the walk of impl.answer: the term in new blocks of its own, or zero where there is an error. The walks of spec.l3Ok and impl.newTerm: of whatever term lies in memory they answer it where it is right, else the zero term; the second in new blocks of its own; nothing that was there is written. The walks of spec.Hash and impl.Hash: of whatever term lies in memory they answer its hash where that is right, else the zero term; the second in new blocks of its own; nothing that was there is written. The walks of spec.Pub and impl.Pub: of whatever term lies in memory they answer its open half where that is right, else the zero term; the second in new blocks of its own; nothing that was there is written. The walks of spec.l3Two, spec.Pair and impl.Pair: of whatever two terms lie in memory they answer the term of both where that is right, else the zero term; the last in new blocks of its own; nothing that was there is written. The walks at a term with no kids: impl.copyTerm, laws.markTerm, laws.heldTerm; nothing that was there is written. The walks at a term with no kids: spec.l3Ok, impl.newTerm, spec.Atom, impl.Atom; nothing that was there is written. -/
import Derived.Test.YtbbidjckplpaiaaGreatDoorRl
import Derived.Lib.ItoaLen
import Derived.Test.YtbbidjckplpaiaaGreatDoorStk
import Derived.Test.YtbbidjckplpaiaaGreatDoorShelf
import Derived.Lib.AppendStr
import Derived.Lib.AppendIntMem
import Derived.Laws.IdiomStrings
import Derived.Test.YtbbidjckplpaiaaGreatDoorSa
import Derived.Deep.RegionHeld3
import Derived.Test.YtbbidjckplpaiaaGreatDoorOw
import Derived.Deep.DeepCutAuto
import Derived.Deep.LoopGhost
import Derived.Deep.RegionLaw
import Derived.LaidEql
import Derived.Stop.Asserts
import Derived.RowKitTokens
import Derived.Test.YtbbidjckplpaiaaGreatDoorAv
import Derived.RegionTactic
import Derived.Test.YtbbidjckplpaiaaGreatDoorEq
namespace Go.Proofs.YtbbidjckplpaiaaGreatDoor
open Go.RowKit Go.Deep

/-- The number that digits tell. -/
def undec (l : List UInt8) : Nat := l.foldl (fun z d => z * 10 + (d.toNat - 48)) 0
theorem undec_snoc (l : List UInt8) (d : UInt8) : undec (l ++ [d]) = undec l * 10 + (d.toNat - 48) := by simp [undec]
theorem dig_toNat {m : Nat} (h : m < 10) : (UInt8.ofNat (48 + m)).toNat = 48 + m := by
  rw [UInt8.toNat_ofNat']
  omega
theorem undec_dec : ∀ u : Nat, undec (Lib.decDigits u) = u
  | u => by
    rw [Lib.decDigits]
    split
    · rename_i h
      simp only [undec, List.foldl_cons, List.foldl_nil, dig_toNat h]
      omega
    · rename_i h
      rw [undec_snoc, undec_dec (u / 10), dig_toNat (by omega)]
      omega
theorem dec_digits : ∀ (u : Nat), ∀ d ∈ Lib.decDigits u, 48 ≤ d.toNat ∧ d.toNat ≤ 57
  | u, d, hd => by
    rw [Lib.decDigits] at hd
    split at hd
    · rename_i h
      simp only [List.mem_singleton] at hd
      subst hd
      rw [dig_toNat h]
      omega
    · rename_i h
      rw [List.mem_append, List.mem_singleton] at hd
      rcases hd with hd | rfl
      · exact dec_digits (u / 10) d hd
      · rw [dig_toNat (by omega)]
        omega
theorem dec_inj {a b : Nat} (h : Lib.decDigits a = Lib.decDigits b) : a = b := by rw [← undec_dec a, ← undec_dec b, h]
theorem itoa_inj {a b : Int} (h : Lib.itoa a = Lib.itoa b) : a = b := by
  have hd : ∀ (u : Nat) (l : List UInt8), Lib.decDigits u ≠ 45 :: l := fun u l e => by
    have := dec_digits u 45 (by rw [e]; simp)
    have h45 : (45 : UInt8).toNat = 45 := rfl
    omega
  unfold Lib.itoa at h
  split at h <;> split at h
  · have := dec_inj (List.cons.inj h).2
    omega
  · exact absurd h.symm (hd _ _)
  · exact absurd h (hd _ _)
  · have := dec_inj h
    omega
theorem itoa_no_space (a : Int) : (32 : UInt8) ∉ Lib.itoa a := fun hm => by
  have h32 : (32 : UInt8).toNat = 32 := rfl
  unfold Lib.itoa at hm
  split at hm
  · rcases List.mem_cons.1 hm with h | h
    · cases h
    · have := dec_digits _ _ h; omega
  · have := dec_digits _ _ hm; omega

/-- Up to the first blank. -/
theorem cut_inj : ∀ {x y : List UInt8} {r r' : List UInt8}, (32 : UInt8) ∉ x → (32 : UInt8) ∉ y → x ++ 32 :: r = y ++ 32 :: r' → x = y ∧ r = r'
  | [], [], _, _, _, _, h => ⟨rfl, (List.cons.inj h).2⟩
  | [], b :: y, _, _, _, hy, h => absurd (show (32 : UInt8) ∈ b :: y by have := (List.cons.inj h).1; simp [← this]) hy
  | a :: x, [], _, _, hx, _, h => absurd (show (32 : UInt8) ∈ a :: x by have := (List.cons.inj h).1; simp [this]) hx
  | a :: x, b :: y, _, _, hx, hy, h => by
    obtain ⟨rfl, h2⟩ := List.cons.inj h
    obtain ⟨rfl, rfl⟩ := cut_inj (fun hm => hx (by simp [hm])) (fun hm => hy (by simp [hm])) h2
    exact ⟨rfl, rfl⟩

/-- What a term has beside its kids. -/
def headX (op n : Int) (s : ByteArray) : List UInt8 := Lib.itoa op ++ 32 :: (Lib.itoa n ++ 32 :: (Lib.itoa (s.size : Int) ++ 32 :: s.toList))
mutual
def exT : Tm → List UInt8
  | .node op n s ks => headX op n s ++ exL ks
def exL : List Tm → List UInt8
  | [] => []
  | t :: r => exT t ++ exL r
end

theorem headX_inj {op n op' n' : Int} {s s' : ByteArray} {r r' : List UInt8} (h : headX op n s ++ r = headX op' n' s' ++ r') : op = op' ∧ n = n' ∧ s = s' ∧ r = r' := by
  unfold headX at h
  simp only [List.append_assoc, List.cons_append] at h
  obtain ⟨h1, h2⟩ := cut_inj (itoa_no_space _) (itoa_no_space _) h
  obtain ⟨h3, h4⟩ := cut_inj (itoa_no_space _) (itoa_no_space _) h2
  obtain ⟨h5, h6⟩ := cut_inj (itoa_no_space _) (itoa_no_space _) h4
  have hs : s.size = s'.size := by have := itoa_inj h5; omega
  have hl : s.toList.length = s'.toList.length := by rw [ByteArray.toList_eq, ByteArray.toList_eq]; simpa using hs
  obtain ⟨h7, h8⟩ := List.append_inj h6 hl
  exact ⟨itoa_inj h1, itoa_inj h3, toList_inj h7, h8⟩

mutual
theorem exT_inj : ∀ (t u : Tm) (r r' : List UInt8), rightT t = true → rightT u = true → exT t ++ r = exT u ++ r' → t = u ∧ r = r'
  | .node op n s ks, .node op' n' s' ks', r, r', ht, hu, h => by
    simp only [exT, List.append_assoc] at h
    obtain ⟨rfl, rfl, rfl, h2⟩ := headX_inj h
    simp only [rightT, Bool.and_eq_true] at ht hu
    have hk := headB_len ht.1.1
    have hk' := headB_len hu.1.1
    obtain ⟨rfl, rfl⟩ := exL_inj ks ks' r r' (by omega) ht.2 hu.2 h2
    exact ⟨rfl, rfl⟩
theorem exL_inj : ∀ (ks ks' : List Tm) (r r' : List UInt8), ks.length = ks'.length → rightL ks = true → rightL ks' = true → exL ks ++ r = exL ks' ++ r' → ks = ks' ∧ r = r'
  | [], [], _, _, _, _, _, h => ⟨rfl, by simpa [exL] using h⟩
  | [], _ :: _, _, _, hl, _, _, _ => by simp at hl
  | _ :: _, [], _, _, hl, _, _, _ => by simp at hl
  | t :: ks, u :: ks', r, r', hl, h1, h2, h => by
    simp only [rightL, Bool.and_eq_true] at h1 h2
    simp only [exL, List.append_assoc] at h
    obtain ⟨rfl, h3⟩ := exT_inj t u _ _ h1.1 h2.1 h
    obtain ⟨rfl, rfl⟩ := exL_inj ks ks' r r' (by simpa using hl) h1.2 h2.2 h3
    exact ⟨rfl, rfl⟩
end

/-- Two right terms with one exact text are one. -/
theorem ex_one {t u : Tm} (ht : rightT t = true) (hu : rightT u = true) (h : exT t = exT u) : t = u :=
  (exT_inj t u [] [] ht hu (by rw [h])).1

theorem info5 : (Tryz.prog.info? 5).map (fun i => (i.zero, i.size, i.bytes)) = some (some (.int .u8 0), 1, 1) := by kernel_rfl
/-- The bytes lie in a row of the call's own. -/
def Bts (w : World) (l : List UInt8) (v : Value) (wr : World) : Prop := wr.ownsRow w.heap.size 5 1 v l.length (l.map fun b => Value.int .u8 b.toNat)
theorem Bts.on {w wr w2 : World} {l : List UInt8} {v : Value} (h : Bts w l v wr) (hb : Below wr.heap.size wr w2) : Bts w l v w2 :=
  World.ownsRow.kept h (w' := w2) (row := none) ⟨hb.os, hb.tape, hb.output, hb.size, fun k hk _ => hb.block k hk⟩ (by cases v.ownBlock <;> simp)
theorem Bts.shape {w wr : World} {l : List UInt8} {v : Value} (h : Bts w l v wr) : ∃ a c, v = .slice a l.length c := by
  rcases h.2 with ⟨h1, h2⟩ | ⟨g, cap, cur, h1, _⟩
  · exact ⟨none, 0, by rw [h1, h2]⟩
  · exact ⟨_, _, h1⟩

/-- A text is written behind the bytes; what else is there stays. -/
theorem Bts.write {w wr : World} {l : List UInt8} {tv : Value} (h : Bts w l tv wr) (hbw : Below w.heap.size w wr) (m : List UInt8) (hn : l.length + m.length ≤ 1073741824) (ty : TypeId) :
    ∃ v' w', (Builtin.append_ #[164, 9] ty #[tv, .string ⟨m.toArray⟩]).run Tryz.prog wr = .ok v' w' ∧ Bts w (l ++ m) v' w' ∧ wr.grownBy w' tv.ownBlock ∧ Below w.heap.size w w' := by
  obtain ⟨i, hi, hzz⟩ := Option.map_eq_some_iff.1 info5
  simp only [Prod.mk.injEq] at hzz
  obtain ⟨hz, hs, hby⟩ := hzz
  have hsz : (⟨m.toArray⟩ : ByteArray).size = m.length := by simp [ByteArray.size]
  obtain ⟨v', w', g1, g2, g3, _⟩ := Lib.run_append_own_string (P := Tryz.prog) wr w.heap.size 164 9 ty 5 i Tryz.underlying164 Tryz.underlying9 hi hz hs hby tv l.length _ h ⟨m.toArray⟩ (by rw [hsz]; unfold maxLen; omega) (by rw [hsz]; omega) hbw.size
  refine ⟨v', w', g1, ?_, g3, hbw.grown g3 hbw.size (fun k hk => (World.ownsRow.lt h k hk).1)⟩
  unfold Bts
  rw [List.length_append, List.map_append]
  simpa [hsz, Lib.strCells] using g2

/-- One byte is written behind the bytes, out of a block of its own. -/
theorem Bts.put {w wr w0 : World} {l : List UInt8} {tv : Value} (h : Bts w l tv wr) (hbw : Below w.heap.size w wr) (c : UInt8) {b : Nat} (hb : Below wr.heap.size wr w0) (hc : w0.cell? ⟨b, 0, none⟩ = some (.int .u8 c.toNat)) (hn : l.length + 1 ≤ 1073741824) (ty : TypeId) :
    ∃ v' w', (Builtin.append_ #[164, 164] ty #[tv, .slice (some ⟨b, 0, none⟩) 1 1]).run Tryz.prog w0 = .ok v' w' ∧ Bts w (l ++ [c]) v' w' ∧ w0.grownBy w' tv.ownBlock ∧ Below w.heap.size w w' := by
  obtain ⟨i, hi, hzz⟩ := Option.map_eq_some_iff.1 info5
  simp only [Prod.mk.injEq] at hzz
  obtain ⟨hz, hs, hby⟩ := hzz
  have h0 := h.on hb
  have hb0 : Below w.heap.size w w0 := hbw.trans (hb.mono hbw.size)
  obtain ⟨v', w', g1, g2, g3, _⟩ := run_append_own_wide (P := Tryz.prog) w0 w.heap.size 164 ty 5 i _ 1 1 Tryz.underlying164 hi hz hs hby rfl (by omega) tv l.length _ h0 ⟨b, 0, none⟩ 1 1 [.int .u8 c.toNat]
    rfl (fun j u hj => by
      rw [Addr.add_mid]
      match j, hj with
      | 0, hj => simp at hj; subst hj; exact hc) (fun u hu => by simp at hu; subst hu; rfl) (by unfold maxLen; omega) (by omega) hb0.size
  refine ⟨v', w', g1, ?_, g3, hb0.grown g3 hb0.size (fun k hk => (World.ownsRow.lt h0 k hk).1)⟩
  unfold Bts
  rw [List.length_append, List.map_append]
  simpa using g2


theorem wpList_append_str {P : Program} {w : World} {ops : Array Oper} {rest : List Oper} {o : Oper} {a : Act} {Q : Exit → Act → World → Prop} (hgd : o.guard = none) (s x : Operand) (t t' : TypeId)
    (ho : o.op = .call { callee := .builtin .append, args := #[s, x], argTypes := #[t, t'] }) (v xv : Value) (hs : a.eval s = v) (hx : a.eval x = xv) (R : Value → World → Prop)
    (hrun : ∃ v' w', (Builtin.append_ #[t, t'] o.type #[v, xv]).run P w = .ok v' w' ∧ R v' w') (h : ∀ v' w', R v' w' → wpList P ops Q rest (a.put o.dst v') w') : wpList P ops Q (o :: rest) a w :=
  wpList_plain hgd fun K hK => by
    obtain ⟨v', w', hr, h2⟩ := hrun
    unfold Oper.wp execOp
    simp only [ho, resolve, invoke, builtin, Sem.run_bind, Sem.run_pure, Result.andThen_ok, List.map_toArray, List.map_cons, List.map_nil, hs, hx, hr]
    exact hK _ _ (h v' w' h2)

/-- The digit table is met, whatever is made from here on. -/
def TabB (w0 w : World) : Prop := Lib.TabBelow Tryz.prog w0.heap.size w "internal/strconv.uint64pow10" .u64 Lib.pow10Tab
theorem TabB.on {w0 w w' : World} (h : TabB w0 w) (hb : Below w0.heap.size w w') : TabB w0 w' := fun v hv => h v (hb.trans hv)

theorem num_calls' (w0 : World) (l : List UInt8) (tv : Value) (i : Int) (w : World) (h0 : -9223372036854775808 ≤ i) (h1 : i ≤ 9223372036854775807) (ho : Bts w0 l tv w) (hb : Below w0.heap.size w0 w) (hn : l.length ≤ 1000000) (ht : TabB w0 w) :
    Calls Tryz.prog 140 #[tv, .int .i64 i, .int .i64 10] w fun e w' => ∃ v', e = .returned v' ∧ Bts w0 (l ++ Lib.itoa i) v' w' ∧ Below w0.heap.size w w' ∧ Lib.OthersKept 5 none w w' :=
  (Tryz.strconv_AppendInt_10 w0.heap.size l.length i h0 h1 tv _ w ho hb.size (by omega) ht).mono fun e w' ⟨v', he, hown, hbe, hoth⟩ => ⟨v', he, by
    unfold Bts
    rw [List.length_append, List.map_append]
    exact hown, hbe, hoth⟩


theorem abD {w : World} (x : Obj) : Below w.heap.size w (w.alloc x) := (Below.refl _ _).alloc (Nat.le_refl _) _
theorem Bts.apart {w wr : World} {l : List UInt8} {v : Value} {b : Nat} {C : Array Value} {fr : Nat × Nat} (h : Bts w l v wr) (hr : wr.heap[b]? = some (.cells C 56 fr)) : some b ≠ v.ownBlock := by
  rcases h.2 with ⟨h1, _⟩ | ⟨g, cap, cur, h1, _, h2, _⟩
  · rw [h1]; simp [Value.ownBlock]
  · rw [h1]
    intro e
    simp only [Value.ownBlock, Option.some.injEq] at e
    subst e
    rw [h2] at hr
    simp at hr
theorem str_eq (s : ByteArray) : (⟨s.toList.toArray⟩ : ByteArray) = s := by
  apply toList_inj
  rw [ByteArray.toList_eq]
theorem Bts.text {w wr : World} {l : List UInt8} {tv : Value} (h : Bts w l tv wr) (hbw : Below w.heap.size w wr) (s : ByteArray) (hn : l.length + s.size ≤ 1073741824) (ty : TypeId) :
    ∃ v' w', (Builtin.append_ #[164, 9] ty #[tv, .string s]).run Tryz.prog wr = .ok v' w' ∧ Bts w (l ++ s.toList) v' w' ∧ wr.grownBy w' tv.ownBlock ∧ Below w.heap.size w w' := by
  have hsz : s.toList.length = s.size := by rw [ByteArray.toList_eq]; simp
  obtain ⟨v', w', h1, h2, h3, h4⟩ := h.write hbw s.toList (by omega) ty
  rw [str_eq] at h1
  exact ⟨v', w', h1, h2, h3, h4⟩

theorem idx0 (x0 x1 x2 : Value) (w : World) : (Instr.index 200 (.agg #[x0, x1, x2]) (.int .i64 0)).run Tryz.prog w = .ok x0 w := by kernel_rfl
theorem idx1 (x0 x1 x2 : Value) (w : World) : (Instr.index 200 (.agg #[x0, x1, x2]) (.int .i64 1)).run Tryz.prog w = .ok x1 w := by kernel_rfl
theorem idx2 (x0 x1 x2 : Value) (w : World) : (Instr.index 200 (.agg #[x0, x1, x2]) (.int .i64 2)).run Tryz.prog w = .ok x2 w := by kernel_rfl
/-- The three numbers ahead of the text. -/
def heads (op n : Int) (s : ByteArray) : List (List UInt8) := [Lib.itoa op ++ [32], Lib.itoa n ++ [32], Lib.itoa (s.size : Int) ++ [32]]
theorem heads_all (op n : Int) (s : ByteArray) : (heads op n s).flatten ++ s.toList = headX op n s := by simp [heads, headX]

/-- Whatever is no row of bytes stays. -/
def Oth (w w' : World) : Prop := Lib.OthersKept 5 none w w'
theorem Bts.oth {w wr w' a : World} {l : List UInt8} {v : Value} (h : Bts w l v wr) (ha : Oth a wr) (hg : wr.grownBy w' v.ownBlock) : Oth a w' :=
  Lib.OthersKept.grown ha hg (fun k hk => by
    rcases h.2 with ⟨h1, _⟩ | ⟨g, cap, cur, h1, _, h2, _⟩
    · rw [h1] at hk; simp [Value.ownBlock] at hk
    · rw [h1] at hk
      simp only [Value.ownBlock, Option.some.injEq] at hk
      subst hk
      exact ⟨_, _, h2⟩)
theorem Oth.row {w w' : World} {b : Nat} {C : Array Value} {ty : TypeId} {fr : Nat × Nat} (h : Oth w w') (hr : w.heap[b]? = some (.cells C ty fr)) (ht : ty ≠ 5) : w'.heap[b]? = some (.cells C ty fr) :=
  h _ _ hr (by simp) (by simp [ht])

theorem Oth.out {w w' : World} {o : Obj} (h : Oth (w.alloc o) w') : Oth w w' := Lib.OthersKept.trans (Lib.OthersKept.alloc (Lib.OthersKept.refl 5 none w) o) h
theorem Oth.go {w w' w2 : World} (h : Oth w w') (h2 : Oth w' w2) : Oth w w2 := Lib.OthersKept.trans h h2
theorem Oth.add {w w' : World} (h : Oth w w') (o : Obj) : Oth w (w'.alloc o) := Lib.OthersKept.alloc h o
theorem Oth.self (w : World) : Oth w w := Lib.OthersKept.refl 5 none w
theorem Oth.low {w w' w2 : World} (h : Oth w w') (hb : Below w'.heap.size w' w2) : Oth w w2 := fun k o hk hb' ho => (hb.block k (Array.getElem?_eq_some_iff.1 (h k o hk hb' ho)).1).trans (h k o hk hb' ho)

set_option maxRecDepth 100000 in
set_option maxHeartbeats 4000000 in
theorem head_calls (w0 : World) (l : List UInt8) (tv : Value) (op n : Int) (s : ByteArray) (a : Option Addr) (len cap : Nat) (w : World) (hop : -9223372036854775808 ≤ op ∧ op ≤ 9223372036854775807) (hn : -9223372036854775808 ≤ n ∧ n ≤ 9223372036854775807) (hs : s.size ≤ 300) (hl : l.length ≤ 500000) (ho : Bts w0 l tv w) (hb : Below w0.heap.size w0 w) (ht : TabB w0 w0) :
    Calls Tryz.prog 123 #[tv, .agg #[.int .i64 op, .int .i64 n, .string s, .slice a len cap]] w fun e w' => ∃ v', e = .returned v' ∧ Bts w0 (l ++ headX op n s) v' w' ∧ Below w0.heap.size w0 w' ∧ Oth w w' := by
  obtain ⟨ta, tc, rfl⟩ := ho.shape
  have hs' : (s.size : Int) ≤ 300 := by omega
  have HO := hide ho
  have HB := hide hb
  have HT0 : Hid (TabB w0 w0) := ht
  clear ho hb ht
  go_enter Tryz.func123, Tryz.ntmps123
  go_wp2_with fail
  have HL := hide hl
  have HOP := hide hop
  have HN := hide hn
  have HS := hide hs
  have HLN : Hid (∀ k, k ≤ 3 → (l ++ ((heads op n s).take k).flatten).length ≤ 600000) := fun k hk => by
    have e1 := Lib.itoa_length_le op hop.1 hop.2
    have e2 := Lib.itoa_length_le n hn.1 hn.2
    have e3 := Lib.itoa_length_le (s.size : Int) (by omega) (by omega)
    rcases (by omega : k = 0 ∨ k = 1 ∨ k = 2 ∨ k = 3) with rfl | rfl | rfl | rfl <;> simp [heads] <;> omega
  clear hop hn hs hl
  go_loopw [0, 15] (fun tv i wr => ∃ k : Nat, k ≤ 3 ∧ i = .int .i64 k ∧ Bts w0 (l ++ ((heads op n s).take k).flatten) tv wr ∧ Below w0.heap.size w0 wr ∧ Oth (w.alloc (.cells #[.int .i64 op, .int .i64 n, .string s, .slice a len cap] 56)) wr) (fun _ i _ => 3 - (intOf i).toNat)
  case atStart => exact ⟨0, by omega, rfl, by simpa using (unhide HO).on ((Below.refl _ _).alloc (Nat.le_refl _) _), (unhide HB).trans (((Below.refl _ _).alloc (Nat.le_refl _) _).mono (unhide HB).size), Oth.self _⟩
  case round =>
    obtain ⟨k, hk, rfl, hbt, hbw, hrow⟩ := hrel
    rcases (by omega : k = 0 ∨ k = 1 ∨ k = 2 ∨ k = 3) with hk0 | hk0 | hk0 | hk0
    · obtain rfl : k = 0 := by omega
      obtain ⟨ua, uc, rfl⟩ := hbt.shape
      have hlen : (l ++ ((heads op n s).take 0).flatten).length ≤ 600000 := unhide HLN 0 (by omega)
      have H65 := hide (num_calls' w0 _ _ op wr (unhide HOP).1 (unhide HOP).2 hbt hbw (by omega) ((unhide HT0).on hbw))
      have HROW := hide hrow
      have HBW := hide hbw
      clear hbt hbw hrow
      generalize (l ++ ((heads op n s).take 0).flatten).length = ul at *
      have hix := idx0 (.int .i64 op) (.int .i64 n) (.int .i64 (s.size : Int)) wr
      go_wp2_with fail
      refine (unhide H65).mono ?_
      rintro e w2 ⟨v2, rfl, hb2, hbe2, hoth2⟩
      have hbw2 := (unhide HBW).trans hbe2
      obtain ⟨va, vc, rfl⟩ := hb2.shape
      have hlen2 : (l ++ ((heads op n s).take 0).flatten ++ Lib.itoa op).length ≤ 700000 := by rw [List.length_append]; have hk := unhide HLN 0 (by omega); have := Lib.itoa_length_le op (unhide HOP).1 (unhide HOP).2; omega
      have HAP := hide (hb2.put hbw2 32 (b := w2.heap.size) (abD (.cells #[.int .u8 32] 5)) (box_cell w2 _ 5 0 _ rfl) (by omega) 164)
      have HR2 := hide (And.intro (((unhide HROW).go hoth2).add (.cells #[.int .u8 32] 5)) (hb2.on (abD (.cells #[.int .u8 32] 5))))
      generalize (l ++ ((heads op n s).take 0).flatten ++ Lib.itoa op).length = vl at *
      clear hb2 hbe2 hoth2 hbw2
      go_wp2_with (at_builtin; refine wpList_append_run rfl _ _ 164 rfl _ _ rfl rfl (fun v' w' => Bts w0 (l ++ ((heads op n s).take 0).flatten ++ Lib.itoa op ++ [32]) v' w' ∧ (w2.alloc (.cells #[.int .u8 32] 5)).grownBy w' (Value.slice va vl vc).ownBlock ∧ Below w0.heap.size w0 w') (unhide HAP) ?_; rintro v3 w3 ⟨hb3, hg3, hbw3⟩; have HB3 := hide hb3; have HG3 := hide hg3; have HW3 := hide hbw3; clear hb3 hg3 hbw3)
      go_roundw
      case rel =>
        refine ⟨1, by omega, by go_num, ?_, unhide HW3, ?_⟩
        · have := unhide HB3
          simpa [heads] using this
        · exact (unhide HR2).2.oth (unhide HR2).1 (unhide HG3)
      case measure => simp [intOf]
    · obtain rfl : k = 1 := by omega
      obtain ⟨ua, uc, rfl⟩ := hbt.shape
      have hlen : (l ++ ((heads op n s).take 1).flatten).length ≤ 600000 := unhide HLN 1 (by omega)
      have H65 := hide (num_calls' w0 _ _ n wr (unhide HN).1 (unhide HN).2 hbt hbw (by omega) ((unhide HT0).on hbw))
      have HROW := hide hrow
      have HBW := hide hbw
      clear hbt hbw hrow
      generalize (l ++ ((heads op n s).take 1).flatten).length = ul at *
      have hix := idx1 (.int .i64 op) (.int .i64 n) (.int .i64 (s.size : Int)) wr
      go_wp2_with fail
      refine (unhide H65).mono ?_
      rintro e w2 ⟨v2, rfl, hb2, hbe2, hoth2⟩
      have hbw2 := (unhide HBW).trans hbe2
      obtain ⟨va, vc, rfl⟩ := hb2.shape
      have hlen2 : (l ++ ((heads op n s).take 1).flatten ++ Lib.itoa n).length ≤ 700000 := by rw [List.length_append]; have hk := unhide HLN 1 (by omega); have := Lib.itoa_length_le n (unhide HN).1 (unhide HN).2; omega
      have HAP := hide (hb2.put hbw2 32 (b := w2.heap.size) (abD (.cells #[.int .u8 32] 5)) (box_cell w2 _ 5 0 _ rfl) (by omega) 164)
      have HR2 := hide (And.intro (((unhide HROW).go hoth2).add (.cells #[.int .u8 32] 5)) (hb2.on (abD (.cells #[.int .u8 32] 5))))
      generalize (l ++ ((heads op n s).take 1).flatten ++ Lib.itoa n).length = vl at *
      clear hb2 hbe2 hoth2 hbw2
      go_wp2_with (at_builtin; refine wpList_append_run rfl _ _ 164 rfl _ _ rfl rfl (fun v' w' => Bts w0 (l ++ ((heads op n s).take 1).flatten ++ Lib.itoa n ++ [32]) v' w' ∧ (w2.alloc (.cells #[.int .u8 32] 5)).grownBy w' (Value.slice va vl vc).ownBlock ∧ Below w0.heap.size w0 w') (unhide HAP) ?_; rintro v3 w3 ⟨hb3, hg3, hbw3⟩; have HB3 := hide hb3; have HG3 := hide hg3; have HW3 := hide hbw3; clear hb3 hg3 hbw3)
      go_roundw
      case rel =>
        refine ⟨2, by omega, by go_num, ?_, unhide HW3, ?_⟩
        · have := unhide HB3
          simpa [heads] using this
        · exact (unhide HR2).2.oth (unhide HR2).1 (unhide HG3)
      case measure => simp [intOf]
    · obtain rfl : k = 2 := by omega
      obtain ⟨ua, uc, rfl⟩ := hbt.shape
      have hlen : (l ++ ((heads op n s).take 2).flatten).length ≤ 600000 := unhide HLN 2 (by omega)
      have H65 := hide (num_calls' w0 _ _ (s.size : Int) wr (by omega) (by omega) hbt hbw (by omega) ((unhide HT0).on hbw))
      have HROW := hide hrow
      have HBW := hide hbw
      clear hbt hbw hrow
      generalize (l ++ ((heads op n s).take 2).flatten).length = ul at *
      have hix := idx2 (.int .i64 op) (.int .i64 n) (.int .i64 (s.size : Int)) wr
      go_wp2_with fail
      refine (unhide H65).mono ?_
      rintro e w2 ⟨v2, rfl, hb2, hbe2, hoth2⟩
      have hbw2 := (unhide HBW).trans hbe2
      obtain ⟨va, vc, rfl⟩ := hb2.shape
      have hlen2 : (l ++ ((heads op n s).take 2).flatten ++ Lib.itoa (s.size : Int)).length ≤ 700000 := by rw [List.length_append]; have hk := unhide HLN 2 (by omega); have := Lib.itoa_length_le (s.size : Int) (by omega) (by omega); omega
      have HAP := hide (hb2.put hbw2 32 (b := w2.heap.size) (abD (.cells #[.int .u8 32] 5)) (box_cell w2 _ 5 0 _ rfl) (by omega) 164)
      have HR2 := hide (And.intro (((unhide HROW).go hoth2).add (.cells #[.int .u8 32] 5)) (hb2.on (abD (.cells #[.int .u8 32] 5))))
      generalize (l ++ ((heads op n s).take 2).flatten ++ Lib.itoa (s.size : Int)).length = vl at *
      clear hb2 hbe2 hoth2 hbw2
      go_wp2_with (at_builtin; refine wpList_append_run rfl _ _ 164 rfl _ _ rfl rfl (fun v' w' => Bts w0 (l ++ ((heads op n s).take 2).flatten ++ Lib.itoa (s.size : Int) ++ [32]) v' w' ∧ (w2.alloc (.cells #[.int .u8 32] 5)).grownBy w' (Value.slice va vl vc).ownBlock ∧ Below w0.heap.size w0 w') (unhide HAP) ?_; rintro v3 w3 ⟨hb3, hg3, hbw3⟩; have HB3 := hide hb3; have HG3 := hide hg3; have HW3 := hide hbw3; clear hb3 hg3 hbw3)
      go_roundw
      case rel =>
        refine ⟨3, by omega, by go_num, ?_, unhide HW3, ?_⟩
        · have := unhide HB3
          simpa [heads] using this
        · exact (unhide HR2).2.oth (unhide HR2).1 (unhide HG3)
      case measure => simp [intOf]
    · obtain rfl : k = 3 := by omega
      obtain ⟨ua, uc, rfl⟩ := hbt.shape
      have hlen : (l ++ ((heads op n s).take 3).flatten).length ≤ 600000 := unhide HLN 3 (by omega)
      have HAP := hide (hbt.text hbw s (by have := unhide HS; omega) 164)
      have HROW := hide hrow
      have HBT := hide hbt
      have d2 := cell_of_row (hrow.row (heap_alloc_new w _) (by decide)) (j := 2) (by simp)
      simp only [List.getElem_toArray, List.getElem_cons_zero, List.getElem_cons_succ] at d2
      generalize (l ++ ((heads op n s).take 3).flatten).length = ul at *
      clear hbt hbw hrow
      go_wp2_with (at_builtin; refine wpList_append_str rfl _ _ 164 9 rfl _ _ rfl rfl (fun v' w' => Bts w0 (l ++ ((heads op n s).take 3).flatten ++ s.toList) v' w' ∧ wr.grownBy w' (Value.slice ua ul uc).ownBlock ∧ Below w0.heap.size w0 w') (unhide HAP) ?_; rintro v3 w3 ⟨hb3, hg3, hbw3⟩; have HB3 := hide hb3; have HG3 := hide hg3; have HW3 := hide hbw3; clear hb3 hg3 hbw3)
      go_ret
      refine ⟨_, rfl, ?_, unhide HW3, ((unhide HBT).oth (unhide HROW) (unhide HG3)).out⟩
      have h9 := unhide HB3
      rw [List.append_assoc, show (heads op n s).take 3 = heads op n s from rfl, heads_all] at h9
      exact h9

/-- Whether a term is among some. -/
def hasB (ps : List Tm) (t : Tm) : Bool := ps.any fun p => sameB p t
theorem hasB_take {ps : List Tm} {t : Tm} {k : Nat} (hk : k < ps.length) : hasB (ps.take (k + 1)) t = (hasB (ps.take k) t || sameB ps[k] t) := by
  unfold hasB
  rw [Tm.take_succ_get (t := ps[k]) (by simp [hk]), List.any_append]
  simp

set_option maxRecDepth 100000 in
set_option maxHeartbeats 2000000 in
theorem has_calls (ps : List Tm) (t : Tm) (pa : Option Addr) (pcap : Nat) (op n : Int) (s : ByteArray) (a : Option Addr) (len cap : Nat) (w : World) (hk : LiesAll w 0 pa 0 ps) (hl : Lies w 0 t (tmCells op n s a len cap)) (hpl : ps.length ≤ 2097152) :
    Calls Tryz.prog 80 #[.slice pa ps.length pcap, .agg #[.int .i64 op, .int .i64 n, .string s, .slice a len cap]] w fun e w' => e = .returned (.bool (hasB ps t)) ∧ Below w.heap.size w w' := by
  have hB0 : Below w.heap.size w (w.alloc (.cells #[.int .i64 op, .int .i64 n, .string s, .slice a len cap] 56)) := (Below.refl _ _).alloc (Nat.le_refl _) _
  have HK := hide (hk.below hB0)
  have HL := hide (hl.below hB0)
  have HB0 := hide hB0
  have HBX : Hid (∀ j v, (#[.int .i64 op, .int .i64 n, .string s, .slice a len cap] : Array Value)[j]? = some v → (w.alloc (.cells #[.int .i64 op, .int .i64 n, .string s, .slice a len cap] 56)).cell? ⟨w.heap.size, j, none⟩ = some v) := fun j v hj => box_cell w _ 56 j v hj
  have HSA : Hid (∀ p : Tm, SaOk p) := sa_calls
  have hlb : (ps.length : Int) ≤ 2097152 := by omega
  generalize hlen : ps.length = plen at *
  have HLN := hide hlen
  clear hk hl hB0 hlen
  go_enter Tryz.func80, Tryz.ntmps80
  go_wp2_with fail
  generalize hgw : w.alloc (.cells #[.int .i64 op, .int .i64 n, .string s, .slice a len cap] 56) = W0 at *
  have HS0 : Hid (W0.heap.size = w.heap.size + 1) := by show _ = _; rw [← hgw]; simp
  go_loopw [5] (fun i wr => ∃ k : Nat, k ≤ plen ∧ i = .int .i64 k ∧ hasB (ps.take k) t = false ∧ Below W0.heap.size W0 wr) (fun i _ => plen - (intOf i).toNat)
  case atStart => exact ⟨0, Nat.zero_le _, rfl, by simp [hasB], by rw [← hgw]; exact Below.refl _ _⟩
  case round =>
    obtain ⟨k, hkl, rfl, hno, hb⟩ := hrel
    have HNO := hide hno
    have HB := hide hb
    have HBW := hide ((unhide HB0).trans (hb.mono (by have := unhide HS0; omega)))
    clear hno
    by_cases hlt : k < plen
    · have hlt' : k < ps.length := by have := unhide HLN; omega
      obtain ⟨b, o, op1, n1, s1, a1, len1, cap1, rfl, _, hbs, c0, c1, c2, c3, hT⟩ := (unhide HK).elem (k := k) hlt'
      have HT := hide (hT.below hb)
      have c0 := (hb.cell (p := ⟨b, o + k * 4, none⟩) hbs).trans c0
      have c1 := (hb.cell (p := ⟨b, o + k * 4 + 1, none⟩) hbs).trans c1
      have c2 := (hb.cell (p := ⟨b, o + k * 4 + 2, none⟩) hbs).trans c2
      have c3 := (hb.cell (p := ⟨b, o + k * 4 + 3, none⟩) hbs).trans c3
      have HLW := hide ((unhide HL).below hb)
      have d0 := keepc hb (unhide HBX 0 _ rfl)
      have d1 := keepc hb (unhide HBX 1 _ rfl)
      have d2 := keepc hb (unhide HBX 2 _ rfl)
      have d3 := keepc hb (unhide HBX 3 _ rfl)
      have H47 := hide (unhide HSA ps[k] t op1 n1 s1 a1 len1 cap1 op n s a len cap)
      have HST : Hid (hasB (ps.take (k + 1)) t = (false || sameB ps[k] t)) := by show _ = _; rw [hasB_take hlt', unhide HNO]
      have HHT : Hid (sameB ps[k] t = true → hasB ps t = true) := fun h => by
        unfold hasB
        exact List.any_eq_true.2 ⟨ps[k], List.getElem_mem hlt', h⟩
      generalize sameB ps[k] t = sb at *
      clear hT hb HB0 HK HL HBX
      go_wp2_with fail
      go_region_held3 (fun x => x.cell? ⟨w.heap.size, 0, none⟩ = some (.int .i64 op) ∧ x.cell? ⟨w.heap.size, 1, none⟩ = some (.int .i64 n) ∧ x.cell? ⟨w.heap.size, 2, none⟩ = some (.string s) ∧ x.cell? ⟨w.heap.size, 3, none⟩ = some (.slice a len cap) ∧ x.cell? ⟨b, o + k * 4, none⟩ = some (.int .i64 op1) ∧ x.cell? ⟨b, o + k * 4 + 1, none⟩ = some (.int .i64 n1) ∧ x.cell? ⟨b, o + k * 4 + 2, none⟩ = some (.string s1) ∧ x.cell? ⟨b, o + k * 4 + 3, none⟩ = some (.slice a1 len1 cap1)) (go_keep)
        (first
          | (go_at_call 110
             refine (unhide H47 _ ((unhide HT).below ((Below.refl _ _).drew)) ((unhide HLW).below ((Below.refl _ _).drew))).mono ?_
             rintro e w2 ⟨rfl, hb2⟩
             have hb2' := hide (below_drw hb2)
             have f0 := keepc (unhide hb2') c0
             have f1 := keepc (unhide hb2') c1
             have f2 := keepc (unhide hb2') c2
             have f3 := keepc (unhide hb2') c3
             have f4 := keepc (unhide hb2') d0
             have f5 := keepc (unhide hb2') d1
             have f6 := keepc (unhide hb2') d2
             have f7 := keepc (unhide hb2') d3
             clear hb2))
      clear c0 c1 c2 c3 d0 d1 d2 d3 f0 f1 f2 f3 f4 f5 f6 f7
      cases sb with
      | true =>
        go_wp2_with fail
        go_ret
        exact ⟨ret_bool (unhide HHT trivial).symm, (unhide HBW).trans ((unhide hb2').mono (unhide HBW).size)⟩
      | false =>
        go_wp2_with fail
        go_roundw
        case rel => exact ⟨k + 1, by omega, by go_num, unhide HST, (unhide HB).trans ((unhide hb2').mono (unhide HB).size)⟩
        case measure => simp [intOf]; omega
    · go_wp2_with fail
      go_ret
      refine ⟨ret_bool ?_, unhide HBW⟩
      have h := unhide HNO
      rw [List.take_of_length_le (by have := unhide HLN; omega)] at h
      exact h.symm

/-- The kids of a term, in blocks of their own. -/
def KidsOwn (w : World) (a : Option Addr) (ks : List Tm) (fp : List Nat) : Prop :=
  (ks = [] ∧ fp = []) ∨ ∃ b C f, a = some ⟨b, 0, none⟩ ∧ fp = b :: f ∧ w.heap[b]? = some (.cells C 56 (0, 0)) ∧ OwnAll w b 0 ks f

theorem lt_of_heap {w : World} {b : Nat} {o : Obj} (h : w.heap[b]? = some o) : b < w.heap.size := (Array.getElem?_eq_some_iff.1 h).1

mutual
theorem Own.lt {w : World} : ∀ (t : Tm) (cs : List Value) (fp : List Nat), Own w t cs fp → ∀ x ∈ fp, x < w.heap.size
  | .node op n s ks, cs, fp, h, x, hx => by
    simp only [Own] at h
    obtain ⟨a, cap, h1, h2, h3, h4⟩ := h
    rcases h4 with ⟨_, rfl⟩ | ⟨b, C, f, ha, rfl, hb, hk⟩
    · cases hx
    · rcases List.mem_cons.1 hx with rfl | hx
      · exact lt_of_heap hb
      · exact OwnAll.lt b 0 ks f hk x hx
theorem OwnAll.lt {w : World} (b : Nat) : ∀ (i : Nat) (ks : List Tm) (fp : List Nat), OwnAll w b i ks fp → ∀ x ∈ fp, x < w.heap.size
  | i, [], fp, h, x, hx => by
    simp only [OwnAll] at h
    subst h
    cases hx
  | i, t :: r, fp, h, x, hx => by
    simp only [OwnAll] at h
    obtain ⟨cs, f1, f2, rfl, hr, ht, hk⟩ := h
    rcases List.mem_append.1 hx with hx | hx
    · exact Own.lt t cs f1 ht x hx
    · exact OwnAll.lt b (i + 1) r f2 hk x hx
end

theorem KidsOwn.lt {w : World} {a : Option Addr} {ks : List Tm} {fp : List Nat} (h : KidsOwn w a ks fp) : ∀ x ∈ fp, x < w.heap.size := by
  intro x hx
  rcases h with ⟨_, rfl⟩ | ⟨b, C, f, ha, rfl, hb, hk⟩
  · cases hx
  · rcases List.mem_cons.1 hx with rfl | hx
    · exact lt_of_heap hb
    · exact OwnAll.lt b 0 ks f hk x hx

theorem KidsOwn.keep {w w' : World} {a : Option Addr} {ks : List Tm} {fp : List Nat} (h : KidsOwn w a ks fp) (hf : ∀ b ∈ fp, w'.heap[b]? = w.heap[b]?) : KidsOwn w' a ks fp := by
  rcases h with h | ⟨b, C, f, ha, rfl, hb, hk⟩
  · exact Or.inl h
  · exact Or.inr ⟨b, C, f, ha, rfl, (hf b (by simp)).trans hb, OwnAll.keep b 0 ks f hk (fun j _ _ => World.cell?_of_block (hf b (by simp))) fun x hx => hf x (by simp [hx])⟩

theorem Own.kids {w : World} {op n : Int} {s : ByteArray} {ks : List Tm} {cs : List Value} {fp : List Nat} (h : Own w (.node op n s ks) cs fp) :
    ∃ a cap, cs = tmCells op n s a ks.length cap ∧ (s.size ≤ maxLen ∧ ks.length ≤ cap ∧ cap ≤ maxLen) ∧ ((Lit.int .i64 op).wf = true ∧ (Lit.int .i64 n).wf = true) ∧ KidsOwn w a ks fp := by
  simp only [Own] at h
  exact h

theorem Own.of_kids {w : World} {op n : Int} {s : ByteArray} {ks : List Tm} {a : Option Addr} {cap : Nat} {fp : List Nat} (h1 : s.size ≤ maxLen ∧ ks.length ≤ cap ∧ cap ≤ maxLen)
    (h2 : (Lit.int .i64 op).wf = true ∧ (Lit.int .i64 n).wf = true) (hk : KidsOwn w a ks fp) : Own w (.node op n s ks) (tmCells op n s a ks.length cap) fp := by
  simp only [Own]
  exact ⟨a, cap, rfl, h1, h2, hk⟩

theorem KidsOwn.lies {w : World} {a : Option Addr} {ks : List Tm} {fp : List Nat} (h : KidsOwn w a ks fp) : LiesAll w 0 a 0 ks := by
  rcases h with ⟨rfl, _⟩ | ⟨b, C, f, rfl, rfl, hb, hk⟩
  · simp [LiesAll]
  · exact OwnAll.lies b (Nat.zero_le _) 0 ks f hk fun x _ => Nat.zero_le x

/-- Terms in a row, each with its cells and blocks. -/
def OwnRow (w : World) : List Tm → List Value → List Nat → Prop
  | [], xs, f => xs = [] ∧ f = []
  | t :: r, xs, f => ∃ cs xs' f1 f2, xs = cs ++ xs' ∧ f = f1 ++ f2 ∧ Own w t cs f1 ∧ OwnRow w r xs' f2

theorem OwnRow.length {w : World} : ∀ {ks : List Tm} {xs : List Value} {f : List Nat}, OwnRow w ks xs f → xs.length = ks.length * 4
  | [], xs, f, h => by simp only [OwnRow] at h; simp [h.1]
  | t :: r, xs, f, h => by
    simp only [OwnRow] at h
    obtain ⟨cs, xs', f1, f2, rfl, rfl, ht, hr⟩ := h
    have := ht.length
    have := hr.length
    simp only [List.length_append, List.length_cons]
    omega

theorem OwnRow.lt {w : World} : ∀ {ks : List Tm} {xs : List Value} {f : List Nat}, OwnRow w ks xs f → ∀ x ∈ f, x < w.heap.size
  | [], xs, f, h, x, hx => by simp only [OwnRow] at h; rw [h.2] at hx; cases hx
  | t :: r, xs, f, h, x, hx => by
    simp only [OwnRow] at h
    obtain ⟨cs, xs', f1, f2, rfl, rfl, ht, hr⟩ := h
    rcases List.mem_append.1 hx with hx | hx
    · exact Own.lt t cs f1 ht x hx
    · exact hr.lt x hx

theorem OwnRow.keep {w w' : World} : ∀ {ks : List Tm} {xs : List Value} {f : List Nat}, OwnRow w ks xs f → (∀ b ∈ f, w'.heap[b]? = w.heap[b]?) → OwnRow w' ks xs f
  | [], xs, f, h, _ => by simp only [OwnRow] at h ⊢; exact h
  | t :: r, xs, f, h, hf => by
    simp only [OwnRow] at h ⊢
    obtain ⟨cs, xs', f1, f2, rfl, rfl, ht, hr⟩ := h
    exact ⟨cs, xs', f1, f2, rfl, rfl, Own.keep t cs f1 ht fun b hb => hf b (by simp [hb]), hr.keep fun b hb => hf b (by simp [hb])⟩

theorem OwnRow.snoc {w : World} {t : Tm} {cs : List Value} {f1 : List Nat} (ht : Own w t cs f1) : ∀ {ks : List Tm} {xs : List Value} {f : List Nat}, OwnRow w ks xs f → OwnRow w (ks ++ [t]) (xs ++ cs) (f ++ f1)
  | [], xs, f, h => by
    simp only [OwnRow] at h
    obtain ⟨rfl, rfl⟩ := h
    simp only [List.nil_append, OwnRow]
    exact ⟨cs, [], f1, [], by simp, by simp, ht, rfl, rfl⟩
  | x :: r, xs, f, h => by
    simp only [OwnRow] at h
    obtain ⟨c1, xs', g1, g2, rfl, rfl, hx, hr⟩ := h
    simp only [List.cons_append, OwnRow]
    exact ⟨c1, xs' ++ cs, g1, g2 ++ f1, by simp, by simp, hx, OwnRow.snoc ht hr⟩

theorem OwnRow.all {w : World} {b : Nat} : ∀ {i : Nat} {ks : List Tm} {xs : List Value} {f : List Nat}, OwnRow w ks xs f → w.rangeAt b (i * 4) xs → OwnAll w b i ks f
  | i, [], xs, f, h, _ => by simp only [OwnRow] at h; simp only [OwnAll]; exact h.2
  | i, t :: r, xs, f, h, hc => by
    simp only [OwnRow] at h
    obtain ⟨cs, xs', f1, f2, rfl, rfl, ht, hr⟩ := h
    have h4 := ht.length
    simp only [OwnAll]
    refine ⟨cs, f1, f2, rfl, fun j v hj => hc j v ?_, ht, OwnRow.all hr fun j v hj => ?_⟩
    · rw [List.getElem?_append_left (List.getElem?_eq_some_iff.1 hj).1]
      exact hj
    · have := hc (4 + j) v (by rw [List.getElem?_append_right (by omega), show 4 + j - cs.length = j by omega]; exact hj)
      rw [show (i + 1) * 4 + j = i * 4 + (4 + j) by omega]
      exact this

/-- The list as it grows: its slice is the value v, its terms lie in the blocks f, all from B on. -/
structure Grow (B : Nat) (ks : List Tm) (v : Value) (f : List Nat) (w : World) : Prop where
  row : ∃ xs, w.ownsRow B 56 4 v ks.length xs ∧ OwnRow w ks xs f
  nd : f.Nodup
  ge : ∀ x ∈ f, B ≤ x
  out : ∀ g, v.ownBlock = some g → g ∉ f

theorem Grow.start (B : Nat) (w : World) : Grow B [] (.slice none 0 0) [] w :=
  ⟨⟨[], World.ownsRow_nil w B 56 4, by simp [OwnRow]⟩, by simp, by simp, by simp⟩

theorem Grow.lt {B : Nat} {ks : List Tm} {v : Value} {f : List Nat} {w : World} (h : Grow B ks v f w) : ∀ x ∈ f, x < w.heap.size := by
  obtain ⟨xs, _, hr⟩ := h.row
  exact hr.lt

theorem Grow.own_lt {B : Nat} {ks : List Tm} {v : Value} {f : List Nat} {w : World} (h : Grow B ks v f w) : ∀ g, v.ownBlock = some g → B ≤ g ∧ g < w.heap.size := by
  obtain ⟨xs, ho, _⟩ := h.row
  exact ho.lt

theorem Grow.carry {B : Nat} {ks : List Tm} {v : Value} {f : List Nat} {w w' : World} (h : Grow B ks v f w) (hb : Below w.heap.size w w') : Grow B ks v f w' := by
  obtain ⟨xs, ho, hr⟩ := h.row
  refine ⟨⟨xs, ?_, hr.keep fun b hbf => hb.block b (hr.lt b hbf)⟩, h.nd, h.ge, h.out⟩
  exact ho.kept (row := none) ⟨hb.os, hb.tape, hb.output, hb.size, fun k hk _ => hb.block k hk⟩ (by
    cases v.ownBlock with
    | none => exact Or.inl rfl
    | some g => exact Or.inr (by simp))

theorem Grow.shape {B : Nat} {ks : List Tm} {v : Value} {f : List Nat} {w : World} (h : Grow B ks v f w) : ∃ a c, v = .slice a ks.length c ∧ ks.length ≤ c ∧ c ≤ maxLen := by
  obtain ⟨xs, ho, _⟩ := h.row
  rcases ho.2 with ⟨h1, h2⟩ | ⟨g, cap, cur, h1, _, _, h2, h3, _⟩
  · exact ⟨none, 0, by rw [h2]; exact h1, by omega, by simp⟩
  · exact ⟨_, _, h1, h2, h3⟩

theorem Grow.kids {B : Nat} {ks : List Tm} {v : Value} {f : List Nat} {w : World} (h : Grow B ks v f w) :
    ∃ a cap fp, v = .slice a ks.length cap ∧ ks.length ≤ cap ∧ cap ≤ maxLen ∧ KidsOwn w a ks fp ∧ fp.Nodup ∧ ∀ x ∈ fp, B ≤ x := by
  obtain ⟨xs, ho, hr⟩ := h.row
  rcases ho.2 with ⟨h1, h2⟩ | ⟨g, cap, cur, h1, h2, h3, h4, h5, h6, h7⟩
  · have : ks = [] := List.length_eq_zero_iff.1 h2
    subst this
    exact ⟨none, 0, [], by simpa using h1, by simp, by simp, Or.inl ⟨rfl, rfl⟩, by simp, by simp⟩
  · refine ⟨some ⟨g, 0, none⟩, cap, g :: f, h1, h4, h5, Or.inr ⟨g, cur, f, rfl, rfl, h3, hr.all ?_⟩, List.nodup_cons.2 ⟨h.out g (by rw [h1]; rfl), h.nd⟩, fun x hx => ?_⟩
    · intro j u hj
      have := ho.cells (g := g) (by rw [h1]; rfl) j u hj
      rw [Addr.add_mid] at this
      simpa using this
    · rcases List.mem_cons.1 hx with rfl | hx
      · exact h2
      · exact h.ge x hx

theorem info24 : (Tryz.prog.info? 56).map (fun i => (i.zero, i.size, i.bytes)) = some (some (.agg #[.int .i64 0, .int .i64 0, .string ByteArray.empty, .slice none 0 0]), 4, 56) := by kernel_rfl

theorem Own.one {w : World} {t : Tm} {cs : List Value} {fp : List Nat} (h : Own w t cs fp) : ∀ u ∈ cs, u.oneCell' = true :=
  (Own.lies (L := 0) t cs fp h fun _ _ => Nat.zero_le _).one

/-- A term more. -/
theorem Grow.push {B : Nat} {ks : List Tm} {v : Value} {f : List Nat} {w : World} (h : Grow B ks v f w) {t : Tm} {cs : List Value} {f1 : List Nat} (ht : Own w t cs f1) (hnd : f1.Nodup) (hge : ∀ x ∈ f1, B ≤ x)
    (hd : ∀ x ∈ f1, x ∉ f) (hv : ∀ g, v.ownBlock = some g → g ∉ f1) {b o : Nat} (hr : w.rangeAt b o cs) (c : Nat) (hn : ks.length ≤ 4194304) (hB : B ≤ w.heap.size) (ty : TypeId) :
    ∃ v' w', (Builtin.append_ #[33, 33] ty #[v, .slice (some ⟨b, o, none⟩) 1 c]).run Tryz.prog w = .ok v' w' ∧ Grow B (ks ++ [t]) v' (f ++ f1) w' ∧ Below B w w' := by
  obtain ⟨xs, ho, hrow⟩ := h.row
  obtain ⟨i, hi, hzz⟩ := Option.map_eq_some_iff.1 info24
  simp only [Prod.mk.injEq] at hzz
  obtain ⟨hz, hs, hb⟩ := hzz
  have h4 := ht.length
  have hnews : ∀ j u, cs[j]? = some u → w.cell? ((⟨b, o, none⟩ : Addr).add j) = some u := fun j u hj => by rw [Addr.add_mid]; exact hr j u hj
  obtain ⟨v', w', g1, g2, g3, g4⟩ := run_append_own_wide (P := Tryz.prog) w B 33 ty 56 i _ 4 56 Tryz.underlying33 hi hz hs hb rfl (by omega) v ks.length xs ho ⟨b, o, none⟩ 1 c cs (by omega) hnews ht.one
    (by unfold maxLen; omega) (by omega) hB
  have hwhere : ∀ g, v'.ownBlock = some g → v.ownBlock = some g ∨ w.heap.size ≤ g := by
    intro g hg
    rcases ho.2 with ⟨rfl, hn0⟩ | ⟨g0, cap, cur, rfl, hbg, hg0, hnc, hcm, hcs, htake⟩
    · have hx : xs = [] := List.eq_nil_of_length_eq_zero (by rw [ho.1, hn0])
      subst hx
      obtain ⟨v2, w2, k1, k2, _⟩ := run_append_own_wide (P := Tryz.prog) w w.heap.size 33 ty 56 i _ 4 56 Tryz.underlying33 hi hz hs hb rfl (by omega) (.slice none 0 0) ks.length [] (by rw [hn0]; exact World.ownsRow_nil w _ 56 4) ⟨b, o, none⟩ 1 c cs (by omega) hnews ht.one
        (by unfold maxLen; omega) (by omega) (Nat.le_refl _)
      rw [g1] at k1
      injection k1 with k1 k1'
      subst k1
      exact Or.inr (k2.lt g hg).1
    · by_cases hroom : ks.length + 1 ≤ cap
      · have k1 := run_append_room (P := Tryz.prog) w 33 ty 56 i Tryz.underlying33 hi g0 ks.length cap cur hg0 ⟨b, o, none⟩ 1 c cs (by omega) hnews ht.one hroom (by rw [hs, hcs]; omega)
        rw [g1] at k1
        injection k1 with k1 k1'
        subst k1
        exact Or.inl hg
      · have holds : ∀ j u, xs[j]? = some u → w.cell? ((⟨g0, 0, none⟩ : Addr).add j) = some u := ho.cells (g := g0) rfl
        have k1 := run_append_grow (P := Tryz.prog) w 33 ty 56 i _ Tryz.underlying33 hi hz ⟨g0, 0, none⟩ ks.length cap xs (by rw [hs]; exact ho.1) holds ⟨b, o, none⟩ 1 c cs (by omega) hnews (by omega) (by omega) (by rw [hb]; exact growslice_fits_wide (by omega) (by omega))
        rw [g1] at k1
        injection k1 with k1 k1'
        subst k1
        simp only [Value.ownBlock, Option.some.injEq] at hg
        exact Or.inr (by omega)
  have hkeep : ∀ x, x < w.heap.size → (∀ g, v.ownBlock = some g → x ≠ g) → w'.heap[x]? = w.heap[x]? := fun x hx hne => g3.block x hx fun e => hne x e.symm rfl
  refine ⟨v', w', g1, ⟨⟨xs ++ cs, by simpa using g2, OwnRow.snoc (Own.keep t cs f1 ht fun x hx => hkeep x (Own.lt t cs f1 ht x hx) fun g hg e => hv g hg (e ▸ hx)) (hrow.keep fun x hx => hkeep x (hrow.lt x hx) fun g hg e => h.out g hg (e ▸ hx))⟩, ?_, ?_, ?_⟩, ?_⟩
  · exact List.nodup_append.2 ⟨h.nd, hnd, fun x hx y hy e => hd y hy (e ▸ hx)⟩
  · intro x hx
    rcases List.mem_append.1 hx with hx | hx
    · exact h.ge x hx
    · exact hge x hx
  · intro g hg hx
    rcases hwhere g hg with hg' | hg'
    · rcases List.mem_append.1 hx with hx | hx
      · exact h.out g hg' hx
      · exact hv g hg' hx
    · rcases List.mem_append.1 hx with hx | hx
      · have := hrow.lt g hx; omega
      · have := Own.lt t cs f1 ht g hx; omega
  · exact (Below.refl B w).grown g3 hB fun k hk => (ho.lt k hk).1

/-- The box of an argument, and behind it the box of a result. -/
theorem boxes2 {w W0 w2 : World} {op n : Int} {s : ByteArray} {a : Option Addr} {len cap : Nat}
    (hW : (w.alloc (.cells #[.int .i64 op, .int .i64 n, .string s, .slice a len cap] 56)).alloc (.cells #[.int .i64 0, .int .i64 0, .string ByteArray.empty, .slice none 0 0] 56) = W0) (hb : Below W0.heap.size W0 w2) :
    (w2.cell? ⟨w.heap.size, 0, none⟩ = some (.int .i64 op) ∧ w2.cell? ⟨w.heap.size, 1, none⟩ = some (.int .i64 n) ∧ w2.cell? ⟨w.heap.size, 2, none⟩ = some (.string s) ∧ w2.cell? ⟨w.heap.size, 3, none⟩ = some (.slice a len cap)) ∧
    (w2.cell? ⟨w.heap.size + 1, 0, none⟩ = some (.int .i64 0) ∧ w2.cell? ⟨w.heap.size + 1, 1, none⟩ = some (.int .i64 0) ∧ w2.cell? ⟨w.heap.size + 1, 2, none⟩ = some (.string ByteArray.empty) ∧ w2.cell? ⟨w.heap.size + 1, 3, none⟩ = some (.slice none 0 0)) ∧
    (w2.frozen? ⟨w.heap.size + 1, 0, none⟩ = false ∧ w2.frozen? ⟨w.heap.size + 1, 1, none⟩ = false ∧ w2.frozen? ⟨w.heap.size + 1, 2, none⟩ = false ∧ w2.frozen? ⟨w.heap.size + 1, 3, none⟩ = false) := by
  subst hW
  have h1 : w2.heap[w.heap.size + 1]? = some (.cells #[.int .i64 0, .int .i64 0, .string ByteArray.empty, .slice none 0 0] 56) := by
    rw [hb.block _ (by simp)]
    have := heap_alloc_new (w.alloc (.cells #[.int .i64 op, .int .i64 n, .string s, .slice a len cap] 56)) (.cells #[.int .i64 0, .int .i64 0, .string ByteArray.empty, .slice none 0 0] 56)
    rwa [heap_size_alloc] at this
  have h2 : w2.heap[w.heap.size]? = some (.cells #[.int .i64 op, .int .i64 n, .string s, .slice a len cap] 56) := by
    rw [hb.block _ (by simp; omega), heap_alloc_old _ _ (by simp)]
    exact heap_alloc_new w _
  exact ⟨⟨cell_of_row h2 (by simp), cell_of_row h2 (by simp), cell_of_row h2 (by simp), cell_of_row h2 (by simp)⟩, ⟨cell_of_row h1 (by simp), cell_of_row h1 (by simp), cell_of_row h1 (by simp), cell_of_row h1 (by simp)⟩, frozen_of_row h1, frozen_of_row h1, frozen_of_row h1, frozen_of_row h1⟩

/-- The open half of a term. -/
def pubT (t : Tm) : Tm := .node 4 0 ByteArray.empty [t]
mutual
/-- Whether a term can be put together of some. -/
def mkB (ps : List Tm) : Tm → Bool
  | .node op n s ks => (decide (op = 2) || hasB ps (.node op n s ks)) || (decide (op ≠ 1) && (if op = 5 then mkS ps ks else mkL ps ks))
def mkL (ps : List Tm) : List Tm → Bool
  | [] => true
  | t :: r => mkB ps t && mkL ps r
def mkS (ps : List Tm) : List Tm → Bool
  | [x, y] => (mkB ps x && (hasB ps (pubT y) || mkB ps y)) || (mkB ps y && (hasB ps (pubT x) || mkB ps x))
  | _ => false
end

theorem mkB_pub (ps : List Tm) (t : Tm) : mkB ps (pubT t) = (hasB ps (pubT t) || mkB ps t) := by
  simp [pubT, mkB, mkL]
theorem mkS_pub (ps : List Tm) (x y : Tm) : mkS ps [x, y] = ((mkB ps x && mkB ps (pubT y)) || (mkB ps y && mkB ps (pubT x))) := by
  rw [mkB_pub, mkB_pub]
  simp only [mkS]

theorem rightL_mem' {x : Tm} : ∀ {ks : List Tm}, rightL ks = true → x ∈ ks → rightT x = true
  | [], _, h => by cases h
  | t :: r, h, hx => by
    simp only [rightL, Bool.and_eq_true] at h
    rcases List.mem_cons.1 hx with rfl | hx
    · exact h.1
    · exact rightL_mem' h.2 hx

theorem abM {w : World} (x : Obj) : Below w.heap.size w (w.alloc x) := (Below.refl _ _).alloc (Nat.le_refl _) _
theorem btM {B : Nat} {w v v' : World} (h : Below B w v) (hb : Below v.heap.size v v') (hB : B ≤ w.heap.size) : Below B w v' := h.trans (hb.mono (Nat.le_trans hB h.size))

theorem pub_lies {X : World} {t : Tm} {op n : Int} {s : ByteArray} {a : Option Addr} {len cap : Nat} (hl : Lies X 0 t (tmCells op n s a len cap)) : Lies (X.alloc (.cells #[.int .i64 op, .int .i64 n, .string s, .slice a len cap] 56)) 0 (pubT t) (tmCells 4 0 ByteArray.empty (some ⟨X.heap.size, 0, none⟩) 1 1) := by
  simp only [pubT, Lies, LiesAll]
  refine ⟨_, _, rfl, ⟨by simp [maxLen], by simp, by simp [maxLen]⟩, ⟨by decide, by decide⟩, ⟨X.heap.size, 0, _, rfl, Nat.zero_le _, fun j v hj => ?_, hl.below (abM _)⟩, trivial⟩
  rw [Nat.zero_mul, Nat.zero_add]
  exact box_cell X _ 56 j v (by simpa [tmCells] using hj)

set_option maxRecDepth 100000 in
set_option maxHeartbeats 1000000 in
theorem l2pub (t : Tm) (op n : Int) (s : ByteArray) (a : Option Addr) (len cap : Nat) (w : World) (hl : Lies w 0 t (tmCells op n s a len cap)) :
    Calls Tryz.prog 81 #[.agg #[.int .i64 op, .int .i64 n, .string s, .slice a len cap]] w fun e w' => ∃ b, e = .returned (.agg #[.int .i64 4, .int .i64 0, .string ByteArray.empty, .slice (some ⟨b, 0, none⟩) 1 1]) ∧ Lies w' 0 (pubT t) (tmCells 4 0 ByteArray.empty (some ⟨b, 0, none⟩) 1 1) ∧ Below w.heap.size w w' := by
  have HL := hide hl
  clear hl
  go_enter Tryz.func81, Tryz.ntmps81
  go_wp2_with fail
  have hb2 : Below w.heap.size w ((w.alloc (.cells #[.int .i64 op, .int .i64 n, .string s, .slice a len cap] 56)).alloc (.cells #[.int .i64 4, .int .i64 0, .string ByteArray.empty, .slice (some ⟨w.heap.size + 1 + 1, 0, none⟩) 1 1] 56)) := btM (abM _) (abM _) (Nat.le_refl _)
  have hp := pub_lies (X := (w.alloc (.cells #[.int .i64 op, .int .i64 n, .string s, .slice a len cap] 56)).alloc (.cells #[.int .i64 4, .int .i64 0, .string ByteArray.empty, .slice (some ⟨w.heap.size + 1 + 1, 0, none⟩) 1 1] 56)) ((unhide HL).below hb2)
  simp only [heap_size_alloc] at hp
  refine bodyPost_ret (v := .agg #[.int .i64 4, .int .i64 0, .string ByteArray.empty, .slice (some ⟨w.heap.size + 1 + 1, 0, none⟩) 1 1]) (by simp [results, Tryz.results81, go_sem]; rfl) rfl ⟨w.heap.size + 1 + 1, rfl, hp, btM hb2 (abM _) (Nat.le_refl _)⟩

/-- spec.l2Made at a right term. -/
def MdOk (ps : List Tm) (t : Tm) : Prop := ∀ (pa : Option Addr) (pcap : Nat) (op n : Int) (s : ByteArray) (a : Option Addr) (len cap : Nat) (w : World), LiesAll w 0 pa 0 ps → Lies w 0 t (tmCells op n s a len cap) →
  Calls Tryz.prog 48 #[.slice pa ps.length pcap, .agg #[.int .i64 op, .int .i64 n, .string s, .slice a len cap]] w fun e w' => e = .returned (.bool (mkB ps t)) ∧ Below w.heap.size w w'

set_option maxRecDepth 100000 in
set_option maxHeartbeats 2000000 in
theorem md_text (ps : List Tm) (n1 : Int) (s1 : ByteArray) (ks : List Tm) : MdOk ps (.node 2 n1 s1 ks) := by
  intro pa pcap op n s a len cap w hps hl
  have he := hl
  simp only [Lies, tmCells, List.cons.injEq, Value.int.injEq, Value.string.injEq, Value.slice.injEq, true_and, and_true] at he
  obtain ⟨a9, c9, ⟨rfl, rfl, rfl, rfl, rfl, rfl⟩, _⟩ := he
  have hm : mkB ps (.node 2 n s ks) = true := by simp [mkB]
  rw [hm]
  clear hm hl hps
  go_enter Tryz.func48, Tryz.ntmps48
  go_wp2_with fail
  go_ret
  exact ⟨rfl, abM _⟩

set_option maxRecDepth 100000 in
set_option maxHeartbeats 2000000 in
theorem md_has (ps : List Tm) (t : Tm) (hlen : ps.length ≤ 2097152) (h2 : hasB ps t = true) (hop : ∀ n s ks, t ≠ .node 2 n s ks) : MdOk ps t := by
  intro pa pcap op n s a len cap w hps hl
  have hx := hide (has_calls ps t pa pcap op n s a len cap)
  rw [h2] at hx
  obtain ⟨o1, n1, s1, ks⟩ := t
  have he := hl
  simp only [Lies, tmCells, List.cons.injEq, Value.int.injEq, Value.string.injEq, Value.slice.injEq, true_and, and_true] at he
  obtain ⟨a9, c9, ⟨rfl, rfl, rfl, rfl, rfl, rfl⟩, _⟩ := he
  have hm : mkB ps (.node op n s ks) = true := by simp [mkB, h2]
  have q2 : (op == 2) = false := by
    simp only [beq_eq_false_iff_ne, ne_eq]
    rintro rfl
    exact hop n s ks rfl
  rw [hm]
  have HL := hide (hl.below (abM (.cells #[.int .i64 op, .int .i64 n, .string s, .slice a ks.length cap] 56)))
  have HP := hide (hps.below (abM (.cells #[.int .i64 op, .int .i64 n, .string s, .slice a ks.length cap] 56)))
  clear hm hl hps h2 hop
  go_enter Tryz.func48, Tryz.ntmps48
  go_wp2_with fail
  refine (unhide hx _ (unhide HP) (unhide HL) hlen).mono ?_
  rintro e w2 ⟨rfl, hb2⟩
  go_wp2_with fail
  go_ret
  exact ⟨rfl, btM (abM _) hb2 (Nat.le_refl _)⟩

set_option maxRecDepth 100000 in
set_option maxHeartbeats 2000000 in
theorem md_atom (ps : List Tm) (n1 : Int) (s1 : ByteArray) (ks : List Tm) (hlen : ps.length ≤ 2097152) (h2 : hasB ps (.node 1 n1 s1 ks) = false) : MdOk ps (.node 1 n1 s1 ks) := by
  intro pa pcap op n s a len cap w hps hl
  have hx := hide (has_calls ps (.node 1 n1 s1 ks) pa pcap op n s a len cap)
  rw [h2] at hx
  have he := hl
  simp only [Lies, tmCells, List.cons.injEq, Value.int.injEq, Value.string.injEq, Value.slice.injEq, true_and, and_true] at he
  obtain ⟨a9, c9, ⟨rfl, rfl, rfl, rfl, rfl, rfl⟩, _⟩ := he
  have hm : mkB ps (.node 1 n s ks) = false := by simp [mkB, h2]
  rw [hm]
  have HL := hide (hl.below (abM (.cells #[.int .i64 1, .int .i64 n, .string s, .slice a ks.length cap] 56)))
  have HP := hide (hps.below (abM (.cells #[.int .i64 1, .int .i64 n, .string s, .slice a ks.length cap] 56)))
  have HBX : Hid (∀ j v, (#[.int .i64 1, .int .i64 n, .string s, .slice a ks.length cap] : Array Value)[j]? = some v → (w.alloc (.cells #[.int .i64 1, .int .i64 n, .string s, .slice a ks.length cap] 56)).cell? ⟨w.heap.size, j, none⟩ = some v) := fun j v hj => box_cell w _ 56 j v hj
  clear hm hl hps h2
  go_enter Tryz.func48, Tryz.ntmps48
  go_wp2_with fail
  refine (unhide hx _ (unhide HP) (unhide HL) hlen).mono ?_
  rintro e w2 ⟨rfl, hb2⟩
  have d0 := keepc hb2 (unhide HBX 0 _ rfl)
  go_wp2_with fail
  go_ret
  exact ⟨rfl, btM (abM _) hb2 (Nat.le_refl _)⟩


theorem mkL_drop {ps ks : List Tm} {k : Nat} (h : k < ks.length) : mkL ps (ks.drop k) = (mkB ps ks[k] && mkL ps (ks.drop (k + 1))) := by
  rw [← List.getElem_cons_drop h]
  simp only [mkL]

set_option maxRecDepth 100000 in
set_option maxHeartbeats 2000000 in
theorem md_kids (ps : List Tm) (op1 n1 : Int) (s1 : ByteArray) (ks : List Tm) (hlen : ps.length ≤ 2097152) (hkl : ks.length ≤ 2097152) (h2 : hasB ps (.node op1 n1 s1 ks) = false) (e1 : op1 ≠ 1) (e2 : op1 ≠ 2) (e5 : op1 ≠ 5) (hkids : ∀ x ∈ ks, MdOk ps x) : MdOk ps (.node op1 n1 s1 ks) := by
  intro pa pcap op n s a len cap w hps hl
  have hx := hide (has_calls ps (.node op1 n1 s1 ks) pa pcap op n s a len cap)
  rw [h2] at hx
  have he := hl
  simp only [Lies, tmCells, List.cons.injEq, Value.int.injEq, Value.string.injEq, Value.slice.injEq, true_and, and_true] at he
  obtain ⟨a9, c9, ⟨rfl, rfl, rfl, rfl, rfl, rfl⟩, _, _, hka⟩ := he
  have HM : Hid (mkB ps (.node op n s ks) = mkL ps ks) := by show _ = _; simp [mkB, h2, e1, e2, e5]
  generalize mkB ps (.node op n s ks) = R at *
  have q1 : (op == 1) = false := by simpa using e1
  have q2 : (op == 2) = false := by simpa using e2
  have q5 : (op == 5) = false := by simpa using e5
  have HL := hide (hl.below (abM (.cells #[.int .i64 op, .int .i64 n, .string s, .slice a ks.length cap] 56)))
  have HP := hide (hps.below (abM (.cells #[.int .i64 op, .int .i64 n, .string s, .slice a ks.length cap] 56)))
  have HKA := hide (hka.below (abM (.cells #[.int .i64 op, .int .i64 n, .string s, .slice a ks.length cap] 56)))
  have HBX : Hid (∀ j v, (#[.int .i64 op, .int .i64 n, .string s, .slice a ks.length cap] : Array Value)[j]? = some v → (w.alloc (.cells #[.int .i64 op, .int .i64 n, .string s, .slice a ks.length cap] 56)).cell? ⟨w.heap.size, j, none⟩ = some v) := fun j v hj => box_cell w _ 56 j v hj
  have HB0 : Hid (Below w.heap.size w (w.alloc (.cells #[.int .i64 op, .int .i64 n, .string s, .slice a ks.length cap] 56))) := abM _
  have HKD := hide hkids
  have hkl' : (ks.length : Int) ≤ 2097152 := by omega
  generalize hklen : ks.length = klen at *
  have HKL := hide hklen
  clear hl hps h2 hka hkids e1 e2 e5 hklen
  go_enter Tryz.func48, Tryz.ntmps48
  go_wp2_with fail
  refine (unhide hx _ (unhide HP) (unhide HL) hlen).mono ?_
  rintro e w2 ⟨rfl, hb2⟩
  have HP2 := hide ((unhide HP).below hb2)
  have HK2 := hide ((unhide HKA).below hb2)
  have HB2 := hide (btM (unhide HB0) hb2 (Nat.le_refl _))
  have d0 := keepc hb2 (unhide HBX 0 _ rfl)
  have d3 := keepc hb2 (unhide HBX 3 _ rfl)
  clear hb2 HP HKA HB0 HBX HL hx
  go_wp2_with fail
  have D3 := hide d3
  go_loopw [7] (fun i wr => ∃ k : Nat, k ≤ klen ∧ i = .int .i64 k ∧ mkL ps ks = mkL ps (ks.drop k) ∧ Below w2.heap.size w2 wr) (fun i _ => klen - (intOf i).toNat)
  case atStart => exact ⟨0, Nat.zero_le _, rfl, by simp, Below.refl _ _⟩
  case round =>
    obtain ⟨k, hkk, rfl, hmk, hb⟩ := hrel
    have HMK := hide hmk
    have HB := hide hb
    have f3 := keepc hb (unhide D3)
    clear hmk d0 d3
    by_cases hlt : k < klen
    · have hlt' : k < ks.length := by have := unhide HKL; omega
      obtain ⟨b, o, op4, n4, s4, a4, len4, cap4, rfl, _, hbs, c0, c1, c2, c3, hT⟩ := (unhide HK2).elem (k := k) hlt'
      have c0 := (hb.cell (p := ⟨b, o + k * 4, none⟩) hbs).trans c0
      have c1 := (hb.cell (p := ⟨b, o + k * 4 + 1, none⟩) hbs).trans c1
      have c2 := (hb.cell (p := ⟨b, o + k * 4 + 2, none⟩) hbs).trans c2
      have c3 := (hb.cell (p := ⟨b, o + k * 4 + 3, none⟩) hbs).trans c3
      have HT := hide (hT.below hb)
      have HPW := hide ((unhide HP2).below hb)
      have HC := hide (unhide HKD ks[k] (List.getElem_mem hlt'))
      have HST : Hid (mkL ps ks = (mkB ps ks[k] && mkL ps (ks.drop (k + 1)))) := by show _ = _; rw [unhide HMK, mkL_drop hlt']
      have HCK := hide (unhide HC pa pcap op4 n4 s4 a4 len4 cap4)
      generalize mkB ps ks[k] = mb at *
      clear hT hb
      go_wp2_with fail
      refine (unhide HCK _ (unhide HPW) (unhide HT)).mono ?_
      rintro e w3 ⟨rfl, hb3⟩
      have HB3 := hide ((unhide HB).trans (hb3.mono (unhide HB).size))
      clear hb3 c0 c1 c2 c3
      cases mb with
      | true =>
        go_wp2_with fail
        go_roundw
        case rel => exact ⟨k + 1, by omega, by go_num, by have := unhide HST; simpa using this, unhide HB3⟩
        case measure => simp [intOf]; omega
      | false =>
        go_wp2_with fail
        go_ret
        refine ⟨ret_bool ?_, (unhide HB2).trans ((unhide HB3).mono (unhide HB2).size)⟩
        have := unhide HST
        rw [unhide HM, this]
        rfl
    · go_wp2_with fail
      go_ret
      refine ⟨ret_bool ?_, (unhide HB2).trans ((unhide HB).mono (unhide HB2).size)⟩
      rw [unhide HM, unhide HMK, List.drop_of_length_le (by have := unhide HKL; omega)]
      rfl


/-- Two boxes, with a term each. -/
def ShCut (w2 : World) (o1 n1 : Int) (s1 : ByteArray) (a1 : Option Addr) (l1 c1 : Nat) (o2 n2 : Int) (s2 : ByteArray) (a2 : Option Addr) (l2 c2 : Nat) (p q : Value) (wx : World) : Prop := ∃ b6 b7, p = .pointer (some ⟨b6, 0, none⟩) ∧ q = .pointer (some ⟨b7, 0, none⟩) ∧ wx.heap[b6]? = some (.cells #[.int .i64 o1, .int .i64 n1, .string s1, .slice a1 l1 c1] 56 (0, 0)) ∧ wx.heap[b7]? = some (.cells #[.int .i64 o2, .int .i64 n2, .string s2, .slice a2 l2 c2] 56 (0, 0)) ∧ Below w2.heap.size w2 wx
theorem ShCut.one (w2 : World) (o1 n1 : Int) (s1 : ByteArray) (a1 : Option Addr) (l1 c1 : Nat) (o2 n2 : Int) (s2 : ByteArray) (a2 : Option Addr) (l2 c2 : Nat) : ShCut w2 o1 n1 s1 a1 l1 c1 o2 n2 s2 a2 l2 c2 (.pointer (some ⟨w2.heap.size, 0, none⟩)) (.pointer (some ⟨w2.heap.size + 1, 0, none⟩)) ((w2.alloc (.cells #[.int .i64 o1, .int .i64 n1, .string s1, .slice a1 l1 c1] 56)).alloc (.cells #[.int .i64 o2, .int .i64 n2, .string s2, .slice a2 l2 c2] 56)).drew := by
  have h2 := heap_alloc_new (w2.alloc (.cells #[.int .i64 o1, .int .i64 n1, .string s1, .slice a1 l1 c1] 56)) (.cells #[.int .i64 o2, .int .i64 n2, .string s2, .slice a2 l2 c2] 56)
  rw [heap_size_alloc] at h2
  have h1 := ((abM (w := w2.alloc (.cells #[.int .i64 o1, .int .i64 n1, .string s1, .slice a1 l1 c1] 56)) (.cells #[.int .i64 o2, .int .i64 n2, .string s2, .slice a2 l2 c2] 56)).block w2.heap.size (by simp)).trans (heap_alloc_new w2 (.cells #[.int .i64 o1, .int .i64 n1, .string s1, .slice a1 l1 c1] 56))
  have hb := btM (abM (w := w2) (.cells #[.int .i64 o1, .int .i64 n1, .string s1, .slice a1 l1 c1] 56)) (abM (.cells #[.int .i64 o2, .int .i64 n2, .string s2, .slice a2 l2 c2] 56)) (Nat.le_refl _)
  exact ⟨_, _, rfl, rfl, h1, h2, hb.drew⟩
theorem ShCut.two (w2 : World) (o1 n1 : Int) (s1 : ByteArray) (a1 : Option Addr) (l1 c1 : Nat) (o2 n2 : Int) (s2 : ByteArray) (a2 : Option Addr) (l2 c2 : Nat) : ShCut w2 o1 n1 s1 a1 l1 c1 o2 n2 s2 a2 l2 c2 (.pointer (some ⟨w2.heap.size + 1, 0, none⟩)) (.pointer (some ⟨w2.heap.size, 0, none⟩)) ((w2.alloc (.cells #[.int .i64 o2, .int .i64 n2, .string s2, .slice a2 l2 c2] 56)).alloc (.cells #[.int .i64 o1, .int .i64 n1, .string s1, .slice a1 l1 c1] 56)).drew := by
  have h2 := heap_alloc_new (w2.alloc (.cells #[.int .i64 o2, .int .i64 n2, .string s2, .slice a2 l2 c2] 56)) (.cells #[.int .i64 o1, .int .i64 n1, .string s1, .slice a1 l1 c1] 56)
  rw [heap_size_alloc] at h2
  have h1 := ((abM (w := w2.alloc (.cells #[.int .i64 o2, .int .i64 n2, .string s2, .slice a2 l2 c2] 56)) (.cells #[.int .i64 o1, .int .i64 n1, .string s1, .slice a1 l1 c1] 56)).block w2.heap.size (by simp)).trans (heap_alloc_new w2 (.cells #[.int .i64 o2, .int .i64 n2, .string s2, .slice a2 l2 c2] 56))
  have hb := btM (abM (w := w2) (.cells #[.int .i64 o2, .int .i64 n2, .string s2, .slice a2 l2 c2] 56)) (abM (.cells #[.int .i64 o1, .int .i64 n1, .string s1, .slice a1 l1 c1] 56)) (Nat.le_refl _)
  exact ⟨_, _, rfl, rfl, h2, h1, hb.drew⟩

set_option maxRecDepth 100000 in
set_option maxHeartbeats 4000000 in
theorem md_share (ps : List Tm) (n9 : Int) (s9 : ByteArray) (x y : Tm) (hlen : ps.length ≤ 2097152) (h2 : hasB ps (.node 5 n9 s9 [x, y]) = false) (hx1 : MdOk ps x) (hy1 : MdOk ps y) (hx2 : MdOk ps (pubT x)) (hy2 : MdOk ps (pubT y)) : MdOk ps (.node 5 n9 s9 [x, y]) := by
  intro pa pcap op n s a len cap w hps hl
  have hh := hide (has_calls ps (.node 5 n9 s9 [x, y]) pa pcap op n s a len cap)
  rw [h2] at hh
  have he := hl
  simp only [Lies, tmCells, List.cons.injEq, Value.int.injEq, Value.string.injEq, Value.slice.injEq, true_and, and_true] at he
  obtain ⟨a9, c9, ⟨rfl, rfl, rfl, rfl, rfl, rfl⟩, _, _, hka⟩ := he
  have HM : Hid (mkB ps (.node 5 n s [x, y]) = ((mkB ps x && mkB ps (pubT y)) || (mkB ps y && mkB ps (pubT x)))) := by show _ = _; rw [← mkS_pub]; simp [mkB, h2]
  generalize mkB ps (.node 5 n s [x, y]) = R at *
  obtain ⟨b, o, o1, n1, s1, a1, l1, c1, rfl, _, hbs, c0, c1', c2, c3, hX⟩ := hka.elem (k := 0) (by simp)
  obtain ⟨b', o', o2, n2, s2, a2, l2, c2', he2, _, hbs', d0, d1, d2, d3, hY⟩ := hka.elem (k := 1) (by simp)
  cases he2
  simp only [Nat.zero_mul, Nat.add_zero, Nat.one_mul, List.getElem_cons_zero, List.getElem_cons_succ, List.length_cons, List.length_nil] at c0 c1' c2 c3 d0 d1 d2 d3 hX hY hh hl ⊢
  have HL := hide (hl.below (abM (.cells #[.int .i64 5, .int .i64 n, .string s, .slice (some ⟨b, o, none⟩) 2 cap] 56)))
  have HP := hide (hps.below (abM (.cells #[.int .i64 5, .int .i64 n, .string s, .slice (some ⟨b, o, none⟩) 2 cap] 56)))
  have HX := hide (hX.below (abM (.cells #[.int .i64 5, .int .i64 n, .string s, .slice (some ⟨b, o, none⟩) 2 cap] 56)))
  have HY := hide (hY.below (abM (.cells #[.int .i64 5, .int .i64 n, .string s, .slice (some ⟨b, o, none⟩) 2 cap] 56)))
  have HC := hide (And.intro (keepc (abM (.cells #[.int .i64 5, .int .i64 n, .string s, .slice (some ⟨b, o, none⟩) 2 cap] 56)) c0) (And.intro (keepc (abM (.cells #[.int .i64 5, .int .i64 n, .string s, .slice (some ⟨b, o, none⟩) 2 cap] 56)) c1') (And.intro (keepc (abM (.cells #[.int .i64 5, .int .i64 n, .string s, .slice (some ⟨b, o, none⟩) 2 cap] 56)) c2) (keepc (abM (.cells #[.int .i64 5, .int .i64 n, .string s, .slice (some ⟨b, o, none⟩) 2 cap] 56)) c3))))
  have HD := hide (And.intro (keepc (abM (.cells #[.int .i64 5, .int .i64 n, .string s, .slice (some ⟨b, o, none⟩) 2 cap] 56)) d0) (And.intro (keepc (abM (.cells #[.int .i64 5, .int .i64 n, .string s, .slice (some ⟨b, o, none⟩) 2 cap] 56)) d1) (And.intro (keepc (abM (.cells #[.int .i64 5, .int .i64 n, .string s, .slice (some ⟨b, o, none⟩) 2 cap] 56)) d2) (keepc (abM (.cells #[.int .i64 5, .int .i64 n, .string s, .slice (some ⟨b, o, none⟩) 2 cap] 56)) d3))))
  have HBX : Hid (∀ j v, (#[.int .i64 5, .int .i64 n, .string s, .slice (some ⟨b, o, none⟩) 2 cap] : Array Value)[j]? = some v → (w.alloc (.cells #[.int .i64 5, .int .i64 n, .string s, .slice (some ⟨b, o, none⟩) 2 cap] 56)).cell? ⟨w.heap.size, j, none⟩ = some v) := fun j v hj => box_cell w _ 56 j v hj
  have HB0 : Hid (Below w.heap.size w (w.alloc (.cells #[.int .i64 5, .int .i64 n, .string s, .slice (some ⟨b, o, none⟩) 2 cap] 56))) := abM _
  have H1 := hide (hx1 pa pcap o1 n1 s1 a1 l1 c1)
  have H2 := hide (hy1 pa pcap o2 n2 s2 a2 l2 c2')
  have H3 : Hid (∀ g, _) := fun g => hx2 pa pcap 4 0 ByteArray.empty (some ⟨g, 0, none⟩) 1 1
  have H4 : Hid (∀ g, _) := fun g => hy2 pa pcap 4 0 ByteArray.empty (some ⟨g, 0, none⟩) 1 1
  have HP1 := hide (l2pub x o1 n1 s1 a1 l1 c1)
  have HP2 := hide (l2pub y o2 n2 s2 a2 l2 c2')
  generalize mkB ps x = mx at *
  generalize mkB ps y = my at *
  generalize mkB ps (pubT x) = px at *
  generalize mkB ps (pubT y) = py at *
  clear hl hps h2 hka hX hY c0 c1' c2 c3 d0 d1 d2 d3 hx1 hy1 hx2 hy2 hbs hbs'
  go_enter Tryz.func48, Tryz.ntmps48
  go_wp2_with fail
  refine (unhide hh _ (unhide HP) (unhide HL) hlen).mono ?_
  rintro e w2 ⟨rfl, hb2⟩
  have HP := hide ((unhide HP).below hb2)
  have HX := hide ((unhide HX).below hb2)
  have HY := hide ((unhide HY).below hb2)
  have HB2 := hide (btM (unhide HB0) hb2 (Nat.le_refl _))
  have t0 := keepc hb2 (unhide HBX 0 _ rfl)
  have t3 := keepc hb2 (unhide HBX 3 _ rfl)
  have e0 := keepc hb2 (unhide HC).1
  have e1 := keepc hb2 (unhide HC).2.1
  have e2 := keepc hb2 (unhide HC).2.2.1
  have e3 := keepc hb2 (unhide HC).2.2.2
  have f0 := keepc hb2 (unhide HD).1
  have f1 := keepc hb2 (unhide HD).2.1
  have f2 := keepc hb2 (unhide HD).2.2.1
  have f3 := keepc hb2 (unhide HD).2.2.2
  have l0 := lt_of_cell t0
  have l2' := lt_of_cell e0
  have m0 := Nat.ne_of_lt l0
  have m1 := Ne.symm m0
  have m2 := Nat.ne_of_lt l2'
  have m3 := Ne.symm m2
  clear hb2 HB0 HBX HL hh HC HD
  go_wp2_with fail
  go_cut [5, 6] (fun p q wx => ShCut w2 o1 n1 s1 a1 l1 c1 o2 n2 s2 a2 l2 c2' p q wx)
  case first =>
    go_region
    · go_wp2_with fail
      go_meet
      exact ShCut.one w2 o1 n1 s1 a1 l1 c1 o2 n2 s2 a2 l2 c2'
    · go_wp2_with fail
      go_meet
      exact ShCut.two w2 o1 n1 s1 a1 l1 c1 o2 n2 s2 a2 l2 c2'
  case rest =>
    obtain ⟨b6, b7, rfl, rfl, hR6, hR7, hb3⟩ := hcut
    have HP := hide ((unhide HP).below hb3)
    have HX := hide ((unhide HX).below hb3)
    have HY := hide ((unhide HY).below hb3)
    have HB3 := hide (btM (unhide HB2) hb3 (Nat.le_refl _))
    have K6 : Hid (∀ v, Below wc.heap.size wc v → v.heap[b6]? = some (.cells #[.int .i64 o1, .int .i64 n1, .string s1, .slice a1 l1 c1] 56 (0, 0))) := fun v hv => (hv.block b6 (lt_of_heap hR6)).trans hR6
    have K7 : Hid (∀ v, Below wc.heap.size wc v → v.heap[b7]? = some (.cells #[.int .i64 o2, .int .i64 n2, .string s2, .slice a2 l2 c2'] 56 (0, 0))) := fun v hv => (hv.block b7 (lt_of_heap hR7)).trans hR7
    clear hb3 t0 t3 e0 e1 e2 e3 f0 f1 f2 f3 l0 l2' m0 m1 m2 m3 HB2
    have c0 := cell_of_row hR6 (j := 0) (by simp)
    have c1' := cell_of_row hR6 (j := 1) (by simp)
    have c2 := cell_of_row hR6 (j := 2) (by simp)
    have c3 := cell_of_row hR6 (j := 3) (by simp)
    simp only [List.getElem_toArray, List.getElem_cons_zero, List.getElem_cons_succ] at c0 c1' c2 c3
    clear hR6 hR7
    go_wp2_with fail
    refine (unhide H1 _ (unhide HP) (unhide HX)).mono ?_
    rintro e w4 ⟨rfl, hb4⟩
    have F4 := hide hb4
    clear hb4 c0 c1' c2 c3
    cases mx with
    | false =>
      have hrca := unhide K6 w4 (unhide F4)
      have ca0 := cell_of_row hrca (j := 0) (by simp)
      have ca1 := cell_of_row hrca (j := 1) (by simp)
      have ca2 := cell_of_row hrca (j := 2) (by simp)
      have ca3 := cell_of_row hrca (j := 3) (by simp)
      simp only [List.getElem_toArray, List.getElem_cons_zero, List.getElem_cons_succ] at ca0 ca1 ca2 ca3
      clear hrca
      have hrda := unhide K7 w4 (unhide F4)
      have da0 := cell_of_row hrda (j := 0) (by simp)
      have da1 := cell_of_row hrda (j := 1) (by simp)
      have da2 := cell_of_row hrda (j := 2) (by simp)
      have da3 := cell_of_row hrda (j := 3) (by simp)
      simp only [List.getElem_toArray, List.getElem_cons_zero, List.getElem_cons_succ] at da0 da1 da2 da3
      clear hrda
      go_wp2_with fail
      refine (unhide H2 _ ((unhide HP).below (unhide F4)) ((unhide HY).below (unhide F4))).mono ?_
      rintro e v5 ⟨rfl, hb5⟩
      have F5 := hide (btM (unhide F4) hb5 (Nat.le_refl _))
      clear hb5
      clear ca0 ca1 ca2 ca3 da0 da1 da2 da3
      cases my with
      | true =>
        have hrch := unhide K6 v5 (unhide F5)
        have ch0 := cell_of_row hrch (j := 0) (by simp)
        have ch1 := cell_of_row hrch (j := 1) (by simp)
        have ch2 := cell_of_row hrch (j := 2) (by simp)
        have ch3 := cell_of_row hrch (j := 3) (by simp)
        simp only [List.getElem_toArray, List.getElem_cons_zero, List.getElem_cons_succ] at ch0 ch1 ch2 ch3
        clear hrch
        have hrdh := unhide K7 v5 (unhide F5)
        have dh0 := cell_of_row hrdh (j := 0) (by simp)
        have dh1 := cell_of_row hrdh (j := 1) (by simp)
        have dh2 := cell_of_row hrdh (j := 2) (by simp)
        have dh3 := cell_of_row hrdh (j := 3) (by simp)
        simp only [List.getElem_toArray, List.getElem_cons_zero, List.getElem_cons_succ] at dh0 dh1 dh2 dh3
        clear hrdh
        go_wp2_with fail
        refine (unhide HP1 _ ((unhide HX).below (unhide F5))).mono ?_
        rintro e v6 ⟨g6, rfl, hLp6, hb6⟩
        have F6 := hide (btM (unhide F5) hb6 (Nat.le_refl _))
        have HLP6 := hide hLp6
        clear hb6 hLp6
        clear ch0 ch1 ch2 ch3 dh0 dh1 dh2 dh3
        go_wp2_with fail
        refine (unhide H3 g6 _ ((unhide HP).below (unhide F6)) (unhide HLP6)).mono ?_
        rintro e v7 ⟨rfl, hb7⟩
        have F7 := hide (btM (unhide F6) hb7 (Nat.le_refl _))
        clear hb7
        cases px with
        | true =>
          go_wp2_with fail
          go_ret
          exact ⟨ret_bool (by rw [unhide HM]; simp), (unhide HB3).trans ((unhide F7).mono (unhide HB3).size)⟩
        | false =>
          go_wp2_with fail
          go_ret
          exact ⟨ret_bool (by rw [unhide HM]; simp), (unhide HB3).trans ((unhide F7).mono (unhide HB3).size)⟩
      | false =>
        go_wp2_with fail
        go_ret
        exact ⟨ret_bool (by rw [unhide HM]; simp), (unhide HB3).trans ((unhide F5).mono (unhide HB3).size)⟩
    | true =>
      have hrca := unhide K6 w4 (unhide F4)
      have ca0 := cell_of_row hrca (j := 0) (by simp)
      have ca1 := cell_of_row hrca (j := 1) (by simp)
      have ca2 := cell_of_row hrca (j := 2) (by simp)
      have ca3 := cell_of_row hrca (j := 3) (by simp)
      simp only [List.getElem_toArray, List.getElem_cons_zero, List.getElem_cons_succ] at ca0 ca1 ca2 ca3
      clear hrca
      have hrda := unhide K7 w4 (unhide F4)
      have da0 := cell_of_row hrda (j := 0) (by simp)
      have da1 := cell_of_row hrda (j := 1) (by simp)
      have da2 := cell_of_row hrda (j := 2) (by simp)
      have da3 := cell_of_row hrda (j := 3) (by simp)
      simp only [List.getElem_toArray, List.getElem_cons_zero, List.getElem_cons_succ] at da0 da1 da2 da3
      clear hrda
      go_wp2_with fail
      refine (unhide HP2 _ ((unhide HY).below (unhide F4))).mono ?_
      rintro e v2 ⟨g2, rfl, hLp2, hb2⟩
      have F2 := hide (btM (unhide F4) hb2 (Nat.le_refl _))
      have HLP2 := hide hLp2
      clear hb2 hLp2
      clear ca0 ca1 ca2 ca3 da0 da1 da2 da3
      go_wp2_with fail
      refine (unhide H4 g2 _ ((unhide HP).below (unhide F2)) (unhide HLP2)).mono ?_
      rintro e v3 ⟨rfl, hb3⟩
      have F3 := hide (btM (unhide F2) hb3 (Nat.le_refl _))
      clear hb3
      cases py with
      | true =>
        go_wp2_with fail
        go_ret
        exact ⟨ret_bool (by rw [unhide HM]; simp), (unhide HB3).trans ((unhide F3).mono (unhide HB3).size)⟩
      | false =>
        have hrcb := unhide K6 v3 (unhide F3)
        have cb0 := cell_of_row hrcb (j := 0) (by simp)
        have cb1 := cell_of_row hrcb (j := 1) (by simp)
        have cb2 := cell_of_row hrcb (j := 2) (by simp)
        have cb3 := cell_of_row hrcb (j := 3) (by simp)
        simp only [List.getElem_toArray, List.getElem_cons_zero, List.getElem_cons_succ] at cb0 cb1 cb2 cb3
        clear hrcb
        have hrdb := unhide K7 v3 (unhide F3)
        have db0 := cell_of_row hrdb (j := 0) (by simp)
        have db1 := cell_of_row hrdb (j := 1) (by simp)
        have db2 := cell_of_row hrdb (j := 2) (by simp)
        have db3 := cell_of_row hrdb (j := 3) (by simp)
        simp only [List.getElem_toArray, List.getElem_cons_zero, List.getElem_cons_succ] at db0 db1 db2 db3
        clear hrdb
        go_wp2_with fail
        refine (unhide H2 _ ((unhide HP).below (unhide F3)) ((unhide HY).below (unhide F3))).mono ?_
        rintro e v5 ⟨rfl, hb5⟩
        have F5 := hide (btM (unhide F3) hb5 (Nat.le_refl _))
        clear hb5
        clear cb0 cb1 cb2 cb3 db0 db1 db2 db3
        cases my with
        | true =>
          have hrch := unhide K6 v5 (unhide F5)
          have ch0 := cell_of_row hrch (j := 0) (by simp)
          have ch1 := cell_of_row hrch (j := 1) (by simp)
          have ch2 := cell_of_row hrch (j := 2) (by simp)
          have ch3 := cell_of_row hrch (j := 3) (by simp)
          simp only [List.getElem_toArray, List.getElem_cons_zero, List.getElem_cons_succ] at ch0 ch1 ch2 ch3
          clear hrch
          have hrdh := unhide K7 v5 (unhide F5)
          have dh0 := cell_of_row hrdh (j := 0) (by simp)
          have dh1 := cell_of_row hrdh (j := 1) (by simp)
          have dh2 := cell_of_row hrdh (j := 2) (by simp)
          have dh3 := cell_of_row hrdh (j := 3) (by simp)
          simp only [List.getElem_toArray, List.getElem_cons_zero, List.getElem_cons_succ] at dh0 dh1 dh2 dh3
          clear hrdh
          go_wp2_with fail
          refine (unhide HP1 _ ((unhide HX).below (unhide F5))).mono ?_
          rintro e v6 ⟨g6, rfl, hLp6, hb6⟩
          have F6 := hide (btM (unhide F5) hb6 (Nat.le_refl _))
          have HLP6 := hide hLp6
          clear hb6 hLp6
          clear ch0 ch1 ch2 ch3 dh0 dh1 dh2 dh3
          go_wp2_with fail
          refine (unhide H3 g6 _ ((unhide HP).below (unhide F6)) (unhide HLP6)).mono ?_
          rintro e v7 ⟨rfl, hb7⟩
          have F7 := hide (btM (unhide F6) hb7 (Nat.le_refl _))
          clear hb7
          cases px with
          | true =>
            go_wp2_with fail
            go_ret
            exact ⟨ret_bool (by rw [unhide HM]; simp), (unhide HB3).trans ((unhide F7).mono (unhide HB3).size)⟩
          | false =>
            go_wp2_with fail
            go_ret
            exact ⟨ret_bool (by rw [unhide HM]; simp), (unhide HB3).trans ((unhide F7).mono (unhide HB3).size)⟩
        | false =>
          go_wp2_with fail
          go_ret
          exact ⟨ret_bool (by rw [unhide HM]; simp), (unhide HB3).trans ((unhide F5).mono (unhide HB3).size)⟩


theorem md_any (ps : List Tm) (hlen : ps.length ≤ 2097152) : ∀ (k : Nat) (t : Tm), t.size ≤ k → t.size ≤ 2097152 → rightT t = true → MdOk ps t
  | 0, t, h, _, _ => by have := t.size_pos; omega
  | k + 1, t, h, hz, hr => by
    obtain ⟨op, n, s, ks⟩ := t
    by_cases e2 : op = 2
    · subst e2
      exact md_text ps n s ks
    cases hh : hasB ps (.node op n s ks) with
    | true => exact md_has ps _ hlen hh fun n' s' ks' e => e2 (by cases e; rfl)
    | false =>
      by_cases e1 : op = 1
      · subst e1
        exact md_atom ps n s ks hlen hh
      have hr' := hr
      simp only [rightT, Bool.and_eq_true] at hr'
      have hkr : ∀ x ∈ ks, rightT x = true := fun x hx => rightL_mem' hr'.2 hx
      simp only [Tm.size] at h hz
      by_cases e5 : op = 5
      · subst e5
        have hk2 : ks.length = 2 := by
          have := headB_len hr'.1.1
          simp only [kidsOf] at this
          simp at this
          omega
        obtain ⟨x, y, rfl⟩ := two_of hk2
        simp only [Tm.sizes] at h hz
        have sx := x.size_pos
        have sy := y.size_pos
        have rp : ∀ z : Tm, rightT z = true → rightT (pubT z) = true := fun z hzr => by
          simp only [pubT, rightT, rightL, hzr, Bool.and_true, Bool.and_eq_true]
          exact ⟨show headB 4 0 ByteArray.empty 1 = true by decide, by simp [shareB]⟩
        have zp : ∀ z : Tm, (pubT z).size = 1 + z.size := fun z => by simp [pubT, Tm.size, Tm.sizes]
        exact md_share ps n s x y hlen hh (md_any ps hlen k x (by omega) (by omega) (hkr x (by simp))) (md_any ps hlen k y (by omega) (by omega) (hkr y (by simp)))
          (md_any ps hlen k _ (by rw [zp]; omega) (by rw [zp]; omega) (rp x (hkr x (by simp)))) (md_any ps hlen k _ (by rw [zp]; omega) (by rw [zp]; omega) (rp y (hkr y (by simp))))
      · exact md_kids ps op n s ks hlen (by have := Tm.length_le_sizes ks; omega) hh e1 e2 e5 fun x hx => md_any ps hlen k x (by have := Tm.size_mem hx; omega) (by have := Tm.size_mem hx; omega) (hkr x hx)

/-- spec.l2Made at whatever right term. -/
theorem md_calls (ps : List Tm) (t : Tm) (hlen : ps.length ≤ 2097152) (hz : t.size ≤ 2097152) (hr : rightT t = true) : MdOk ps t := md_any ps hlen t.size t (Nat.le_refl _) hz hr


/-- What spec.Made answers. -/
def madeB (ps : List Tm) (t : Tm) : Bool := okT t && mkB ps t

/-- Whether the exact text of a term is one of those of the right terms among some. -/
def hasX (ps : List Tm) (t : Tm) : Bool := ps.any fun p => okT p && decide (exT p = exT t)
/-- Whether a term is put together, by which of its kids are. -/
def putX (ps : List Tm) (op : Int) (ks : List Tm) (made : List Bool) : Bool :=
  if op = 1 then false else if made.all (fun b => b) = true then true else if op = 5 then
    match ks, made with
    | [x, y], [mx, my] => (mx && hasX ps (pubT y)) || (my && hasX ps (pubT x))
    | _, _ => false
  else false
mutual
def spX (ps : List Tm) : Tm → Bool
  | .node op n s ks => putX ps op ks (spL ps ks) || hasX ps (.node op n s ks)
def spL (ps : List Tm) : List Tm → List Bool
  | [] => []
  | t :: r => spX ps t :: spL ps r
end

mutual
theorem cmpT_one : ∀ (t u : Tm), cmpT t u = 0 → t = u
  | .node op n s ks, .node op' n' s' ks', h => by
    simp only [cmpT] at h
    obtain ⟨h1, h2⟩ := orI_eq_zero.1 h
    obtain ⟨rfl, rfl, rfl, h3⟩ := headC_zero.1 h1
    rw [cmpL_one ks ks' h3 h2]
theorem cmpL_one : ∀ (ks ks' : List Tm), ks.length = ks'.length → cmpL ks ks' = 0 → ks = ks'
  | [], [], _, _ => rfl
  | [], _ :: _, h, _ => by simp at h
  | _ :: _, [], h, _ => by simp at h
  | t :: r, u :: r', h, h0 => by
    simp only [cmpL] at h0
    obtain ⟨h1, h2⟩ := orI_eq_zero.1 h0
    rw [cmpT_one t u h1, cmpL_one r r' (by simpa using h) h2]
end

mutual
theorem cmpT_same : ∀ t : Tm, cmpT t t = 0
  | .node op n s ks => by
    simp only [cmpT]
    exact orI_eq_zero.2 ⟨headC_zero.2 ⟨rfl, rfl, rfl, rfl⟩, cmpL_same ks⟩
theorem cmpL_same : ∀ ks : List Tm, cmpL ks ks = 0
  | [] => by simp [cmpL]
  | t :: r => by
    simp only [cmpL]
    exact orI_eq_zero.2 ⟨cmpT_same t, cmpL_same r⟩
end

theorem okT_right {t : Tm} (h : okT t = true) : rightT t = true := by
  simp only [okT, Bool.and_eq_true] at h
  exact h.2
theorem sameB_iff {t u : Tm} (ht : rightT t = true) (hu : rightT u = true) : (sameB t u = true) ↔ exT t = exT u := by
  constructor
  · intro h
    have h0 : cmpT t u = 0 := by simpa [sameB] using h
    rw [cmpT_one t u h0]
  · intro h
    rw [ex_one ht hu h]
    simp [sameB, cmpT_same]
theorem hasX_hasB (ps : List Tm) (t : Tm) (ht : okT t = true) : hasX ps t = hasB ps t := by
  unfold hasX hasB
  induction ps with
  | nil => rfl
  | cons p r ih =>
    simp only [List.any_cons, ih]
    congr 1
    by_cases hp : okT p = true
    · rw [hp, Bool.true_and, Bool.eq_iff_iff, decide_eq_true_iff, sameB_iff (okT_right hp) (okT_right ht)]
    · have hp' : okT p = false := by simpa using hp
      rw [hp', Bool.false_and]
      cases hs : sameB p t with
      | false => rfl
      | true =>
        have h0 : cmpT p t = 0 := by simpa [sameB] using hs
        rw [cmpT_one p t h0] at hp'
        rw [hp'] at ht
        cases ht

theorem okT_kids {op n : Int} {s : ByteArray} {ks : List Tm} {x : Tm} (h : okT (.node op n s ks) = true) (hx : x ∈ ks) : okT x = true := by
  simp only [okT, Bool.and_eq_true, decide_eq_true_eq, rightT] at h
  simp only [okT, Bool.and_eq_true, decide_eq_true_eq]
  refine ⟨?_, rightL_mem' h.2.2 hx⟩
  have := Tm.size_mem hx
  have h1 := h.1
  simp only [Tm.size] at h1
  omega
theorem okT_pub {x : Tm} (h : okT x = true) (hz : x.size ≤ 199) : okT (pubT x) = true := by
  simp only [okT, Bool.and_eq_true, decide_eq_true_eq] at h
  simp only [okT, Bool.and_eq_true, decide_eq_true_eq, pubT, Tm.size, Tm.sizes, rightT, rightL, h.2, and_true]
  exact ⟨by omega, show headB 4 0 ByteArray.empty 1 = true by decide, by simp [shareB]⟩
theorem mkL_all (ps : List Tm) : ∀ ks : List Tm, mkL ps ks = (ks.map (mkB ps)).all fun b => b
  | [] => rfl
  | t :: r => by simp [mkL, mkL_all ps r]
theorem spL_map (ps : List Tm) : ∀ ks : List Tm, spL ps ks = ks.map (spX ps)
  | [] => rfl
  | t :: r => by simp [spL, spL_map ps r]

theorem spX_any (ps : List Tm) : ∀ (k : Nat) (t : Tm), t.size ≤ k → okT t = true → spX ps t = mkB ps t
  | 0, t, h, _ => by have := t.size_pos; omega
  | k + 1, .node op n s ks, h, hok => by
    have hk : ∀ x ∈ ks, spX ps x = mkB ps x := fun x hx => spX_any ps k x (by have := Tm.size_mem hx; simp only [Tm.size] at h; omega) (okT_kids hok hx)
    have hmap : spL ps ks = ks.map (mkB ps) := by rw [spL_map]; exact List.map_congr_left hk
    have hr := hok
    simp only [okT, Bool.and_eq_true, rightT] at hr
    have hlen := headB_len hr.2.1.1
    simp only [spX, hmap, hasX_hasB ps _ hok, mkB]
    by_cases e1 : op = 1
    · subst e1
      simp [putX]
    by_cases e2 : op = 2
    · subst e2
      have h0 : ks = [] := by
        simp only [kidsOf] at hlen
        simp at hlen
        exact List.length_eq_zero_iff.1 (by omega)
      subst h0
      simp [putX]
    by_cases e5 : op = 5
    · subst e5
      have hk2 : ks.length = 2 := by
        simp only [kidsOf] at hlen
        simp at hlen
        omega
      obtain ⟨x, y, rfl⟩ := two_of hk2
      have sx := x.size_pos
      have sy := y.size_pos
      have hz : (Tm.node 5 n s [x, y]).size ≤ 200 := by
        have h9 := hok
        simp only [okT, Bool.and_eq_true, decide_eq_true_eq] at h9
        exact h9.1
      simp only [Tm.size, Tm.sizes] at hz
      have hpx := hasX_hasB ps (pubT x) (okT_pub (okT_kids hok (by simp)) (by omega))
      have hpy := hasX_hasB ps (pubT y) (okT_pub (okT_kids hok (by simp)) (by omega))
      simp only [putX, List.map_cons, List.map_nil, hpx, hpy, mkS]
      generalize mkB ps x = mx
      generalize mkB ps y = my
      generalize hasB ps (pubT x) = px
      generalize hasB ps (pubT y) = py
      generalize hasB ps (.node 5 n s [x, y]) = hh
      cases mx <;> cases my <;> cases px <;> cases py <;> cases hh <;> rfl
    · simp only [putX, if_neg e1, if_neg e5, mkL_all]
      cases hh : (ks.map (mkB ps)).all fun b => b <;> simp [e1, e2]

/-- What impl puts together of a right term is what the model makes. -/
theorem spX_mkB (ps : List Tm) (t : Tm) (h : okT t = true) : spX ps t = mkB ps t := spX_any ps t.size t (Nat.le_refl _) h

theorem exL_append : ∀ (x y : List Tm), exL (x ++ y) = exL x ++ exL y
  | [], y => by simp [exL]
  | t :: r, y => by simp [exL, exL_append r y]
theorem exL_take {ks : List Tm} {k : Nat} (h : k < ks.length) : exL (ks.take (k + 1)) = exL (ks.take k) ++ exT ks[k] := by
  rw [← List.take_append_getElem h, exL_append]
  simp [exL]

theorem headX_le {op n : Int} {s : ByteArray} (hop : -9223372036854775808 ≤ op ∧ op ≤ 9223372036854775807) (hn : -9223372036854775808 ≤ n ∧ n ≤ 9223372036854775807) (hs : s.size ≤ 300) : (headX op n s).length ≤ 400 := by
  have e1 := Lib.itoa_length_le op hop.1 hop.2
  have e2 := Lib.itoa_length_le n hn.1 hn.2
  have e3 := Lib.itoa_length_le (s.size : Int) (by omega) (by omega)
  have e4 : s.toList.length = s.size := by rw [ByteArray.toList_eq]; simp
  simp only [headX, List.length_append, List.length_cons, e4]
  omega

theorem right_head {op n : Int} {s : ByteArray} {ks : List Tm} (h : rightT (.node op n s ks) = true) : (-9223372036854775808 ≤ op ∧ op ≤ 9223372036854775807) ∧ (-9223372036854775808 ≤ n ∧ n ≤ 9223372036854775807) ∧ s.size ≤ 300 ∧ rightL ks = true := by
  simp only [rightT, Bool.and_eq_true, headB, decide_eq_true_eq] at h
  obtain ⟨⟨⟨h1, _, _, h2, h3⟩, _⟩, h4⟩ := h
  refine ⟨?_, by omega, h3, h4⟩
  unfold kidsOf at h1
  split at h1
  · omega
  · split at h1
    · omega
    · split at h1
      · omega
      · omega

mutual
theorem exT_le : ∀ t : Tm, rightT t = true → (exT t).length ≤ 400 * t.size
  | .node op n s ks, h => by
    obtain ⟨h1, h2, h3, h4⟩ := right_head h
    have := headX_le h1 h2 h3
    have := exL_le ks h4
    simp only [exT, Tm.size, List.length_append]
    omega
theorem exL_le : ∀ ks : List Tm, rightL ks = true → (exL ks).length ≤ 400 * Tm.sizes ks
  | [], _ => by simp [exL, Tm.sizes]
  | t :: r, h => by
    simp only [rightL, Bool.and_eq_true] at h
    have := exT_le t h.1
    have := exL_le r h.2
    simp only [exL, Tm.sizes, List.length_append]
    omega
end

theorem exL_take_le {ks : List Tm} (k : Nat) : (exL (ks.take k)).length ≤ (exL ks).length := by
  conv => rhs; rw [← List.take_append_drop k ks, exL_append]
  simp

def AxOk (t : Tm) : Prop := ∀ (w0 : World) (l : List UInt8) (tv : Value) (op n : Int) (s : ByteArray) (a : Option Addr) (len cap : Nat) (w : World), Lies w0 0 t (tmCells op n s a len cap) → rightT t = true → t.size ≤ 2097152 → l.length + (exT t).length ≤ 500000 → Bts w0 l tv w → Below w0.heap.size w0 w → TabB w0 w0 →
  Calls Tryz.prog 139 #[tv, .agg #[.int .i64 op, .int .i64 n, .string s, .slice a len cap]] w fun e w' => ∃ v', e = .returned v' ∧ Bts w0 (l ++ exT t) v' w' ∧ Below w0.heap.size w0 w' ∧ Oth w w'

set_option maxHeartbeats 1000000 in
theorem ax_step (t : Tm) (h : ∀ x ∈ t.kids, AxOk x) : AxOk t := by
  intro w0 l tv op n s a len cap w hl hr hsz hlen ho hb ht
  cases t with
  | node op' n' s' ks =>
    simp only [Lies, tmCells] at hl
    obtain ⟨a', cap', he, ⟨hs, hlc, hcm⟩, hwf, hk⟩ := hl
    simp only [List.cons.injEq, Value.int.injEq, Value.string.injEq, Value.slice.injEq, true_and, and_true] at he
    obtain ⟨rfl, rfl, rfl, rfl, rfl, rfl⟩ := he
    obtain ⟨r1, r2, r3, r4⟩ := right_head hr
    have hll := Tm.length_le_sizes ks
    have HSZ : Hid (∀ x ∈ ks, x.size ≤ 2097152) := fun x hx => by have := Tm.size_mem hx; simp only [Tm.size] at hsz; omega
    have hlb : ks.length ≤ 2097152 := by simp only [Tm.size] at hsz; omega
    have HRK : Hid (∀ x ∈ ks, rightT x = true) := fun x hx => rightL_mem' r4 hx
    have HLN : Hid (∀ (k : Nat) (x : Tm), ks[k]? = some x → (l ++ headX op n s ++ exL (ks.take k)).length + (exT x).length ≤ 500000) := fun k x hx => by
      obtain ⟨hk, rfl⟩ := List.getElem?_eq_some_iff.1 hx
      have e1 := exL_take_le (ks := ks) (k + 1)
      rw [exL_take hk] at e1
      simp only [exT, List.length_append] at hlen e1 ⊢
      omega
    have h31 := hide (head_calls w0 l tv op n s a ks.length cap)
    have HOP := hide (And.intro r1 (And.intro r2 r3))
    have HLL : Hid (l.length ≤ 500000) := by show _ ≤ _; omega
    have HT := hide ht
    have HO := hide (ho.on (abD (.cells #[.int .i64 op, .int .i64 n, .string s, .slice a ks.length cap] 56)))
    have HB := hide (hb.trans ((abD (.cells #[.int .i64 op, .int .i64 n, .string s, .slice a ks.length cap] 56)).mono hb.size))
    have HK := hide hk
    have H' : Hid (∀ x ∈ ks, AxOk x) := h
    have HBX := hide (heap_alloc_new w (.cells #[.int .i64 op, .int .i64 n, .string s, .slice a ks.length cap] 56))
    obtain ⟨ta, tc, rfl⟩ := ho.shape
    generalize hlen' : ks.length = len at *
    have HL := hide hlen'
    clear h hk hwf hs hlc hcm hsz hll hlen' hlen r1 r2 r3 r4 hr ho hb ht
    go_enter Tryz.func139, Tryz.ntmps139
    go_wp2_with fail
    refine (unhide h31 _ (unhide HOP).1 (unhide HOP).2.1 (unhide HOP).2.2 (unhide HLL) (unhide HO) (unhide HB) (unhide HT)).mono ?_
    rintro e w2 ⟨v2, rfl, hb2, hbe2, hoth2⟩
    obtain ⟨va, vc, rfl⟩ := hb2.shape
    have hrow2 := hoth2.row (unhide HBX) (by decide)
    have c3 := cell_of_row hrow2 (j := 3) (by simp)
    simp only [List.getElem_toArray, List.getElem_cons_zero, List.getElem_cons_succ] at c3
    have HB2 := hide hb2
    have HBE2 := hide hbe2
    have HOT2 := hide hoth2.out
    clear hb2 hbe2 hoth2 hrow2
    generalize (l ++ headX op n s).length = vl at *
    go_wp2_with fail
    go_loopw [0, 13] (fun tv i wr => ∃ k : Nat, k ≤ len ∧ i = .int .i64 k ∧ Bts w0 (l ++ headX op n s ++ exL (ks.take k)) tv wr ∧ Below w0.heap.size w0 wr ∧ Oth w wr) (fun _ i _ => len - (intOf i).toNat)
    case atStart => exact ⟨0, Nat.zero_le _, rfl, by simpa [exL] using unhide HB2, unhide HBE2, unhide HOT2⟩
    case round =>
      obtain ⟨k, hkl, rfl, hbt, hbw, hot⟩ := hrel
      obtain ⟨ua, uc, rfl⟩ := hbt.shape
      by_cases hlt : k < len
      · have hlt' : k < ks.length := by have := unhide HL; omega
        obtain ⟨b, o, op1, n1, s1, a1, len1, cap1, rfl, _, hbs, c0, c1, c2, c3, hT⟩ := (unhide HK).elem (k := k) hlt'
        have c0' := (hbw.cell (p := ⟨b, o + k * 4, none⟩) hbs).trans c0
        have c1' := (hbw.cell (p := ⟨b, o + k * 4 + 1, none⟩) hbs).trans c1
        have c2' := (hbw.cell (p := ⟨b, o + k * 4 + 2, none⟩) hbs).trans c2
        have c3' := (hbw.cell (p := ⟨b, o + k * 4 + 3, none⟩) hbs).trans c3
        have HCT := hide (unhide H' ks[k] (List.getElem_mem hlt') w0 _ _ op1 n1 s1 a1 len1 cap1 (wr.alloc (.cells #[.int .i64 op1, .int .i64 n1, .string s1, .slice a1 len1 cap1] 56)) hT (unhide HRK _ (List.getElem_mem hlt')) (unhide HSZ _ (List.getElem_mem hlt')) (unhide HLN k _ (List.getElem?_eq_getElem hlt')) (hbt.on (abD _)) (hbw.trans ((abD _).mono hbw.size)) (unhide HT))
        have HE := hide (exL_take hlt')
        have HOT := hide (hot.add (.cells #[.int .i64 op1, .int .i64 n1, .string s1, .slice a1 len1 cap1] 56))
        generalize (l ++ headX op n s ++ exL (ks.take k)).length = ul at *
        clear c0 c1 c2 c3 hT hbt hbw hot
        go_wp2_with fail
        refine (unhide HCT).mono ?_
        rintro e w3 ⟨v3, rfl, hb3, hbe3, hoth3⟩
        have HB3 := hide hb3
        have HBE3 := hide hbe3
        have HOT3 := hide ((unhide HOT).go hoth3)
        clear hb3 hbe3 hoth3
        go_wp2_with fail
        exact ⟨⟨k + 1, by omega, by go_num, by rw [unhide HE, ← List.append_assoc]; exact unhide HB3, unhide HBE3, unhide HOT3⟩, by simp [intOf]; omega⟩
      · obtain rfl : k = len := by omega
        have HB3 := hide hbt
        have HBE3 := hide hbw
        have HOT3 := hide hot
        generalize hgl : (l ++ headX op n s ++ exL (ks.take k)).length = ul at *
        clear hbt hbw hot
        go_wp2_with fail
        go_ret
        refine ⟨_, rfl, ?_, unhide HBE3, unhide HOT3⟩
        have h9 := unhide HB3
        rw [List.take_of_length_le (by have := unhide HL; omega), List.append_assoc] at h9
        exact h9

theorem ax_any : ∀ (k : Nat) (t : Tm), t.size ≤ k → AxOk t
  | 0, t, h => by have := t.size_pos; omega
  | k + 1, t, h => ax_step t fun x hx => ax_any k x (by
      cases t with
      | node op n s ks =>
        have := Tm.size_mem (ks := ks) hx
        simp only [Tm.size] at h
        omega)

theorem ax_calls (t : Tm) : AxOk t := ax_any t.size t (Nat.le_refl _)

theorem Bts.nil (w : World) : Bts w [] (.slice none 0 0) w := ⟨by simp, Or.inl ⟨rfl, rfl⟩⟩

theorem bts_conv {w wr : World} {l : List UInt8} {tv : Value} (h : Bts w l tv wr) : (convert 164 9 tv).run Tryz.prog wr = .ok (.string ⟨l.toArray⟩) wr := by
  have ho := h
  rcases h.2 with ⟨h1, h2⟩ | ⟨g, cap, cur, h1, _⟩
  · obtain rfl : l = [] := by simpa using h2
    rw [h1]
    exact run_convert_bytes_nil wr 164 5 Tryz.underlying164 Tryz.underlying5 0 0 9 Tryz.underlying9
  · rw [h1]
    exact run_convert_bytes_back wr 164 9 5 ⟨g, 0, none⟩ cap l Tryz.underlying164 Tryz.underlying5 Tryz.underlying9 fun j hj =>
      World.ownsRow.cells ho (g := g) (by rw [h1]; rfl) j _ (by simp [hj])

set_option maxHeartbeats 1000000 in
theorem ext_calls (t : Tm) (op n : Int) (s : ByteArray) (a : Option Addr) (len cap : Nat) (w : World) (hl : Lies w 0 t (tmCells op n s a len cap)) (hr : rightT t = true) (hz : t.size ≤ 400) (ht : TabB w w) :
    Calls Tryz.prog 122 #[.agg #[.int .i64 op, .int .i64 n, .string s, .slice a len cap]] w fun e w' => e = .returned (.string ⟨(exT t).toArray⟩) ∧ Below w.heap.size w w' := by
  have h30 := hide (ax_calls t w [] (.slice none 0 0) op n s a len cap)
  have hx := exT_le t hr
  have HL := hide hl
  have HR := hide hr
  have HT := hide ht
  have HX : Hid (([] : List UInt8).length + (exT t).length ≤ 500000) := by show _ ≤ _; simp; omega
  have HZ : Hid (t.size ≤ 2097152) := by show _ ≤ _; omega
  have HO := hide ((Bts.nil w).on (abD (.cells #[.int .i64 op, .int .i64 n, .string s, .slice a len cap] 56)))
  have HB := hide (abD (w := w) (.cells #[.int .i64 op, .int .i64 n, .string s, .slice a len cap] 56))
  clear hl hr ht hx hz
  go_enter Tryz.func122, Tryz.ntmps122
  go_wp2_with fail
  refine (unhide h30 _ (unhide HL) (unhide HR) (unhide HZ) (unhide HX) (unhide HO) (unhide HB) (unhide HT)).mono ?_
  rintro e w2 ⟨v2, rfl, hb2, hbe2, -⟩
  obtain ⟨va, vc, rfl⟩ := hb2.shape
  have hcv := bts_conv hb2
  generalize ([] ++ exT t).length = vl at *
  have HBE := hide hbe2
  clear hb2 hbe2
  go_wp2_with fail
  go_ret
  exact ⟨rfl, unhide HBE⟩

/-- In the middle of the copy: k of the kids are there. -/
structure TpMid (w : World) (ks : List Tm) (k : Nat) (wr : World) : Prop where
  below : Below w.heap.size w wr
  row : ∃ C, wr.heap[w.heap.size]? = some (.cells C 56 (0, 0)) ∧ C.size = ks.length * 4
  done : ∃ f, OwnAll wr w.heap.size 0 (ks.take k) f ∧ f.Nodup ∧ ∀ x ∈ f, w.heap.size < x

theorem TpMid.start (w : World) (ks : List Tm) : TpMid w ks 0 (w.alloc (.cells (madeTm ks.length) 56)) :=
  ⟨(Below.refl _ _).alloc (Nat.le_refl _) _, ⟨madeTm ks.length, heap_alloc_new w _, madeTm_size _⟩, [], by simp [OwnAll], by simp, by simp⟩

theorem TpMid.lt {w wr : World} {ks : List Tm} {k : Nat} (h : TpMid w ks k wr) : w.heap.size < wr.heap.size := by
  obtain ⟨C, h1, _⟩ := h.row
  exact lt_of_heap h1

theorem TpMid.row2 {w wr w2 : World} {ks : List Tm} {k : Nat} (h : TpMid w ks k wr) (hb : Below wr.heap.size wr w2) : ∃ C, w2.heap[w.heap.size]? = some (.cells C 56 (0, 0)) ∧ C.size = ks.length * 4 := by
  obtain ⟨C, h1, h2⟩ := h.row
  exact ⟨C, (hb.block _ h.lt).trans h1, h2⟩

theorem TpMid.there {w wr w2 : World} {ks : List Tm} {k : Nat} (h : TpMid w ks k wr) (hb : Below wr.heap.size wr w2) (hk : k < ks.length) : w2.there w.heap.size (k * 4) 4 := by
  obtain ⟨C, h1, h2⟩ := h.row2 hb
  intro j hj
  exact ⟨by rw [cell_of_row h1 (by omega)]; rfl, frozen_of_row h1⟩

theorem setCells_other (b : Nat) : ∀ (vs : List Value) (o : Nat) (v : World) (x : Nat), x ≠ b → (v.setCells b o vs).heap[x]? = v.heap[x]?
  | [], _, _, _, _ => rfl
  | u :: r, o, v, x, h => (setCells_other b r (o + 1) _ x h).trans (Below.heap_setCell v ⟨b, o, none⟩ u x h)

theorem setCells_below (B b : Nat) (hB : B ≤ b) : ∀ (vs : List Value) (o : Nat) (v : World), Below B v (v.setCells b o vs)
  | [], _, _ => Below.refl _ _
  | x :: r, o, v => ((Below.refl _ v).setCell (p := ⟨b, o, none⟩) hB x).trans (setCells_below B b hB r (o + 1) _)

theorem TpMid.step {w wr w2 : World} {ks : List Tm} {k : Nat} {cs : List Value} {f1 : List Nat} (h : TpMid w ks k wr) (hb : Below wr.heap.size wr w2) (hk : k < ks.length) (hl : Own w2 ks[k] cs f1) (hnd : f1.Nodup) (hge : ∀ x ∈ f1, wr.heap.size ≤ x) :
    TpMid w ks (k + 1) (w2.setCells w.heap.size (k * 4) cs) := by
  have hlt := h.lt
  have h4 := hl.length
  have hth := h.there hb hk
  have out : ∀ x, x ≠ w.heap.size → (w2.setCells w.heap.size (k * 4) cs).heap[x]? = w2.heap[x]? := setCells_other _ _ _ _
  obtain ⟨C, h1, h2⟩ := h.row2 hb
  obtain ⟨C', g1, g2⟩ := setCells_row cs (k * 4) w2 C h1
  obtain ⟨f, d1, d2, d3⟩ := h.done
  have hfl := OwnAll.lt _ _ _ f d1
  have hdis : ∀ x ∈ f, x ∉ f1 := fun x hx hx1 => by have := hge x hx1; have := hfl x hx; omega
  refine ⟨(h.below.trans (hb.mono (by omega))).trans (setCells_below _ _ (Nat.le_refl _) _ _ _), ⟨C', g1, g2.trans h2⟩, f ++ f1, ?_, List.nodup_append.2 ⟨d2, hnd, fun x hx y hy e => hdis x hx (e ▸ hy)⟩, fun x hx => ?_⟩
  · rw [Tm.take_succ_get (List.getElem?_eq_getElem hk)]
    have := OwnAll.join (w := w2.setCells w.heap.size (k * 4) cs) (b := w.heap.size) (t := ks[k]) (l2 := []) (f1 := f1) (fB := []) (cs := cs) (i := 0) (l1 := ks.take k) (fA := f) ?_ ?_ ?_ (by simp [OwnAll])
    · rw [List.append_nil] at this
      exact this
    · refine OwnAll.keep _ 0 _ f d1 (fun i _ hi => ?_) fun x hx => (out x (by have := d3 x hx; omega)).trans (hb.block x (hfl x hx))
      rw [List.length_take, Nat.min_eq_left (by omega)] at hi
      rw [World.cell?_setCells_out _ _ _ _ _ (fun _ => by simp only; omega)]
      exact World.cell?_of_block (hb.block _ hlt)
    · rw [List.length_take, Nat.min_eq_left (by omega), Nat.zero_add]
      exact World.rangeAt_setCells_same _ _ _ _ (by rw [h4]; exact hth)
    · exact Own.keep _ cs f1 hl fun x hx => out x (by have := hge x hx; omega)
  · rcases List.mem_append.1 hx with hx | hx
    · exact d3 x hx
    · have := hge x hx; omega

theorem TpMid.kids {w wr : World} {ks : List Tm} (h : TpMid w ks ks.length wr) : ∃ fp, KidsOwn wr (some ⟨w.heap.size, 0, none⟩) ks fp ∧ fp.Nodup ∧ ∀ x ∈ fp, w.heap.size ≤ x := by
  obtain ⟨C, h1, _⟩ := h.row
  obtain ⟨f, d1, d2, d3⟩ := h.done
  rw [List.take_length] at d1
  refine ⟨w.heap.size :: f, Or.inr ⟨_, C, f, rfl, rfl, h1, d1⟩, List.nodup_cons.2 ⟨fun hx => by have := d3 _ hx; omega, d2⟩, fun x hx => ?_⟩
  rcases List.mem_cons.1 hx with rfl | hx
  · exact Nat.le_refl _
  · exact Nat.le_of_lt (d3 x hx)

def TpOk (t : Tm) : Prop := ∀ (op n : Int) (s : ByteArray) (a : Option Addr) (len cap : Nat) (w : World), Lies w 0 t (tmCells op n s a len cap) → t.size ≤ 2097152 →
  Calls Tryz.prog 50 #[.agg #[.int .i64 op, .int .i64 n, .string s, .slice a len cap]] w fun e w' => ∃ a' fp, e = .returned (.agg #[.int .i64 op, .int .i64 n, .string s, .slice a' len len]) ∧ Own w' t (tmCells op n s a' len len) fp ∧ (fp.Nodup ∧ ∀ x ∈ fp, w.heap.size ≤ x) ∧ Below w.heap.size w w'

set_option maxHeartbeats 400000 in
theorem tpS_any (ks : List Tm) (hks : ∀ t ∈ ks, TpOk t) (a : Option Addr) (cap : Nat) (w : World) (hl : LiesAll w 0 a 0 ks) (hsz : Tm.sizes ks ≤ 2097152) :
    Calls Tryz.prog 20 #[.slice a ks.length cap] w fun e w' => e = .returned (.slice (some ⟨w.heap.size, 0, none⟩) ks.length ks.length) ∧ (∃ fp, KidsOwn w' (some ⟨w.heap.size, 0, none⟩) ks fp ∧ fp.Nodup ∧ ∀ x ∈ fp, w.heap.size ≤ x) ∧ Below w.heap.size w w' := by
  have hll := Tm.length_le_sizes ks
  have hmk := make_tm ks.length (by omega)
  have HS : Hid (∀ k (hk : k < ks.length), (ks[k]).size ≤ 2097152) := fun k hk => by have := Tm.size_mem (List.getElem_mem hk); omega
  have HM := TpMid.start w ks
  have HM' : Hid (TpMid w ks 0 (w.alloc (.cells (madeTm ks.length) 56))) := HM
  clear HM
  have hlb : ks.length ≤ 2097152 := by omega
  generalize hlen : ks.length = len at hmk hll hlb HM' ⊢
  have HL : Hid (ks.length = len) := hlen
  clear hlen
  go_enter Tryz.func20, Tryz.ntmps20
  go_wp2_with fail
  go_loopw [4] (fun i wr => ∃ k : Nat, k ≤ len ∧ i = .int .i64 k ∧ TpMid w ks k wr) (fun i _ => len - (intOf i).toNat)
  case atStart => exact ⟨0, Nat.zero_le _, rfl, HM'.out⟩
  case round =>
    obtain ⟨k, hkl, rfl, hM⟩ := hrel
    by_cases hlt : k < len
    · have hlt' : k < ks.length := by have := HL.out; omega
      obtain ⟨b, o, op1, n1, s1, a1, len1, cap1, rfl, _, hbs, c0, c1, c2, c3, hT⟩ := hl.elem (k := k) hlt'
      have c0' := (hM.below.cell (p := ⟨b, o + k * 4, none⟩) hbs).trans c0
      have c1' := (hM.below.cell (p := ⟨b, o + k * 4 + 1, none⟩) hbs).trans c1
      have c2' := (hM.below.cell (p := ⟨b, o + k * 4 + 2, none⟩) hbs).trans c2
      have c3' := (hM.below.cell (p := ⟨b, o + k * 4 + 3, none⟩) hbs).trans c3
      have HT : Hid (Lies wr 0 ks[k] (tmCells op1 n1 s1 a1 len1 cap1)) := hT.below hM.below
      have hct := hks ks[k] (List.getElem_mem hlt')
      clear c0 c1 c2 c3 hT
      go_wp2_with fail
      refine (hct op1 n1 s1 a1 len1 cap1 _ HT.out (HS.out k hlt')).mono ?_
      rintro e w2 ⟨a2, f2, rfl, hL2, ⟨hnd2, hge2⟩, hb2⟩
      have hth := hM.there hb2 hlt'
      obtain ⟨d0, f0⟩ := hth 0 (by omega)
      obtain ⟨d1, f1⟩ := hth 1 (by omega)
      obtain ⟨d2, f2⟩ := hth 2 (by omega)
      obtain ⟨d3, f3⟩ := hth 3 (by omega)
      obtain ⟨u0, d0⟩ := Option.isSome_iff_exists.1 d0
      obtain ⟨u1, d1⟩ := Option.isSome_iff_exists.1 d1
      obtain ⟨u2, d2⟩ := Option.isSome_iff_exists.1 d2
      obtain ⟨u3, d3⟩ := Option.isSome_iff_exists.1 d3
      rw [Nat.add_zero] at d0 f0
      have HM2 : Hid (TpMid w ks (k + 1) (w2.setCells w.heap.size (k * 4) (tmCells op1 n1 s1 a2 len1 len1))) := hM.step hb2 hlt' hL2 hnd2 hge2
      clear hL2 hth hnd2 hge2
      go_wp2_with fail
      go_roundw
      case rel => exact ⟨k + 1, by omega, by go_num, HM2.out⟩
      case measure => simp [intOf]; omega
    · go_wp2_with fail
      go_ret
      have hkk : k = ks.length := by have := HL.out; omega
      subst hkk
      exact ⟨rfl, hM.kids, hM.below⟩

set_option maxHeartbeats 400000 in
theorem tp_step (t : Tm) (h : ∀ x ∈ t.kids, TpOk x) : TpOk t := by
  intro op n s a len cap w hl hsz
  cases t with
  | node op' n' s' ks =>
    simp only [Lies, tmCells] at hl
    obtain ⟨a', cap', he, ⟨hs, hlc, hcm⟩, hwf, hk⟩ := hl
    simp only [List.cons.injEq, Value.int.injEq, Value.string.injEq, Value.slice.injEq, true_and, and_true] at he
    obtain ⟨rfl, rfl, rfl, rfl, rfl, rfl⟩ := he
    have hzs : Tm.sizes ks ≤ 2097152 := by simp only [Tm.size] at hsz; omega
    have hS := tpS_any ks h
    have HF : Hid (s.size ≤ maxLen ∧ ks.length ≤ ks.length ∧ ks.length ≤ maxLen) := ⟨hs, Nat.le_refl _, by omega⟩
    have HW : Hid ((Lit.int .i64 op).wf = true ∧ (Lit.int .i64 n).wf = true) := hwf
    have HK : Hid (LiesAll w 0 a 0 ks) := hk
    clear h hk hwf hs hlc hcm
    go_enter Tryz.func50, Tryz.ntmps50
    go_wp2_with fail
    refine (hS a cap _ (HK.out.below (below_alloc3 _ _ _ _)) hzs).mono ?_
    rintro e w2 ⟨rfl, ⟨fp, hL2, hnd, hge⟩, hb2⟩
    obtain ⟨hc, hf⟩ := bcell hb2
    go_wp2_with fail
    simp only [heap_size_alloc] at hL2 hb2 hc hge
    have hb3 : Below w.heap.size w w2 := (below_alloc3 _ _ _ _).trans (hb2.mono (by omega))
    refine bodyPost_ret (v := .agg #[.int .i64 op, .int .i64 n, .string s, .slice (some ⟨w.heap.size + 1 + 1 + 1, 0, none⟩) ks.length ks.length]) (by simp [results, Tryz.results50, go_sem, hc]) rfl ⟨_, fp, rfl, ?_, ⟨hnd, fun x hx => by have := hge x hx; omega⟩, ?_⟩
    · refine Own.of_kids HF.out HW.out (hL2.keep fun b hb => ?_)
      have hbb := hge b hb
      rw [Below.heap_setCell _ _ _ _ (by show b ≠ _; simp only; omega), Below.heap_setCell _ _ _ _ (by show b ≠ _; simp only; omega), Below.heap_setCell _ _ _ _ (by show b ≠ _; simp only; omega), Below.heap_setCell _ _ _ _ (by show b ≠ _; simp only; omega), Below.heap_setCell _ _ _ _ (by show b ≠ _; simp only; omega)]
    · exact ((((hb3.setCell (by show w.heap.size ≤ w.heap.size + 1 + 1; omega) _).setCell (by simp) _).setCell (by simp) _).setCell (by simp) _).setCell (by simp) _

theorem tp_any : ∀ (k : Nat) (t : Tm), t.size ≤ k → TpOk t
  | 0, t, h => by have := t.size_pos; omega
  | k + 1, t, h => tp_step t fun x hx => tp_any k x (by
      cases t with
      | node op n s ks =>
        have := Tm.size_mem (ks := ks) hx
        simp only [Tm.size] at h
        omega)

theorem tp_calls (t : Tm) : TpOk t := tp_any t.size t (Nat.le_refl _)

/-- A place that is still to be done: where it lies, and which term it is. -/
abbrev Hole := Nat × Nat × Tm
def hv (h : Hole) : Value := .pointer (some ⟨h.1, h.2.1, none⟩)

mutual
/-- The term's cells lie at b, o; its kids are copied (in the blocks fp), but for the places hs, whose kids lie in w0. -/
def OwnP (w w0 : World) : Tm → Nat → Nat → List Nat → List Hole → Prop
  | .node op n s ks, b, o, fp, hs => ∃ a cap, w.rangeAt b o (tmCells op n s a ks.length cap) ∧ (s.size ≤ maxLen ∧ ks.length ≤ cap ∧ cap ≤ maxLen) ∧ ((Lit.int .i64 op).wf = true ∧ (Lit.int .i64 n).wf = true) ∧
      ((fp = [] ∧ hs = [(b, o, .node op n s ks)] ∧ LiesAll w0 0 a 0 ks) ∨ (ks = [] ∧ fp = [] ∧ hs = [] ∧ a = none ∧ cap = 0) ∨
        ∃ b' C f, a = some ⟨b', 0, none⟩ ∧ ks ≠ [] ∧ fp = b' :: f ∧ w.heap[b']? = some (.cells C 56 (0, 0)) ∧ OwnPs w w0 ks b' 0 f hs)
def OwnPs (w w0 : World) : List Tm → Nat → Nat → List Nat → List Hole → Prop
  | [], _, _, fp, hs => fp = [] ∧ hs = []
  | t :: r, b, i, fp, hs => ∃ f1 f2 h1 h2, fp = f1 ++ f2 ∧ hs = h1 ++ h2 ∧ OwnP w w0 t b (i * 4) f1 h1 ∧ OwnPs w w0 r b (i + 1) f2 h2
end

mutual
theorem OwnP.done {w w0 : World} : ∀ (t : Tm) (b o : Nat) (fp : List Nat), OwnP w w0 t b o fp [] → ∃ cs, w.rangeAt b o cs ∧ Own w t cs fp
  | .node op n s ks, b, o, fp, h => by
    simp only [OwnP] at h
    obtain ⟨a, cap, h1, h2, h3, h4⟩ := h
    refine ⟨_, h1, ?_⟩
    simp only [Own]
    refine ⟨a, cap, rfl, h2, h3, ?_⟩
    rcases h4 with ⟨_, hx, _⟩ | ⟨hk, hf, _⟩ | ⟨b', C, f, ha, _, rfl, hb, hk⟩
    · cases hx
    · exact Or.inl ⟨hk, hf⟩
    · exact Or.inr ⟨b', C, f, ha, rfl, hb, OwnPs.done ks b' 0 f hk⟩
theorem OwnPs.done {w w0 : World} : ∀ (ks : List Tm) (b i : Nat) (fp : List Nat), OwnPs w w0 ks b i fp [] → OwnAll w b i ks fp
  | [], b, i, fp, h => by
    simp only [OwnPs] at h
    simp only [OwnAll]
    exact h.1
  | t :: r, b, i, fp, h => by
    simp only [OwnPs] at h
    obtain ⟨f1, f2, h1, h2, rfl, hh, ht, hr⟩ := h
    obtain ⟨rfl, rfl⟩ := List.append_eq_nil_iff.1 hh.symm
    simp only [OwnAll]
    obtain ⟨cs, hc, ho⟩ := OwnP.done t b (i * 4) f1 ht
    exact ⟨cs, f1, f2, rfl, hc, ho, OwnPs.done r b (i + 1) f2 hr⟩
end

/-- A term with no kids that is done: its row is nil. -/
theorem OwnP.leaf {w w0 : World} {op n : Int} {s : ByteArray} {b o : Nat} {fp : List Nat} (h : OwnP w w0 (.node op n s []) b o fp []) : w.rangeAt b o (tmCells op n s none 0 0) := by
  simp only [OwnP] at h
  obtain ⟨a, cap, h1, h2, h3, h4⟩ := h
  rcases h4 with ⟨_, hx, _⟩ | ⟨_, _, _, rfl, rfl⟩ | ⟨b', C, f, ha, hnn, _⟩
  · cases hx
  · exact h1
  · exact absurd rfl hnn

mutual
theorem OwnP.ty {w w0 : World} : ∀ (t : Tm) (b o : Nat) (fp : List Nat) (hs : List Hole), OwnP w w0 t b o fp hs → ∀ y ∈ fp, ∃ C, w.heap[y]? = some (.cells C 56 (0, 0))
  | .node op n s ks, b, o, fp, hs, h, y, hy => by
    simp only [OwnP] at h
    obtain ⟨a, cap, h1, h2, h3, h4⟩ := h
    rcases h4 with ⟨rfl, _⟩ | ⟨_, rfl, _⟩ | ⟨b', C, f, ha, _, rfl, hb, hk⟩
    · cases hy
    · cases hy
    · rcases List.mem_cons.1 hy with rfl | hy
      · exact ⟨C, hb⟩
      · exact OwnPs.ty ks b' 0 f hs hk y hy
theorem OwnPs.ty {w w0 : World} : ∀ (ks : List Tm) (b i : Nat) (fp : List Nat) (hs : List Hole), OwnPs w w0 ks b i fp hs → ∀ y ∈ fp, ∃ C, w.heap[y]? = some (.cells C 56 (0, 0))
  | [], b, i, fp, hs, h, y, hy => by
    simp only [OwnPs] at h
    rw [h.1] at hy
    cases hy
  | t :: r, b, i, fp, hs, h, y, hy => by
    simp only [OwnPs] at h
    obtain ⟨f1, f2, h1, h2, rfl, rfl, ht, hr⟩ := h
    rcases List.mem_append.1 hy with hy | hy
    · exact OwnP.ty t b (i * 4) f1 h1 ht y hy
    · exact OwnPs.ty r b (i + 1) f2 h2 hr y hy
end

theorem OwnP.lt {w w0 : World} {t : Tm} {b o : Nat} {fp : List Nat} {hs : List Hole} (h : OwnP w w0 t b o fp hs) : ∀ y ∈ fp, y < w.heap.size := fun y hy => by
  obtain ⟨C, hC⟩ := OwnP.ty t b o fp hs h y hy
  exact lt_of_heap hC
theorem OwnPs.lt {w w0 : World} {ks : List Tm} {b i : Nat} {fp : List Nat} {hs : List Hole} (h : OwnPs w w0 ks b i fp hs) : ∀ y ∈ fp, y < w.heap.size := fun y hy => by
  obtain ⟨C, hC⟩ := OwnPs.ty ks b i fp hs h y hy
  exact lt_of_heap hC

mutual
theorem OwnP.place {w w0 : World} : ∀ (t : Tm) (b o : Nat) (fp : List Nat) (hs : List Hole), OwnP w w0 t b o fp hs → ∀ h ∈ hs, (h.1 = b ∧ h.2.1 = o) ∨ h.1 ∈ fp
  | .node op n s ks, b, o, fp, hs, h, x, hx => by
    simp only [OwnP] at h
    obtain ⟨a, cap, h1, h2, h3, h4⟩ := h
    rcases h4 with ⟨rfl, rfl, _⟩ | ⟨_, _, rfl, _⟩ | ⟨b', C, f, ha, _, rfl, hb, hk⟩
    · rw [List.mem_singleton] at hx
      subst hx
      exact Or.inl ⟨rfl, rfl⟩
    · cases hx
    · rcases OwnPs.place ks b' 0 f hs hk x hx with ⟨h5, _⟩ | h5
      · exact Or.inr (by rw [h5]; simp)
      · exact Or.inr (by simp [h5])
theorem OwnPs.place {w w0 : World} : ∀ (ks : List Tm) (b i : Nat) (fp : List Nat) (hs : List Hole), OwnPs w w0 ks b i fp hs → ∀ h ∈ hs, (h.1 = b ∧ ∃ j, i ≤ j ∧ h.2.1 = j * 4) ∨ h.1 ∈ fp
  | [], b, i, fp, hs, h, x, hx => by
    simp only [OwnPs] at h
    rw [h.2] at hx
    cases hx
  | t :: r, b, i, fp, hs, h, x, hx => by
    simp only [OwnPs] at h
    obtain ⟨f1, f2, h1, h2, rfl, rfl, ht, hr⟩ := h
    rcases List.mem_append.1 hx with hx | hx
    · rcases OwnP.place t b (i * 4) f1 h1 ht x hx with ⟨h5, h6⟩ | h5
      · exact Or.inl ⟨h5, i, Nat.le_refl _, h6⟩
      · exact Or.inr (by simp [h5])
    · rcases OwnPs.place r b (i + 1) f2 h2 hr x hx with ⟨h5, j, h6, h7⟩ | h5
      · exact Or.inl ⟨h5, j, by omega, h7⟩
      · exact Or.inr (by simp [h5])
end

mutual
theorem OwnP.keep {w w' w0 : World} : ∀ (t : Tm) (b o : Nat) (fp : List Nat) (hs : List Hole), OwnP w w0 t b o fp hs → (∀ j, j < 4 → w'.cell? ⟨b, o + j, none⟩ = w.cell? ⟨b, o + j, none⟩) → (∀ y ∈ fp, w'.heap[y]? = w.heap[y]?) → OwnP w' w0 t b o fp hs
  | .node op n s ks, b, o, fp, hs, h, hc, hf => by
    simp only [OwnP] at h ⊢
    obtain ⟨a, cap, h1, h2, h3, h4⟩ := h
    refine ⟨a, cap, fun j v hj => ?_, h2, h3, ?_⟩
    · have hj4 : j < 4 := by have := (List.getElem?_eq_some_iff.1 hj).1; simpa [tmCells] using this
      rw [hc j hj4]
      exact h1 j v hj
    · rcases h4 with h4 | h4 | ⟨b', C, f, ha, hnn, rfl, hb, hk⟩
      · exact Or.inl h4
      · exact Or.inr (Or.inl h4)
      · exact Or.inr (Or.inr ⟨b', C, f, ha, hnn, rfl, (hf b' (by simp)).trans hb, OwnPs.keep ks b' 0 f hs hk (fun j _ => World.cell?_of_block (hf b' (by simp))) fun y hy => hf y (by simp [hy])⟩)
theorem OwnPs.keep {w w' w0 : World} : ∀ (ks : List Tm) (b i : Nat) (fp : List Nat) (hs : List Hole), OwnPs w w0 ks b i fp hs → (∀ j, i * 4 ≤ j → w'.cell? ⟨b, j, none⟩ = w.cell? ⟨b, j, none⟩) → (∀ y ∈ fp, w'.heap[y]? = w.heap[y]?) → OwnPs w' w0 ks b i fp hs
  | [], b, i, fp, hs, h, _, _ => by
    simp only [OwnPs] at h ⊢
    exact h
  | t :: r, b, i, fp, hs, h, hc, hf => by
    simp only [OwnPs] at h ⊢
    obtain ⟨f1, f2, h1, h2, rfl, rfl, ht, hr⟩ := h
    exact ⟨f1, f2, h1, h2, rfl, rfl, OwnP.keep t b (i * 4) f1 h1 ht (fun j _ => hc _ (by omega)) (fun y hy => hf y (by simp [hy])), OwnPs.keep r b (i + 1) f2 h2 hr (fun j hj => hc j (by omega)) fun y hy => hf y (by simp [hy])⟩
end

/-- Only the four cells of one place may have changed, and what is new. -/
structure Chg1 (hb ho : Nat) (w w' : World) : Prop where
  block : ∀ k, k < w.heap.size → k ≠ hb → w'.heap[k]? = w.heap[k]?
  cell : ∀ o, (o < ho ∨ ho + 4 ≤ o) → w'.cell? ⟨hb, o, none⟩ = w.cell? ⟨hb, o, none⟩
  row : ∀ C, w.heap[hb]? = some (.cells C 56 (0, 0)) → ∃ C', w'.heap[hb]? = some (.cells C' 56 (0, 0))

theorem Chg1.other {hb ho : Nat} {w w' : World} (h : Chg1 hb ho w w') {k : Nat} (hk : k < w.heap.size) (hn : k ≠ hb) (o : Nat) : w'.cell? ⟨k, o, none⟩ = w.cell? ⟨k, o, none⟩ := World.cell?_of_block (h.block k hk hn)

theorem OwnPs.part {w w' w0 : World} {hb ho : Nat} (hc : Chg1 hb ho w w') : ∀ (ks : List Tm) (b i : Nat) (fp : List Nat) (hs : List Hole), OwnPs w w0 ks b i fp hs → b < w.heap.size → (hb = b → ∀ j, i * 4 ≤ j → j < (i + ks.length) * 4 → j < ho ∨ ho + 4 ≤ j) → hb ∉ fp → OwnPs w' w0 ks b i fp hs
  | [], b, i, fp, hs, h, _, _, _ => by
    simp only [OwnPs] at h ⊢
    exact h
  | t :: r, b, i, fp, hs, h, hlt, hj, hf => by
    simp only [OwnPs] at h ⊢
    have hlt0 := fun y hy => OwnPs.lt (ks := t :: r) (b := b) (i := i) (fp := fp) (hs := hs) (by simp only [OwnPs]; exact h) y hy
    obtain ⟨f1, f2, h1, h2, rfl, rfl, ht, hr⟩ := h
    refine ⟨f1, f2, h1, h2, rfl, rfl, OwnP.keep t b (i * 4) f1 h1 ht (fun j hj4 => ?_) (fun y hy => hc.block y (hlt0 y (by simp [hy])) fun e => hf (by rw [← e]; simp [hy])), OwnPs.part hc r b (i + 1) f2 h2 hr hlt (fun e j h5 h6 => hj e j (by omega) (by simp only [List.length_cons]; omega)) fun hx => hf (by simp [hx])⟩
    by_cases e : hb = b
    · subst e
      exact hc.cell _ (hj rfl _ (by omega) (by simp only [List.length_cons]; omega))
    · exact hc.other hlt (fun e' => e e'.symm) _

mutual
/-- The last place is done: what it has become takes its place. -/
theorem OwnP.put {w w' w0 : World} {hb ho : Nat} {x : Tm} {f' : List Nat} {hs' : List Hole} (hc : Chg1 hb ho w w') (hx : OwnP w' w0 x hb ho f' hs') (hn' : f'.Nodup) (hg' : ∀ y ∈ f', w.heap.size ≤ y) :
    ∀ (t : Tm) (b o : Nat) (fp : List Nat) (H : List Hole), OwnP w w0 t b o fp (H ++ [(hb, ho, x)]) → fp.Nodup → b ∉ fp → b < w.heap.size →
      ∃ fp', OwnP w' w0 t b o fp' (H ++ hs') ∧ fp'.Nodup ∧ ∀ y ∈ fp', y ∈ fp ∨ y ∈ f'
  | .node op n s ks, b, o, fp, H, h, hnd, hbf, hlt => by
    have hpl := OwnP.place _ b o fp _ h (hb, ho, x) (by simp)
    simp only [OwnP] at h
    obtain ⟨a, cap, h1, h2, h3, h4⟩ := h
    rcases h4 with ⟨rfl, hh, _⟩ | ⟨_, _, hh, _⟩ | ⟨b', C, f, rfl, hnn, rfl, hb', hk⟩
    · obtain ⟨rfl, e⟩ : H = [] ∧ (hb, ho, x) = (b, o, Tm.node op n s ks) := by
        cases H with
        | nil => simpa using hh
        | cons y r => exfalso; have := congrArg List.length hh; simp at this
      simp only [Prod.mk.injEq] at e
      obtain ⟨rfl, rfl, rfl⟩ := e
      exact ⟨f', by simpa using hx, hn', fun y hy => Or.inr hy⟩
    · exact absurd hh (by simp)
    · have hne : b ≠ hb := by
        intro e
        subst e
        rcases hpl with ⟨_, _⟩ | h5
        · have h6 := OwnPs.place ks b' 0 f _ hk (b, ho, x) (by simp)
          rcases h6 with ⟨h7, _⟩ | h7
          · exact hbf (by rw [show b = b' from h7]; simp)
          · exact hbf (by simp [show b ∈ f from h7])
        · exact hbf h5
      rw [List.nodup_cons] at hnd
      have hltb : b' < w.heap.size := lt_of_heap hb'
      obtain ⟨f2, k1, k2, k3⟩ := OwnPs.put hc hx hn' hg' ks b' 0 f H hk hnd.2 hnd.1 hltb
      have hb2 : ∃ C', w'.heap[b']? = some (.cells C' 56 (0, 0)) := by
        by_cases e : b' = hb
        · subst e; exact hc.row C hb'
        · exact ⟨C, (hc.block b' hltb e).trans hb'⟩
      obtain ⟨C', hC'⟩ := hb2
      refine ⟨b' :: f2, ?_, List.nodup_cons.2 ⟨fun h5 => ?_, k2⟩, fun y hy => ?_⟩
      · simp only [OwnP]
        refine ⟨some ⟨b', 0, none⟩, cap, fun j v hj => ?_, h2, h3, Or.inr (Or.inr ⟨b', C', f2, rfl, hnn, rfl, hC', k1⟩)⟩
        rw [hc.other hlt hne]
        exact h1 j v hj
      · rcases k3 b' h5 with h6 | h6
        · exact hnd.1 h6
        · have := hg' b' h6; omega
      · rcases List.mem_cons.1 hy with rfl | hy
        · exact Or.inl (by simp)
        · rcases k3 y hy with h6 | h6
          · exact Or.inl (by simp [h6])
          · exact Or.inr h6
theorem OwnPs.put {w w' w0 : World} {hb ho : Nat} {x : Tm} {f' : List Nat} {hs' : List Hole} (hc : Chg1 hb ho w w') (hx : OwnP w' w0 x hb ho f' hs') (hn' : f'.Nodup) (hg' : ∀ y ∈ f', w.heap.size ≤ y) :
    ∀ (ks : List Tm) (b i : Nat) (fp : List Nat) (H : List Hole), OwnPs w w0 ks b i fp (H ++ [(hb, ho, x)]) → fp.Nodup → b ∉ fp → b < w.heap.size →
      ∃ fp', OwnPs w' w0 ks b i fp' (H ++ hs') ∧ fp'.Nodup ∧ ∀ y ∈ fp', y ∈ fp ∨ y ∈ f'
  | [], b, i, fp, H, h, _, _, _ => by
    simp only [OwnPs] at h
    exact absurd h.2 (by simp)
  | t :: r, b, i, fp, H, h, hnd, hbf, hlt => by
    simp only [OwnPs] at h
    obtain ⟨f1, f2, h1, h2, rfl, hh, ht, hr⟩ := h
    obtain ⟨nd1, nd2, nd3⟩ := List.nodup_append.1 hnd
    rcases List.eq_nil_or_concat h2 with rfl | ⟨H2, y, rfl⟩
    · rw [List.append_nil] at hh
      subst hh
      obtain ⟨g1, k1, k2, k3⟩ := OwnP.put hc hx hn' hg' t b (i * 4) f1 H ht nd1 (fun hy => hbf (by simp [hy])) hlt
      have hpl := OwnP.place t b (i * 4) f1 _ ht (hb, ho, x) (by simp)
      have hr' : OwnPs w' w0 r b (i + 1) f2 [] := by
        refine OwnPs.part hc r b (i + 1) f2 [] hr hlt (fun e j hj _ => ?_) fun hy => ?_
        · rcases hpl with ⟨_, h6⟩ | h6
          · have : ho = i * 4 := h6
            omega
          · exact absurd (show b ∈ f1 ++ f2 by rw [← e]; simp [show hb ∈ f1 from h6]) hbf
        · rcases hpl with ⟨h6, _⟩ | h6
          · exact hbf (by rw [← show hb = b from h6]; simp [hy])
          · exact nd3 hb h6 hb hy rfl
      refine ⟨g1 ++ f2, ?_, List.nodup_append.2 ⟨k2, nd2, fun y hy z hz e => ?_⟩, fun y hy => ?_⟩
      · simp only [OwnPs]
        exact ⟨g1, f2, H ++ hs', [], rfl, by simp, k1, hr'⟩
      · subst e
        rcases k3 y hy with h6 | h6
        · exact nd3 y h6 y hz rfl
        · have := hg' y h6; have := OwnPs.lt hr y hz; omega
      · rcases List.mem_append.1 hy with hy | hy
        · rcases k3 y hy with h6 | h6
          · exact Or.inl (by simp [h6])
          · exact Or.inr h6
        · exact Or.inl (by simp [hy])
    · rw [List.concat_eq_append, ← List.append_assoc] at hh
      obtain ⟨rfl, e⟩ := List.append_inj' hh rfl
      simp only [List.cons.injEq, and_true] at e
      subst e
      rw [List.concat_eq_append] at hr
      obtain ⟨g2, k1, k2, k3⟩ := OwnPs.put hc hx hn' hg' r b (i + 1) f2 H2 hr nd2 (fun hy => hbf (by simp [hy])) hlt
      have hpl := OwnPs.place r b (i + 1) f2 _ hr (hb, ho, x) (by simp)
      have hbf1 : hb ∉ f1 := fun hy => by
        rcases hpl with ⟨h6, _⟩ | h6
        · exact hbf (by rw [← show hb = b from h6]; simp [hy])
        · exact nd3 hb hy hb h6 rfl
      have ht' : OwnP w' w0 t b (i * 4) f1 h1 := by
        refine OwnP.keep t b (i * 4) f1 h1 ht (fun j hj4 => ?_) fun y hy => hc.block y (OwnP.lt ht y hy) fun e => hbf1 (e ▸ hy)
        by_cases e : b = hb
        · subst e
          rcases hpl with ⟨_, q, h6, h7⟩ | h6
          · have : ho = q * 4 := h7
            exact hc.cell _ (by omega)
          · exact absurd (show b ∈ f1 ++ f2 by simp [show b ∈ f2 from h6]) hbf
        · exact hc.other hlt e _
      refine ⟨f1 ++ g2, ?_, List.nodup_append.2 ⟨nd1, k2, fun y hy z hz e => ?_⟩, fun y hy => ?_⟩
      · simp only [OwnPs]
        exact ⟨f1, g2, h1, H2 ++ hs', rfl, by simp, ht', k1⟩
      · subst e
        rcases k3 y hz with h6 | h6
        · exact nd3 y hy y h6 rfl
        · have := hg' y h6; have := OwnP.lt ht y hy; omega
      · rcases List.mem_append.1 hy with hy | hy
        · exact Or.inl (by simp [hy])
        · rcases k3 y hy with h6 | h6
          · exact Or.inl (by simp [h6])
          · exact Or.inr h6
end

/-- The places of kids in a block. -/
def kidsH (b : Nat) : Nat → List Tm → List Hole
  | _, [] => []
  | i, t :: r => (b, i * 4, t) :: kidsH b (i + 1) r

theorem kidsH_length (b : Nat) : ∀ (i : Nat) (ks : List Tm), (kidsH b i ks).length = ks.length
  | _, [] => rfl
  | i, t :: r => by simp only [kidsH, List.length_cons, kidsH_length b (i + 1) r]

theorem kidsH_get (b : Nat) : ∀ (i : Nat) (ks : List Tm) (k : Nat) (h : k < ks.length), (kidsH b i ks)[k]? = some (b, (i + k) * 4, ks[k])
  | i, t :: r, 0, _ => by simp [kidsH]
  | i, t :: r, k + 1, h => by
    simp only [kidsH, List.getElem?_cons_succ, List.getElem_cons_succ]
    rw [kidsH_get b (i + 1) r k (by simpa using h), show i + 1 + k = i + (k + 1) by omega]

/-- How much is left to be done. -/
def hsz : List Hole → Nat
  | [] => 0
  | h :: r => h.2.2.size + hsz r
theorem hsz_append (a b : List Hole) : hsz (a ++ b) = hsz a + hsz b := by
  induction a with
  | nil => simp [hsz]
  | cons x r ih => simp only [List.cons_append, hsz, ih]; omega
theorem hsz_kids (b : Nat) : ∀ (i : Nat) (ks : List Tm), hsz (kidsH b i ks) = Tm.sizes ks
  | _, [] => rfl
  | i, t :: r => by simp only [kidsH, hsz, Tm.sizes, hsz_kids b (i + 1) r]

theorem OwnPs.fresh {w w0 : World} {b : Nat} : ∀ {i : Nat} {kp : List (Tm × List Value)}, (∀ p ∈ kp, Lies w0 0 p.1 p.2) → w.rangeAt b (i * 4) (kp.flatMap (·.2)) → OwnPs w w0 (kp.map (·.1)) b i [] (kidsH b i (kp.map (·.1)))
  | i, [], _, _ => by simp [OwnPs, kidsH]
  | i, p :: r, h, hr => by
    have hl := h p (by simp)
    have h4 := hl.length
    simp only [List.map_cons, OwnPs, kidsH]
    refine ⟨[], [], [(b, i * 4, p.1)], kidsH b (i + 1) (r.map (·.1)), rfl, by simp, ?_, OwnPs.fresh (fun q hq => h q (by simp [hq])) fun j v hj => ?_⟩
    · obtain ⟨t, cs⟩ := p
      cases t with
      | node op n s ks =>
        simp only [Lies] at hl
        obtain ⟨a, cap, rfl, k1, k2, k3⟩ := hl
        simp only [OwnP]
        refine ⟨a, cap, fun j v hj => ?_, k1, k2, Or.inl ⟨by trivial, by trivial, k3⟩⟩
        refine hr j v ?_
        simp only [List.flatMap_cons]
        rw [List.getElem?_append_left (List.getElem?_eq_some_iff.1 hj).1]
        exact hj
    · have := hr (4 + j) v (by
        simp only [List.flatMap_cons]
        rw [List.getElem?_append_right (by omega), show 4 + j - p.2.length = j by omega]
        exact hj)
      rw [show (i + 1) * 4 + j = i * 4 + (4 + j) by omega]
      exact this

/-- In the middle of the copy: H is all that is still to be done, R what of it stands in the row v. -/
structure CyS (w : World) (t : Tm) (H R : List Hole) (v : Value) (wr : World) : Prop where
  below : Below w.heap.size w wr
  root : ∃ fp, OwnP wr w t w.heap.size 0 fp H ∧ fp.Nodup ∧ ∀ y ∈ fp, w.heap.size + 2 ≤ y
  rty : ∃ C, wr.heap[w.heap.size]? = some (.cells C 56 (0, 0))
  res : wr.heap[w.heap.size + 1]? = some (.cells #[.int .i64 0, .int .i64 0, .string ByteArray.empty, .slice none 0 0] 56 (0, 0))
  row : wr.ownsRow (w.heap.size + 2) 218 1 v R.length (R.map hv)

theorem map_hv_length (R : List Hole) : (R.map hv).length = R.length := by simp

theorem CyS.carry {w wr wr2 : World} {t : Tm} {H R : List Hole} {v : Value} (h : CyS w t H R v wr) (hb : Below wr.heap.size wr wr2) : CyS w t H R v wr2 := by
  obtain ⟨fp, h1, h2, h3⟩ := h.root
  obtain ⟨C, hC⟩ := h.rty
  refine ⟨h.below.trans (hb.mono h.below.size), ⟨fp, ?_, h2, h3⟩, ⟨C, (hb.block _ (lt_of_heap hC)).trans hC⟩, (hb.block _ (lt_of_heap h.res)).trans h.res, ?_⟩
  · exact OwnP.keep t _ 0 fp H h1 (fun j _ => hb.cell (p := ⟨_, _, none⟩) (lt_of_heap hC)) fun y hy => hb.block y (h1.lt y hy)
  · exact h.row.kept (row := none) ⟨hb.os, hb.tape, hb.output, hb.size, fun k hk _ => hb.block k hk⟩ (by
      cases v.ownBlock with
      | none => exact Or.inl rfl
      | some g => exact Or.inr (by simp))

theorem CyS.shape {w wr : World} {t : Tm} {H R : List Hole} {v : Value} (h : CyS w t H R v wr) : ∃ a c, v = .slice a R.length c ∧ R.length ≤ c ∧ c ≤ maxLen := by
  rcases h.row.2 with ⟨h1, h2⟩ | ⟨g, cap, cur, h1, _, _, h2, h3, _⟩
  · exact ⟨none, 0, by rw [h2]; exact h1, by omega, by simp⟩
  · exact ⟨_, _, h1, h2, h3⟩

theorem CyS.start {w : World} {op n : Int} {s : ByteArray} {a : Option Addr} {cap : Nat} {ks : List Tm} (hl : Lies w 0 (.node op n s ks) (tmCells op n s a ks.length cap)) :
    CyS w (.node op n s ks) [(w.heap.size, 0, .node op n s ks)] [(w.heap.size, 0, .node op n s ks)] (.slice (some ⟨w.heap.size + 2, 0, none⟩) 1 1)
      (((w.alloc (.cells #[.int .i64 op, .int .i64 n, .string s, .slice a ks.length cap] 56)).alloc (.cells #[.int .i64 0, .int .i64 0, .string ByteArray.empty, .slice none 0 0] 56)).alloc (.cells #[.pointer (some ⟨w.heap.size, 0, none⟩)] 218)) := by
  have e1 : (w.alloc (.cells #[.int .i64 op, .int .i64 n, .string s, .slice a ks.length cap] 56)).heap[w.heap.size]? = some (.cells #[.int .i64 op, .int .i64 n, .string s, .slice a ks.length cap] 56 (0, 0)) := heap_alloc_new w _
  have hB : (((w.alloc (.cells #[.int .i64 op, .int .i64 n, .string s, .slice a ks.length cap] 56)).alloc (.cells #[.int .i64 0, .int .i64 0, .string ByteArray.empty, .slice none 0 0] 56)).alloc (.cells #[.pointer (some ⟨w.heap.size, 0, none⟩)] 218)).heap[w.heap.size]? = some (.cells #[.int .i64 op, .int .i64 n, .string s, .slice a ks.length cap] 56 (0, 0)) := by
    rw [heap_alloc_old _ _ (by simp; omega), heap_alloc_old _ _ (by simp)]
    exact e1
  refine ⟨(((Below.refl _ _).alloc (Nat.le_refl _) _).alloc (by simp) _).alloc (by simp; omega) _, ⟨[], ?_, by simp, by simp⟩, ⟨_, hB⟩, ?_, ?_⟩
  · simp only [Lies, tmCells] at hl
    obtain ⟨a', cap', he, h1, h2, h3⟩ := hl
    simp only [List.cons.injEq, Value.slice.injEq, true_and, and_true] at he
    obtain ⟨rfl, rfl⟩ := he
    simp only [OwnP]
    refine ⟨a, cap, fun j v hj => ?_, h1, h2, Or.inl ⟨by trivial, by trivial, h3⟩⟩
    rw [Nat.zero_add]
    have hj4 : j < 4 := by have := (List.getElem?_eq_some_iff.1 hj).1; simpa [tmCells] using this
    have hc := cell_of_row (j := j) hB (by simpa using hj4)
    rw [hc]
    rw [← hj]
    simp only [tmCells]
    rw [← List.getElem?_toArray]
    simp [hj4]
  · rw [heap_alloc_old _ _ (by simp)]
    have := heap_alloc_new (w.alloc (.cells #[.int .i64 op, .int .i64 n, .string s, .slice a ks.length cap] 56)) (.cells #[.int .i64 0, .int .i64 0, .string ByteArray.empty, .slice none 0 0] 56)
    rwa [heap_size_alloc] at this
  · have := World.ownsRow_lit (base := w.heap.size + 2) (e := 218) (size := 1) ((w.alloc (.cells #[.int .i64 op, .int .i64 n, .string s, .slice a ks.length cap] 56)).alloc (.cells #[.int .i64 0, .int .i64 0, .string ByteArray.empty, .slice none 0 0] 56)) #[.pointer (some ⟨w.heap.size, 0, none⟩)] 1 (by simp) (by simp [maxLen]) (by simp)
    simpa [hv] using this

/-- Where a place lies: in a block of terms. -/
theorem OwnP.block {w w0 : World} {t : Tm} {b o : Nat} {fp : List Nat} {hs : List Hole} (h : OwnP w w0 t b o fp hs) (hb : ∃ C, w.heap[b]? = some (.cells C 56 (0, 0))) : ∀ x ∈ hs, ∃ C, w.heap[x.1]? = some (.cells C 56 (0, 0)) := fun x hx => by
  rcases OwnP.place t b o fp hs h x hx with ⟨h1, _⟩ | h1
  · rw [h1]; exact hb
  · exact OwnP.ty t b o fp hs h x.1 h1

mutual
/-- The cells of a place that is still to be done. -/
theorem OwnP.hole {w w0 : World} : ∀ (t : Tm) (b o : Nat) (fp : List Nat) (hs : List Hole), OwnP w w0 t b o fp hs → ∀ (hb ho : Nat) (op n : Int) (s : ByteArray) (ks : List Tm), (hb, ho, Tm.node op n s ks) ∈ hs →
      ∃ a cap, w.rangeAt hb ho (tmCells op n s a ks.length cap) ∧ (s.size ≤ maxLen ∧ ks.length ≤ cap ∧ cap ≤ maxLen) ∧ ((Lit.int .i64 op).wf = true ∧ (Lit.int .i64 n).wf = true) ∧ LiesAll w0 0 a 0 ks
  | .node op' n' s' ks', b, o, fp, hs, h, hb, ho, op, n, s, ks, hx => by
    simp only [OwnP] at h
    obtain ⟨a, cap, h1, h2, h3, h4⟩ := h
    rcases h4 with ⟨_, rfl, h5⟩ | ⟨_, _, rfl, _⟩ | ⟨b', C, f, ha, _, rfl, hb', hk⟩
    · rw [List.mem_singleton] at hx
      simp only [Prod.mk.injEq, Tm.node.injEq] at hx
      obtain ⟨rfl, rfl, rfl, rfl, rfl, rfl⟩ := hx
      exact ⟨a, cap, h1, h2, h3, h5⟩
    · cases hx
    · exact OwnPs.hole ks' b' 0 f hs hk hb ho op n s ks hx
theorem OwnPs.hole {w w0 : World} : ∀ (ts : List Tm) (b i : Nat) (fp : List Nat) (hs : List Hole), OwnPs w w0 ts b i fp hs → ∀ (hb ho : Nat) (op n : Int) (s : ByteArray) (ks : List Tm), (hb, ho, Tm.node op n s ks) ∈ hs →
      ∃ a cap, w.rangeAt hb ho (tmCells op n s a ks.length cap) ∧ (s.size ≤ maxLen ∧ ks.length ≤ cap ∧ cap ≤ maxLen) ∧ ((Lit.int .i64 op).wf = true ∧ (Lit.int .i64 n).wf = true) ∧ LiesAll w0 0 a 0 ks
  | [], b, i, fp, hs, h, hb, ho, op, n, s, ks, hx => by
    simp only [OwnPs] at h
    rw [h.2] at hx
    cases hx
  | t :: r, b, i, fp, hs, h, hb, ho, op, n, s, ks, hx => by
    simp only [OwnPs] at h
    obtain ⟨f1, f2, h1, h2, rfl, rfl, ht, hr⟩ := h
    rcases List.mem_append.1 hx with hx | hx
    · exact OwnP.hole t b (i * 4) f1 h1 ht hb ho op n s ks hx
    · exact OwnPs.hole r b (i + 1) f2 h2 hr hb ho op n s ks hx
end

/-- The last place: its pointer stands at the row's end; its cells. -/
theorem CyS.top {w wr : World} {t : Tm} {H : List Hole} {hb ho : Nat} {op n : Int} {s : ByteArray} {ks : List Tm} {v : Value} (h : CyS w t (H ++ [(hb, ho, .node op n s ks)]) (H ++ [(hb, ho, .node op n s ks)]) v wr) :
    ∃ g c, v = .slice (some ⟨g, 0, none⟩) (H.length + 1) c ∧ H.length + 1 ≤ c ∧ c ≤ maxLen ∧ wr.cell? ⟨g, H.length, none⟩ = some (.pointer (some ⟨hb, ho, none⟩)) ∧
      CyS w t (H ++ [(hb, ho, .node op n s ks)]) H (.slice (some ⟨g, 0, none⟩) H.length c) wr := by
  have ho' := h.row
  rcases ho'.2 with ⟨h1, h2⟩ | ⟨g, cap, cur, h1, _, _, h2, h3, _⟩
  · simp at h2
  · simp only [List.length_append, List.length_cons, List.length_nil, Nat.zero_add] at h1 h2
    refine ⟨g, cap, h1, h2, h3, ?_, h.below, h.root, h.rty, h.res, ?_⟩
    · have hcells := ho'.cells (g := g) (by rw [h1]; rfl) H.length (.pointer (some ⟨hb, ho, none⟩)) (by simp [hv])
      rw [Addr.add_mid, Nat.zero_add] at hcells
      exact hcells
    · have := ho'
      simp only [List.map_append, List.map_cons, List.map_nil, List.length_append, List.length_cons, List.length_nil, Nat.zero_add] at this
      rw [h1] at this
      exact ownsRow_pop (n := H.length) (xs := H.map hv) (by simp) this

theorem CyS.cells {w wr : World} {t : Tm} {H R : List Hole} {hb ho : Nat} {op n : Int} {s : ByteArray} {ks : List Tm} {v : Value} (h : CyS w t (H ++ [(hb, ho, .node op n s ks)]) R v wr) :
    ∃ a cap C, wr.heap[hb]? = some (.cells C 56 (0, 0)) ∧ w.heap.size ≤ hb ∧ hb ≠ w.heap.size + 1 ∧ wr.rangeAt hb ho (tmCells op n s a ks.length cap) ∧ (s.size ≤ maxLen ∧ ks.length ≤ cap ∧ cap ≤ maxLen) ∧ ((Lit.int .i64 op).wf = true ∧ (Lit.int .i64 n).wf = true) ∧ LiesAll w 0 a 0 ks := by
  obtain ⟨fp, h1, h2, h3⟩ := h.root
  obtain ⟨C, hC⟩ := h1.block h.rty (hb, ho, .node op n s ks) (by simp)
  obtain ⟨a, cap, k1, k2, k3, k4⟩ := OwnP.hole t _ 0 fp _ h1 hb ho op n s ks (by simp)
  have hp := OwnP.place t _ 0 fp _ h1 (hb, ho, .node op n s ks) (by simp)
  refine ⟨a, cap, C, hC, ?_, ?_, k1, k2, k3, k4⟩
  · rcases hp with ⟨e, _⟩ | e
    · exact Nat.le_of_eq e.symm
    · have := h3 hb e; omega
  · rcases hp with ⟨e, _⟩ | e
    · have : hb = w.heap.size := e
      omega
    · have := h3 hb e; omega

theorem info113 : (Tryz.prog.info? 218).map (fun i => (i.zero, i.size, i.bytes)) = some (some (.pointer none), 1, 8) := by kernel_rfl
theorem und114 : Tryz.prog.underlying 219 = some (.slice 218) := by kernel_rfl
theorem und22 : Tryz.prog.underlying 33 = some (.slice 56) := by kernel_rfl
theorem info24y : (Tryz.prog.info? 56).map (fun i => (i.zero, i.size, i.bytes)) = some (some (.agg #[.int .i64 0, .int .i64 0, .string ByteArray.empty, .slice none 0 0]), 4, 56) := by kernel_rfl

/-- What a row of pointers' block is not: one of terms. -/
theorem row_apart {w : World} {B : Nat} {v : Value} {n : Nat} {xs : List Value} (h : w.ownsRow B 218 1 v n xs) {k : Nat} {C : Array Value} (hk : w.heap[k]? = some (.cells C 56 (0, 0))) : some k ≠ v.ownBlock := by
  rcases h.2 with ⟨rfl, _⟩ | ⟨g, cap, cur, rfl, _, hg, _⟩
  · simp [Value.ownBlock]
  · intro e
    simp only [Value.ownBlock, Option.some.injEq] at e
    subst e
    rw [hg] at hk
    simp at hk

/-- A pointer more in the row; all blocks of terms stay as they were. -/
theorem CyS.push {w wr : World} {t : Tm} {H R : List Hole} {v : Value} (h : CyS w t H R v wr) (x : Hole) (hn : R.length ≤ 4194304) (ty : TypeId) :
    ∃ v' w', (Builtin.append_ #[219, 219] ty #[v, .slice (some ⟨wr.heap.size, 0, none⟩) 1 1]).run Tryz.prog (wr.alloc (Obj.cells #[hv x] 218)) = .ok v' w' ∧ CyS w t H (R ++ [x]) v' w' ∧
      ∀ (k : Nat) (C : Array Value), wr.heap[k]? = some (.cells C 56 (0, 0)) → w'.heap[k]? = wr.heap[k]? := by
  have hb1 : Below wr.heap.size wr (wr.alloc (Obj.cells #[hv x] 218)) := (Below.refl _ _).alloc (Nat.le_refl _) _
  have h1 := h.carry hb1
  obtain ⟨i, hi, hzz⟩ := Option.map_eq_some_iff.1 info113
  simp only [Prod.mk.injEq] at hzz
  obtain ⟨hz, hs, hb⟩ := hzz
  have hcell : (wr.alloc (Obj.cells #[hv x] 218)).cell? ⟨wr.heap.size, 0, none⟩ = some (hv x) := cell_of_row (heap_alloc_new wr _) (by simp)
  obtain ⟨C0, hC0⟩ := h1.rty
  have hB : w.heap.size + 2 ≤ (wr.alloc (Obj.cells #[hv x] 218)).heap.size := by have := lt_of_heap h1.res; omega
  obtain ⟨v', w', g1, g2, g3, _⟩ := run_append_own_wide (P := Tryz.prog) (wr.alloc (Obj.cells #[hv x] 218)) (w.heap.size + 2) 219 ty 218 i _ 1 8 und114 hi hz hs hb rfl (by omega) v R.length (R.map hv) h1.row ⟨wr.heap.size, 0, none⟩ 1 1 [hv x] (by simp)
    (fun j u hj => by
      cases j with
      | zero => simp only [List.getElem?_cons_zero, Option.some.injEq] at hj; subst hj; rw [Addr.add_mid]; exact hcell
      | succ j => simp at hj)
    (fun u hu => by rw [List.mem_singleton] at hu; subst hu; rfl) (by unfold maxLen; omega) (by omega) hB
  have hkeep : ∀ (k : Nat) (C : Array Value), (wr.alloc (Obj.cells #[hv x] 218)).heap[k]? = some (.cells C 56 (0, 0)) → w'.heap[k]? = (wr.alloc (Obj.cells #[hv x] 218)).heap[k]? := fun k C hk => g3.block k (lt_of_heap hk) (row_apart h1.row hk)
  refine ⟨v', w', g1, ⟨?_, ?_, ?_, ?_, ?_⟩, fun k C hk => ?_⟩
  · exact h1.below.grown g3 h1.below.size fun k hk => by have := (h1.row.lt k hk).1; omega
  · obtain ⟨fp, k1, k2, k3⟩ := h1.root
    exact ⟨fp, OwnP.keep t _ 0 fp H k1 (fun j _ => World.cell?_of_block (hkeep _ C0 hC0)) (fun y hy => by obtain ⟨C, hC⟩ := OwnP.ty t _ 0 fp H k1 y hy; exact hkeep y C hC), k2, k3⟩
  · exact ⟨C0, (hkeep _ C0 hC0).trans hC0⟩
  · exact (hkeep _ _ h1.res).trans h1.res
  · simpa using g2
  · have h5 : (wr.alloc (Obj.cells #[hv x] 218)).heap[k]? = wr.heap[k]? := hb1.block k (lt_of_heap hk)
    rw [hkeep k C (h5.trans hk), h5]

/-- What is left when all is done: the term in blocks of its own. -/
theorem CyS.finish {w wr : World} {t : Tm} {v : Value} (h : CyS w t [] [] v wr) : ∃ cs fp, wr.rangeAt w.heap.size 0 cs ∧ Own wr t cs fp ∧ fp.Nodup ∧ (∀ y ∈ fp, w.heap.size + 2 ≤ y) ∧ ∀ op n s, t = .node op n s [] → wr.rangeAt w.heap.size 0 (tmCells op n s none 0 0) := by
  obtain ⟨fp, h1, h2, h3⟩ := h.root
  obtain ⟨cs, k1, k2⟩ := OwnP.done t _ 0 fp h1
  exact ⟨cs, fp, k1, k2, h2, h3, fun op n s e => by subst e; exact OwnP.leaf h1⟩

/-- The kids' cells in a new block. -/
theorem copy_kids {w wr : World} {a : Option Addr} {ks : List Tm} (cap : Nat) (hk : LiesAll w 0 a 0 ks) (hb : Below w.heap.size w wr) (hn : ks.length ≤ 4194304) (ty : TypeId) :
    ∃ v' w', (Builtin.append_ #[33, 33] ty #[.slice none 0 0, .slice a ks.length cap]).run Tryz.prog wr = .ok v' w' ∧ Below wr.heap.size wr w' ∧
      ∃ a' cap', v' = .slice a' ks.length cap' ∧ ks.length ≤ cap' ∧ cap' ≤ maxLen ∧ ((ks = [] ∧ a' = none ∧ cap' = 0) ∨ ∃ g C, a' = some ⟨g, 0, none⟩ ∧ ks ≠ [] ∧ wr.heap.size ≤ g ∧ w'.heap[g]? = some (.cells C 56 (0, 0)) ∧ OwnPs w' w ks g 0 [] (kidsH g 0 ks)) := by
  obtain ⟨kp, k1, k2, k3⟩ := hk.pairs
  have hkl : kp.length = ks.length := by rw [← k1]; simp
  obtain ⟨i, hi, hzz⟩ := Option.map_eq_some_iff.1 info24y
  simp only [Prod.mk.injEq] at hzz
  obtain ⟨hz, hs, hby⟩ := hzz
  by_cases hnil : ks = []
  · subst hnil
    have hsrc : Src Tryz.prog i.size 33 (.slice a ([] : List Tm).length cap) 0 [] wr := by
      cases a with
      | none => exact Src.ofNil wr und22 cap
      | some x => exact Src.ofSlice wr und22 x 0 cap [] (by simp) (fun j u hj => by simp at hj) (fun u hu => by cases hu)
    exact ⟨_, _, run_append_nothing wr 33 33 ty 56 i und22 hi _ _ _ (Nat.le_refl _) _ hsrc, Below.refl _ _, none, 0, by simp, by simp, by simp, Or.inl ⟨rfl, rfl, rfl⟩⟩
  · obtain ⟨b, o, rfl, hr⟩ := k3 hnil
    rw [Nat.zero_mul, Nat.add_zero] at hr
    have hr' : wr.rangeAt b o (kp.flatMap (·.2)) := rangeAt_below hr hb
    obtain ⟨v', w', g1, g2, g3, _⟩ := run_append_own_wide (P := Tryz.prog) wr wr.heap.size 33 ty 56 i _ 4 56 und22 hi hz hs hby rfl (by omega) _ 0 _ (World.ownsRow_nil wr wr.heap.size 56 4) ⟨b, o, none⟩ ks.length cap (kp.flatMap (·.2))
      (by rw [pairs_length k2, hkl]) (fun j u hj => by rw [Addr.add_mid]; exact hr' j u hj)
      (fun u hu => by
        obtain ⟨q, hq, hu⟩ := List.mem_flatMap.1 hu
        exact (k2 q hq).one u hu)
      (by unfold maxLen; omega) (by omega) (Nat.le_refl _)
    rw [Nat.zero_add, List.nil_append] at g2
    refine ⟨v', w', g1, (Below.refl _ _).grown g3 (Nat.le_refl _) (fun k hk => by simp [Value.ownBlock] at hk), ?_⟩
    rcases g2.2 with ⟨_, h2⟩ | ⟨g, cap', cur, h1, h2, h3, h4, h5, _⟩
    · exact absurd (List.length_eq_zero_iff.1 h2) hnil
    · refine ⟨some ⟨g, 0, none⟩, cap', h1, h4, h5, Or.inr ⟨g, cur, rfl, hnil, h2, h3, ?_⟩⟩
      have := OwnPs.fresh (w := w') (w0 := w) (b := g) (i := 0) (kp := kp) k2 (fun j u hj => by
        have := g2.cells (g := g) (by rw [h1]; rfl) j u hj
        rw [Addr.add_mid, Nat.zero_add] at this
        rw [Nat.zero_mul, Nat.zero_add]
        exact this)
      rwa [k1] at this

/-- A place is done: its kids lie in a new block, and are the next to be done. -/
theorem CyS.step {w wr : World} {t : Tm} {H R : List Hole} {hb ho : Nat} {op n : Int} {s : ByteArray} {ks : List Tm} {v : Value} {a : Option Addr} {cap : Nat} (h : CyS w t (H ++ [(hb, ho, .node op n s ks)]) R v wr)
    (hr : wr.rangeAt hb ho (tmCells op n s a ks.length cap)) (hk : LiesAll w 0 a 0 ks) (hn : ks.length ≤ 4194304) (ty : TypeId) :
    ∃ v' w2, (Builtin.append_ #[33, 33] ty #[.slice none 0 0, .slice a ks.length cap]).run Tryz.prog (wr.setCell ⟨hb, ho + 2, none⟩ (.string s)) = .ok v' w2 ∧
      ∃ a' cap' g, v' = .slice a' ks.length cap' ∧ ks.length ≤ cap' ∧ cap' ≤ maxLen ∧ (0 < ks.length → a' = some ⟨g, 0, none⟩) ∧ w2.frozen? ⟨hb, ho + 3, none⟩ = false ∧ (∃ u, w2.cell? ⟨hb, ho + 3, none⟩ = some u) ∧
      CyS w t (H ++ kidsH g 0 ks) R v (w2.setCell ⟨hb, ho + 3, none⟩ v') ∧ (w2.setCell ⟨hb, ho + 3, none⟩ v').cell? ⟨hb, ho + 3, none⟩ = some v' ∧ ∃ C, (w2.setCell ⟨hb, ho + 3, none⟩ v').heap[hb]? = some (.cells C 56 (0, 0)) := by
  obtain ⟨a0, cap0, C, hC, hge, hne1, hr0, hz0, hwf, _⟩ := h.cells
  have hlt : hb < wr.heap.size := lt_of_heap hC
  have hbset : Below w.heap.size w (wr.setCell ⟨hb, ho + 2, none⟩ (.string s)) := h.below.setCell hge _
  obtain ⟨v', w2, g1, g2, a', cap', rfl, hc1, hc2, hor⟩ := copy_kids (wr := wr.setCell ⟨hb, ho + 2, none⟩ (.string s)) cap hk hbset hn ty
  have hsz : (wr.setCell ⟨hb, ho + 2, none⟩ (.string s)).heap.size = wr.heap.size := by simp
  rw [hsz] at g2 hor
  have c0 : wr.cell? ⟨hb, ho, none⟩ = some (.int .i64 op) := hr 0 _ rfl
  have c1 : wr.cell? ⟨hb, ho + 1, none⟩ = some (.int .i64 n) := hr 1 _ rfl
  have c2 : wr.cell? ⟨hb, ho + 2, none⟩ = some (.string s) := hr 2 _ rfl
  have c3 : wr.cell? ⟨hb, ho + 3, none⟩ = some (.slice a ks.length cap) := hr 3 _ rfl
  have s2 : ∀ o', (wr.setCell ⟨hb, ho + 2, none⟩ (.string s)).cell? ⟨hb, o', none⟩ = wr.cell? ⟨hb, o', none⟩ := fun o' => by
    by_cases e : o' = ho + 2
    · subst e
      rw [World.cell?_setCell_same _ _ _ c2, c2]
    · exact World.cell?_setCell_other _ _ _ _ (fun e' => e (by cases e'; rfl))
  have hcw2 : ∀ o', w2.cell? ⟨hb, o', none⟩ = wr.cell? ⟨hb, o', none⟩ := fun o' => by
    rw [g2.cell (p := ⟨hb, o', none⟩) hlt, s2]
  have hCs : (wr.setCell ⟨hb, ho + 2, none⟩ (.string s)).heap[hb]? = some (.cells (C.setIfInBounds (ho + 2) (.string s)) 56 (0, 0)) := heap_setCell_same wr hb (ho + 2) C 56 _ hC
  have hC2 : w2.heap[hb]? = some (.cells (C.setIfInBounds (ho + 2) (.string s)) 56 (0, 0)) := (g2.block hb hlt).trans hCs
  have hC3 := heap_setCell_same w2 hb (ho + 3) _ 56 (.slice a' ks.length cap') hC2
  have hc3' : (w2.setCell ⟨hb, ho + 3, none⟩ (.slice a' ks.length cap')).cell? ⟨hb, ho + 3, none⟩ = some (.slice a' ks.length cap') := World.cell?_setCell_same _ _ _ ((hcw2 (ho + 3)).trans c3)
  have hoth : ∀ k, k < wr.heap.size → k ≠ hb → (w2.setCell ⟨hb, ho + 3, none⟩ (.slice a' ks.length cap')).heap[k]? = wr.heap[k]? := fun k hk hne => by
    rw [Below.heap_setCell _ _ _ _ (by exact hne), g2.block k hk, Below.heap_setCell _ _ _ _ (by exact hne)]
  have hch : Chg1 hb ho wr (w2.setCell ⟨hb, ho + 3, none⟩ (.slice a' ks.length cap')) := by
    refine ⟨hoth, fun o' ho' => ?_, fun C' _ => ⟨_, hC3⟩⟩
    rw [World.cell?_setCell_other _ _ _ _ (fun e' => by cases e'; omega), hcw2]
  have hrange : (w2.setCell ⟨hb, ho + 3, none⟩ (.slice a' ks.length cap')).rangeAt hb ho (tmCells op n s a' ks.length cap') := fun j u hj => by
    match j, hj with
    | 0, hj =>
      simp only [tmCells, List.getElem?_cons_zero, Option.some.injEq] at hj
      subst hj
      rw [World.cell?_setCell_other _ _ _ _ (fun e' => by simp at e'), hcw2]
      exact c0
    | 1, hj =>
      simp only [tmCells, List.getElem?_cons_succ, List.getElem?_cons_zero, Option.some.injEq] at hj
      subst hj
      rw [World.cell?_setCell_other _ _ _ _ (fun e' => by simp at e'), hcw2]
      exact c1
    | 2, hj =>
      simp only [tmCells, List.getElem?_cons_succ, List.getElem?_cons_zero, Option.some.injEq] at hj
      subst hj
      rw [World.cell?_setCell_other _ _ _ _ (fun e' => by simp at e'), hcw2]
      exact c2
    | 3, hj =>
      simp only [tmCells, List.getElem?_cons_succ, List.getElem?_cons_zero, Option.some.injEq] at hj
      subst hj
      exact hc3'
    | j + 4, hj => simp [tmCells] at hj
  have hbel : Below w.heap.size w (w2.setCell ⟨hb, ho + 3, none⟩ (.slice a' ks.length cap')) := ((hbset.trans (by rw [← hsz] at g2; exact g2.mono hbset.size))).setCell hge _
  obtain ⟨fp, k1, k2, k3⟩ := h.root
  obtain ⟨C0, hC0⟩ := h.rty
  have hx : ∃ g f', OwnP (w2.setCell ⟨hb, ho + 3, none⟩ (.slice a' ks.length cap')) w (.node op n s ks) hb ho f' (kidsH g 0 ks) ∧ f'.Nodup ∧ (∀ y ∈ f', wr.heap.size ≤ y) ∧ (0 < ks.length → a' = some ⟨g, 0, none⟩) := by
    rcases hor with ⟨rfl, rfl, rfl⟩ | ⟨g, C', rfl, hnn, hg, hC', hps⟩
    · refine ⟨0, [], ?_, by simp, by simp, by simp⟩
      simp only [OwnP, kidsH]
      exact ⟨none, 0, hrange, ⟨hz0.1, hc1, hc2⟩, hwf, Or.inr (Or.inl ⟨by trivial, by trivial, by trivial, by trivial, by trivial⟩)⟩
    · have hgne : g ≠ hb := by omega
      have hgk : (w2.setCell ⟨hb, ho + 3, none⟩ (.slice (some ⟨g, 0, none⟩) ks.length cap')).heap[g]? = w2.heap[g]? := Below.heap_setCell _ _ _ _ (by exact hgne)
      refine ⟨g, [g], ?_, by simp, by simpa using hg, fun _ => rfl⟩
      simp only [OwnP]
      refine ⟨some ⟨g, 0, none⟩, cap', hrange, ⟨hz0.1, hc1, hc2⟩, hwf, Or.inr (Or.inr ⟨g, C', [], rfl, hnn, rfl, hgk.trans hC', ?_⟩)⟩
      exact OwnPs.keep ks g 0 [] _ hps (fun j _ => World.cell?_of_block hgk) fun y hy => by cases hy
  obtain ⟨g, f', hx1, hx2, hx3, hx4⟩ := hx
  have hltB : w.heap.size < wr.heap.size := lt_of_heap hC0
  obtain ⟨fp', m1, m2, m3⟩ := OwnP.put hch hx1 hx2 hx3 t _ 0 fp H k1 k2 (fun hy => by have := k3 _ hy; omega) hltB
  refine ⟨_, w2, g1, a', cap', g, rfl, hc1, hc2, hx4, frozen_of_row hC2, ⟨_, (hcw2 (ho + 3)).trans c3⟩, ⟨hbel, ⟨fp', m1, m2, fun y hy => ?_⟩, ?_, ?_, ?_⟩, hc3', ⟨_, hC3⟩⟩
  · rcases m3 y hy with h5 | h5
    · exact k3 y h5
    · have := hx3 y h5
      have := lt_of_heap h.res
      omega
  · by_cases e : w.heap.size = hb
    · rw [e]; exact ⟨_, hC3⟩
    · exact ⟨C0, (hoth _ hltB e).trans hC0⟩
  · exact (hoth _ (lt_of_heap h.res) (fun e => hne1 e.symm)).trans h.res
  · refine h.row.kept (row := some hb) ⟨hbel.os.trans h.below.os.symm, hbel.tape.trans h.below.tape.symm, hbel.output.trans h.below.output.symm, ?_, fun k hk hne => hoth k hk (fun e => hne (by rw [e]))⟩ (Or.inr fun e => row_apart h.row hC e.symm)
    have := g2.size
    rw [hsz] at this
    simp only [World.setCell, Array.size_modify]
    exact this

theorem keepfY {v v' : World} (h : Below v.heap.size v v') {b o : Nat} (hb : b < v.heap.size) (hc : v.frozen? ⟨b, o, none⟩ = false) : v'.frozen? ⟨b, o, none⟩ = false :=
  (h.frozen (p := ⟨b, o, none⟩) hb).trans hc
theorem bt0 {w v v' : World} (h : Below w.heap.size w v) (hb : Below v.heap.size v v') : Below w.heap.size w v' := h.trans (hb.mono h.size)
theorem Tm.wt_mem {t : Tm} {ks : List Tm} (h : t ∈ ks) : t.wt ≤ Tm.wts ks := by
  induction ks with
  | nil => cases h
  | cons x r ih =>
    simp only [Tm.wts]
    rcases List.mem_cons.1 h with rfl | h
    · omega
    · have := ih h; omega

set_option maxRecDepth 100000 in
theorem cloneS (s : ByteArray) (w : World) (hs : s.size ≤ 4194304) :
    Calls Tryz.prog 158 #[.string s] w fun e w' => e = .returned (.string s) ∧ Below w.heap.size w w' := by
  have h := hide (fun v => Tryz.stringslite_Clone s v (by omega))
  go_enter Tryz.func158, Tryz.ntmps158
  go_wp2_with fail
  refine (unhide h _).mono ?_
  rintro e w2 ⟨rfl, hb2⟩
  go_wp2_with fail
  go_ret
  exact ⟨rfl, hb2⟩

def CyOk (t : Tm) : Prop := ∀ (op n : Int) (s : ByteArray) (a : Option Addr) (len cap : Nat) (w : World), Lies w 0 t (tmCells op n s a len cap) → t.size + t.wt ≤ 4194304 →
  Calls Tryz.prog 145 #[.agg #[.int .i64 op, .int .i64 n, .string s, .slice a len cap]] w fun e w' => ∃ a' cap' fp, e = .returned (.agg #[.int .i64 op, .int .i64 n, .string s, .slice a' len cap']) ∧ Own w' t (tmCells op n s a' len cap') fp ∧ (fp.Nodup ∧ ∀ x ∈ fp, w.heap.size ≤ x) ∧ Below w.heap.size w w'

/-- How much there is to be copied, with its texts. -/
def hbig : List Hole → Nat
  | [] => 0
  | h :: r => h.2.2.size + h.2.2.wt + hbig r
theorem hbig_append (a b : List Hole) : hbig (a ++ b) = hbig a + hbig b := by
  induction a with
  | nil => simp [hbig]
  | cons x r ih => simp only [List.cons_append, hbig, ih]; omega
theorem hbig_kids (b : Nat) : ∀ (i : Nat) (ks : List Tm), hbig (kidsH b i ks) = Tm.sizes ks + Tm.wts ks
  | _, [] => rfl
  | i, t :: r => by simp only [kidsH, hbig, Tm.sizes, Tm.wts, hbig_kids b (i + 1) r]; omega
theorem length_le_hbig : ∀ (a : List Hole), a.length ≤ hbig a
  | [] => by simp [hbig]
  | x :: r => by have := length_le_hbig r; have := x.2.2.size_pos; simp only [List.length_cons, hbig]; omega

theorem big_step {H : List Hole} {hb ho g : Nat} {op n : Int} {s : ByteArray} {ks : List Tm} {K : Nat} (h : hbig (H ++ [(hb, ho, .node op n s ks)]) ≤ K) : hbig (H ++ kidsH g 0 ks) + 1 ≤ K ∧ ks.length ≤ K ∧ H.length ≤ K ∧ s.size ≤ K ∧ H.length + ks.length ≤ K := by
  rw [hbig_append] at h ⊢
  rw [hbig_kids]
  have h1 := length_le_hbig H
  have h2 := Tm.length_le_sizes ks
  simp only [hbig, Tm.size, Tm.wt] at h
  omega

set_option maxRecDepth 100000 in
set_option maxHeartbeats 2000000 in
/-- The copy; and of a term with no kids its row is nil. -/
theorem cy_all (t : Tm) (op n : Int) (s : ByteArray) (a : Option Addr) (len cap : Nat) (w : World) (hl : Lies w 0 t (tmCells op n s a len cap)) (hsz : t.size + t.wt ≤ 4194304) :
    Calls Tryz.prog 145 #[.agg #[.int .i64 op, .int .i64 n, .string s, .slice a len cap]] w fun e w' => ∃ a' cap' fp, e = .returned (.agg #[.int .i64 op, .int .i64 n, .string s, .slice a' len cap']) ∧ Own w' t (tmCells op n s a' len cap') fp ∧ (fp.Nodup ∧ ∀ x ∈ fp, w.heap.size ≤ x) ∧ (len = 0 → a' = none ∧ cap' = 0) ∧ Below w.heap.size w w' := by
  cases t with
  | node op' n' s' ks =>
    have hl0 := hl
    simp only [Lies, tmCells] at hl
    obtain ⟨a', cap', he, ⟨hs, hlc, hcm⟩, hwf, hk⟩ := hl
    simp only [List.cons.injEq, Value.int.injEq, Value.string.injEq, Value.slice.injEq, true_and, and_true] at he
    obtain ⟨rfl, rfl, rfl, rfl, rfl, rfl⟩ := he
    have HS0 := hide (CyS.start hl0)
    generalize hT : Tm.node op n s ks = T at *
    have HZ : Hid (T.size + T.wt ≤ 4194304) := hsz
    have HT : Hid (Tm.node op n s ks = T) := hT
    clear hl0 hs hlc hcm hwf hk hsz hT
    generalize hlen : ks.length = len at *
    have HLn : Hid (ks.length = len) := hlen
    clear hlen
    go_enter Tryz.func145, Tryz.ntmps145
    go_wp2_with fail
    go_loopg [3] 4194305 (fun gk v wr => ∃ H : List Hole, hbig H < gk ∧ hbig H ≤ 4194304 ∧ CyS w T H H v wr)
    case atStart =>
      have hz := unhide HZ
      exact ⟨[(w.heap.size, 0, T)], by simp only [hbig]; omega, by simp only [hbig]; omega, unhide HS0⟩
    case round =>
      obtain ⟨H, hgk, hbk, hM⟩ := hrel
      clear HS0
      by_cases hH : H = []
      · subst hH
        obtain ⟨av, cv, hv0, _⟩ := hM.shape
        simp only [List.length_nil] at hv0
        subst hv0
        obtain ⟨cs, fp, hr, hO, hnd, hge, hleaf⟩ := hM.finish
        have hres := hM.res
        have hB := hM.below
        have hT := unhide HT
        subst hT
        obtain ⟨a2, cap2, hcs, hO1, hO2, hO3⟩ := hO.kids
        subst hcs
        have hN : len = 0 → a2 = none ∧ cap2 = 0 := fun e => by
          have hk0 : ks = [] := List.length_eq_zero_iff.1 (by rw [unhide HLn, e])
          subst hk0
          have h6 := hleaf op n s rfl 3 (.slice none 0 0) rfl
          have h7 := hr 3 (.slice a2 ([] : List Tm).length cap2) rfl
          rw [h7] at h6
          simp at h6
          exact h6
        have HN := hide hN
        clear hN hleaf
        rw [unhide HLn] at hr
        have p0 : wr.cell? ⟨w.heap.size, 0, none⟩ = some (.int .i64 op) := by have := hr 0 _ rfl; simpa using this
        have p1 : wr.cell? ⟨w.heap.size, 1, none⟩ = some (.int .i64 n) := by have := hr 1 _ rfl; simpa using this
        have p2 : wr.cell? ⟨w.heap.size, 2, none⟩ = some (.string s) := by have := hr 2 _ rfl; simpa using this
        have p3 : wr.cell? ⟨w.heap.size, 3, none⟩ = some (.slice a2 len cap2) := by have := hr 3 _ rfl; simpa using this
        have q0 : wr.cell? ⟨w.heap.size + 1, 0, none⟩ = some (.int .i64 0) := cell_of_row hres (by simp)
        have q1 : wr.cell? ⟨w.heap.size + 1, 1, none⟩ = some (.int .i64 0) := cell_of_row hres (by simp)
        have q2 : wr.cell? ⟨w.heap.size + 1, 2, none⟩ = some (.string ByteArray.empty) := cell_of_row hres (by simp)
        have q3 : wr.cell? ⟨w.heap.size + 1, 3, none⟩ = some (.slice none 0 0) := cell_of_row hres (by simp)
        have e0 : wr.frozen? ⟨w.heap.size + 1, 0, none⟩ = false := frozen_of_row hres
        have e1 : wr.frozen? ⟨w.heap.size + 1, 1, none⟩ = false := frozen_of_row hres
        have e2 : wr.frozen? ⟨w.heap.size + 1, 2, none⟩ = false := frozen_of_row hres
        have e3 : wr.frozen? ⟨w.heap.size + 1, 3, none⟩ = false := frozen_of_row hres
        have HKO := hide hO3
        have HND := hide hnd
        have HGE := hide hge
        have HMM := hide hB
        have HO1 := hide hO1
        have HO2 := hide hO2
        clear hO hO1 hO2 hO3 hnd hge hB hr hres hM hgk hbk
        go_wp2_with fail
        refine bodyPost_ret (v := .agg #[.int .i64 op, .int .i64 n, .string s, .slice a2 len cap2]) (by simp [results, Tryz.results145, go_sem, q0, q1, q2, q3]) rfl ⟨a2, cap2, rfl, fp, ?_, ⟨unhide HND, fun x hx => by have := unhide HGE x hx; omega⟩, unhide HN, ?_⟩
        · have h1 := Own.of_kids (op := op) (n := n) (s := s) (cap := cap2) (unhide HO1) (unhide HO2) ((unhide HKO).keep (w' := ((((wr.setCell ⟨w.heap.size + 1, 0, none⟩ (.int .i64 op)).setCell ⟨w.heap.size + 1, 1, none⟩ (.int .i64 n)).setCell ⟨w.heap.size + 1, 2, none⟩ (.string s)).setCell ⟨w.heap.size + 1, 3, none⟩ (.slice a2 len cap2))) fun b hb => by
            have hbb := unhide HGE b hb
            rw [Below.heap_setCell _ _ _ _ (by show b ≠ _; simp only; omega), Below.heap_setCell _ _ _ _ (by show b ≠ _; simp only; omega), Below.heap_setCell _ _ _ _ (by show b ≠ _; simp only; omega), Below.heap_setCell _ _ _ _ (by show b ≠ _; simp only; omega)])
          rw [unhide HLn] at h1
          exact h1
        · exact ((((unhide HMM).setCell (by show w.heap.size ≤ w.heap.size + 1; omega) _).setCell (by show w.heap.size ≤ w.heap.size + 1; omega) _).setCell (by show w.heap.size ≤ w.heap.size + 1; omega) _).setCell (by show w.heap.size ≤ w.heap.size + 1; omega) _
      · obtain ⟨us, ⟨hb, ho, ⟨op1, n1, s1, ks1⟩⟩, rfl⟩ : ∃ us p, H = us ++ [p] := ⟨H.dropLast, H.getLast hH, (List.dropLast_concat_getLast hH).symm⟩
        obtain ⟨gr, c, rfl, hc1, hc2, hcell, hpop⟩ := hM.top
        obtain ⟨a1, cap1, C1, hC1, hge1, hne1, hr1, hz1, hw1, hk1⟩ := hpop.cells
        have c2 : wr.cell? ⟨hb, ho + 2, none⟩ = some (.string s1) := hr1 2 _ rfl
        have HG := hide hgk
        have HK := hide hbk
        obtain ⟨_, hb2, hb3, hb4, hb5⟩ := big_step (g := 0) hbk
        have HCL := hide (fun v => cloneS s1 v hb4)
        have HP := hide hpop
        have HC1 := hide hC1
        have HR1 := hide hr1
        have HK1 := hide hk1
        have hub : us.length ≤ 4194304 := by omega
        unfold maxLen at hc2
        generalize hul : us.length = ul at *
        have HU : Hid (us.length = ul) := hul
        clear hgk hbk hM hpop hC1 hr1 hk1 hz1 hw1 hul hge1 hne1 hH
        go_wp2_with fail
        refine (unhide HCL _).mono ?_
        rintro e w2 ⟨rfl, hB2⟩
        have HP2 := hide ((unhide HP).carry hB2)
        have hC2 := (hB2.block hb (lt_of_heap (unhide HC1))).trans (unhide HC1)
        have hr2 := rangeAt_below (unhide HR1) hB2
        have d2 : w2.cell? ⟨hb, ho + 2, none⟩ = some (.string s1) := hr2 2 _ rfl
        have f2 : w2.frozen? ⟨hb, ho + 2, none⟩ = false := frozen_of_row hC2
        have d3 : (w2.setCell ⟨hb, ho + 2, none⟩ (.string s1)).cell? ⟨hb, ho + 3, none⟩ = some (.slice a1 ks1.length cap1) := by
          rw [World.cell?_setCell_other _ _ _ _ (fun e' => by simp at e')]
          exact hr2 3 _ rfl
        have HST := hide ((unhide HP2).step hr2 (unhide HK1) (by omega) 33)
        have hkb : ks1.length ≤ 4194304 := by omega
        generalize hkl : ks1.length = l1 at *
        have HKL : Hid (ks1.length = l1) := hkl
        clear hkl hB2 hC2 hr2 HP HCL HR1 HC1 HK1 HP2 c2
        go_wp2_with (at_builtin; refine wpList_append_run rfl _ _ 33 rfl (.slice none 0 0) (.slice a1 l1 cap1) rfl rfl (fun v' w' => ∃ a' cap' g, v' = .slice a' l1 cap' ∧ l1 ≤ cap' ∧ cap' ≤ maxLen ∧ (0 < l1 → a' = some ⟨g, 0, none⟩) ∧ w'.frozen? ⟨hb, ho + 3, none⟩ = false ∧ (∃ u, w'.cell? ⟨hb, ho + 3, none⟩ = some u) ∧
          CyS w T (us ++ kidsH g 0 ks1) us (.slice (some ⟨gr, 0, none⟩) ul c) (w'.setCell ⟨hb, ho + 3, none⟩ v') ∧ (w'.setCell ⟨hb, ho + 3, none⟩ v').cell? ⟨hb, ho + 3, none⟩ = some v' ∧ ∃ C, (w'.setCell ⟨hb, ho + 3, none⟩ v').heap[hb]? = some (.cells C 56 (0, 0))) (unhide HST) ?_; rintro v' w3 ⟨a3, cap3, g3, rfl, hc3, hc4, hor, f3, ⟨u3, d33⟩, hS3, d34, C3, hC3⟩; unfold maxLen at hc4)
        have HS3 := hide hS3
        have HOR := hide hor
        have HC3 := hide hC3
        have HBS := hide (big_step (g := g3) (unhide HK))
        have HD := hide d34
        clear hS3 hor hC3 f3 d33 HST d2 f2 d3 d34
        generalize hW : w3.setCell ⟨hb, ho + 3, none⟩ (.slice a3 l1 cap3) = w4 at *
        clear hW
        go_loopw [3, 42] (fun v i wr => ∃ k : Nat, k ≤ l1 ∧ i = .int .i64 k ∧ CyS w T (us ++ kidsH g3 0 ks1) (us ++ (kidsH g3 0 ks1).take k) v wr ∧ wr.cell? ⟨hb, ho + 3, none⟩ = some (.slice a3 l1 cap3) ∧ ∃ C, wr.heap[hb]? = some (.cells C 56 (0, 0))) (fun _ i _ => l1 - (intOf i).toNat)
        case atStart => exact ⟨0, Nat.zero_le _, rfl, by simpa using unhide HS3, unhide HD, _, unhide HC3⟩
        case round =>
          obtain ⟨k, hkl, rfl, hI, dk, Ck, hCk⟩ := hrel
          clear HS3 HD HC3
          by_cases hlt : k < l1
          · obtain rfl := unhide HOR (by omega)
            have hkk : k < ks1.length := by have := unhide HKL; omega
            have hlen2 : (us ++ (kidsH g3 0 ks1).take k).length ≤ 4194304 := by
              have := (unhide HBS).2.2.2.2
              rw [List.length_append, List.length_take, kidsH_length]
              omega
            have HPU : Hid (∃ v' w', (Builtin.append_ #[219, 219] 219 #[u3, .slice (some ⟨wr.heap.size, 0, none⟩) 1 1]).run Tryz.prog (wr.alloc (.cells #[.pointer (some ⟨g3, k * 4, none⟩)] 218)) = .ok v' w' ∧
                (CyS w T (us ++ kidsH g3 0 ks1) (us ++ (kidsH g3 0 ks1).take (k + 1)) v' w' ∧ w'.cell? ⟨hb, ho + 3, none⟩ = some (.slice (some ⟨g3, 0, none⟩) l1 cap3) ∧ ∃ C, w'.heap[hb]? = some (.cells C 56 (0, 0)))) := by
              obtain ⟨v', w', r1, r2, r3⟩ := hI.push (g3, k * 4, ks1[k]) hlen2 219
              refine ⟨v', w', r1, ?_, (World.cell?_of_block (r3 hb Ck hCk)).trans dk, Ck, (r3 hb Ck hCk).trans hCk⟩
              have hg := kidsH_get g3 0 ks1 k hkk
              rw [Nat.zero_add] at hg
              rw [List.take_add_one, hg]
              simpa using r2
            clear hI hlen2 hCk
            go_wp2_with (at_builtin; refine wpList_append_run rfl _ _ 219 rfl u3 (.slice (some ⟨wr.heap.size, 0, none⟩) 1 1) rfl rfl (fun v' w' => CyS w T (us ++ kidsH g3 0 ks1) (us ++ (kidsH g3 0 ks1).take (k + 1)) v' w' ∧ w'.cell? ⟨hb, ho + 3, none⟩ = some (.slice (some ⟨g3, 0, none⟩) l1 cap3) ∧ ∃ C, w'.heap[hb]? = some (.cells C 56 (0, 0))) (unhide HPU) ?_; rintro v' w' ⟨n1, n2, n3⟩)
            exact ⟨⟨k + 1, by omega, by go_num, n1, n2, n3⟩, by simp [intOf]; omega⟩
          · obtain rfl : k = l1 := by omega
            have HI : Hid (CyS w T (us ++ kidsH g3 0 ks1) (us ++ kidsH g3 0 ks1) u3 wr) := by
              have h5 := hI
              rw [List.take_of_length_le (by rw [kidsH_length, unhide HKL]; exact Nat.le_refl _)] at h5
              exact h5
            clear hI
            go_wp2_with fail
            go_roundg (hbig (us ++ kidsH g3 0 ks1) + 1)
            case measure => have := unhide HG; have := (big_step (g := g3) (Nat.le_refl (hbig (us ++ [(hb, ho, .node op1 n1 s1 ks1)])))).1; omega
            case rel => exact ⟨us ++ kidsH g3 0 ks1, by omega, by have := (unhide HBS).1; omega, unhide HI⟩

theorem cy_calls (t : Tm) : CyOk t := fun op n s a len cap w hl hsz =>
  (cy_all t op n s a len cap w hl hsz).mono fun _ _ ⟨a', cap', fp, h1, h2, h3, _, h4⟩ => ⟨a', cap', fp, h1, h2, h3, h4⟩

theorem Grow.blocks {B : Nat} {ks : List Tm} {v : Value} {f : List Nat} {w w' : World} (h : Grow B ks v f w) (hb : ∀ x, B ≤ x → w'.heap[x]? = w.heap[x]?) : Grow B ks v f w' := by
  obtain ⟨xs, ho, hr⟩ := h.row
  refine ⟨⟨xs, ⟨ho.1, ?_⟩, hr.keep fun b hbf => hb b (h.ge b hbf)⟩, h.nd, h.ge, h.out⟩
  rcases ho.2 with h1 | ⟨g, cap, cur, h1, h2, h3, h4⟩
  · exact Or.inl h1
  · exact Or.inr ⟨g, cap, cur, h1, h2, (hb g h2).trans h3, h4⟩

/-- In the middle of the copy: k of the kids are there, the list in the last cell of the block g. -/
structure CzMid (W0 : World) (op n : Int) (s : ByteArray) (ks : List Tm) (k : Nat) (wr : World) : Prop where
  below : Below W0.heap.size W0 wr
  grow : ∃ v f, wr.heap[W0.heap.size]? = some (.cells #[.int .i64 op, .int .i64 n, .string s, v] 56 (0, 0)) ∧ Grow (W0.heap.size + 1) (ks.take k) v f wr

theorem CzMid.start (W0 : World) (op n : Int) (s : ByteArray) (ks : List Tm) : CzMid W0 op n s ks 0 (W0.alloc (.cells #[.int .i64 op, .int .i64 n, .string s, .slice none 0 0] 56)) :=
  ⟨(Below.refl _ _).alloc (Nat.le_refl _) _, .slice none 0 0, [], heap_alloc_new W0 _, by simpa using Grow.start _ _⟩

theorem setCell3 {w : World} {b : Nat} {x0 x1 x2 x3 : Value} {t : TypeId} {fr : Nat × Nat} (v : Value) (h : w.heap[b]? = some (.cells #[x0, x1, x2, x3] t fr)) : (w.setCell ⟨b, 3, none⟩ v).heap[b]? = some (.cells #[x0, x1, x2, v] t fr) := by
  simp only [World.setCell, Array.getElem?_modify]
  simp [h]

theorem CzMid.lt {W0 wr : World} {op n : Int} {s : ByteArray} {ks : List Tm} {k : Nat} (h : CzMid W0 op n s ks k wr) : W0.heap.size < wr.heap.size := by
  obtain ⟨v, f, h1, _⟩ := h.grow
  exact lt_of_heap h1

theorem CzMid.cell {W0 wr : World} {op n : Int} {s : ByteArray} {ks : List Tm} {k : Nat} (h : CzMid W0 op n s ks k wr) : ∃ v, wr.cell? ⟨W0.heap.size, 3, none⟩ = some v ∧
    ∀ (w2 w3 : World) (cs : List Value) (f1 : List Nat) (b o : Nat), Below wr.heap.size wr w2 → (hk : k < ks.length) → Own w2 ks[k] cs f1 → f1.Nodup → (∀ x ∈ f1, wr.heap.size ≤ x) → Below w2.heap.size w2 w3 → w3.rangeAt b o cs → ∀ (c : Nat), ks.length ≤ 2097152 → ∀ ty : TypeId,
      ∃ v' w', (Builtin.append_ #[33, 33] ty #[v, .slice (some ⟨b, o, none⟩) 1 c]).run Tryz.prog w3 = .ok v' w' ∧ w'.cell? ⟨W0.heap.size, 3, none⟩ = some v ∧ w'.frozen? ⟨W0.heap.size, 3, none⟩ = false ∧ (∃ xa xl xc, v' = .slice xa xl xc) ∧ CzMid W0 op n s ks (k + 1) (w'.setCell ⟨W0.heap.size, 3, none⟩ v') := by
  have hlt0 := h.lt
  have hB := h.below.size
  have hbel := h.below
  obtain ⟨v, f, h1, hg⟩ := h.grow
  refine ⟨v, cell_of_row h1 (by simp), ?_⟩
  intro w2 w3 cs f1 b o hb hk hl hnd hge hb3 hr c hn ty
  have hb13 : Below wr.heap.size wr w3 := hb.trans (hb3.mono hb.size)
  have hg3 := hg.carry hb13
  have hl3 : Own w3 ks[k] cs f1 := Own.keep _ cs f1 hl fun x hx => hb3.block x (Own.lt _ _ _ hl x hx)
  obtain ⟨v', w', r1, r2, r3⟩ := hg3.push (t := ks[k]) hl3 hnd (fun x hx => by have := hge x hx; omega) (fun x hx hxf => by have := hge x hx; have := hg.lt x hxf; omega) (fun g hgv hx => by have := hge g hx; have := hg.own_lt g hgv; omega) hr c (by rw [List.length_take]; omega) (by have := hb13.size; omega) ty
  have hrow : w'.heap[W0.heap.size]? = some (.cells #[.int .i64 op, .int .i64 n, .string s, v] 56 (0, 0)) := by
    rw [r3.block _ (by omega), hb13.block _ hlt0]
    exact h1
  obtain ⟨xa, xc, hsh, _⟩ := r2.shape
  refine ⟨v', w', r1, cell_of_row hrow (by simp), frozen_of_row hrow, ⟨xa, _, xc, hsh⟩, ?_, v', f ++ f1, setCell3 v' hrow, ?_⟩
  · exact ((hbel.trans (hb13.mono hB)).trans (r3.mono (by omega))).setCell (Nat.le_refl _) _
  · rw [Tm.take_succ_get (List.getElem?_eq_getElem hk)]
    exact r2.blocks fun x hx => Below.heap_setCell _ _ _ _ (by show x ≠ _; simp only; omega)

theorem CzMid.kids {W0 wr : World} {op n : Int} {s : ByteArray} {ks : List Tm} (h : CzMid W0 op n s ks ks.length wr) : ∃ a cap fp, wr.heap[W0.heap.size]? = some (.cells #[.int .i64 op, .int .i64 n, .string s, .slice a ks.length cap] 56 (0, 0)) ∧
    ks.length ≤ cap ∧ cap ≤ maxLen ∧ KidsOwn wr a ks fp ∧ fp.Nodup ∧ ∀ x ∈ fp, W0.heap.size + 1 ≤ x := by
  obtain ⟨v, f, h1, hg⟩ := h.grow
  rw [List.take_length] at hg
  obtain ⟨a, cap, fp, rfl, h2, h3, h4, h5, h6⟩ := hg.kids
  exact ⟨a, cap, fp, h1, h2, h3, h4, h5, h6⟩

theorem box_at (w : World) (cs : List Value) (j : Nat) (v : Value) (h : cs[j]? = some v) : (w.alloc (.cells cs.toArray 56)).cell? ⟨w.heap.size, 0 + j, none⟩ = some v := by
  rw [Nat.zero_add]
  exact box_cell w _ 56 j v (by simpa using h)
theorem len_le {a b : Nat} (h : a = b) (hb : b ≤ 2097152) : a ≤ 2097152 := by omega

/-- An append in a region that draws its order, by what its run comes to. -/
theorem cz_append_run {P : Program} {ops : Array Oper} {o : Oper} {a : Act} {w : World} {K : Act → World → Prop} {Q : Exit → Act → World → Prop} {E : Prop}
    (hg : o.guard = none) (s x : Operand) (t : TypeId) (hop : o.op = Op.call { callee := Callee.builtin Builtin.append, args := #[s, x], argTypes := #[t, t] })
    (v xv : Value) (hs : a.eval s = v) (hx : a.eval x = xv) (R : Value → World → Prop) (hrun : ∃ v' w', (Builtin.append_ #[t, t] o.type #[v, xv]).run P w = .ok v' w' ∧ R v' w')
    (hK : ∀ v' w', R v' w' → K (a.put o.dst v') w') :
    if Region.wanted o (yielded ops a.tmps) = true then Oper.wp P o a w K Q else E := by
  have hw : Region.wanted o (yielded ops a.tmps) = true := by simp [Region.wanted, hg]
  rw [if_pos hw]
  obtain ⟨v', w', hr, h2⟩ := hrun
  unfold Oper.wp
  simp [execOp, hop, resolve, invoke, builtin, hs, hx, hr, Result.andThen]
  exact hK v' w' h2

def Tab (w : World) : Prop := Lib.TabIs Tryz.prog w "internal/strconv.uint64pow10" .u64 Lib.pow10Tab
theorem Tab.on {w w' : World} (h : Tab w) (hb : Below w.heap.size w w') : Tab w' := Lib.tabBelow_of_tabIs h w' hb

/-- The variable of the named error holds a pointer that is not nil, to a block that was made ahead of all else. -/
def ErrAt (a : Addr) (w : World) : Prop := w.cell? ⟨0, 0, none⟩ = some (.iface 263 (.pointer (some a)))
theorem ErrAt.on {a : Addr} {w w' : World} (h : ErrAt a w) (hb : Below w.heap.size w w') : ErrAt a w' := keepc hb h
theorem ErrAt.cell {a : Addr} {w : World} (h : ErrAt a w) : w.cell? ⟨0, 0, none⟩ = some (.iface 263 (.pointer (some a))) := h
/-- The same, the pointer not named. -/
def Err (w : World) : Prop := ∃ a, ErrAt a w
theorem Err.on {w w' : World} (h : Err w) (hb : Below w.heap.size w w') : Err w' := let ⟨a, ha⟩ := h; ⟨a, ha.on hb⟩

theorem isTypeOf (v : Value) (w : World) : (callFunc 156 #[.iface 263 v]).run Tryz.prog w = .ok (.value (.iface 229 (.agg #[.pointer (some ⟨4, 263, none⟩)]))) w := by kernel_rfl
theorem isComparable (w : World) : (callFunc 219 #[.agg #[.pointer (some ⟨4, 263, none⟩)]]).run Tryz.prog w = .ok (.value (.bool true)) w := by kernel_rfl
theorem isMethodComparable (v : Value) (w : World) : (Go.method 402 229 v "Comparable").run Tryz.prog w = .ok (219, v) w := by kernel_rfl
theorem isComp : (Tryz.prog.info? 263).map (·.comparable) = some true := by kernel_rfl
theorem isSize : (Tryz.prog.info? 289).map (·.size) = some 1 := by kernel_rfl

set_option maxRecDepth 100000 in
/-- Of the error itself. -/
theorem is_same (a : Addr) (w : World) :
    Calls Tryz.prog 144 #[.iface 263 (.pointer (some a)), .iface 263 (.pointer (some a))] w fun e w' => e = .returned (.bool true) ∧ w' = w := by
  obtain ⟨i, hi, hcmp⟩ := Option.map_eq_some_iff.1 isComp
  obtain ⟨j, hj, hjs⟩ := Option.map_eq_some_iff.1 isSize
  have tT := isTypeOf
  have cT := isComparable
  have mR := isMethodComparable
  have heq := run_eql_iface_ptr_same (P := Tryz.prog) w a Tryz.underlying188 Tryz.underlying263 hi hcmp hj
  go_enter Tryz.func144, Tryz.ntmps144
  go_wp2
  refine wp_loop_rounds 1 ?_
  rw [rounds_succ]
  go_wp2
  go_ret
  exact ⟨rfl, rfl⟩

set_option maxRecDepth 100000 in
/-- Of none. -/
theorem is_nil (b : Addr) (w : World) :
    Calls Tryz.prog 144 #[.nilIface, .iface 263 (.pointer (some b))] w fun e w' => e = .returned (.bool false) ∧ w' = w := by
  have hn := run_eql_iface_nil_left (P := Tryz.prog) w 263 (.pointer (some b)) Tryz.underlying188
  go_enter Tryz.func144, Tryz.ntmps144
  go_wp2
  go_ret
  exact ⟨rfl, rfl⟩

/-- The box of an argument, and behind it the box of a result. -/
theorem two_boxes {w w2 : World} {op n : Int} {s : ByteArray} {a : Option Addr} {len cap : Nat}
    (hb : Below ((w.alloc (.cells #[.int .i64 op, .int .i64 n, .string s, .slice a len cap] 56)).alloc (.cells #[.int .i64 0, .int .i64 0, .string ByteArray.empty, .slice none 0 0] 56)).heap.size ((w.alloc (.cells #[.int .i64 op, .int .i64 n, .string s, .slice a len cap] 56)).alloc (.cells #[.int .i64 0, .int .i64 0, .string ByteArray.empty, .slice none 0 0] 56)) w2) :
    w2.cell? ⟨w.heap.size, 0, none⟩ = some (.int .i64 op) ∧ w2.cell? ⟨w.heap.size, 1, none⟩ = some (.int .i64 n) ∧ w2.cell? ⟨w.heap.size, 2, none⟩ = some (.string s) ∧ w2.cell? ⟨w.heap.size, 3, none⟩ = some (.slice a len cap) ∧
    w2.cell? ⟨w.heap.size + 1, 0, none⟩ = some (.int .i64 0) ∧ w2.cell? ⟨w.heap.size + 1, 1, none⟩ = some (.int .i64 0) ∧ w2.cell? ⟨w.heap.size + 1, 2, none⟩ = some (.string ByteArray.empty) ∧ w2.cell? ⟨w.heap.size + 1, 3, none⟩ = some (.slice none 0 0) ∧
    w2.frozen? ⟨w.heap.size + 1, 0, none⟩ = false ∧ w2.frozen? ⟨w.heap.size + 1, 1, none⟩ = false ∧ w2.frozen? ⟨w.heap.size + 1, 2, none⟩ = false ∧ w2.frozen? ⟨w.heap.size + 1, 3, none⟩ = false := by
  have h1 : w2.heap[w.heap.size + 1]? = some (.cells #[.int .i64 0, .int .i64 0, .string ByteArray.empty, .slice none 0 0] 56) := by
    rw [hb.block _ (by simp)]
    have := heap_alloc_new (w.alloc (.cells #[.int .i64 op, .int .i64 n, .string s, .slice a len cap] 56)) (.cells #[.int .i64 0, .int .i64 0, .string ByteArray.empty, .slice none 0 0] 56)
    rwa [heap_size_alloc] at this
  have h0 : ∀ j v, (#[.int .i64 op, .int .i64 n, .string s, .slice a len cap] : Array Value)[j]? = some v → w2.cell? ⟨w.heap.size, j, none⟩ = some v := fun j v hv =>
    keepc hb (keepc ((Below.refl _ _).alloc (Nat.le_refl _) _) (box_cell w _ 56 j v hv))
  exact ⟨h0 0 _ rfl, h0 1 _ rfl, h0 2 _ rfl, h0 3 _ rfl, cell_of_row h1 (by simp), cell_of_row h1 (by simp), cell_of_row h1 (by simp), cell_of_row h1 (by simp), frozen_of_row h1, frozen_of_row h1, frozen_of_row h1, frozen_of_row h1⟩

theorem two_boxes_at (w : World) (op n : Int) (s : ByteArray) (a : Option Addr) (len cap : Nat) :
    ((w.alloc (.cells #[.int .i64 op, .int .i64 n, .string s, .slice a len cap] 56)).alloc (.cells #[.int .i64 0, .int .i64 0, .string ⟨#[]⟩, .slice none 0 0] 56)).cell? ⟨w.heap.size, 0, none⟩ = some (.int .i64 op) ∧ ((w.alloc (.cells #[.int .i64 op, .int .i64 n, .string s, .slice a len cap] 56)).alloc (.cells #[.int .i64 0, .int .i64 0, .string ⟨#[]⟩, .slice none 0 0] 56)).cell? ⟨w.heap.size, 1, none⟩ = some (.int .i64 n) ∧ ((w.alloc (.cells #[.int .i64 op, .int .i64 n, .string s, .slice a len cap] 56)).alloc (.cells #[.int .i64 0, .int .i64 0, .string ⟨#[]⟩, .slice none 0 0] 56)).cell? ⟨w.heap.size, 2, none⟩ = some (.string s) ∧ ((w.alloc (.cells #[.int .i64 op, .int .i64 n, .string s, .slice a len cap] 56)).alloc (.cells #[.int .i64 0, .int .i64 0, .string ⟨#[]⟩, .slice none 0 0] 56)).cell? ⟨w.heap.size, 3, none⟩ = some (.slice a len cap) ∧
    ((w.alloc (.cells #[.int .i64 op, .int .i64 n, .string s, .slice a len cap] 56)).alloc (.cells #[.int .i64 0, .int .i64 0, .string ⟨#[]⟩, .slice none 0 0] 56)).cell? ⟨w.heap.size + 1, 0, none⟩ = some (.int .i64 0) ∧ ((w.alloc (.cells #[.int .i64 op, .int .i64 n, .string s, .slice a len cap] 56)).alloc (.cells #[.int .i64 0, .int .i64 0, .string ⟨#[]⟩, .slice none 0 0] 56)).cell? ⟨w.heap.size + 1, 1, none⟩ = some (.int .i64 0) ∧ ((w.alloc (.cells #[.int .i64 op, .int .i64 n, .string s, .slice a len cap] 56)).alloc (.cells #[.int .i64 0, .int .i64 0, .string ⟨#[]⟩, .slice none 0 0] 56)).cell? ⟨w.heap.size + 1, 2, none⟩ = some (.string ByteArray.empty) ∧ ((w.alloc (.cells #[.int .i64 op, .int .i64 n, .string s, .slice a len cap] 56)).alloc (.cells #[.int .i64 0, .int .i64 0, .string ⟨#[]⟩, .slice none 0 0] 56)).cell? ⟨w.heap.size + 1, 3, none⟩ = some (.slice none 0 0) ∧
    ((w.alloc (.cells #[.int .i64 op, .int .i64 n, .string s, .slice a len cap] 56)).alloc (.cells #[.int .i64 0, .int .i64 0, .string ⟨#[]⟩, .slice none 0 0] 56)).frozen? ⟨w.heap.size + 1, 0, none⟩ = false ∧ ((w.alloc (.cells #[.int .i64 op, .int .i64 n, .string s, .slice a len cap] 56)).alloc (.cells #[.int .i64 0, .int .i64 0, .string ⟨#[]⟩, .slice none 0 0] 56)).frozen? ⟨w.heap.size + 1, 1, none⟩ = false ∧ ((w.alloc (.cells #[.int .i64 op, .int .i64 n, .string s, .slice a len cap] 56)).alloc (.cells #[.int .i64 0, .int .i64 0, .string ⟨#[]⟩, .slice none 0 0] 56)).frozen? ⟨w.heap.size + 1, 2, none⟩ = false ∧ ((w.alloc (.cells #[.int .i64 op, .int .i64 n, .string s, .slice a len cap] 56)).alloc (.cells #[.int .i64 0, .int .i64 0, .string ⟨#[]⟩, .slice none 0 0] 56)).frozen? ⟨w.heap.size + 1, 3, none⟩ = false :=
  two_boxes (Below.refl _ _)

theorem keepf {v v' : World} (h : Below v.heap.size v v') {b o : Nat} (hb : b < v.heap.size) (hc : v.frozen? ⟨b, o, none⟩ = false) : v'.frozen? ⟨b, o, none⟩ = false :=
  (h.frozen (p := ⟨b, o, none⟩) hb).trans hc

/-- The four cells of a term in a block of its own. -/
def RowT (ty : TypeId) (w : World) (b : Nat) (op n : Int) (s : ByteArray) (a : Option Addr) (len cap : Nat) : Prop := w.heap[b]? = some (.cells #[.int .i64 op, .int .i64 n, .string s, .slice a len cap] ty (0, 0))
theorem RowT.new (ty : TypeId) (w : World) (op n : Int) (s : ByteArray) (a : Option Addr) (len cap : Nat) : RowT ty (w.alloc (.cells #[.int .i64 op, .int .i64 n, .string s, .slice a len cap] ty)) w.heap.size op n s a len cap := heap_alloc_new w _
theorem RowT.lt {ty : TypeId} {w : World} {b : Nat} {op n : Int} {s : ByteArray} {a : Option Addr} {len cap : Nat} (h : RowT ty w b op n s a len cap) : b < w.heap.size := lt_of_heap h
theorem RowT.below {ty : TypeId} {w w' : World} {b : Nat} {op n : Int} {s : ByteArray} {a : Option Addr} {len cap : Nat} (h : RowT ty w b op n s a len cap) (hb : Below w.heap.size w w') : RowT ty w' b op n s a len cap := (hb.block b h.lt).trans h
theorem RowT.only {ty : TypeId} {w w' : World} {b : Nat} {op n : Int} {s : ByteArray} {a : Option Addr} {len cap : Nat} {f : List Nat} (h : RowT ty w b op n s a len cap) (hb : Only f w w') (hf : b ∉ f) : RowT ty w' b op n s a len cap := (hb.block b h.lt hf).trans h
theorem RowT.facts {ty : TypeId} {w : World} {b : Nat} {op n : Int} {s : ByteArray} {a : Option Addr} {len cap : Nat} (h : RowT ty w b op n s a len cap) : w.cell? ⟨b, 0, none⟩ = some (.int .i64 op) ∧ w.cell? ⟨b, 1, none⟩ = some (.int .i64 n) ∧ w.cell? ⟨b, 2, none⟩ = some (.string s) ∧ w.cell? ⟨b, 3, none⟩ = some (.slice a len cap) :=
  ⟨cell_of_row h (by simp), cell_of_row h (by simp), cell_of_row h (by simp), cell_of_row h (by simp)⟩

theorem Own.below {w w' : World} {t : Tm} {cs : List Value} {f : List Nat} (h : Own w t cs f) (hb : Below w.heap.size w w') : Own w' t cs f := Own.keep t cs f h fun b hbf => hb.block b (Own.lt t cs f h b hbf)
theorem Own.only {w w' : World} {t : Tm} {cs : List Value} {f g : List Nat} (h : Own w t cs f) (hb : Only g w w') (hd : ∀ x ∈ f, x ∉ g) : Own w' t cs f := Own.keep t cs f h fun b hbf => hb.block b (Own.lt t cs f h b hbf) (hd b hbf)
theorem Own.lies0 {w : World} {t : Tm} {cs : List Value} {f : List Nat} (h : Own w t cs f) : Lies w 0 t cs := Own.lies t cs f h fun _ _ => Nat.zero_le _

theorem set4_heap (w : World) (g : Nat) (x0 x1 x2 x3 : Value) (b : Nat) (h : b ≠ g) : ((((w.setCell ⟨g, 0, none⟩ x0).setCell ⟨g, 1, none⟩ x1).setCell ⟨g, 2, none⟩ x2).setCell ⟨g, 3, none⟩ x3).heap[b]? = w.heap[b]? := by
  rw [Below.heap_setCell _ _ _ _ h, Below.heap_setCell _ _ _ _ h, Below.heap_setCell _ _ _ _ h, Below.heap_setCell _ _ _ _ h]

theorem set4_below {B : Nat} {w v : World} {g : Nat} {x0 x1 x2 x3 : Value} (h : Below B w v) (hg : B ≤ g) : Below B w ((((v.setCell ⟨g, 0, none⟩ x0).setCell ⟨g, 1, none⟩ x1).setCell ⟨g, 2, none⟩ x2).setCell ⟨g, 3, none⟩ x3) :=
  (((h.setCell hg _).setCell hg _).setCell hg _).setCell hg _

/-- The term, or the zero term. -/
def pickT (b : Bool) (t : Tm) : Tm := if b = true then t else .node 0 0 ByteArray.empty []

theorem zero_lies (w : World) (L : Nat) : Lies w L (.node 0 0 ByteArray.empty []) (tmCells 0 0 ByteArray.empty none 0 0) := by
  simp only [Lies]
  exact ⟨none, 0, rfl, ⟨by simp [maxLen], by simp, by simp⟩, ⟨by decide, by decide⟩, by simp [LiesAll]⟩

theorem zero_own (w : World) : Own w (.node 0 0 ByteArray.empty []) (tmCells 0 0 ByteArray.empty none 0 0) [] :=
  Own.of_kids (ks := []) ⟨by simp [maxLen], by simp, by simp⟩ ⟨by decide, by decide⟩ (Or.inl ⟨rfl, rfl⟩)

set_option maxRecDepth 100000 in
set_option maxHeartbeats 1000000 in
/-- impl.answer where there is no error: the same term, in new blocks of its own, and true. -/
theorem answer_yes (t : Tm) (op n : Int) (s : ByteArray) (a : Option Addr) (len cap : Nat) (x : Addr) (w : World) (hl : Lies w 0 t (tmCells op n s a len cap)) (hsz : t.size + t.wt ≤ 4194304) (he : ErrAt x w) :
    Calls Tryz.prog 125 #[.agg #[.int .i64 op, .int .i64 n, .string s, .slice a len cap], .nilIface] w fun e w' => ∃ a' cap' fp, e = .returned (.tuple #[.agg #[.int .i64 op, .int .i64 n, .string s, .slice a' len cap'], .bool true]) ∧ Own w' t (tmCells op n s a' len cap') fp ∧ (fp.Nodup ∧ ∀ x ∈ fp, w.heap.size ≤ x) ∧ Below w.heap.size w w' := by
  have h45 := hide (is_nil x)
  have hcy := hide (cy_calls t op n s a len cap)
  have hB0 : Below w.heap.size w ((w.alloc (.cells #[.int .i64 op, .int .i64 n, .string s, .slice a len cap] 56)).alloc (.cells #[.int .i64 0, .int .i64 0, .string ⟨#[]⟩, .slice none 0 0] 56)) := ((Below.refl w.heap.size w).alloc (Nat.le_refl _) _).alloc (by simp) _
  have HL := hide (hl.below hB0)
  have HB := hide hB0
  have g0 := (he.on hB0).cell
  clear hl he hB0
  obtain ⟨c0, c1, c2, c3, d0, d1, d2, d3, e0, e1, e2, e3⟩ := two_boxes_at w op n s a len cap
  have HG : Hid (w.heap.size + 2 = ((w.alloc (.cells #[.int .i64 op, .int .i64 n, .string s, .slice a len cap] 56)).alloc (.cells #[.int .i64 0, .int .i64 0, .string ⟨#[]⟩, .slice none 0 0] 56)).heap.size) := by show _ = _; simp
  go_enter Tryz.func125, Tryz.ntmps125
  go_wp2_with fail
  refine (unhide h45 _).mono ?_
  rintro e w2 ⟨rfl, rfl⟩
  generalize (w.alloc (.cells #[.int .i64 op, .int .i64 n, .string s, .slice a len cap] 56)).alloc (.cells #[.int .i64 0, .int .i64 0, .string ⟨#[]⟩, .slice none 0 0] 56) = v at *
  go_wp2_with fail
  refine (unhide hcy _ (unhide HL) hsz).mono ?_
  rintro e w3 ⟨a3, cap3, fp, rfl, hO3, ⟨hnd3, hge3⟩, hb3⟩
  have d0' := d0
  have d0 := keepc hb3 d0
  have d1 := keepc hb3 d1
  have d2 := keepc hb3 d2
  have d3 := keepc hb3 d3
  have e0 := keepf hb3 (lt_of_cell d0') e0
  have e1 := keepf hb3 (lt_of_cell d0') e1
  have e2 := keepf hb3 (lt_of_cell d0') e2
  have e3 := keepf hb3 (lt_of_cell d0') e3
  have HB3 := hide ((unhide HB).trans (hb3.mono (unhide HB).size))
  have HO := hide hO3
  have HN := hide hnd3
  have HE := hide hge3
  clear hb3 d0' hO3 hnd3 hge3 c0 c1 c2 c3 g0
  go_wp2_with fail
  refine bodyPost_ret (v := .tuple #[.agg #[.int .i64 op, .int .i64 n, .string s, .slice a3 len cap3], .bool true]) (by simp [results, Tryz.results125, go_sem, d0, d1, d2, d3]) rfl ⟨a3, cap3, fp, rfl, ?_, ⟨unhide HN, fun x hx => ?_⟩, set4_below (unhide HB3) (by omega)⟩
  · exact Own.keep _ _ _ (unhide HO) fun b hb => set4_heap _ _ _ _ _ _ b (by have := unhide HE b hb; have := unhide HG; omega)
  · have := unhide HE x hx; have := unhide HG; omega

set_option maxRecDepth 100000 in
set_option maxHeartbeats 1000000 in
/-- impl.answer where there is the named error: the zero term, and false. -/
theorem answer_no (op n : Int) (s : ByteArray) (a : Option Addr) (len cap : Nat) (x : Addr) (w : World) (he : ErrAt x w) :
    Calls Tryz.prog 125 #[.agg #[.int .i64 op, .int .i64 n, .string s, .slice a len cap], .iface 263 (.pointer (some x))] w fun e w' => e = .returned (.tuple #[.agg #[.int .i64 0, .int .i64 0, .string ByteArray.empty, .slice none 0 0], .bool false]) ∧ Below w.heap.size w w' := by
  have h45 := hide (is_same x)
  have hB0 : Below w.heap.size w ((w.alloc (.cells #[.int .i64 op, .int .i64 n, .string s, .slice a len cap] 56)).alloc (.cells #[.int .i64 0, .int .i64 0, .string ⟨#[]⟩, .slice none 0 0] 56)) := ((Below.refl w.heap.size w).alloc (Nat.le_refl _) _).alloc (by simp) _
  have HB := hide hB0
  have g0 := (he.on hB0).cell
  clear he hB0
  obtain ⟨c0, c1, c2, c3, d0, d1, d2, d3, e0, e1, e2, e3⟩ := two_boxes_at w op n s a len cap
  go_enter Tryz.func125, Tryz.ntmps125
  go_wp2_with fail
  refine (unhide h45 _).mono ?_
  rintro e w2 ⟨rfl, rfl⟩
  generalize (w.alloc (.cells #[.int .i64 op, .int .i64 n, .string s, .slice a len cap] 56)).alloc (.cells #[.int .i64 0, .int .i64 0, .string ⟨#[]⟩, .slice none 0 0] 56) = v at *
  clear c0 c1 c2 c3 g0
  go_wp2_with fail
  exact bodyPost_ret (v := .tuple #[.agg #[.int .i64 0, .int .i64 0, .string ByteArray.empty, .slice none 0 0], .bool false]) (by simp [results, Tryz.results125, go_sem, d0, d1, d2, d3]; try rfl) rfl ⟨rfl, set4_below (unhide HB) (by omega)⟩

mutual
theorem rightT_wt : ∀ (t : Tm), rightT t = true → t.wt + 1 ≤ 302 * t.size
  | .node op n s ks, h => by
    simp only [rightT, Bool.and_eq_true] at h
    have h1 := (ways h.1.1).2.2.1
    have h2 := rightL_wt ks h.2
    simp only [Tm.wt, Tm.size]
    omega
theorem rightL_wt : ∀ (ks : List Tm), rightL ks = true → Tm.wts ks + ks.length ≤ 302 * Tm.sizes ks
  | [], _ => by simp [Tm.wts, Tm.sizes]
  | t :: r, h => by
    simp only [rightL, Bool.and_eq_true] at h
    have h1 := rightT_wt t h.1
    have h2 := rightL_wt r h.2
    simp only [Tm.wts, Tm.sizes, List.length_cons]
    omega
end

set_option maxRecDepth 100000 in
theorem okT_small {m : Tm} (h : okT m = true) : m.size + m.wt ≤ 61000 := by
  simp only [okT, Bool.and_eq_true, decide_eq_true_eq] at h
  have := rightT_wt m h.2
  omega

set_option maxRecDepth 100000 in
set_option maxHeartbeats 1000000 in
theorem l3any (t : Tm) (op n : Int) (s : ByteArray) (a : Option Addr) (len cap : Nat) (w : World) (L : Nat) (hl : Lies w L t (tmCells op n s a len cap)) (hsz : t.size ≤ 2097152) :
    Calls Tryz.prog 49 #[.agg #[.int .i64 op, .int .i64 n, .string s, .slice a len cap]] w fun e w' => ∃ op' n' s' a' len' cap', e = .returned (.agg #[.int .i64 op', .int .i64 n', .string s', .slice a' len' cap']) ∧ Lies w' L (pickT (okT t) t) (tmCells op' n' s' a' len' cap') ∧ Below w.heap.size w w' ∧ (len = cap → len' = cap') := by
  have h8 := hide (ok8 t op n s a len cap)
  have HL0 := hide hl
  have HL := hide ((hl.any (Nat.zero_le L)).below (((Below.refl w.heap.size w).alloc (Nat.le_refl _) (.cells #[.int .i64 op, .int .i64 n, .string s, .slice a len cap] 56)).alloc (by simp) (.cells #[.int .i64 0, .int .i64 0, .string ByteArray.empty, .slice none 0 0] 56)))
  clear hl
  cases hok : okT t with
  | true =>
    rw [hok] at h8
    clear hok
    go_enter Tryz.func49, Tryz.ntmps49
    go_wp2_with fail
    refine (unhide h8 _ (unhide HL) hsz).mono ?_
    rintro e w2 ⟨rfl, hb2⟩
    have hk : Below w.heap.size w w2 := (((Below.refl w.heap.size w).alloc (Nat.le_refl _) _).alloc (by simp) _).trans (hb2.mono (by simp; omega))
    have HB := hide hk
    obtain ⟨c0, c1, c2, c3, d0, d1, d2, d3, e0, e1, e2, e3⟩ := two_boxes hb2
    clear hb2 hk
    go_wp2_with fail
    have hfin := set4_below (g := w.heap.size + 1) (x0 := .int .i64 op) (x1 := .int .i64 n) (x2 := .string s) (x3 := .slice a len cap) (unhide HB) (by omega)
    exact bodyPost_ret (v := .agg #[.int .i64 op, .int .i64 n, .string s, .slice a len cap]) (by simp [results, Tryz.results49, go_sem, d0, d1, d2, d3]) rfl ⟨_, _, _, _, _, _, rfl, (unhide HL0).below hfin, hfin, fun h => h⟩
  | false =>
    rw [hok] at h8
    clear hok
    go_enter Tryz.func49, Tryz.ntmps49
    go_wp2_with fail
    refine (unhide h8 _ (unhide HL) hsz).mono ?_
    rintro e w2 ⟨rfl, hb2⟩
    have hk : Below w.heap.size w w2 := (((Below.refl w.heap.size w).alloc (Nat.le_refl _) _).alloc (by simp) _).trans (hb2.mono (by simp; omega))
    have HB := hide hk
    obtain ⟨c0, c1, c2, c3, d0, d1, d2, d3, e0, e1, e2, e3⟩ := two_boxes hb2
    clear hb2 hk
    go_wp2_with fail
    exact bodyPost_ret (v := .agg #[.int .i64 0, .int .i64 0, .string ByteArray.empty, .slice none 0 0]) (by simp [results, Tryz.results49, go_sem, d0, d1, d2, d3]; rfl) rfl ⟨_, _, _, _, _, _, rfl, zero_lies _ _, set4_below (unhide HB) (by omega), fun _ => rfl⟩

set_option maxRecDepth 100000 in
set_option maxHeartbeats 1000000 in
/-- impl.checked of a right term: it, and no error. -/
theorem checked_yes (t : Tm) (op n : Int) (s : ByteArray) (a : Option Addr) (len cap : Nat) (w : World) (hl : Lies w 0 t (tmCells op n s a len cap)) (hsz : t.size ≤ 2097152) (hok : okT t = true) :
    Calls Tryz.prog 126 #[.agg #[.int .i64 op, .int .i64 n, .string s, .slice a len cap]] w fun e w' => e = .returned (.tuple #[.agg #[.int .i64 op, .int .i64 n, .string s, .slice a len cap], .nilIface]) ∧ Below w.heap.size w w' := by
  have h8 := hide (ok10 t op n s a len cap)
  have HL := hide (hl.below (((Below.refl w.heap.size w).alloc (Nat.le_refl _) (.cells #[.int .i64 op, .int .i64 n, .string s, .slice a len cap] 56)).alloc (by simp) (.cells #[.int .i64 0, .int .i64 0, .string ByteArray.empty, .slice none 0 0] 56)))
  clear hl
  rw [hok] at h8
  clear hok
  go_enter Tryz.func126, Tryz.ntmps126
  go_wp2_with fail
  refine (unhide h8 _ (unhide HL) hsz).mono ?_
  rintro e w2 ⟨rfl, hb2⟩
  have hk : Below w.heap.size w w2 := (((Below.refl w.heap.size w).alloc (Nat.le_refl _) _).alloc (by simp) _).trans (hb2.mono (by simp; omega))
  have HB := hide hk
  obtain ⟨c0, c1, c2, c3, d0, d1, d2, d3, e0, e1, e2, e3⟩ := two_boxes hb2
  clear hb2 hk
  go_wp2_with fail
  exact bodyPost_ret (v := .tuple #[.agg #[.int .i64 op, .int .i64 n, .string s, .slice a len cap], .nilIface]) (by simp [results, Tryz.results126, go_sem, d0, d1, d2, d3]) rfl ⟨rfl, set4_below (unhide HB) (by omega)⟩

set_option maxRecDepth 100000 in
set_option maxHeartbeats 1000000 in
/-- impl.checked of a term that is not right: the zero term, and the named error. -/
theorem checked_no (t : Tm) (op n : Int) (s : ByteArray) (a : Option Addr) (len cap : Nat) (x : Addr) (w : World) (hl : Lies w 0 t (tmCells op n s a len cap)) (hsz : t.size ≤ 2097152) (hok : okT t = false) (he : ErrAt x w) :
    Calls Tryz.prog 126 #[.agg #[.int .i64 op, .int .i64 n, .string s, .slice a len cap]] w fun e w' => e = .returned (.tuple #[.agg #[.int .i64 0, .int .i64 0, .string ByteArray.empty, .slice none 0 0], .iface 263 (.pointer (some x))]) ∧ Below w.heap.size w w' := by
  have h8 := hide (ok10 t op n s a len cap)
  have HL := hide (hl.below (((Below.refl w.heap.size w).alloc (Nat.le_refl _) (.cells #[.int .i64 op, .int .i64 n, .string s, .slice a len cap] 56)).alloc (by simp) (.cells #[.int .i64 0, .int .i64 0, .string ByteArray.empty, .slice none 0 0] 56)))
  have HE := hide he
  clear hl he
  rw [hok] at h8
  clear hok
  go_enter Tryz.func126, Tryz.ntmps126
  go_wp2_with fail
  refine (unhide h8 _ (unhide HL) hsz).mono ?_
  rintro e w2 ⟨rfl, hb2⟩
  have hk : Below w.heap.size w w2 := (((Below.refl w.heap.size w).alloc (Nat.le_refl _) _).alloc (by simp) _).trans (hb2.mono (by simp; omega))
  have HB := hide hk
  obtain ⟨c0, c1, c2, c3, d0, d1, d2, d3, e0, e1, e2, e3⟩ := two_boxes hb2
  have g0 := ((unhide HE).on hk).cell
  have hne : (w.heap.size + 1 = 0) = False := by simp
  have hne' : (0 = w.heap.size + 1) = False := by simp
  clear hb2 hk c0 c1 c2 c3
  go_wp2_with fail
  go_region
  all_goals go_wp2_with fail
  all_goals
    exact bodyPost_ret (v := .tuple #[.agg #[.int .i64 0, .int .i64 0, .string ByteArray.empty, .slice none 0 0], .iface 263 (.pointer (some x))]) (by simp [results, Tryz.results126, go_sem, d0, d1, d2, d3]; try rfl) rfl ⟨rfl, set4_below (unhide HB).drew (by omega)⟩

set_option maxRecDepth 100000 in
/-- A term in a block of its own, written anew. -/
theorem RowT.fill {ty : TypeId} {w : World} {g : Nat} {op0 n0 : Int} {s0 : ByteArray} {a0 : Option Addr} {l0 k0 : Nat} (h : RowT ty w g op0 n0 s0 a0 l0 k0) (op n : Int) (s : ByteArray) (a : Option Addr) (len cap : Nat) : RowT ty ((((w.setCell ⟨g, 0, none⟩ (.int .i64 op)).setCell ⟨g, 1, none⟩ (.int .i64 n)).setCell ⟨g, 2, none⟩ (.string s)).setCell ⟨g, 3, none⟩ (.slice a len cap)) g op n s a len cap := by
  unfold RowT at *
  have r : ∀ {w : World} {b o : Nat} {C : Array Value} {t : TypeId} {fr : Nat × Nat} (v : Value), w.heap[b]? = some (.cells C t fr) → (w.setCell ⟨b, o, none⟩ v).heap[b]? = some (.cells (C.setIfInBounds o v) t fr) := fun v h => by
    simp only [World.setCell, Array.getElem?_modify]
    simp [h]
  exact r (o := 3) (.slice a len cap) (r (o := 2) (.string s) (r (o := 1) (.int .i64 n) (r (o := 0) (.int .i64 op) h)))
set_option maxRecDepth 100000 in
theorem RowT.frozen {ty : TypeId} {w : World} {b : Nat} {op n : Int} {s : ByteArray} {a : Option Addr} {len cap : Nat} (h : RowT ty w b op n s a len cap) : w.frozen? ⟨b, 0, none⟩ = false ∧ w.frozen? ⟨b, 1, none⟩ = false ∧ w.frozen? ⟨b, 2, none⟩ = false ∧ w.frozen? ⟨b, 3, none⟩ = false := ⟨frozen_of_row h, frozen_of_row h, frozen_of_row h, frozen_of_row h⟩

set_option maxRecDepth 100000 in
set_option maxHeartbeats 1000000 in
theorem new_any (t : Tm) (op n : Int) (s : ByteArray) (a : Option Addr) (len cap : Nat) (w : World) (hl : Lies w 0 t (tmCells op n s a len cap)) (hsz : t.size ≤ 2097152) (herr : Err w) :
    Calls Tryz.prog 102 #[.agg #[.int .i64 op, .int .i64 n, .string s, .slice a len cap]] w fun e w' => ∃ op' n' s' a' len' cap' fp, e = .returned (.agg #[.int .i64 op', .int .i64 n', .string s', .slice a' len' cap']) ∧ Own w' (pickT (okT t) t) (tmCells op' n' s' a' len' cap') fp ∧ (fp.Nodup ∧ ∀ x ∈ fp, w.heap.size ≤ x) ∧ Below w.heap.size w w' := by
  obtain ⟨x, he⟩ := herr
  have hB0 : Below w.heap.size w ((w.alloc (.cells #[.int .i64 op, .int .i64 n, .string s, .slice a len cap] 56)).alloc (.cells #[.int .i64 0, .int .i64 0, .string ⟨#[]⟩, .slice none 0 0] 56)) := ((Below.refl w.heap.size w).alloc (Nat.le_refl _) _).alloc (by simp) _
  have HL := hide (hl.below hB0)
  have HB0 := hide hB0
  have HE := hide (he.on hB0)
  have HG : Hid (w.heap.size + 2 = ((w.alloc (.cells #[.int .i64 op, .int .i64 n, .string s, .slice a len cap] 56)).alloc (.cells #[.int .i64 0, .int .i64 0, .string ⟨#[]⟩, .slice none 0 0] 56)).heap.size) := by show _ = _; simp
  obtain ⟨c0, c1, c2, c3, d0, d1, d2, d3, e0, e1, e2, e3⟩ := two_boxes_at w op n s a len cap
  have HR : Hid (RowT 56 ((w.alloc (.cells #[.int .i64 op, .int .i64 n, .string s, .slice a len cap] 56)).alloc (.cells #[.int .i64 0, .int .i64 0, .string ⟨#[]⟩, .slice none 0 0] 56)) (w.heap.size + 1) 0 0 ⟨#[]⟩ none 0 0) := by
    have := RowT.new 56 (w.alloc (.cells #[.int .i64 op, .int .i64 n, .string s, .slice a len cap] 56)) 0 0 ⟨#[]⟩ none 0 0
    rwa [heap_size_alloc] at this
  clear hl he hB0 d0 d1 d2 d3 e0 e1 e2 e3
  cases hok : okT t with
  | true =>
    have h39 := hide fun v h => checked_yes t op n s a len cap v h hsz hok
    have h38 := hide fun v h he => answer_yes t op n s a len cap x v h (by have := okT_small hok; omega) he
    clear hok
    go_enter Tryz.func102, Tryz.ntmps102
    go_wp2_with fail
    generalize (w.alloc (.cells #[.int .i64 op, .int .i64 n, .string s, .slice a len cap] 56)).alloc (.cells #[.int .i64 0, .int .i64 0, .string ⟨#[]⟩, .slice none 0 0] 56) = v at *
    refine (unhide h39 _ (unhide HL)).mono ?_
    rintro e w2 ⟨rfl, hb2⟩
    have HB2 := hide ((unhide HB0).trans (hb2.mono (unhide HB0).size))
    have HL2 := hide ((unhide HL).below hb2)
    have HE2 := hide ((unhide HE).on hb2)
    have HG2 : Hid (w.heap.size + 2 ≤ w2.heap.size) := by have := hb2.size; have := unhide HG; show _ ≤ _; omega
    have HR2 := hide ((unhide HR).below hb2)
    clear hb2 HR HB0 HL HE HG c0 c1 c2 c3
    go_wp2_with fail
    refine (unhide h38 _ (unhide HL2) (unhide HE2)).mono ?_
    rintro e w3 ⟨a3, cap3, fp, rfl, hO3, ⟨hnd3, hge3⟩, hb3⟩
    have HB3 := hide ((unhide HB2).trans (hb3.mono (unhide HB2).size))
    have HG3 : Hid (w.heap.size + 2 ≤ w3.heap.size) := by have := hb3.size; have := unhide HG2; show _ ≤ _; omega
    have HR3 := hide ((unhide HR2).below hb3)
    obtain ⟨d0, d1, d2, d3⟩ := (unhide HR3).facts
    obtain ⟨e0, e1, e2, e3⟩ := (unhide HR3).frozen
    have hlt : w.heap.size + 1 < w3.heap.size := by have := unhide HG3; omega
    have hne := Nat.ne_of_lt hlt
    have hne' := Ne.symm hne
    have HO := hide hO3
    have HN := hide hnd3
    have HE3 := hide hge3
    clear hb3 HR2 hO3 hnd3 hge3 HB2 HL2 HE2
    go_wp2_with fail
    have HF := hide (((unhide HR3).fill op n s a3 len cap3).below ((Below.refl _ _).alloc (Nat.le_refl _) (.cells #[.int .i64 op, .int .i64 n, .string s, .slice a3 len cap3] 56)))
    obtain ⟨f0, f1, f2, f3⟩ := (unhide HF).facts
    have HK := hide (Own.keep _ _ _ (unhide HO) fun b hb => set4_heap w3 (w.heap.size + 1) (.int .i64 op) (.int .i64 n) (.string s) (.slice a3 len cap3) b (by have := unhide HE3 b hb; have := unhide HG2; omega))
    have hS := set4_below (g := w.heap.size + 1) (x0 := .int .i64 op) (x1 := .int .i64 n) (x2 := .string s) (x3 := .slice a3 len cap3) (unhide HB3) (by omega)
    exact bodyPost_ret (v := .agg #[.int .i64 op, .int .i64 n, .string s, .slice a3 len cap3]) (by simp [results, Tryz.results102, go_sem, f0, f1, f2, f3]) rfl ⟨op, n, s, a3, len, cap3, fp, rfl, (unhide HK).below ((Below.refl _ _).alloc (Nat.le_refl _) _), ⟨unhide HN, fun x hx => by have := unhide HE3 x hx; have := unhide HG2; omega⟩, hS.alloc hS.size _⟩
  | false =>
    have h39 := hide fun v h he => checked_no t op n s a len cap x v h hsz hok he
    have h38 := hide fun v he => answer_no 0 0 ByteArray.empty none 0 0 x v he
    clear hok
    go_enter Tryz.func102, Tryz.ntmps102
    go_wp2_with fail
    generalize (w.alloc (.cells #[.int .i64 op, .int .i64 n, .string s, .slice a len cap] 56)).alloc (.cells #[.int .i64 0, .int .i64 0, .string ⟨#[]⟩, .slice none 0 0] 56) = v at *
    refine (unhide h39 _ (unhide HL) (unhide HE)).mono ?_
    rintro e w2 ⟨rfl, hb2⟩
    have HB2 := hide ((unhide HB0).trans (hb2.mono (unhide HB0).size))
    have HE2 := hide ((unhide HE).on hb2)
    have HG2 : Hid (w.heap.size + 2 ≤ w2.heap.size) := by have := hb2.size; have := unhide HG; show _ ≤ _; omega
    have HR2 := hide ((unhide HR).below hb2)
    clear hb2 HR HB0 HL HE HG c0 c1 c2 c3
    go_wp2_with fail
    refine (unhide h38 _ (unhide HE2)).mono ?_
    rintro e w3 ⟨rfl, hb3⟩
    have HB3 := hide ((unhide HB2).trans (hb3.mono (unhide HB2).size))
    have HG3 : Hid (w.heap.size + 2 ≤ w3.heap.size) := by have := hb3.size; have := unhide HG2; show _ ≤ _; omega
    have HR3 := hide ((unhide HR2).below hb3)
    obtain ⟨d0, d1, d2, d3⟩ := (unhide HR3).facts
    obtain ⟨e0, e1, e2, e3⟩ := (unhide HR3).frozen
    have hlt : w.heap.size + 1 < w3.heap.size := by have := unhide HG3; omega
    have hne := Nat.ne_of_lt hlt
    have hne' := Ne.symm hne
    clear hb3 HR2 HB2 HE2
    go_wp2_with fail
    have HF := hide (((unhide HR3).fill 0 0 ByteArray.empty none 0 0).below ((Below.refl _ _).alloc (Nat.le_refl _) (.cells #[.int .i64 0, .int .i64 0, .string ByteArray.empty, .slice none 0 0] 56)))
    obtain ⟨f0, f1, f2, f3⟩ := (unhide HF).facts
    have hS := set4_below (g := w.heap.size + 1) (x0 := .int .i64 0) (x1 := .int .i64 0) (x2 := .string ByteArray.empty) (x3 := .slice none 0 0) (unhide HB3) (by omega)
    exact bodyPost_ret (v := .agg #[.int .i64 0, .int .i64 0, .string ByteArray.empty, .slice none 0 0]) (by simp [results, Tryz.results102, go_sem, f0, f1, f2, f3]; try rfl) rfl ⟨_, _, _, _, _, _, [], rfl, zero_own _, ⟨by simp, by simp⟩, hS.alloc hS.size _⟩

/-- What is made of a term under an operator. -/
def madeT (op : Int) (ks : List Tm) : Tm := pickT (okT (.node op 0 ByteArray.empty ks)) (.node op 0 ByteArray.empty ks)

set_option maxRecDepth 100000 in
/-- A term of one kid that was laid in a block of its own. -/
theorem lies_one {w : World} {t : Tm} {cs : List Value} {L : Nat} (h : Lies w L t cs) (hL : L ≤ w.heap.size) (op : Int) (hop : (Lit.int .i64 op).wf = true) : Lies (w.alloc (.cells cs.toArray 56)) L (.node op 0 ByteArray.empty [t]) (tmCells op 0 ByteArray.empty (some ⟨w.heap.size, 0, none⟩) 1 1) := by
  simp only [Lies, LiesAll]
  refine ⟨_, _, rfl, ⟨by simp [maxLen], by simp, by simp [maxLen]⟩, ⟨hop, by decide⟩, ⟨w.heap.size, 0, cs, rfl, hL, fun j v hj => ?_, h.below ((Below.refl _ _).alloc (Nat.le_refl _) _)⟩, trivial⟩
  have := box_at w cs j v hj
  simpa using this

/-- The box of a result, still as it was made. -/
def ZBox (w : World) (g : Nat) : Prop := w.heap[g]? = some (.cells #[.int .i64 0, .int .i64 0, .string ByteArray.empty, .slice none 0 0] 56 (0, 0))
set_option maxRecDepth 100000 in
theorem ZBox.new (w : World) : ZBox (w.alloc (.cells #[.int .i64 0, .int .i64 0, .string ByteArray.empty, .slice none 0 0] 56)) w.heap.size := heap_alloc_new w _
set_option maxRecDepth 100000 in
theorem ZBox.below {w w' : World} {g : Nat} (h : ZBox w g) (hb : Below w.heap.size w w') : ZBox w' g := (hb.block g (lt_of_heap h)).trans h
set_option maxRecDepth 100000 in
theorem ZBox.facts {w : World} {g : Nat} (h : ZBox w g) : w.cell? ⟨g, 0, none⟩ = some (.int .i64 0) ∧ w.cell? ⟨g, 1, none⟩ = some (.int .i64 0) ∧ w.cell? ⟨g, 2, none⟩ = some (.string ByteArray.empty) ∧ w.cell? ⟨g, 3, none⟩ = some (.slice none 0 0) ∧
    w.frozen? ⟨g, 0, none⟩ = false ∧ w.frozen? ⟨g, 1, none⟩ = false ∧ w.frozen? ⟨g, 2, none⟩ = false ∧ w.frozen? ⟨g, 3, none⟩ = false :=
  ⟨cell_of_row h (by simp), cell_of_row h (by simp), cell_of_row h (by simp), cell_of_row h (by simp), frozen_of_row h, frozen_of_row h, frozen_of_row h, frozen_of_row h⟩
set_option maxRecDepth 100000 in
theorem set4_lies {w : World} {L g : Nat} {x0 x1 x2 x3 : Value} {t : Tm} {cs : List Value} (h : Lies w L t cs) (hg : g < L) (L' : Nat) (hL : L' ≤ L) : Lies ((((w.setCell ⟨g, 0, none⟩ x0).setCell ⟨g, 1, none⟩ x1).setCell ⟨g, 2, none⟩ x2).setCell ⟨g, 3, none⟩ x3) L' t cs :=
  Lies.carry hL (fun b _ hb _ => World.cell?_of_block (set4_heap w g x0 x1 x2 x3 b (by omega))) t cs h
set_option maxRecDepth 100000 in
theorem ab {w : World} (x : Obj) : Below w.heap.size w (w.alloc x) := (Below.refl _ _).alloc (Nat.le_refl _) _
set_option maxRecDepth 100000 in
theorem bt {B : Nat} {w v v' : World} (h : Below B w v) (hb : Below v.heap.size v v') (hB : B ≤ w.heap.size) : Below B w v' := h.trans (hb.mono (Nat.le_trans hB h.size))

set_option maxRecDepth 100000 in
set_option maxHeartbeats 1000000 in
theorem pubI (t : Tm) (op n : Int) (s : ByteArray) (a : Option Addr) (len cap : Nat) (w : World) (hl : Lies w 0 t (tmCells op n s a len cap)) (hsz : t.size ≤ 2097151) (herr : Err w) :
    Calls Tryz.prog 143 #[.agg #[.int .i64 op, .int .i64 n, .string s, .slice a len cap]] w fun e w' => ∃ op' n' s' a' len' cap' fp, e = .returned (.agg #[.int .i64 op', .int .i64 n', .string s', .slice a' len' cap']) ∧ Own w' (madeT 4 [t]) (tmCells op' n' s' a' len' cap') fp ∧ (fp.Nodup ∧ ∀ x ∈ fp, w.heap.size ≤ x) ∧ Below w.heap.size w w' := by
  have HER := hide herr
  clear herr
  have h18 := hide (new_any (.node 4 0 ByteArray.empty [t]))
  have HZ : Hid ((Tm.node 4 0 ByteArray.empty [t]).size ≤ 2097152) := by show _ ≤ _; simp only [Tm.size, Tm.sizes]; omega
  have hB0 : Below w.heap.size w ((w.alloc (.cells #[.int .i64 op, .int .i64 n, .string s, .slice a len cap] 56)).alloc (.cells #[.int .i64 0, .int .i64 0, .string ByteArray.empty, .slice none 0 0] 56)) := bt (ab _) (ab _) (Nat.le_refl _)
  have hX : ZBox ((w.alloc (.cells #[.int .i64 op, .int .i64 n, .string s, .slice a len cap] 56)).alloc (.cells #[.int .i64 0, .int .i64 0, .string ByteArray.empty, .slice none 0 0] 56)) (w.heap.size + 1) := by
    have := ZBox.new (w.alloc (.cells #[.int .i64 op, .int .i64 n, .string s, .slice a len cap] 56))
    rwa [heap_size_alloc] at this
  have HB3 := hide (bt hB0 (ab (.cells #[.int .i64 op, .int .i64 n, .string s, .slice a len cap] 56)) (Nat.le_refl _))
  have HX3 := hide (hX.below (ab (.cells #[.int .i64 op, .int .i64 n, .string s, .slice a len cap] 56)))
  have HT3 := hide (lies_one (hl.below hB0) (Nat.zero_le _) 4 (by decide))
  simp only [heap_size_alloc] at HT3
  clear hl hB0 hX
  go_enter Tryz.func143, Tryz.ntmps143
  go_wp2_with fail
  refine (unhide h18 _ _ _ _ _ _ _ (unhide HT3) (unhide HZ) ((unhide HER).on (unhide HB3))).mono ?_
  rintro e w4 ⟨op', n', s', a', len', cap', fp, rfl, hO4, ⟨hnd, hge⟩, hb4⟩
  have HB4 := hide (bt (unhide HB3) hb4 (Nat.le_refl _))
  have hX4 := (unhide HX3).below hb4
  have HO4 := hide hO4
  have HND := hide hnd
  simp only [heap_size_alloc] at hge
  have HGE := hide hge
  obtain ⟨d0, d1, d2, d3, e0, e1, e2, e3⟩ := hX4.facts
  clear hb4 hO4 hX4 HB3 HX3 HT3 hnd hge
  go_wp2_with fail
  exact bodyPost_ret (v := .agg #[.int .i64 op', .int .i64 n', .string s', .slice a' len' cap']) (by simp [results, Tryz.results143, go_sem, d0, d1, d2, d3]) rfl ⟨op', n', s', a', len', cap', fp, rfl, Own.keep _ _ _ (unhide HO4) (fun b hb => set4_heap _ _ _ _ _ _ b (by have := unhide HGE b hb; omega)), ⟨unhide HND, fun x hx => by have := unhide HGE x hx; omega⟩, set4_below (unhide HB4) (by omega)⟩

set_option maxRecDepth 100000 in
/-- A term of two kids that were laid in a block of their own. -/
theorem lies_two {w : World} {t u : Tm} {op1 n1 op2 n2 : Int} {s1 s2 : ByteArray} {a1 a2 : Option Addr} {l1 c1 l2 c2 : Nat} {L : Nat} (h1 : Lies w L t (tmCells op1 n1 s1 a1 l1 c1)) (h2 : Lies w L u (tmCells op2 n2 s2 a2 l2 c2)) (hL : L ≤ w.heap.size) (op : Int) (hop : (Lit.int .i64 op).wf = true) :
    Lies (w.alloc (.cells #[.int .i64 op1, .int .i64 n1, .string s1, .slice a1 l1 c1, .int .i64 op2, .int .i64 n2, .string s2, .slice a2 l2 c2] 56)) L (.node op 0 ByteArray.empty [t, u]) (tmCells op 0 ByteArray.empty (some ⟨w.heap.size, 0, none⟩) 2 2) := by
  simp only [Lies, LiesAll]
  refine ⟨_, _, rfl, ⟨by simp [maxLen], by simp, by simp [maxLen]⟩, ⟨hop, by decide⟩, ⟨w.heap.size, 0, _, rfl, hL, fun j v hj => ?_, h1.below (ab _)⟩, ⟨w.heap.size, 0, _, rfl, hL, fun j v hj => ?_, h2.below (ab _)⟩, trivial⟩
  · rw [Nat.zero_mul, Nat.zero_add]
    refine box_cell w _ 56 j v ?_
    match j, hj with
    | 0, hj => simpa [tmCells] using hj
    | 1, hj => simpa [tmCells] using hj
    | 2, hj => simpa [tmCells] using hj
    | 3, hj => simpa [tmCells] using hj
    | j + 4, hj => simp [tmCells] at hj
  · rw [show 0 + (0 + 1) * 4 + j = 4 + j by omega]
    refine box_cell w _ 56 (4 + j) v ?_
    match j, hj with
    | 0, hj => simpa [tmCells] using hj
    | 1, hj => simpa [tmCells] using hj
    | 2, hj => simpa [tmCells] using hj
    | 3, hj => simpa [tmCells] using hj
    | j + 4, hj => simp [tmCells] at hj

set_option maxRecDepth 100000 in
theorem gw_world {P : Program} {c : Code} {Q : Exit → Act → World → Prop} {a : Act} {v w : World} (h : v = w) (hk : Code.wp P c Q a w) : Code.wp P c Q a v := h ▸ hk

theorem copy_leaf (op n : Int) (s : ByteArray) (a : Option Addr) (cap : Nat) (w : World) (hl : Lies w 0 (.node op n s []) (tmCells op n s a 0 cap)) (hs : s.size ≤ 4194303) :
    Calls Tryz.prog 145 #[.agg #[.int .i64 op, .int .i64 n, .string s, .slice a 0 cap]] w fun e w' => e = .returned (.agg #[.int .i64 op, .int .i64 n, .string s, .slice none 0 0]) ∧ Below w.heap.size w w' := by
  refine (cy_all (.node op n s []) op n s a 0 cap w hl (by simp only [Tm.size, Tm.wt, Tm.sizes, Tm.wts, List.length_nil]; omega)).mono ?_
  rintro e w' ⟨a', cap', fp, rfl, _, _, hn, hb⟩
  obtain ⟨rfl, rfl⟩ := hn rfl
  exact ⟨rfl, hb⟩

set_option maxRecDepth 100000 in
set_option maxHeartbeats 1000000 in
theorem l3ok_yes (op n : Int) (s : ByteArray) (w : World) (hl : ∀ v, Lies v 0 (.node op n s []) (tmCells op n s none 0 0)) (hok : okT (.node op n s []) = true) :
    Calls Tryz.prog 49 #[.agg #[.int .i64 op, .int .i64 n, .string s, .slice none 0 0]] w fun e w' => e = .returned (.agg #[.int .i64 op, .int .i64 n, .string s, .slice none 0 0]) ∧ Below w.heap.size w w' := by
  have h8 := hide (ok8 (.node op n s []) op n s none 0 0)
  have HL := hide hl
  have HZ : Hid ((Tm.node op n s []).size ≤ 2097152) := by show _ ≤ _; simp [Tm.size, Tm.sizes]
  rw [hok] at h8
  clear hl hok
  go_enter Tryz.func49, Tryz.ntmps49
  go_wp2_with fail
  refine (unhide h8 _ (unhide HL _) (unhide HZ)).mono ?_
  rintro e w2 ⟨rfl, hb2⟩
  have hk : Below w.heap.size w w2 := (((Below.refl w.heap.size w).alloc (Nat.le_refl _) _).alloc (by simp) _).trans (hb2.mono (by simp; omega))
  have HB := hide hk
  obtain ⟨c0, c1, c2, c3, d0, d1, d2, d3, e0, e1, e2, e3⟩ := two_boxes hb2
  clear hb2 hk
  go_wp2_with fail
  refine bodyPost_ret (v := .agg #[.int .i64 op, .int .i64 n, .string s, .slice none 0 0]) (by simp [results, Tryz.results49, go_sem, d0, d1, d2, d3]) rfl ⟨rfl, ?_⟩
  exact ((((unhide HB).setCell (by show w.heap.size ≤ w.heap.size + 1; omega) _).setCell (by show w.heap.size ≤ w.heap.size + 1; omega) _).setCell (by show w.heap.size ≤ w.heap.size + 1; omega) _).setCell (by show w.heap.size ≤ w.heap.size + 1; omega) _

set_option maxRecDepth 100000 in
set_option maxHeartbeats 1000000 in
theorem l3ok_no (op n : Int) (s : ByteArray) (w : World) (hl : ∀ v, Lies v 0 (.node op n s []) (tmCells op n s none 0 0)) (hok : okT (.node op n s []) = false) :
    Calls Tryz.prog 49 #[.agg #[.int .i64 op, .int .i64 n, .string s, .slice none 0 0]] w fun e w' => e = .returned (.agg #[.int .i64 0, .int .i64 0, .string ByteArray.empty, .slice none 0 0]) ∧ Below w.heap.size w w' := by
  have h8 := hide (ok8 (.node op n s []) op n s none 0 0)
  have HL := hide hl
  have HZ : Hid ((Tm.node op n s []).size ≤ 2097152) := by show _ ≤ _; simp [Tm.size, Tm.sizes]
  rw [hok] at h8
  clear hl hok
  go_enter Tryz.func49, Tryz.ntmps49
  go_wp2_with fail
  refine (unhide h8 _ (unhide HL _) (unhide HZ)).mono ?_
  rintro e w2 ⟨rfl, hb2⟩
  have hk : Below w.heap.size w w2 := (((Below.refl w.heap.size w).alloc (Nat.le_refl _) _).alloc (by simp) _).trans (hb2.mono (by simp; omega))
  have HB := hide hk
  obtain ⟨c0, c1, c2, c3, d0, d1, d2, d3, e0, e1, e2, e3⟩ := two_boxes hb2
  clear hb2 hk
  go_wp2_with fail
  refine bodyPost_ret (v := .agg #[.int .i64 0, .int .i64 0, .string ByteArray.empty, .slice none 0 0]) (by simp [results, Tryz.results49, go_sem, d0, d1, d2, d3]; rfl) rfl ⟨rfl, ?_⟩
  exact ((((unhide HB).setCell (by show w.heap.size ≤ w.heap.size + 1; omega) _).setCell (by show w.heap.size ≤ w.heap.size + 1; omega) _).setCell (by show w.heap.size ≤ w.heap.size + 1; omega) _).setCell (by show w.heap.size ≤ w.heap.size + 1; omega) _

set_option maxRecDepth 100000 in
set_option maxHeartbeats 1000000 in
/-- impl.answer of a term with no kids, where there is no error: the same, and true. -/
theorem answer_leaf (op n : Int) (s : ByteArray) (x : Addr) (w : World) (he : ErrAt x w) (hll : ∀ v, Lies v 0 (.node op n s []) (tmCells op n s none 0 0)) (hsz0 : s.size ≤ 4194303) :
    Calls Tryz.prog 125 #[.agg #[.int .i64 op, .int .i64 n, .string s, .slice none 0 0], .nilIface] w fun e w' => e = .returned (.tuple #[.agg #[.int .i64 op, .int .i64 n, .string s, .slice none 0 0], .bool true]) ∧ Below w.heap.size w w' := by
  have h45 := hide (is_nil x)
  have HLL := hide hll
  clear hll
  have hB0 : Below w.heap.size w ((w.alloc (.cells #[.int .i64 op, .int .i64 n, .string s, .slice none 0 0] 56)).alloc (.cells #[.int .i64 0, .int .i64 0, .string ⟨#[]⟩, .slice none 0 0] 56)) := ((Below.refl w.heap.size w).alloc (Nat.le_refl _) _).alloc (by simp) _
  have HB := hide hB0
  have g0 := (he.on hB0).cell
  clear he hB0
  obtain ⟨c0, c1, c2, c3, d0, d1, d2, d3, e0, e1, e2, e3⟩ := two_boxes_at w op n s none 0 0
  have HG : Hid (w.heap.size + 2 = ((w.alloc (.cells #[.int .i64 op, .int .i64 n, .string s, .slice none 0 0] 56)).alloc (.cells #[.int .i64 0, .int .i64 0, .string ⟨#[]⟩, .slice none 0 0] 56)).heap.size) := by show _ = _; simp
  go_enter Tryz.func125, Tryz.ntmps125
  go_wp2_with fail
  refine (unhide h45 _).mono ?_
  rintro e w2 ⟨rfl, rfl⟩
  generalize (w.alloc (.cells #[.int .i64 op, .int .i64 n, .string s, .slice none 0 0] 56)).alloc (.cells #[.int .i64 0, .int .i64 0, .string ⟨#[]⟩, .slice none 0 0] 56) = v at *
  go_wp2_with fail
  refine (copy_leaf op n s none 0 _ (unhide HLL _) hsz0).mono ?_
  rintro e w3 ⟨rfl, hb3⟩
  have d0' := d0
  have d0 := keepc hb3 d0
  have d1 := keepc hb3 d1
  have d2 := keepc hb3 d2
  have d3 := keepc hb3 d3
  have e0 := keepf hb3 (lt_of_cell d0') e0
  have e1 := keepf hb3 (lt_of_cell d0') e1
  have e2 := keepf hb3 (lt_of_cell d0') e2
  have e3 := keepf hb3 (lt_of_cell d0') e3
  have HB3 := hide ((unhide HB).trans (hb3.mono (unhide HB).size))
  clear hb3 d0' c0 c1 c2 c3 g0
  go_wp2_with fail
  exact bodyPost_ret (v := .tuple #[.agg #[.int .i64 op, .int .i64 n, .string s, .slice none 0 0], .bool true]) (by simp [results, Tryz.results125, go_sem, d0, d1, d2, d3]) rfl ⟨rfl, set4_below (unhide HB3) (by omega)⟩

set_option maxRecDepth 100000 in
set_option maxHeartbeats 1000000 in
theorem new_yes (op n : Int) (s : ByteArray) (w : World) (hl : ∀ v, Lies v 0 (.node op n s []) (tmCells op n s none 0 0)) (hok : okT (.node op n s []) = true) (herr : Err w) :
    Calls Tryz.prog 102 #[.agg #[.int .i64 op, .int .i64 n, .string s, .slice none 0 0]] w fun e w' => e = .returned (.agg #[.int .i64 op, .int .i64 n, .string s, .slice none 0 0]) ∧ Below w.heap.size w w' := by
  have hsz : (Tm.node op n s []).size ≤ 2097152 := by simp [Tm.size, Tm.sizes]
  obtain ⟨x, he⟩ := herr
  have hB0 : Below w.heap.size w ((w.alloc (.cells #[.int .i64 op, .int .i64 n, .string s, .slice none 0 0] 56)).alloc (.cells #[.int .i64 0, .int .i64 0, .string ⟨#[]⟩, .slice none 0 0] 56)) := ((Below.refl w.heap.size w).alloc (Nat.le_refl _) _).alloc (by simp) _
  have HL := hide (hl ((w.alloc (.cells #[.int .i64 op, .int .i64 n, .string s, .slice none 0 0] 56)).alloc (.cells #[.int .i64 0, .int .i64 0, .string ⟨#[]⟩, .slice none 0 0] 56)))
  have HB0 := hide hB0
  have HE := hide (he.on hB0)
  have HG : Hid (w.heap.size + 2 = ((w.alloc (.cells #[.int .i64 op, .int .i64 n, .string s, .slice none 0 0] 56)).alloc (.cells #[.int .i64 0, .int .i64 0, .string ⟨#[]⟩, .slice none 0 0] 56)).heap.size) := by show _ = _; simp
  obtain ⟨c0, c1, c2, c3, d0, d1, d2, d3, e0, e1, e2, e3⟩ := two_boxes_at w op n s none 0 0
  have HR : Hid (RowT 56 ((w.alloc (.cells #[.int .i64 op, .int .i64 n, .string s, .slice none 0 0] 56)).alloc (.cells #[.int .i64 0, .int .i64 0, .string ⟨#[]⟩, .slice none 0 0] 56)) (w.heap.size + 1) 0 0 ⟨#[]⟩ none 0 0) := by
    have := RowT.new 56 (w.alloc (.cells #[.int .i64 op, .int .i64 n, .string s, .slice none 0 0] 56)) 0 0 ⟨#[]⟩ none 0 0
    rwa [heap_size_alloc] at this
  have HLL := hide hl
  clear hl he hB0 d0 d1 d2 d3 e0 e1 e2 e3
  have h39 := hide fun v h => checked_yes (.node op n s []) op n s none 0 0 v h hsz hok
  have h38 := hide fun v he => answer_leaf op n s x v he (unhide HLL) (by have := okT_small hok; simp only [Tm.size, Tm.wt] at this; omega)
  clear hok
  go_enter Tryz.func102, Tryz.ntmps102
  go_wp2_with fail
  generalize (w.alloc (.cells #[.int .i64 op, .int .i64 n, .string s, .slice none 0 0] 56)).alloc (.cells #[.int .i64 0, .int .i64 0, .string ⟨#[]⟩, .slice none 0 0] 56) = v at *
  refine (unhide h39 _ (unhide HL)).mono ?_
  rintro e w2 ⟨rfl, hb2⟩
  have HB2 := hide ((unhide HB0).trans (hb2.mono (unhide HB0).size))
  have HL2 := hide ((unhide HL).below hb2)
  have HE2 := hide ((unhide HE).on hb2)
  have HG2 : Hid (w.heap.size + 2 ≤ w2.heap.size) := by have := hb2.size; have := unhide HG; show _ ≤ _; omega
  have HR2 := hide ((unhide HR).below hb2)
  clear hb2 HR HB0 HL HE HG c0 c1 c2 c3
  go_wp2_with fail
  refine (unhide h38 _ (unhide HE2)).mono ?_
  rintro e w3 ⟨rfl, hb3⟩
  have HB3 := hide ((unhide HB2).trans (hb3.mono (unhide HB2).size))
  have HG3 : Hid (w.heap.size + 2 ≤ w3.heap.size) := by have := hb3.size; have := unhide HG2; show _ ≤ _; omega
  have HR3 := hide ((unhide HR2).below hb3)
  obtain ⟨d0, d1, d2, d3⟩ := (unhide HR3).facts
  obtain ⟨e0, e1, e2, e3⟩ := (unhide HR3).frozen
  have hlt : w.heap.size + 1 < w3.heap.size := by have := unhide HG3; omega
  have hne := Nat.ne_of_lt hlt
  have hne' := Ne.symm hne
  clear hb3 HR2 HB2 HL2 HE2
  go_wp2_with fail
  have HF := hide (((unhide HR3).fill op n s none 0 0).below ((Below.refl _ _).alloc (Nat.le_refl _) (.cells #[.int .i64 op, .int .i64 n, .string s, .slice none 0 0] 56)))
  obtain ⟨f0, f1, f2, f3⟩ := (unhide HF).facts
  have hS := set4_below (g := w.heap.size + 1) (x0 := .int .i64 op) (x1 := .int .i64 n) (x2 := .string s) (x3 := .slice none 0 0) (unhide HB3) (by omega)
  exact bodyPost_ret (v := .agg #[.int .i64 op, .int .i64 n, .string s, .slice none 0 0]) (by simp [results, Tryz.results102, go_sem, f0, f1, f2, f3]) rfl ⟨rfl, hS.alloc hS.size _⟩

set_option maxRecDepth 100000 in
set_option maxHeartbeats 1000000 in
theorem new_no (op n : Int) (s : ByteArray) (w : World) (hl : ∀ v, Lies v 0 (.node op n s []) (tmCells op n s none 0 0)) (hok : okT (.node op n s []) = false) (herr : Err w) :
    Calls Tryz.prog 102 #[.agg #[.int .i64 op, .int .i64 n, .string s, .slice none 0 0]] w fun e w' => e = .returned (.agg #[.int .i64 0, .int .i64 0, .string ByteArray.empty, .slice none 0 0]) ∧ Below w.heap.size w w' := by
  have hsz : (Tm.node op n s []).size ≤ 2097152 := by simp [Tm.size, Tm.sizes]
  obtain ⟨x, he⟩ := herr
  have hB0 : Below w.heap.size w ((w.alloc (.cells #[.int .i64 op, .int .i64 n, .string s, .slice none 0 0] 56)).alloc (.cells #[.int .i64 0, .int .i64 0, .string ⟨#[]⟩, .slice none 0 0] 56)) := ((Below.refl w.heap.size w).alloc (Nat.le_refl _) _).alloc (by simp) _
  have HL := hide (hl ((w.alloc (.cells #[.int .i64 op, .int .i64 n, .string s, .slice none 0 0] 56)).alloc (.cells #[.int .i64 0, .int .i64 0, .string ⟨#[]⟩, .slice none 0 0] 56)))
  have HB0 := hide hB0
  have HE := hide (he.on hB0)
  have HG : Hid (w.heap.size + 2 = ((w.alloc (.cells #[.int .i64 op, .int .i64 n, .string s, .slice none 0 0] 56)).alloc (.cells #[.int .i64 0, .int .i64 0, .string ⟨#[]⟩, .slice none 0 0] 56)).heap.size) := by show _ = _; simp
  obtain ⟨c0, c1, c2, c3, d0, d1, d2, d3, e0, e1, e2, e3⟩ := two_boxes_at w op n s none 0 0
  have HR : Hid (RowT 56 ((w.alloc (.cells #[.int .i64 op, .int .i64 n, .string s, .slice none 0 0] 56)).alloc (.cells #[.int .i64 0, .int .i64 0, .string ⟨#[]⟩, .slice none 0 0] 56)) (w.heap.size + 1) 0 0 ⟨#[]⟩ none 0 0) := by
    have := RowT.new 56 (w.alloc (.cells #[.int .i64 op, .int .i64 n, .string s, .slice none 0 0] 56)) 0 0 ⟨#[]⟩ none 0 0
    rwa [heap_size_alloc] at this
  clear hl he hB0 d0 d1 d2 d3 e0 e1 e2 e3
  have h39 := hide fun v h he => checked_no (.node op n s []) op n s none 0 0 x v h hsz hok he
  have h38 := hide fun v he => answer_no 0 0 ByteArray.empty none 0 0 x v he
  clear hok
  go_enter Tryz.func102, Tryz.ntmps102
  go_wp2_with fail
  generalize (w.alloc (.cells #[.int .i64 op, .int .i64 n, .string s, .slice none 0 0] 56)).alloc (.cells #[.int .i64 0, .int .i64 0, .string ⟨#[]⟩, .slice none 0 0] 56) = v at *
  refine (unhide h39 _ (unhide HL) (unhide HE)).mono ?_
  rintro e w2 ⟨rfl, hb2⟩
  have HB2 := hide ((unhide HB0).trans (hb2.mono (unhide HB0).size))
  have HE2 := hide ((unhide HE).on hb2)
  have HG2 : Hid (w.heap.size + 2 ≤ w2.heap.size) := by have := hb2.size; have := unhide HG; show _ ≤ _; omega
  have HR2 := hide ((unhide HR).below hb2)
  clear hb2 HR HB0 HL HE HG c0 c1 c2 c3
  go_wp2_with fail
  refine (unhide h38 _ (unhide HE2)).mono ?_
  rintro e w3 ⟨rfl, hb3⟩
  have HB3 := hide ((unhide HB2).trans (hb3.mono (unhide HB2).size))
  have HG3 : Hid (w.heap.size + 2 ≤ w3.heap.size) := by have := hb3.size; have := unhide HG2; show _ ≤ _; omega
  have HR3 := hide ((unhide HR2).below hb3)
  obtain ⟨d0, d1, d2, d3⟩ := (unhide HR3).facts
  obtain ⟨e0, e1, e2, e3⟩ := (unhide HR3).frozen
  have hlt : w.heap.size + 1 < w3.heap.size := by have := unhide HG3; omega
  have hne := Nat.ne_of_lt hlt
  have hne' := Ne.symm hne
  clear hb3 HR2 HB2 HE2
  go_wp2_with fail
  have HF := hide (((unhide HR3).fill 0 0 ByteArray.empty none 0 0).below ((Below.refl _ _).alloc (Nat.le_refl _) (.cells #[.int .i64 0, .int .i64 0, .string ByteArray.empty, .slice none 0 0] 56)))
  obtain ⟨f0, f1, f2, f3⟩ := (unhide HF).facts
  have hS := set4_below (g := w.heap.size + 1) (x0 := .int .i64 0) (x1 := .int .i64 0) (x2 := .string ByteArray.empty) (x3 := .slice none 0 0) (unhide HB3) (by omega)
  exact bodyPost_ret (v := .agg #[.int .i64 0, .int .i64 0, .string ByteArray.empty, .slice none 0 0]) (by simp [results, Tryz.results102, go_sem, f0, f1, f2, f3]; try rfl) rfl ⟨rfl, hS.alloc hS.size _⟩

theorem one_box {w w2 : World} (hb : Below (w.alloc (.cells #[.int .i64 0, .int .i64 0, .string ByteArray.empty, .slice none 0 0] 56)).heap.size (w.alloc (.cells #[.int .i64 0, .int .i64 0, .string ByteArray.empty, .slice none 0 0] 56)) w2) :
    w2.cell? ⟨w.heap.size, 0, none⟩ = some (.int .i64 0) ∧ w2.cell? ⟨w.heap.size, 1, none⟩ = some (.int .i64 0) ∧ w2.cell? ⟨w.heap.size, 2, none⟩ = some (.string ByteArray.empty) ∧ w2.cell? ⟨w.heap.size, 3, none⟩ = some (.slice none 0 0) ∧
    w2.frozen? ⟨w.heap.size, 0, none⟩ = false ∧ w2.frozen? ⟨w.heap.size, 1, none⟩ = false ∧ w2.frozen? ⟨w.heap.size, 2, none⟩ = false ∧ w2.frozen? ⟨w.heap.size, 3, none⟩ = false := by
  have h1 : w2.heap[w.heap.size]? = some (.cells #[.int .i64 0, .int .i64 0, .string ByteArray.empty, .slice none 0 0] 56) := by
    rw [hb.block _ (by simp)]
    exact heap_alloc_new w _
  exact ⟨cell_of_row h1 (by simp), cell_of_row h1 (by simp), cell_of_row h1 (by simp), cell_of_row h1 (by simp), frozen_of_row h1, frozen_of_row h1, frozen_of_row h1, frozen_of_row h1⟩

def atOp (n : Int) : Int := if okT (.node 1 n ByteArray.empty []) = true then 1 else 0
def atN (n : Int) : Int := if okT (.node 1 n ByteArray.empty []) = true then n else 0
theorem at_wf {n : Int} (h : (Lit.int .i64 n).wf = true) : (Lit.int .i64 (atOp n)).wf = true ∧ (Lit.int .i64 (atN n)).wf = true := by
  unfold atOp atN
  split
  · exact ⟨by decide, h⟩
  · exact ⟨by decide, by decide⟩

set_option maxRecDepth 100000 in
theorem atom6 (n : Int) (w : World) (hw : (Lit.int .i64 n).wf = true) :
    Calls Tryz.prog 19 #[.int .i64 n] w fun e w' => e = .returned (.agg #[.int .i64 (atOp n), .int .i64 (atN n), .string ByteArray.empty, .slice none 0 0]) ∧ Below w.heap.size w w' := by
  have hl : ∀ v, Lies v 0 (.node 1 n ByteArray.empty []) (tmCells 1 n ByteArray.empty none 0 0) := fun v => lies_leaf v 1 n ByteArray.empty (by simp [maxLen]) (by decide) hw
  cases hok : okT (.node 1 n ByteArray.empty []) with
  | true =>
    have h := hide (fun v => l3ok_yes 1 n ByteArray.empty v hl hok)
    rw [show atOp n = 1 from by unfold atOp; rw [if_pos hok], show atN n = n from by unfold atN; rw [if_pos hok]]
    clear hl hok
    go_enter Tryz.func19, Tryz.ntmps19
    go_wp2_with fail
    refine (unhide h _).mono ?_
    rintro e w2 ⟨rfl, hb2⟩
    have hk : Below w.heap.size w w2 := ((Below.refl w.heap.size w).alloc (Nat.le_refl _) _).trans (hb2.mono (by simp))
    obtain ⟨d0, d1, d2, d3, e0, e1, e2, e3⟩ := one_box hb2
    have HB := hide hk
    clear hb2 hk
    go_wp2_with fail
    refine bodyPost_ret (v := .agg #[.int .i64 1, .int .i64 n, .string ByteArray.empty, .slice none 0 0]) (by simp [results, Tryz.results19, go_sem, d0, d1, d2, d3]) rfl ⟨rfl, ?_⟩
    exact ((((unhide HB).setCell (Nat.le_refl _) _).setCell (Nat.le_refl _) _).setCell (Nat.le_refl _) _).setCell (Nat.le_refl _) _
  | false =>
    have h := hide (fun v => l3ok_no 1 n ByteArray.empty v hl hok)
    rw [show atOp n = 0 from by unfold atOp; rw [if_neg (by rw [hok]; decide)], show atN n = 0 from by unfold atN; rw [if_neg (by rw [hok]; decide)]]
    clear hl hok
    go_enter Tryz.func19, Tryz.ntmps19
    go_wp2_with fail
    refine (unhide h _).mono ?_
    rintro e w2 ⟨rfl, hb2⟩
    have hk : Below w.heap.size w w2 := ((Below.refl w.heap.size w).alloc (Nat.le_refl _) _).trans (hb2.mono (by simp))
    obtain ⟨d0, d1, d2, d3, e0, e1, e2, e3⟩ := one_box hb2
    have HB := hide hk
    clear hb2 hk
    go_wp2_with fail
    refine bodyPost_ret (v := .agg #[.int .i64 0, .int .i64 0, .string ByteArray.empty, .slice none 0 0]) (by simp [results, Tryz.results19, go_sem, d0, d1, d2, d3]) rfl ⟨rfl, ?_⟩
    exact ((((unhide HB).setCell (Nat.le_refl _) _).setCell (Nat.le_refl _) _).setCell (Nat.le_refl _) _).setCell (Nat.le_refl _) _

set_option maxRecDepth 100000 in
theorem atom7 (n : Int) (w : World) (hw : (Lit.int .i64 n).wf = true) (herr : Err w) :
    Calls Tryz.prog 63 #[.int .i64 n] w fun e w' => e = .returned (.agg #[.int .i64 (atOp n), .int .i64 (atN n), .string ByteArray.empty, .slice none 0 0]) ∧ Below w.heap.size w w' := by
  have HER := hide (herr.on (ab (.cells #[.int .i64 0, .int .i64 0, .string ByteArray.empty, .slice none 0 0] 56)))
  clear herr
  have hl : ∀ v, Lies v 0 (.node 1 n ByteArray.empty []) (tmCells 1 n ByteArray.empty none 0 0) := fun v => lies_leaf v 1 n ByteArray.empty (by simp [maxLen]) (by decide) hw
  cases hok : okT (.node 1 n ByteArray.empty []) with
  | true =>
    have h := hide (fun v he => new_yes 1 n ByteArray.empty v hl hok he)
    rw [show atOp n = 1 from by unfold atOp; rw [if_pos hok], show atN n = n from by unfold atN; rw [if_pos hok]]
    clear hl hok
    go_enter Tryz.func63, Tryz.ntmps63
    go_wp2_with fail
    refine (unhide h _ (unhide HER)).mono ?_
    rintro e w2 ⟨rfl, hb2⟩
    have hk : Below w.heap.size w w2 := ((Below.refl w.heap.size w).alloc (Nat.le_refl _) _).trans (hb2.mono (by simp))
    obtain ⟨d0, d1, d2, d3, e0, e1, e2, e3⟩ := one_box hb2
    have HB := hide hk
    clear hb2 hk
    go_wp2_with fail
    refine bodyPost_ret (v := .agg #[.int .i64 1, .int .i64 n, .string ByteArray.empty, .slice none 0 0]) (by simp [results, Tryz.results63, go_sem, d0, d1, d2, d3]) rfl ⟨rfl, ?_⟩
    exact ((((unhide HB).setCell (Nat.le_refl _) _).setCell (Nat.le_refl _) _).setCell (Nat.le_refl _) _).setCell (Nat.le_refl _) _
  | false =>
    have h := hide (fun v he => new_no 1 n ByteArray.empty v hl hok he)
    rw [show atOp n = 0 from by unfold atOp; rw [if_neg (by rw [hok]; decide)], show atN n = 0 from by unfold atN; rw [if_neg (by rw [hok]; decide)]]
    clear hl hok
    go_enter Tryz.func63, Tryz.ntmps63
    go_wp2_with fail
    refine (unhide h _ (unhide HER)).mono ?_
    rintro e w2 ⟨rfl, hb2⟩
    have hk : Below w.heap.size w w2 := ((Below.refl w.heap.size w).alloc (Nat.le_refl _) _).trans (hb2.mono (by simp))
    obtain ⟨d0, d1, d2, d3, e0, e1, e2, e3⟩ := one_box hb2
    have HB := hide hk
    clear hb2 hk
    go_wp2_with fail
    refine bodyPost_ret (v := .agg #[.int .i64 0, .int .i64 0, .string ByteArray.empty, .slice none 0 0]) (by simp [results, Tryz.results63, go_sem, d0, d1, d2, d3]) rfl ⟨rfl, ?_⟩
    exact ((((unhide HB).setCell (Nat.le_refl _) _).setCell (Nat.le_refl _) _).setCell (Nat.le_refl _) _).setCell (Nat.le_refl _) _

end Go.Proofs.YtbbidjckplpaiaaGreatDoor
