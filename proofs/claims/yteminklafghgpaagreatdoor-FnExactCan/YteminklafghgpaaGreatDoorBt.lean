
/- A row of bytes of the call's own that grows; the walk of impl.addHead: what a term has beside its kids, written behind the bytes. -/
import Derived.Test.YteminklafghgpaaGreatDoorEx
import Derived.Test.YteminklafghgpaaGreatDoorStk
import Derived.Test.YteminklafghgpaaGreatDoorShelf
import Derived.Lib.AppendStr
import Derived.Lib.AppendIntMem
import Derived.Laws.IdiomStrings
namespace Go.Proofs.YteminklafghgpaaGreatDoor
open Go.RowKit Go.Deep

theorem info5 : (Tryz.prog.info? 5).map (fun i => (i.zero, i.size, i.bytes)) = some (some (.int .u8 0), 1, 1) := by kernel_rfl
/-- The bytes lie in a row of the call's own. -/
def Bts (w : World) (l : List UInt8) (v : Value) (wr : World) : Prop := wr.ownsRow w.heap.size 5 1 v l.length (l.map fun b => Value.int .u8 b.toNat)
theorem Bts.on {w wr w2 : World} {l : List UInt8} {v : Value} (h : Bts w l v wr) (hb : Below wr.heap.size wr w2) : Bts w l v w2 :=
  World.ownsRow.kept h (w' := w2) (row := none) ⟨hb.os, hb.tape, hb.output, hb.size, fun k hk _ => hb.block k hk⟩ (by cases v.ownBlock <;> simp)
theorem Bts.shape {w wr : World} {l : List UInt8} {v : Value} (h : Bts w l v wr) : ∃ a c, v = .slice a l.length c := by
  rcases h.2 with ⟨h1, h2⟩ | ⟨g, cap, cur, h1, _⟩
  · exact ⟨none, 0, by rw [h1, h2]⟩
  · exact ⟨_, _, h1⟩

/-- A text is written behind the bytes; what else is there stays. -/
theorem Bts.write {w wr : World} {l : List UInt8} {tv : Value} (h : Bts w l tv wr) (hbw : Below w.heap.size w wr) (m : List UInt8) (hn : l.length + m.length ≤ 1073741824) (ty : TypeId) :
    ∃ v' w', (Builtin.append_ #[65, 9] ty #[tv, .string ⟨m.toArray⟩]).run Tryz.prog wr = .ok v' w' ∧ Bts w (l ++ m) v' w' ∧ wr.grownBy w' tv.ownBlock ∧ Below w.heap.size w w' := by
  obtain ⟨i, hi, hzz⟩ := Option.map_eq_some_iff.1 info5
  simp only [Prod.mk.injEq] at hzz
  obtain ⟨hz, hs, hby⟩ := hzz
  have hsz : (⟨m.toArray⟩ : ByteArray).size = m.length := by simp [ByteArray.size]
  obtain ⟨v', w', g1, g2, g3, _⟩ := Lib.run_append_own_string (P := Tryz.prog) wr w.heap.size 65 9 ty 5 i Tryz.underlying65 Tryz.underlying9 hi hz hs hby tv l.length _ h ⟨m.toArray⟩ (by rw [hsz]; unfold maxLen; omega) (by rw [hsz]; omega) hbw.size
  refine ⟨v', w', g1, ?_, g3, hbw.grown g3 hbw.size (fun k hk => (World.ownsRow.lt h k hk).1)⟩
  unfold Bts
  rw [List.length_append, List.map_append]
  simpa [hsz, Lib.strCells] using g2

/-- One byte is written behind the bytes, out of a block of its own. -/
theorem Bts.put {w wr w0 : World} {l : List UInt8} {tv : Value} (h : Bts w l tv wr) (hbw : Below w.heap.size w wr) (c : UInt8) {b : Nat} (hb : Below wr.heap.size wr w0) (hc : w0.cell? ⟨b, 0, none⟩ = some (.int .u8 c.toNat)) (hn : l.length + 1 ≤ 1073741824) (ty : TypeId) :
    ∃ v' w', (Builtin.append_ #[65, 65] ty #[tv, .slice (some ⟨b, 0, none⟩) 1 1]).run Tryz.prog w0 = .ok v' w' ∧ Bts w (l ++ [c]) v' w' ∧ w0.grownBy w' tv.ownBlock ∧ Below w.heap.size w w' := by
  obtain ⟨i, hi, hzz⟩ := Option.map_eq_some_iff.1 info5
  simp only [Prod.mk.injEq] at hzz
  obtain ⟨hz, hs, hby⟩ := hzz
  have h0 := h.on hb
  have hb0 : Below w.heap.size w w0 := hbw.trans (hb.mono hbw.size)
  obtain ⟨v', w', g1, g2, g3, _⟩ := run_append_own_wide (P := Tryz.prog) w0 w.heap.size 65 ty 5 i _ 1 1 Tryz.underlying65 hi hz hs hby rfl (by omega) tv l.length _ h0 ⟨b, 0, none⟩ 1 1 [.int .u8 c.toNat]
    rfl (fun j u hj => by
      rw [Addr.add_mid]
      match j, hj with
      | 0, hj => simp at hj; subst hj; exact hc) (fun u hu => by simp at hu; subst hu; rfl) (by unfold maxLen; omega) (by omega) hb0.size
  refine ⟨v', w', g1, ?_, g3, hb0.grown g3 hb0.size (fun k hk => (World.ownsRow.lt h0 k hk).1)⟩
  unfold Bts
  rw [List.length_append, List.map_append]
  simpa using g2


theorem wpList_append_str {P : Program} {w : World} {ops : Array Oper} {rest : List Oper} {o : Oper} {a : Act} {Q : Exit → Act → World → Prop} (hgd : o.guard = none) (s x : Operand) (t t' : TypeId)
    (ho : o.op = .call { callee := .builtin .append, args := #[s, x], argTypes := #[t, t'] }) (v xv : Value) (hs : a.eval s = v) (hx : a.eval x = xv) (R : Value → World → Prop)
    (hrun : ∃ v' w', (Builtin.append_ #[t, t'] o.type #[v, xv]).run P w = .ok v' w' ∧ R v' w') (h : ∀ v' w', R v' w' → wpList P ops Q rest (a.put o.dst v') w') : wpList P ops Q (o :: rest) a w :=
  wpList_plain hgd fun K hK => by
    obtain ⟨v', w', hr, h2⟩ := hrun
    unfold Oper.wp execOp
    simp only [ho, resolve, invoke, builtin, Sem.run_bind, Sem.run_pure, Result.andThen_ok, List.map_toArray, List.map_cons, List.map_nil, hs, hx, hr]
    exact hK _ _ (h v' w' h2)

/-- The digit table is met, whatever is made from here on. -/
def TabB (w0 w : World) : Prop := Lib.TabBelow Tryz.prog w0.heap.size w "internal/strconv.uint64pow10" .u64 Lib.pow10Tab
theorem TabB.on {w0 w w' : World} (h : TabB w0 w) (hb : Below w0.heap.size w w') : TabB w0 w' := fun v hv => h v (hb.trans hv)

theorem num_calls' (w0 : World) (l : List UInt8) (tv : Value) (i : Int) (w : World) (h0 : -9223372036854775808 ≤ i) (h1 : i ≤ 9223372036854775807) (ho : Bts w0 l tv w) (hb : Below w0.heap.size w0 w) (hn : l.length ≤ 1000000) (ht : TabB w0 w) :
    Calls Tryz.prog 71 #[tv, .int .i64 i, .int .i64 10] w fun e w' => ∃ v', e = .returned v' ∧ Bts w0 (l ++ Lib.itoa i) v' w' ∧ Below w0.heap.size w w' ∧ Lib.OthersKept 5 none w w' :=
  (Tryz.strconv_AppendInt_10 w0.heap.size l.length i h0 h1 tv _ w ho hb.size (by omega) ht).mono fun e w' ⟨v', he, hown, hbe, hoth⟩ => ⟨v', he, by
    unfold Bts
    rw [List.length_append, List.map_append]
    exact hown, hbe, hoth⟩


theorem abD {w : World} (x : Obj) : Below w.heap.size w (w.alloc x) := (Below.refl _ _).alloc (Nat.le_refl _) _
theorem Bts.apart {w wr : World} {l : List UInt8} {v : Value} {b : Nat} {C : Array Value} {fr : Nat × Nat} (h : Bts w l v wr) (hr : wr.heap[b]? = some (.cells C 35 fr)) : some b ≠ v.ownBlock := by
  rcases h.2 with ⟨h1, _⟩ | ⟨g, cap, cur, h1, _, h2, _⟩
  · rw [h1]; simp [Value.ownBlock]
  · rw [h1]
    intro e
    simp only [Value.ownBlock, Option.some.injEq] at e
    subst e
    rw [h2] at hr
    simp at hr
theorem str_eq (s : ByteArray) : (⟨s.toList.toArray⟩ : ByteArray) = s := by
  apply toList_inj
  rw [ByteArray.toList_eq]
theorem Bts.text {w wr : World} {l : List UInt8} {tv : Value} (h : Bts w l tv wr) (hbw : Below w.heap.size w wr) (s : ByteArray) (hn : l.length + s.size ≤ 1073741824) (ty : TypeId) :
    ∃ v' w', (Builtin.append_ #[65, 9] ty #[tv, .string s]).run Tryz.prog wr = .ok v' w' ∧ Bts w (l ++ s.toList) v' w' ∧ wr.grownBy w' tv.ownBlock ∧ Below w.heap.size w w' := by
  have hsz : s.toList.length = s.size := by rw [ByteArray.toList_eq]; simp
  obtain ⟨v', w', h1, h2, h3, h4⟩ := h.write hbw s.toList (by omega) ty
  rw [str_eq] at h1
  exact ⟨v', w', h1, h2, h3, h4⟩

theorem idx0 (x0 x1 x2 : Value) (w : World) : (Instr.index 110 (.agg #[x0, x1, x2]) (.int .i64 0)).run Tryz.prog w = .ok x0 w := by kernel_rfl
theorem idx1 (x0 x1 x2 : Value) (w : World) : (Instr.index 110 (.agg #[x0, x1, x2]) (.int .i64 1)).run Tryz.prog w = .ok x1 w := by kernel_rfl
theorem idx2 (x0 x1 x2 : Value) (w : World) : (Instr.index 110 (.agg #[x0, x1, x2]) (.int .i64 2)).run Tryz.prog w = .ok x2 w := by kernel_rfl
/-- The three numbers ahead of the text. -/
def heads (op n : Int) (s : ByteArray) : List (List UInt8) := [Lib.itoa op ++ [32], Lib.itoa n ++ [32], Lib.itoa (s.size : Int) ++ [32]]
theorem heads_all (op n : Int) (s : ByteArray) : (heads op n s).flatten ++ s.toList = headX op n s := by simp [heads, headX]

/-- Whatever is no row of bytes stays. -/
def Oth (w w' : World) : Prop := Lib.OthersKept 5 none w w'
theorem Bts.oth {w wr w' a : World} {l : List UInt8} {v : Value} (h : Bts w l v wr) (ha : Oth a wr) (hg : wr.grownBy w' v.ownBlock) : Oth a w' :=
  Lib.OthersKept.grown ha hg (fun k hk => by
    rcases h.2 with ⟨h1, _⟩ | ⟨g, cap, cur, h1, _, h2, _⟩
    · rw [h1] at hk; simp [Value.ownBlock] at hk
    · rw [h1] at hk
      simp only [Value.ownBlock, Option.some.injEq] at hk
      subst hk
      exact ⟨_, _, h2⟩)
theorem Oth.row {w w' : World} {b : Nat} {C : Array Value} {ty : TypeId} {fr : Nat × Nat} (h : Oth w w') (hr : w.heap[b]? = some (.cells C ty fr)) (ht : ty ≠ 5) : w'.heap[b]? = some (.cells C ty fr) :=
  h _ _ hr (by simp) (by simp [ht])

theorem Oth.out {w w' : World} {o : Obj} (h : Oth (w.alloc o) w') : Oth w w' := Lib.OthersKept.trans (Lib.OthersKept.alloc (Lib.OthersKept.refl 5 none w) o) h
theorem Oth.go {w w' w2 : World} (h : Oth w w') (h2 : Oth w' w2) : Oth w w2 := Lib.OthersKept.trans h h2
theorem Oth.add {w w' : World} (h : Oth w w') (o : Obj) : Oth w (w'.alloc o) := Lib.OthersKept.alloc h o
theorem Oth.self (w : World) : Oth w w := Lib.OthersKept.refl 5 none w
theorem Oth.low {w w' w2 : World} (h : Oth w w') (hb : Below w'.heap.size w' w2) : Oth w w2 := fun k o hk hb' ho => (hb.block k (Array.getElem?_eq_some_iff.1 (h k o hk hb' ho)).1).trans (h k o hk hb' ho)

set_option maxRecDepth 100000 in
set_option maxHeartbeats 4000000 in
theorem head_calls (w0 : World) (l : List UInt8) (tv : Value) (op n : Int) (s : ByteArray) (a : Option Addr) (len cap : Nat) (w : World) (hop : -9223372036854775808 ≤ op ∧ op ≤ 9223372036854775807) (hn : -9223372036854775808 ≤ n ∧ n ≤ 9223372036854775807) (hs : s.size ≤ 300) (hl : l.length ≤ 500000) (ho : Bts w0 l tv w) (hb : Below w0.heap.size w0 w) (ht : TabB w0 w0) :
    Calls Tryz.prog 64 #[tv, .agg #[.int .i64 op, .int .i64 n, .string s, .slice a len cap]] w fun e w' => ∃ v', e = .returned v' ∧ Bts w0 (l ++ headX op n s) v' w' ∧ Below w0.heap.size w0 w' ∧ Oth w w' := by
  obtain ⟨ta, tc, rfl⟩ := ho.shape
  have hs' : (s.size : Int) ≤ 300 := by omega
  have HO := hide ho
  have HB := hide hb
  have HT0 : Hid (TabB w0 w0) := ht
  clear ho hb ht
  go_enter Tryz.func64, Tryz.ntmps64
  go_wp2_with fail
  have HL := hide hl
  have HOP := hide hop
  have HN := hide hn
  have HS := hide hs
  have HLN : Hid (∀ k, k ≤ 3 → (l ++ ((heads op n s).take k).flatten).length ≤ 600000) := fun k hk => by
    have e1 := Lib.itoa_length_le op hop.1 hop.2
    have e2 := Lib.itoa_length_le n hn.1 hn.2
    have e3 := Lib.itoa_length_le (s.size : Int) (by omega) (by omega)
    rcases (by omega : k = 0 ∨ k = 1 ∨ k = 2 ∨ k = 3) with rfl | rfl | rfl | rfl <;> simp [heads] <;> omega
  clear hop hn hs hl
  go_loopw [0, 15] (fun tv i wr => ∃ k : Nat, k ≤ 3 ∧ i = .int .i64 k ∧ Bts w0 (l ++ ((heads op n s).take k).flatten) tv wr ∧ Below w0.heap.size w0 wr ∧ Oth (w.alloc (.cells #[.int .i64 op, .int .i64 n, .string s, .slice a len cap] 35)) wr) (fun _ i _ => 3 - (intOf i).toNat)
  case atStart => exact ⟨0, by omega, rfl, by simpa using (unhide HO).on ((Below.refl _ _).alloc (Nat.le_refl _) _), (unhide HB).trans (((Below.refl _ _).alloc (Nat.le_refl _) _).mono (unhide HB).size), Oth.self _⟩
  case round =>
    obtain ⟨k, hk, rfl, hbt, hbw, hrow⟩ := hrel
    rcases (by omega : k = 0 ∨ k = 1 ∨ k = 2 ∨ k = 3) with hk0 | hk0 | hk0 | hk0
    · obtain rfl : k = 0 := by omega
      obtain ⟨ua, uc, rfl⟩ := hbt.shape
      have hlen : (l ++ ((heads op n s).take 0).flatten).length ≤ 600000 := unhide HLN 0 (by omega)
      have H65 := hide (num_calls' w0 _ _ op wr (unhide HOP).1 (unhide HOP).2 hbt hbw (by omega) ((unhide HT0).on hbw))
      have HROW := hide hrow
      have HBW := hide hbw
      clear hbt hbw hrow
      generalize (l ++ ((heads op n s).take 0).flatten).length = ul at *
      have hix := idx0 (.int .i64 op) (.int .i64 n) (.int .i64 (s.size : Int)) wr
      go_wp2_with fail
      refine (unhide H65).mono ?_
      rintro e w2 ⟨v2, rfl, hb2, hbe2, hoth2⟩
      have hbw2 := (unhide HBW).trans hbe2
      obtain ⟨va, vc, rfl⟩ := hb2.shape
      have hlen2 : (l ++ ((heads op n s).take 0).flatten ++ Lib.itoa op).length ≤ 700000 := by rw [List.length_append]; have hk := unhide HLN 0 (by omega); have := Lib.itoa_length_le op (unhide HOP).1 (unhide HOP).2; omega
      have HAP := hide (hb2.put hbw2 32 (b := w2.heap.size) (abD (.cells #[.int .u8 32] 5)) (box_cell w2 _ 5 0 _ rfl) (by omega) 65)
      have HR2 := hide (And.intro (((unhide HROW).go hoth2).add (.cells #[.int .u8 32] 5)) (hb2.on (abD (.cells #[.int .u8 32] 5))))
      generalize (l ++ ((heads op n s).take 0).flatten ++ Lib.itoa op).length = vl at *
      clear hb2 hbe2 hoth2 hbw2
      go_wp2_with (at_builtin; refine wpList_append_run rfl _ _ 65 rfl _ _ rfl rfl (fun v' w' => Bts w0 (l ++ ((heads op n s).take 0).flatten ++ Lib.itoa op ++ [32]) v' w' ∧ (w2.alloc (.cells #[.int .u8 32] 5)).grownBy w' (Value.slice va vl vc).ownBlock ∧ Below w0.heap.size w0 w') (unhide HAP) ?_; rintro v3 w3 ⟨hb3, hg3, hbw3⟩; have HB3 := hide hb3; have HG3 := hide hg3; have HW3 := hide hbw3; clear hb3 hg3 hbw3)
      go_roundw
      case rel =>
        refine ⟨1, by omega, by go_num, ?_, unhide HW3, ?_⟩
        · have := unhide HB3
          simpa [heads] using this
        · exact (unhide HR2).2.oth (unhide HR2).1 (unhide HG3)
      case measure => simp [intOf]
    · obtain rfl : k = 1 := by omega
      obtain ⟨ua, uc, rfl⟩ := hbt.shape
      have hlen : (l ++ ((heads op n s).take 1).flatten).length ≤ 600000 := unhide HLN 1 (by omega)
      have H65 := hide (num_calls' w0 _ _ n wr (unhide HN).1 (unhide HN).2 hbt hbw (by omega) ((unhide HT0).on hbw))
      have HROW := hide hrow
      have HBW := hide hbw
      clear hbt hbw hrow
      generalize (l ++ ((heads op n s).take 1).flatten).length = ul at *
      have hix := idx1 (.int .i64 op) (.int .i64 n) (.int .i64 (s.size : Int)) wr
      go_wp2_with fail
      refine (unhide H65).mono ?_
      rintro e w2 ⟨v2, rfl, hb2, hbe2, hoth2⟩
      have hbw2 := (unhide HBW).trans hbe2
      obtain ⟨va, vc, rfl⟩ := hb2.shape
      have hlen2 : (l ++ ((heads op n s).take 1).flatten ++ Lib.itoa n).length ≤ 700000 := by rw [List.length_append]; have hk := unhide HLN 1 (by omega); have := Lib.itoa_length_le n (unhide HN).1 (unhide HN).2; omega
      have HAP := hide (hb2.put hbw2 32 (b := w2.heap.size) (abD (.cells #[.int .u8 32] 5)) (box_cell w2 _ 5 0 _ rfl) (by omega) 65)
      have HR2 := hide (And.intro (((unhide HROW).go hoth2).add (.cells #[.int .u8 32] 5)) (hb2.on (abD (.cells #[.int .u8 32] 5))))
      generalize (l ++ ((heads op n s).take 1).flatten ++ Lib.itoa n).length = vl at *
      clear hb2 hbe2 hoth2 hbw2
      go_wp2_with (at_builtin; refine wpList_append_run rfl _ _ 65 rfl _ _ rfl rfl (fun v' w' => Bts w0 (l ++ ((heads op n s).take 1).flatten ++ Lib.itoa n ++ [32]) v' w' ∧ (w2.alloc (.cells #[.int .u8 32] 5)).grownBy w' (Value.slice va vl vc).ownBlock ∧ Below w0.heap.size w0 w') (unhide HAP) ?_; rintro v3 w3 ⟨hb3, hg3, hbw3⟩; have HB3 := hide hb3; have HG3 := hide hg3; have HW3 := hide hbw3; clear hb3 hg3 hbw3)
      go_roundw
      case rel =>
        refine ⟨2, by omega, by go_num, ?_, unhide HW3, ?_⟩
        · have := unhide HB3
          simpa [heads] using this
        · exact (unhide HR2).2.oth (unhide HR2).1 (unhide HG3)
      case measure => simp [intOf]
    · obtain rfl : k = 2 := by omega
      obtain ⟨ua, uc, rfl⟩ := hbt.shape
      have hlen : (l ++ ((heads op n s).take 2).flatten).length ≤ 600000 := unhide HLN 2 (by omega)
      have H65 := hide (num_calls' w0 _ _ (s.size : Int) wr (by omega) (by omega) hbt hbw (by omega) ((unhide HT0).on hbw))
      have HROW := hide hrow
      have HBW := hide hbw
      clear hbt hbw hrow
      generalize (l ++ ((heads op n s).take 2).flatten).length = ul at *
      have hix := idx2 (.int .i64 op) (.int .i64 n) (.int .i64 (s.size : Int)) wr
      go_wp2_with fail
      refine (unhide H65).mono ?_
      rintro e w2 ⟨v2, rfl, hb2, hbe2, hoth2⟩
      have hbw2 := (unhide HBW).trans hbe2
      obtain ⟨va, vc, rfl⟩ := hb2.shape
      have hlen2 : (l ++ ((heads op n s).take 2).flatten ++ Lib.itoa (s.size : Int)).length ≤ 700000 := by rw [List.length_append]; have hk := unhide HLN 2 (by omega); have := Lib.itoa_length_le (s.size : Int) (by omega) (by omega); omega
      have HAP := hide (hb2.put hbw2 32 (b := w2.heap.size) (abD (.cells #[.int .u8 32] 5)) (box_cell w2 _ 5 0 _ rfl) (by omega) 65)
      have HR2 := hide (And.intro (((unhide HROW).go hoth2).add (.cells #[.int .u8 32] 5)) (hb2.on (abD (.cells #[.int .u8 32] 5))))
      generalize (l ++ ((heads op n s).take 2).flatten ++ Lib.itoa (s.size : Int)).length = vl at *
      clear hb2 hbe2 hoth2 hbw2
      go_wp2_with (at_builtin; refine wpList_append_run rfl _ _ 65 rfl _ _ rfl rfl (fun v' w' => Bts w0 (l ++ ((heads op n s).take 2).flatten ++ Lib.itoa (s.size : Int) ++ [32]) v' w' ∧ (w2.alloc (.cells #[.int .u8 32] 5)).grownBy w' (Value.slice va vl vc).ownBlock ∧ Below w0.heap.size w0 w') (unhide HAP) ?_; rintro v3 w3 ⟨hb3, hg3, hbw3⟩; have HB3 := hide hb3; have HG3 := hide hg3; have HW3 := hide hbw3; clear hb3 hg3 hbw3)
      go_roundw
      case rel =>
        refine ⟨3, by omega, by go_num, ?_, unhide HW3, ?_⟩
        · have := unhide HB3
          simpa [heads] using this
        · exact (unhide HR2).2.oth (unhide HR2).1 (unhide HG3)
      case measure => simp [intOf]
    · obtain rfl : k = 3 := by omega
      obtain ⟨ua, uc, rfl⟩ := hbt.shape
      have hlen : (l ++ ((heads op n s).take 3).flatten).length ≤ 600000 := unhide HLN 3 (by omega)
      have HAP := hide (hbt.text hbw s (by have := unhide HS; omega) 65)
      have HROW := hide hrow
      have HBT := hide hbt
      have d2 := cell_of_row (hrow.row (heap_alloc_new w _) (by decide)) (j := 2) (by simp)
      simp only [List.getElem_toArray, List.getElem_cons_zero, List.getElem_cons_succ] at d2
      generalize (l ++ ((heads op n s).take 3).flatten).length = ul at *
      clear hbt hbw hrow
      go_wp2_with (at_builtin; refine wpList_append_str rfl _ _ 65 9 rfl _ _ rfl rfl (fun v' w' => Bts w0 (l ++ ((heads op n s).take 3).flatten ++ s.toList) v' w' ∧ wr.grownBy w' (Value.slice ua ul uc).ownBlock ∧ Below w0.heap.size w0 w') (unhide HAP) ?_; rintro v3 w3 ⟨hb3, hg3, hbw3⟩; have HB3 := hide hb3; have HG3 := hide hg3; have HW3 := hide hbw3; clear hb3 hg3 hbw3)
      go_ret
      refine ⟨_, rfl, ?_, unhide HW3, ((unhide HBT).oth (unhide HROW) (unhide HG3)).out⟩
      have h9 := unhide HB3
      rw [List.append_assoc, show (heads op n s).take 3 = heads op n s from rfl, heads_all] at h9
      exact h9

end Go.Proofs.YteminklafghgpaaGreatDoor
