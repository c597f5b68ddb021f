/- Terms in a row of the call's own, and the walk of impl.inRow: a row of so many terms, or the named error; nothing that was there is written. The walks of spec.l8Text, impl.word and impl.row: a text as a term; terms in a row, each pair of the first and the row of the others; nothing that was there is written. The walks of spec.KeyOf and impl.KeyOf: of whatever term lies in memory, and whatever number, the hash of the pair of it and the number's text, where these are right, else the zero term; the second in new blocks of its own; nothing that was there is written. The walks of spec.Both and impl.Both: the hash of two terms in a row, where that is right, else the zero term; the second in new blocks of its own; nothing that was there is written. -/
import Derived.Test.YtmklgikbajhcpaaGreatDoorSx
import Derived.Test.YtmklgikbajhcpaaGreatDoorTx
import Derived.Test.YtmklgikbajhcpaaGreatDoorTp
import Derived.Deep.DeepAppendWide
import Derived.Test.YtmklgikbajhcpaaGreatDoorHj
import Derived.Test.YtmklgikbajhcpaaGreatDoorCv
import Derived.Deep.RegionHeld3
import Derived.Deep.RegionWith
namespace Go.Proofs.YtmklgikbajhcpaaGreatDoor
open Go.RowKit Go.Deep

/-- The cells of a term. -/
structure Tc where
  op : Int
  n : Int
  s : ByteArray
  a : Option Addr
  len : Nat
  cap : Nat
def Tc.cells (p : Tc) : List Value := tmCells p.op p.n p.s p.a p.len p.cap
theorem Tc.cells_len (p : Tc) : p.cells.length = 4 := rfl
theorem Tc.cells_one (p : Tc) : ∀ v ∈ p.cells, v.oneCell' = true := by
  intro v hv
  simp only [Tc.cells, tmCells, List.mem_cons, List.not_mem_nil, or_false] at hv
  rcases hv with rfl | rfl | rfl | rfl <;> rfl
theorem tflat_get : ∀ (E : List Tc) (i c : Nat) (p : Tc), E[i]? = some p → c < 4 → (E.flatMap Tc.cells)[i * 4 + c]? = p.cells[c]?
  | [], i, c, p, h, _ => by simp at h
  | x :: r, 0, c, p, h, hc => by
    simp only [List.getElem?_cons_zero, Option.some.injEq] at h
    subst h
    rw [List.flatMap_cons, List.getElem?_append_left (by rw [Tc.cells_len]; omega)]
    congr 1
    omega
  | x :: r, i + 1, c, p, h, hc => by
    rw [List.flatMap_cons, List.getElem?_append_right (by rw [Tc.cells_len]; omega)]
    have := tflat_get r i c p (by simpa using h) hc
    rw [← this, Tc.cells_len]
    congr 1
    omega

/-- The terms' cells lie in a row of the call's own, in a block from B on. -/
def TRw (B : Nat) (E : List Tc) (v : Value) (w : World) : Prop := w.ownsRow B 29 4 v E.length (E.flatMap Tc.cells)
theorem TRw.nil (B : Nat) (w : World) : TRw B [] (.slice none 0 0) w := World.ownsRow_nil w B 29 4
theorem TRw.low {B : Nat} {E : List Tc} {v : Value} {w w' : World} (h : TRw B E v w) (hb : Below w.heap.size w w') : TRw B E v w' :=
  World.ownsRow.kept h (row := none) ⟨hb.os, hb.tape, hb.output, hb.size, fun k hk _ => hb.block k hk⟩ (by cases v.ownBlock <;> simp)
theorem TRw.shape {B : Nat} {E : List Tc} {v : Value} {w : World} (h : TRw B E v w) : ∃ a c, v = .slice a E.length c ∧ E.length ≤ c := by
  rcases h.2 with ⟨h1, h2⟩ | ⟨g, cap, cur, h1, _, _, h2, _⟩
  · exact ⟨none, 0, by rw [h1, h2], by omega⟩
  · exact ⟨_, _, h1, h2⟩
theorem TRw.own_ge {B : Nat} {E : List Tc} {v : Value} {w : World} (h : TRw B E v w) : ∀ k, v.ownBlock = some k → B ≤ k := fun k hk => (World.ownsRow.lt h k hk).1
theorem TRw.set {B : Nat} {E : List Tc} {v : Value} {w : World} (h : TRw B E v w) {g j : Nat} (hg : g < B) (u : Value) : TRw B E v (w.setCell ⟨g, j, none⟩ u) := by
  refine World.ownsRow.kept h (row := some g) ⟨rfl, rfl, rfl, by simp [World.setCell], fun k _ hk => Below.heap_setCell _ _ _ _ fun e => hk (by rw [e])⟩ ?_
  rcases hv : v.ownBlock with _ | k
  · exact Or.inl rfl
  · exact Or.inr fun e => by cases e; have := h.own_ge _ hv; omega
theorem TRw.lower {B C : Nat} {E : List Tc} {v : Value} {w : World} (h : TRw B E v w) (hC : C ≤ B) : TRw C E v w := by
  refine ⟨h.1, ?_⟩
  rcases h.2 with h | ⟨g, cap, cur, h1, h2, h3⟩
  · exact Or.inl h
  · exact Or.inr ⟨g, cap, cur, h1, by omega, h3⟩
theorem lies_opI {w : World} {op n : Int} {s : ByteArray} {ks : List Tm} {op2 n2 : Int} {s2 : ByteArray} {a2 : Option Addr} {len2 cap2 : Nat} (hl : Lies w 0 (.node op n s ks) (tmCells op2 n2 s2 a2 len2 cap2)) : op2 = op := by
  have hx := hl
  simp only [Lies, tmCells, List.cons.injEq, Value.int.injEq, Value.string.injEq, true_and] at hx
  obtain ⟨_, _, ⟨h1, _⟩, _⟩ := hx
  exact h1
theorem TRw.cells {B : Nat} {E : List Tc} {v : Value} {w : World} (h : TRw B E v w) {i : Nat} {p : Tc} (hi : E[i]? = some p) :
    ∃ g c, v = .slice (some ⟨g, 0, none⟩) E.length c ∧ B ≤ g ∧ g < w.heap.size ∧ w.cell? ⟨g, i * 4, none⟩ = some (.int .i64 p.op) ∧ w.cell? ⟨g, i * 4 + 1, none⟩ = some (.int .i64 p.n) ∧ w.cell? ⟨g, i * 4 + 2, none⟩ = some (.string p.s) ∧ w.cell? ⟨g, i * 4 + 3, none⟩ = some (.slice p.a p.len p.cap) := by
  have hlt := (List.getElem?_eq_some_iff.1 hi).1
  rcases h.2 with ⟨h1, h2⟩ | ⟨g, cap, cur, h1, h2, h3, h4, h5, h6, h7⟩
  · omega
  · have key : ∀ c u, c < 4 → p.cells[c]? = some u → w.cell? ⟨g, i * 4 + c, none⟩ = some u := fun c u hc hu => by
      have e1 := tflat_get E i c p hi hc
      rw [hu, ← h7, List.getElem?_take_of_lt (by omega)] at e1
      simp only [World.cell?, h3]
      simpa using e1
    exact ⟨g, cap, h1, h2, (Array.getElem?_eq_some_iff.1 h3).1, key 0 _ (by omega) rfl, key 1 _ (by omega) rfl, key 2 _ (by omega) rfl, key 3 _ (by omega) rfl⟩

theorem infoTi : (Tryz.prog.info? 29).map (fun i => (i.zero, i.size, i.bytes)) = some (some (.agg #[.int .i64 0, .int .i64 0, .string ByteArray.empty, .slice none 0 0]), 4, 56) := by kernel_rfl

theorem TRw.push {B : Nat} {E : List Tc} {v : Value} {w : World} (h : TRw B E v w) (p : Tc) (hn : E.length ≤ 4194304) (hB : B ≤ w.heap.size) (ty : TypeId) :
    ∃ v' w', (Builtin.append_ #[27, 27] ty #[v, .slice (some ⟨w.heap.size, 0, none⟩) 1 1]).run Tryz.prog (w.alloc (.cells #[.int .i64 p.op, .int .i64 p.n, .string p.s, .slice p.a p.len p.cap] 29)) = .ok v' w' ∧ TRw B (E ++ [p]) v' w' ∧ Below B w w' := by
  obtain ⟨i, hi, hzz⟩ := Option.map_eq_some_iff.1 infoTi
  simp only [Prod.mk.injEq] at hzz
  obtain ⟨hz, hs, hb⟩ := hzz
  have hb0 : Below w.heap.size w (w.alloc (.cells #[.int .i64 p.op, .int .i64 p.n, .string p.s, .slice p.a p.len p.cap] 29)) := (Below.refl _ _).alloc (Nat.le_refl _) _
  have h0 := h.low hb0
  have hB0 : B ≤ (w.alloc (.cells #[.int .i64 p.op, .int .i64 p.n, .string p.s, .slice p.a p.len p.cap] 29)).heap.size := by rw [heap_size_alloc]; omega
  have hnews : ∀ j u, p.cells[j]? = some u → (w.alloc (.cells #[.int .i64 p.op, .int .i64 p.n, .string p.s, .slice p.a p.len p.cap] 29)).cell? ((⟨w.heap.size, 0, none⟩ : Addr).add j) = some u := fun j u hj => by
    rw [Addr.add_mid, Nat.zero_add]
    exact box_cell w _ 29 j _ (by simpa [Tc.cells, tmCells] using hj)
  obtain ⟨v2, w2, k1, k2, k3, _⟩ := run_append_own_wide (P := Tryz.prog) (w.alloc (.cells #[.int .i64 p.op, .int .i64 p.n, .string p.s, .slice p.a p.len p.cap] 29)) B 27 ty 29 i _ 4 56 Tryz.underlying27 hi hz hs hb rfl (by omega) v E.length _ h0 ⟨w.heap.size, 0, none⟩ 1 1 p.cells (by rw [Tc.cells_len]) hnews p.cells_one
    (by unfold maxLen; omega) (by omega) hB0
  refine ⟨v2, w2, k1, by unfold TRw; rw [List.length_append, List.flatMap_append]; simpa using k2, ?_⟩
  exact (hb0.mono hB).grown k3 hB0 (fun k hk => h0.own_ge k hk)

/-- What stands in a row of pairs: so many steps, and the rest. -/
def rowO : Nat → Tm → Option (List Tm)
  | 0, t => some [t]
  | m + 1, .node op _ _ [a, b] => if op = 3 then (rowO m b).map (a :: ·) else none
  | _ + 1, _ => none
def inO (m : Nat) (t : Tm) : Option (List Tm) := if okT t = true then rowO m t else none

/-- What holds in the middle of impl.inRow. -/
structure IrS (m : Nat) (t : Tm) (w : World) (B g : Nat) (k : Nat) (v : Value) (wr : World) (op n : Int) (s : ByteArray) (a : Option Addr) (len cap : Nat) (rest : Tm) (L : List (Tm × Tc)) : Prop where
  km : k ≤ m
  cnt : L.length = k
  row : TRw B (L.map (·.2)) v wr
  cur : RowT 29 wr g op n s a len cap
  lies : Lies w 0 rest (tmCells op n s a len cap)
  ok : okT rest = true
  all : ∀ p ∈ L, Lies w 0 p.1 p.2.cells
  same : rowO m t = (rowO (m - k) rest).map ((L.map (·.1)) ++ ·)
  below : Below w.heap.size w wr
  size : B ≤ wr.heap.size

theorem rowO_no {m : Nat} {op n : Int} {s : ByteArray} {ks : List Tm} (h : op ≠ 3) : rowO (m + 1) (.node op n s ks) = none := by
  match ks with
  | [] => rfl
  | [_] => rfl
  | [_, _] => simp only [rowO]; rw [if_neg h]
  | _ :: _ :: _ :: _ => rfl
theorem rowO_yes {m : Nat} {n : Int} {s : ByteArray} {k0 k1 : Tm} : rowO (m + 1) (.node 3 n s [k0, k1]) = (rowO m k1).map (k0 :: ·) := by
  simp [rowO]
theorem ok_kid1 {n : Int} {s : ByteArray} {k0 k1 : Tm} (h : okT (.node 3 n s [k0, k1]) = true) : okT k1 = true := okT_kid h (by simp)

theorem IrS.step {m : Nat} {t : Tm} {w : World} {B g k : Nat} {v : Value} {wr : World} {n : Int} {s : ByteArray} {b q cap : Nat} {nn : Int} {ss : ByteArray} {k0 k1 : Tm} {L : List (Tm × Tc)}
    (h : IrS m t w B g k v wr 3 n s (some ⟨b, q, none⟩) 2 cap (.node 3 nn ss [k0, k1]) L) (hk : k < m) (hg : g < B) (hwg : w.heap.size ≤ g) (op3 n3 : Int) (s3 : ByteArray) (a3 : Option Addr) (len3 cap3 : Nat) (op4 n4 : Int) (s4 : ByteArray) (a4 : Option Addr) (len4 cap4 : Nat)
    (h3 : Lies w 0 k0 (tmCells op3 n3 s3 a3 len3 cap3)) (h4 : Lies w 0 k1 (tmCells op4 n4 s4 a4 len4 cap4)) (v' : Value) (w' : World) (ht : TRw B (L.map (·.2) ++ [⟨op3, n3, s3, a3, len3, cap3⟩]) v' w') (hb : Below B wr w') :
    IrS m t w B g (k + 1) v' ((((w'.setCell ⟨g, 0, none⟩ (.int .i64 op4)).setCell ⟨g, 1, none⟩ (.int .i64 n4)).setCell ⟨g, 2, none⟩ (.string s4)).setCell ⟨g, 3, none⟩ (.slice a4 len4 cap4)) op4 n4 s4 a4 len4 cap4 k1 (L ++ [(k0, ⟨op3, n3, s3, a3, len3, cap3⟩)]) := by
  have hcur : RowT 29 w' g 3 n s (some ⟨b, q, none⟩) 2 cap := (hb.block g hg).trans h.cur
  refine ⟨hk, by simp [h.cnt], ?_, ?_, h4, ok_kid1 h.ok, ?_, ?_, ?_, ?_⟩
  · rw [List.map_append]
    exact (((ht.set hg _).set hg _).set hg _).set hg _
  · exact hcur.fill _ _ _ _ _ _
  · intro p hp
    rcases List.mem_append.1 hp with hp | hp
    · exact h.all p hp
    · simp only [List.mem_singleton] at hp
      subst hp
      exact h3
  · rw [h.same, show m - k = (m - (k + 1)) + 1 by omega, rowO_yes]
    cases rowO (m - (k + 1)) k1 <;> simp
  · have hx : Below w.heap.size w w' := h.below.trans (hb.mono (by omega))
    exact set4_below hx hwg
  · have := hb.size
    have := h.size
    simp [World.setCell]
    omega

/-- What impl.inRow answers. -/
def InRes (m : Nat) (t : Tm) (x : Addr) (w : World) (e : Ending) (w' : World) : Prop := Below w.heap.size w w' ∧ ((inO m t = none ∧ e = .returned (.tuple #[.slice none 0 0, .iface 202 (.pointer (some x))])) ∨ ∃ (L : List (Tm × Tc)) (v : Value), inO m t = some (L.map (·.1)) ∧ e = .returned (.tuple #[v, .nilIface]) ∧ TRw w.heap.size (L.map (·.2)) v w' ∧ ∀ p ∈ L, Lies w 0 p.1 p.2.cells)

set_option maxRecDepth 100000 in
set_option maxHeartbeats 4000000 in
theorem inRow (m : Nat) (hm : m ≤ 1000) (t : Tm) (op n : Int) (s : ByteArray) (a : Option Addr) (len cap : Nat) (x : Addr) (w : World) (he : ErrAt x w) (hl : Lies w 0 t (tmCells op n s a len cap)) (hsz : t.size ≤ 2097152) :
    Calls Tryz.prog 127 #[.agg #[.int .i64 op, .int .i64 n, .string s, .slice a len cap], .int .i64 ((m + 1 : Nat) : Int)] w fun e w' => InRes m t x w e w' := by
  have hb0 : Below w.heap.size w (w.alloc (.cells #[.int .i64 op, .int .i64 n, .string s, .slice a len cap] 29)) := (Below.refl _ _).alloc (Nat.le_refl _) _
  have HB0 := hide hb0
  cases hok : okT t with
  | false =>
    have HN : Hid (inO m t = none) := by show _ = _; simp [inO, hok]
    have hC := hide (checked_no t op n s a len cap x _ (hl.below hb0) hsz hok (he.on hb0))
    clear hl hsz hok he hb0
    go_enter Tryz.func127, Tryz.ntmps127
    go_wp2_with fail
    refine (unhide hC).mono ?_
    rintro e w1 ⟨rfl, hb1⟩
    have HB1 := hide (bt (bt (unhide HB0) hb1 (Nat.le_refl _)) (ab (.cells #[.int .i64 0, .int .i64 0, .string ByteArray.empty, .slice none 0 0] 29)) (Nat.le_refl _))
    clear hb1
    go_wp2_with fail
    go_ret2
    exact ⟨unhide HB1, Or.inl ⟨unhide HN, rfl⟩⟩
  | true =>
    have hC := hide (checked_yes t op n s a len cap _ (hl.below hb0) hsz hok)
    have HE := hide he
    have HL := hide hl
    have HOK := hide hok
    have q1 : wrap64 (((m + 1 : Nat) : Int) - 1) = (m : Int) := by unfold wrap64; omega
    clear hl hsz hok he hb0
    go_enter Tryz.func127, Tryz.ntmps127
    go_wp2_with fail
    refine (unhide hC).mono ?_
    rintro e w1 ⟨rfl, hb1⟩
    have HB1 := hide (bt (unhide HB0) hb1 (Nat.le_refl _))
    have hg0 : w.heap.size ≤ w1.heap.size := (unhide HB1).size
    clear hb1
    go_wp2_with fail
    have HS : Hid (IrS m t w (w1.heap.size + 1) w1.heap.size 0 (.slice none 0 0) (w1.alloc (.cells #[.int .i64 op, .int .i64 n, .string s, .slice a len cap] 29)) op n s a len cap t []) :=
      ⟨Nat.zero_le _, rfl, TRw.nil _ _, RowT.new 29 w1 op n s a len cap, unhide HL, unhide HOK, fun p hp => by simp at hp, by simp, bt (unhide HB1) (ab _) (Nat.le_refl _), by rw [heap_size_alloc]; omega⟩
    generalize hW : w1.alloc (.cells #[.int .i64 op, .int .i64 n, .string s, .slice a len cap] 29) = W1 at *
    clear hW
    generalize w1.heap.size = g at *
    clear HL hC
    go_loopw [19, 8] (fun i v wr => ∃ (k : Nat) (op n : Int) (s : ByteArray) (a : Option Addr) (len cap : Nat) (rest : Tm) (L : List (Tm × Tc)), i = .int .i64 (k : Int) ∧ IrS m t w (g + 1) g k v wr op n s a len cap rest L) (fun i _ _ => m - (intOf i).toNat)
    case atStart => exact ⟨0, _, _, _, _, _, _, _, _, rfl, unhide HS⟩
    case round =>
      obtain ⟨k, op, n, s, a, len, cap, rest, L, rfl, hS⟩ := hrel
      have HS1 := hide hS
      have hb := hS.below
      have HBR := hide hb
      have hsz := hS.size
      have hkm := hS.km
      obtain ⟨c0, c1, c2, c3⟩ := hS.cur.facts
      have ex := ((unhide HE).on hb).cell
      by_cases hk : k < m
      · have q2 : (k : Int) < (m : Int) := by omega
        have w1 : wrap64 ((k : Int) + 1) = ((k + 1 : Nat) : Int) := by unfold wrap64; omega
        by_cases ho : op = 3
        · subst ho
          obtain ⟨o', n', s', ks⟩ := rest
          obtain rfl := lies_opI hS.lies
          obtain ⟨k0, k1, rfl⟩ := ok_two (Or.inl rfl) hS.ok
          obtain ⟨-, -, -, rfl, b, q, op3, n3, s3, a3, len3, cap3, op4, n4, s4, a4, len4, cap4, rfl, ⟨r0, r1, r2, r3, hk0⟩, r4, r5, r6, r7, hk1⟩ := lies_kids hS.lies
          have HLT : Hid (b < w.heap.size) := lt_of_cell r4
          have HK0 := hide hk0
          have HK1 := hide hk1
          have HR4 := hide r4
          have HR5 := hide r5
          have HR6 := hide r6
          have HR7 := hide r7
          replace r0 := kpc hb r0
          replace r1 := kpc hb r1
          replace r2 := kpc hb r2
          replace r3 := kpc hb r3
          have HAP := hide (hS.row.push ⟨op3, n3, s3, a3, len3, cap3⟩ (by rw [List.length_map, hS.cnt]; omega) hS.size 27)
          clear hS hb hk0 hk1 r4 r5 r6 r7
          go_wp2_with (at_builtin; refine wpList_append_run rfl _ _ 27 rfl u8 (.slice (some ⟨wr.heap.size, 0, none⟩) 1 1) rfl rfl (fun v' w' => TRw (g + 1) (L.map (·.2) ++ [⟨op3, n3, s3, a3, len3, cap3⟩]) v' w' ∧ Below (g + 1) wr w') (unhide HAP) ?_; rintro v5 w5 ⟨t5, b5⟩; have HT5 := hide t5; have HB5 := hide b5; have HC5 := hide ((b5.block g (Nat.lt_succ_self g)).trans (unhide HS1).cur); obtain ⟨e0, e1, e2, e3⟩ := (RowT.facts (show RowT 29 w5 g _ _ _ _ _ _ from unhide HC5)); have f0 := frozen_of_row (unhide HC5) (j := 0); have f1 := frozen_of_row (unhide HC5) (j := 1); have f2 := frozen_of_row (unhide HC5) (j := 2); have f3 := frozen_of_row (unhide HC5) (j := 3); have r4 := (World.cell?_of_block (b5.block b (by have := unhide HLT; omega))).trans (kpc (unhide HBR) (unhide HR4)); have r5 := (World.cell?_of_block (b5.block b (by have := unhide HLT; omega))).trans (kpc (unhide HBR) (unhide HR5)); have r6 := (World.cell?_of_block (b5.block b (by have := unhide HLT; omega))).trans (kpc (unhide HBR) (unhide HR6)); have r7 := (World.cell?_of_block (b5.block b (by have := unhide HLT; omega))).trans (kpc (unhide HBR) (unhide HR7)); clear t5 b5 c0 c1 c2 c3)
          go_roundw
          case rel => exact ⟨k + 1, _, _, _, _, _, _, _, _, rfl, (unhide HS1).step hk (Nat.lt_succ_self g) hg0 op3 n3 s3 a3 len3 cap3 op4 n4 s4 a4 len4 cap4 (unhide HK0) (unhide HK1) _ _ (unhide HT5) (unhide HB5)⟩
          case measure => simp only [intOf]; omega
        · have HN : Hid (inO m t = none) := by
            show _ = _
            unfold inO
            rw [if_pos (unhide HOK), hS.same, show m - k = (m - k - 1) + 1 by omega]
            obtain ⟨o', n', s', ks⟩ := rest
            obtain rfl := lies_opI hS.lies
            rw [rowO_no ho]
            rfl
          clear hS hb
          go_wp2_with fail
          go_region
          go_wp2_with fail
          go_ret2
          exact ⟨(unhide HBR).drew, Or.inl ⟨unhide HN, rfl⟩⟩
      · obtain rfl : k = m := by omega
        have q2 : ¬ (k : Int) < (k : Int) := by omega
        have HN : Hid (inO k t = some ((L ++ [(rest, (⟨op, n, s, a, len, cap⟩ : Tc))]).map (·.1))) := by
          show _ = _
          unfold inO
          rw [if_pos (unhide HOK), hS.same, Nat.sub_self]
          simp [rowO]
        have HAL : Hid (∀ p ∈ L ++ [(rest, (⟨op, n, s, a, len, cap⟩ : Tc))], Lies w 0 p.1 p.2.cells) := fun p hp => by
          rcases List.mem_append.1 hp with hp | hp
          · exact hS.all p hp
          · simp only [List.mem_singleton] at hp
            subst hp
            exact hS.lies
        have HAP := hide (hS.row.push ⟨op, n, s, a, len, cap⟩ (by rw [List.length_map, hS.cnt]; omega) hS.size 27)
        clear hS hb
        go_wp2_with (at_builtin; refine wpList_append_run rfl _ _ 27 rfl u8 (.slice (some ⟨wr.heap.size, 0, none⟩) 1 1) rfl rfl (fun v' w' => TRw (g + 1) (L.map (·.2) ++ [⟨op, n, s, a, len, cap⟩]) v' w' ∧ Below (g + 1) wr w') (unhide HAP) ?_; rintro v5 w5 ⟨t5, b5⟩; have HT5 := hide t5; have HB5 := hide b5; clear t5 b5)
        go_ret2
        refine ⟨(unhide HBR).trans ((unhide HB5).mono (by omega)), Or.inr ⟨L ++ [(rest, ⟨op, n, s, a, len, cap⟩)], _, unhide HN, rfl, ?_, unhide HAL⟩⟩
        rw [List.map_append]
        exact TRw.lower (unhide HT5) (by omega)

set_option maxRecDepth 100000 in
theorem textT_size (s : ByteArray) : (textT s).size = 1 := by simp [textT, Tm.size, Tm.sizes]
set_option maxRecDepth 100000 in
theorem text_lies (s : ByteArray) (hs : s.size ≤ 300) (w : World) : Lies w 0 (textT s) (tmCells 2 0 s none 0 0) := lies_leaf w 2 0 s (by unfold maxLen; omega) (by decide) (by decide)
/-- Two terms in a row. -/
def twoT (t u : Tm) : Tm := .node 3 0 ByteArray.empty [t, u]

set_option maxRecDepth 100000 in
set_option maxHeartbeats 2000000 in
theorem textS (s : ByteArray) (w : World) :
    Calls Tryz.prog 75 #[.string s] w fun e w' => e = .returned (.agg #[.int .i64 2, .int .i64 0, .string s, .slice none 0 0]) ∧ Below w.heap.size w w' := by
  go_enter Tryz.func75, Tryz.ntmps75
  go_wp2_with fail
  exact bodyPost_ret (v := .agg #[.int .i64 2, .int .i64 0, .string s, .slice none 0 0]) (by simp [results, Tryz.results75, go_sem]) rfl ⟨rfl, ab _⟩

set_option maxRecDepth 100000 in
set_option maxHeartbeats 2000000 in
theorem wordI (s : ByteArray) (w : World) :
    Calls Tryz.prog 92 #[.string s] w fun e w' => e = .returned (.agg #[.int .i64 2, .int .i64 0, .string s, .slice none 0 0]) ∧ Below w.heap.size w w' := by
  go_enter Tryz.func92, Tryz.ntmps92
  go_wp2_with fail
  exact bodyPost_ret (v := .agg #[.int .i64 2, .int .i64 0, .string s, .slice none 0 0]) (by simp [results, Tryz.results92, go_sem]) rfl ⟨rfl, ab _⟩

set_option maxRecDepth 100000 in
set_option maxHeartbeats 2000000 in
theorem row0 (op n : Int) (s : ByteArray) (a : Option Addr) (len cap : Nat) (b : Option Addr) (k : Nat) (w : World) :
    Calls Tryz.prog 91 #[.agg #[.int .i64 op, .int .i64 n, .string s, .slice a len cap], .slice b 0 k] w fun e w' => e = .returned (.agg #[.int .i64 op, .int .i64 n, .string s, .slice a len cap]) ∧ Below w.heap.size w w' := by
  go_enter Tryz.func91, Tryz.ntmps91
  go_wp2_with fail
  exact bodyPost_ret (v := .agg #[.int .i64 op, .int .i64 n, .string s, .slice a len cap]) (by simp [results, Tryz.results91, go_sem]) rfl ⟨rfl, bt (ab _) (ab _) (Nat.le_refl _)⟩

/-- What a row of terms leaves: the row lies in every world that keeps what was there at first, and what is new. -/
def RowOk (w0 w w' : World) (T : Tm) (a : Option Addr) : Prop := ∀ W : World, Below w0.heap.size w0 W → (∀ b, w.heap.size ≤ b → b < w'.heap.size → W.heap[b]? = w'.heap[b]?) → Lies W 0 T (tmCells 3 0 ByteArray.empty a 2 2)

set_option maxRecDepth 100000 in
theorem row_cells (w : World) (op n : Int) (s : ByteArray) (a : Option Addr) (len cap : Nat) (op2 n2 : Int) (s2 : ByteArray) (a2 : Option Addr) (len2 cap2 : Nat) (j : Nat) (v : Value) (h : (#[.int .i64 op, .int .i64 n, .string s, .slice a len cap, .int .i64 op2, .int .i64 n2, .string s2, .slice a2 len2 cap2] : Array Value)[j]? = some v) : (w.alloc (.cells #[.int .i64 op, .int .i64 n, .string s, .slice a len cap, .int .i64 op2, .int .i64 n2, .string s2, .slice a2 len2 cap2] 29)).cell? ⟨w.heap.size, j, none⟩ = some v := box_cell w _ 29 j v h

set_option maxRecDepth 100000 in
theorem row_fin {w0 w w2 : World} {g : Nat} {t u : Tm} {op n : Int} {s : ByteArray} {a : Option Addr} {len cap : Nat} {op2 n2 : Int} {s2 : ByteArray} {a2 : Option Addr} {len2 cap2 : Nat} {x0 x1 x2 x3 : Value} (hb : Below w.heap.size w w2) (hg : w.heap.size ≤ g) (hl : Lies w0 0 t (tmCells op n s a len cap))
    (hu : ∀ W : World, Below w0.heap.size w0 W → (∀ b, w2.heap.size ≤ b → b < w2.heap.size → W.heap[b]? = w2.heap[b]?) → (∀ b, g < b → b < w2.heap.size → W.heap[b]? = w2.heap[b]?) → Lies W 0 u (tmCells op2 n2 s2 a2 len2 cap2)) :
    RowOk w0 w (((((w2.setCell ⟨g, 0, none⟩ x0).setCell ⟨g, 1, none⟩ x1).setCell ⟨g, 2, none⟩ x2).setCell ⟨g, 3, none⟩ x3).alloc (.cells #[.int .i64 op, .int .i64 n, .string s, .slice a len cap, .int .i64 op2, .int .i64 n2, .string s2, .slice a2 len2 cap2] 29)) (twoT t u) (some ⟨w2.heap.size, 0, none⟩) ∧
      Below w.heap.size w (((((w2.setCell ⟨g, 0, none⟩ x0).setCell ⟨g, 1, none⟩ x1).setCell ⟨g, 2, none⟩ x2).setCell ⟨g, 3, none⟩ x3).alloc (.cells #[.int .i64 op, .int .i64 n, .string s, .slice a len cap, .int .i64 op2, .int .i64 n2, .string s2, .slice a2 len2 cap2] 29)) := by
  have hX := set4_heap w2 g x0 x1 x2 x3
  have hbX : Below w.heap.size w ((((w2.setCell ⟨g, 0, none⟩ x0).setCell ⟨g, 1, none⟩ x1).setCell ⟨g, 2, none⟩ x2).setCell ⟨g, 3, none⟩ x3) := set4_below hb hg
  have hs := hb.size
  have hXs : ((((w2.setCell ⟨g, 0, none⟩ x0).setCell ⟨g, 1, none⟩ x1).setCell ⟨g, 2, none⟩ x2).setCell ⟨g, 3, none⟩ x3).heap.size = w2.heap.size := by simp
  generalize ((((w2.setCell ⟨g, 0, none⟩ x0).setCell ⟨g, 1, none⟩ x1).setCell ⟨g, 2, none⟩ x2).setCell ⟨g, 3, none⟩ x3) = X at *
  refine ⟨fun W h0 h1 => ?_, bt hbX (ab _) (Nat.le_refl _)⟩
  refine lies_row2 (hl.below h0) (hu W h0 (fun b h2 h3 => absurd h3 (by omega)) (fun b h2 h3 => ?_)) (fun j v hj => ?_) 3 (by decide)
  · rw [h1 b (by omega) (by simp; omega), (ab _).block b (by omega)]
    exact hX b (by omega)
  · rw [World.cell?_of_block (h1 w2.heap.size hs (by simp; omega)), ← hXs]
    exact row_cells X _ _ _ _ _ _ _ _ _ _ _ _ j v hj

set_option maxRecDepth 100000 in
set_option maxHeartbeats 2000000 in
theorem row1 (t u : Tm) (op n : Int) (s : ByteArray) (a : Option Addr) (len cap : Nat) (op2 n2 : Int) (s2 : ByteArray) (a2 : Option Addr) (len2 cap2 : Nat) (b o : Nat) (w0 w : World) (h0 : Below w0.heap.size w0 w) (hl : Lies w0 0 t (tmCells op n s a len cap)) (hu : Lies w0 0 u (tmCells op2 n2 s2 a2 len2 cap2)) (r0 : w.cell? ⟨b, o, none⟩ = some (.int .i64 op2)) (r1 : w.cell? ⟨b, o + 1, none⟩ = some (.int .i64 n2)) (r2 : w.cell? ⟨b, o + 2, none⟩ = some (.string s2)) (r3 : w.cell? ⟨b, o + 3, none⟩ = some (.slice a2 len2 cap2)) :
    Calls Tryz.prog 91 #[.agg #[.int .i64 op, .int .i64 n, .string s, .slice a len cap], .slice (some ⟨b, o, none⟩) 1 1] w fun e w' => ∃ a', e = .returned (.agg #[.int .i64 3, .int .i64 0, .string ByteArray.empty, .slice a' 2 2]) ∧ RowOk w0 w w' (twoT t u) a' ∧ Below w.heap.size w w' := by
  have h25 := hide (fun W => row0 op2 n2 s2 a2 len2 cap2 (some ⟨b, o, none⟩) 0 W)
  have HRA : Hid (RowT 29 ((w.alloc (.cells #[.int .i64 op, .int .i64 n, .string s, .slice a len cap] 29)).alloc (.cells #[.int .i64 0, .int .i64 0, .string ByteArray.empty, .slice none 0 0] 29)) w.heap.size op n s a len cap) := (RowT.new 29 w op n s a len cap).below (ab _)
  have hB : Below w.heap.size w ((w.alloc (.cells #[.int .i64 op, .int .i64 n, .string s, .slice a len cap] 29)).alloc (.cells #[.int .i64 0, .int .i64 0, .string ByteArray.empty, .slice none 0 0] 29)) := bt (ab _) (ab _) (Nat.le_refl _)
  have HS0 : Hid (((w.alloc (.cells #[.int .i64 op, .int .i64 n, .string s, .slice a len cap] 29)).alloc (.cells #[.int .i64 0, .int .i64 0, .string ByteArray.empty, .slice none 0 0] 29)).heap.size = w.heap.size + 2) := by show _ = _; simp
  have HX : Hid (ZBox ((w.alloc (.cells #[.int .i64 op, .int .i64 n, .string s, .slice a len cap] 29)).alloc (.cells #[.int .i64 0, .int .i64 0, .string ByteArray.empty, .slice none 0 0] 29)) (w.heap.size + 1)) := by
    have := ZBox.new (w.alloc (.cells #[.int .i64 op, .int .i64 n, .string s, .slice a len cap] 29))
    rwa [heap_size_alloc] at this
  have r0' := kpc hB r0
  have r1' := kpc hB r1
  have r2' := kpc hB r2
  have r3' := kpc hB r3
  have HB0 := hide (bt h0 hB (Nat.le_refl _))
  have HBW := hide hB
  have hbb : b < w.heap.size := lt_of_cell r0
  have hbn : b ≠ w.heap.size + 1 := by omega
  have hbn' := Ne.symm hbn
  have HL := hide hl
  clear hB h0 hl r0 r1 r2 r3
  go_enter Tryz.func91, Tryz.ntmps91
  go_wp2_with fail
  generalize hgw : ((w.alloc (.cells #[.int .i64 op, .int .i64 n, .string s, .slice a len cap] 29)).alloc (.cells #[.int .i64 0, .int .i64 0, .string ByteArray.empty, .slice none 0 0] 29)) = V at *
  refine gw_world hgw ?_
  clear hgw
  obtain ⟨c0, c1, c2, c3⟩ := (unhide HRA).facts
  go_region_held3 (fun x => x.cell? ⟨w.heap.size, 0, none⟩ = some (.int .i64 op) ∧ x.cell? ⟨w.heap.size, 1, none⟩ = some (.int .i64 n) ∧ x.cell? ⟨w.heap.size, 2, none⟩ = some (.string s) ∧ x.cell? ⟨w.heap.size, 3, none⟩ = some (.slice a len cap) ∧ x.cell? ⟨b, o, none⟩ = some (.int .i64 op2) ∧ x.cell? ⟨b, o + 1, none⟩ = some (.int .i64 n2) ∧ x.cell? ⟨b, o + 2, none⟩ = some (.string s2) ∧ x.cell? ⟨b, o + 3, none⟩ = some (.slice a2 len2 cap2)) (go_keep)
    (first | (go_at_call 91
              refine (unhide h25 _).mono ?_
              rintro e w2 ⟨rfl, hb2⟩
              have hb2' := hide (below_drew' hb2)
              have f0 := kpc (unhide hb2') c0
              have f1 := kpc (unhide hb2') c1
              have f2 := kpc (unhide hb2') c2
              have f3 := kpc (unhide hb2') c3
              have g0 := kpc (unhide hb2') r0'
              have g1 := kpc (unhide hb2') r1'
              have g2 := kpc (unhide hb2') r2'
              have g3 := kpc (unhide hb2') r3'
              have hz2 := (unhide HX).below (unhide hb2')
              have HLT2 := hide (lt_of_heap hz2)
              have HSV := hide (unhide hb2').size
              obtain ⟨d0, d1, d2, d3, e0, e1, e2, e3⟩ := hz2.facts
              have hlt := lt_of_heap hz2
              have hne := Nat.ne_of_lt hlt
              have hne' := Ne.symm hne
              have hlt1 := lt_of_cell f0
              have hne1 := Nat.ne_of_lt hlt1
              have hne1' := Ne.symm hne1
              have hlt2 := lt_of_cell g0
              have hne2 := Nat.ne_of_lt hlt2
              have hne2' := Ne.symm hne2
              have HZ2 := hide hz2
              clear hz2))
  have HF := hide (row_fin (w0 := w0) (g := w.heap.size + 1) (u := u) (x0 := .int .i64 3) (x1 := .int .i64 0) (x2 := .string ⟨#[]⟩) (x3 := .slice (some ⟨w2.heap.size, 0, none⟩) 2 2) (bt (unhide HBW) (unhide hb2') (Nat.le_refl _)) (by omega) (unhide HL) (fun W hW _ _ => hu.below hW))
  clear c0 c1 c2 c3 f0 f1 f2 f3 g0 r0' g1 r1' g2 r2' g3 r3'
  go_wp2_with fail
  have hK := (RowT.fill (ty := 29) (show RowT 29 w2 (w.heap.size + 1) 0 0 ByteArray.empty none 0 0 from unhide HZ2) 3 0 ⟨#[]⟩ (some ⟨w2.heap.size, 0, none⟩) 2 2).below (ab (.cells #[.int .i64 op, .int .i64 n, .string s, .slice a len cap, .int .i64 op2, .int .i64 n2, .string s2, .slice a2 len2 cap2] 29))
  obtain ⟨k0, k1, k2, k3⟩ := hK.facts
  exact bodyPost_ret (v := .agg #[.int .i64 3, .int .i64 0, .string ByteArray.empty, .slice (some ⟨w2.heap.size, 0, none⟩) 2 2]) (by simp [results, Tryz.results91, go_sem, k0, k1, k2, k3]; try rfl) rfl ⟨_, rfl, unhide HF⟩

set_option maxRecDepth 100000 in
set_option maxHeartbeats 2000000 in
theorem row2 (t u v : Tm) (op n : Int) (s : ByteArray) (a : Option Addr) (len cap : Nat) (op2 n2 : Int) (s2 : ByteArray) (a2 : Option Addr) (len2 cap2 : Nat) (op3 n3 : Int) (s3 : ByteArray) (a3 : Option Addr) (len3 cap3 : Nat) (b o : Nat) (w0 w : World) (h0 : Below w0.heap.size w0 w) (hl : Lies w0 0 t (tmCells op n s a len cap)) (hu : Lies w0 0 u (tmCells op2 n2 s2 a2 len2 cap2)) (hv : Lies w0 0 v (tmCells op3 n3 s3 a3 len3 cap3)) (r0 : w.cell? ⟨b, o, none⟩ = some (.int .i64 op2)) (r1 : w.cell? ⟨b, o + 1, none⟩ = some (.int .i64 n2)) (r2 : w.cell? ⟨b, o + 2, none⟩ = some (.string s2)) (r3 : w.cell? ⟨b, o + 3, none⟩ = some (.slice a2 len2 cap2)) (r4 : w.cell? ⟨b, o + 4, none⟩ = some (.int .i64 op3)) (r5 : w.cell? ⟨b, o + 5, none⟩ = some (.int .i64 n3)) (r6 : w.cell? ⟨b, o + 6, none⟩ = some (.string s3)) (r7 : w.cell? ⟨b, o + 7, none⟩ = some (.slice a3 len3 cap3)) :
    Calls Tryz.prog 91 #[.agg #[.int .i64 op, .int .i64 n, .string s, .slice a len cap], .slice (some ⟨b, o, none⟩) 2 2] w fun e w' => ∃ a', e = .returned (.agg #[.int .i64 3, .int .i64 0, .string ByteArray.empty, .slice a' 2 2]) ∧ RowOk w0 w w' (twoT t (twoT u v)) a' ∧ Below w.heap.size w w' := by
  have h25 := hide (fun W h r0 r1 r2 r3 => row1 u v op2 n2 s2 a2 len2 cap2 op3 n3 s3 a3 len3 cap3 b (o + 4) w0 W h hu hv r0 r1 r2 r3)
  have HRA : Hid (RowT 29 ((w.alloc (.cells #[.int .i64 op, .int .i64 n, .string s, .slice a len cap] 29)).alloc (.cells #[.int .i64 0, .int .i64 0, .string ByteArray.empty, .slice none 0 0] 29)) w.heap.size op n s a len cap) := (RowT.new 29 w op n s a len cap).below (ab _)
  have hB : Below w.heap.size w ((w.alloc (.cells #[.int .i64 op, .int .i64 n, .string s, .slice a len cap] 29)).alloc (.cells #[.int .i64 0, .int .i64 0, .string ByteArray.empty, .slice none 0 0] 29)) := bt (ab _) (ab _) (Nat.le_refl _)
  have HS0 : Hid (((w.alloc (.cells #[.int .i64 op, .int .i64 n, .string s, .slice a len cap] 29)).alloc (.cells #[.int .i64 0, .int .i64 0, .string ByteArray.empty, .slice none 0 0] 29)).heap.size = w.heap.size + 2) := by show _ = _; simp
  have HX : Hid (ZBox ((w.alloc (.cells #[.int .i64 op, .int .i64 n, .string s, .slice a len cap] 29)).alloc (.cells #[.int .i64 0, .int .i64 0, .string ByteArray.empty, .slice none 0 0] 29)) (w.heap.size + 1)) := by
    have := ZBox.new (w.alloc (.cells #[.int .i64 op, .int .i64 n, .string s, .slice a len cap] 29))
    rwa [heap_size_alloc] at this
  have r0' := kpc hB r0
  have r1' := kpc hB r1
  have r2' := kpc hB r2
  have r3' := kpc hB r3
  have r4' := kpc hB r4
  have r5' := kpc hB r5
  have r6' := kpc hB r6
  have r7' := kpc hB r7
  have HB0 := hide (bt h0 hB (Nat.le_refl _))
  have HBW := hide hB
  have hbb : b < w.heap.size := lt_of_cell r0
  have hbn : b ≠ w.heap.size + 1 := by omega
  have hbn' := Ne.symm hbn
  have HL := hide hl
  clear hB h0 hl r0 r1 r2 r3 r4 r5 r6 r7
  go_enter Tryz.func91, Tryz.ntmps91
  go_wp2_with fail
  generalize hgw : ((w.alloc (.cells #[.int .i64 op, .int .i64 n, .string s, .slice a len cap] 29)).alloc (.cells #[.int .i64 0, .int .i64 0, .string ByteArray.empty, .slice none 0 0] 29)) = V at *
  refine gw_world hgw ?_
  clear hgw
  obtain ⟨c0, c1, c2, c3⟩ := (unhide HRA).facts
  go_region_held3 (fun x => x.cell? ⟨w.heap.size, 0, none⟩ = some (.int .i64 op) ∧ x.cell? ⟨w.heap.size, 1, none⟩ = some (.int .i64 n) ∧ x.cell? ⟨w.heap.size, 2, none⟩ = some (.string s) ∧ x.cell? ⟨w.heap.size, 3, none⟩ = some (.slice a len cap) ∧ x.cell? ⟨b, o, none⟩ = some (.int .i64 op2) ∧ x.cell? ⟨b, o + 1, none⟩ = some (.int .i64 n2) ∧ x.cell? ⟨b, o + 2, none⟩ = some (.string s2) ∧ x.cell? ⟨b, o + 3, none⟩ = some (.slice a2 len2 cap2) ∧ x.cell? ⟨b, o + 4, none⟩ = some (.int .i64 op3) ∧ x.cell? ⟨b, o + 5, none⟩ = some (.int .i64 n3) ∧ x.cell? ⟨b, o + 6, none⟩ = some (.string s3) ∧ x.cell? ⟨b, o + 7, none⟩ = some (.slice a3 len3 cap3)) (go_keep)
    (first | (go_at_call 91
              refine (unhide h25 _ ((unhide HB0).drew) (kpc (Below.refl _ _).drew r4') (kpc (Below.refl _ _).drew r5') (kpc (Below.refl _ _).drew r6') (kpc (Below.refl _ _).drew r7')).mono ?_
              rintro e w2 ⟨a9, rfl, hR9, hb2⟩
              have HR9 := hide hR9
              have hb2' := hide (below_drew' hb2)
              have f0 := kpc (unhide hb2') c0
              have f1 := kpc (unhide hb2') c1
              have f2 := kpc (unhide hb2') c2
              have f3 := kpc (unhide hb2') c3
              have g0 := kpc (unhide hb2') r0'
              have g1 := kpc (unhide hb2') r1'
              have g2 := kpc (unhide hb2') r2'
              have g3 := kpc (unhide hb2') r3'
              have g4 := kpc (unhide hb2') r4'
              have g5 := kpc (unhide hb2') r5'
              have g6 := kpc (unhide hb2') r6'
              have g7 := kpc (unhide hb2') r7'
              have hz2 := (unhide HX).below (unhide hb2')
              have HLT2 := hide (lt_of_heap hz2)
              have HSV := hide (unhide hb2').size
              obtain ⟨d0, d1, d2, d3, e0, e1, e2, e3⟩ := hz2.facts
              have hlt := lt_of_heap hz2
              have hne := Nat.ne_of_lt hlt
              have hne' := Ne.symm hne
              have hlt1 := lt_of_cell f0
              have hne1 := Nat.ne_of_lt hlt1
              have hne1' := Ne.symm hne1
              have hlt2 := lt_of_cell g0
              have hne2 := Nat.ne_of_lt hlt2
              have hne2' := Ne.symm hne2
              have HZ2 := hide hz2
              clear hz2))
  have HF := hide (row_fin (w0 := w0) (g := w.heap.size + 1) (u := twoT u v) (x0 := .int .i64 3) (x1 := .int .i64 0) (x2 := .string ⟨#[]⟩) (x3 := .slice (some ⟨w2.heap.size, 0, none⟩) 2 2) (bt (unhide HBW) (unhide hb2') (Nat.le_refl _)) (by omega) (unhide HL) (fun W hW _ h2 => unhide HR9 W hW fun b hb hb' => h2 b (by have := unhide HS0; have hb9 : V.heap.size ≤ b := hb; omega) hb'))
  clear c0 c1 c2 c3 f0 f1 f2 f3 g0 r0' g1 r1' g2 r2' g3 r3' g4 r4' g5 r5' g6 r6' g7 r7'
  go_wp2_with fail
  have hK := (RowT.fill (ty := 29) (show RowT 29 w2 (w.heap.size + 1) 0 0 ByteArray.empty none 0 0 from unhide HZ2) 3 0 ⟨#[]⟩ (some ⟨w2.heap.size, 0, none⟩) 2 2).below (ab (.cells #[.int .i64 op, .int .i64 n, .string s, .slice a len cap, .int .i64 3, .int .i64 0, .string ByteArray.empty, .slice a9 2 2] 29))
  obtain ⟨k0, k1, k2, k3⟩ := hK.facts
  exact bodyPost_ret (v := .agg #[.int .i64 3, .int .i64 0, .string ByteArray.empty, .slice (some ⟨w2.heap.size, 0, none⟩) 2 2]) (by simp [results, Tryz.results91, go_sem, k0, k1, k2, k3]; try rfl) rfl ⟨_, rfl, unhide HF⟩

/-- The key of a share, by a number. -/
def keyT (t : Tm) (m : Int) : Tm := madeT 6 [madeT 3 [t, numT m]]

set_option maxRecDepth 100000 in
theorem madeT_le (op : Int) (ks : List Tm) : (madeT op ks).size ≤ 1 + Tm.sizes ks := by
  unfold madeT pickT
  split
  · simp [Tm.size]
  · simp [Tm.size, Tm.sizes]

set_option maxRecDepth 100000 in
set_option maxHeartbeats 2000000 in
theorem keyS (t : Tm) (m : Int) (op n : Int) (s : ByteArray) (a : Option Addr) (len cap : Nat) (w : World) (hl : Lies w 0 t (tmCells op n s a len cap)) (hsz : t.size ≤ 2097140) (h0 : -9223372036854775808 ≤ m) (h1 : m ≤ 9223372036854775807) :
    Calls Tryz.prog 77 #[.agg #[.int .i64 op, .int .i64 n, .string s, .slice a len cap], .int .i64 m] w fun e w' => ∃ op' n' s' a' len' cap', e = .returned (.agg #[.int .i64 op', .int .i64 n', .string s', .slice a' len' cap']) ∧ Lies w' w.heap.size (keyT t m) (tmCells op' n' s' a' len' cap') ∧ Below w.heap.size w w' := by
  have h35 := hide (num_calls m)
  have h15 := hide (pair12 t (numT m) op n s a len cap 2 0 ⟨(Lib.itoa m).toArray⟩ none 0 0)
  have h20 := hide (hash15 (madeT 3 [t, numT m]))
  have HN0 := hide h0
  have HN1 := hide h1
  have HZ1 : Hid (t.size + (numT m).size ≤ 2097151) := by show _ ≤ _; rw [numT_size]; omega
  have HZ2 : Hid ((madeT 3 [t, numT m]).size ≤ 2097151) := by
    show _ ≤ _
    have := madeT_le 3 [t, numT m]
    simp only [Tm.sizes, numT_size] at this
    omega
  have HNL : Hid (∀ v : World, Lies v 0 (numT m) (tmCells 2 0 ⟨(Lib.itoa m).toArray⟩ none 0 0)) := fun v => lies_leaf v 2 0 _ (itoa_size m h0 h1) (by decide) (by decide)
  have HE : Hid (keyT t m = madeT 6 [madeT 3 [t, numT m]]) := rfl
  generalize keyT t m = ST at *
  generalize madeT 3 [t, numT m] = PT at *
  generalize numT m = NT at *
  generalize (⟨(Lib.itoa m).toArray⟩ : ByteArray) = ns at *
  have hB0 : Below w.heap.size w ((w.alloc (.cells #[.int .i64 op, .int .i64 n, .string s, .slice a len cap] 29)).alloc (.cells #[.int .i64 0, .int .i64 0, .string ByteArray.empty, .slice none 0 0] 29)) := bt (ab _) (ab _) (Nat.le_refl _)
  have HX : Hid (ZBox ((w.alloc (.cells #[.int .i64 op, .int .i64 n, .string s, .slice a len cap] 29)).alloc (.cells #[.int .i64 0, .int .i64 0, .string ByteArray.empty, .slice none 0 0] 29)) (w.heap.size + 1)) := by
    have := ZBox.new (w.alloc (.cells #[.int .i64 op, .int .i64 n, .string s, .slice a len cap] 29))
    rwa [heap_size_alloc] at this
  have HRA : Hid (RowT 29 ((w.alloc (.cells #[.int .i64 op, .int .i64 n, .string s, .slice a len cap] 29)).alloc (.cells #[.int .i64 0, .int .i64 0, .string ByteArray.empty, .slice none 0 0] 29)) w.heap.size op n s a len cap) := (RowT.new 29 w op n s a len cap).below (ab _)
  have HLA := hide (hl.below hB0)
  have HB0 := hide hB0
  have HS0 : Hid (((w.alloc (.cells #[.int .i64 op, .int .i64 n, .string s, .slice a len cap] 29)).alloc (.cells #[.int .i64 0, .int .i64 0, .string ByteArray.empty, .slice none 0 0] 29)).heap.size = w.heap.size + 2) := by show _ = _; simp
  clear hl hsz hB0 h0 h1
  go_enter Tryz.func77, Tryz.ntmps77
  go_wp2_with fail
  generalize hgw : ((w.alloc (.cells #[.int .i64 op, .int .i64 n, .string s, .slice a len cap] 29)).alloc (.cells #[.int .i64 0, .int .i64 0, .string ByteArray.empty, .slice none 0 0] 29)) = W0 at *
  refine gw_world hgw ?_
  clear hgw
  obtain ⟨c0, c1, c2, c3⟩ := (unhide HRA).facts
  have hne1 : (w.heap.size = w.heap.size + 1) = False := by simp
  have hsA : w.heap.size + 1 < W0.heap.size := by have := unhide HS0; omega
  go_region_held3 (fun x => x.cell? ⟨w.heap.size, 0, none⟩ = some (.int .i64 op) ∧ x.cell? ⟨w.heap.size, 1, none⟩ = some (.int .i64 n) ∧ x.cell? ⟨w.heap.size, 2, none⟩ = some (.string s) ∧ x.cell? ⟨w.heap.size, 3, none⟩ = some (.slice a len cap)) (go_keep)
    (first
      | (go_at_call 101
         refine (unhide h35 _ (unhide HN0) (unhide HN1)).mono ?_
         rintro e w2 ⟨rfl, hb2⟩
         have hb2' := hide (below_drew' hb2)
         have f0 := kpc (unhide hb2') c0
         have f1 := kpc (unhide hb2') c1
         have f2 := kpc (unhide hb2') c2
         have f3 := kpc (unhide hb2') c3)
      | (go_at_call 74
         refine (unhide h15 _ ((unhide HLA).below (unhide hb2')) (unhide HNL _) (unhide HZ1)).mono ?_
         rintro e w3 ⟨op3, n3, s3, a3, len3, cap3, rfl, hL3, hb3, -⟩
         have hb3' := hide hb3
         have HL3 := hide (hL3.any (Nat.zero_le _))
         have g0 := kpc hb3 f0
         have g1 := kpc hb3 f1
         have g2 := kpc hb3 f2
         have g3 := kpc hb3 f3)
      | (go_at_call 96
         refine (unhide h20 _ _ _ _ _ _ _ (unhide HL3) (unhide HZ2)).mono ?_
         rintro e w4 ⟨op', n', s', a', len', cap', rfl, hL4, hb4, -⟩
         have hb4' := hide hb4
         have HL4 := hide hL4
         obtain ⟨p0, p1, p2, p3, q0, q1, q2, q3⟩ := ((((unhide HX).below (unhide hb2')).below (unhide hb3')).below hb4).facts
         have j0 := kpc hb4 g0
         have j1 := kpc hb4 g1
         have j2 := kpc hb4 g2
         have j3 := kpc hb4 g3))
  have HB4 := hide (bt (bt (bt (unhide HB0) (unhide hb2') (Nat.le_refl _)) (unhide hb3') (Nat.le_refl _)) (unhide hb4') (Nat.le_refl _))
  have HSZ : Hid (w.heap.size + 1 < w3.heap.size) := by show _ < _; have := (unhide hb2').size; have := (unhide hb3').size; omega
  clear f0 f1 f2 f3 c0 c1 c2 c3 g0 g1 g2 g3 j0 j1 j2 j3 hb2' hb3' hb4'
  go_wp2_with fail
  exact bodyPost_ret (v := .agg #[.int .i64 op', .int .i64 n', .string s', .slice a' len' cap']) (by simp [results, Tryz.results77, go_sem, p0, p1, p2, p3]) rfl ⟨op', n', s', a', len', cap', rfl, by rw [unhide HE]; exact set4_lies (unhide HL4) (unhide HSZ) w.heap.size (by have := unhide HSZ; omega), set4_below (unhide HB4) (by omega)⟩

set_option maxRecDepth 100000 in
set_option maxHeartbeats 2000000 in
theorem keyI (t : Tm) (m : Int) (op n : Int) (s : ByteArray) (a : Option Addr) (len cap : Nat) (w : World) (hl : Lies w 0 t (tmCells op n s a len cap)) (hsz : t.size ≤ 2097140) (h0 : -9223372036854775808 ≤ m) (h1 : m ≤ 9223372036854775807) (htab : Tab w) (herr : Err w) :
    Calls Tryz.prog 94 #[.agg #[.int .i64 op, .int .i64 n, .string s, .slice a len cap], .int .i64 m] w fun e w' => ∃ op' n' s' a' len' cap' fp, e = .returned (.agg #[.int .i64 op', .int .i64 n', .string s', .slice a' len' cap']) ∧ Own w' (keyT t m) (tmCells op' n' s' a' len' cap') fp ∧ (fp.Nodup ∧ ∀ x ∈ fp, w.heap.size ≤ x) ∧ Below w.heap.size w w' := by
  have h35 := hide (digitsI m)
  have h15 := hide (pair14 t (numT m) op n s a len cap 2 0 ⟨(Lib.itoa m).toArray⟩ none 0 0)
  have h20 := hide (hash16 (madeT 3 [t, numT m]))
  have HN0 := hide h0
  have HN1 := hide h1
  have HZ1 : Hid (t.size + (numT m).size ≤ 2097151) := by show _ ≤ _; rw [numT_size]; omega
  have HZ2 : Hid ((madeT 3 [t, numT m]).size ≤ 2097151) := by
    show _ ≤ _
    have := madeT_le 3 [t, numT m]
    simp only [Tm.sizes, numT_size] at this
    omega
  have HNL : Hid (∀ v : World, Lies v 0 (numT m) (tmCells 2 0 ⟨(Lib.itoa m).toArray⟩ none 0 0)) := fun v => lies_leaf v 2 0 _ (itoa_size m h0 h1) (by decide) (by decide)
  have HE : Hid (keyT t m = madeT 6 [madeT 3 [t, numT m]]) := rfl
  generalize keyT t m = ST at *
  generalize madeT 3 [t, numT m] = PT at *
  generalize numT m = NT at *
  generalize (⟨(Lib.itoa m).toArray⟩ : ByteArray) = ns at *
  have hB0 : Below w.heap.size w ((w.alloc (.cells #[.int .i64 op, .int .i64 n, .string s, .slice a len cap] 29)).alloc (.cells #[.int .i64 0, .int .i64 0, .string ByteArray.empty, .slice none 0 0] 29)) := bt (ab _) (ab _) (Nat.le_refl _)
  have HX : Hid (ZBox ((w.alloc (.cells #[.int .i64 op, .int .i64 n, .string s, .slice a len cap] 29)).alloc (.cells #[.int .i64 0, .int .i64 0, .string ByteArray.empty, .slice none 0 0] 29)) (w.heap.size + 1)) := by
    have := ZBox.new (w.alloc (.cells #[.int .i64 op, .int .i64 n, .string s, .slice a len cap] 29))
    rwa [heap_size_alloc] at this
  have HRA : Hid (RowT 29 ((w.alloc (.cells #[.int .i64 op, .int .i64 n, .string s, .slice a len cap] 29)).alloc (.cells #[.int .i64 0, .int .i64 0, .string ByteArray.empty, .slice none 0 0] 29)) w.heap.size op n s a len cap) := (RowT.new 29 w op n s a len cap).below (ab _)
  have HLA := hide (hl.below hB0)
  have HTB := hide (htab.on hB0)
  have HER := hide (herr.on hB0)
  have HB0 := hide hB0
  have HS0 : Hid (((w.alloc (.cells #[.int .i64 op, .int .i64 n, .string s, .slice a len cap] 29)).alloc (.cells #[.int .i64 0, .int .i64 0, .string ByteArray.empty, .slice none 0 0] 29)).heap.size = w.heap.size + 2) := by show _ = _; simp
  clear hl hsz hB0 h0 h1 htab herr
  go_enter Tryz.func94, Tryz.ntmps94
  go_wp2_with fail
  generalize hgw : ((w.alloc (.cells #[.int .i64 op, .int .i64 n, .string s, .slice a len cap] 29)).alloc (.cells #[.int .i64 0, .int .i64 0, .string ByteArray.empty, .slice none 0 0] 29)) = W0 at *
  refine gw_world hgw ?_
  clear hgw
  obtain ⟨c0, c1, c2, c3⟩ := (unhide HRA).facts
  have hne1 : (w.heap.size = w.heap.size + 1) = False := by simp
  have hsA : w.heap.size + 1 < W0.heap.size := by have := unhide HS0; omega
  go_region_held3 (fun x => x.cell? ⟨w.heap.size, 0, none⟩ = some (.int .i64 op) ∧ x.cell? ⟨w.heap.size, 1, none⟩ = some (.int .i64 n) ∧ x.cell? ⟨w.heap.size, 2, none⟩ = some (.string s) ∧ x.cell? ⟨w.heap.size, 3, none⟩ = some (.slice a len cap)) (go_keep)
    (first
      | (go_at_call 102
         refine (unhide h35 _ (unhide HN0) (unhide HN1) ((unhide HTB).on ((Below.refl _ _).drew))).mono ?_
         rintro e w2 ⟨rfl, hb2⟩
         have hb2' := hide (below_drew' hb2)
         have f0 := kpc (unhide hb2') c0
         have f1 := kpc (unhide hb2') c1
         have f2 := kpc (unhide hb2') c2
         have f3 := kpc (unhide hb2') c3)
      | (go_at_call 132
         refine (unhide h15 _ ((unhide HLA).below (unhide hb2')) (unhide HNL _) (unhide HZ1) ((unhide HER).on (unhide hb2'))).mono ?_
         rintro e w3 ⟨op3, n3, s3, a3, len3, cap3, f3p, rfl, hL3, _, hb3⟩
         have hb3' := hide hb3
         have HL3 := hide hL3.lies0
         have HER3 := hide (((unhide HER).on (unhide hb2')).on hb3)
         have g0 := kpc hb3 f0
         have g1 := kpc hb3 f1
         have g2 := kpc hb3 f2
         have g3 := kpc hb3 f3)
      | (go_at_call 95
         refine (unhide h20 _ _ _ _ _ _ _ (unhide HL3) (unhide HZ2) (unhide HER3)).mono ?_
         rintro e w4 ⟨op', n', s', a', len', cap', fp, rfl, hO4, ⟨hnd, hge⟩, hb4⟩
         have hb4' := hide hb4
         have HO4 := hide hO4
         have HND := hide hnd
         have HGE := hide hge
         obtain ⟨p0, p1, p2, p3, q0, q1, q2, q3⟩ := ((((unhide HX).below (unhide hb2')).below (unhide hb3')).below hb4).facts
         have j0 := kpc hb4 g0
         have j1 := kpc hb4 g1
         have j2 := kpc hb4 g2
         have j3 := kpc hb4 g3))
  have HB4 := hide (bt (bt (bt (unhide HB0) (unhide hb2') (Nat.le_refl _)) (unhide hb3') (Nat.le_refl _)) (unhide hb4') (Nat.le_refl _))
  have HSZ : Hid (w.heap.size + 1 < w3.heap.size) := by show _ < _; have := (unhide hb2').size; have := (unhide hb3').size; omega
  clear f0 f1 f2 f3 c0 c1 c2 c3 g0 g1 g2 g3 j0 j1 j2 j3 hb2' hb3' hb4'
  go_wp2_with fail
  exact bodyPost_ret (v := .agg #[.int .i64 op', .int .i64 n', .string s', .slice a' len' cap']) (by simp [results, Tryz.results94, go_sem, p0, p1, p2, p3]) rfl ⟨op', n', s', a', len', cap', fp, rfl, by rw [unhide HE]; exact Own.keep _ _ _ (unhide HO4) (fun b hb => set4_heap _ _ _ _ _ _ b (by have := unhide HGE b hb; have := unhide HSZ; omega)), ⟨unhide HND, fun x hx => by have := unhide HGE x hx; have := unhide HSZ; omega⟩, set4_below (unhide HB4) (by omega)⟩

/-- What is signed: the hash of the pair of both. -/
def bothT (t u : Tm) : Tm := madeT 6 [madeT 3 [t, u]]

set_option maxRecDepth 100000 in
theorem zeroT_bad (op n : Int) (s : ByteArray) : okT (.node op n s [.node 0 0 ByteArray.empty []]) = false := by
  cases h : okT (.node op n s [.node 0 0 ByteArray.empty []]) with
  | false => rfl
  | true =>
    have := okT_kid h (List.mem_singleton.2 rfl)
    revert this
    decide
set_option maxRecDepth 100000 in
theorem made_one (op o : Int) (ks : List Tm) : madeT op [madeT o ks] = madeT op [.node o 0 ByteArray.empty ks] := by
  cases h : okT (.node o 0 ByteArray.empty ks) with
  | true => simp only [madeT, h, pickT, if_true]
  | false =>
    have h1 : madeT o ks = .node 0 0 ByteArray.empty [] := by simp [madeT, h, pickT]
    have h2 : okT (.node op 0 ByteArray.empty [.node o 0 ByteArray.empty ks]) = false := by
      cases h3 : okT (.node op 0 ByteArray.empty [.node o 0 ByteArray.empty ks]) with
      | false => rfl
      | true =>
        rw [okT_kid h3 (List.mem_singleton.2 rfl)] at h
        cases h
    rw [h1]
    simp only [madeT, zeroT_bad, h2, pickT, Bool.false_eq_true, if_false]
set_option maxRecDepth 100000 in
theorem both_two (t u : Tm) : madeT 6 [twoT t u] = bothT t u := (made_one 6 3 [t, u]).symm

set_option maxRecDepth 100000 in
set_option maxHeartbeats 2000000 in
theorem bothS (t u : Tm) (op n : Int) (s : ByteArray) (a : Option Addr) (len cap : Nat) (op2 n2 : Int) (s2 : ByteArray) (a2 : Option Addr) (len2 cap2 : Nat) (w : World) (hl : Lies w 0 t (tmCells op n s a len cap)) (hl2 : Lies w 0 u (tmCells op2 n2 s2 a2 len2 cap2)) (hsz : t.size + u.size ≤ 2097140) :
    Calls Tryz.prog 34 #[.agg #[.int .i64 op, .int .i64 n, .string s, .slice a len cap], .agg #[.int .i64 op2, .int .i64 n2, .string s2, .slice a2 len2 cap2]] w fun e w' => ∃ op' n' s' a' len' cap', e = .returned (.agg #[.int .i64 op', .int .i64 n', .string s', .slice a' len' cap']) ∧ Lies w' w.heap.size (bothT t u) (tmCells op' n' s' a' len' cap') ∧ Below w.heap.size w w' := by
  have h22 := hide (pair12 t u op n s a len cap op2 n2 s2 a2 len2 cap2)
  have h21 := hide (hash15 (madeT 3 [t, u]))
  have HZ2 : Hid ((madeT 3 [t, u]).size ≤ 2097151) := by
    show _ ≤ _
    have := madeT_le 3 [t, u]
    simp only [Tm.sizes] at this
    omega
  have HZ1 : Hid (t.size + u.size ≤ 2097151) := by show _ ≤ _; omega
  have HE : Hid (bothT t u = madeT 6 [madeT 3 [t, u]]) := rfl
  generalize bothT t u = ST at *
  generalize madeT 3 [t, u] = PT at *
  have hB0 : Below w.heap.size w (((w.alloc (.cells #[.int .i64 op, .int .i64 n, .string s, .slice a len cap] 29)).alloc (.cells #[.int .i64 op2, .int .i64 n2, .string s2, .slice a2 len2 cap2] 29)).alloc (.cells #[.int .i64 0, .int .i64 0, .string ByteArray.empty, .slice none 0 0] 29)) := bt (bt (ab _) (ab _) (Nat.le_refl _)) (ab _) (Nat.le_refl _)
  have HX : Hid (ZBox (((w.alloc (.cells #[.int .i64 op, .int .i64 n, .string s, .slice a len cap] 29)).alloc (.cells #[.int .i64 op2, .int .i64 n2, .string s2, .slice a2 len2 cap2] 29)).alloc (.cells #[.int .i64 0, .int .i64 0, .string ByteArray.empty, .slice none 0 0] 29)) (w.heap.size + 1 + 1)) := by
    have := ZBox.new ((w.alloc (.cells #[.int .i64 op, .int .i64 n, .string s, .slice a len cap] 29)).alloc (.cells #[.int .i64 op2, .int .i64 n2, .string s2, .slice a2 len2 cap2] 29))
    rwa [heap_size_alloc, heap_size_alloc] at this
  have HS0 : Hid ((((w.alloc (.cells #[.int .i64 op, .int .i64 n, .string s, .slice a len cap] 29)).alloc (.cells #[.int .i64 op2, .int .i64 n2, .string s2, .slice a2 len2 cap2] 29)).alloc (.cells #[.int .i64 0, .int .i64 0, .string ByteArray.empty, .slice none 0 0] 29)).heap.size = w.heap.size + 3) := by show _ = _; simp
  have HLA := hide (hl.below hB0)
  have HLB := hide (hl2.below hB0)
  have HB0 := hide hB0
  clear hl hl2 hsz hB0
  go_enter Tryz.func34, Tryz.ntmps34
  go_wp2_with fail
  refine (unhide h22 _ (unhide HLA) (unhide HLB) (unhide HZ1)).mono ?_
  rintro e w2 ⟨op3, n3, s3, a3, len3, cap3, rfl, hL2, hb2, -⟩
  have HB2 := hide (bt (unhide HB0) hb2 (Nat.le_refl _))
  have HX2 := hide ((unhide HX).below hb2)
  have HL2 := hide (hL2.any (Nat.zero_le _))
  have HSZ : Hid (w.heap.size + 1 + 1 < w2.heap.size) := lt_of_heap (unhide HX2)
  clear hL2 hb2 HB0 HX HLA HLB
  go_wp2_with fail
  refine (unhide h21 _ _ _ _ _ _ _ (unhide HL2) (unhide HZ2)).mono ?_
  rintro e w4 ⟨op', n', s', a', len', cap', rfl, hL4, hb4, -⟩
  have HB4 := hide (bt (unhide HB2) hb4 (Nat.le_refl _))
  have HL4 := hide hL4
  obtain ⟨d0, d1, d2, d3, e0, e1, e2, e3⟩ := ((unhide HX2).below hb4).facts
  clear hL4 hb4 HB2 HX2
  go_wp2_with fail
  exact bodyPost_ret (v := .agg #[.int .i64 op', .int .i64 n', .string s', .slice a' len' cap']) (by simp [results, Tryz.results34, go_sem, d0, d1, d2, d3]) rfl ⟨op', n', s', a', len', cap', rfl, by rw [unhide HE]; exact set4_lies (unhide HL4) (by have := unhide HSZ; omega) w.heap.size (by have := unhide HSZ; omega), set4_below (unhide HB4) (by omega)⟩

set_option maxRecDepth 100000 in
set_option maxHeartbeats 2000000 in
theorem bothI (t u : Tm) (op n : Int) (s : ByteArray) (a : Option Addr) (len cap : Nat) (op2 n2 : Int) (s2 : ByteArray) (a2 : Option Addr) (len2 cap2 : Nat) (w : World) (hl : Lies w 0 t (tmCells op n s a len cap)) (hl2 : Lies w 0 u (tmCells op2 n2 s2 a2 len2 cap2)) (hsz : t.size + u.size ≤ 2097140) (herr : Err w) :
    Calls Tryz.prog 33 #[.agg #[.int .i64 op, .int .i64 n, .string s, .slice a len cap], .agg #[.int .i64 op2, .int .i64 n2, .string s2, .slice a2 len2 cap2]] w fun e w' => ∃ op' n' s' a' len' cap' fp, e = .returned (.agg #[.int .i64 op', .int .i64 n', .string s', .slice a' len' cap']) ∧ Own w' (bothT t u) (tmCells op' n' s' a' len' cap') fp ∧ (fp.Nodup ∧ ∀ x ∈ fp, w.heap.size ≤ x) ∧ Below w.heap.size w w' := by
  have h24 := hide (hash16 (twoT t u))
  have HZ2 : Hid ((twoT t u).size ≤ 2097151) := by
    show _ ≤ _
    simp only [twoT, Tm.size, Tm.sizes]
    omega
  have HE : Hid (bothT t u = madeT 6 [twoT t u]) := (both_two t u).symm
  generalize bothT t u = ST at *
  have hB0 : Below w.heap.size w (((w.alloc (.cells #[.int .i64 op, .int .i64 n, .string s, .slice a len cap] 29)).alloc (.cells #[.int .i64 op2, .int .i64 n2, .string s2, .slice a2 len2 cap2] 29)).alloc (.cells #[.int .i64 0, .int .i64 0, .string ByteArray.empty, .slice none 0 0] 29)) := bt (bt (ab _) (ab _) (Nat.le_refl _)) (ab _) (Nat.le_refl _)
  have HX : Hid (ZBox (((w.alloc (.cells #[.int .i64 op, .int .i64 n, .string s, .slice a len cap] 29)).alloc (.cells #[.int .i64 op2, .int .i64 n2, .string s2, .slice a2 len2 cap2] 29)).alloc (.cells #[.int .i64 0, .int .i64 0, .string ByteArray.empty, .slice none 0 0] 29)) (w.heap.size + 1 + 1)) := by
    have := ZBox.new ((w.alloc (.cells #[.int .i64 op, .int .i64 n, .string s, .slice a len cap] 29)).alloc (.cells #[.int .i64 op2, .int .i64 n2, .string s2, .slice a2 len2 cap2] 29))
    rwa [heap_size_alloc, heap_size_alloc] at this
  have HS0 : Hid ((((w.alloc (.cells #[.int .i64 op, .int .i64 n, .string s, .slice a len cap] 29)).alloc (.cells #[.int .i64 op2, .int .i64 n2, .string s2, .slice a2 len2 cap2] 29)).alloc (.cells #[.int .i64 0, .int .i64 0, .string ByteArray.empty, .slice none 0 0] 29)).heap.size = w.heap.size + 3) := by show _ = _; simp
  have HB0 := hide hB0
  have HER := hide (herr.on hB0)
  have hB1 := bt hB0 (ab (.cells #[.int .i64 op2, .int .i64 n2, .string s2, .slice a2 len2 cap2] 29)) (Nat.le_refl _)
  have HB1 := hide hB1
  have HX1 := hide ((unhide HX).below (ab (.cells #[.int .i64 op2, .int .i64 n2, .string s2, .slice a2 len2 cap2] 29)))
  have HR2 := hide (RowT.new 29 (((w.alloc (.cells #[.int .i64 op, .int .i64 n, .string s, .slice a len cap] 29)).alloc (.cells #[.int .i64 op2, .int .i64 n2, .string s2, .slice a2 len2 cap2] 29)).alloc (.cells #[.int .i64 0, .int .i64 0, .string ByteArray.empty, .slice none 0 0] 29)) op2 n2 s2 a2 len2 cap2)
  have h25 := hide (fun b r0 r1 r2 r3 => row1 t u op n s a len cap op2 n2 s2 a2 len2 cap2 b 0 w ((((w.alloc (.cells #[.int .i64 op, .int .i64 n, .string s, .slice a len cap] 29)).alloc (.cells #[.int .i64 op2, .int .i64 n2, .string s2, .slice a2 len2 cap2] 29)).alloc (.cells #[.int .i64 0, .int .i64 0, .string ByteArray.empty, .slice none 0 0] 29)).alloc (.cells #[.int .i64 op2, .int .i64 n2, .string s2, .slice a2 len2 cap2] 29)) hB1 hl hl2 r0 r1 r2 r3)
  clear hl hl2 hsz hB0 hB1 herr
  go_enter Tryz.func33, Tryz.ntmps33
  go_wp2_with fail
  obtain ⟨c0, c1, c2, c3⟩ := (unhide HR2).facts
  simp only [heap_size_alloc] at c0 c1 c2 c3
  refine (unhide h25 _ c0 c1 c2 c3).mono ?_
  rintro e w2 ⟨a9, rfl, hR2, hb2⟩
  have HL2 := hide (hR2 w2 (bt (unhide HB1) hb2 (Nat.le_refl _)) (fun _ _ _ => rfl))
  have HB2 := hide (bt (unhide HB1) hb2 (Nat.le_refl _))
  have HX2 := hide ((unhide HX1).below hb2)
  have HER2 := hide (((unhide HER).on (ab _)).on hb2)
  have HSZ : Hid (w.heap.size + 1 + 1 < w2.heap.size) := lt_of_heap (unhide HX2)
  clear hR2 hb2 c0 c1 c2 c3 HB0 HB1 HX HX1 HR2 HER
  go_wp2_with fail
  refine (unhide h24 _ _ _ _ _ _ _ (unhide HL2) (unhide HZ2) (unhide HER2)).mono ?_
  rintro e w4 ⟨op', n', s', a', len', cap', fp, rfl, hO4, ⟨hnd, hge⟩, hb4⟩
  have HB4 := hide (bt (unhide HB2) hb4 (Nat.le_refl _))
  have HO4 := hide hO4
  have HND := hide hnd
  have HGE := hide hge
  obtain ⟨d0, d1, d2, d3, e0, e1, e2, e3⟩ := ((unhide HX2).below hb4).facts
  clear hO4 hb4 hnd hge HB2 HX2
  go_wp2_with fail
  exact bodyPost_ret (v := .agg #[.int .i64 op', .int .i64 n', .string s', .slice a' len' cap']) (by simp [results, Tryz.results33, go_sem, d0, d1, d2, d3]) rfl ⟨op', n', s', a', len', cap', fp, rfl, by rw [unhide HE]; exact Own.keep _ _ _ (unhide HO4) (fun b hb => set4_heap _ _ _ _ _ _ b (by have := unhide HGE b hb; have := unhide HSZ; omega)), ⟨unhide HND, fun x hx => by have := unhide HGE x hx; have := unhide HSZ; omega⟩, set4_below (unhide HB4) (by omega)⟩

end Go.Proofs.YtmklgikbajhcpaaGreatDoor
