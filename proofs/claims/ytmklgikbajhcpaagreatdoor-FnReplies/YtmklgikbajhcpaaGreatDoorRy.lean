
/- The walk of spec.ReplyOf where it reads a reply; and both ways, told by what is read. -/
import Derived.Test.YtmklgikbajhcpaaGreatDoorRv
import Derived.Test.YtmklgikbajhcpaaGreatDoorSa
namespace Go.Proofs.YtmklgikbajhcpaaGreatDoor
open Go.RowKit Go.Deep

theorem all_call1 {ops : Array Oper} {Q : Exit → Act → World → Prop} {S : World → Prop} {md : Region.Mode} {P : Program} {i d f t : Nat} {fn : Func} {ats : Array TypeId} {ty : TypeId} {pos : String} {after : Array Edge} {fuel : Nat} {listed : Array Bool} {a : Act} {w : World} {v0 : Value}
    (hr : Region.ready md ops listed = [i])
    (ho : ops[i]? = some { dst := some d, op := .call { callee := .value (.func f), args := #[.tmp t], argTypes := ats }, type := ty, pos := pos, after := after, guard := none })
    (hf : P.funcs[f]? = some fn) (hn : (fn.name == "runtime.NumGoroutine") = false) (hb : fn.body.isNone = false)
    (hx : a.eval (.tmp t) = v0)
    (h : Calls P f #[v0] w fun e w' => ∃ v, e = .returned v ∧ S w' ∧ (S w' → wpAnyH P md ops Q S fuel (listed.setIfInBounds i true) (a.put (some d) v) w')) : wpAnyH P md ops Q S (fuel + 1) listed a w :=
  wpAnyH_all hr (by simp) fun j hj => by
    obtain rfl : j = i := by simpa using hj
    refine step_call ho hf hn hb ?_
    simp only [List.map_toArray, List.map_cons, List.map_nil]
    rw [hx]
    exact h.mono fun e w' ⟨v, he, hS, hk⟩ => ⟨v, he, hS, hk hS⟩
theorem ok_opOf {t : Tm} (h : okT t = true) : t.opOf ≠ 0 := by
  cases t with
  | node op n s ks => exact ok_op h
theorem ne_of_zbox {w : World} {g b o : Nat} {op : Int} (hz : RowT 29 w g 0 0 ⟨#[]⟩ none 0 0) (h : w.cell? ⟨b, o, none⟩ = some (.int .i64 op)) (h0 : op ≠ 0) : b ≠ g := by
  rintro rfl
  exact h0 (zbox_int (w := w) (g := b) (show w.heap[b]? = some (.cells #[.int .i64 0, .int .i64 0, .string ByteArray.empty, .slice none 0 0] 29 (0, 0)) from hz) h)
theorem cell_same {w w' : World} {b o : Nat} {v : Value} (h : w.cell? ⟨b, o, none⟩ = some v) (e : w'.heap[b]? = w.heap[b]?) : w'.cell? ⟨b, o, none⟩ = some v := (World.cell?_of_block e).trans h
theorem cell_fill {w : World} {g b o : Nat} {v : Value} {op n : Int} {s : ByteArray} {a : Option Addr} {len cap : Nat} (h : w.cell? ⟨b, o, none⟩ = some v) (hne : b ≠ g) : (fill4 w g op n s a len cap).cell? ⟨b, o, none⟩ = some v :=
  cell_same h (set4_heap w g (.int .i64 op) (.int .i64 n) (.string s) (.slice a len cap) b hne)
theorem fill_lies {w : World} {g : Nat} {op n : Int} {s : ByteArray} {a : Option Addr} {len cap : Nat} {t : Tm} {cs : List Value} (hz : RowT 29 w g 0 0 ⟨#[]⟩ none 0 0) (hok : okT t = true) (h : Lies w 0 t cs) : Lies (fill4 w g op n s a len cap) 0 t cs :=
  Lies.apartZ (show ZBox w g from hz) (fun b _ hne => World.cell?_of_block (set4_heap _ _ _ _ _ _ b hne)) t cs hok h
theorem fill_four_lies {w : World} {g : Nat} {op0 n0 op1 n1 op2 n2 op3 n3 : Int} {s0 s1 s2 s3 : ByteArray} {a0 a1 a2 a3 : Option Addr} {l0 k0 l1 k1 l2 k2 l3 k3 : Nat} {t : Tm} {cs : List Value} (h0 : RowT 29 w g 0 0 ⟨#[]⟩ none 0 0) (h1 : RowT 29 w (g + 1) 0 0 ⟨#[]⟩ none 0 0) (h2 : RowT 29 w (g + 1 + 1) 0 0 ⟨#[]⟩ none 0 0) (h3 : RowT 29 w (g + 1 + 1 + 1) 0 0 ⟨#[]⟩ none 0 0) (hok : okT t = true) (h : Lies w 0 t cs) :
    Lies (fill4 (fill4 (fill4 (fill4 w g op0 n0 s0 a0 l0 k0) (g + 1) op1 n1 s1 a1 l1 k1) (g + 1 + 1) op2 n2 s2 a2 l2 k2) (g + 1 + 1 + 1) op3 n3 s3 a3 l3 k3) 0 t cs :=
  fill_lies (RowT.other (RowT.other (RowT.other h3 (zne _).1.2.2) (zne _).2.1.2) (zne _).2.2) hok (fill_lies (RowT.other (RowT.other h2 (zne _).1.2.1) (zne _).2.1.1) hok (fill_lies (RowT.other h1 (zne _).1.1) hok (fill_lies h0 hok h)))

/-- Four terms that lie somewhere. -/
def FourS (pub sh c g : Tm) (w : World) (q : Ending) (w' : World) : Prop := ∃ op4 n4 s4 a4 len4 cap4 op6 n6 s6 a6 len6 cap6 op9 n9 s9 a9 len9 cap9 op10 n10 s10 a10 len10 cap10, q = .returned (.tuple #[.agg #[.int .i64 op4, .int .i64 n4, .string s4, .slice a4 len4 cap4], .agg #[.int .i64 op6, .int .i64 n6, .string s6, .slice a6 len6 cap6], .agg #[.int .i64 op9, .int .i64 n9, .string s9, .slice a9 len9 cap9], .agg #[.int .i64 op10, .int .i64 n10, .string s10, .slice a10 len10 cap10], .bool true]) ∧ Lies w' 0 pub (tmCells op4 n4 s4 a4 len4 cap4) ∧ Lies w' 0 sh (tmCells op6 n6 s6 a6 len6 cap6) ∧ Lies w' 0 c (tmCells op9 n9 s9 a9 len9 cap9) ∧ Lies w' 0 g (tmCells op10 n10 s10 a10 len10 cap10) ∧ Below w.heap.size w w'

set_option maxRecDepth 100000 in
set_option maxHeartbeats 8000000 in
theorem rofS_body_yes (e t pub sealed c g : Tm) (nx n2' : Int) (sx s2' : ByteArray) (op n : Int) (s : ByteArray) (a : Option Addr) (len cap : Nat) (op2 n2 : Int) (s2 : ByteArray) (a2 : Option Addr) (len2 cap2 : Nat) (w : World) (hl : Lies w 0 e (tmCells op n s a len cap)) (hl2 : Lies w 0 t (tmCells op2 n2 s2 a2 len2 cap2)) (hst : e.size + t.size ≤ 1048578) (hb : behO 3 (textT replyW) t = some (.node 3 nx sx [pub, sealed])) (ha : agreeB e pub = true) (ho : openO (keyT (agreeT e pub) 0) 0 sealed = some (.node 3 n2' s2' [c, g])) : Calls Tryz.prog 20 #[.agg #[.int .i64 op, .int .i64 n, .string s, .slice a len cap], .agg #[.int .i64 op2, .int .i64 n2, .string s2, .slice a2 len2 cap2]] w fun q w' => FourS pub (agreeT e pub) c g w q w' := by
  have HA := hide ha
  have HO := hide ho
  have hOKB := openO_ok ho
  have hCC := hide (fun op5 n5 s5 a5 len5 cap5 V h1 => cz_calls c op5 n5 s5 a5 len5 cap5 V h1 (by have := okT_small (okT_kid hOKB (x := c) (by simp)); omega))
  have hCG := hide (fun op5 n5 s5 a5 len5 cap5 V h1 => cz_calls g op5 n5 s5 a5 len5 cap5 V h1 (by have := okT_small (okT_kid hOKB (x := g) (by simp)); omega))
  clear ha ho hOKB
  have HBH := hide hb
  obtain ⟨hp0, hp1, hpz, -⟩ := inO_of_named hb
  have HOP := hide hp0
  have HKZ := hide hpz
  have hN := hide (fun V hl => named_some t (.node 3 nx sx [pub, sealed]) replyW (by decide) op2 n2 s2 a2 len2 cap2 V hl (by omega) hb)
  have hAG := hide (fun op5 n5 s5 a5 len5 cap5 V h1 h2 => agree_calls e pub op n s a len cap op5 n5 s5 a5 len5 cap5 V h1 h2 (by omega))
  have HSZ : Hid (sealed.size ≤ 1048578) := by show _ ≤ _; omega
  have hCP := hide (fun op5 n5 s5 a5 len5 cap5 V h1 => cz_calls pub op5 n5 s5 a5 len5 cap5 V h1 (by have := okT_small hp0; omega))
  clear hp0 hp1 hpz hst hb
  have hb0 : Below w.heap.size w (((((((w.alloc (.cells #[.int .i64 op, .int .i64 n, .string s, .slice a len cap] 29)).alloc (.cells #[.int .i64 op2, .int .i64 n2, .string s2, .slice a2 len2 cap2] 29)).alloc (.cells #[.int .i64 0, .int .i64 0, .string ⟨#[]⟩, .slice none 0 0] 29)).alloc (.cells #[.int .i64 0, .int .i64 0, .string ⟨#[]⟩, .slice none 0 0] 29)).alloc (.cells #[.int .i64 0, .int .i64 0, .string ⟨#[]⟩, .slice none 0 0] 29)).alloc (.cells #[.int .i64 0, .int .i64 0, .string ⟨#[]⟩, .slice none 0 0] 29)).alloc (.cells #[.int .i64 0, .int .i64 0, .string ⟨#[]⟩, .slice none 0 0] 29)) := bt (bt (bt (bt (bt (bt (ab _) (ab _) (Nat.le_refl _)) (ab _) (Nat.le_refl _)) (ab _) (Nat.le_refl _)) (ab _) (Nat.le_refl _)) (ab _) (Nat.le_refl _)) (ab _) (Nat.le_refl _)
  have HZ0 : Hid (RowT 29 (((((((w.alloc (.cells #[.int .i64 op, .int .i64 n, .string s, .slice a len cap] 29)).alloc (.cells #[.int .i64 op2, .int .i64 n2, .string s2, .slice a2 len2 cap2] 29)).alloc (.cells #[.int .i64 0, .int .i64 0, .string ⟨#[]⟩, .slice none 0 0] 29)).alloc (.cells #[.int .i64 0, .int .i64 0, .string ⟨#[]⟩, .slice none 0 0] 29)).alloc (.cells #[.int .i64 0, .int .i64 0, .string ⟨#[]⟩, .slice none 0 0] 29)).alloc (.cells #[.int .i64 0, .int .i64 0, .string ⟨#[]⟩, .slice none 0 0] 29)).alloc (.cells #[.int .i64 0, .int .i64 0, .string ⟨#[]⟩, .slice none 0 0] 29)) (w.heap.size + 1 + 1) 0 0 ⟨#[]⟩ none 0 0) := by
    have := ((((RowT.new 29 ((w.alloc (.cells #[.int .i64 op, .int .i64 n, .string s, .slice a len cap] 29)).alloc (.cells #[.int .i64 op2, .int .i64 n2, .string s2, .slice a2 len2 cap2] 29)) 0 0 ⟨#[]⟩ none 0 0).below (ab (.cells #[.int .i64 0, .int .i64 0, .string ⟨#[]⟩, .slice none 0 0] 29))).below (ab (.cells #[.int .i64 0, .int .i64 0, .string ⟨#[]⟩, .slice none 0 0] 29))).below (ab (.cells #[.int .i64 0, .int .i64 0, .string ⟨#[]⟩, .slice none 0 0] 29))).below (ab (.cells #[.int .i64 0, .int .i64 0, .string ⟨#[]⟩, .slice none 0 0] 29))
    rwa [heap_size_alloc, heap_size_alloc] at this
  have HZ1 : Hid (RowT 29 (((((((w.alloc (.cells #[.int .i64 op, .int .i64 n, .string s, .slice a len cap] 29)).alloc (.cells #[.int .i64 op2, .int .i64 n2, .string s2, .slice a2 len2 cap2] 29)).alloc (.cells #[.int .i64 0, .int .i64 0, .string ⟨#[]⟩, .slice none 0 0] 29)).alloc (.cells #[.int .i64 0, .int .i64 0, .string ⟨#[]⟩, .slice none 0 0] 29)).alloc (.cells #[.int .i64 0, .int .i64 0, .string ⟨#[]⟩, .slice none 0 0] 29)).alloc (.cells #[.int .i64 0, .int .i64 0, .string ⟨#[]⟩, .slice none 0 0] 29)).alloc (.cells #[.int .i64 0, .int .i64 0, .string ⟨#[]⟩, .slice none 0 0] 29)) (w.heap.size + 1 + 1 + 1) 0 0 ⟨#[]⟩ none 0 0) := by
    have := (((RowT.new 29 (((w.alloc (.cells #[.int .i64 op, .int .i64 n, .string s, .slice a len cap] 29)).alloc (.cells #[.int .i64 op2, .int .i64 n2, .string s2, .slice a2 len2 cap2] 29)).alloc (.cells #[.int .i64 0, .int .i64 0, .string ⟨#[]⟩, .slice none 0 0] 29)) 0 0 ⟨#[]⟩ none 0 0).below (ab (.cells #[.int .i64 0, .int .i64 0, .string ⟨#[]⟩, .slice none 0 0] 29))).below (ab (.cells #[.int .i64 0, .int .i64 0, .string ⟨#[]⟩, .slice none 0 0] 29))).below (ab (.cells #[.int .i64 0, .int .i64 0, .string ⟨#[]⟩, .slice none 0 0] 29))
    rwa [heap_size_alloc, heap_size_alloc, heap_size_alloc] at this
  have HZ2 : Hid (RowT 29 (((((((w.alloc (.cells #[.int .i64 op, .int .i64 n, .string s, .slice a len cap] 29)).alloc (.cells #[.int .i64 op2, .int .i64 n2, .string s2, .slice a2 len2 cap2] 29)).alloc (.cells #[.int .i64 0, .int .i64 0, .string ⟨#[]⟩, .slice none 0 0] 29)).alloc (.cells #[.int .i64 0, .int .i64 0, .string ⟨#[]⟩, .slice none 0 0] 29)).alloc (.cells #[.int .i64 0, .int .i64 0, .string ⟨#[]⟩, .slice none 0 0] 29)).alloc (.cells #[.int .i64 0, .int .i64 0, .string ⟨#[]⟩, .slice none 0 0] 29)).alloc (.cells #[.int .i64 0, .int .i64 0, .string ⟨#[]⟩, .slice none 0 0] 29)) (w.heap.size + 1 + 1 + 1 + 1) 0 0 ⟨#[]⟩ none 0 0) := by
    have := ((RowT.new 29 ((((w.alloc (.cells #[.int .i64 op, .int .i64 n, .string s, .slice a len cap] 29)).alloc (.cells #[.int .i64 op2, .int .i64 n2, .string s2, .slice a2 len2 cap2] 29)).alloc (.cells #[.int .i64 0, .int .i64 0, .string ⟨#[]⟩, .slice none 0 0] 29)).alloc (.cells #[.int .i64 0, .int .i64 0, .string ⟨#[]⟩, .slice none 0 0] 29)) 0 0 ⟨#[]⟩ none 0 0).below (ab (.cells #[.int .i64 0, .int .i64 0, .string ⟨#[]⟩, .slice none 0 0] 29))).below (ab (.cells #[.int .i64 0, .int .i64 0, .string ⟨#[]⟩, .slice none 0 0] 29))
    rwa [heap_size_alloc, heap_size_alloc, heap_size_alloc, heap_size_alloc] at this
  have HZ3 : Hid (RowT 29 (((((((w.alloc (.cells #[.int .i64 op, .int .i64 n, .string s, .slice a len cap] 29)).alloc (.cells #[.int .i64 op2, .int .i64 n2, .string s2, .slice a2 len2 cap2] 29)).alloc (.cells #[.int .i64 0, .int .i64 0, .string ⟨#[]⟩, .slice none 0 0] 29)).alloc (.cells #[.int .i64 0, .int .i64 0, .string ⟨#[]⟩, .slice none 0 0] 29)).alloc (.cells #[.int .i64 0, .int .i64 0, .string ⟨#[]⟩, .slice none 0 0] 29)).alloc (.cells #[.int .i64 0, .int .i64 0, .string ⟨#[]⟩, .slice none 0 0] 29)).alloc (.cells #[.int .i64 0, .int .i64 0, .string ⟨#[]⟩, .slice none 0 0] 29)) (w.heap.size + 1 + 1 + 1 + 1 + 1) 0 0 ⟨#[]⟩ none 0 0) := by
    have := (RowT.new 29 (((((w.alloc (.cells #[.int .i64 op, .int .i64 n, .string s, .slice a len cap] 29)).alloc (.cells #[.int .i64 op2, .int .i64 n2, .string s2, .slice a2 len2 cap2] 29)).alloc (.cells #[.int .i64 0, .int .i64 0, .string ⟨#[]⟩, .slice none 0 0] 29)).alloc (.cells #[.int .i64 0, .int .i64 0, .string ⟨#[]⟩, .slice none 0 0] 29)).alloc (.cells #[.int .i64 0, .int .i64 0, .string ⟨#[]⟩, .slice none 0 0] 29)) 0 0 ⟨#[]⟩ none 0 0).below (ab (.cells #[.int .i64 0, .int .i64 0, .string ⟨#[]⟩, .slice none 0 0] 29))
    rwa [heap_size_alloc, heap_size_alloc, heap_size_alloc, heap_size_alloc, heap_size_alloc] at this
  have HZ4 : Hid (RowT 29 (((((((w.alloc (.cells #[.int .i64 op, .int .i64 n, .string s, .slice a len cap] 29)).alloc (.cells #[.int .i64 op2, .int .i64 n2, .string s2, .slice a2 len2 cap2] 29)).alloc (.cells #[.int .i64 0, .int .i64 0, .string ⟨#[]⟩, .slice none 0 0] 29)).alloc (.cells #[.int .i64 0, .int .i64 0, .string ⟨#[]⟩, .slice none 0 0] 29)).alloc (.cells #[.int .i64 0, .int .i64 0, .string ⟨#[]⟩, .slice none 0 0] 29)).alloc (.cells #[.int .i64 0, .int .i64 0, .string ⟨#[]⟩, .slice none 0 0] 29)).alloc (.cells #[.int .i64 0, .int .i64 0, .string ⟨#[]⟩, .slice none 0 0] 29)) (w.heap.size + 1 + 1 + 1 + 1 + 1 + 1) 0 0 ⟨#[]⟩ none 0 0) := by
    have := RowT.new 29 ((((((w.alloc (.cells #[.int .i64 op, .int .i64 n, .string s, .slice a len cap] 29)).alloc (.cells #[.int .i64 op2, .int .i64 n2, .string s2, .slice a2 len2 cap2] 29)).alloc (.cells #[.int .i64 0, .int .i64 0, .string ⟨#[]⟩, .slice none 0 0] 29)).alloc (.cells #[.int .i64 0, .int .i64 0, .string ⟨#[]⟩, .slice none 0 0] 29)).alloc (.cells #[.int .i64 0, .int .i64 0, .string ⟨#[]⟩, .slice none 0 0] 29)).alloc (.cells #[.int .i64 0, .int .i64 0, .string ⟨#[]⟩, .slice none 0 0] 29)) 0 0 ⟨#[]⟩ none 0 0
    rwa [heap_size_alloc, heap_size_alloc, heap_size_alloc, heap_size_alloc, heap_size_alloc, heap_size_alloc] at this
  have HE0 : Hid (RowT 29 (((((((w.alloc (.cells #[.int .i64 op, .int .i64 n, .string s, .slice a len cap] 29)).alloc (.cells #[.int .i64 op2, .int .i64 n2, .string s2, .slice a2 len2 cap2] 29)).alloc (.cells #[.int .i64 0, .int .i64 0, .string ⟨#[]⟩, .slice none 0 0] 29)).alloc (.cells #[.int .i64 0, .int .i64 0, .string ⟨#[]⟩, .slice none 0 0] 29)).alloc (.cells #[.int .i64 0, .int .i64 0, .string ⟨#[]⟩, .slice none 0 0] 29)).alloc (.cells #[.int .i64 0, .int .i64 0, .string ⟨#[]⟩, .slice none 0 0] 29)).alloc (.cells #[.int .i64 0, .int .i64 0, .string ⟨#[]⟩, .slice none 0 0] 29)) w.heap.size op n s a len cap) := ((((((RowT.new 29 w op n s a len cap).below (ab (.cells #[.int .i64 op2, .int .i64 n2, .string s2, .slice a2 len2 cap2] 29))).below (ab (.cells #[.int .i64 0, .int .i64 0, .string ⟨#[]⟩, .slice none 0 0] 29))).below (ab (.cells #[.int .i64 0, .int .i64 0, .string ⟨#[]⟩, .slice none 0 0] 29))).below (ab (.cells #[.int .i64 0, .int .i64 0, .string ⟨#[]⟩, .slice none 0 0] 29))).below (ab (.cells #[.int .i64 0, .int .i64 0, .string ⟨#[]⟩, .slice none 0 0] 29))).below (ab (.cells #[.int .i64 0, .int .i64 0, .string ⟨#[]⟩, .slice none 0 0] 29))
  have HLE := hide (hl.below hb0)
  have HL2 := hide (hl2.below hb0)
  have HB0 := hide hb0
  clear hl hl2 hb0
  go_enter Tryz.func20, Tryz.ntmps20
  go_wp2_with fail
  generalize hgw : (((((((w.alloc (.cells #[.int .i64 op, .int .i64 n, .string s, .slice a len cap] 29)).alloc (.cells #[.int .i64 op2, .int .i64 n2, .string s2, .slice a2 len2 cap2] 29)).alloc (.cells #[.int .i64 0, .int .i64 0, .string ⟨#[]⟩, .slice none 0 0] 29)).alloc (.cells #[.int .i64 0, .int .i64 0, .string ⟨#[]⟩, .slice none 0 0] 29)).alloc (.cells #[.int .i64 0, .int .i64 0, .string ⟨#[]⟩, .slice none 0 0] 29)).alloc (.cells #[.int .i64 0, .int .i64 0, .string ⟨#[]⟩, .slice none 0 0] 29)).alloc (.cells #[.int .i64 0, .int .i64 0, .string ⟨#[]⟩, .slice none 0 0] 29)) = W1 at *
  clear hgw
  refine (unhide hN _ (unhide HL2)).mono ?_
  rintro q w1 ⟨op3, n3, s3, a3, len3, cap3, rfl, hl3, hb1⟩
  obtain ⟨rfl, rfl, rfl, rfl, b, o, op5, n5, s5, a5, len5, cap5, op6, n6, s6, a6, len6, cap6, rfl, ⟨r0, r1, r2, r3, hk0⟩, r4, r5, r6, r7, hk1⟩ := lies_kids (hl3.below hb1)
  have HQ := hide (And.intro r0 (And.intro r1 (And.intro r2 (And.intro r3 (And.intro r4 (And.intro r5 (And.intro r6 r7)))))))
  have HPU := hide hk0
  have HSE := hide hk1
  have HB1 := hide (bt (unhide HB0) hb1 (Nat.le_refl _))
  have HZ0 := hide ((unhide HZ0).below hb1)
  have HZ1 := hide ((unhide HZ1).below hb1)
  have HZ2 := hide ((unhide HZ2).below hb1)
  have HZ3 := hide ((unhide HZ3).below hb1)
  have HZ4 := hide ((unhide HZ4).below hb1)
  have HE0 := hide ((unhide HE0).below hb1)
  have HLE := hide ((unhide HLE).below hb1)
  clear hb1 hN HB0 HL2 hl3 hk0 hk1 r0 r1 r2 r3 r4 r5 r6 r7
  have HWL : Hid (w.heap.size < w1.heap.size) := (unhide HE0).lt
  have HWL2 : Hid (w.heap.size + 1 + 1 + 1 + 1 + 1 < w1.heap.size) := Nat.lt_of_succ_lt (unhide HZ4).lt
  have hX : Hid (RowT 29 (w1.alloc (.cells #[.int .i64 3, .int .i64 n3, .string s3, .slice (some ⟨b, o, none⟩) 2 cap3] 29)) w1.heap.size 3 n3 s3 (some ⟨b, o, none⟩) 2 cap3) := RowT.new 29 w1 3 n3 s3 (some ⟨b, o, none⟩) 2 cap3
  have hp := ab (w := w1) (.cells #[.int .i64 3, .int .i64 n3, .string s3, .slice (some ⟨b, o, none⟩) 2 cap3] 29)
  have HB1 := hide (bt (unhide HB1) hp (Nat.le_refl _))
  have HZ0 := hide ((unhide HZ0).below hp)
  have HZ1 := hide ((unhide HZ1).below hp)
  have HZ2 := hide ((unhide HZ2).below hp)
  have HZ3 := hide ((unhide HZ3).below hp)
  have HZ4 := hide ((unhide HZ4).below hp)
  have HE0 := hide ((unhide HE0).below hp)
  have HLE := hide ((unhide HLE).below hp)
  have HPU := hide ((unhide HPU).below hp)
  have HSE := hide ((unhide HSE).below hp)
  obtain ⟨r0, r1, r2, r3, r4, r5, r6, r7⟩ := unhide HQ
  have r0 := kpc hp r0
  have r1 := kpc hp r1
  have r2 := kpc hp r2
  have r3 := kpc hp r3
  have r4 := kpc hp r4
  have r5 := kpc hp r5
  have r6 := kpc hp r6
  have r7 := kpc hp r7
  have HQ := hide (And.intro r0 (And.intro r1 (And.intro r2 (And.intro r3 (And.intro r4 (And.intro r5 (And.intro r6 r7)))))))
  clear r4 r5 r6 r7
  obtain ⟨x0, x1, x2, x3⟩ := (unhide hX).facts
  obtain ⟨y0, y1, y2, y3⟩ := ((unhide HE0).below (ab (.cells #[.int .i64 op5, .int .i64 n5, .string s5, .slice a5 len5 cap5] 29))).facts
  have HXN := hide (lt_of_cell x0)
  have yn : w.heap.size ≠ w1.heap.size + 1 := Nat.ne_of_lt (Nat.lt_succ_of_lt (unhide HWL))
  have ym := Ne.symm yn
  clear hp
  go_wp2_with fail
  have hp := ab (w := w1.alloc (.cells #[.int .i64 3, .int .i64 n3, .string s3, .slice (some ⟨b, o, none⟩) 2 cap3] 29)) (.cells #[.int .i64 op5, .int .i64 n5, .string s5, .slice a5 len5 cap5] 29)
  refine (unhide hAG op5 n5 s5 a5 len5 cap5 _ ((unhide HLE).below hp) ((unhide HPU).below hp)).mono ?_
  rintro q w2 ⟨op7, n7, s7, a7, len7, cap7, rfl, hl7, hb2, -⟩
  rw [unhide HA]
  have hX5 := (RowT.new 29 (w1.alloc (.cells #[.int .i64 3, .int .i64 n3, .string s3, .slice (some ⟨b, o, none⟩) 2 cap3] 29)) op5 n5 s5 a5 len5 cap5).below hb2
  rw [heap_size_alloc] at hX5
  have HX5 := hide hX5
  have HSL : Hid (w1.heap.size + 1 < w2.heap.size) := hX5.lt
  have hp := bt (bt hp hb2 (Nat.le_refl _)) (ab (.cells #[.int .i64 op7, .int .i64 n7, .string s7, .slice a7 len7 cap7] 29)) (Nat.le_refl _)
  have HX5 := hide ((unhide HX5).below (ab (.cells #[.int .i64 op7, .int .i64 n7, .string s7, .slice a7 len7 cap7] 29)))
  have HL7 := hide ((hl7.any (Nat.zero_le _)).below (ab (.cells #[.int .i64 op7, .int .i64 n7, .string s7, .slice a7 len7 cap7] 29)))
  have HX7 := hide (RowT.new 29 w2 op7 n7 s7 a7 len7 cap7)
  have HBA := hide (bt (unhide HB1) hp (Nat.le_refl _))
  have HZ0 := hide ((unhide HZ0).below hp)
  have HZ1 := hide ((unhide HZ1).below hp)
  have HZ2 := hide ((unhide HZ2).below hp)
  have HZ3 := hide ((unhide HZ3).below hp)
  have HZ4 := hide ((unhide HZ4).below hp)
  have hX := hide ((unhide hX).below hp)
  have HPU := hide ((unhide HPU).below hp)
  have HSE := hide ((unhide HSE).below hp)
  have r0 := kpc hp (unhide HQ).1
  have r1 := kpc hp (unhide HQ).2.1
  have r2 := kpc hp (unhide HQ).2.2.1
  have r3 := kpc hp (unhide HQ).2.2.2.1
  have r4 := kpc hp (unhide HQ).2.2.2.2.1
  have r5 := kpc hp (unhide HQ).2.2.2.2.2.1
  have r6 := kpc hp (unhide HQ).2.2.2.2.2.2.1
  have r7 := kpc hp (unhide HQ).2.2.2.2.2.2.2
  obtain ⟨x0, x1, x2, x3⟩ := (unhide hX).facts
  obtain ⟨g0, g1, g2, g3⟩ := (unhide HX7).facts
  clear hp hb2 hl7 hX5 HB1 HQ y0 y1 y2 y3 yn ym HE0 HLE hAG
  go_wp2_with fail
  generalize hgw : w2.alloc (.cells #[.int .i64 op7, .int .i64 n7, .string s7, .slice a7 len7 cap7] 29) = W2 at *
  clear hgw
  have HSW : Hid (w2.heap.size < W2.heap.size) := (unhide HX7).lt
  generalize w2.heap.size = bS at *
  generalize w1.heap.size = bX at *
  have hK := hide (fun V (hV : Below W2.heap.size W2 V) => keyS (agreeT e pub) 0 op7 n7 s7 a7 len7 cap7 V ((unhide HL7).below hV) (by have := agree200 e pub; omega) (by decide) (by decide))
  have hO := hide (fun op8 n8 s8 a8 len8 cap8 V (hV : Below W2.heap.size W2 V) hk => openS_any (keyT (agreeT e pub) 0) sealed 0 op8 n8 s8 a8 len8 cap8 op6 n6 s6 a6 len6 cap6 V hk ((unhide HSE).below hV) (by have := unhide HSZ; omega) (by decide) (by decide))
  have lx := lt_of_cell x0
  have ly := lt_of_cell g0
  have lw := lt_of_cell r0
  have lxn := Nat.ne_of_lt lx
  have lxm := Ne.symm lxn
  have lyn := Nat.ne_of_lt ly
  have lym := Ne.symm lyn
  have lwn := Nat.ne_of_lt lw
  have lwm := Ne.symm lwn
  generalize hgO : openT (keyT (agreeT e pub) 0) 0 sealed = OT at *
  have HOT : Hid (KidsOk OT) := hgO ▸ openT_kids _ _ _
  generalize hgB : (openO (keyT (agreeT e pub) 0) 0 sealed).isSome = OB at *
  go_cut [15, 16] (fun p q wx => CutK OT W2 (.bool OB) p q wx)
  case first =>
    go_region_held3 (fun x => x.cell? ⟨bS, 0, none⟩ = some (.int .i64 op7) ∧ x.cell? ⟨bS, 1, none⟩ = some (.int .i64 n7) ∧ x.cell? ⟨bS, 2, none⟩ = some (.string s7) ∧ x.cell? ⟨bS, 3, none⟩ = some (.slice a7 len7 cap7) ∧ x.cell? ⟨bX, 3, none⟩ = some (.slice (some ⟨b, o, none⟩) 2 cap3) ∧ x.cell? ⟨b, o + 4, none⟩ = some (.int .i64 op6) ∧ x.cell? ⟨b, o + 5, none⟩ = some (.int .i64 n6) ∧ x.cell? ⟨b, o + 6, none⟩ = some (.string s6) ∧ x.cell? ⟨b, o + 7, none⟩ = some (.slice a6 len6 cap6)) (go_keep)
      (first
        | (go_at_call 77
           refine (unhide hK _ ?_).mono ?_
           first
             | exact (Below.refl _ _).drew
             | exact (ab _).drew
           rintro e9 w6 ⟨op8, n8, s8, a8, len8, cap8, rfl, hl8, hb6⟩
           try have zz6 := hide (((ZBox.new W2).drew).below hb6)
           have HLK := hide (hl8.any (Nat.zero_le _))
           have C6 : Hid (Below W2.heap.size W2 w6) := by
             first
               | exact below_drew' hb6
               | exact bt (ab _) (below_drew' hb6) (Nat.le_refl _)
           have i0 := kpc (unhide C6) g0
           have i1 := kpc (unhide C6) g1
           have i2 := kpc (unhide C6) g2
           have i3 := kpc (unhide C6) g3
           have ix := kpc (unhide C6) x3
           have j4 := kpc (unhide C6) r4
           have j5 := kpc (unhide C6) r5
           have j6 := kpc (unhide C6) r6
           have j7 := kpc (unhide C6) r7
           clear hl8
           have lz := lt_of_cell i0
           have lzn := Nat.ne_of_lt lz
           have lzm := Ne.symm lzn
           have ls := lt_of_cell ix
           have lsn := Nat.ne_of_lt ls
           have lsm := Ne.symm lsn
           have lq := lt_of_cell j4
           have lqn := Nat.ne_of_lt lq
           have lqm := Ne.symm lqn)
        | (go_at_call 82
           refine (unhide hO _ _ _ _ _ _ _ ?_ ?_).mono ?_
           first
             | exact unhide C6
             | exact bt (unhide C6) (ab _) (Nat.le_refl _)
           first
             | exact unhide HLK
             | exact (unhide HLK).below (ab _)
           rintro e9 w7 ⟨op9, n9, s9, a9, len9, cap9, rfl, hl9, hb7⟩
           try have zz7 := hide ((unhide zz6).below hb7)
           try have zz7 := hide ((ZBox.new w6).below hb7)
           have C7 : Hid (Below w6.heap.size w6 w7) := by
             first
               | exact hb7
               | exact bt (ab _) hb7 (Nat.le_refl _)
           have HL9 := hide hl9
           clear hl9
           have k0 := kpc (unhide C7) i0
           have k1 := kpc (unhide C7) i1
           have k2 := kpc (unhide C7) i2
           have k3 := kpc (unhide C7) i3
           have kx := kpc (unhide C7) ix
           have m4 := kpc (unhide C7) j4
           have m5 := kpc (unhide C7) j5
           have m6 := kpc (unhide C7) j6
           have m7 := kpc (unhide C7) j7
           try obtain ⟨p0, p1, p2, p3, q0, q1, q2, q3⟩ := (unhide zz7).facts
           have lt7 := lt_of_cell k0
           have ltn := Nat.ne_of_lt lt7
           have ltm := Ne.symm ltn
           have lt8 := lt_of_cell kx
           have lt8n := Nat.ne_of_lt lt8
           have lt8m := Ne.symm lt8n
           have lt9 := lt_of_cell m4
           have lt9n := Nat.ne_of_lt lt9
           have lt9m := Ne.symm lt9n))
    all_goals
      go_wp2_with fail
      go_meet
      have s56 := (unhide C6).size
      first
        | (with_reducible refine CutK.late ?_ ?_
           exact bt (unhide C6) (unhide C7) (Nat.le_refl _)
           exact unhide HL9)
        | (with_reducible refine CutK.early ?_ ?_ ?_ ?_ ?_
           exact bt (unhide C6) (unhide C7) (Nat.le_refl _)
           exact unhide zz7
           omega
           exact unhide HOT
           exact unhide HL9)
  case rest =>
    obtain ⟨bB, op8, n8, s8, a8, len8, cap8, rfl, rfl, hge8, hR8, hl8, hbc⟩ := hcut
    have HB := hide (bt (unhide HBA) hbc (Nat.le_refl _))
    have HR8 := hide hR8
    have HL8 := hide hl8
    have HX7 := hide ((unhide HX7).below hbc)
    have HX5 := hide ((unhide HX5).below hbc)
    have HL7 := hide ((unhide HL7).below hbc)
    have HPU := hide ((unhide HPU).below hbc)
    have HZ0 := hide ((unhide HZ0).below hbc)
    have HZ1 := hide ((unhide HZ1).below hbc)
    have HZ2 := hide ((unhide HZ2).below hbc)
    have HZ3 := hide ((unhide HZ3).below hbc)
    have HZ4 := hide ((unhide HZ4).below hbc)
    clear hbc hR8 hl8 HBA r0 r1 r2 r3 r4 r5 r6 r7 x0 x1 x2 x3 g0 g1 g2 g3 lx ly lw lxn lxm lyn lym lwn lwm hK hO HSE
    have hOB : OB = true := by rw [← hgB, unhide HO]; rfl
    subst hOB
    have hOT : OT = .node 3 n2' s2' [c, g] := by rw [← hgO]; unfold openT; rw [unhide HO]; rfl
    subst hOT
    obtain ⟨rfl, rfl, rfl, rfl, b', o', op11, n11, s11, a11, len11, cap11, op12, n12, s12, a12, len12, cap12, rfl, ⟨r0, r1, r2, r3, hk0⟩, r4, r5, r6, r7, hk1⟩ := lies_kids (unhide HL8)
    have HKC := hide hk0
    have HKG := hide hk1
    clear hk0 hk1
    obtain ⟨u0, u1, u2, u3⟩ := (unhide HR8).facts
    have HLTW : Hid (w.heap.size + 1 + 1 + 1 + 1 + 1 + 1 < wc.heap.size) := (unhide HZ4).lt
    obtain ⟨v0, v1, v2, v3⟩ := (unhide HX5).facts
    obtain ⟨t0, t1, t2, t3⟩ := (unhide HX7).facts
    go_wp2_with fail
    have HOKP : Hid (okT pub = true) := (inO_of_named (unhide HBH)).1
    have HOKS : Hid (okT (agreeT e pub) = true) := by have := agree_sh (unhide HA); show _ = _; rw [this.2]; exact shr_ok this.1
    have HOKC : Hid (okT c = true) := unhide HOT c (by simp [Tm.kids])
    have HOKG : Hid (okT g = true) := unhide HOT g (by simp [Tm.kids])
    have hne0 : op11 ≠ 0 := by rw [lies_opOf (unhide HKC)]; exact ok_opOf (unhide HOKC)
    have F0 := ne_far (Nat.lt_succ_of_lt (unhide HWL2))
    have F1 := ne_far (Nat.lt_trans (Nat.lt_succ_of_lt (unhide HWL2)) (unhide HSL))
    have F2 := ne_far (Nat.lt_of_lt_of_le (Nat.lt_trans (Nat.lt_trans (Nat.lt_succ_of_lt (unhide HWL2)) (unhide HSL)) (unhide HSW)) hge8)
    have F3 : b' ≠ w.heap.size + 1 + 1 ∧ b' ≠ w.heap.size + 1 + 1 + 1 ∧ b' ≠ w.heap.size + 1 + 1 + 1 + 1 ∧ b' ≠ w.heap.size + 1 + 1 + 1 + 1 + 1 := ⟨ne_of_zbox (unhide HZ0) r0 hne0, ne_of_zbox (unhide HZ1) r0 hne0, ne_of_zbox (unhide HZ2) r0 hne0, ne_of_zbox (unhide HZ3) r0 hne0⟩
    clear HOT HLTW hge8 hne0 v0 v1 v2 v3 t0 t1 t2 t3 u0 u1 u2 u3
    have hd0 : Below wc.heap.size wc wc.drew := (Below.refl _ _).drew
    refine wp_region_held (S := fun y => RowT 29 y (bX + 1) op5 n5 s5 a5 len5 cap5 ∧ RowT 29 y bS op7 n7 s7 a7 len7 cap7 ∧ RowT 29 y bB 3 n8 s8 (some ⟨b', o', none⟩) 2 cap8 ∧ y.cell? ⟨b', o', none⟩ = some (.int .i64 op11) ∧ y.cell? ⟨b', o' + 1, none⟩ = some (.int .i64 n11) ∧ y.cell? ⟨b', o' + 2, none⟩ = some (.string s11) ∧ y.cell? ⟨b', o' + 3, none⟩ = some (.slice a11 len11 cap11) ∧ y.cell? ⟨b', o' + 4, none⟩ = some (.int .i64 op12) ∧ y.cell? ⟨b', o' + 5, none⟩ = some (.int .i64 n12) ∧ y.cell? ⟨b', o' + 6, none⟩ = some (.string s12) ∧ y.cell? ⟨b', o' + 7, none⟩ = some (.slice a12 len12 cap12)) (by kernel_rfl) ?_
    have hS : (fun y : World => RowT 29 y (bX + 1) op5 n5 s5 a5 len5 cap5 ∧ RowT 29 y bS op7 n7 s7 a7 len7 cap7 ∧ RowT 29 y bB 3 n8 s8 (some ⟨b', o', none⟩) 2 cap8 ∧ y.cell? ⟨b', o', none⟩ = some (.int .i64 op11) ∧ y.cell? ⟨b', o' + 1, none⟩ = some (.int .i64 n11) ∧ y.cell? ⟨b', o' + 2, none⟩ = some (.string s11) ∧ y.cell? ⟨b', o' + 3, none⟩ = some (.slice a11 len11 cap11) ∧ y.cell? ⟨b', o' + 4, none⟩ = some (.int .i64 op12) ∧ y.cell? ⟨b', o' + 5, none⟩ = some (.int .i64 n12) ∧ y.cell? ⟨b', o' + 6, none⟩ = some (.string s12) ∧ y.cell? ⟨b', o' + 7, none⟩ = some (.slice a12 len12 cap12)) wc.drew := ⟨unhide HX5, unhide HX7, unhide HR8, r0, r1, r2, r3, r4, r5, r6, r7⟩
    show wpAnyH _ _ _ _ _ _ _ _ wc.drew
    clear r0 r1 r2 r3 r4 r5 r6 r7
    refine take_load (i := 0) rfl rfl (fun y h => h.1) (by kernel_rfl) (by kernel_rfl) (by kernel_rfl) (fun _ _ _ _ h => h) hS ?_
    simp only [Act.put, List.setIfInBounds_toArray, List.set_cons_succ, List.set_cons_zero]
    refine take_load (i := 2) rfl rfl (fun y h => h.2.1) (by kernel_rfl) (by kernel_rfl) (by kernel_rfl) (fun _ _ _ _ h => h) hS ?_
    simp only [Act.put, List.setIfInBounds_toArray, List.set_cons_succ, List.set_cons_zero]
    refine take_field3 (i := 3) rfl rfl (by kernel_rfl) (by kernel_rfl) (by kernel_rfl) (fun _ _ _ _ h => h) hS ?_
    simp only [Act.put, List.setIfInBounds_toArray, List.set_cons_succ, List.set_cons_zero]
    refine take_load26 (i := 4) rfl rfl (fun y h => (h.2.2.1).facts.2.2.2) (by kernel_rfl) (by kernel_rfl) (by kernel_rfl) (fun _ _ _ _ h => h) hS ?_
    simp only [Act.put, List.setIfInBounds_toArray, List.set_cons_succ, List.set_cons_zero]
    refine take_index0 (i := 5) rfl rfl (by kernel_rfl) (by kernel_rfl) (by kernel_rfl) (fun _ _ _ _ h => h) hS ?_
    simp only [Act.put, List.setIfInBounds_toArray, List.set_cons_succ, List.set_cons_zero]
    refine take_cells (i := 6) rfl rfl (fun y h => h.2.2.2.1) (fun y h => h.2.2.2.2.1) (fun y h => h.2.2.2.2.2.1) (fun y h => h.2.2.2.2.2.2.1) (by kernel_rfl) (by kernel_rfl) (by kernel_rfl) (fun _ _ _ _ h => h) hS ?_
    simp only [Act.put, List.setIfInBounds_toArray, List.set_cons_succ, List.set_cons_zero]
    refine take_field3 (i := 8) rfl rfl (by kernel_rfl) (by kernel_rfl) (by kernel_rfl) (fun _ _ _ _ h => h) hS ?_
    simp only [Act.put, List.setIfInBounds_toArray, List.set_cons_succ, List.set_cons_zero]
    refine take_load26 (i := 9) rfl rfl (fun y h => (h.2.2.1).facts.2.2.2) (by kernel_rfl) (by kernel_rfl) (by kernel_rfl) (fun _ _ _ _ h => h) hS ?_
    simp only [Act.put, List.setIfInBounds_toArray, List.set_cons_succ, List.set_cons_zero]
    refine take_index1 (i := 10) rfl rfl (by kernel_rfl) (by kernel_rfl) (by kernel_rfl) (fun _ _ _ _ h => h) hS ?_
    simp only [Act.put, List.setIfInBounds_toArray, List.set_cons_succ, List.set_cons_zero]
    refine take_cells (i := 11) rfl rfl (fun y h => h.2.2.2.2.2.2.2.1) (fun y h => h.2.2.2.2.2.2.2.2.1) (fun y h => h.2.2.2.2.2.2.2.2.2.1) (fun y h => h.2.2.2.2.2.2.2.2.2.2) (by kernel_rfl) (by kernel_rfl) (by kernel_rfl) (fun _ _ _ _ h => h) hS ?_
    simp only [Act.put, List.setIfInBounds_toArray, List.set_cons_succ, List.set_cons_zero]
    refine all_call1 (i := 1) (by kernel_rfl) rfl Tryz.func83 (by kernel_rfl) (by kernel_rfl) rfl ?_
    refine (unhide hCP op5 n5 s5 a5 len5 cap5 _ ((unhide HPU).below hd0)).mono ?_
    rintro q y1 ⟨a20, cap20, f20, rfl, hO20, -, hb20⟩
    have HO20 := hide hO20.lies0
    have hb1' : Below wc.heap.size wc y1 := bt hd0 hb20 (Nat.le_refl _)
    refine ⟨_, rfl, ⟨hS.1.below hb20, hS.2.1.below hb20, hS.2.2.1.below hb20, kpc hb20 hS.2.2.2.1, kpc hb20 hS.2.2.2.2.1, kpc hb20 hS.2.2.2.2.2.1, kpc hb20 hS.2.2.2.2.2.2.1, kpc hb20 hS.2.2.2.2.2.2.2.1, kpc hb20 hS.2.2.2.2.2.2.2.2.1, kpc hb20 hS.2.2.2.2.2.2.2.2.2.1, kpc hb20 hS.2.2.2.2.2.2.2.2.2.2⟩, fun hS => ?_⟩
    simp only [Act.put, List.setIfInBounds_toArray, List.set_cons_succ, List.set_cons_zero]
    refine all_call1 (i := 7) (by kernel_rfl) rfl Tryz.func83 (by kernel_rfl) (by kernel_rfl) rfl ?_
    refine (unhide hCC op11 n11 s11 a11 len11 cap11 _ ((unhide HKC).below hb1')).mono ?_
    rintro q y2 ⟨a21, cap21, f21, rfl, hO21, -, hb21⟩
    have HO21 := hide hO21.lies0
    have hb2' : Below wc.heap.size wc y2 := bt hb1' hb21 (Nat.le_refl _)
    refine ⟨_, rfl, ⟨hS.1.below hb21, hS.2.1.below hb21, hS.2.2.1.below hb21, kpc hb21 hS.2.2.2.1, kpc hb21 hS.2.2.2.2.1, kpc hb21 hS.2.2.2.2.2.1, kpc hb21 hS.2.2.2.2.2.2.1, kpc hb21 hS.2.2.2.2.2.2.2.1, kpc hb21 hS.2.2.2.2.2.2.2.2.1, kpc hb21 hS.2.2.2.2.2.2.2.2.2.1, kpc hb21 hS.2.2.2.2.2.2.2.2.2.2⟩, fun hS => ?_⟩
    simp only [Act.put, List.setIfInBounds_toArray, List.set_cons_succ, List.set_cons_zero]
    refine all_call1 (i := 12) (by kernel_rfl) rfl Tryz.func83 (by kernel_rfl) (by kernel_rfl) rfl ?_
    refine (unhide hCG op12 n12 s12 a12 len12 cap12 _ ((unhide HKG).below hb2')).mono ?_
    rintro q y3 ⟨a22, cap22, f22, rfl, hO22, -, hb22⟩
    have HO22 := hide hO22.lies0
    have hb3' : Below wc.heap.size wc y3 := bt hb2' hb22 (Nat.le_refl _)
    refine ⟨_, rfl, ⟨hS.1.below hb22, hS.2.1.below hb22, hS.2.2.1.below hb22, kpc hb22 hS.2.2.2.1, kpc hb22 hS.2.2.2.2.1, kpc hb22 hS.2.2.2.2.2.1, kpc hb22 hS.2.2.2.2.2.2.1, kpc hb22 hS.2.2.2.2.2.2.2.1, kpc hb22 hS.2.2.2.2.2.2.2.2.1, kpc hb22 hS.2.2.2.2.2.2.2.2.2.1, kpc hb22 hS.2.2.2.2.2.2.2.2.2.2⟩, fun hS => ?_⟩
    simp only [Act.put, List.setIfInBounds_toArray, List.set_cons_succ, List.set_cons_zero]
    have HO20 := hide (((unhide HO20).below hb21).below hb22)
    have HO21 := hide ((unhide HO21).below hb22)
    have HL7 := hide ((unhide HL7).below hb3')
    have HZ0 := hide ((unhide HZ0).below hb3')
    have HZ1 := hide ((unhide HZ1).below hb3')
    have HZ2 := hide ((unhide HZ2).below hb3')
    have HZ3 := hide ((unhide HZ3).below hb3')
    refine all_store (i := 13) (by kernel_rfl) rfl rfl rfl (unhide HZ0) (⟨RowT.other hS.1 F0.1, RowT.other hS.2.1 F1.1, RowT.other hS.2.2.1 F2.1, cell_fill hS.2.2.2.1 F3.1, cell_fill hS.2.2.2.2.1 F3.1, cell_fill hS.2.2.2.2.2.1 F3.1, cell_fill hS.2.2.2.2.2.2.1 F3.1, cell_fill hS.2.2.2.2.2.2.2.1 F3.1, cell_fill hS.2.2.2.2.2.2.2.2.1 F3.1, cell_fill hS.2.2.2.2.2.2.2.2.2.1 F3.1, cell_fill hS.2.2.2.2.2.2.2.2.2.2 F3.1⟩) fun hS => ?_
    refine all_store (i := 14) (by kernel_rfl) rfl rfl rfl (RowT.other (unhide HZ1) (zne _).1.1) (⟨RowT.other hS.1 F0.2.1, RowT.other hS.2.1 F1.2.1, RowT.other hS.2.2.1 F2.2.1, cell_fill hS.2.2.2.1 F3.2.1, cell_fill hS.2.2.2.2.1 F3.2.1, cell_fill hS.2.2.2.2.2.1 F3.2.1, cell_fill hS.2.2.2.2.2.2.1 F3.2.1, cell_fill hS.2.2.2.2.2.2.2.1 F3.2.1, cell_fill hS.2.2.2.2.2.2.2.2.1 F3.2.1, cell_fill hS.2.2.2.2.2.2.2.2.2.1 F3.2.1, cell_fill hS.2.2.2.2.2.2.2.2.2.2 F3.2.1⟩) fun hS => ?_
    refine all_store (i := 15) (by kernel_rfl) rfl rfl rfl (RowT.other (RowT.other (unhide HZ2) (zne _).1.2.1) (zne _).2.1.1) (⟨RowT.other hS.1 F0.2.2.1, RowT.other hS.2.1 F1.2.2.1, RowT.other hS.2.2.1 F2.2.2.1, cell_fill hS.2.2.2.1 F3.2.2.1, cell_fill hS.2.2.2.2.1 F3.2.2.1, cell_fill hS.2.2.2.2.2.1 F3.2.2.1, cell_fill hS.2.2.2.2.2.2.1 F3.2.2.1, cell_fill hS.2.2.2.2.2.2.2.1 F3.2.2.1, cell_fill hS.2.2.2.2.2.2.2.2.1 F3.2.2.1, cell_fill hS.2.2.2.2.2.2.2.2.2.1 F3.2.2.1, cell_fill hS.2.2.2.2.2.2.2.2.2.2 F3.2.2.1⟩) fun hS => ?_
    refine all_store (i := 16) (by kernel_rfl) rfl rfl rfl (RowT.other (RowT.other (RowT.other (unhide HZ3) (zne _).1.2.2) (zne _).2.1.2) (zne _).2.2) (⟨RowT.other hS.1 F0.2.2.2, RowT.other hS.2.1 F1.2.2.2, RowT.other hS.2.2.1 F2.2.2.2, cell_fill hS.2.2.2.1 F3.2.2.2, cell_fill hS.2.2.2.2.1 F3.2.2.2, cell_fill hS.2.2.2.2.2.1 F3.2.2.2, cell_fill hS.2.2.2.2.2.2.1 F3.2.2.2, cell_fill hS.2.2.2.2.2.2.2.1 F3.2.2.2, cell_fill hS.2.2.2.2.2.2.2.2.1 F3.2.2.2, cell_fill hS.2.2.2.2.2.2.2.2.2.1 F3.2.2.2, cell_fill hS.2.2.2.2.2.2.2.2.2.2 F3.2.2.2⟩) fun hS => ?_
    refine all_assign (i := 17) (by kernel_rfl) rfl rfl hS ?_
    refine wpAnyH_done (by kernel_rfl) ?_ _
    simp only [Act.put, List.setIfInBounds_toArray, List.set_cons_succ, List.set_cons_zero]
    go_wp2_with fail
    obtain ⟨r0, r1, r2, r3⟩ := fill_four (w := y3) (op0 := op5) (n0 := n5) (s0 := s5) (a0 := a20) (l0 := len5) (k0 := cap20) (op1 := op7) (n1 := n7) (s1 := s7) (a1 := a7) (l1 := len7) (k1 := cap7) (op2 := op11) (n2 := n11) (s2 := s11) (a2 := a21) (l2 := len11) (k2 := cap21) (op3 := op12) (n3 := n12) (s3 := s12) (a3 := a22) (l3 := len12) (k3 := cap22) (unhide HZ0) (unhide HZ1) (unhide HZ2) (unhide HZ3)
    exact bodyPost_ret (v := .tuple #[.agg #[.int .i64 op5, .int .i64 n5, .string s5, .slice a20 len5 cap20], .agg #[.int .i64 op7, .int .i64 n7, .string s7, .slice a7 len7 cap7], .agg #[.int .i64 op11, .int .i64 n11, .string s11, .slice a21 len11 cap21], .agg #[.int .i64 op12, .int .i64 n12, .string s12, .slice a22 len12 cap22], .bool true]) (results_cells4 Tryz.results20 rfl rfl rfl rfl (RowT.load r0) (RowT.load r1) (RowT.load r2) (RowT.load r3)) rfl ⟨_, _, _, _, _, _, _, _, _, _, _, _, _, _, _, _, _, _, _, _, _, _, _, _, rfl, fill_four_lies (w := y3) (unhide HZ0) (unhide HZ1) (unhide HZ2) (unhide HZ3) (unhide HOKP) (unhide HO20), fill_four_lies (w := y3) (unhide HZ0) (unhide HZ1) (unhide HZ2) (unhide HZ3) (unhide HOKS) (unhide HL7), fill_four_lies (w := y3) (unhide HZ0) (unhide HZ1) (unhide HZ2) (unhide HZ3) (unhide HOKC) (unhide HO21), fill_four_lies (w := y3) (unhide HZ0) (unhide HZ1) (unhide HZ2) (unhide HZ3) (unhide HOKG) (unhide HO22), fill_four_below (w := y3) (bt (unhide HB) hb3' (Nat.le_refl _)) (le_two _)⟩

theorem rofS_no (e t : Tm) (op n : Int) (s : ByteArray) (a : Option Addr) (len cap : Nat) (op2 n2 : Int) (s2 : ByteArray) (a2 : Option Addr) (len2 cap2 : Nat) (w : World) (hl : Lies w 0 e (tmCells op n s a len cap)) (hl2 : Lies w 0 t (tmCells op2 n2 s2 a2 len2 cap2)) (hst : e.size + t.size ≤ 1048578) (h : replyO e t = none) : Calls Tryz.prog 20 #[.agg #[.int .i64 op, .int .i64 n, .string s, .slice a len cap], .agg #[.int .i64 op2, .int .i64 n2, .string s2, .slice a2 len2 cap2]] w fun q w' => q = .returned (.tuple #[.agg #[.int .i64 0, .int .i64 0, .string ⟨#[]⟩, .slice none 0 0], .agg #[.int .i64 0, .int .i64 0, .string ⟨#[]⟩, .slice none 0 0], .agg #[.int .i64 0, .int .i64 0, .string ⟨#[]⟩, .slice none 0 0], .agg #[.int .i64 0, .int .i64 0, .string ⟨#[]⟩, .slice none 0 0], .bool false]) ∧ Below w.heap.size w w' := by
  cases hb : behO 3 (textT replyW) t with
  | none => exact rofS_none e t op n s a len cap op2 n2 s2 a2 len2 cap2 w hl hl2 hst hb
  | some k =>
    by_cases h3 : k.opOf = 3
    · obtain ⟨nt, st, k0, rfl, hok, hs⟩ := behO_some hb
      obtain ⟨ko, kn, ks, kk⟩ := k
      obtain rfl : ko = 3 := h3
      obtain ⟨pub, sealed, rfl⟩ := ok_two (Or.inl rfl) (okT_kid hok (x := .node 3 kn ks kk) (by simp))
      cases ha : agreeB e pub with
      | false => exact rofS_agree_no e _ pub sealed kn ks op n s a len cap op2 n2 s2 a2 len2 cap2 w hl hl2 hst hb ha
      | true =>
        cases ho : openO (keyT (agreeT e pub) 0) 0 sealed with
        | none => exact rofS_open_no e _ pub sealed kn ks op n s a len cap op2 n2 s2 a2 len2 cap2 w hl hl2 hst hb ha ho
        | some body =>
          by_cases hb3 : body.opOf = 3
          · exfalso
            have hok2 := openO_ok ho
            obtain ⟨bo, bn, bs, bk⟩ := body
            obtain rfl : bo = 3 := hb3
            obtain ⟨c, g, rfl⟩ := ok_two (Or.inl rfl) hok2
            rw [replyO_body_yes hb ha ho] at h
            cases h
          · exact rofS_body_no e _ pub sealed body kn ks op n s a len cap op2 n2 s2 a2 len2 cap2 w hl hl2 hst hb ha ho hb3
    · exact rofS_op e t k op n s a len cap op2 n2 s2 a2 len2 cap2 w hl hl2 hst hb h3

theorem rofS_yes (e t pub sh c g : Tm) (op n : Int) (s : ByteArray) (a : Option Addr) (len cap : Nat) (op2 n2 : Int) (s2 : ByteArray) (a2 : Option Addr) (len2 cap2 : Nat) (w : World) (hl : Lies w 0 e (tmCells op n s a len cap)) (hl2 : Lies w 0 t (tmCells op2 n2 s2 a2 len2 cap2)) (hst : e.size + t.size ≤ 1048578) (h : replyO e t = some (pub, sh, c, g)) : Calls Tryz.prog 20 #[.agg #[.int .i64 op, .int .i64 n, .string s, .slice a len cap], .agg #[.int .i64 op2, .int .i64 n2, .string s2, .slice a2 len2 cap2]] w fun q w' => FourS pub sh c g w q w' := by
  cases hb : behO 3 (textT replyW) t with
  | none => rw [replyO_named_none hb] at h; cases h
  | some k =>
    by_cases h3 : k.opOf = 3
    · obtain ⟨nt, st, k0, rfl, hok, hs⟩ := behO_some hb
      obtain ⟨ko, kn, ks, kk⟩ := k
      obtain rfl : ko = 3 := h3
      obtain ⟨pub', sealed, rfl⟩ := ok_two (Or.inl rfl) (okT_kid hok (x := .node 3 kn ks kk) (by simp))
      cases ha : agreeB e pub' with
      | false => rw [replyO_agree_no hb ha] at h; cases h
      | true =>
        cases ho : openO (keyT (agreeT e pub') 0) 0 sealed with
        | none => rw [replyO_open_no hb ha ho] at h; cases h
        | some body =>
          by_cases hb3 : body.opOf = 3
          · have hok2 := openO_ok ho
            obtain ⟨bo, bn, bs, bk⟩ := body
            obtain rfl : bo = 3 := hb3
            obtain ⟨c', g', rfl⟩ := ok_two (Or.inl rfl) hok2
            rw [replyO_body_yes hb ha ho] at h
            simp only [Option.some.injEq, Prod.mk.injEq] at h
            obtain ⟨rfl, rfl, rfl, rfl⟩ := h
            exact rofS_body_yes e _ pub' sealed c' g' kn bn ks bs op n s a len cap op2 n2 s2 a2 len2 cap2 w hl hl2 hst hb ha ho
          · rw [replyO_body_no hb ha ho hb3] at h; cases h
    · rw [replyO_named_op hb h3] at h; cases h

end Go.Proofs.YtmklgikbajhcpaaGreatDoor
