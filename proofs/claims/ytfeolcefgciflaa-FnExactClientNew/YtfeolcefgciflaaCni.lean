/- impl.ClientNew, walked. -/
import Derived.Test.YtfeolcefgciflaaCli
namespace Go.Proofs.Ytfeolcefgciflaa
open Go.RowKit Go.Deep

set_option maxRecDepth 100000 in
set_option maxHeartbeats 2000000 in
theorem newI_yes (h : ByteArray) (mu : Bool) (ep bo : Int) (hh : h.size ≤ 2097152) (hB : clientB 1 h mu ep bo zeroT 0 0 false false = true) (w : World) :
    Calls Try.prog 11 #[.string h, .bool mu, .int .i64 ep, .int .i64 bo] w fun e w' => e = .returned (.tuple #[.agg #[.int .i64 1, .string h, .bool mu, .int .i64 ep, .int .i64 bo, .int .i64 0, .int .i64 0, .string ⟨#[]⟩, .slice none 0 0, .int .i64 0, .int .i64 0, .bool false, .bool false], .bool true]) ∧ Below w.heap.size w w' := by
  have hO := hide (fun v => clientI zeroT 1 h mu ep bo 0 0 ⟨#[]⟩ none 0 0 0 0 false false v (lies_leaf _ 0 0 ByteArray.empty (by simp) rfl rfl) (by simp [zeroT, Tm.size, Tm.sizes]) hh)
  rw [hB] at hO
  have hC := hide (fun v => clone36 h v hh)
  clear hB hh
  go_enter Try.func11, Try.ntmps11
  go_wp2_with fail
  refine (unhide hC _).mono ?_
  rintro e w1 ⟨rfl, hb1⟩
  have HB1 := hide hb1
  have hlt1 : w.heap.size < w1.heap.size := Nat.lt_of_lt_of_le (by simp) hb1.size
  have HLT := hide hlt1
  clear hb1 hlt1
  go_wp2_with fail
  refine (unhide hO _).mono ?_
  rintro e w2 ⟨rfl, hb2⟩
  have hz : ∀ o, w2.cell? ⟨w.heap.size, o, none⟩ = (w.alloc (.cells #[.int .i64 0, .string ⟨#[]⟩, .bool false, .int .i64 0, .int .i64 0, .int .i64 0, .int .i64 0, .string ⟨#[]⟩, .slice none 0 0, .int .i64 0, .int .i64 0, .bool false, .bool false] 33)).cell? ⟨w.heap.size, o, none⟩ := fun o => by
    rw [hb2.cell (p := ⟨w.heap.size, o, none⟩) (by have := unhide HLT; simp; omega), (abC (.cells #[.int .i64 1, .string h, .bool mu, .int .i64 ep, .int .i64 bo, .int .i64 0, .int .i64 0, .string ⟨#[]⟩, .slice none 0 0, .int .i64 0, .int .i64 0, .bool false, .bool false] 33)).cell (p := ⟨w.heap.size, o, none⟩) (unhide HLT), (unhide HB1).cell (p := ⟨w.heap.size, o, none⟩) (by simp)]
  have hf : ∀ o, w2.frozen? ⟨w.heap.size, o, none⟩ = (w.alloc (.cells #[.int .i64 0, .string ⟨#[]⟩, .bool false, .int .i64 0, .int .i64 0, .int .i64 0, .int .i64 0, .string ⟨#[]⟩, .slice none 0 0, .int .i64 0, .int .i64 0, .bool false, .bool false] 33)).frozen? ⟨w.heap.size, o, none⟩ := fun o => by
    rw [hb2.frozen (p := ⟨w.heap.size, o, none⟩) (by have := unhide HLT; simp; omega), (abC (.cells #[.int .i64 1, .string h, .bool mu, .int .i64 ep, .int .i64 bo, .int .i64 0, .int .i64 0, .string ⟨#[]⟩, .slice none 0 0, .int .i64 0, .int .i64 0, .bool false, .bool false] 33)).frozen (p := ⟨w.heap.size, o, none⟩) (unhide HLT), (unhide HB1).frozen (p := ⟨w.heap.size, o, none⟩) (by simp)]
  have hk : ∀ o, w2.cell? ⟨w1.heap.size, o, none⟩ = (w1.alloc (.cells #[.int .i64 1, .string h, .bool mu, .int .i64 ep, .int .i64 bo, .int .i64 0, .int .i64 0, .string ⟨#[]⟩, .slice none 0 0, .int .i64 0, .int .i64 0, .bool false, .bool false] 33)).cell? ⟨w1.heap.size, o, none⟩ := fun o => hb2.cell (p := ⟨w1.heap.size, o, none⟩) (by simp)
  have HB2 := hide (btC (btC (btC (abC (.cells #[.int .i64 0, .string ⟨#[]⟩, .bool false, .int .i64 0, .int .i64 0, .int .i64 0, .int .i64 0, .string ⟨#[]⟩, .slice none 0 0, .int .i64 0, .int .i64 0, .bool false, .bool false] 33)) (unhide HB1)) (abC (.cells #[.int .i64 1, .string h, .bool mu, .int .i64 ep, .int .i64 bo, .int .i64 0, .int .i64 0, .string ⟨#[]⟩, .slice none 0 0, .int .i64 0, .int .i64 0, .bool false, .bool false] 33))) hb2)
  clear hb2
  go_wp2_with fail
  refine bodyPost_ret (v := .tuple #[.agg #[.int .i64 1, .string h, .bool mu, .int .i64 ep, .int .i64 bo, .int .i64 0, .int .i64 0, .string ⟨#[]⟩, .slice none 0 0, .int .i64 0, .int .i64 0, .bool false, .bool false], .bool true]) (by simp [results, Try.results11, go_sem, hz]) rfl ⟨rfl, ?_⟩
  iterate 13 refine Below.setCell ?_ (Nat.le_refl w.heap.size) _
  exact unhide HB2

set_option maxRecDepth 100000 in
set_option maxHeartbeats 2000000 in
theorem newI_no (h : ByteArray) (mu : Bool) (ep bo : Int) (hh : h.size ≤ 2097152) (hB : clientB 1 h mu ep bo zeroT 0 0 false false = false) (w : World) :
    Calls Try.prog 11 #[.string h, .bool mu, .int .i64 ep, .int .i64 bo] w fun e w' => e = .returned (.tuple #[.agg #[.int .i64 0, .string ⟨#[]⟩, .bool false, .int .i64 0, .int .i64 0, .int .i64 0, .int .i64 0, .string ⟨#[]⟩, .slice none 0 0, .int .i64 0, .int .i64 0, .bool false, .bool false], .bool false]) ∧ Below w.heap.size w w' := by
  have hO := hide (fun v => clientI zeroT 1 h mu ep bo 0 0 ⟨#[]⟩ none 0 0 0 0 false false v (lies_leaf _ 0 0 ByteArray.empty (by simp) rfl rfl) (by simp [zeroT, Tm.size, Tm.sizes]) hh)
  rw [hB] at hO
  have hC := hide (fun v => clone36 h v hh)
  clear hB hh
  go_enter Try.func11, Try.ntmps11
  go_wp2_with fail
  refine (unhide hC _).mono ?_
  rintro e w1 ⟨rfl, hb1⟩
  have HB1 := hide hb1
  have hlt1 : w.heap.size < w1.heap.size := Nat.lt_of_lt_of_le (by simp) hb1.size
  have HLT := hide hlt1
  clear hb1 hlt1
  go_wp2_with fail
  refine (unhide hO _).mono ?_
  rintro e w2 ⟨rfl, hb2⟩
  have hz : ∀ o, w2.cell? ⟨w.heap.size, o, none⟩ = (w.alloc (.cells #[.int .i64 0, .string ⟨#[]⟩, .bool false, .int .i64 0, .int .i64 0, .int .i64 0, .int .i64 0, .string ⟨#[]⟩, .slice none 0 0, .int .i64 0, .int .i64 0, .bool false, .bool false] 33)).cell? ⟨w.heap.size, o, none⟩ := fun o => by
    rw [hb2.cell (p := ⟨w.heap.size, o, none⟩) (by have := unhide HLT; simp; omega), (abC (.cells #[.int .i64 1, .string h, .bool mu, .int .i64 ep, .int .i64 bo, .int .i64 0, .int .i64 0, .string ⟨#[]⟩, .slice none 0 0, .int .i64 0, .int .i64 0, .bool false, .bool false] 33)).cell (p := ⟨w.heap.size, o, none⟩) (unhide HLT), (unhide HB1).cell (p := ⟨w.heap.size, o, none⟩) (by simp)]
  have hf : ∀ o, w2.frozen? ⟨w.heap.size, o, none⟩ = (w.alloc (.cells #[.int .i64 0, .string ⟨#[]⟩, .bool false, .int .i64 0, .int .i64 0, .int .i64 0, .int .i64 0, .string ⟨#[]⟩, .slice none 0 0, .int .i64 0, .int .i64 0, .bool false, .bool false] 33)).frozen? ⟨w.heap.size, o, none⟩ := fun o => by
    rw [hb2.frozen (p := ⟨w.heap.size, o, none⟩) (by have := unhide HLT; simp; omega), (abC (.cells #[.int .i64 1, .string h, .bool mu, .int .i64 ep, .int .i64 bo, .int .i64 0, .int .i64 0, .string ⟨#[]⟩, .slice none 0 0, .int .i64 0, .int .i64 0, .bool false, .bool false] 33)).frozen (p := ⟨w.heap.size, o, none⟩) (unhide HLT), (unhide HB1).frozen (p := ⟨w.heap.size, o, none⟩) (by simp)]
  have hk : ∀ o, w2.cell? ⟨w1.heap.size, o, none⟩ = (w1.alloc (.cells #[.int .i64 1, .string h, .bool mu, .int .i64 ep, .int .i64 bo, .int .i64 0, .int .i64 0, .string ⟨#[]⟩, .slice none 0 0, .int .i64 0, .int .i64 0, .bool false, .bool false] 33)).cell? ⟨w1.heap.size, o, none⟩ := fun o => hb2.cell (p := ⟨w1.heap.size, o, none⟩) (by simp)
  have HB2 := hide (btC (btC (btC (abC (.cells #[.int .i64 0, .string ⟨#[]⟩, .bool false, .int .i64 0, .int .i64 0, .int .i64 0, .int .i64 0, .string ⟨#[]⟩, .slice none 0 0, .int .i64 0, .int .i64 0, .bool false, .bool false] 33)) (unhide HB1)) (abC (.cells #[.int .i64 1, .string h, .bool mu, .int .i64 ep, .int .i64 bo, .int .i64 0, .int .i64 0, .string ⟨#[]⟩, .slice none 0 0, .int .i64 0, .int .i64 0, .bool false, .bool false] 33))) hb2)
  clear hb2
  go_wp2_with fail
  refine bodyPost_ret (v := .tuple #[.agg #[.int .i64 0, .string ⟨#[]⟩, .bool false, .int .i64 0, .int .i64 0, .int .i64 0, .int .i64 0, .string ⟨#[]⟩, .slice none 0 0, .int .i64 0, .int .i64 0, .bool false, .bool false], .bool false]) (by simp [results, Try.results11, go_sem, hz]) rfl ⟨rfl, ?_⟩
  iterate 13 refine Below.setCell ?_ (Nat.le_refl w.heap.size) _
  exact unhide HB2


end Go.Proofs.Ytfeolcefgciflaa
