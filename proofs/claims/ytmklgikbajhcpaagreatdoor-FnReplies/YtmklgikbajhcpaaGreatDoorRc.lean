
/- A right term does not lie in a box of zeros: it stays where another block alone is written. -/
import Derived.Test.YtmklgikbajhcpaaGreatDoorRp
namespace Go.Proofs.YtmklgikbajhcpaaGreatDoor
open Go.RowKit Go.Deep

theorem ok_op {op n : Int} {s : ByteArray} {ks : List Tm} (h : okT (.node op n s ks) = true) : op ≠ 0 := by
  rintro rfl
  simp [okT, rightT, headB, kidsOf] at h
theorem zbox_int {w : World} {g o : Nat} {op : Int} (hz : ZBox w g) (h : w.cell? ⟨g, o, none⟩ = some (.int .i64 op)) : op = 0 := by
  unfold ZBox at hz
  simp only [World.cell?, hz] at h
  match o with
  | 0 => simpa using h.symm
  | 1 => simpa using h.symm
  | 2 => simp at h
  | 3 => simp at h
  | o + 4 => simp at h

mutual
theorem Lies.apartZ {w w' : World} {L g : Nat} (hz : ZBox w g) (hc : ∀ b o, b ≠ g → w'.cell? ⟨b, o, none⟩ = w.cell? ⟨b, o, none⟩) : ∀ (t : Tm) (cs : List Value), okT t = true → Lies w L t cs → Lies w' L t cs
  | .node op n s ks, cs, hok, h => by
    simp only [Lies] at h ⊢
    obtain ⟨a, cap, rfl, h1, h2, h4⟩ := h
    exact ⟨a, cap, rfl, h1, h2, LiesAll.apartZ hz hc a 0 ks (fun x hx => okT_kid hok hx) h4⟩
theorem LiesAll.apartZ {w w' : World} {L g : Nat} (hz : ZBox w g) (hc : ∀ b o, b ≠ g → w'.cell? ⟨b, o, none⟩ = w.cell? ⟨b, o, none⟩) (a : Option Addr) : ∀ (i : Nat) (ks : List Tm), (∀ x ∈ ks, okT x = true) → LiesAll w L a i ks → LiesAll w' L a i ks
  | i, [], _, _ => by simp [LiesAll]
  | i, t :: r, hok, h => by
    simp only [LiesAll] at h ⊢
    obtain ⟨⟨b, o, cs, ha, hb, hr, ht⟩, h2⟩ := h
    have hne : b ≠ g := by
      rintro rfl
      obtain ⟨op, n, s, ks⟩ := t
      have hh := ht
      simp only [Lies] at hh
      obtain ⟨a', cap, rfl, _⟩ := hh
      exact ok_op (hok (.node op n s ks) (by simp)) (zbox_int hz (hr 0 _ rfl))
    exact ⟨⟨b, o, cs, ha, hb, fun j v hj => by rw [hc b _ hne]; exact hr j v hj, Lies.apartZ hz hc t cs (hok t (by simp)) ht⟩, LiesAll.apartZ hz hc a (i + 1) r (fun x hx => hok x (by simp [hx])) h2⟩
end

/-- The box of a term that came, and what came beside it. -/
def CutY (T : Tm) (w2 : World) (ev : Value) (p q : Value) (wx : World) : Prop := ∃ b op n s a len cap, p = .pointer (some ⟨b, 0, none⟩) ∧ q = ev ∧ w2.heap.size ≤ b ∧ RowT 29 wx b op n s a len cap ∧ Lies wx 0 T (tmCells op n s a len cap) ∧ Below w2.heap.size w2 wx
theorem CutY.late {T : Tm} {w2 w5 : World} {op n : Int} {s : ByteArray} {a : Option Addr} {len cap : Nat} {ev : Value} (hb : Below w2.heap.size w2 w5) (hl : Lies w5 0 T (tmCells op n s a len cap)) : CutY T w2 ev (.pointer (some ⟨w5.heap.size, 0, none⟩)) ev (w5.alloc (.cells #[.int .i64 op, .int .i64 n, .string s, .slice a len cap] 29)) :=
  ⟨_, _, _, _, _, _, _, rfl, rfl, hb.size, RowT.new 29 w5 op n s a len cap, hl.below (ab _), bt hb (ab _) (Nat.le_refl _)⟩
theorem CutY.early {T : Tm} {w2 w5 : World} {g : Nat} {op n : Int} {s : ByteArray} {a : Option Addr} {len cap : Nat} {ev : Value} (hb : Below w2.heap.size w2 w5) (hz : ZBox w5 g) (hg : w2.heap.size ≤ g) (hok : okT T = true) (hl : Lies w5 0 T (tmCells op n s a len cap)) : CutY T w2 ev (.pointer (some ⟨g, 0, none⟩)) ev ((((w5.setCell ⟨g, 0, none⟩ (.int .i64 op)).setCell ⟨g, 1, none⟩ (.int .i64 n)).setCell ⟨g, 2, none⟩ (.string s)).setCell ⟨g, 3, none⟩ (.slice a len cap)) :=
  ⟨_, _, _, _, _, _, _, rfl, rfl, hg, fill26 hz op n s a len cap, Lies.apartZ hz (fun b _ hne => World.cell?_of_block (set4_heap _ _ _ _ _ _ b hne)) T _ hok hl, set4_below hb hg⟩
theorem shr_ok {e u : Tm} (h : shrB e u = true) : okT (shrT e u) = true := by
  obtain ⟨op, n, s, ks⟩ := u
  match ks with
  | [] => simp [shrB] at h
  | _ :: _ :: _ => simp [shrB] at h
  | [k] =>
    simp only [shrB, Bool.and_eq_true] at h
    simp only [shrT]
    first
      | exact h.2
      | simpa using h.2

end Go.Proofs.YtmklgikbajhcpaaGreatDoor
