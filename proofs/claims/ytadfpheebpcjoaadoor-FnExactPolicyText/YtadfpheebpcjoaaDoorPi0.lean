/- The walk of impl.PolicyText. -/
import Derived.Test.YtadfpheebpcjoaaDoorPj
import Derived.Test.YtadfpheebpcjoaaDoorShelf
import Derived.Lib.AppendIntMem
namespace Go.Proofs.YtadfpheebpcjoaaDoor
open Go.RowKit Go.Deep

def Tab (w : World) : Prop := Lib.TabIs Tryd.prog w "internal/strconv.uint64pow10" .u64 Lib.pow10Tab
theorem Tab.on {w w' : World} (h : Tab w) (hb : Below w.heap.size w w') : Tab w' := Lib.tabBelow_of_tabIs h w' hb
theorem itoaP (n : Int) (w : World) (h0 : -9223372036854775808 ≤ n) (h1 : n ≤ 9223372036854775807) (ht : Tab w) :
    Calls Tryd.prog 17 #[.int .i64 n] w fun e w' => e = .returned (.string ⟨(Lib.itoa n).toArray⟩) ∧ Below w.heap.size w w' :=
  (Tryd.strconv_Itoa n h0 h1 w ht).mono fun _ _ ⟨he, k, os, hw⟩ => ⟨he, by rw [hw]; exact Lib.below_grow _ w (Nat.le_refl _) k os⟩
theorem md_size (m : Int) : (mdWord m).size ≤ 4 := by
  unfold mdWord
  split
  · exact Nat.le_refl _
  · split
    · exact Nat.le_refl _
    · split
      · exact Nat.le_refl _
      · exact Nat.zero_le _
theorem mode_add (m : Int) : ∃ MM : ByteArray, (∀ w, (Op.stringOp .add ⟨#[109, 111, 100, 101, 58, 32]⟩ (mdWord m)).run Tryd.prog w = .ok (.string MM) w) ∧ Hid (MM = tMH ++ mdWord m) := by
  refine ⟨tMH ++ mdWord m, fun w => run_string_add_sum _ _ _ ?_, rfl⟩
  have h1 := md_size m
  have h2 : tMH.size = 6 := rfl
  show tMH.size + _ ≤ _
  omega
theorem mx_add (t : ByteArray) (ht : t.size ≤ 1048576) : ∃ X : ByteArray, (∀ w, (Op.stringOp .add ⟨#[109, 120, 58, 32]⟩ t).run Tryd.prog w = .ok (.string X) w) ∧ Hid (X = tMX ++ t) := by
  refine ⟨tMX ++ t, fun w => run_string_add_sum _ _ _ ?_, rfl⟩
  have h2 : tMX.size = 4 := rfl
  show tMX.size + _ ≤ _
  omega
theorem age_add (ag : Int) (h : 0 ≤ ag ∧ ag ≤ 100000) : ∃ AA : ByteArray, (∀ w, (Op.stringOp .add ⟨#[97, 103, 101, 58, 32]⟩ ⟨(Lib.itoa ag).toArray⟩).run Tryd.prog w = .ok (.string AA) w) ∧ Hid (AA = tAGE ++ ⟨(Lib.itoa ag).toArray⟩) := by
  refine ⟨_, fun w => run_string_add_sum _ _ _ ?_, rfl⟩
  have h1 := itoa_size h
  have h2 : tAGE.size = 5 := rfl
  show tAGE.size + _ ≤ _
  omega
theorem Txs.lit2 (w : World) (x y : ByteArray) : Txs w [x, y] (.slice (some ⟨w.heap.size, 0, none⟩) 2 2) (w.alloc (.cells #[.string x, .string y] 9)) :=
  ⟨rfl, Or.inr ⟨w.heap.size, 2, #[.string x, .string y], rfl, Nat.le_refl _, heap_alloc_new w _, Nat.le_refl _, by unfold maxLen; omega, rfl, rfl⟩⟩
theorem Txs.open2 {w wr : World} {l : List ByteArray} {v : Value} (h : Txs w l v wr) (hne : l ≠ []) : ∃ g c n, v = .slice (some ⟨g, 0, none⟩) n c ∧ n = l.length ∧ (∀ k t, l[k]? = some t → wr.cell? ⟨g, k, none⟩ = some (.string t)) ∧ g < wr.heap.size ∧ l.length ≤ c := by
  obtain ⟨g, c, rfl, hc⟩ := h.open hne
  rcases h.2 with ⟨h1, h2⟩ | ⟨g', cap, cur, h1, h2, h3, h4, h5, h6, h7⟩
  · exact absurd (List.length_eq_zero_iff.1 h2) hne
  · simp only [Value.slice.injEq, Option.some.injEq, Addr.mk.injEq, and_true, true_and] at h1
    obtain ⟨rfl, rfl⟩ := h1
    exact ⟨g, c, _, rfl, rfl, hc, (Array.getElem?_eq_some_iff.1 h3).1, h4⟩
/-- The lines, joined by the library, and one more byte behind: the text. -/
theorem join_ok (l : List ByteArray) (m ag : Int) (hag : 0 ≤ ag ∧ ag ≤ 100000) (hw : l.length + txw l ≤ 1048576) :
    Hid (∀ (g c n : Nat) (W : World), n = (rowL (tMH ++ mdWord m) l ++ [tAGE ++ ⟨(Lib.itoa ag).toArray⟩]).length → (∀ (j : Nat) x, (rowL (tMH ++ mdWord m) l ++ [tAGE ++ ⟨(Lib.itoa ag).toArray⟩])[j]? = some x → W.cell? ⟨g, j, none⟩ = some (.string x)) → g < W.heap.size → (rowL (tMH ++ mdWord m) l ++ [tAGE ++ ⟨(Lib.itoa ag).toArray⟩]).length ≤ c →
      ∃ JJ : ByteArray, (Calls Tryd.prog 18 #[.slice (some ⟨g, 0, none⟩) n c, .string ⟨#[10]⟩] W fun e w' => e = .returned (.string JJ) ∧ Below W.heap.size W w') ∧ ∀ v, (Op.stringOp .add JJ ⟨#[10]⟩).run Tryd.prog v = .ok (.string (polT l m ag)) v) := by
  show ∀ (g c n : Nat) (W : World), _
  intro g c n W hn h1 h2 h3
  subst hn
  have hne : (rowL (tMH ++ mdWord m) l ++ [tAGE ++ ⟨(Lib.itoa ag).toArray⟩]) ≠ [] := by simp
  have hs := join_size _ hne
  have hx : txw (rowL (tMH ++ mdWord m) l ++ [tAGE ++ ⟨(Lib.itoa ag).toArray⟩]) + (rowL (tMH ++ mdWord m) l ++ [tAGE ++ ⟨(Lib.itoa ag).toArray⟩]).length ≤ 8388608 := by
    have a1 := md_size m
    have a2 := itoa_size hag
    have a3 : tMH.size = 6 := rfl
    have a4 : tAGE.size = 5 := rfl
    have a5 : tVL.size = 11 := rfl
    simp only [rowL, txw_append, txw_map, txw, ByteArray.size_append, List.length_append, List.length_map, List.length_cons, List.length_nil]
    omega
  refine ⟨⟨(Lib.join ((rowL (tMH ++ mdWord m) l ++ [tAGE ++ ⟨(Lib.itoa ag).toArray⟩]).map (·.data.toList)) [10]).toArray⟩, ?_, fun v => ?_⟩
  · exact Tryd.strings_Join g 0 c _ ⟨#[10]⟩ W (fun j x hj => by rw [Nat.zero_add]; exact h1 j x hj) h2 (by omega) h3 (by show (Lib.join _ [10]).length ≤ _; omega)
  · rw [run_string_add_sum _ _ _ (by
      have e1 : (⟨(Lib.join ((rowL (tMH ++ mdWord m) l ++ [tAGE ++ ⟨(Lib.itoa ag).toArray⟩]).map (·.data.toList)) [10]).toArray⟩ : ByteArray).size = (Lib.join ((rowL (tMH ++ mdWord m) l ++ [tAGE ++ ⟨(Lib.itoa ag).toArray⟩]).map (·.data.toList)) [10]).length := by simp [ByteArray.size]
      have e2 : (⟨#[10]⟩ : ByteArray).size = 1 := rfl
      rw [e1, e2]
      omega), join_pol]

end Go.Proofs.YtadfpheebpcjoaaDoor
