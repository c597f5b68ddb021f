
/- The walks of spec.l5Labels and spec.HostOk: whether a text is a host; nothing that was there is written. -/
import Derived.Test.YtjckdepcgjfomaaDoorHb
namespace Go.Proofs.YtjckdepcgjfomaaDoor
open Go.RowKit Go.Deep

theorem labs_ne (s : ByteArray) : ∀ f st, labs s f st ≠ []
  | 0, st => by simp [labs]
  | f + 1, st => by
    unfold labs
    split
    · simp
    · exact labs_ne s f st
/-- A row of texts that is not empty: where it lies, and what each place holds. -/
theorem Txs.open {w wr : World} {l : List ByteArray} {v : Value} (h : Txs w l v wr) (hne : l ≠ []) : ∃ g c, v = .slice (some ⟨g, 0, none⟩) l.length c ∧ ∀ k t, l[k]? = some t → wr.cell? ⟨g, k, none⟩ = some (.string t) := by
  rcases h.2 with ⟨h1, h2⟩ | ⟨g, cap, cur, h1, h2, h3, h4, h5, h6, h7⟩
  · exact absurd (List.length_eq_zero_iff.1 h2) hne
  · refine ⟨g, cap, h1, fun k t hk => ?_⟩
    have hk' : k < l.length := (List.getElem?_eq_some_iff.1 hk).1
    have hkc : k < cur.size := by omega
    have e : (cur.toList.take (l.length * 1))[k]? = some (.string t) := by rw [h7]; simp [hk]
    rw [List.getElem?_take, if_pos (by omega), Array.getElem?_toList, Array.getElem?_eq_getElem hkc] at e
    rw [cell_of_row h3 hkc, e]

end Go.Proofs.YtjckdepcgjfomaaDoor
