/- The lines of a policy's text, joined: the same text as the model's. -/
import Derived.Test.YtadfpheebpcjoaaDoorPt
import Derived.Test.YtadfpheebpcjoaaDoorHc
import Derived.Lib.Join
namespace Go.Proofs.YtadfpheebpcjoaaDoor
open Go.RowKit Go.Deep

def tVL : ByteArray := ⟨#[118, 101, 114, 115, 105, 111, 110, 58, 32, 118, 49]⟩
def tMH : ByteArray := ⟨#[109, 111, 100, 101, 58, 32]⟩
def rowL (MM : ByteArray) (l : List ByteArray) : List ByteArray := [tVL, MM] ++ l.map (tMX ++ ·)
theorem rowL_step (MM : ByteArray) {l : List ByteArray} {k : Nat} {t : ByteArray} (h : l[k]? = some t) : rowL MM (l.take (k + 1)) = rowL MM (l.take k) ++ [tMX ++ t] := by
  unfold rowL
  rw [List.take_add_one, h]
  simp
theorem rowL_len (MM : ByteArray) (l : List ByteArray) : (rowL MM l).length = l.length + 2 := by simp [rowL]
theorem bl (a b : ByteArray) : (a ++ b).data.toList = a.data.toList ++ b.data.toList := by simp
def flat (xs : List ByteArray) : List UInt8 := (xs.map fun x => x.data.toList ++ [10]).flatten
theorem join_flat : ∀ (xs : List ByteArray), xs ≠ [] → Lib.join (xs.map (·.data.toList)) [10] ++ [10] = flat xs
  | [], h => absurd rfl h
  | [x], _ => by simp [Lib.join, List.intercalate, flat]
  | x :: y :: r, _ => by
    have ih := join_flat (y :: r) (by simp)
    have e : Lib.join ((x :: y :: r).map (·.data.toList)) [10] = x.data.toList ++ [10] ++ Lib.join ((y :: r).map (·.data.toList)) [10] := by
      simp [Lib.join, List.intercalate]
    rw [e, List.append_assoc, ih]
    simp [flat]
theorem acc_flat (b : ByteArray) (l : List ByteArray) : (accB b l).data.toList = b.data.toList ++ flat (l.map (tMX ++ ·)) := by
  unfold accB
  induction l generalizing b with
  | nil => simp [flat]
  | cons t r ih =>
    rw [List.foldl_cons, ih]
    simp only [bl, List.map_cons, flat, List.flatten_cons, List.append_assoc]
    rfl
theorem join_pol (l : List ByteArray) (m ag : Int) : (⟨(Lib.join ((rowL (tMH ++ mdWord m) l ++ [tAGE ++ ⟨(Lib.itoa ag).toArray⟩]).map (·.data.toList)) [10]).toArray⟩ ++ ⟨#[10]⟩ : ByteArray) = polT l m ag := by
  apply Go.WideShapes.bytes_inj
  have h1 := join_flat (rowL (tMH ++ mdWord m) l ++ [tAGE ++ ⟨(Lib.itoa ag).toArray⟩]) (by simp)
  rw [bl]
  show (Lib.join ((rowL (tMH ++ mdWord m) l ++ [tAGE ++ ⟨(Lib.itoa ag).toArray⟩]).map (·.data.toList)) [10]).toArray.toList ++ [10] = _
  rw [List.toList_toArray, h1]
  unfold polT
  simp only [bl, acc_flat, flat, rowL, List.map_append, List.flatten_append, List.map_cons, List.map_nil, List.flatten_cons, List.flatten_nil, List.append_assoc, List.append_nil]
  rfl
theorem flat_size (xs : List ByteArray) : (flat xs).length = txw xs + xs.length := by
  unfold flat
  induction xs with
  | nil => rfl
  | cons x r ih =>
    simp only [List.map_cons, List.flatten_cons, List.length_append, ih, txw, List.length_cons]
    have : x.data.toList.length = x.size := Array.length_toList
    simp only [List.length_nil]
    omega
theorem join_size (xs : List ByteArray) (h : xs ≠ []) : (Lib.join (xs.map (·.data.toList)) [10]).length + 1 = txw xs + xs.length := by
  have h1 := congrArg List.length (join_flat xs h)
  rw [List.length_append, flat_size] at h1
  exact h1
theorem txw_map (l : List ByteArray) : txw (l.map (tMX ++ ·)) = txw l + 4 * l.length := by
  induction l with
  | nil => rfl
  | cons t r ih =>
    simp only [List.map_cons, txw, ih, ByteArray.size_append, List.length_cons]
    have : tMX.size = 4 := rfl
    omega

end Go.Proofs.YtadfpheebpcjoaaDoor
