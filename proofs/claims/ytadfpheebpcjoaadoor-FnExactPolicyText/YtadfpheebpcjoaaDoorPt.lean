/- How a policy reads, and the walk of spec.PolicyText. -/
import Derived.Test.YtadfpheebpcjoaaDoorPn
import Derived.Test.YtadfpheebpcjoaaDoorTx
namespace Go.Proofs.YtadfpheebpcjoaaDoor
open Go.RowKit Go.Deep

def tMX : ByteArray := ⟨#[109, 120, 58, 32]⟩
def tNL : ByteArray := ⟨#[10]⟩
def tAGE : ByteArray := ⟨#[97, 103, 101, 58, 32]⟩
def tVM : ByteArray := ⟨#[118, 101, 114, 115, 105, 111, 110, 58, 32, 118, 49, 10, 109, 111, 100, 101, 58, 32]⟩
/-- The lines of the patterns behind what there is. -/
def accB (b : ByteArray) (l : List ByteArray) : ByteArray := l.foldl (fun b t => ((b ++ tMX) ++ t) ++ tNL) b
theorem accB_step (b : ByteArray) {l : List ByteArray} {k : Nat} {t : ByteArray} (h : l[k]? = some t) : accB b (l.take (k + 1)) = ((accB b (l.take k) ++ tMX) ++ t) ++ tNL := by
  unfold accB
  rw [List.take_add_one, h, List.foldl_append]
  rfl
theorem accB_size (b : ByteArray) (l : List ByteArray) : (accB b l).size = b.size + 5 * l.length + txw l := by
  unfold accB
  induction l generalizing b with
  | nil => simp [txw]
  | cons t r ih =>
    rw [List.foldl_cons, ih]
    simp only [ByteArray.size_append, List.length_cons, txw]
    have h1 : tMX.size = 4 := rfl
    have h2 : tNL.size = 1 := rfl
    omega
theorem wrapN {x y : Nat} (h : x ≤ 1048576) (e : y = x + 1) : wrap64 ((x : Int) + 1) = (y : Int) := by
  subst e
  unfold wrap64
  omega
theorem meas {k len : Nat} (h : k < len) : len - (((k + 1 : Nat) : Int)).toNat < len - ((k : Int)).toNat := by
  simp only [Int.toNat_natCast]
  omega
theorem three_adds (A t : ByteArray) (hA : A.size ≤ 8388608) (ht : t.size ≤ 1048576) : ∃ A1 A2 A3 : ByteArray, (∀ w, (Op.stringOp .add A ⟨#[109, 120, 58, 32]⟩).run Tryd.prog w = .ok (.string A1) w) ∧ (∀ w, (Op.stringOp .add A1 t).run Tryd.prog w = .ok (.string A2) w) ∧ (∀ w, (Op.stringOp .add A2 ⟨#[10]⟩).run Tryd.prog w = .ok (.string A3) w) ∧ Hid (A3 = ((A ++ tMX) ++ t) ++ tNL) := by
  have h1 : tMX.size = 4 := rfl
  have h2 : tNL.size = 1 := rfl
  refine ⟨A ++ tMX, (A ++ tMX) ++ t, ((A ++ tMX) ++ t) ++ tNL, fun w => run_string_add_sum _ _ _ ?_, fun w => run_string_add_sum _ _ _ ?_, fun w => run_string_add_sum _ _ _ ?_, rfl⟩
  · show A.size + tMX.size ≤ _
    omega
  · simp only [ByteArray.size_append]
    omega
  · show ((A ++ tMX) ++ t).size + tNL.size ≤ _
    simp only [ByteArray.size_append]
    omega
theorem round_measP {L k : Nat} (w1 : wrap64 ((k : Int) + 1) = ((k + 1 : Nat) : Int)) (hp : k < L) : L - (intOf (.int .i64 (wrap64 ((k : Int) + 1)))).toNat < L - (intOf (.int .i64 (k : Int))).toNat := by
  rw [w1]; simp only [intOf]; omega
noncomputable def polT (l : List ByteArray) (m ag : Int) : ByteArray := ((accB ((tVM ++ mdWord m) ++ tNL) l ++ tAGE) ++ ⟨(Lib.itoa ag).toArray⟩) ++ tNL
theorem head_size (m : Int) : ((tVM ++ mdWord m) ++ tNL).size ≤ 30 := by
  simp only [ByteArray.size_append]
  have h1 : tVM.size = 18 := rfl
  have h2 : tNL.size = 1 := rfl
  have h3 : (mdWord m).size ≤ 4 := by
    unfold mdWord
    split
    · exact Nat.le_refl _
    · split
      · exact Nat.le_refl _
      · split
        · exact Nat.le_refl _
        · exact Nat.zero_le _
  omega
theorem itoa_size {ag : Int} (h : 0 ≤ ag ∧ ag ≤ 100000) : (⟨(Lib.itoa ag).toArray⟩ : ByteArray).size ≤ 32 := by
  have := Lib.itoa_length_le ag (by omega) (by omega)
  simp [ByteArray.size]
  omega


set_option maxRecDepth 100000 in
set_option maxHeartbeats 1000000 in
theorem textS_no (l : List ByteArray) (d : ByteArray) (m : Int) (a : Option Addr) (cap : Nat) (u age : Int) (w : World) (hl : Txt w 0 a l) (hw : l.length + txw l ≤ 1048576) (hd : d.size ≤ 2097152) (hB : polB l d m u = false) :
    Calls Tryd.prog 5 #[.agg #[.string d, .int .i64 m, .slice a l.length cap, .int .i64 u], .int .i64 age] w fun e w' => e = .returned (.string ⟨#[]⟩) ∧ Below w.heap.size w w' := by
  have ht : ∀ t ∈ l, t.size ≤ 1048576 := fun t hx => by
    obtain ⟨k, hk, rfl⟩ := List.mem_iff_getElem.1 hx
    have := txw_get (List.getElem?_eq_getElem hk)
    omega
  have h10 := hide (fun v hv => polS l d m a cap u v hv (by omega) (fun t hx => by have := ht t hx; omega) hd)
  rw [hB] at h10
  have hb0 := abP (w := w) (.cells #[.string d, .int .i64 m, .slice a l.length cap, .int .i64 u] 27)
  have HB0 := hide hb0
  have HL0 := hide (hl.on hb0)
  clear hl hw hd hB hb0 ht
  generalize l.length = len at *
  go_enter Tryd.func5, Tryd.ntmps5
  go_wp2_with fail
  refine (unhide h10 _ (unhide HL0)).mono ?_
  rintro e w1 ⟨rfl, hb1⟩
  have HB1 := hide (btP (unhide HB0) hb1)
  clear hb1
  go_wp2_with fail
  go_ret
  exact ⟨rfl, unhide HB1⟩

end Go.Proofs.YtadfpheebpcjoaaDoor
