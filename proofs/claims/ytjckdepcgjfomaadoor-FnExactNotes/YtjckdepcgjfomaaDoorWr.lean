/- The walk of impl.readNote and of impl.NoteOf: what the program reads of a text. -/
import Derived.Test.YtjckdepcgjfomaaDoorOc
import Derived.Test.YtjckdepcgjfomaaDoorWp
import Derived.Test.YtjckdepcgjfomaaDoorWq
namespace Go.Proofs.YtjckdepcgjfomaaDoor
open Go.RowKit Go.Deep

/-- A note that was read: its kind, whose it is, the domain, the body, the time. -/
structure NoteR where
  k : Int
  h : Int
  d : ByteArray
  b : Int
  t : Int
/-- What the program reads of so many words. -/
def rdI : List ByteArray → Option NoteR
  | [a, b, c, d] => if a = ⟨#[116, 97, 107, 101]⟩ then (match numW b, numW d with
    | some x, some y => some ⟨1, x, c, y, 0⟩
    | _, _ => none) else none
  | [a, b, c] => if a = ⟨#[116, 114, 121]⟩ then (match numW b, numW c with
    | some x, some y => some ⟨2, x, ⟨#[]⟩, 0, y⟩
    | _, _ => none) else none
  | [a, b] => if a = ⟨#[103, 111, 110, 101]⟩ then (match numW b with
    | some x => some ⟨3, x, ⟨#[]⟩, 0, 0⟩
    | none => none) else if a = ⟨#[98, 97, 99, 107]⟩ then (match numW b with
    | some x => some ⟨4, x, ⟨#[]⟩, 0, 0⟩
    | none => none) else none
  | _ => none
theorem ne_lit {a : ByteArray} {l : List UInt8} (h : a ≠ ⟨l.toArray⟩) : (a.toList == l) = false := by
  rw [beq_eq_false_iff_ne, ByteArray.toList_eq]
  intro he
  exact h (Go.WideShapes.bytes_inj he)
theorem ne_list {a b : ByteArray} (h : a ≠ b) : (a.toList == b.toList) = false := by
  rw [beq_eq_false_iff_ne, ByteArray.toList_eq, ByteArray.toList_eq]
  intro he
  exact h (Go.WideShapes.bytes_inj he)
def WrI (te : TypeId) (pe : Value) (w : World) : Option NoteR → Ending → World → Prop
  | some n, e, w' => e = .returned (.agg #[.int .i64 n.k, .int .i64 n.h, .string n.d, .int .i64 n.b, .int .i64 n.t]) ∧ Below w.heap.size w w'
  | none, e, w' => e = .panicked [{ v := .iface te pe, recovered := false }] ∧ Below w.heap.size w w'

theorem wordsI (ws : List ByteArray) (te : TypeId) (pe : Value) (g cap : Nat) (w : World) (hne : ws ≠ []) (hl : ws.length ≤ 4) (hs : ∀ x ∈ ws, x.size ≤ 2097152)
    (hc : ∀ (j : Nat) x, ws[j]? = some x → w.cell? ⟨g, j, none⟩ = some (.string x)) (hv : NV w te pe) :
    Calls Tryd.prog 35 #[.slice (some ⟨g, 0, none⟩) ws.length cap] w fun e w' => WrI te pe w (rdI ws) e w' := by
  match ws, hne, hl with
  | [a], _, _ => exact none1 te pe g cap w hv
  | [a, b], _, _ =>
    have c0 := hc 0 a rfl
    have c1 := hc 1 b rfl
    have s1 := hs b (by simp)
    by_cases h3 : a = ⟨#[103, 111, 110, 101]⟩
    · subst h3
      cases hn : numW b with
      | none => rw [show rdI [⟨#[103, 111, 110, 101]⟩, b] = none by simp [rdI, hn]]; exact gone_no b te pe g cap w s1 hn c0 c1 hv
      | some x => rw [show rdI [⟨#[103, 111, 110, 101]⟩, b] = some ⟨3, x, ⟨#[]⟩, 0, 0⟩ by simp [rdI, hn]]; exact gone_yes b x te pe g cap w s1 hn c0 c1 hv
    · by_cases h4 : a = ⟨#[98, 97, 99, 107]⟩
      · subst h4
        cases hn : numW b with
        | none => rw [show rdI [⟨#[98, 97, 99, 107]⟩, b] = none by simp [rdI, hn]]; exact back_no b te pe g cap w s1 hn c0 c1 hv
        | some x => rw [show rdI [⟨#[98, 97, 99, 107]⟩, b] = some ⟨4, x, ⟨#[]⟩, 0, 0⟩ by simp [rdI, hn]]; exact back_yes b x te pe g cap w s1 hn c0 c1 hv
      · rw [show rdI [a, b] = none by simp [rdI, h3, h4]]
        exact none2 a te pe g cap w (ne_lit h3) (ne_lit h4) c0 hv
  | [a, b, c], _, _ =>
    have c0 := hc 0 a rfl
    have c1 := hc 1 b rfl
    have c2 := hc 2 c rfl
    have s1 := hs b (by simp)
    have s2 := hs c (by simp)
    by_cases h3 : a = ⟨#[116, 114, 121]⟩
    · subst h3
      cases hn : numW b with
      | none => rw [show rdI [⟨#[116, 114, 121]⟩, b, c] = none by simp [rdI, hn]]; exact words3_a b c te pe g cap w s1 hn c0 c1 c2 hv
      | some x =>
        cases hm : numW c with
        | none => rw [show rdI [⟨#[116, 114, 121]⟩, b, c] = none by simp [rdI, hn, hm]]; exact words3_b b c x te pe g cap w s1 s2 hn hm c0 c1 c2 hv
        | some y => rw [show rdI [⟨#[116, 114, 121]⟩, b, c] = some ⟨2, x, ⟨#[]⟩, 0, y⟩ by simp [rdI, hn, hm]]; exact words2_yes b c x y g cap w s1 s2 hn hm c0 c1 c2
    · rw [show rdI [a, b, c] = none by simp [rdI, h3]]
      exact none3 a te pe g cap w (ne_lit h3) c0 hv
  | [a, b, c, d], _, _ =>
    have c0 := hc 0 a rfl
    have c1 := hc 1 b rfl
    have c2 := hc 2 c rfl
    have c3 := hc 3 d rfl
    have s1 := hs b (by simp)
    have s2 := hs c (by simp)
    have s3 := hs d (by simp)
    by_cases h3 : a = ⟨#[116, 97, 107, 101]⟩
    · subst h3
      cases hn : numW b with
      | none => rw [show rdI [⟨#[116, 97, 107, 101]⟩, b, c, d] = none by simp [rdI, hn]]; exact words4_a b c d te pe g cap w s1 hn c0 c1 c2 c3 hv
      | some x =>
        cases hm : numW d with
        | none => rw [show rdI [⟨#[116, 97, 107, 101]⟩, b, c, d] = none by simp [rdI, hn, hm]]; exact words4_b b c d x te pe g cap w s1 s2 s3 hn hm c0 c1 c2 c3 hv
        | some y => rw [show rdI [⟨#[116, 97, 107, 101]⟩, b, c, d] = some ⟨1, x, c, y, 0⟩ by simp [rdI, hn, hm]]; exact words4_c b c d x y g cap w s1 s2 s3 hn hm c0 c1 c2 c3
    · rw [show rdI [a, b, c, d] = none by simp [rdI, h3]]
      exact none4 a te pe g cap w (ne_lit h3) c0 hv
  | _ :: _ :: _ :: _ :: _ :: _, _, h => exact absurd h (by simp)

/-- A line without its end. -/
def trimT (s : ByteArray) : ByteArray := ⟨(Lib.trimSuffix s.data.toList [10]).toArray⟩
def fourth (z : ByteArray) : Nat := min 4 (z.size + 1)
/-- The words that the program sees. -/
def wsI (s : ByteArray) : List ByteArray := Lib.splitB ⟨#[32]⟩ 0 (fourth (trimT s) - 1) (trimT s)
theorem splitB_ne (sep : ByteArray) (save k : Nat) (s : ByteArray) : Lib.splitB sep save k s ≠ [] := by
  cases k with
  | zero => simp [Lib.splitB]
  | succ k => unfold Lib.splitB; split <;> simp
theorem splitB_size (sep : ByteArray) : ∀ (k : Nat) (s : ByteArray), ∀ x ∈ Lib.splitB sep 0 k s, x.size ≤ s.size
  | 0, s, x, h => by
    simp [Lib.splitB] at h
    rw [h]
    omega
  | k + 1, s, x, h => by
    unfold Lib.splitB at h
    split at h
    · simp at h
      rw [h]
      omega
    · rcases List.mem_cons.1 h with rfl | h
      · exact size_extract_le _ _ _
      · exact Nat.le_trans (splitB_size sep k _ x h) (size_extract_le _ _ _)
theorem trimT_size (s : ByteArray) : (trimT s).size ≤ s.size := by
  rw [← len_size (trimT s), ← len_size s]
  show (Lib.trimSuffix s.data.toList [10]).length ≤ _
  unfold Lib.trimSuffix
  split
  · rw [List.length_take]; omega
  · omega
theorem wsI_ne (s : ByteArray) : wsI s ≠ [] := splitB_ne _ _ _ _
theorem wsI_len (s : ByteArray) : (wsI s).length ≤ 4 := by
  have := Lib.splitB_length_le ⟨#[32]⟩ 0 (fourth (trimT s) - 1) (trimT s)
  unfold wsI
  unfold fourth at *
  omega
theorem wsI_size (s : ByteArray) : ∀ x ∈ wsI s, x.size ≤ s.size := fun x hx => Nat.le_trans (splitB_size _ _ _ x hx) (trimT_size s)
theorem cells_at (ls : List ByteArray) (n : Nat) (w : World) (j : Nat) (x : ByteArray) (h : ls[j]? = some x) : (w.alloc (.cells (Lib.cellsOf ls n) 9)).cell? ⟨w.heap.size, j, none⟩ = some (.string x) := by
  refine box_cell w _ 9 j _ ?_
  have hj : j < ls.length := (List.getElem?_eq_some_iff.1 h).1
  rw [Lib.cellsOf, List.getElem?_toArray, List.getElem?_append_left (by simpa using hj), List.getElem?_map, h]
  rfl
theorem rdI_size {ws : List ByteArray} {n : NoteR} {m : Nat} (h : rdI ws = some n) (hs : ∀ x ∈ ws, x.size ≤ m) : n.d.size ≤ m := by
  unfold rdI at h
  split at h
  · split at h
    · split at h
      · cases h; exact hs _ (by simp)
      · cases h
    · cases h
  · split at h
    · split at h
      · cases h; exact Nat.zero_le _
      · cases h
    · cases h
  · split at h
    · split at h
      · cases h; exact Nat.zero_le _
      · cases h
    · split at h
      · split at h
        · cases h; exact Nat.zero_le _
        · cases h
      · cases h
  · cases h
noncomputable def NoteR.text (n : NoteR) : ByteArray := textN n.k n.h n.d n.b n.t
/-- What the program needs of the world: the error, the table of powers, a number. -/
def Wd (w : World) (te : TypeId) (pe : Value) : Prop := NV w te pe ∧ Tab w ∧ ∃ m, w.cell? ⟨2, 0, none⟩ = some (.int .i64 m)
theorem Wd.on {w w' : World} {te : TypeId} {pe : Value} (h : Wd w te pe) (hb : Below w.heap.size w w') : Wd w' te pe :=
  ⟨h.1.on hb, h.2.1.on hb, h.2.2.elim fun m hm => ⟨m, below_some hb hm⟩⟩

set_option maxRecDepth 100000 in
set_option maxHeartbeats 2000000 in
theorem readI_none (s : ByteArray) (te : TypeId) (pe : Value) (w : World) (hs : s.size ≤ 2097152) (h0 : rdI (wsI s) = none) (hv : Wd w te pe) :
    Calls Tryd.prog 26 #[.string s] w fun e w' => e = .panicked [{ v := .iface te pe, recovered := false }] ∧ Below w.heap.size w w' := by
  have hT := hide (fun v => Tryd.strings_TrimSuffix s ⟨#[10]⟩ v (by omega))
  have hP := hide (fun v (hv : Wd v te pe) => hv.2.2.elim fun m hm => Tryd.strings_SplitN (trimT s) ⟨#[32]⟩ 4 m v (by have := trimT_size s; omega) hm (by decide) (by decide) (by decide))
  have hW := hide (fun u (hu : Wd u te pe) => wordsI (wsI s) te pe u.heap.size (fourth (trimT s)) (u.alloc (.cells (Lib.cellsOf (wsI s) (fourth (trimT s))) 9)) (wsI_ne s) (wsI_len s) (fun x hx => Nat.le_trans (wsI_size s x hx) hs) (fun j x hj => cells_at _ _ _ j x hj) (hu.on (abP _)).1)
  rw [h0] at hW
  have HV := hide (hv.on (abP (w := w) (.cells #[.int .i64 0, .int .i64 0, .string ⟨#[]⟩, .int .i64 0, .int .i64 0] 26)))
  have HB0 := hide (abP (w := w) (.cells #[.int .i64 0, .int .i64 0, .string ⟨#[]⟩, .int .i64 0, .int .i64 0] 26))
  have HX := hide (heap_alloc_new w (.cells #[.int .i64 0, .int .i64 0, .string ⟨#[]⟩, .int .i64 0, .int .i64 0] 26))
  clear hv hs h0
  unfold WrI at hW
  have eZ : (⟨(Lib.trimSuffix s.data.toList (⟨#[10]⟩ : ByteArray).data.toList).toArray⟩ : ByteArray) = trimT s := rfl
  rw [eZ] at hT
  have eW : Lib.splitB ⟨#[32]⟩ 0 (min 4 ((trimT s).size + 1) - 1) (trimT s) = wsI s := rfl
  have eF : min 4 ((trimT s).size + 1) = fourth (trimT s) := rfl
  rw [eW, eF] at hP
  clear eZ eW eF
  generalize wsI s = L at *
  generalize fourth (trimT s) = C at *
  generalize trimT s = Z at *
  go_enter Tryd.func26, Tryd.ntmps26
  go_wp2_with fail
  generalize w.alloc (.cells #[.int .i64 0, .int .i64 0, .string ⟨#[]⟩, .int .i64 0, .int .i64 0] 26) = V at *
  refine (unhide hT _).mono ?_
  rintro e w2 ⟨rfl, rfl⟩
  go_wp2_with fail
  refine (unhide hP _ (unhide HV)).mono ?_
  rintro e w3 ⟨rfl, rfl⟩
  go_wp2_with fail
  refine (unhide hW _ (unhide HV)).mono ?_
  rintro e w4 ⟨rfl, hb4⟩
  have HB4 := hide (btP (btP (unhide HB0) (abP _)) hb4)
  clear hb4
  go_wp2_with fail
  exact ⟨rfl, rfl, unhide HB4⟩

set_option maxRecDepth 100000 in
set_option maxHeartbeats 2000000 in
theorem readI_other (s : ByteArray) (te : TypeId) (pe : Value) (w : World) (hs : s.size ≤ 2097152) (n : NoteR) (h0 : rdI (wsI s) = some n) (hx : n.text ≠ s) (hv : Wd w te pe) :
    Calls Tryd.prog 26 #[.string s] w fun e w' => e = .panicked [{ v := .iface te pe, recovered := false }] ∧ Below w.heap.size w w' := by
  have hds := Nat.le_trans (rdI_size h0 (wsI_size s)) hs
  obtain ⟨k, h, d, b, t⟩ := n
  simp only [NoteR.text] at hx hds
  have hT := hide (fun v => Tryd.strings_TrimSuffix s ⟨#[10]⟩ v (by omega))
  have hP := hide (fun v (hv : Wd v te pe) => hv.2.2.elim fun m hm => Tryd.strings_SplitN (trimT s) ⟨#[32]⟩ 4 m v (by have := trimT_size s; omega) hm (by decide) (by decide) (by decide))
  have hW := hide (fun u (hu : Wd u te pe) => wordsI (wsI s) te pe u.heap.size (fourth (trimT s)) (u.alloc (.cells (Lib.cellsOf (wsI s) (fourth (trimT s))) 9)) (wsI_ne s) (wsI_len s) (fun x hx => Nat.le_trans (wsI_size s x hx) hs) (fun j x hj => cells_at _ _ _ j x hj) (hu.on (abP _)).1)
  rw [h0] at hW
  have hI := hide (fun v (hv : Wd v te pe) => textI_any k h d b t v hds hv.2.1)
  have hq := ne_list hx
  have HV := hide (hv.on (abP (w := w) (.cells #[.int .i64 0, .int .i64 0, .string ⟨#[]⟩, .int .i64 0, .int .i64 0] 26)))
  have HB0 := hide (abP (w := w) (.cells #[.int .i64 0, .int .i64 0, .string ⟨#[]⟩, .int .i64 0, .int .i64 0] 26))
  have HX := hide (heap_alloc_new w (.cells #[.int .i64 0, .int .i64 0, .string ⟨#[]⟩, .int .i64 0, .int .i64 0] 26))
  clear hv hs h0 hds hx
  unfold WrI at hW
  have eZ : (⟨(Lib.trimSuffix s.data.toList (⟨#[10]⟩ : ByteArray).data.toList).toArray⟩ : ByteArray) = trimT s := rfl
  rw [eZ] at hT
  have eW : Lib.splitB ⟨#[32]⟩ 0 (min 4 ((trimT s).size + 1) - 1) (trimT s) = wsI s := rfl
  have eF : min 4 ((trimT s).size + 1) = fourth (trimT s) := rfl
  rw [eW, eF] at hP
  clear eZ eW eF
  generalize wsI s = L at *
  generalize fourth (trimT s) = C at *
  generalize trimT s = Z at *
  generalize textN k h d b t = X at *
  go_enter Tryd.func26, Tryd.ntmps26
  go_wp2_with fail
  generalize w.alloc (.cells #[.int .i64 0, .int .i64 0, .string ⟨#[]⟩, .int .i64 0, .int .i64 0] 26) = V at *
  refine (unhide hT _).mono ?_
  rintro e w2 ⟨rfl, rfl⟩
  go_wp2_with fail
  refine (unhide hP _ (unhide HV)).mono ?_
  rintro e w3 ⟨rfl, rfl⟩
  go_wp2_with fail
  refine (unhide hW _ (unhide HV)).mono ?_
  rintro e w4 ⟨rfl, hb4⟩
  have HB4 := hide (btP (btP (unhide HB0) (abP _)) hb4)
  have HX4 := hide (((btP (abP (w := w2) (.cells (Lib.cellsOf L C) 9)) hb4).block w.heap.size (Array.getElem?_eq_some_iff.1 (unhide HX)).1).trans (unhide HX))
  have HV4 := hide ((unhide HV).on (btP (abP (w := w2) (.cells (Lib.cellsOf L C) 9)) hb4))
  clear hb4
  go_wp2_with fail
  have HN := hide (heap_alloc_new w4 (.cells #[.int .i64 k, .int .i64 h, .string d, .int .i64 b, .int .i64 t] 26))
  refine (unhide hI _ ((unhide HV4).on (abP _))).mono ?_
  rintro e w6 ⟨rfl, hb6⟩
  have HB6 := hide (btP (unhide HB4) (btP (abP _) hb6))

  have c0 := ((unhide HV4).on (btP (abP (w := w4) (.cells #[.int .i64 k, .int .i64 h, .string d, .int .i64 b, .int .i64 t] 26)) hb6)).1.1
  clear hb6
  go_wp2_with fail
  exact ⟨rfl, rfl, unhide HB6⟩

set_option maxRecDepth 100000 in
set_option maxHeartbeats 2000000 in
theorem readI_yes (s : ByteArray) (te : TypeId) (pe : Value) (w : World) (hs : s.size ≤ 2097152) (n : NoteR) (h0 : rdI (wsI s) = some n) (hx : n.text = s) (hv : Wd w te pe) :
    Calls Tryd.prog 26 #[.string s] w fun e w' => e = .returned (.agg #[.int .i64 n.k, .int .i64 n.h, .string n.d, .int .i64 n.b, .int .i64 n.t]) ∧ Below w.heap.size w w' := by
  have hds := Nat.le_trans (rdI_size h0 (wsI_size s)) hs
  obtain ⟨k, h, d, b, t⟩ := n
  simp only [NoteR.text] at hx hds ⊢
  have hT := hide (fun v => Tryd.strings_TrimSuffix s ⟨#[10]⟩ v (by omega))
  have hP := hide (fun v (hv : Wd v te pe) => hv.2.2.elim fun m hm => Tryd.strings_SplitN (trimT s) ⟨#[32]⟩ 4 m v (by have := trimT_size s; omega) hm (by decide) (by decide) (by decide))
  have hW := hide (fun u (hu : Wd u te pe) => wordsI (wsI s) te pe u.heap.size (fourth (trimT s)) (u.alloc (.cells (Lib.cellsOf (wsI s) (fourth (trimT s))) 9)) (wsI_ne s) (wsI_len s) (fun x hx => Nat.le_trans (wsI_size s x hx) hs) (fun j x hj => cells_at _ _ _ j x hj) (hu.on (abP _)).1)
  rw [h0] at hW
  have hI := hide (fun v (hv : Wd v te pe) => textI_any k h d b t v hds hv.2.1)
  rw [hx] at hI
  have HV := hide (hv.on (abP (w := w) (.cells #[.int .i64 0, .int .i64 0, .string ⟨#[]⟩, .int .i64 0, .int .i64 0] 26)))
  have HB0 := hide (abP (w := w) (.cells #[.int .i64 0, .int .i64 0, .string ⟨#[]⟩, .int .i64 0, .int .i64 0] 26))
  have HX := hide (heap_alloc_new w (.cells #[.int .i64 0, .int .i64 0, .string ⟨#[]⟩, .int .i64 0, .int .i64 0] 26))
  clear hv hs h0 hds hx
  unfold WrI at hW
  have eZ : (⟨(Lib.trimSuffix s.data.toList (⟨#[10]⟩ : ByteArray).data.toList).toArray⟩ : ByteArray) = trimT s := rfl
  rw [eZ] at hT
  have eW : Lib.splitB ⟨#[32]⟩ 0 (min 4 ((trimT s).size + 1) - 1) (trimT s) = wsI s := rfl
  have eF : min 4 ((trimT s).size + 1) = fourth (trimT s) := rfl
  rw [eW, eF] at hP
  clear eZ eW eF
  generalize wsI s = L at *
  generalize fourth (trimT s) = C at *
  generalize trimT s = Z at *
  go_enter Tryd.func26, Tryd.ntmps26
  go_wp2_with fail
  generalize w.alloc (.cells #[.int .i64 0, .int .i64 0, .string ⟨#[]⟩, .int .i64 0, .int .i64 0] 26) = V at *
  refine (unhide hT _).mono ?_
  rintro e w2 ⟨rfl, rfl⟩
  go_wp2_with fail
  refine (unhide hP _ (unhide HV)).mono ?_
  rintro e w3 ⟨rfl, rfl⟩
  go_wp2_with fail
  refine (unhide hW _ (unhide HV)).mono ?_
  rintro e w4 ⟨rfl, hb4⟩
  have HB4 := hide (btP (btP (unhide HB0) (abP _)) hb4)
  have HX4 := hide (((btP (abP (w := w2) (.cells (Lib.cellsOf L C) 9)) hb4).block w.heap.size (Array.getElem?_eq_some_iff.1 (unhide HX)).1).trans (unhide HX))
  have HV4 := hide ((unhide HV).on (btP (abP (w := w2) (.cells (Lib.cellsOf L C) 9)) hb4))
  clear hb4
  go_wp2_with fail
  have HN := hide (heap_alloc_new w4 (.cells #[.int .i64 k, .int .i64 h, .string d, .int .i64 b, .int .i64 t] 26))
  refine (unhide hI _ ((unhide HV4).on (abP _))).mono ?_
  rintro e w6 ⟨rfl, hb6⟩
  have HB6 := hide (btP (unhide HB4) (btP (abP _) hb6))

  have hN6 := (hb6.block w4.heap.size (by simp)).trans (unhide HN)
  have hX6 := ((btP (abP (w := w4) (.cells #[.int .i64 k, .int .i64 h, .string d, .int .i64 b, .int .i64 t] 26)) hb6).block w.heap.size (Array.getElem?_eq_some_iff.1 (unhide HX4)).1).trans (unhide HX4)
  have HX6 := hide hX6
  have c0 : w6.cell? ⟨w4.heap.size, 0, none⟩ = some (.int .i64 k) := cell_of_row hN6 (by simp)
  have c1 : w6.cell? ⟨w4.heap.size, 1, none⟩ = some (.int .i64 h) := cell_of_row hN6 (by simp)
  have c2 : w6.cell? ⟨w4.heap.size, 2, none⟩ = some (.string d) := cell_of_row hN6 (by simp)
  have c3 : w6.cell? ⟨w4.heap.size, 3, none⟩ = some (.int .i64 b) := cell_of_row hN6 (by simp)
  have c4 : w6.cell? ⟨w4.heap.size, 4, none⟩ = some (.int .i64 t) := cell_of_row hN6 (by simp)
  have r0 : w6.cell? ⟨w.heap.size, 0, none⟩ = some (.int .i64 0) := cell_of_row hX6 (by simp)
  have r1 : w6.cell? ⟨w.heap.size, 1, none⟩ = some (.int .i64 0) := cell_of_row hX6 (by simp)
  have r2 : w6.cell? ⟨w.heap.size, 2, none⟩ = some (.string ⟨#[]⟩) := cell_of_row hX6 (by simp)
  have r3 : w6.cell? ⟨w.heap.size, 3, none⟩ = some (.int .i64 0) := cell_of_row hX6 (by simp)
  have r4 : w6.cell? ⟨w.heap.size, 4, none⟩ = some (.int .i64 0) := cell_of_row hX6 (by simp)
  have f0 : w6.frozen? ⟨w.heap.size, 0, none⟩ = false := frozen_of_row hX6
  have f1 : w6.frozen? ⟨w.heap.size, 1, none⟩ = false := frozen_of_row hX6
  have f2 : w6.frozen? ⟨w.heap.size, 2, none⟩ = false := frozen_of_row hX6
  have f3 : w6.frozen? ⟨w.heap.size, 3, none⟩ = false := frozen_of_row hX6
  have f4 : w6.frozen? ⟨w.heap.size, 4, none⟩ = false := frozen_of_row hX6
  clear hb6 hN6 hX6
  go_wp2_with fail
  refine bodyPost_ret (v := (.agg #[.int .i64 k, .int .i64 h, .string d, .int .i64 b, .int .i64 t])) (by simp [results, Tryd.results26, go_sem, r0, r1, r2, r3, r4]) rfl ⟨rfl, ?_⟩
  iterate 5 refine setB ?_ (Nat.le_refl _)
  exact unhide HB6

end Go.Proofs.YtjckdepcgjfomaaDoor
