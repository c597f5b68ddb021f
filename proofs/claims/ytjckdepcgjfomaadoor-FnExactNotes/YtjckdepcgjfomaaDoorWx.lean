/- What is read of a text: the text of a right note gives that note back, on both sides; no other text gives one. -/
import Derived.Test.YtjckdepcgjfomaaDoorWv
namespace Go.Proofs.YtjckdepcgjfomaaDoor
open Go.RowKit Go.Deep

def NoteR.ok (n : NoteR) : Prop := noteB n.k n.h n.d n.b n.t = true
/-- The text of a right note has an end. -/
theorem dig_list {n : Int} (h0 : 0 ≤ n) : (dig n).data.toList = Lib.decDigits n.toNat := by
  show (Lib.itoa n).toArray.toList = _
  rw [Lib.itoa, if_neg (by omega)]
theorem nob_dig {n : Int} (h0 : 0 ≤ n) : NoB (dig n).data.toList := by
  rw [dig_list h0]
  intro c hc he
  have := digits_bytes n.toNat c hc
  rw [he] at this
  exact absurd this (by decide)
theorem nob_dom {d : ByteArray} (h : domP d) : NoB d.data.toList := by
  intro c hc he
  obtain ⟨k, hk, hck⟩ := List.getElem_of_mem hc
  have hkd : k < d.size := by rw [← len_size]; exact hk
  have h1 := h.2 k hkd
  rw [← byteAt_lt hkd] at h1
  have e : d[k] = c := hck
  rw [e, he] at h1
  exact absurd h1 (by unfold domByte; decide)
theorem numW_dig {n : Int} (h0 : 0 ≤ n) (h1 : n ≤ 1000000) : numW (dig n) = some n := by
  unfold numW
  rw [dig_list h0, atoiAll_digits (by omega)]
  show some ((n.toNat : Nat) : Int) = some n
  rw [Int.toNat_of_nonneg h0]
theorem numS_dig {n : Int} (h0 : 0 ≤ n) (h1 : n ≤ 1000000) : numS (dig n) = n := by
  unfold numS
  rw [dig_list h0, numL_digits (by omega), Int.toNat_of_nonneg h0]
theorem joinT_list (xs : List ByteArray) : (joinT xs).data.toList = joinW xs := by simp [joinT]
theorem lineT_list (xs : List ByteArray) : (lineT xs).data.toList = joinW xs ++ [10] := by
  unfold lineT
  simp [joinT_list]
theorem lineT_size (xs : List ByteArray) : (lineT xs).size = (joinT xs).size + 1 := by
  rw [← len_size, ← len_size, lineT_list, joinT_list]
  simp
theorem trimT_line (xs : List ByteArray) : trimT (lineT xs) = joinT xs := by
  apply Go.WideShapes.bytes_inj
  show Lib.trimSuffix _ _ = _
  rw [lineT_list, joinT_list]
  unfold Lib.trimSuffix Lib.hasSuffix
  rw [if_pos (by simp [List.isSuffixOf_iff_suffix])]
  simp
theorem chop_line (xs : List ByteArray) : (lineT xs).extract 0 (joinT xs).size = joinT xs := by
  apply Go.WideShapes.bytes_inj
  rw [ext_list, lineT_list, joinT_list, ← len_size, joinT_list]
  simp
theorem joinW_eq (xs : List ByteArray) : joinW xs = Lib.join (xs.map (·.data.toList)) [32] := rfl
theorem nob_map {xs : List ByteArray} (h : ∀ x ∈ xs, NoB x.data.toList) : ∀ y ∈ xs.map (·.data.toList), NoB y := by
  intro y hy
  obtain ⟨x, hx, rfl⟩ := List.mem_map.1 hy
  exact h x hx
theorem wsI_line {xs : List ByteArray} (hne : xs ≠ []) (h : ∀ x ∈ xs, NoB x.data.toList) (hl : xs.length ≤ 4) (hj : 3 ≤ (joinW xs).length) : wsI (lineT xs) = xs := by
  unfold wsI
  rw [trimT_line]
  apply bytes_map_inj
  rw [Lib.splitB_data, joinT_list, joinW_eq]
  have hf : fourth (joinT xs) = 4 := by
    unfold fourth
    rw [joinT_size]
    omega
  rw [hf]
  exact splitK_join 3 _ (by simpa using hne) (by simpa using hl) (nob_map h)
theorem wdsOf_line {xs : List ByteArray} (hne : xs ≠ []) (h : ∀ x ∈ xs, NoB x.data.toList) : wdsOf (joinT xs) = xs := by
  apply bytes_map_inj
  rw [wdsOf_list, joinT_list, joinW_eq]
  exact wsL_join _ (by simpa using hne) (nob_map h)
theorem join_head (x : ByteArray) (xs : List ByteArray) : x.size ≤ (joinW (x :: xs)).length := by
  rw [joinW_eq, ← len_size]
  cases xs with
  | nil => rw [List.map_cons, List.map_nil, join_one]; omega
  | cons y r => rw [List.map_cons, List.map_cons, join_two]; simp
theorem ok_words {n : NoteR} (h : n.ok) : wordsN n.k n.h n.d n.b n.t ≠ [] ∧ (∀ x ∈ wordsN n.k n.h n.d n.b n.t, NoB x.data.toList) ∧ (wordsN n.k n.h n.d n.b n.t).length ≤ 4 ∧ 3 ≤ (joinW (wordsN n.k n.h n.d n.b n.t)).length ∧ rdI (wordsN n.k n.h n.d n.b n.t) = some n ∧ rdS (wordsN n.k n.h n.d n.b n.t) = n := by
  obtain ⟨k, hh, d, b, t⟩ := n
  have h' : noteB k hh d b t = true := h
  show wordsN k hh d b t ≠ [] ∧ (∀ x ∈ wordsN k hh d b t, NoB x.data.toList) ∧ (wordsN k hh d b t).length ≤ 4 ∧ 3 ≤ (joinW (wordsN k hh d b t)).length ∧ rdI (wordsN k hh d b t) = some ⟨k, hh, d, b, t⟩ ∧ rdS (wordsN k hh d b t) = ⟨k, hh, d, b, t⟩
  obtain ⟨hb, hc⟩ := note_cases h'
  have nh := nob_dig hb.1
  have wh := numW_dig hb.1 (by omega : hh ≤ 1000000)
  have sh := numS_dig hb.1 (by omega : hh ≤ 1000000)
  rcases hc with ⟨rfl, hd, ht, rfl⟩ | ⟨rfl, rfl, rfl, ht⟩ | ⟨rfl, rfl, rfl, rfl⟩ | ⟨rfl, rfl, rfl, rfl⟩
  · have hdom : domP d := by
      unfold noteB at h'
      rw [Bool.and_eq_true, named1, Bool.and_eq_true] at h'
      exact domB_iff.1 h'.2.1
    have wb := numW_dig ht.1 ht.2
    have sb := numS_dig ht.1 ht.2
    have e : wordsN 1 hh d b 0 = [⟨#[116, 97, 107, 101]⟩, dig hh, d, dig b] := rfl
    rw [e]
    refine ⟨by simp, ?_, by simp, Nat.le_trans (by decide) (join_head _ _), ?_, ?_⟩
    · intro x hx
      simp only [List.mem_cons, List.not_mem_nil, or_false] at hx
      rcases hx with rfl | rfl | rfl | rfl
      · intro c hc; revert c; decide
      · exact nh
      · exact nob_dom hdom
      · exact nob_dig ht.1
    · simp [rdI, wh, wb]
    · have e1 : kU ⟨#[116, 97, 107, 101]⟩ 5 = 1 := by decide
      unfold rdS whoW
      simp [e1, isTake, isTry, sh, sb]
  · have wb := numW_dig ht.1 (by omega : t ≤ 1000000)
    have sb := numS_dig ht.1 (by omega : t ≤ 1000000)
    have e : wordsN 2 hh ⟨#[]⟩ 0 t = [⟨#[116, 114, 121]⟩, dig hh, dig t] := rfl
    rw [e]
    refine ⟨by simp, ?_, by simp, Nat.le_trans (by decide) (join_head _ _), ?_, ?_⟩
    · intro x hx
      simp only [List.mem_cons, List.not_mem_nil, or_false] at hx
      rcases hx with rfl | rfl | rfl
      · intro c hc; revert c; decide
      · exact nh
      · exact nob_dig ht.1
    · simp [rdI, wh, wb]
    · have e1 : kU ⟨#[116, 114, 121]⟩ 5 = 2 := by decide
      unfold rdS whoW
      simp [e1, isTake, isTry, sh, sb]
  · have e : wordsN 3 hh ⟨#[]⟩ 0 0 = [⟨#[103, 111, 110, 101]⟩, dig hh] := rfl
    rw [e]
    refine ⟨by simp, ?_, by simp, Nat.le_trans (by decide) (join_head _ _), ?_, ?_⟩
    · intro x hx
      simp only [List.mem_cons, List.not_mem_nil, or_false] at hx
      rcases hx with rfl | rfl
      · intro c hc; revert c; decide
      · exact nh
    · simp [rdI, wh]
    · have e1 : kU ⟨#[103, 111, 110, 101]⟩ 5 = 3 := by decide
      unfold rdS whoW
      simp [e1, isTake, isTry, sh]
  · have e : wordsN 4 hh ⟨#[]⟩ 0 0 = [⟨#[98, 97, 99, 107]⟩, dig hh] := rfl
    rw [e]
    refine ⟨by simp, ?_, by simp, Nat.le_trans (by decide) (join_head _ _), ?_, ?_⟩
    · intro x hx
      simp only [List.mem_cons, List.not_mem_nil, or_false] at hx
      rcases hx with rfl | rfl
      · intro c hc; revert c; decide
      · exact nh
    · simp [rdI, wh]
    · have e1 : kU ⟨#[98, 97, 99, 107]⟩ 5 = 4 := by decide
      unfold rdS whoW
      simp [e1, isTake, isTry, sh]
theorem text_ok {n : NoteR} (h : n.ok) : n.text = lineT (wordsN n.k n.h n.d n.b n.t) := by
  unfold NoteR.ok at h
  unfold NoteR.text textN
  rw [if_pos h]
theorem text_no {n : NoteR} (h : ¬ n.ok) : n.text = ⟨#[]⟩ := by
  unfold NoteR.ok at h
  unfold NoteR.text textN
  rw [if_neg h]
/-- The note of which s is the text. -/
noncomputable def noteO (s : ByteArray) : Option NoteR := match rdI (wsI s) with
  | some n => if n.text = s then some n else none
  | none => none
theorem rdI_empty : rdI (wsI ⟨#[]⟩) = none := by
  have e : trimT ⟨#[]⟩ = ⟨#[]⟩ := by
    apply Go.WideShapes.bytes_inj
    show Lib.trimSuffix [] [10] = []
    unfold Lib.trimSuffix
    split
    · simp
    · rfl
  have : wsI ⟨#[]⟩ = [⟨#[]⟩] := by
    unfold wsI
    rw [e]
    rfl
  rw [this]
  rfl
theorem noteO_some {s : ByteArray} {n : NoteR} (h : noteO s = some n) : n.ok ∧ n.text = s := by
  unfold noteO at h
  split at h
  · rename_i m hm
    split at h
    · rename_i ht
      cases h
      refine ⟨Classical.byContradiction fun hn => ?_, ht⟩
      have := text_no hn
      rw [ht] at this
      rw [this, rdI_empty] at hm
      cases hm
    · cases h
  · cases h
theorem noteO_of {n : NoteR} (h : n.ok) : noteO n.text = some n := by
  obtain ⟨h1, h2, h3, h4, h5, h6⟩ := ok_words h
  unfold noteO
  rw [text_ok h, wsI_line h1 h2 h3 h4, h5]
  show (if n.text = _ then _ else _) = _
  rw [if_pos (text_ok h)]
theorem line_end (xs : List ByteArray) : byteAt (lineT xs) (joinT xs).size = 10 := by
  have hl : (joinT xs).size < (lineT xs).size := by rw [lineT_size]; omega
  rw [← byteAt_lt hl]
  have : (lineT xs)[(joinT xs).size] = 10 := by
    have e : (lineT xs).data.toList[(joinT xs).size]? = some 10 := by
      rw [lineT_list, joinT_size, List.getElem?_append_right (Nat.le_refl _), Nat.sub_self]
      rfl
    have e2 : (lineT xs).data.toList[(joinT xs).size]? = some ((lineT xs)[(joinT xs).size]) := by
      rw [List.getElem?_eq_getElem (by rw [len_size]; exact hl)]
      rfl
    rw [e] at e2
    exact (Option.some.inj e2).symm
  rw [this]
  rfl
theorem noteO_bad {s : ByteArray} (h : ∀ m, s.size = m + 1 → byteAt s m ≠ 10) : noteO s = none := by
  cases hn : noteO s with
  | none => rfl
  | some n =>
    obtain ⟨h1, h2⟩ := noteO_some hn
    rw [text_ok h1] at h2
    have := line_end (wordsN n.k n.h n.d n.b n.t)
    rw [h2] at this
    refine absurd this (h _ ?_)
    rw [← h2, lineT_size]
theorem noteO_main {s : ByteArray} {m : Nat} (hm : s.size = m + 1) : noteO s = if (rdS (wdsOf (s.extract 0 m))).text = s then some (rdS (wdsOf (s.extract 0 m))) else none := by
  split
  · rename_i ht
    have hok : (rdS (wdsOf (s.extract 0 m))).ok := Classical.byContradiction fun hn => by
      rw [text_no hn] at ht
      rw [← ht] at hm
      simp [ByteArray.size] at hm
    have := noteO_of hok
    rw [ht] at this
    exact this
  · rename_i ht
    cases hn : noteO s with
    | none => rfl
    | some n =>
      exfalso
      obtain ⟨h1, h2⟩ := noteO_some hn
      obtain ⟨g1, g2, g3, g4, g5, g6⟩ := ok_words h1
      apply ht
      rw [text_ok h1] at h2
      have em : m = (joinT (wordsN n.k n.h n.d n.b n.t)).size := by
        have := lineT_size (wordsN n.k n.h n.d n.b n.t)
        rw [h2] at this
        omega
      have : wdsOf (s.extract 0 m) = wordsN n.k n.h n.d n.b n.t := by
        rw [em, ← h2, chop_line, wdsOf_line g1 g2]
      rw [this, g6, text_ok h1, h2]

/-- What is answered. -/
def ansO : Option NoteR → Value
  | some n => .tuple #[.agg #[.int .i64 n.k, .int .i64 n.h, .string n.d, .int .i64 n.b, .int .i64 n.t], .bool true]
  | none => .tuple #[.agg #[.int .i64 0, .int .i64 0, .string ⟨#[]⟩, .int .i64 0, .int .i64 0], .bool false]
theorem noteOfI (s : ByteArray) (te : TypeId) (pe : Value) (w : World) (hs : s.size ≤ 2097152) (hv : Wd w te pe) :
    Calls Tryd.prog 11 #[.string s] w fun e w' => e = .returned (ansO (noteO s)) ∧ Below w.heap.size w w' := by
  cases h0 : rdI (wsI s) with
  | none =>
    rw [show noteO s = none by unfold noteO; rw [h0]]
    exact noteOf_no s te pe w fun v hb => readI_none s te pe v hs h0 (hv.on hb)
  | some n =>
    by_cases hx : n.text = s
    · rw [show noteO s = some n by unfold noteO; rw [h0]; show (if _ then _ else _) = _; rw [if_pos hx]]
      exact noteOf_yes s n.k n.h n.d n.b n.t w fun v hb => readI_yes s te pe v hs n h0 hx (hv.on hb)
    · rw [show noteO s = none by unfold noteO; rw [h0]; show (if _ then _ else _) = _; rw [if_neg hx]]
      exact noteOf_no s te pe w fun v hb => readI_other s te pe v hs n h0 hx (hv.on hb)

set_option maxRecDepth 100000 in
set_option maxHeartbeats 2000000 in
theorem specN_zero (s : ByteArray) (w : World) (hs : s.size ≤ 2097152) (hz : s.size = 0) :
    Calls Tryd.prog 10 #[.string s] w fun e w' => e = .returned (.tuple #[.agg #[.int .i64 0, .int .i64 0, .string ⟨#[]⟩, .int .i64 0, .int .i64 0], .bool false]) ∧ Below w.heap.size w w' := by
  obtain rfl : s = ⟨#[]⟩ := empty_of_size hz
  clear hs hz
  have HB0 := hide (abP (w := w) (.cells #[.int .i64 0, .int .i64 0, .string ⟨#[]⟩, .int .i64 0, .int .i64 0] 26))
  go_enter Tryd.func10, Tryd.ntmps10
  go_wp2_with fail
  refine bodyPost_ret (v := .tuple #[.agg #[.int .i64 0, .int .i64 0, .string ⟨#[]⟩, .int .i64 0, .int .i64 0], .bool false]) (by simp [results, Tryd.results10, go_sem]) rfl ⟨rfl, ?_⟩
  exact unhide HB0

set_option maxRecDepth 100000 in
set_option maxHeartbeats 2000000 in
theorem specN_end (s : ByteArray) (w : World) (hs : s.size ≤ 2097152) (m : Nat) (hm : s.size = m + 1) (hl : ¬ byteAt s m = 10) :
    Calls Tryd.prog 10 #[.string s] w fun e w' => e = .returned (.tuple #[.agg #[.int .i64 0, .int .i64 0, .string ⟨#[]⟩, .int .i64 0, .int .i64 0], .bool false]) ∧ Below w.heap.size w w' := by
  have hsm : m < s.size := by omega
  have c1 : (m : Int) < (s.size : Int) := by omega
  have c2 : (0 : Int) ≤ (m : Int) := by omega
  have w1 : wrap64 ((s.size : Int) - 1) = (m : Int) := by unfold wrap64; omega
  have q0 : ((s.size : Int) == 0) = false := beq_eq_false_iff_ne.2 (by omega)
  have hb := byteAt_lt hsm
  have q1 : ((byteAt s m : Int) == 10) = false := beq_eq_false_iff_ne.2 (by omega)
  generalize byteAt s m = B at *
  clear hl hm hs
  have HB0 := hide (abP (w := w) (.cells #[.int .i64 0, .int .i64 0, .string ⟨#[]⟩, .int .i64 0, .int .i64 0] 26))
  go_enter Tryd.func10, Tryd.ntmps10
  go_wp2_with fail
  refine bodyPost_ret (v := .tuple #[.agg #[.int .i64 0, .int .i64 0, .string ⟨#[]⟩, .int .i64 0, .int .i64 0], .bool false]) (by simp [results, Tryd.results10, go_sem]) rfl ⟨rfl, ?_⟩
  exact unhide HB0

theorem noteOfS (s : ByteArray) (w : World) (hs : s.size ≤ 2097152) :
    Calls Tryd.prog 10 #[.string s] w fun e w' => e = .returned (ansO (noteO s)) ∧ Below w.heap.size w w' := by
  rcases Nat.eq_zero_or_pos s.size with hz | hz
  · rw [noteO_bad (s := s) fun m hm => by omega]
    exact specN_zero s w hs hz
  · obtain ⟨m, hm⟩ : ∃ m, s.size = m + 1 := ⟨s.size - 1, by omega⟩
    by_cases hl : byteAt s m = 10
    · rw [noteO_main hm]
      refine (specN s (s.extract 0 m) m (wdsOf (s.extract 0 m)) w hs hm hl rfl rfl).mono ?_
      rintro e w' ⟨⟨ht, he⟩ | ⟨ht, he⟩, hb⟩
      · rw [if_pos ht]; exact ⟨he, hb⟩
      · rw [if_neg ht]; exact ⟨he, hb⟩
    · rw [noteO_bad (s := s) fun k hk => by
        obtain rfl : k = m := by omega
        exact hl]
      exact specN_end s w hs m hm hl

end Go.Proofs.YtjckdepcgjfomaaDoor
