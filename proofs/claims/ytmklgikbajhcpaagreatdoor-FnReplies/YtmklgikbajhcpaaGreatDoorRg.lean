
/- What impl.readReply answers, told by what is read of a reply alone. -/
import Derived.Test.YtmklgikbajhcpaaGreatDoorRf
namespace Go.Proofs.YtmklgikbajhcpaaGreatDoor
open Go.RowKit Go.Deep

theorem three_ofT {l : List Tm} (h : l.length = 3) : ∃ p q r, l = [p, q, r] := by
  match l, h with
  | [p, q, r], _ => exact ⟨p, q, r, rfl⟩
theorem two_ofT {l : List Tm} (h : l.length = 2) : ∃ p q, l = [p, q] := by
  match l, h with
  | [p, q], _ => exact ⟨p, q, rfl⟩

theorem readI_none (e t : Tm) (op n : Int) (s : ByteArray) (a : Option Addr) (len cap : Nat) (op2 n2 : Int) (s2 : ByteArray) (a2 : Option Addr) (len2 cap2 : Nat) (x : Addr) (w : World) (he : ErrAt x w) (htab : Tab w) (hl : Lies w 0 e (tmCells op n s a len cap)) (hl2 : Lies w 0 t (tmCells op2 n2 s2 a2 len2 cap2)) (hst : e.size + t.size ≤ 1048578) (h : replyO e t = none) : Calls Tryz.prog 80 #[.agg #[.int .i64 op, .int .i64 n, .string s, .slice a len cap], .agg #[.int .i64 op2, .int .i64 n2, .string s2, .slice a2 len2 cap2]] w fun q w' => q = .returned (.tuple #[.agg #[.int .i64 0, .int .i64 0, .string ⟨#[]⟩, .slice none 0 0, .int .i64 0, .int .i64 0, .string ⟨#[]⟩, .slice none 0 0, .int .i64 0, .int .i64 0, .string ⟨#[]⟩, .slice none 0 0, .int .i64 0, .int .i64 0, .string ⟨#[]⟩, .slice none 0 0], .iface 202 (.pointer (some x))]) ∧ Below w.heap.size w w' := by
  cases hn : inO 2 t with
  | none => exact read_no1 t op n s a len cap op2 n2 s2 a2 len2 cap2 x w he hl2 (by have := e.size_pos; omega) hn
  | some l =>
    obtain ⟨k0, pub, sealed, rfl⟩ := three_ofT (inO_len hn)
    cases hs : sameB k0 (textT replyW) with
    | false => exact read_no2 e t k0 pub sealed op n s a len cap op2 n2 s2 a2 len2 cap2 x w he htab hl hl2 (by omega) hn hs
    | true =>
      cases hsh : shrB e pub with
      | false => exact read_no3 e t k0 pub sealed op n s a len cap op2 n2 s2 a2 len2 cap2 x w he htab hl hl2 (by omega) hn hs hsh
      | true =>
        cases hop : openO (keyT (shrT e pub) 0) 0 sealed with
        | none => exact read_no4 e t k0 pub sealed op n s a len cap op2 n2 s2 a2 len2 cap2 x w he htab hl hl2 (by omega) hn hs hsh hop
        | some body =>
          cases hin : inO 1 body with
          | none => exact read_no5 e t k0 pub sealed body op n s a len cap op2 n2 s2 a2 len2 cap2 x w he htab hl hl2 (by omega) hn hs hsh hop hin
          | some l2 =>
            obtain ⟨c, g, rfl⟩ := two_ofT (inO_len hin)
            exfalso
            simp only [replyO, hn, hs, hsh, hop, hin, if_true] at h
            cases h

theorem replyO_some {e t pub sh c g : Tm} (h : replyO e t = some (pub, sh, c, g)) : ∃ k0 sealed body, inO 2 t = some [k0, pub, sealed] ∧ sameB k0 (textT replyW) = true ∧ shrB e pub = true ∧ sh = shrT e pub ∧ openO (keyT (shrT e pub) 0) 0 sealed = some body ∧ inO 1 body = some [c, g] := by
  cases hn : inO 2 t with
  | none => simp only [replyO, hn] at h; cases h
  | some l =>
    obtain ⟨k0, pub', sealed, rfl⟩ := three_ofT (inO_len hn)
    cases hs : sameB k0 (textT replyW) with
    | false => simp only [replyO, hn, hs] at h; simp at h
    | true =>
      cases hsh : shrB e pub' with
      | false => simp only [replyO, hn, hs, hsh] at h; simp at h
      | true =>
        cases hop : openO (keyT (shrT e pub') 0) 0 sealed with
        | none => simp only [replyO, hn, hs, hsh, hop] at h; simp at h
        | some body =>
          cases hin : inO 1 body with
          | none => simp only [replyO, hn, hs, hsh, hop, hin] at h; simp at h
          | some l2 =>
            obtain ⟨c', g', rfl⟩ := two_ofT (inO_len hin)
            simp only [replyO, hn, hs, hsh, hop, hin, if_true, Option.some.injEq, Prod.mk.injEq] at h
            obtain ⟨rfl, rfl, rfl, rfl⟩ := h
            exact ⟨k0, sealed, body, rfl, hs, hsh, rfl, hop, hin⟩

/-- What is read is right. -/
theorem replyO_ok {e t pub sh c g : Tm} (h : replyO e t = some (pub, sh, c, g)) : okT pub = true ∧ okT sh = true ∧ okT c = true ∧ okT g = true := by
  obtain ⟨k0, sealed, body, h1, _, h3, rfl, _, h6⟩ := replyO_some h
  exact ⟨inO_ok h1 pub (by simp), shr_ok h3, inO_ok h6 c (by simp), inO_ok h6 g (by simp)⟩

theorem readI_some (e t pub sh c g : Tm) (op n : Int) (s : ByteArray) (a : Option Addr) (len cap : Nat) (op2 n2 : Int) (s2 : ByteArray) (a2 : Option Addr) (len2 cap2 : Nat) (x : Addr) (w : World) (he : ErrAt x w) (htab : Tab w) (hl : Lies w 0 e (tmCells op n s a len cap)) (hl2 : Lies w 0 t (tmCells op2 n2 s2 a2 len2 cap2)) (hst : e.size + t.size ≤ 1048578) (h : replyO e t = some (pub, sh, c, g)) : Calls Tryz.prog 80 #[.agg #[.int .i64 op, .int .i64 n, .string s, .slice a len cap], .agg #[.int .i64 op2, .int .i64 n2, .string s2, .slice a2 len2 cap2]] w fun q w' => ∃ op4 n4 s4 a4 len4 cap4 op6 n6 s6 a6 len6 cap6 op9 n9 s9 a9 len9 cap9 op10 n10 s10 a10 len10 cap10, q = .returned (.tuple #[.agg #[.int .i64 op4, .int .i64 n4, .string s4, .slice a4 len4 cap4, .int .i64 op6, .int .i64 n6, .string s6, .slice a6 len6 cap6, .int .i64 op9, .int .i64 n9, .string s9, .slice a9 len9 cap9, .int .i64 op10, .int .i64 n10, .string s10, .slice a10 len10 cap10], .nilIface]) ∧ Lies w' 0 pub (tmCells op4 n4 s4 a4 len4 cap4) ∧ Lies w' 0 sh (tmCells op6 n6 s6 a6 len6 cap6) ∧ Lies w' 0 c (tmCells op9 n9 s9 a9 len9 cap9) ∧ Lies w' 0 g (tmCells op10 n10 s10 a10 len10 cap10) ∧ Below w.heap.size w w' := by
  obtain ⟨k0, sealed, body, h1, h2, h3, rfl, h5, h6⟩ := replyO_some h
  exact read_yes e t k0 pub sealed body c g op n s a len cap op2 n2 s2 a2 len2 cap2 x w he htab hl hl2 (by omega) h1 h2 h3 h5 h6

end Go.Proofs.YtmklgikbajhcpaaGreatDoor
