
/- How a term reads, as plain functions; how long that is; and the walk of spec.TermText. -/
import Derived.Test.YtpniekfalckdcaaDoorTx
namespace Go.Proofs.YtpniekfalckdcaaDoor
open Go.RowKit Go.Deep

def kidOp (op : Int) : Bool := decide (3 ≤ op ∧ op ≤ 8)
def nameOf (op : Int) : List UInt8 :=
  if op = 3 then [112, 97, 105, 114] else if op = 4 then [112, 117, 98] else if op = 5 then [115, 104, 97, 114, 101] else if op = 6 then [104, 97, 115, 104] else if op = 7 then [115, 101, 97, 108] else [115, 105, 103, 110]
def wordOf (op n : Int) (s : ByteArray) : List UInt8 := if op = 1 then Lib.itoa n else if op = 2 then 60 :: (s.data.toList ++ [62]) else [63]

mutual
def textT : Tm → List UInt8
  | .node op n s ks => if kidOp op = true then nameOf op ++ (40 :: (textF true ks ++ [41])) else wordOf op n s
def textF : Bool → List Tm → List UInt8
  | _, [] => []
  | f, t :: r => (if f = true then [] else [44]) ++ (textT t ++ textF false r)
end

theorem textF_snoc (t : Tm) : ∀ (f : Bool) (l : List Tm), textF f (l ++ [t]) = textF f l ++ ((if f = true ∧ l = [] then [] else [44]) ++ textT t)
  | f, [] => by cases f <;> simp [textF]
  | f, x :: r => by
    simp only [List.cons_append, textF, textF_snoc t false r]
    simp

theorem nameOf_length (op : Int) : (nameOf op).length ≤ 5 := by
  unfold nameOf
  split
  · decide
  · split
    · decide
    · split
      · decide
      · split
        · decide
        · split <;> decide

theorem wordOf_length {op n : Int} {s : ByteArray} (h : (Lit.int .i64 n).wf = true) : (wordOf op n s).length ≤ 22 + s.size := by
  unfold wordOf
  split
  · have hb : -9223372036854775808 ≤ n ∧ n ≤ 9223372036854775807 := by
      have h' : (decide (IntKind.min .i64 ≤ n) && decide (n ≤ IntKind.max .i64)) = true := h
      rw [Bool.and_eq_true, decide_eq_true_iff, decide_eq_true_iff] at h'
      exact h'
    have := Lib.itoa_length_le n hb.1 hb.2
    omega
  · split
    · simp only [List.length_cons, List.length_append, List.length_nil, Array.length_toList]
      show s.data.size + (0 + 1) + 1 ≤ 22 + s.data.size
      omega
    · simp only [List.length_cons, List.length_nil]
      omega

mutual
theorem textT_length {w : World} {L : Nat} : ∀ (t : Tm) (cs : List Value), Lies w L t cs → (textT t).length ≤ 24 * t.size + t.wt
  | .node op n s ks, cs, h => by
    simp only [Lies] at h
    obtain ⟨a, cap, _, _, ⟨_, h2⟩, h4⟩ := h
    have h5 := textF_length true a 0 ks h4
    have h6 := nameOf_length op
    have h7 := wordOf_length (op := op) (s := s) h2
    simp only [textT, Tm.size, Tm.wt]
    split
    · simp only [List.length_append, List.length_cons, List.length_nil]
      omega
    · omega
theorem textF_length {w : World} {L : Nat} (f : Bool) (a : Option Addr) : ∀ (i : Nat) (ks : List Tm), LiesAll w L a i ks → (textF f ks).length ≤ 24 * Tm.sizes ks + ks.length + Tm.wts ks
  | i, [], _ => by simp [textF]
  | i, t :: r, h => by
    simp only [LiesAll] at h
    obtain ⟨⟨b, o, cs, _, _, _, ht⟩, h2⟩ := h
    have h3 := textT_length t cs ht
    have h4 := textF_length false a (i + 1) r h2
    simp only [textF, Tm.sizes, Tm.wts, List.length_append, List.length_cons]
    cases f <;> simp <;> omega
end

def TxOk (t : Tm) : Prop := ∀ (op n : Int) (s : ByteArray) (a : Option Addr) (len cap : Nat) (w : World), Lies w 0 t (tmCells op n s a len cap) → t.size ≤ 2097152 → t.wt ≤ 2097152 →
  Calls Tryd.prog 20 #[.agg #[.int .i64 op, .int .i64 n, .string s, .slice a len cap]] w fun e w' => e = .returned (.string ⟨(textT t).toArray⟩) ∧ Below w.heap.size w w'

end Go.Proofs.YtpniekfalckdcaaDoor
