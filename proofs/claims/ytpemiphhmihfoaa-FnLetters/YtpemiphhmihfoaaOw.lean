
/- A term whose kids lie in blocks of their own: the list of these blocks; what stays of it where only other blocks change. -/
import Derived.Test.YtpemiphhmihfoaaEq
import Derived.Test.YtpemiphhmihfoaaStk
namespace Go.Proofs.Ytpemiphhmihfoaa
open Go.RowKit Go.Deep




/-- Only these blocks may have changed. -/
structure Only (fp : List Nat) (w w' : World) : Prop where
  os : w'.os = w.os
  tape : w'.tape = w.tape
  output : w'.output = w.output
  size : w.heap.size ≤ w'.heap.size
  block : ∀ k, k < w.heap.size → k ∉ fp → w'.heap[k]? = w.heap[k]?

theorem Only.refl (fp : List Nat) (w : World) : Only fp w w := ⟨rfl, rfl, rfl, Nat.le_refl _, fun _ _ _ => rfl⟩
theorem Only.trans {fp : List Nat} {a b c : World} (h : Only fp a b) (k : Only fp b c) : Only fp a c :=
  ⟨k.os.trans h.os, k.tape.trans h.tape, k.output.trans h.output, Nat.le_trans h.size k.size, fun i hi hf => (k.block i (Nat.lt_of_lt_of_le hi h.size) hf).trans (h.block i hi hf)⟩
theorem Only.mono {fp fp' : List Nat} {a b : World} (h : Only fp a b) (hs : ∀ x ∈ fp, x ∈ fp') : Only fp' a b := ⟨h.os, h.tape, h.output, h.size, fun k hk hf => h.block k hk fun hx => hf (hs k hx)⟩
theorem Only.of_below {fp : List Nat} {a b : World} (h : Below a.heap.size a b) : Only fp a b := ⟨h.os, h.tape, h.output, h.size, fun k hk _ => h.block k hk⟩
theorem Only.below {fp : List Nat} {a b : World} {B : Nat} (h : Only fp a b) (hB : B ≤ a.heap.size) (hf : ∀ x ∈ fp, B ≤ x) : Below B a b :=
  ⟨h.os, h.tape, h.output, h.size, fun k hk => h.block k (by omega) fun hx => absurd (hf k hx) (by omega)⟩
theorem Only.set {fp : List Nat} {a b : World} (h : Only fp a b) {p : Addr} (hp : p.block ∈ fp) (u : Value) : Only fp a (b.setCell p u) :=
  ⟨h.os, h.tape, h.output, by simpa using h.size, fun k hk hf => by rw [Below.heap_setCell b p u k (fun e => hf (by rw [e]; exact hp))]; exact h.block k hk hf⟩

theorem kpc {v v' : World} (h : Below v.heap.size v v') {b o : Nat} {u : Value} (hc : v.cell? ⟨b, o, none⟩ = some u) : v'.cell? ⟨b, o, none⟩ = some u :=
  (h.cell (p := ⟨b, o, none⟩) (lt_of_cell hc)).trans hc
theorem below_drew' {v v' : World} (h : Below v.drew.heap.size v.drew v') : Below v.heap.size v v' :=
  ((Below.refl _ _).drew).trans h

/-- A term with no kids lies everywhere. -/
theorem lies_leaf (w : World) (op n : Int) (s : ByteArray) (hs : s.size ≤ maxLen) (h1 : (Lit.int .i64 op).wf = true) (h2 : (Lit.int .i64 n).wf = true) : Lies w 0 (.node op n s []) (tmCells op n s none 0 0) := by
  simp only [Lies]
  exact ⟨none, 0, rfl, ⟨hs, by simp, by simp⟩, ⟨h1, h2⟩, by simp [LiesAll]⟩

end Go.Proofs.Ytpemiphhmihfoaa
