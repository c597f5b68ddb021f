/- spec.ServerOk, walked. -/
import Derived.Test.YtnjddgdfancclaaSos1
import Derived.Test.YtnjddgdfancclaaSos2
import Derived.Test.YtnjddgdfancclaaSos3
namespace Go.Proofs.Ytnjddgdfancclaa
open Go.RowKit Go.Deep

theorem serverS (t u : Tm) (l : List Int) (st : Int) (h : ByteArray) (ke : Int) (ep : Int) (op : Int) (n : Int) (s : ByteArray) (a : Option Addr) (len : Nat) (cap : Nat) (oq : Int) (m : Int) (r : ByteArray) (c : Option Addr) (lem : Nat) (cat : Nat) (i : Int) (o : Int) (tl : Bool) (g : Option Addr) (gc : Nat) (w : World) (hl : Lies w 0 t (tmCells op n s a len cap)) (hu : Lies w 0 u (tmCells oq m r c lem cat)) (hi : Ints w 0 g l) (hst : t.size ≤ 2097152) (hsu : u.size ≤ 2097152) (hsl : l.length ≤ 2097152) (hh : h.size ≤ 2097152) :
    Calls Try.prog 5 #[.agg #[.int .i64 st, .string h, .int .i64 ke, .int .i64 ep, .int .i64 op, .int .i64 n, .string s, .slice a len cap, .int .i64 oq, .int .i64 m, .string r, .slice c lem cat, .int .i64 i, .int .i64 o, .bool tl, .slice g l.length gc]] w fun e w' => e = .returned (.bool (serverB st h ke ep t u i o tl l)) ∧ Below w.heap.size w w' := by
  cases tl with
  | true => exact serverS_t t u l st h ke ep op n s a len cap oq m r c lem cat i o g gc w hl hu hi hst hsu hsl hh
  | false =>
    cases h3b : st == 3 with
    | true => exact serverS_3 t u l st h ke ep op n s a len cap oq m r c lem cat i o g gc w hl hu hi hst hsu hsl hh h3b
    | false => exact serverS_n t u l st h ke ep op n s a len cap oq m r c lem cat i o g gc w hl hu hi hst hsu hsl hh h3b

end Go.Proofs.Ytnjddgdfancclaa
