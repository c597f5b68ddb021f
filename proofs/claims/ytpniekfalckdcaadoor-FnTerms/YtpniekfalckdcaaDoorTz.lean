
/- The walk of spec.TermText: of whatever term lies in memory it answers how it reads; nothing that was there is written. -/
import Derived.Test.YtpniekfalckdcaaDoorOk
import Derived.Test.YtpniekfalckdcaaDoorTy
import Derived.Test.YtpniekfalckdcaaDoorStk
import Derived.OpenShut
namespace Go.Proofs.YtpniekfalckdcaaDoor
open Go.RowKit Go.Deep

set_option maxRecDepth 100000 in
set_option maxHeartbeats 1000000 in
theorem tx_atom (n : Int) (s : ByteArray) (a : Option Addr) (len cap : Nat) (w : World) (h0 : -9223372036854775808 ≤ n) (h1 : n ≤ 9223372036854775807) :
    Calls Tryd.prog 20 #[.agg #[.int .i64 1, .int .i64 n, .string s, .slice a len cap]] w fun e w' => e = .returned (.string ⟨(Lib.itoa n).toArray⟩) ∧ Below w.heap.size w w' := by
  have hd := hide (digits_any n)
  go_enter Tryd.func20, Tryd.ntmps20
  go_wp2_with fail
  refine (unhide hd _ h0 h1).mono ?_
  rintro e w2 ⟨rfl, hb2⟩
  go_wp2_with fail
  go_ret
  exact ⟨rfl, (below_alloc2 _ _ _).trans (hb2.mono (by simp; omega))⟩

set_option maxRecDepth 100000 in
set_option maxHeartbeats 1000000 in
theorem tx_text (n : Int) (s : ByteArray) (a : Option Addr) (len cap : Nat) (w : World) (h0 : s.size ≤ 4194304) :
    Calls Tryd.prog 20 #[.agg #[.int .i64 2, .int .i64 n, .string s, .slice a len cap]] w fun e w' => e = .returned (.string ⟨(60 :: (s.data.toList ++ [62])).toArray⟩) ∧ Below w.heap.size w w' := by
  go_enter Tryd.func20, Tryd.ntmps20
  go_wp2_with fail
  go_ret
  exact ⟨ret_str (by apply Go.WideShapes.bytes_inj; simp), below_alloc2 _ _ _⟩

set_option maxRecDepth 100000 in
set_option maxHeartbeats 1000000 in
theorem tx_none (op n : Int) (s : ByteArray) (a : Option Addr) (len cap : Nat) (w : World) (q1 : (op == 1) = false) (q2 : (op == 2) = false) (q3 : inB op 3 8 = false) :
    Calls Tryd.prog 20 #[.agg #[.int .i64 op, .int .i64 n, .string s, .slice a len cap]] w fun e w' => e = .returned (.string ⟨[63].toArray⟩) ∧ Below w.heap.size w w' := by
  have hi := in26 op 3 8
  rw [q3] at hi
  have HI := hide hi
  clear hi q3
  go_enter Tryd.func20, Tryd.ntmps20
  go_wp2_with fail
  refine (unhide HI _).mono ?_
  rintro e w2 ⟨rfl, rfl⟩
  go_wp2_with fail
  go_ret
  exact ⟨rfl, below_alloc2 _ _ _⟩

end Go.Proofs.YtpniekfalckdcaaDoor
