/-
  NARROWER THAN 'FOR EVERY INPUT', by the rows' own cells (each row's printed sentence says how): FnExactPair: loops · FnExactPub: loops · FnExactHash: loops · FnExactAgree: loops · FnExactSign: loops.
  DERIVED. THE GIVEN ROWS OF THIS SEAT. 6 by the template 'for every input the law returns true; each argument reads behind the call as it read before'; 0 by the template 'total and deterministic' (their statements: YtlfnfedklkkjaaaTotals.lean).
  GIVEN WITH THE SEED: the statements are not yours to turn. If you find one false, say at which input.
  Laid BY PROGRAM, IN A SANDBOX (cutbox-rows.mjs): the forced cells as the released guide's own fill.sh prints them over the translation fb7d41026089d1f5… (all of the seat's roots in one cut). By AI agents, Wed Nov 11 2026. No macro, syntax, notation, axiom, sorry.
-/
import Derived.Test.YtlfnfedklkkjaaaChecked
import GoSem.Claim
import GoSem.ClaimJoined
import GoSem.ClaimMapViews
import Derived.JoinedTies
import Derived.KernelRfl
namespace Go.Proofs.Ytlfnfedklkkjaaa
/- THE CELL 'sum', in the pinned program and in every row, IS THE sha256 OF THE DUMP (.gsa) THAT YtlfnfedklkkjaaaProg.lean LOADS. Nothing in Lean hashes anything: it is a label: what it is worth is what the hold of that sum in a sandbox is worth. -/
noncomputable def Try.pinned : Pinned := { name := "ytlfnfedklkkjaaa", sum := "fb7d41026089d1f5663385ee7e9ca18443dfe74426c32974ed601489c4f1b5be", checked := Try.checked }
namespace Rows
def none {H : Type} : Left H := { results := [], args := [] }

/-- 'laws.FnExactAtom': WHATEVER THE INPUT: true; the input reads as it did. -/
def fnExactAtomSpec : ChangeSpec := { name := "fnExactAtom", fn := fun _ => fun
  | [d] => { results := [.lit (.bool true)], args := [d] }
  | _ => none }
def fnExactAtomRow : OpenClaim := { program := "ytlfnfedklkkjaaa", sum := "fb7d41026089d1f5663385ee7e9ca18443dfe74426c32974ed601489c4f1b5be", func := "loop.example/g00328/laws.FnExactAtom", spec := "fnExactAtom", unfollowed := true, recurses := true, apart := false }
def FnExactAtomSaid : Prop := fnExactAtomRow.holds Try.pinned (OpenSpec.ofChange fnExactAtomSpec)

/-- ITS FALSE NEIGHBOUR: 'it returns false'. Refute it at one input. -/
def fnExactAtomWrong : ChangeSpec := { name := "fnExactAtom", fn := fun _ => fun
  | [d] => { results := [.lit (.bool false)], args := [d] }
  | _ => none }
def FnExactAtomWrongFalsely : Prop := fnExactAtomRow.holds Try.pinned (OpenSpec.ofChange fnExactAtomWrong)

/-- 'laws.FnExactPair': WHATEVER THE INPUT: true; the input reads as it did. -/
def fnExactPairSpec : ChangeSpec := { name := "fnExactPair", fn := fun _ => fun
  | [d1, d2] => { results := [.lit (.bool true)], args := [d1, d2] }
  | _ => none }
def fnExactPairRow : OpenClaim := { program := "ytlfnfedklkkjaaa", sum := "fb7d41026089d1f5663385ee7e9ca18443dfe74426c32974ed601489c4f1b5be", func := "loop.example/g00328/laws.FnExactPair", spec := "fnExactPair", unfollowed := true, recurses := true, loops := true, apart := false }
def FnExactPairSaid : Prop := fnExactPairRow.holds Try.pinned (OpenSpec.ofChange fnExactPairSpec)

/-- ITS FALSE NEIGHBOUR: 'it returns false'. Refute it at one input. -/
def fnExactPairWrong : ChangeSpec := { name := "fnExactPair", fn := fun _ => fun
  | [d1, d2] => { results := [.lit (.bool false)], args := [d1, d2] }
  | _ => none }
def FnExactPairWrongFalsely : Prop := fnExactPairRow.holds Try.pinned (OpenSpec.ofChange fnExactPairWrong)

/-- 'laws.FnExactPub': WHATEVER THE INPUT: true; the input reads as it did. -/
def fnExactPubSpec : ChangeSpec := { name := "fnExactPub", fn := fun _ => fun
  | [d] => { results := [.lit (.bool true)], args := [d] }
  | _ => none }
def fnExactPubRow : OpenClaim := { program := "ytlfnfedklkkjaaa", sum := "fb7d41026089d1f5663385ee7e9ca18443dfe74426c32974ed601489c4f1b5be", func := "loop.example/g00328/laws.FnExactPub", spec := "fnExactPub", unfollowed := true, recurses := true, loops := true, apart := false }
def FnExactPubSaid : Prop := fnExactPubRow.holds Try.pinned (OpenSpec.ofChange fnExactPubSpec)

/-- ITS FALSE NEIGHBOUR: 'it returns false'. Refute it at one input. -/
def fnExactPubWrong : ChangeSpec := { name := "fnExactPub", fn := fun _ => fun
  | [d] => { results := [.lit (.bool false)], args := [d] }
  | _ => none }
def FnExactPubWrongFalsely : Prop := fnExactPubRow.holds Try.pinned (OpenSpec.ofChange fnExactPubWrong)

/-- 'laws.FnExactHash': WHATEVER THE INPUT: true; the input reads as it did. -/
def fnExactHashSpec : ChangeSpec := { name := "fnExactHash", fn := fun _ => fun
  | [d] => { results := [.lit (.bool true)], args := [d] }
  | _ => none }
def fnExactHashRow : OpenClaim := { program := "ytlfnfedklkkjaaa", sum := "fb7d41026089d1f5663385ee7e9ca18443dfe74426c32974ed601489c4f1b5be", func := "loop.example/g00328/laws.FnExactHash", spec := "fnExactHash", unfollowed := true, recurses := true, loops := true, apart := false }
def FnExactHashSaid : Prop := fnExactHashRow.holds Try.pinned (OpenSpec.ofChange fnExactHashSpec)

/-- ITS FALSE NEIGHBOUR: 'it returns false'. Refute it at one input. -/
def fnExactHashWrong : ChangeSpec := { name := "fnExactHash", fn := fun _ => fun
  | [d] => { results := [.lit (.bool false)], args := [d] }
  | _ => none }
def FnExactHashWrongFalsely : Prop := fnExactHashRow.holds Try.pinned (OpenSpec.ofChange fnExactHashWrong)

/-- 'laws.FnExactAgree': WHATEVER THE INPUT: true; the input reads as it did. -/
def fnExactAgreeSpec : ChangeSpec := { name := "fnExactAgree", fn := fun _ => fun
  | [d1, d2] => { results := [.lit (.bool true)], args := [d1, d2] }
  | _ => none }
def fnExactAgreeRow : OpenClaim := { program := "ytlfnfedklkkjaaa", sum := "fb7d41026089d1f5663385ee7e9ca18443dfe74426c32974ed601489c4f1b5be", func := "loop.example/g00328/laws.FnExactAgree", spec := "fnExactAgree", unfollowed := true, recurses := true, loops := true, apart := false }
def FnExactAgreeSaid : Prop := fnExactAgreeRow.holds Try.pinned (OpenSpec.ofChange fnExactAgreeSpec)

/-- ITS FALSE NEIGHBOUR: 'it returns false'. Refute it at one input. -/
def fnExactAgreeWrong : ChangeSpec := { name := "fnExactAgree", fn := fun _ => fun
  | [d1, d2] => { results := [.lit (.bool false)], args := [d1, d2] }
  | _ => none }
def FnExactAgreeWrongFalsely : Prop := fnExactAgreeRow.holds Try.pinned (OpenSpec.ofChange fnExactAgreeWrong)

/-- 'laws.FnExactSign': WHATEVER THE INPUT: true; the input reads as it did. -/
def fnExactSignSpec : ChangeSpec := { name := "fnExactSign", fn := fun _ => fun
  | [d1, d2] => { results := [.lit (.bool true)], args := [d1, d2] }
  | _ => none }
def fnExactSignRow : OpenClaim := { program := "ytlfnfedklkkjaaa", sum := "fb7d41026089d1f5663385ee7e9ca18443dfe74426c32974ed601489c4f1b5be", func := "loop.example/g00328/laws.FnExactSign", spec := "fnExactSign", unfollowed := true, recurses := true, loops := true, apart := false }
def FnExactSignSaid : Prop := fnExactSignRow.holds Try.pinned (OpenSpec.ofChange fnExactSignSpec)

/-- ITS FALSE NEIGHBOUR: 'it returns false'. Refute it at one input. -/
def fnExactSignWrong : ChangeSpec := { name := "fnExactSign", fn := fun _ => fun
  | [d1, d2] => { results := [.lit (.bool false)], args := [d1, d2] }
  | _ => none }
def FnExactSignWrongFalsely : Prop := fnExactSignRow.holds Try.pinned (OpenSpec.ofChange fnExactSignWrong)

/- THE SECOND FORM. 'bulk': how many values and letters a reading holds, each counted each time it is reached (what is shared counts as often as it is met; a slice's spare places count too). A statement '..UptoSaid' is the law's where the arguments, and the package variables that the reading takes, are together of bulk at most 1048576: NARROWER than '..Said'. Prove '..Said' where nothing that the law and all that it calls make is longer than what came in: it says more and counts as full. Else prove '..UptoSaid'. A law counts once. -/
mutual
def uptoBulk {H : Type} : DataW H → Nat
  | .lit (.string bytes) => bytes.length + 1
  | .lit _ => 1
  | .nil => 1
  | .ptr d => uptoBulk d + 1
  | .slice elems spare => uptoBulkAll elems + uptoBulkAll spare + 1
  | .agg parts => uptoBulkAll parts + 1
  | .iface _ d => uptoBulk d + 1
  | .map entries => uptoBulkEntries entries + 1
  | .held _ => 1
def uptoBulkAll {H : Type} : List (DataW H) → Nat
  | [] => 0
  | d :: r => uptoBulk d + uptoBulkAll r
def uptoBulkEntries {H : Type} : List (Lit × DataW H) → Nat
  | [] => 0
  | x :: r => uptoBulkEntry x + uptoBulkEntries r
def uptoBulkEntry {H : Type} : Lit × DataW H → Nat
  | (.string bytes, d) => bytes.length + uptoBulk d + 1
  | (_, d) => uptoBulk d + 1
 end
def uptoSmall : (H : Type) → List (DataW H) → Bool := fun _ ds => decide (uptoBulkAll ds ≤ 1048576)
def OpenSpec.upto (s : _root_.Go.ChangeSpec) : _root_.Go.OpenSpec := { _root_.Go.OpenSpec.ofChange s with cond := some uptoSmall }

/-- 'laws.FnExactAtom', WHERE WHAT IT READS IS OF BULK AT MOST 1048576: true; the input reads as it did. -/
def fnExactAtomUptoRow : OpenClaim := { program := "ytlfnfedklkkjaaa", sum := "fb7d41026089d1f5663385ee7e9ca18443dfe74426c32974ed601489c4f1b5be", func := "loop.example/g00328/laws.FnExactAtom", spec := "fnExactAtom", unfollowed := true, recurses := true, apart := false, narrowed := true }
def FnExactAtomUptoSaid : Prop := fnExactAtomUptoRow.holds Try.pinned (OpenSpec.upto fnExactAtomSpec)

/-- 'laws.FnExactPair', WHERE WHAT IT READS IS OF BULK AT MOST 1048576: true; the input reads as it did. -/
def fnExactPairUptoRow : OpenClaim := { program := "ytlfnfedklkkjaaa", sum := "fb7d41026089d1f5663385ee7e9ca18443dfe74426c32974ed601489c4f1b5be", func := "loop.example/g00328/laws.FnExactPair", spec := "fnExactPair", unfollowed := true, recurses := true, loops := true, apart := false, narrowed := true }
def FnExactPairUptoSaid : Prop := fnExactPairUptoRow.holds Try.pinned (OpenSpec.upto fnExactPairSpec)

/-- 'laws.FnExactPub', WHERE WHAT IT READS IS OF BULK AT MOST 1048576: true; the input reads as it did. -/
def fnExactPubUptoRow : OpenClaim := { program := "ytlfnfedklkkjaaa", sum := "fb7d41026089d1f5663385ee7e9ca18443dfe74426c32974ed601489c4f1b5be", func := "loop.example/g00328/laws.FnExactPub", spec := "fnExactPub", unfollowed := true, recurses := true, loops := true, apart := false, narrowed := true }
def FnExactPubUptoSaid : Prop := fnExactPubUptoRow.holds Try.pinned (OpenSpec.upto fnExactPubSpec)

/-- 'laws.FnExactHash', WHERE WHAT IT READS IS OF BULK AT MOST 1048576: true; the input reads as it did. -/
def fnExactHashUptoRow : OpenClaim := { program := "ytlfnfedklkkjaaa", sum := "fb7d41026089d1f5663385ee7e9ca18443dfe74426c32974ed601489c4f1b5be", func := "loop.example/g00328/laws.FnExactHash", spec := "fnExactHash", unfollowed := true, recurses := true, loops := true, apart := false, narrowed := true }
def FnExactHashUptoSaid : Prop := fnExactHashUptoRow.holds Try.pinned (OpenSpec.upto fnExactHashSpec)

/-- 'laws.FnExactAgree', WHERE WHAT IT READS IS OF BULK AT MOST 1048576: true; the input reads as it did. -/
def fnExactAgreeUptoRow : OpenClaim := { program := "ytlfnfedklkkjaaa", sum := "fb7d41026089d1f5663385ee7e9ca18443dfe74426c32974ed601489c4f1b5be", func := "loop.example/g00328/laws.FnExactAgree", spec := "fnExactAgree", unfollowed := true, recurses := true, loops := true, apart := false, narrowed := true }
def FnExactAgreeUptoSaid : Prop := fnExactAgreeUptoRow.holds Try.pinned (OpenSpec.upto fnExactAgreeSpec)

/-- 'laws.FnExactSign', WHERE WHAT IT READS IS OF BULK AT MOST 1048576: true; the input reads as it did. -/
def fnExactSignUptoRow : OpenClaim := { program := "ytlfnfedklkkjaaa", sum := "fb7d41026089d1f5663385ee7e9ca18443dfe74426c32974ed601489c4f1b5be", func := "loop.example/g00328/laws.FnExactSign", spec := "fnExactSign", unfollowed := true, recurses := true, loops := true, apart := false, narrowed := true }
def FnExactSignUptoSaid : Prop := fnExactSignUptoRow.holds Try.pinned (OpenSpec.upto fnExactSignSpec)

end Rows
end Go.Proofs.Ytlfnfedklkkjaaa
