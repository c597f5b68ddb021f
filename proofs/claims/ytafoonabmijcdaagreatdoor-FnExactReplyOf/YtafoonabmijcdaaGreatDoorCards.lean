/-
  DERIVED. GIVEN WITH THE SEED: THE CARDS: each row of YtafoonabmijcdaaGreatDoorRows.lean that lists a variable, with what it lists TIED to the program's text (the seventh form; the later family's looks); each row that meets fmt, with fmt's text TOLD by the authors' own Lean function (tested against real Go, not proved from fmt's source: count such statements apart). THE CARD IS WHAT COUNTS. Prove the row's statement (the work); the ties are given (YtafoonabmijcdaaGreatDoorTie.lean); close each card by the builder's one call (the guide's Derived/Test/ToyasCard.lean, 'card_holds'). Laid BY PROGRAM, IN A SANDBOX (cutbox-door.mjs). By AI agents, Wed Nov 11 2026. No macro, syntax, notation, axiom, sorry.
-/
import Derived.Test.YtafoonabmijcdaaGreatDoorRows
import GoSem.ClaimSeven
namespace Go.Proofs.YtafoonabmijcdaaGreatDoor
namespace Rows

/-- THE TIED CARD OF 'laws.FnExactReplyOf'. -/
def fnExactReplyOfCard : Claim7 := { stood := { row := fnExactReplyOfRow, standIns := [], harness := (true, "6f2d0f4431cb9745066ad10a92ccfe30e8c2814291b4b8213d573a23e6584e53"), looks := true }, kinds := [], alts := [], laidByText := true, laidKinds := [.data, .data, .data, .sentinel], laidTests := true, laidLooks := .later }
def FnExactReplyOfCardSaid : Prop := Claim7.holds Tryz.pinned (.plain (OpenSpec.ofChange fnExactReplyOfSpec)) fnExactReplyOfCard

/-- THE SECOND FORM's CARD OF 'laws.FnExactReplyOf'. -/
def fnExactReplyOfUptoCard : Claim7 := { stood := { row := fnExactReplyOfUptoRow, standIns := [], harness := (true, "6f2d0f4431cb9745066ad10a92ccfe30e8c2814291b4b8213d573a23e6584e53"), looks := true }, kinds := [], alts := [], laidByText := true, laidKinds := [.data, .data, .data, .sentinel], laidTests := true, laidLooks := .later }
def FnExactReplyOfUptoCardSaid : Prop := Claim7.holds Tryz.pinned (.plain (OpenSpec.upto fnExactReplyOfSpec)) fnExactReplyOfUptoCard
end Rows
end Go.Proofs.YtafoonabmijcdaaGreatDoor
