/-
  DERIVED. GIVEN WITH THE SEED: THE CARDS: each row of YtacmpodanebglaaGreatDoorRows.lean that lists a variable, with what it lists TIED to the program's text (the seventh form; the later family's looks); each row that meets fmt, with fmt's text TOLD by the authors' own Lean function (tested against real Go, not proved from fmt's source: count such statements apart). THE CARD IS WHAT COUNTS. Prove the row's statement (the work); the ties are given (YtacmpodanebglaaGreatDoorTie.lean); close each card by the builder's one call (the guide's Derived/Test/ToyasCard.lean, 'card_holds'). Laid BY PROGRAM, IN A SANDBOX (cutbox-door.mjs). By AI agents, Wed Nov 11 2026. No macro, syntax, notation, axiom, sorry.
-/
import Derived.Test.YtacmpodanebglaaGreatDoorRows
import GoSem.ClaimSeven
namespace Go.Proofs.YtacmpodanebglaaGreatDoor
namespace Rows

/-- THE TIED CARD OF 'laws.FnExactReply'. -/
def fnExactReplyCard : Claim7 := { stood := { row := fnExactReplyRow, standIns := [], harness := (true, "556e31590b3c82c0fb80d8d1546c4895a0c689db352b37efe643a038426dc31f"), looks := true }, kinds := [], alts := [], laidByText := true, laidKinds := [.data, .data, .data, .sentinel], laidTests := true, laidLooks := .later }
def FnExactReplyCardSaid : Prop := Claim7.holds Tryz.pinned (.plain (OpenSpec.ofChange fnExactReplySpec)) fnExactReplyCard

/-- THE TIED CARD OF 'laws.FnExactReplyOf'. -/
def fnExactReplyOfCard : Claim7 := { stood := { row := fnExactReplyOfRow, standIns := [], harness := (true, "556e31590b3c82c0fb80d8d1546c4895a0c689db352b37efe643a038426dc31f"), looks := true }, kinds := [], alts := [], laidByText := true, laidKinds := [.data, .data, .data, .sentinel], laidTests := true, laidLooks := .later }
def FnExactReplyOfCardSaid : Prop := Claim7.holds Tryz.pinned (.plain (OpenSpec.ofChange fnExactReplyOfSpec)) fnExactReplyOfCard

/-- THE SECOND FORM's CARD OF 'laws.FnExactReply'. -/
def fnExactReplyUptoCard : Claim7 := { stood := { row := fnExactReplyUptoRow, standIns := [], harness := (true, "556e31590b3c82c0fb80d8d1546c4895a0c689db352b37efe643a038426dc31f"), looks := true }, kinds := [], alts := [], laidByText := true, laidKinds := [.data, .data, .data, .sentinel], laidTests := true, laidLooks := .later }
def FnExactReplyUptoCardSaid : Prop := Claim7.holds Tryz.pinned (.plain (OpenSpec.upto fnExactReplySpec)) fnExactReplyUptoCard

/-- THE SECOND FORM's CARD OF 'laws.FnExactReplyOf'. -/
def fnExactReplyOfUptoCard : Claim7 := { stood := { row := fnExactReplyOfUptoRow, standIns := [], harness := (true, "556e31590b3c82c0fb80d8d1546c4895a0c689db352b37efe643a038426dc31f"), looks := true }, kinds := [], alts := [], laidByText := true, laidKinds := [.data, .data, .data, .sentinel], laidTests := true, laidLooks := .later }
def FnExactReplyOfUptoCardSaid : Prop := Claim7.holds Tryz.pinned (.plain (OpenSpec.upto fnExactReplyOfSpec)) fnExactReplyOfUptoCard
end Rows
end Go.Proofs.YtacmpodanebglaaGreatDoor
