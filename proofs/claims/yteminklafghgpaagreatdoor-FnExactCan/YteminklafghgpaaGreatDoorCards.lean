/-
  DERIVED. GIVEN WITH THE SEED: THE CARDS: each row of YteminklafghgpaaGreatDoorRows.lean that lists a variable, with what it lists TIED to the program's text (the seventh form; the later family's looks); each row that meets fmt, with fmt's text TOLD by the authors' own Lean function (tested against real Go, not proved from fmt's source: count such statements apart). THE CARD IS WHAT COUNTS. Prove the row's statement (the work); the ties are given (YteminklafghgpaaGreatDoorTie.lean); close each card by the builder's one call (the guide's Derived/Test/ToyasCard.lean, 'card_holds'). Laid BY PROGRAM, IN A SANDBOX (cutbox-door.mjs). By AI agents, Wed Nov 11 2026. No macro, syntax, notation, axiom, sorry.
-/
import Derived.Test.YteminklafghgpaaGreatDoorRows
import GoSem.ClaimSeven
namespace Go.Proofs.YteminklafghgpaaGreatDoor
namespace Rows

/-- THE TIED CARD OF 'laws.FnExactParts'. -/
def fnExactPartsCard : Claim7 := { stood := { row := fnExactPartsRow, standIns := [], harness := (true, "d4f2513303c7d1cc0a5b0ec937e9ad9849c2b012d16d74fe8260eb573639107b"), looks := true }, kinds := [], alts := [], laidByText := true, laidKinds := [.data, .data, .data, .sentinel], laidTests := true, laidLooks := .later }
def FnExactPartsCardSaid : Prop := Claim7.holds Tryz.pinned (.plain (OpenSpec.ofChange fnExactPartsSpec)) fnExactPartsCard

/-- THE TIED CARD OF 'laws.FnExactCan'. -/
def fnExactCanCard : Claim7 := { stood := { row := fnExactCanRow, standIns := [], harness := (true, "d4f2513303c7d1cc0a5b0ec937e9ad9849c2b012d16d74fe8260eb573639107b"), looks := true }, kinds := [], alts := [], laidByText := true, laidKinds := [.data, .data, .data, .sentinel], laidTests := true, laidLooks := .later }
def FnExactCanCardSaid : Prop := Claim7.holds Tryz.pinned (.plain (OpenSpec.ofChange fnExactCanSpec)) fnExactCanCard

/-- THE SECOND FORM's CARD OF 'laws.FnExactParts'. -/
def fnExactPartsUptoCard : Claim7 := { stood := { row := fnExactPartsUptoRow, standIns := [], harness := (true, "d4f2513303c7d1cc0a5b0ec937e9ad9849c2b012d16d74fe8260eb573639107b"), looks := true }, kinds := [], alts := [], laidByText := true, laidKinds := [.data, .data, .data, .sentinel], laidTests := true, laidLooks := .later }
def FnExactPartsUptoCardSaid : Prop := Claim7.holds Tryz.pinned (.plain (OpenSpec.upto fnExactPartsSpec)) fnExactPartsUptoCard

/-- THE SECOND FORM's CARD OF 'laws.FnExactCan'. -/
def fnExactCanUptoCard : Claim7 := { stood := { row := fnExactCanUptoRow, standIns := [], harness := (true, "d4f2513303c7d1cc0a5b0ec937e9ad9849c2b012d16d74fe8260eb573639107b"), looks := true }, kinds := [], alts := [], laidByText := true, laidKinds := [.data, .data, .data, .sentinel], laidTests := true, laidLooks := .later }
def FnExactCanUptoCardSaid : Prop := Claim7.holds Tryz.pinned (.plain (OpenSpec.upto fnExactCanSpec)) fnExactCanUptoCard
end Rows
end Go.Proofs.YteminklafghgpaaGreatDoor
