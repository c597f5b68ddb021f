/-
  DERIVED. GIVEN WITH THE SEED: THE CARDS: each row of YtdmhfembmkappaaDoorRows.lean that lists a variable, with what it lists TIED to the program's text (the seventh form; the later family's looks); each row that meets fmt, with fmt's text TOLD by the authors' own Lean function (tested against real Go, not proved from fmt's source: count such statements apart). THE CARD IS WHAT COUNTS. Prove the row's statement (the work); the ties are given (YtdmhfembmkappaaDoorTie.lean); close each card by the builder's one call (the guide's Derived/Test/ToyasCard.lean, 'card_holds'). Laid BY PROGRAM, IN A SANDBOX (cutbox-door.mjs). By AI agents, Wed Nov 11 2026. No macro, syntax, notation, axiom, sorry.
-/
import Derived.Test.YtdmhfembmkappaaDoorRows
import GoSem.ClaimSeven
namespace Go.Proofs.YtdmhfembmkappaaDoor
namespace Rows

/-- THE TIED CARD OF 'laws.FnExactBoth'. -/
def fnExactBothCard : Claim7 := { stood := { row := fnExactBothRow, standIns := [], harness := (true, "f298c207ea21bd9ffc597ecdd29106a87fa753943705a6ece1f8a34c301fc1a5"), looks := true }, kinds := [], alts := [], laidByText := true, laidKinds := [.sentinel], laidTests := true, laidLooks := .later }
def FnExactBothCardSaid : Prop := Claim7.holds Tryd.pinned (.plain (OpenSpec.ofChange fnExactBothSpec)) fnExactBothCard

/-- THE TIED CARD OF 'laws.FnExactHello'. -/
def fnExactHelloCard : Claim7 := { stood := { row := fnExactHelloRow, standIns := [], harness := (true, "f298c207ea21bd9ffc597ecdd29106a87fa753943705a6ece1f8a34c301fc1a5"), looks := true }, kinds := [], alts := [], laidByText := true, laidKinds := [.sentinel], laidTests := true, laidLooks := .later }
def FnExactHelloCardSaid : Prop := Claim7.holds Tryd.pinned (.plain (OpenSpec.ofChange fnExactHelloSpec)) fnExactHelloCard

/-- THE TIED CARD OF 'laws.FnExactHelloOf'. -/
def fnExactHelloOfCard : Claim7 := { stood := { row := fnExactHelloOfRow, standIns := [], harness := (true, "f298c207ea21bd9ffc597ecdd29106a87fa753943705a6ece1f8a34c301fc1a5"), looks := true }, kinds := [], alts := [], laidByText := true, laidKinds := [.sentinel], laidTests := true, laidLooks := .later }
def FnExactHelloOfCardSaid : Prop := Claim7.holds Tryd.pinned (.plain (OpenSpec.ofChange fnExactHelloOfSpec)) fnExactHelloOfCard

/-- THE TIED CARD OF 'laws.FnExactDone'. -/
def fnExactDoneCard : Claim7 := { stood := { row := fnExactDoneRow, standIns := [], harness := (true, "f298c207ea21bd9ffc597ecdd29106a87fa753943705a6ece1f8a34c301fc1a5"), looks := true }, kinds := [], alts := [], laidByText := true, laidKinds := [.data, .data, .data, .sentinel], laidTests := true, laidLooks := .later }
def FnExactDoneCardSaid : Prop := Claim7.holds Tryd.pinned (.plain (OpenSpec.ofChange fnExactDoneSpec)) fnExactDoneCard

/-- THE SECOND FORM's CARD OF 'laws.FnExactBoth'. -/
def fnExactBothUptoCard : Claim7 := { stood := { row := fnExactBothUptoRow, standIns := [], harness := (true, "f298c207ea21bd9ffc597ecdd29106a87fa753943705a6ece1f8a34c301fc1a5"), looks := true }, kinds := [], alts := [], laidByText := true, laidKinds := [.sentinel], laidTests := true, laidLooks := .later }
def FnExactBothUptoCardSaid : Prop := Claim7.holds Tryd.pinned (.plain (OpenSpec.upto fnExactBothSpec)) fnExactBothUptoCard

/-- THE SECOND FORM's CARD OF 'laws.FnExactHello'. -/
def fnExactHelloUptoCard : Claim7 := { stood := { row := fnExactHelloUptoRow, standIns := [], harness := (true, "f298c207ea21bd9ffc597ecdd29106a87fa753943705a6ece1f8a34c301fc1a5"), looks := true }, kinds := [], alts := [], laidByText := true, laidKinds := [.sentinel], laidTests := true, laidLooks := .later }
def FnExactHelloUptoCardSaid : Prop := Claim7.holds Tryd.pinned (.plain (OpenSpec.upto fnExactHelloSpec)) fnExactHelloUptoCard

/-- THE SECOND FORM's CARD OF 'laws.FnExactHelloOf'. -/
def fnExactHelloOfUptoCard : Claim7 := { stood := { row := fnExactHelloOfUptoRow, standIns := [], harness := (true, "f298c207ea21bd9ffc597ecdd29106a87fa753943705a6ece1f8a34c301fc1a5"), looks := true }, kinds := [], alts := [], laidByText := true, laidKinds := [.sentinel], laidTests := true, laidLooks := .later }
def FnExactHelloOfUptoCardSaid : Prop := Claim7.holds Tryd.pinned (.plain (OpenSpec.upto fnExactHelloOfSpec)) fnExactHelloOfUptoCard

/-- THE SECOND FORM's CARD OF 'laws.FnExactDone'. -/
def fnExactDoneUptoCard : Claim7 := { stood := { row := fnExactDoneUptoRow, standIns := [], harness := (true, "f298c207ea21bd9ffc597ecdd29106a87fa753943705a6ece1f8a34c301fc1a5"), looks := true }, kinds := [], alts := [], laidByText := true, laidKinds := [.data, .data, .data, .sentinel], laidTests := true, laidLooks := .later }
def FnExactDoneUptoCardSaid : Prop := Claim7.holds Tryd.pinned (.plain (OpenSpec.upto fnExactDoneSpec)) fnExactDoneUptoCard
end Rows
end Go.Proofs.YtdmhfembmkappaaDoor
