/-
  DERIVED. GIVEN WITH THE SEED: THE CARDS: each row of YteminklafghgpaaDoorRows.lean that lists a variable, with what it lists TIED to the program's text (the seventh form; the later family's looks); each row that meets fmt, with fmt's text TOLD by the authors' own Lean function (tested against real Go, not proved from fmt's source: count such statements apart). THE CARD IS WHAT COUNTS. Prove the row's statement (the work); the ties are given (YteminklafghgpaaDoorTie.lean); close each card by the builder's one call (the guide's Derived/Test/ToyasCard.lean, 'card_holds'). Laid BY PROGRAM, IN A SANDBOX (cutbox-door.mjs). By AI agents, Wed Nov 11 2026. No macro, syntax, notation, axiom, sorry.
-/
import Derived.Test.YteminklafghgpaaDoorRows
import GoSem.ClaimSeven
namespace Go.Proofs.YteminklafghgpaaDoor
namespace Rows

/-- THE TIED CARD OF 'laws.FnExactMade'. -/
def fnExactMadeCard : Claim7 := { stood := { row := fnExactMadeRow, standIns := [], harness := (true, "4bc083e1b79a4fb60a51b0919c0eb571845e0c685ae7575fc702c9c2fc1dca81"), looks := true }, kinds := [], alts := [], laidByText := true, laidKinds := [.data, .data, .data, .sentinel], laidTests := true, laidLooks := .later }
def FnExactMadeCardSaid : Prop := Claim7.holds Tryd.pinned (.plain (OpenSpec.ofChange fnExactMadeSpec)) fnExactMadeCard

/-- THE SECOND FORM's CARD OF 'laws.FnExactMade'. -/
def fnExactMadeUptoCard : Claim7 := { stood := { row := fnExactMadeUptoRow, standIns := [], harness := (true, "4bc083e1b79a4fb60a51b0919c0eb571845e0c685ae7575fc702c9c2fc1dca81"), looks := true }, kinds := [], alts := [], laidByText := true, laidKinds := [.data, .data, .data, .sentinel], laidTests := true, laidLooks := .later }
def FnExactMadeUptoCardSaid : Prop := Claim7.holds Tryd.pinned (.plain (OpenSpec.upto fnExactMadeSpec)) fnExactMadeUptoCard
end Rows
end Go.Proofs.YteminklafghgpaaDoor
