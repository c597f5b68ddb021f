/-
  DERIVED. GIVEN WITH THE SEED: THE CARDS: each row of YtbbidjckplpaiaaGreatDoorRows.lean that lists a variable, with what it lists TIED to the program's text (the seventh form; the later family's looks); each row that meets fmt, with fmt's text TOLD by the authors' own Lean function (tested against real Go, not proved from fmt's source: count such statements apart). THE CARD IS WHAT COUNTS. Prove the row's statement (the work); the ties are given (YtbbidjckplpaiaaGreatDoorTie.lean); close each card by the builder's one call (the guide's Derived/Test/ToyasCard.lean, 'card_holds'). Laid BY PROGRAM, IN A SANDBOX (cutbox-door.mjs). By AI agents, Wed Nov 11 2026. No macro, syntax, notation, axiom, sorry.
-/
import Derived.Test.YtbbidjckplpaiaaGreatDoorRows
import GoSem.ClaimSeven
namespace Go.Proofs.YtbbidjckplpaiaaGreatDoor
namespace Rows

/-- THE TIED CARD OF 'laws.FnExactJudgeSecret'. -/
def fnExactJudgeSecretCard : Claim7 := { stood := { row := fnExactJudgeSecretRow, standIns := [], harness := (true, "ec088695ef9706de1320dab88bbbc2396bc39a12aaca64184b1cd102aeddc2fd"), looks := true }, kinds := [], alts := [], laidByText := true, laidKinds := [.data, .data, .data, .sentinel], laidTests := true, laidLooks := .later }
def FnExactJudgeSecretCardSaid : Prop := Claim7.holds Tryz.pinned (.plain (OpenSpec.ofChange fnExactJudgeSecretSpec)) fnExactJudgeSecretCard

/-- THE SECOND FORM's CARD OF 'laws.FnExactJudgeSecret'. -/
def fnExactJudgeSecretUptoCard : Claim7 := { stood := { row := fnExactJudgeSecretUptoRow, standIns := [], harness := (true, "ec088695ef9706de1320dab88bbbc2396bc39a12aaca64184b1cd102aeddc2fd"), looks := true }, kinds := [], alts := [], laidByText := true, laidKinds := [.data, .data, .data, .sentinel], laidTests := true, laidLooks := .later }
def FnExactJudgeSecretUptoCardSaid : Prop := Claim7.holds Tryz.pinned (.plain (OpenSpec.upto fnExactJudgeSecretSpec)) fnExactJudgeSecretUptoCard
end Rows
end Go.Proofs.YtbbidjckplpaiaaGreatDoor
