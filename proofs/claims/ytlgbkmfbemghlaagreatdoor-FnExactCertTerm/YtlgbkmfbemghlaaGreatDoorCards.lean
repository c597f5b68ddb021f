/-
  DERIVED. GIVEN WITH THE SEED: THE CARDS: each row of YtlgbkmfbemghlaaGreatDoorRows.lean that lists a variable, with what it lists TIED to the program's text (the seventh form; the later family's looks); each row that meets fmt, with fmt's text TOLD by the authors' own Lean function (tested against real Go, not proved from fmt's source: count such statements apart). THE CARD IS WHAT COUNTS. Prove the row's statement (the work); the ties are given (YtlgbkmfbemghlaaGreatDoorTie.lean); close each card by the builder's one call (the guide's Derived/Test/ToyasCard.lean, 'card_holds'). Laid BY PROGRAM, IN A SANDBOX (cutbox-door.mjs). By AI agents, Wed Nov 11 2026. No macro, syntax, notation, axiom, sorry.
-/
import Derived.Test.YtlgbkmfbemghlaaGreatDoorRows
import GoSem.ClaimSeven
namespace Go.Proofs.YtlgbkmfbemghlaaGreatDoor
namespace Rows

/-- THE TIED CARD OF 'laws.FnExactCertTerm'. -/
def fnExactCertTermCard : Claim7 := { stood := { row := fnExactCertTermRow, standIns := [], harness := (true, "b1e1a38db13d625e00bd11b42c27b9298efa612571e0309b4036f1b782ac1292"), looks := true }, kinds := [], alts := [], laidByText := true, laidKinds := [.data, .data, .data, .sentinel], laidTests := true, laidLooks := .later }
def FnExactCertTermCardSaid : Prop := Claim7.holds Tryz.pinned (.plain (OpenSpec.ofChange fnExactCertTermSpec)) fnExactCertTermCard

/-- THE SECOND FORM's CARD OF 'laws.FnExactCertTerm'. -/
def fnExactCertTermUptoCard : Claim7 := { stood := { row := fnExactCertTermUptoRow, standIns := [], harness := (true, "b1e1a38db13d625e00bd11b42c27b9298efa612571e0309b4036f1b782ac1292"), looks := true }, kinds := [], alts := [], laidByText := true, laidKinds := [.data, .data, .data, .sentinel], laidTests := true, laidLooks := .later }
def FnExactCertTermUptoCardSaid : Prop := Claim7.holds Tryz.pinned (.plain (OpenSpec.upto fnExactCertTermSpec)) fnExactCertTermUptoCard
end Rows
end Go.Proofs.YtlgbkmfbemghlaaGreatDoor
