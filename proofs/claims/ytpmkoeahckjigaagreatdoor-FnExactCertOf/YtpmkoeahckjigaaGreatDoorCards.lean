/-
  DERIVED. GIVEN WITH THE SEED: THE CARDS: each row of YtpmkoeahckjigaaGreatDoorRows.lean that lists a variable, with what it lists TIED to the program's text (the seventh form; the later family's looks); each row that meets fmt, with fmt's text TOLD by the authors' own Lean function (tested against real Go, not proved from fmt's source: count such statements apart). THE CARD IS WHAT COUNTS. Prove the row's statement (the work); the ties are given (YtpmkoeahckjigaaGreatDoorTie.lean); close each card by the builder's one call (the guide's Derived/Test/ToyasCard.lean, 'card_holds'). Laid BY PROGRAM, IN A SANDBOX (cutbox-door.mjs). By AI agents, Wed Nov 11 2026. No macro, syntax, notation, axiom, sorry.
-/
import Derived.Test.YtpmkoeahckjigaaGreatDoorRows
import GoSem.ClaimSeven
namespace Go.Proofs.YtpmkoeahckjigaaGreatDoor
namespace Rows

/-- THE TIED CARD OF 'laws.FnExactCertOf'. -/
def fnExactCertOfCard : Claim7 := { stood := { row := fnExactCertOfRow, standIns := [], harness := (true, "af843cde026271fad4cef53e789409be41f7f4f5783bd122c944b7bc7e1423f0"), looks := true }, kinds := [], alts := [], laidByText := true, laidKinds := [.data, .data, .data, .sentinel, .sentinel, .sentinel], laidTests := true, laidLooks := .later }
def FnExactCertOfCardSaid : Prop := Claim7.holds Tryz.pinned (.plain (OpenSpec.ofChange fnExactCertOfSpec)) fnExactCertOfCard

/-- THE TIED CARD OF 'laws.FnExactCertGood'. -/
def fnExactCertGoodCard : Claim7 := { stood := { row := fnExactCertGoodRow, standIns := [], harness := (true, "af843cde026271fad4cef53e789409be41f7f4f5783bd122c944b7bc7e1423f0"), looks := true }, kinds := [], alts := [], laidByText := true, laidKinds := [.data, .data, .data, .sentinel, .sentinel, .sentinel], laidTests := true, laidLooks := .later }
def FnExactCertGoodCardSaid : Prop := Claim7.holds Tryz.pinned (.plain (OpenSpec.ofChange fnExactCertGoodSpec)) fnExactCertGoodCard

/-- THE SECOND FORM's CARD OF 'laws.FnExactCertOf'. -/
def fnExactCertOfUptoCard : Claim7 := { stood := { row := fnExactCertOfUptoRow, standIns := [], harness := (true, "af843cde026271fad4cef53e789409be41f7f4f5783bd122c944b7bc7e1423f0"), looks := true }, kinds := [], alts := [], laidByText := true, laidKinds := [.data, .data, .data, .sentinel, .sentinel, .sentinel], laidTests := true, laidLooks := .later }
def FnExactCertOfUptoCardSaid : Prop := Claim7.holds Tryz.pinned (.plain (OpenSpec.upto fnExactCertOfSpec)) fnExactCertOfUptoCard

/-- THE SECOND FORM's CARD OF 'laws.FnExactCertGood'. -/
def fnExactCertGoodUptoCard : Claim7 := { stood := { row := fnExactCertGoodUptoRow, standIns := [], harness := (true, "af843cde026271fad4cef53e789409be41f7f4f5783bd122c944b7bc7e1423f0"), looks := true }, kinds := [], alts := [], laidByText := true, laidKinds := [.data, .data, .data, .sentinel, .sentinel, .sentinel], laidTests := true, laidLooks := .later }
def FnExactCertGoodUptoCardSaid : Prop := Claim7.holds Tryz.pinned (.plain (OpenSpec.upto fnExactCertGoodSpec)) fnExactCertGoodUptoCard
end Rows
end Go.Proofs.YtpmkoeahckjigaaGreatDoor
