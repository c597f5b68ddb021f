/-
  DERIVED. GIVEN WITH THE SEED: THE CARDS: each row of YtklnojkkppfjnaaGreatDoorRows.lean that lists a variable, with what it lists TIED to the program's text (the seventh form; the later family's looks); each row that meets fmt, with fmt's text TOLD by the authors' own Lean function (tested against real Go, not proved from fmt's source: count such statements apart). THE CARD IS WHAT COUNTS. Prove the row's statement (the work); the ties are given (YtklnojkkppfjnaaGreatDoorTie.lean); close each card by the builder's one call (the guide's Derived/Test/ToyasCard.lean, 'card_holds'). Laid BY PROGRAM, IN A SANDBOX (cutbox-door.mjs). By AI agents, Wed Nov 11 2026. No macro, syntax, notation, axiom, sorry.
-/
import Derived.Test.YtklnojkkppfjnaaGreatDoorRows
import GoSem.ClaimSeven
namespace Go.Proofs.YtklnojkkppfjnaaGreatDoor
namespace Rows

/-- THE TIED CARD OF 'laws.FnExactParts'. -/
def fnExactPartsCard : Claim7 := { stood := { row := fnExactPartsRow, standIns := [], harness := (true, "8aa9884252684c7751968313cbbebca38c8b248bfbdaa2134a8b4174b160b878"), looks := true }, kinds := [], alts := [], laidByText := true, laidKinds := [.data, .data, .data, .sentinel], laidTests := true, laidLooks := .later }
def FnExactPartsCardSaid : Prop := Claim7.holds Tryz.pinned (.plain (OpenSpec.ofChange fnExactPartsSpec)) fnExactPartsCard

/-- THE TIED CARD OF 'laws.FnExactCan'. -/
def fnExactCanCard : Claim7 := { stood := { row := fnExactCanRow, standIns := [], harness := (true, "8aa9884252684c7751968313cbbebca38c8b248bfbdaa2134a8b4174b160b878"), looks := true }, kinds := [], alts := [], laidByText := true, laidKinds := [.data, .data, .data, .sentinel], laidTests := true, laidLooks := .later }
def FnExactCanCardSaid : Prop := Claim7.holds Tryz.pinned (.plain (OpenSpec.ofChange fnExactCanSpec)) fnExactCanCard

/-- THE TIED CARD OF 'laws.FnKnows'. -/
def fnKnowsCard : Claim7 := { stood := { row := fnKnowsRow, standIns := [], harness := (true, "8aa9884252684c7751968313cbbebca38c8b248bfbdaa2134a8b4174b160b878"), looks := true }, kinds := [], alts := [], laidByText := true, laidKinds := [.data, .data, .data, .sentinel], laidTests := true, laidLooks := .later }
def FnKnowsCardSaid : Prop := Claim7.holds Tryz.pinned (.plain (OpenSpec.ofChange fnKnowsSpec)) fnKnowsCard

/-- THE TIED CARD OF 'laws.FnHidden'. -/
def fnHiddenCard : Claim7 := { stood := { row := fnHiddenRow, standIns := [], harness := (true, "8aa9884252684c7751968313cbbebca38c8b248bfbdaa2134a8b4174b160b878"), looks := true }, kinds := [], alts := [], laidByText := true, laidKinds := [.data, .data, .data, .sentinel], laidTests := true, laidLooks := .later }
def FnHiddenCardSaid : Prop := Claim7.holds Tryz.pinned (.plain (OpenSpec.ofChange fnHiddenSpec)) fnHiddenCard

/-- THE SECOND FORM's CARD OF 'laws.FnExactParts'. -/
def fnExactPartsUptoCard : Claim7 := { stood := { row := fnExactPartsUptoRow, standIns := [], harness := (true, "8aa9884252684c7751968313cbbebca38c8b248bfbdaa2134a8b4174b160b878"), looks := true }, kinds := [], alts := [], laidByText := true, laidKinds := [.data, .data, .data, .sentinel], laidTests := true, laidLooks := .later }
def FnExactPartsUptoCardSaid : Prop := Claim7.holds Tryz.pinned (.plain (OpenSpec.upto fnExactPartsSpec)) fnExactPartsUptoCard

/-- THE SECOND FORM's CARD OF 'laws.FnExactCan'. -/
def fnExactCanUptoCard : Claim7 := { stood := { row := fnExactCanUptoRow, standIns := [], harness := (true, "8aa9884252684c7751968313cbbebca38c8b248bfbdaa2134a8b4174b160b878"), looks := true }, kinds := [], alts := [], laidByText := true, laidKinds := [.data, .data, .data, .sentinel], laidTests := true, laidLooks := .later }
def FnExactCanUptoCardSaid : Prop := Claim7.holds Tryz.pinned (.plain (OpenSpec.upto fnExactCanSpec)) fnExactCanUptoCard

/-- THE SECOND FORM's CARD OF 'laws.FnKnows'. -/
def fnKnowsUptoCard : Claim7 := { stood := { row := fnKnowsUptoRow, standIns := [], harness := (true, "8aa9884252684c7751968313cbbebca38c8b248bfbdaa2134a8b4174b160b878"), looks := true }, kinds := [], alts := [], laidByText := true, laidKinds := [.data, .data, .data, .sentinel], laidTests := true, laidLooks := .later }
def FnKnowsUptoCardSaid : Prop := Claim7.holds Tryz.pinned (.plain (OpenSpec.upto fnKnowsSpec)) fnKnowsUptoCard

/-- THE SECOND FORM's CARD OF 'laws.FnHidden'. -/
def fnHiddenUptoCard : Claim7 := { stood := { row := fnHiddenUptoRow, standIns := [], harness := (true, "8aa9884252684c7751968313cbbebca38c8b248bfbdaa2134a8b4174b160b878"), looks := true }, kinds := [], alts := [], laidByText := true, laidKinds := [.data, .data, .data, .sentinel], laidTests := true, laidLooks := .later }
def FnHiddenUptoCardSaid : Prop := Claim7.holds Tryz.pinned (.plain (OpenSpec.upto fnHiddenSpec)) fnHiddenUptoCard
end Rows
end Go.Proofs.YtklnojkkppfjnaaGreatDoor
