/-
  DERIVED. GIVEN WITH THE SEED: THE CARDS: each row of YtgondlbejligmaaDoorRows.lean that lists a variable, with what it lists TIED to the program's text (the seventh form; the later family's looks); each row that meets fmt, with fmt's text TOLD by the authors' own Lean function (tested against real Go, not proved from fmt's source: count such statements apart). THE CARD IS WHAT COUNTS. Prove the row's statement (the work); the ties are given (YtgondlbejligmaaDoorTie.lean); close each card by the builder's one call (the guide's Derived/Test/ToyasCard.lean, 'card_holds'). Laid BY PROGRAM, IN A SANDBOX (cutbox-door.mjs). By AI agents, Wed Nov 11 2026. No macro, syntax, notation, axiom, sorry.
-/
import Derived.Test.YtgondlbejligmaaDoorRows
import GoSem.ClaimSeven
namespace Go.Proofs.YtgondlbejligmaaDoor
namespace Rows

/-- THE TIED CARD OF 'laws.FnExactGreeting'. -/
def fnExactGreetingCard : Claim7 := { stood := { row := fnExactGreetingRow, standIns := [], harness := (true, "1e6db55c8e1dc3c7f9c90abfb344259e30cde112a208d9154fba909e05b219c1"), looks := true }, kinds := [], alts := [], laidByText := true, laidKinds := [.sentinel], laidTests := true, laidLooks := .later }
def FnExactGreetingCardSaid : Prop := Claim7.holds Tryd.pinned (.plain (OpenSpec.ofChange fnExactGreetingSpec)) fnExactGreetingCard

/-- THE TIED CARD OF 'laws.FnExactBoth'. -/
def fnExactBothCard : Claim7 := { stood := { row := fnExactBothRow, standIns := [], harness := (true, "1e6db55c8e1dc3c7f9c90abfb344259e30cde112a208d9154fba909e05b219c1"), looks := true }, kinds := [], alts := [], laidByText := true, laidKinds := [.sentinel], laidTests := true, laidLooks := .later }
def FnExactBothCardSaid : Prop := Claim7.holds Tryd.pinned (.plain (OpenSpec.ofChange fnExactBothSpec)) fnExactBothCard

/-- THE TIED CARD OF 'laws.FnExactHello'. -/
def fnExactHelloCard : Claim7 := { stood := { row := fnExactHelloRow, standIns := [], harness := (true, "1e6db55c8e1dc3c7f9c90abfb344259e30cde112a208d9154fba909e05b219c1"), looks := true }, kinds := [], alts := [], laidByText := true, laidKinds := [.sentinel], laidTests := true, laidLooks := .later }
def FnExactHelloCardSaid : Prop := Claim7.holds Tryd.pinned (.plain (OpenSpec.ofChange fnExactHelloSpec)) fnExactHelloCard

/-- THE TIED CARD OF 'laws.FnExactHelloOf'. -/
def fnExactHelloOfCard : Claim7 := { stood := { row := fnExactHelloOfRow, standIns := [], harness := (true, "1e6db55c8e1dc3c7f9c90abfb344259e30cde112a208d9154fba909e05b219c1"), looks := true }, kinds := [], alts := [], laidByText := true, laidKinds := [.sentinel], laidTests := true, laidLooks := .later }
def FnExactHelloOfCardSaid : Prop := Claim7.holds Tryd.pinned (.plain (OpenSpec.ofChange fnExactHelloOfSpec)) fnExactHelloOfCard

/-- THE TIED CARD OF 'laws.FnExactDone'. -/
def fnExactDoneCard : Claim7 := { stood := { row := fnExactDoneRow, standIns := [], harness := (true, "1e6db55c8e1dc3c7f9c90abfb344259e30cde112a208d9154fba909e05b219c1"), looks := true }, kinds := [], alts := [], laidByText := true, laidKinds := [.data, .data, .data, .sentinel], laidTests := true, laidLooks := .later }
def FnExactDoneCardSaid : Prop := Claim7.holds Tryd.pinned (.plain (OpenSpec.ofChange fnExactDoneSpec)) fnExactDoneCard

/-- THE SECOND FORM's CARD OF 'laws.FnExactGreeting'. -/
def fnExactGreetingUptoCard : Claim7 := { stood := { row := fnExactGreetingUptoRow, standIns := [], harness := (true, "1e6db55c8e1dc3c7f9c90abfb344259e30cde112a208d9154fba909e05b219c1"), looks := true }, kinds := [], alts := [], laidByText := true, laidKinds := [.sentinel], laidTests := true, laidLooks := .later }
def FnExactGreetingUptoCardSaid : Prop := Claim7.holds Tryd.pinned (.plain (OpenSpec.upto fnExactGreetingSpec)) fnExactGreetingUptoCard

/-- THE SECOND FORM's CARD OF 'laws.FnExactBoth'. -/
def fnExactBothUptoCard : Claim7 := { stood := { row := fnExactBothUptoRow, standIns := [], harness := (true, "1e6db55c8e1dc3c7f9c90abfb344259e30cde112a208d9154fba909e05b219c1"), looks := true }, kinds := [], alts := [], laidByText := true, laidKinds := [.sentinel], laidTests := true, laidLooks := .later }
def FnExactBothUptoCardSaid : Prop := Claim7.holds Tryd.pinned (.plain (OpenSpec.upto fnExactBothSpec)) fnExactBothUptoCard

/-- THE SECOND FORM's CARD OF 'laws.FnExactHello'. -/
def fnExactHelloUptoCard : Claim7 := { stood := { row := fnExactHelloUptoRow, standIns := [], harness := (true, "1e6db55c8e1dc3c7f9c90abfb344259e30cde112a208d9154fba909e05b219c1"), looks := true }, kinds := [], alts := [], laidByText := true, laidKinds := [.sentinel], laidTests := true, laidLooks := .later }
def FnExactHelloUptoCardSaid : Prop := Claim7.holds Tryd.pinned (.plain (OpenSpec.upto fnExactHelloSpec)) fnExactHelloUptoCard

/-- THE SECOND FORM's CARD OF 'laws.FnExactHelloOf'. -/
def fnExactHelloOfUptoCard : Claim7 := { stood := { row := fnExactHelloOfUptoRow, standIns := [], harness := (true, "1e6db55c8e1dc3c7f9c90abfb344259e30cde112a208d9154fba909e05b219c1"), looks := true }, kinds := [], alts := [], laidByText := true, laidKinds := [.sentinel], laidTests := true, laidLooks := .later }
def FnExactHelloOfUptoCardSaid : Prop := Claim7.holds Tryd.pinned (.plain (OpenSpec.upto fnExactHelloOfSpec)) fnExactHelloOfUptoCard

/-- THE SECOND FORM's CARD OF 'laws.FnExactDone'. -/
def fnExactDoneUptoCard : Claim7 := { stood := { row := fnExactDoneUptoRow, standIns := [], harness := (true, "1e6db55c8e1dc3c7f9c90abfb344259e30cde112a208d9154fba909e05b219c1"), looks := true }, kinds := [], alts := [], laidByText := true, laidKinds := [.data, .data, .data, .sentinel], laidTests := true, laidLooks := .later }
def FnExactDoneUptoCardSaid : Prop := Claim7.holds Tryd.pinned (.plain (OpenSpec.upto fnExactDoneSpec)) fnExactDoneUptoCard
end Rows
end Go.Proofs.YtgondlbejligmaaDoor
