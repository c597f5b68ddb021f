/-
  DERIVED. GIVEN WITH THE SEED: THE CARDS: each row of YtagondlfhdfcgaaDoorRows.lean that lists a variable, with what it lists TIED to the program's text (the seventh form; the later family's looks); each row that meets fmt, with fmt's text TOLD by the authors' own Lean function (tested against real Go, not proved from fmt's source: count such statements apart). THE CARD IS WHAT COUNTS. Prove the row's statement (the work); the ties are given (YtagondlfhdfcgaaDoorTie.lean); close each card by the builder's one call (the guide's Derived/Test/ToyasCard.lean, 'card_holds'). Laid BY PROGRAM, IN A SANDBOX (cutbox-door.mjs). By AI agents, Wed Nov 11 2026. No macro, syntax, notation, axiom, sorry.
-/
import Derived.Test.YtagondlfhdfcgaaDoorRows
import GoSem.ClaimSeven
namespace Go.Proofs.YtagondlfhdfcgaaDoor
namespace Rows

/-- THE TIED CARD OF 'laws.FnExactAtom'. -/
def fnExactAtomCard : Claim7 := { stood := { row := fnExactAtomRow, standIns := [], harness := (true, "ac0daa81b4e0f428fa110507d870c79f86d5afa0e151faecc420abd79b226524"), looks := true }, kinds := [], alts := [], laidByText := true, laidKinds := [.sentinel], laidTests := true, laidLooks := .later }
def FnExactAtomCardSaid : Prop := Claim7.holds Tryd.pinned (.plain (OpenSpec.ofChange fnExactAtomSpec)) fnExactAtomCard

/-- THE TIED CARD OF 'laws.FnExactPair'. -/
def fnExactPairCard : Claim7 := { stood := { row := fnExactPairRow, standIns := [], harness := (true, "ac0daa81b4e0f428fa110507d870c79f86d5afa0e151faecc420abd79b226524"), looks := true }, kinds := [], alts := [], laidByText := true, laidKinds := [.sentinel], laidTests := true, laidLooks := .later }
def FnExactPairCardSaid : Prop := Claim7.holds Tryd.pinned (.plain (OpenSpec.ofChange fnExactPairSpec)) fnExactPairCard

/-- THE TIED CARD OF 'laws.FnExactMade'. -/
def fnExactMadeCard : Claim7 := { stood := { row := fnExactMadeRow, standIns := [], harness := (true, "ac0daa81b4e0f428fa110507d870c79f86d5afa0e151faecc420abd79b226524"), looks := true }, kinds := [], alts := [], laidByText := true, laidKinds := [.data, .data, .data, .sentinel], laidTests := true, laidLooks := .later }
def FnExactMadeCardSaid : Prop := Claim7.holds Tryd.pinned (.plain (OpenSpec.ofChange fnExactMadeSpec)) fnExactMadeCard

/-- THE TIED CARD OF 'laws.FnMaking'. -/
def fnMakingCard : Claim7 := { stood := { row := fnMakingRow, standIns := [], harness := (true, "ac0daa81b4e0f428fa110507d870c79f86d5afa0e151faecc420abd79b226524"), looks := true }, kinds := [], alts := [], laidByText := true, laidKinds := [.sentinel], laidTests := true, laidLooks := .later }
def FnMakingCardSaid : Prop := Claim7.holds Tryd.pinned (.plain (OpenSpec.ofChange fnMakingSpec)) fnMakingCard

/-- THE SECOND FORM's CARD OF 'laws.FnExactAtom'. -/
def fnExactAtomUptoCard : Claim7 := { stood := { row := fnExactAtomUptoRow, standIns := [], harness := (true, "ac0daa81b4e0f428fa110507d870c79f86d5afa0e151faecc420abd79b226524"), looks := true }, kinds := [], alts := [], laidByText := true, laidKinds := [.sentinel], laidTests := true, laidLooks := .later }
def FnExactAtomUptoCardSaid : Prop := Claim7.holds Tryd.pinned (.plain (OpenSpec.upto fnExactAtomSpec)) fnExactAtomUptoCard

/-- THE SECOND FORM's CARD OF 'laws.FnExactPair'. -/
def fnExactPairUptoCard : Claim7 := { stood := { row := fnExactPairUptoRow, standIns := [], harness := (true, "ac0daa81b4e0f428fa110507d870c79f86d5afa0e151faecc420abd79b226524"), looks := true }, kinds := [], alts := [], laidByText := true, laidKinds := [.sentinel], laidTests := true, laidLooks := .later }
def FnExactPairUptoCardSaid : Prop := Claim7.holds Tryd.pinned (.plain (OpenSpec.upto fnExactPairSpec)) fnExactPairUptoCard

/-- THE SECOND FORM's CARD OF 'laws.FnExactMade'. -/
def fnExactMadeUptoCard : Claim7 := { stood := { row := fnExactMadeUptoRow, standIns := [], harness := (true, "ac0daa81b4e0f428fa110507d870c79f86d5afa0e151faecc420abd79b226524"), looks := true }, kinds := [], alts := [], laidByText := true, laidKinds := [.data, .data, .data, .sentinel], laidTests := true, laidLooks := .later }
def FnExactMadeUptoCardSaid : Prop := Claim7.holds Tryd.pinned (.plain (OpenSpec.upto fnExactMadeSpec)) fnExactMadeUptoCard

/-- THE SECOND FORM's CARD OF 'laws.FnMaking'. -/
def fnMakingUptoCard : Claim7 := { stood := { row := fnMakingUptoRow, standIns := [], harness := (true, "ac0daa81b4e0f428fa110507d870c79f86d5afa0e151faecc420abd79b226524"), looks := true }, kinds := [], alts := [], laidByText := true, laidKinds := [.sentinel], laidTests := true, laidLooks := .later }
def FnMakingUptoCardSaid : Prop := Claim7.holds Tryd.pinned (.plain (OpenSpec.upto fnMakingSpec)) fnMakingUptoCard
end Rows
end Go.Proofs.YtagondlfhdfcgaaDoor
