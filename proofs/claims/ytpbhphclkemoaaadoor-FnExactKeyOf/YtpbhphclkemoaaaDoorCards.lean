/-
  DERIVED. GIVEN WITH THE SEED: THE CARDS: each row of YtpbhphclkemoaaaDoorRows.lean that lists a variable, with what it lists TIED to the program's text (the seventh form; the later family's looks); each row that meets fmt, with fmt's text TOLD by the authors' own Lean function (tested against real Go, not proved from fmt's source: count such statements apart). THE CARD IS WHAT COUNTS. Prove the row's statement (the work); the ties are given (YtpbhphclkemoaaaDoorTie.lean); close each card by the builder's one call (the guide's Derived/Test/ToyasCard.lean, 'card_holds'). Laid BY PROGRAM, IN A SANDBOX (cutbox-door.mjs). By AI agents, Wed Nov 11 2026. No macro, syntax, notation, axiom, sorry.
-/
import Derived.Test.YtpbhphclkemoaaaDoorRows
import GoSem.ClaimSeven
namespace Go.Proofs.YtpbhphclkemoaaaDoor
namespace Rows

/-- THE TIED CARD OF 'laws.FnExactAtom'. -/
def fnExactAtomCard : Claim7 := { stood := { row := fnExactAtomRow, standIns := [], harness := (true, "7cd446add598a6d8d481a8db29d0dc4044f5500781ef2362ebf5df4126608ab6"), looks := true }, kinds := [], alts := [], laidByText := true, laidKinds := [.sentinel], laidTests := true, laidLooks := .later }
def FnExactAtomCardSaid : Prop := Claim7.holds Tryd.pinned (.plain (OpenSpec.ofChange fnExactAtomSpec)) fnExactAtomCard

/-- THE TIED CARD OF 'laws.FnExactPair'. -/
def fnExactPairCard : Claim7 := { stood := { row := fnExactPairRow, standIns := [], harness := (true, "7cd446add598a6d8d481a8db29d0dc4044f5500781ef2362ebf5df4126608ab6"), looks := true }, kinds := [], alts := [], laidByText := true, laidKinds := [.sentinel], laidTests := true, laidLooks := .later }
def FnExactPairCardSaid : Prop := Claim7.holds Tryd.pinned (.plain (OpenSpec.ofChange fnExactPairSpec)) fnExactPairCard

/-- THE TIED CARD OF 'laws.FnExactPub'. -/
def fnExactPubCard : Claim7 := { stood := { row := fnExactPubRow, standIns := [], harness := (true, "7cd446add598a6d8d481a8db29d0dc4044f5500781ef2362ebf5df4126608ab6"), looks := true }, kinds := [], alts := [], laidByText := true, laidKinds := [.sentinel], laidTests := true, laidLooks := .later }
def FnExactPubCardSaid : Prop := Claim7.holds Tryd.pinned (.plain (OpenSpec.ofChange fnExactPubSpec)) fnExactPubCard

/-- THE TIED CARD OF 'laws.FnExactHash'. -/
def fnExactHashCard : Claim7 := { stood := { row := fnExactHashRow, standIns := [], harness := (true, "7cd446add598a6d8d481a8db29d0dc4044f5500781ef2362ebf5df4126608ab6"), looks := true }, kinds := [], alts := [], laidByText := true, laidKinds := [.sentinel], laidTests := true, laidLooks := .later }
def FnExactHashCardSaid : Prop := Claim7.holds Tryd.pinned (.plain (OpenSpec.ofChange fnExactHashSpec)) fnExactHashCard

/-- THE TIED CARD OF 'laws.FnExactSign'. -/
def fnExactSignCard : Claim7 := { stood := { row := fnExactSignRow, standIns := [], harness := (true, "7cd446add598a6d8d481a8db29d0dc4044f5500781ef2362ebf5df4126608ab6"), looks := true }, kinds := [], alts := [], laidByText := true, laidKinds := [.sentinel], laidTests := true, laidLooks := .later }
def FnExactSignCardSaid : Prop := Claim7.holds Tryd.pinned (.plain (OpenSpec.ofChange fnExactSignSpec)) fnExactSignCard

/-- THE TIED CARD OF 'laws.FnExactKeyOf'. -/
def fnExactKeyOfCard : Claim7 := { stood := { row := fnExactKeyOfRow, standIns := [], harness := (true, "7cd446add598a6d8d481a8db29d0dc4044f5500781ef2362ebf5df4126608ab6"), looks := true }, kinds := [], alts := [], laidByText := true, laidKinds := [.data, .data, .data, .sentinel], laidTests := true, laidLooks := .later }
def FnExactKeyOfCardSaid : Prop := Claim7.holds Tryd.pinned (.plain (OpenSpec.ofChange fnExactKeyOfSpec)) fnExactKeyOfCard

/-- THE SECOND FORM's CARD OF 'laws.FnExactAtom'. -/
def fnExactAtomUptoCard : Claim7 := { stood := { row := fnExactAtomUptoRow, standIns := [], harness := (true, "7cd446add598a6d8d481a8db29d0dc4044f5500781ef2362ebf5df4126608ab6"), looks := true }, kinds := [], alts := [], laidByText := true, laidKinds := [.sentinel], laidTests := true, laidLooks := .later }
def FnExactAtomUptoCardSaid : Prop := Claim7.holds Tryd.pinned (.plain (OpenSpec.upto fnExactAtomSpec)) fnExactAtomUptoCard

/-- THE SECOND FORM's CARD OF 'laws.FnExactPair'. -/
def fnExactPairUptoCard : Claim7 := { stood := { row := fnExactPairUptoRow, standIns := [], harness := (true, "7cd446add598a6d8d481a8db29d0dc4044f5500781ef2362ebf5df4126608ab6"), looks := true }, kinds := [], alts := [], laidByText := true, laidKinds := [.sentinel], laidTests := true, laidLooks := .later }
def FnExactPairUptoCardSaid : Prop := Claim7.holds Tryd.pinned (.plain (OpenSpec.upto fnExactPairSpec)) fnExactPairUptoCard

/-- THE SECOND FORM's CARD OF 'laws.FnExactPub'. -/
def fnExactPubUptoCard : Claim7 := { stood := { row := fnExactPubUptoRow, standIns := [], harness := (true, "7cd446add598a6d8d481a8db29d0dc4044f5500781ef2362ebf5df4126608ab6"), looks := true }, kinds := [], alts := [], laidByText := true, laidKinds := [.sentinel], laidTests := true, laidLooks := .later }
def FnExactPubUptoCardSaid : Prop := Claim7.holds Tryd.pinned (.plain (OpenSpec.upto fnExactPubSpec)) fnExactPubUptoCard

/-- THE SECOND FORM's CARD OF 'laws.FnExactHash'. -/
def fnExactHashUptoCard : Claim7 := { stood := { row := fnExactHashUptoRow, standIns := [], harness := (true, "7cd446add598a6d8d481a8db29d0dc4044f5500781ef2362ebf5df4126608ab6"), looks := true }, kinds := [], alts := [], laidByText := true, laidKinds := [.sentinel], laidTests := true, laidLooks := .later }
def FnExactHashUptoCardSaid : Prop := Claim7.holds Tryd.pinned (.plain (OpenSpec.upto fnExactHashSpec)) fnExactHashUptoCard

/-- THE SECOND FORM's CARD OF 'laws.FnExactSign'. -/
def fnExactSignUptoCard : Claim7 := { stood := { row := fnExactSignUptoRow, standIns := [], harness := (true, "7cd446add598a6d8d481a8db29d0dc4044f5500781ef2362ebf5df4126608ab6"), looks := true }, kinds := [], alts := [], laidByText := true, laidKinds := [.sentinel], laidTests := true, laidLooks := .later }
def FnExactSignUptoCardSaid : Prop := Claim7.holds Tryd.pinned (.plain (OpenSpec.upto fnExactSignSpec)) fnExactSignUptoCard

/-- THE SECOND FORM's CARD OF 'laws.FnExactKeyOf'. -/
def fnExactKeyOfUptoCard : Claim7 := { stood := { row := fnExactKeyOfUptoRow, standIns := [], harness := (true, "7cd446add598a6d8d481a8db29d0dc4044f5500781ef2362ebf5df4126608ab6"), looks := true }, kinds := [], alts := [], laidByText := true, laidKinds := [.data, .data, .data, .sentinel], laidTests := true, laidLooks := .later }
def FnExactKeyOfUptoCardSaid : Prop := Claim7.holds Tryd.pinned (.plain (OpenSpec.upto fnExactKeyOfSpec)) fnExactKeyOfUptoCard
end Rows
end Go.Proofs.YtpbhphclkemoaaaDoor
