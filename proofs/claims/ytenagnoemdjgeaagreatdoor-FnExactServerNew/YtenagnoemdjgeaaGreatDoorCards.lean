/-
  DERIVED. GIVEN WITH THE SEED: THE CARDS: each row of YtenagnoemdjgeaaGreatDoorRows.lean that lists a variable, with what it lists TIED to the program's text (the seventh form; the later family's looks); each row that meets fmt, with fmt's text TOLD by the authors' own Lean function (tested against real Go, not proved from fmt's source: count such statements apart). THE CARD IS WHAT COUNTS. Prove the row's statement (the work); the ties are given (YtenagnoemdjgeaaGreatDoorTie.lean); close each card by the builder's one call (the guide's Derived/Test/ToyasCard.lean, 'card_holds'). Laid BY PROGRAM, IN A SANDBOX (cutbox-door.mjs). By AI agents, Wed Nov 11 2026. No macro, syntax, notation, axiom, sorry.
-/
import Derived.Test.YtenagnoemdjgeaaGreatDoorRows
import GoSem.ClaimSeven
namespace Go.Proofs.YtenagnoemdjgeaaGreatDoor
namespace Rows

/-- THE TIED CARD OF 'laws.FnExactServerNew'. -/
def fnExactServerNewCard : Claim7 := { stood := { row := fnExactServerNewRow, standIns := [], harness := (true, "efd8f7691eb070ef205b2ebc06162fee9978becef4550c88941a804f1f5a7b3e"), looks := true }, kinds := [], alts := [], laidByText := true, laidKinds := [.data, .data, .data, .sentinel], laidTests := true, laidLooks := .later }
def FnExactServerNewCardSaid : Prop := Claim7.holds Tryz.pinned (.plain (OpenSpec.ofChange fnExactServerNewSpec)) fnExactServerNewCard

/-- THE TIED CARD OF 'laws.FnExactCertTerm'. -/
def fnExactCertTermCard : Claim7 := { stood := { row := fnExactCertTermRow, standIns := [], harness := (true, "efd8f7691eb070ef205b2ebc06162fee9978becef4550c88941a804f1f5a7b3e"), looks := true }, kinds := [], alts := [], laidByText := true, laidKinds := [.data, .data, .data, .sentinel], laidTests := true, laidLooks := .later }
def FnExactCertTermCardSaid : Prop := Claim7.holds Tryz.pinned (.plain (OpenSpec.ofChange fnExactCertTermSpec)) fnExactCertTermCard

/-- THE TIED CARD OF 'laws.FnExactReply'. -/
def fnExactReplyCard : Claim7 := { stood := { row := fnExactReplyRow, standIns := [], harness := (true, "efd8f7691eb070ef205b2ebc06162fee9978becef4550c88941a804f1f5a7b3e"), looks := true }, kinds := [], alts := [], laidByText := true, laidKinds := [.data, .data, .data, .sentinel], laidTests := true, laidLooks := .later }
def FnExactReplyCardSaid : Prop := Claim7.holds Tryz.pinned (.plain (OpenSpec.ofChange fnExactReplySpec)) fnExactReplyCard

/-- THE TIED CARD OF 'laws.FnExactReplyOf'. -/
def fnExactReplyOfCard : Claim7 := { stood := { row := fnExactReplyOfRow, standIns := [], harness := (true, "efd8f7691eb070ef205b2ebc06162fee9978becef4550c88941a804f1f5a7b3e"), looks := true }, kinds := [], alts := [], laidByText := true, laidKinds := [.data, .data, .data, .sentinel], laidTests := true, laidLooks := .later }
def FnExactReplyOfCardSaid : Prop := Claim7.holds Tryz.pinned (.plain (OpenSpec.ofChange fnExactReplyOfSpec)) fnExactReplyOfCard

/-- THE TIED CARD OF 'laws.FnExactProved'. -/
def fnExactProvedCard : Claim7 := { stood := { row := fnExactProvedRow, standIns := [], harness := (true, "efd8f7691eb070ef205b2ebc06162fee9978becef4550c88941a804f1f5a7b3e"), looks := true }, kinds := [], alts := [], laidByText := true, laidKinds := [.data, .data, .data, .sentinel, .sentinel, .sentinel], laidTests := true, laidLooks := .later }
def FnExactProvedCardSaid : Prop := Claim7.holds Tryz.pinned (.plain (OpenSpec.ofChange fnExactProvedSpec)) fnExactProvedCard

/-- THE TIED CARD OF 'laws.FnReplies'. -/
def fnRepliesCard : Claim7 := { stood := { row := fnRepliesRow, standIns := [], harness := (true, "efd8f7691eb070ef205b2ebc06162fee9978becef4550c88941a804f1f5a7b3e"), looks := true }, kinds := [], alts := [], laidByText := true, laidKinds := [.data, .data, .data, .sentinel, .sentinel, .sentinel], laidTests := true, laidLooks := .later }
def FnRepliesCardSaid : Prop := Claim7.holds Tryz.pinned (.plain (OpenSpec.ofChange fnRepliesSpec)) fnRepliesCard

/-- THE SECOND FORM's CARD OF 'laws.FnExactServerNew'. -/
def fnExactServerNewUptoCard : Claim7 := { stood := { row := fnExactServerNewUptoRow, standIns := [], harness := (true, "efd8f7691eb070ef205b2ebc06162fee9978becef4550c88941a804f1f5a7b3e"), looks := true }, kinds := [], alts := [], laidByText := true, laidKinds := [.data, .data, .data, .sentinel], laidTests := true, laidLooks := .later }
def FnExactServerNewUptoCardSaid : Prop := Claim7.holds Tryz.pinned (.plain (OpenSpec.upto fnExactServerNewSpec)) fnExactServerNewUptoCard

/-- THE SECOND FORM's CARD OF 'laws.FnExactCertTerm'. -/
def fnExactCertTermUptoCard : Claim7 := { stood := { row := fnExactCertTermUptoRow, standIns := [], harness := (true, "efd8f7691eb070ef205b2ebc06162fee9978becef4550c88941a804f1f5a7b3e"), looks := true }, kinds := [], alts := [], laidByText := true, laidKinds := [.data, .data, .data, .sentinel], laidTests := true, laidLooks := .later }
def FnExactCertTermUptoCardSaid : Prop := Claim7.holds Tryz.pinned (.plain (OpenSpec.upto fnExactCertTermSpec)) fnExactCertTermUptoCard

/-- THE SECOND FORM's CARD OF 'laws.FnExactReply'. -/
def fnExactReplyUptoCard : Claim7 := { stood := { row := fnExactReplyUptoRow, standIns := [], harness := (true, "efd8f7691eb070ef205b2ebc06162fee9978becef4550c88941a804f1f5a7b3e"), looks := true }, kinds := [], alts := [], laidByText := true, laidKinds := [.data, .data, .data, .sentinel], laidTests := true, laidLooks := .later }
def FnExactReplyUptoCardSaid : Prop := Claim7.holds Tryz.pinned (.plain (OpenSpec.upto fnExactReplySpec)) fnExactReplyUptoCard

/-- THE SECOND FORM's CARD OF 'laws.FnExactReplyOf'. -/
def fnExactReplyOfUptoCard : Claim7 := { stood := { row := fnExactReplyOfUptoRow, standIns := [], harness := (true, "efd8f7691eb070ef205b2ebc06162fee9978becef4550c88941a804f1f5a7b3e"), looks := true }, kinds := [], alts := [], laidByText := true, laidKinds := [.data, .data, .data, .sentinel], laidTests := true, laidLooks := .later }
def FnExactReplyOfUptoCardSaid : Prop := Claim7.holds Tryz.pinned (.plain (OpenSpec.upto fnExactReplyOfSpec)) fnExactReplyOfUptoCard

/-- THE SECOND FORM's CARD OF 'laws.FnExactProved'. -/
def fnExactProvedUptoCard : Claim7 := { stood := { row := fnExactProvedUptoRow, standIns := [], harness := (true, "efd8f7691eb070ef205b2ebc06162fee9978becef4550c88941a804f1f5a7b3e"), looks := true }, kinds := [], alts := [], laidByText := true, laidKinds := [.data, .data, .data, .sentinel, .sentinel, .sentinel], laidTests := true, laidLooks := .later }
def FnExactProvedUptoCardSaid : Prop := Claim7.holds Tryz.pinned (.plain (OpenSpec.upto fnExactProvedSpec)) fnExactProvedUptoCard

/-- THE SECOND FORM's CARD OF 'laws.FnReplies'. -/
def fnRepliesUptoCard : Claim7 := { stood := { row := fnRepliesUptoRow, standIns := [], harness := (true, "efd8f7691eb070ef205b2ebc06162fee9978becef4550c88941a804f1f5a7b3e"), looks := true }, kinds := [], alts := [], laidByText := true, laidKinds := [.data, .data, .data, .sentinel, .sentinel, .sentinel], laidTests := true, laidLooks := .later }
def FnRepliesUptoCardSaid : Prop := Claim7.holds Tryz.pinned (.plain (OpenSpec.upto fnRepliesSpec)) fnRepliesUptoCard
end Rows
end Go.Proofs.YtenagnoemdjgeaaGreatDoor
