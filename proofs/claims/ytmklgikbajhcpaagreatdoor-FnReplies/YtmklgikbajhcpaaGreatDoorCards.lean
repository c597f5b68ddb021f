/-
  DERIVED. GIVEN WITH THE SEED: THE CARDS: each row of YtmklgikbajhcpaaGreatDoorRows.lean that lists a variable, with what it lists TIED to the program's text (the seventh form; the later family's looks); each row that meets fmt, with fmt's text TOLD by the authors' own Lean function (tested against real Go, not proved from fmt's source: count such statements apart). THE CARD IS WHAT COUNTS. Prove the row's statement (the work); the ties are given (YtmklgikbajhcpaaGreatDoorTie.lean); close each card by the builder's one call (the guide's Derived/Test/ToyasCard.lean, 'card_holds'). Laid BY PROGRAM, IN A SANDBOX (cutbox-door.mjs). By AI agents, Wed Nov 11 2026. No macro, syntax, notation, axiom, sorry.
-/
import Derived.Test.YtmklgikbajhcpaaGreatDoorRows
import GoSem.ClaimSeven
namespace Go.Proofs.YtmklgikbajhcpaaGreatDoor
namespace Rows

/-- THE TIED CARD OF 'laws.FnExactProved'. -/
def fnExactProvedCard : Claim7 := { stood := { row := fnExactProvedRow, standIns := [], harness := (true, "e8177ddee3f55aa707513c47d48fb0d87aa2972828b52ff62a33273e57772c3c"), looks := true }, kinds := [], alts := [], laidByText := true, laidKinds := [.data, .data, .data, .sentinel, .sentinel, .sentinel], laidTests := true, laidLooks := .later }
def FnExactProvedCardSaid : Prop := Claim7.holds Tryz.pinned (.plain (OpenSpec.ofChange fnExactProvedSpec)) fnExactProvedCard

/-- THE TIED CARD OF 'laws.FnReplies'. -/
def fnRepliesCard : Claim7 := { stood := { row := fnRepliesRow, standIns := [], harness := (true, "e8177ddee3f55aa707513c47d48fb0d87aa2972828b52ff62a33273e57772c3c"), looks := true }, kinds := [], alts := [], laidByText := true, laidKinds := [.data, .data, .data, .sentinel, .sentinel, .sentinel], laidTests := true, laidLooks := .later }
def FnRepliesCardSaid : Prop := Claim7.holds Tryz.pinned (.plain (OpenSpec.ofChange fnRepliesSpec)) fnRepliesCard

/-- THE TIED CARD OF 'laws.FnExactCertTerm'. -/
def fnExactCertTermCard : Claim7 := { stood := { row := fnExactCertTermRow, standIns := [], harness := (true, "e8177ddee3f55aa707513c47d48fb0d87aa2972828b52ff62a33273e57772c3c"), looks := true }, kinds := [], alts := [], laidByText := true, laidKinds := [.data, .data, .data, .sentinel], laidTests := true, laidLooks := .later }
def FnExactCertTermCardSaid : Prop := Claim7.holds Tryz.pinned (.plain (OpenSpec.ofChange fnExactCertTermSpec)) fnExactCertTermCard

/-- THE TIED CARD OF 'laws.FnExactCertOf'. -/
def fnExactCertOfCard : Claim7 := { stood := { row := fnExactCertOfRow, standIns := [], harness := (true, "e8177ddee3f55aa707513c47d48fb0d87aa2972828b52ff62a33273e57772c3c"), looks := true }, kinds := [], alts := [], laidByText := true, laidKinds := [.data, .data, .data, .sentinel, .sentinel, .sentinel], laidTests := true, laidLooks := .later }
def FnExactCertOfCardSaid : Prop := Claim7.holds Tryz.pinned (.plain (OpenSpec.ofChange fnExactCertOfSpec)) fnExactCertOfCard

/-- THE TIED CARD OF 'laws.FnExactCertGood'. -/
def fnExactCertGoodCard : Claim7 := { stood := { row := fnExactCertGoodRow, standIns := [], harness := (true, "e8177ddee3f55aa707513c47d48fb0d87aa2972828b52ff62a33273e57772c3c"), looks := true }, kinds := [], alts := [], laidByText := true, laidKinds := [.data, .data, .data, .sentinel, .sentinel, .sentinel], laidTests := true, laidLooks := .later }
def FnExactCertGoodCardSaid : Prop := Claim7.holds Tryz.pinned (.plain (OpenSpec.ofChange fnExactCertGoodSpec)) fnExactCertGoodCard

/-- THE TIED CARD OF 'laws.FnCerts'. -/
def fnCertsCard : Claim7 := { stood := { row := fnCertsRow, standIns := [], harness := (true, "e8177ddee3f55aa707513c47d48fb0d87aa2972828b52ff62a33273e57772c3c"), looks := true }, kinds := [], alts := [], laidByText := true, laidKinds := [.data, .data, .data, .sentinel, .sentinel, .sentinel], laidTests := true, laidLooks := .later }
def FnCertsCardSaid : Prop := Claim7.holds Tryz.pinned (.plain (OpenSpec.ofChange fnCertsSpec)) fnCertsCard

/-- THE SECOND FORM's CARD OF 'laws.FnExactProved'. -/
def fnExactProvedUptoCard : Claim7 := { stood := { row := fnExactProvedUptoRow, standIns := [], harness := (true, "e8177ddee3f55aa707513c47d48fb0d87aa2972828b52ff62a33273e57772c3c"), looks := true }, kinds := [], alts := [], laidByText := true, laidKinds := [.data, .data, .data, .sentinel, .sentinel, .sentinel], laidTests := true, laidLooks := .later }
def FnExactProvedUptoCardSaid : Prop := Claim7.holds Tryz.pinned (.plain (OpenSpec.upto fnExactProvedSpec)) fnExactProvedUptoCard

/-- THE SECOND FORM's CARD OF 'laws.FnReplies'. -/
def fnRepliesUptoCard : Claim7 := { stood := { row := fnRepliesUptoRow, standIns := [], harness := (true, "e8177ddee3f55aa707513c47d48fb0d87aa2972828b52ff62a33273e57772c3c"), looks := true }, kinds := [], alts := [], laidByText := true, laidKinds := [.data, .data, .data, .sentinel, .sentinel, .sentinel], laidTests := true, laidLooks := .later }
def FnRepliesUptoCardSaid : Prop := Claim7.holds Tryz.pinned (.plain (OpenSpec.upto fnRepliesSpec)) fnRepliesUptoCard

/-- THE SECOND FORM's CARD OF 'laws.FnExactCertTerm'. -/
def fnExactCertTermUptoCard : Claim7 := { stood := { row := fnExactCertTermUptoRow, standIns := [], harness := (true, "e8177ddee3f55aa707513c47d48fb0d87aa2972828b52ff62a33273e57772c3c"), looks := true }, kinds := [], alts := [], laidByText := true, laidKinds := [.data, .data, .data, .sentinel], laidTests := true, laidLooks := .later }
def FnExactCertTermUptoCardSaid : Prop := Claim7.holds Tryz.pinned (.plain (OpenSpec.upto fnExactCertTermSpec)) fnExactCertTermUptoCard

/-- THE SECOND FORM's CARD OF 'laws.FnExactCertOf'. -/
def fnExactCertOfUptoCard : Claim7 := { stood := { row := fnExactCertOfUptoRow, standIns := [], harness := (true, "e8177ddee3f55aa707513c47d48fb0d87aa2972828b52ff62a33273e57772c3c"), looks := true }, kinds := [], alts := [], laidByText := true, laidKinds := [.data, .data, .data, .sentinel, .sentinel, .sentinel], laidTests := true, laidLooks := .later }
def FnExactCertOfUptoCardSaid : Prop := Claim7.holds Tryz.pinned (.plain (OpenSpec.upto fnExactCertOfSpec)) fnExactCertOfUptoCard

/-- THE SECOND FORM's CARD OF 'laws.FnExactCertGood'. -/
def fnExactCertGoodUptoCard : Claim7 := { stood := { row := fnExactCertGoodUptoRow, standIns := [], harness := (true, "e8177ddee3f55aa707513c47d48fb0d87aa2972828b52ff62a33273e57772c3c"), looks := true }, kinds := [], alts := [], laidByText := true, laidKinds := [.data, .data, .data, .sentinel, .sentinel, .sentinel], laidTests := true, laidLooks := .later }
def FnExactCertGoodUptoCardSaid : Prop := Claim7.holds Tryz.pinned (.plain (OpenSpec.upto fnExactCertGoodSpec)) fnExactCertGoodUptoCard

/-- THE SECOND FORM's CARD OF 'laws.FnCerts'. -/
def fnCertsUptoCard : Claim7 := { stood := { row := fnCertsUptoRow, standIns := [], harness := (true, "e8177ddee3f55aa707513c47d48fb0d87aa2972828b52ff62a33273e57772c3c"), looks := true }, kinds := [], alts := [], laidByText := true, laidKinds := [.data, .data, .data, .sentinel, .sentinel, .sentinel], laidTests := true, laidLooks := .later }
def FnCertsUptoCardSaid : Prop := Claim7.holds Tryz.pinned (.plain (OpenSpec.upto fnCertsSpec)) fnCertsUptoCard
end Rows
end Go.Proofs.YtmklgikbajhcpaaGreatDoor
