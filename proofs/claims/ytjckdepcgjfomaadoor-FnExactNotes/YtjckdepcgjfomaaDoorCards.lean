/-
  DERIVED. GIVEN WITH THE SEED: THE CARDS: each row of YtjckdepcgjfomaaDoorRows.lean that lists a variable, with what it lists TIED to the program's text (the seventh form; the later family's looks); each row that meets fmt, with fmt's text TOLD by the authors' own Lean function (tested against real Go, not proved from fmt's source: count such statements apart). THE CARD IS WHAT COUNTS. Prove the row's statement (the work); the ties are given (YtjckdepcgjfomaaDoorTie.lean); close each card by the builder's one call (the guide's Derived/Test/ToyasCard.lean, 'card_holds'). Laid BY PROGRAM, IN A SANDBOX (cutbox-door.mjs). By AI agents, Wed Nov 11 2026. No macro, syntax, notation, axiom, sorry.
-/
import Derived.Test.YtjckdepcgjfomaaDoorRows
import GoSem.ClaimSeven
namespace Go.Proofs.YtjckdepcgjfomaaDoor
namespace Rows

/-- THE TIED CARD OF 'laws.FnExactNoteText'. -/
def fnExactNoteTextCard : Claim7 := { stood := { row := fnExactNoteTextRow, standIns := [], harness := (true, "6d1280f007301fe203964171470d20d78ee30c057ffe1c3cdaeccc6e16df7dd4"), looks := true }, kinds := [], alts := [], laidByText := true, laidKinds := [.data, .data, .data], laidTests := true, laidLooks := .later }
def FnExactNoteTextCardSaid : Prop := Claim7.holds Tryd.pinned (.plain (OpenSpec.ofChange fnExactNoteTextSpec)) fnExactNoteTextCard

/-- THE TIED CARD OF 'laws.FnExactNoteOf'. -/
def fnExactNoteOfCard : Claim7 := { stood := { row := fnExactNoteOfRow, standIns := [], harness := (true, "6d1280f007301fe203964171470d20d78ee30c057ffe1c3cdaeccc6e16df7dd4"), looks := true }, kinds := [], alts := [], laidByText := true, laidKinds := [.data, .data, .data, .data, .sentinel, .sentinel, .sentinel, .pinned], laidTests := true, laidLooks := .later }
def FnExactNoteOfCardSaid : Prop := Claim7.holds Tryd.pinned (.plain (OpenSpec.ofChange fnExactNoteOfSpec)) fnExactNoteOfCard

/-- THE TIED CARD OF 'laws.FnExactNotes'. -/
def fnExactNotesCard : Claim7 := { stood := { row := fnExactNotesRow, standIns := [], harness := (true, "6d1280f007301fe203964171470d20d78ee30c057ffe1c3cdaeccc6e16df7dd4"), looks := true }, kinds := [], alts := [], laidByText := true, laidKinds := [.data, .data, .data, .data, .sentinel, .sentinel, .sentinel, .pinned], laidTests := true, laidLooks := .later }
def FnExactNotesCardSaid : Prop := Claim7.holds Tryd.pinned (.plain (OpenSpec.ofChange fnExactNotesSpec)) fnExactNotesCard

/-- THE SECOND FORM's CARD OF 'laws.FnExactNoteText'. -/
def fnExactNoteTextUptoCard : Claim7 := { stood := { row := fnExactNoteTextUptoRow, standIns := [], harness := (true, "6d1280f007301fe203964171470d20d78ee30c057ffe1c3cdaeccc6e16df7dd4"), looks := true }, kinds := [], alts := [], laidByText := true, laidKinds := [.data, .data, .data], laidTests := true, laidLooks := .later }
def FnExactNoteTextUptoCardSaid : Prop := Claim7.holds Tryd.pinned (.plain (OpenSpec.upto fnExactNoteTextSpec)) fnExactNoteTextUptoCard

/-- THE SECOND FORM's CARD OF 'laws.FnExactNoteOf'. -/
def fnExactNoteOfUptoCard : Claim7 := { stood := { row := fnExactNoteOfUptoRow, standIns := [], harness := (true, "6d1280f007301fe203964171470d20d78ee30c057ffe1c3cdaeccc6e16df7dd4"), looks := true }, kinds := [], alts := [], laidByText := true, laidKinds := [.data, .data, .data, .data, .sentinel, .sentinel, .sentinel, .pinned], laidTests := true, laidLooks := .later }
def FnExactNoteOfUptoCardSaid : Prop := Claim7.holds Tryd.pinned (.plain (OpenSpec.upto fnExactNoteOfSpec)) fnExactNoteOfUptoCard

/-- THE SECOND FORM's CARD OF 'laws.FnExactNotes'. -/
def fnExactNotesUptoCard : Claim7 := { stood := { row := fnExactNotesUptoRow, standIns := [], harness := (true, "6d1280f007301fe203964171470d20d78ee30c057ffe1c3cdaeccc6e16df7dd4"), looks := true }, kinds := [], alts := [], laidByText := true, laidKinds := [.data, .data, .data, .data, .sentinel, .sentinel, .sentinel, .pinned], laidTests := true, laidLooks := .later }
def FnExactNotesUptoCardSaid : Prop := Claim7.holds Tryd.pinned (.plain (OpenSpec.upto fnExactNotesSpec)) fnExactNotesUptoCard
end Rows
end Go.Proofs.YtjckdepcgjfomaaDoor
