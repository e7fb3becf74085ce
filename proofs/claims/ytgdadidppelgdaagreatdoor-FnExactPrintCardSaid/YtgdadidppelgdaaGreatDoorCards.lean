/-
  DERIVED. GIVEN WITH THE SEED: THE CARDS: each row of YtgdadidppelgdaaGreatDoorRows.lean that lists a variable, with what it lists TIED to the program's text (the seventh form; the later family's looks); each row that meets fmt, with fmt's text TOLD by the authors' own Lean function (tested against real Go, not proved from fmt's source: count such statements apart). THE CARD IS WHAT COUNTS. Prove the row's statement (the work); the ties are given (YtgdadidppelgdaaGreatDoorTie.lean); close each card by the builder's one call (the guide's Derived/Test/ToyasCard.lean, 'card_holds'). Laid BY PROGRAM, IN A SANDBOX (cutbox-door.mjs). By AI agents, Wed Nov 11 2026. No macro, syntax, notation, axiom, sorry.
-/
import Derived.Test.YtgdadidppelgdaaGreatDoorRows
import GoSem.ClaimSeven
namespace Go.Proofs.YtgdadidppelgdaaGreatDoor
namespace Rows

/-- THE TIED CARD OF 'laws.FnExactSize'. -/
def fnExactSizeCard : Claim7 := { stood := { row := fnExactSizeRow, standIns := [], harness := (true, "c610959507ddb43fe233c8043f25c2caef24de4ffc1ed87c4a84157c1faa1702"), looks := true }, kinds := [], alts := [], laidByText := true, laidKinds := [.data, .data, .data, .data, .data, .pinned], laidTests := true, laidLooks := .later }
def FnExactSizeCardSaid : Prop := Claim7.holds Tryz.pinned (.plain (OpenSpec.ofChange fnExactSizeSpec)) fnExactSizeCard

/-- THE TIED CARD OF 'laws.FnExactContinue'. -/
def fnExactContinueCard : Claim7 := { stood := { row := fnExactContinueRow, standIns := [], harness := (true, "c610959507ddb43fe233c8043f25c2caef24de4ffc1ed87c4a84157c1faa1702"), looks := true }, kinds := [], alts := [], laidByText := true, laidKinds := [.data, .data, .data, .data, .data, .pinned], laidTests := true, laidLooks := .later }
def FnExactContinueCardSaid : Prop := Claim7.holds Tryz.pinned (.plain (OpenSpec.ofChange fnExactContinueSpec)) fnExactContinueCard

/-- THE TIED CARD OF 'laws.FnExactPrint'. -/
def fnExactPrintCard : Claim7 := { stood := { row := fnExactPrintRow, standIns := [], harness := (true, "c610959507ddb43fe233c8043f25c2caef24de4ffc1ed87c4a84157c1faa1702"), looks := true }, kinds := [], alts := [], laidByText := true, laidKinds := [.data, .data, .data, .data, .data, .pinned], laidTests := true, laidLooks := .later }
def FnExactPrintCardSaid : Prop := Claim7.holds Tryz.pinned (.plain (OpenSpec.ofChange fnExactPrintSpec)) fnExactPrintCard

/-- THE SECOND FORM's CARD OF 'laws.FnExactSize'. -/
def fnExactSizeUptoCard : Claim7 := { stood := { row := fnExactSizeUptoRow, standIns := [], harness := (true, "c610959507ddb43fe233c8043f25c2caef24de4ffc1ed87c4a84157c1faa1702"), looks := true }, kinds := [], alts := [], laidByText := true, laidKinds := [.data, .data, .data, .data, .data, .pinned], laidTests := true, laidLooks := .later }
def FnExactSizeUptoCardSaid : Prop := Claim7.holds Tryz.pinned (.plain (OpenSpec.upto fnExactSizeSpec)) fnExactSizeUptoCard

/-- THE SECOND FORM's CARD OF 'laws.FnExactContinue'. -/
def fnExactContinueUptoCard : Claim7 := { stood := { row := fnExactContinueUptoRow, standIns := [], harness := (true, "c610959507ddb43fe233c8043f25c2caef24de4ffc1ed87c4a84157c1faa1702"), looks := true }, kinds := [], alts := [], laidByText := true, laidKinds := [.data, .data, .data, .data, .data, .pinned], laidTests := true, laidLooks := .later }
def FnExactContinueUptoCardSaid : Prop := Claim7.holds Tryz.pinned (.plain (OpenSpec.upto fnExactContinueSpec)) fnExactContinueUptoCard

/-- THE SECOND FORM's CARD OF 'laws.FnExactPrint'. -/
def fnExactPrintUptoCard : Claim7 := { stood := { row := fnExactPrintUptoRow, standIns := [], harness := (true, "c610959507ddb43fe233c8043f25c2caef24de4ffc1ed87c4a84157c1faa1702"), looks := true }, kinds := [], alts := [], laidByText := true, laidKinds := [.data, .data, .data, .data, .data, .pinned], laidTests := true, laidLooks := .later }
def FnExactPrintUptoCardSaid : Prop := Claim7.holds Tryz.pinned (.plain (OpenSpec.upto fnExactPrintSpec)) fnExactPrintUptoCard
end Rows
end Go.Proofs.YtgdadidppelgdaaGreatDoor
