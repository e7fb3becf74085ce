/-
  DERIVED. GIVEN WITH THE SEED: THE CARDS: each row of YtlnmpbdnmlpkiaaDoorRows.lean that lists a variable, with what it lists TIED to the program's text (the seventh form; the later family's looks); each row that meets fmt, with fmt's text TOLD by the authors' own Lean function (tested against real Go, not proved from fmt's source: count such statements apart). THE CARD IS WHAT COUNTS. Prove the row's statement (the work); the ties are given (YtlnmpbdnmlpkiaaDoorTie.lean); close each card by the builder's one call (the guide's Derived/Test/ToyasCard.lean, 'card_holds'). Laid BY PROGRAM, IN A SANDBOX (cutbox-door.mjs). By AI agents, Wed Nov 11 2026. No macro, syntax, notation, axiom, sorry.
-/
import Derived.Test.YtlnmpbdnmlpkiaaDoorRows
import GoSem.ClaimSeven
namespace Go.Proofs.YtlnmpbdnmlpkiaaDoor
namespace Rows

/-- THE TIED CARD OF 'laws.FnExactLines'. -/
def fnExactLinesCard : Claim7 := { stood := { row := fnExactLinesRow, standIns := [], harness := (true, "459f5807b27731ceb0cf85dc7e090c08ea768b94aacaedbad782afac3339cd1d"), looks := false }, kinds := [], alts := [], laidByText := true, laidKinds := [.data, .pinned], laidTests := true, laidLooks := .later }
def FnExactLinesCardSaid : Prop := Claim7.holds Tryd.pinned (.plain (OpenSpec.ofChange fnExactLinesSpec)) fnExactLinesCard

/-- THE TIED CARD OF 'laws.FnHistory'. -/
def fnHistoryCard : Claim7 := { stood := { row := fnHistoryRow, standIns := [], harness := (true, "459f5807b27731ceb0cf85dc7e090c08ea768b94aacaedbad782afac3339cd1d"), looks := false }, kinds := [], alts := [], laidByText := true, laidKinds := [.data, .data, .pinned], laidTests := true, laidLooks := .later }
def FnHistoryCardSaid : Prop := Claim7.holds Tryd.pinned (.plain (OpenSpec.ofChange fnHistorySpec)) fnHistoryCard

/-- THE TIED CARD OF 'laws.FnExactSetText'. -/
def fnExactSetTextCard : Claim7 := { stood := { row := fnExactSetTextRow, standIns := [], harness := (true, "459f5807b27731ceb0cf85dc7e090c08ea768b94aacaedbad782afac3339cd1d"), looks := false }, kinds := [], alts := [], laidByText := true, laidKinds := [.data, .data, .pinned], laidTests := true, laidLooks := .later }
def FnExactSetTextCardSaid : Prop := Claim7.holds Tryd.pinned (.plain (OpenSpec.ofChange fnExactSetTextSpec)) fnExactSetTextCard

/-- THE TIED CARD OF 'laws.FnExactLayout'. -/
def fnExactLayoutCard : Claim7 := { stood := { row := fnExactLayoutRow, standIns := [], harness := (true, "459f5807b27731ceb0cf85dc7e090c08ea768b94aacaedbad782afac3339cd1d"), looks := false }, kinds := [], alts := [], laidByText := true, laidKinds := [.data], laidTests := true, laidLooks := .later }
def FnExactLayoutCardSaid : Prop := Claim7.holds Tryd.pinned (.plain (OpenSpec.ofChange fnExactLayoutSpec)) fnExactLayoutCard

/-- THE TIED CARD OF 'laws.FnExactResize'. -/
def fnExactResizeCard : Claim7 := { stood := { row := fnExactResizeRow, standIns := [], harness := (true, "459f5807b27731ceb0cf85dc7e090c08ea768b94aacaedbad782afac3339cd1d"), looks := false }, kinds := [], alts := [], laidByText := true, laidKinds := [.data, .pinned], laidTests := true, laidLooks := .later }
def FnExactResizeCardSaid : Prop := Claim7.holds Tryd.pinned (.plain (OpenSpec.ofChange fnExactResizeSpec)) fnExactResizeCard

/-- THE TIED CARD OF 'laws.FnExactSessionOk'. -/
def fnExactSessionOkCard : Claim7 := { stood := { row := fnExactSessionOkRow, standIns := [], harness := (true, "459f5807b27731ceb0cf85dc7e090c08ea768b94aacaedbad782afac3339cd1d"), looks := false }, kinds := [], alts := [], laidByText := true, laidKinds := [.data, .data, .pinned], laidTests := true, laidLooks := .later }
def FnExactSessionOkCardSaid : Prop := Claim7.holds Tryd.pinned (.plain (OpenSpec.ofChange fnExactSessionOkSpec)) fnExactSessionOkCard

/-- THE SECOND FORM's CARD OF 'laws.FnExactLines'. -/
def fnExactLinesUptoCard : Claim7 := { stood := { row := fnExactLinesUptoRow, standIns := [], harness := (true, "459f5807b27731ceb0cf85dc7e090c08ea768b94aacaedbad782afac3339cd1d"), looks := false }, kinds := [], alts := [], laidByText := true, laidKinds := [.data, .pinned], laidTests := true, laidLooks := .later }
def FnExactLinesUptoCardSaid : Prop := Claim7.holds Tryd.pinned (.plain (OpenSpec.upto fnExactLinesSpec)) fnExactLinesUptoCard

/-- THE SECOND FORM's CARD OF 'laws.FnHistory'. -/
def fnHistoryUptoCard : Claim7 := { stood := { row := fnHistoryUptoRow, standIns := [], harness := (true, "459f5807b27731ceb0cf85dc7e090c08ea768b94aacaedbad782afac3339cd1d"), looks := false }, kinds := [], alts := [], laidByText := true, laidKinds := [.data, .data, .pinned], laidTests := true, laidLooks := .later }
def FnHistoryUptoCardSaid : Prop := Claim7.holds Tryd.pinned (.plain (OpenSpec.upto fnHistorySpec)) fnHistoryUptoCard

/-- THE SECOND FORM's CARD OF 'laws.FnExactSetText'. -/
def fnExactSetTextUptoCard : Claim7 := { stood := { row := fnExactSetTextUptoRow, standIns := [], harness := (true, "459f5807b27731ceb0cf85dc7e090c08ea768b94aacaedbad782afac3339cd1d"), looks := false }, kinds := [], alts := [], laidByText := true, laidKinds := [.data, .data, .pinned], laidTests := true, laidLooks := .later }
def FnExactSetTextUptoCardSaid : Prop := Claim7.holds Tryd.pinned (.plain (OpenSpec.upto fnExactSetTextSpec)) fnExactSetTextUptoCard

/-- THE SECOND FORM's CARD OF 'laws.FnExactLayout'. -/
def fnExactLayoutUptoCard : Claim7 := { stood := { row := fnExactLayoutUptoRow, standIns := [], harness := (true, "459f5807b27731ceb0cf85dc7e090c08ea768b94aacaedbad782afac3339cd1d"), looks := false }, kinds := [], alts := [], laidByText := true, laidKinds := [.data], laidTests := true, laidLooks := .later }
def FnExactLayoutUptoCardSaid : Prop := Claim7.holds Tryd.pinned (.plain (OpenSpec.upto fnExactLayoutSpec)) fnExactLayoutUptoCard

/-- THE SECOND FORM's CARD OF 'laws.FnExactResize'. -/
def fnExactResizeUptoCard : Claim7 := { stood := { row := fnExactResizeUptoRow, standIns := [], harness := (true, "459f5807b27731ceb0cf85dc7e090c08ea768b94aacaedbad782afac3339cd1d"), looks := false }, kinds := [], alts := [], laidByText := true, laidKinds := [.data, .pinned], laidTests := true, laidLooks := .later }
def FnExactResizeUptoCardSaid : Prop := Claim7.holds Tryd.pinned (.plain (OpenSpec.upto fnExactResizeSpec)) fnExactResizeUptoCard

/-- THE SECOND FORM's CARD OF 'laws.FnExactSessionOk'. -/
def fnExactSessionOkUptoCard : Claim7 := { stood := { row := fnExactSessionOkUptoRow, standIns := [], harness := (true, "459f5807b27731ceb0cf85dc7e090c08ea768b94aacaedbad782afac3339cd1d"), looks := false }, kinds := [], alts := [], laidByText := true, laidKinds := [.data, .data, .pinned], laidTests := true, laidLooks := .later }
def FnExactSessionOkUptoCardSaid : Prop := Claim7.holds Tryd.pinned (.plain (OpenSpec.upto fnExactSessionOkSpec)) fnExactSessionOkUptoCard
end Rows
end Go.Proofs.YtlnmpbdnmlpkiaaDoor
