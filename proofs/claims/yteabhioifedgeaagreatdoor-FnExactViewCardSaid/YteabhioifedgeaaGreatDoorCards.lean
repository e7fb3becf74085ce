/-
  DERIVED. GIVEN WITH THE SEED: THE CARDS: each row of YteabhioifedgeaaGreatDoorRows.lean that lists a variable, with what it lists TIED to the program's text (the seventh form; the later family's looks); each row that meets fmt, with fmt's text TOLD by the authors' own Lean function (tested against real Go, not proved from fmt's source: count such statements apart). THE CARD IS WHAT COUNTS. Prove the row's statement (the work); the ties are given (YteabhioifedgeaaGreatDoorTie.lean); close each card by the builder's one call (the guide's Derived/Test/ToyasCard.lean, 'card_holds'). Laid BY PROGRAM, IN A SANDBOX (cutbox-door.mjs). By AI agents, Wed Nov 11 2026. No macro, syntax, notation, axiom, sorry.
-/
import Derived.Test.YteabhioifedgeaaGreatDoorRows
import GoSem.ClaimSeven
namespace Go.Proofs.YteabhioifedgeaaGreatDoor
namespace Rows

/-- THE TIED CARD OF 'laws.FnStreamed'. -/
def fnStreamedCard : Claim7 := { stood := { row := fnStreamedRow, standIns := [], harness := (true, "2f6b685433177d5d50843e68cdfede3a5928b090fde31c6bd6f83d9ae60205a8"), looks := true }, kinds := [], alts := [], laidByText := true, laidKinds := [.data, .data, .pinned], laidTests := true, laidLooks := .later }
def FnStreamedCardSaid : Prop := Claim7.holds Tryz.pinned (.plain (OpenSpec.ofChange fnStreamedSpec)) fnStreamedCard

/-- THE TIED CARD OF 'laws.FnExactFeed'. -/
def fnExactFeedCard : Claim7 := { stood := { row := fnExactFeedRow, standIns := [], harness := (true, "2f6b685433177d5d50843e68cdfede3a5928b090fde31c6bd6f83d9ae60205a8"), looks := true }, kinds := [], alts := [], laidByText := true, laidKinds := [.data, .data, .pinned], laidTests := true, laidLooks := .later }
def FnExactFeedCardSaid : Prop := Claim7.holds Tryz.pinned (.plain (OpenSpec.ofChange fnExactFeedSpec)) fnExactFeedCard

/-- THE TIED CARD OF 'laws.FnDrawn'. -/
def fnDrawnCard : Claim7 := { stood := { row := fnDrawnRow, standIns := [], harness := (true, "2f6b685433177d5d50843e68cdfede3a5928b090fde31c6bd6f83d9ae60205a8"), looks := true }, kinds := [], alts := [], laidByText := true, laidKinds := [.data, .data, .data, .data, .data, .pinned], laidTests := true, laidLooks := .later }
def FnDrawnCardSaid : Prop := Claim7.holds Tryz.pinned (.plain (OpenSpec.ofChange fnDrawnSpec)) fnDrawnCard

/-- THE TIED CARD OF 'laws.FnExactNewSession'. -/
def fnExactNewSessionCard : Claim7 := { stood := { row := fnExactNewSessionRow, standIns := [], harness := (true, "2f6b685433177d5d50843e68cdfede3a5928b090fde31c6bd6f83d9ae60205a8"), looks := true }, kinds := [], alts := [], laidByText := true, laidKinds := [.data, .data, .data, .data, .data, .pinned], laidTests := true, laidLooks := .later }
def FnExactNewSessionCardSaid : Prop := Claim7.holds Tryz.pinned (.plain (OpenSpec.ofChange fnExactNewSessionSpec)) fnExactNewSessionCard

/-- THE TIED CARD OF 'laws.FnExactView'. -/
def fnExactViewCard : Claim7 := { stood := { row := fnExactViewRow, standIns := [], harness := (true, "2f6b685433177d5d50843e68cdfede3a5928b090fde31c6bd6f83d9ae60205a8"), looks := true }, kinds := [], alts := [], laidByText := true, laidKinds := [.data, .data, .pinned], laidTests := true, laidLooks := .later }
def FnExactViewCardSaid : Prop := Claim7.holds Tryz.pinned (.plain (OpenSpec.ofChange fnExactViewSpec)) fnExactViewCard

/-- THE TIED CARD OF 'laws.FnExactStop'. -/
def fnExactStopCard : Claim7 := { stood := { row := fnExactStopRow, standIns := [], harness := (true, "2f6b685433177d5d50843e68cdfede3a5928b090fde31c6bd6f83d9ae60205a8"), looks := true }, kinds := [], alts := [], laidByText := true, laidKinds := [.data, .data, .data, .data, .data, .pinned], laidTests := true, laidLooks := .later }
def FnExactStopCardSaid : Prop := Claim7.holds Tryz.pinned (.plain (OpenSpec.ofChange fnExactStopSpec)) fnExactStopCard

/-- THE SECOND FORM's CARD OF 'laws.FnStreamed'. -/
def fnStreamedUptoCard : Claim7 := { stood := { row := fnStreamedUptoRow, standIns := [], harness := (true, "2f6b685433177d5d50843e68cdfede3a5928b090fde31c6bd6f83d9ae60205a8"), looks := true }, kinds := [], alts := [], laidByText := true, laidKinds := [.data, .data, .pinned], laidTests := true, laidLooks := .later }
def FnStreamedUptoCardSaid : Prop := Claim7.holds Tryz.pinned (.plain (OpenSpec.upto fnStreamedSpec)) fnStreamedUptoCard

/-- THE SECOND FORM's CARD OF 'laws.FnExactFeed'. -/
def fnExactFeedUptoCard : Claim7 := { stood := { row := fnExactFeedUptoRow, standIns := [], harness := (true, "2f6b685433177d5d50843e68cdfede3a5928b090fde31c6bd6f83d9ae60205a8"), looks := true }, kinds := [], alts := [], laidByText := true, laidKinds := [.data, .data, .pinned], laidTests := true, laidLooks := .later }
def FnExactFeedUptoCardSaid : Prop := Claim7.holds Tryz.pinned (.plain (OpenSpec.upto fnExactFeedSpec)) fnExactFeedUptoCard

/-- THE SECOND FORM's CARD OF 'laws.FnDrawn'. -/
def fnDrawnUptoCard : Claim7 := { stood := { row := fnDrawnUptoRow, standIns := [], harness := (true, "2f6b685433177d5d50843e68cdfede3a5928b090fde31c6bd6f83d9ae60205a8"), looks := true }, kinds := [], alts := [], laidByText := true, laidKinds := [.data, .data, .data, .data, .data, .pinned], laidTests := true, laidLooks := .later }
def FnDrawnUptoCardSaid : Prop := Claim7.holds Tryz.pinned (.plain (OpenSpec.upto fnDrawnSpec)) fnDrawnUptoCard

/-- THE SECOND FORM's CARD OF 'laws.FnExactNewSession'. -/
def fnExactNewSessionUptoCard : Claim7 := { stood := { row := fnExactNewSessionUptoRow, standIns := [], harness := (true, "2f6b685433177d5d50843e68cdfede3a5928b090fde31c6bd6f83d9ae60205a8"), looks := true }, kinds := [], alts := [], laidByText := true, laidKinds := [.data, .data, .data, .data, .data, .pinned], laidTests := true, laidLooks := .later }
def FnExactNewSessionUptoCardSaid : Prop := Claim7.holds Tryz.pinned (.plain (OpenSpec.upto fnExactNewSessionSpec)) fnExactNewSessionUptoCard

/-- THE SECOND FORM's CARD OF 'laws.FnExactView'. -/
def fnExactViewUptoCard : Claim7 := { stood := { row := fnExactViewUptoRow, standIns := [], harness := (true, "2f6b685433177d5d50843e68cdfede3a5928b090fde31c6bd6f83d9ae60205a8"), looks := true }, kinds := [], alts := [], laidByText := true, laidKinds := [.data, .data, .pinned], laidTests := true, laidLooks := .later }
def FnExactViewUptoCardSaid : Prop := Claim7.holds Tryz.pinned (.plain (OpenSpec.upto fnExactViewSpec)) fnExactViewUptoCard

/-- THE SECOND FORM's CARD OF 'laws.FnExactStop'. -/
def fnExactStopUptoCard : Claim7 := { stood := { row := fnExactStopUptoRow, standIns := [], harness := (true, "2f6b685433177d5d50843e68cdfede3a5928b090fde31c6bd6f83d9ae60205a8"), looks := true }, kinds := [], alts := [], laidByText := true, laidKinds := [.data, .data, .data, .data, .data, .pinned], laidTests := true, laidLooks := .later }
def FnExactStopUptoCardSaid : Prop := Claim7.holds Tryz.pinned (.plain (OpenSpec.upto fnExactStopSpec)) fnExactStopUptoCard
end Rows
end Go.Proofs.YteabhioifedgeaaGreatDoor
