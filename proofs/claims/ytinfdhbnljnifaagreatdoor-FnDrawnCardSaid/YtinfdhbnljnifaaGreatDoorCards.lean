/-
  DERIVED. GIVEN WITH THE SEED: THE CARDS: each row of YtinfdhbnljnifaaGreatDoorRows.lean that lists a variable, with what it lists TIED to the program's text (the seventh form; the later family's looks); each row that meets fmt, with fmt's text TOLD by the authors' own Lean function (tested against real Go, not proved from fmt's source: count such statements apart). THE CARD IS WHAT COUNTS. Prove the row's statement (the work); the ties are given (YtinfdhbnljnifaaGreatDoorTie.lean); close each card by the builder's one call (the guide's Derived/Test/ToyasCard.lean, 'card_holds'). Laid BY PROGRAM, IN A SANDBOX (cutbox-door.mjs). By AI agents, Wed Nov 11 2026. No macro, syntax, notation, axiom, sorry.
-/
import Derived.Test.YtinfdhbnljnifaaGreatDoorRows
import GoSem.ClaimSeven
namespace Go.Proofs.YtinfdhbnljnifaaGreatDoor
namespace Rows

/-- THE TIED CARD OF 'laws.FnStreamed'. -/
def fnStreamedCard : Claim7 := { stood := { row := fnStreamedRow, standIns := [], harness := (true, "a515c3c18fbc4f531de65a79fda511526069d454627990eb22aedb58dd15a4b0"), looks := false }, kinds := [], alts := [], laidByText := true, laidKinds := [.data, .data, .pinned], laidTests := true, laidLooks := .later }
def FnStreamedCardSaid : Prop := Claim7.holds Tryz.pinned (.plain (OpenSpec.ofChange fnStreamedSpec)) fnStreamedCard

/-- THE TIED CARD OF 'laws.FnExactFeed'. -/
def fnExactFeedCard : Claim7 := { stood := { row := fnExactFeedRow, standIns := [], harness := (true, "a515c3c18fbc4f531de65a79fda511526069d454627990eb22aedb58dd15a4b0"), looks := false }, kinds := [], alts := [], laidByText := true, laidKinds := [.data, .data, .pinned], laidTests := true, laidLooks := .later }
def FnExactFeedCardSaid : Prop := Claim7.holds Tryz.pinned (.plain (OpenSpec.ofChange fnExactFeedSpec)) fnExactFeedCard

/-- THE TIED CARD OF 'laws.FnDrawn'. -/
def fnDrawnCard : Claim7 := { stood := { row := fnDrawnRow, standIns := [], harness := (true, "a515c3c18fbc4f531de65a79fda511526069d454627990eb22aedb58dd15a4b0"), looks := false }, kinds := [], alts := [], laidByText := true, laidKinds := [.data, .data, .data, .data, .data, .pinned], laidTests := true, laidLooks := .later }
def FnDrawnCardSaid : Prop := Claim7.holds Tryz.pinned (.plain (OpenSpec.ofChange fnDrawnSpec)) fnDrawnCard

/-- THE SECOND FORM's CARD OF 'laws.FnStreamed'. -/
def fnStreamedUptoCard : Claim7 := { stood := { row := fnStreamedUptoRow, standIns := [], harness := (true, "a515c3c18fbc4f531de65a79fda511526069d454627990eb22aedb58dd15a4b0"), looks := false }, kinds := [], alts := [], laidByText := true, laidKinds := [.data, .data, .pinned], laidTests := true, laidLooks := .later }
def FnStreamedUptoCardSaid : Prop := Claim7.holds Tryz.pinned (.plain (OpenSpec.upto fnStreamedSpec)) fnStreamedUptoCard

/-- THE SECOND FORM's CARD OF 'laws.FnExactFeed'. -/
def fnExactFeedUptoCard : Claim7 := { stood := { row := fnExactFeedUptoRow, standIns := [], harness := (true, "a515c3c18fbc4f531de65a79fda511526069d454627990eb22aedb58dd15a4b0"), looks := false }, kinds := [], alts := [], laidByText := true, laidKinds := [.data, .data, .pinned], laidTests := true, laidLooks := .later }
def FnExactFeedUptoCardSaid : Prop := Claim7.holds Tryz.pinned (.plain (OpenSpec.upto fnExactFeedSpec)) fnExactFeedUptoCard

/-- THE SECOND FORM's CARD OF 'laws.FnDrawn'. -/
def fnDrawnUptoCard : Claim7 := { stood := { row := fnDrawnUptoRow, standIns := [], harness := (true, "a515c3c18fbc4f531de65a79fda511526069d454627990eb22aedb58dd15a4b0"), looks := false }, kinds := [], alts := [], laidByText := true, laidKinds := [.data, .data, .data, .data, .data, .pinned], laidTests := true, laidLooks := .later }
def FnDrawnUptoCardSaid : Prop := Claim7.holds Tryz.pinned (.plain (OpenSpec.upto fnDrawnSpec)) fnDrawnUptoCard
end Rows
end Go.Proofs.YtinfdhbnljnifaaGreatDoor
