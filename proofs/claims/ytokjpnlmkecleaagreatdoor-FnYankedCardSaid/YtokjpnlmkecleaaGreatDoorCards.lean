/-
  DERIVED. GIVEN WITH THE SEED: THE CARDS: each row of YtokjpnlmkecleaaGreatDoorRows.lean that lists a variable, with what it lists TIED to the program's text (the seventh form; the later family's looks); each row that meets fmt, with fmt's text TOLD by the authors' own Lean function (tested against real Go, not proved from fmt's source: count such statements apart). THE CARD IS WHAT COUNTS. Prove the row's statement (the work); the ties are given (YtokjpnlmkecleaaGreatDoorTie.lean); close each card by the builder's one call (the guide's Derived/Test/ToyasCard.lean, 'card_holds'). Laid BY PROGRAM, IN A SANDBOX (cutbox-door.mjs). By AI agents, Wed Nov 11 2026. No macro, syntax, notation, axiom, sorry.
-/
import Derived.Test.YtokjpnlmkecleaaGreatDoorRows
import GoSem.ClaimSeven
namespace Go.Proofs.YtokjpnlmkecleaaGreatDoor
namespace Rows

/-- THE TIED CARD OF 'laws.FnYanked'. -/
def fnYankedCard : Claim7 := { stood := { row := fnYankedRow, standIns := [], harness := (true, "84e9b9915dc4fa64ff06add6db7a6703563d8528340371c7e9ef2c50886b9891"), looks := false }, kinds := [], alts := [], laidByText := true, laidKinds := [.data, .data, .pinned], laidTests := true, laidLooks := .later }
def FnYankedCardSaid : Prop := Claim7.holds Tryz.pinned (.plain (OpenSpec.ofChange fnYankedSpec)) fnYankedCard

/-- THE TIED CARD OF 'laws.FnExactEdit'. -/
def fnExactEditCard : Claim7 := { stood := { row := fnExactEditRow, standIns := [], harness := (true, "84e9b9915dc4fa64ff06add6db7a6703563d8528340371c7e9ef2c50886b9891"), looks := false }, kinds := [], alts := [], laidByText := true, laidKinds := [.data, .data, .pinned], laidTests := true, laidLooks := .later }
def FnExactEditCardSaid : Prop := Claim7.holds Tryz.pinned (.plain (OpenSpec.ofChange fnExactEditSpec)) fnExactEditCard

/-- THE TIED CARD OF 'laws.FnUndone'. -/
def fnUndoneCard : Claim7 := { stood := { row := fnUndoneRow, standIns := [], harness := (true, "84e9b9915dc4fa64ff06add6db7a6703563d8528340371c7e9ef2c50886b9891"), looks := false }, kinds := [], alts := [], laidByText := true, laidKinds := [.data, .data, .pinned], laidTests := true, laidLooks := .later }
def FnUndoneCardSaid : Prop := Claim7.holds Tryz.pinned (.plain (OpenSpec.ofChange fnUndoneSpec)) fnUndoneCard

/-- THE SECOND FORM's CARD OF 'laws.FnYanked'. -/
def fnYankedUptoCard : Claim7 := { stood := { row := fnYankedUptoRow, standIns := [], harness := (true, "84e9b9915dc4fa64ff06add6db7a6703563d8528340371c7e9ef2c50886b9891"), looks := false }, kinds := [], alts := [], laidByText := true, laidKinds := [.data, .data, .pinned], laidTests := true, laidLooks := .later }
def FnYankedUptoCardSaid : Prop := Claim7.holds Tryz.pinned (.plain (OpenSpec.upto fnYankedSpec)) fnYankedUptoCard

/-- THE SECOND FORM's CARD OF 'laws.FnExactEdit'. -/
def fnExactEditUptoCard : Claim7 := { stood := { row := fnExactEditUptoRow, standIns := [], harness := (true, "84e9b9915dc4fa64ff06add6db7a6703563d8528340371c7e9ef2c50886b9891"), looks := false }, kinds := [], alts := [], laidByText := true, laidKinds := [.data, .data, .pinned], laidTests := true, laidLooks := .later }
def FnExactEditUptoCardSaid : Prop := Claim7.holds Tryz.pinned (.plain (OpenSpec.upto fnExactEditSpec)) fnExactEditUptoCard

/-- THE SECOND FORM's CARD OF 'laws.FnUndone'. -/
def fnUndoneUptoCard : Claim7 := { stood := { row := fnUndoneUptoRow, standIns := [], harness := (true, "84e9b9915dc4fa64ff06add6db7a6703563d8528340371c7e9ef2c50886b9891"), looks := false }, kinds := [], alts := [], laidByText := true, laidKinds := [.data, .data, .pinned], laidTests := true, laidLooks := .later }
def FnUndoneUptoCardSaid : Prop := Claim7.holds Tryz.pinned (.plain (OpenSpec.upto fnUndoneSpec)) fnUndoneUptoCard
end Rows
end Go.Proofs.YtokjpnlmkecleaaGreatDoor
