/-
  DERIVED. GIVEN WITH THE SEED: THE CARDS: each row of YtmlkpdbfnffoaaaGreatDoorRows.lean that lists a variable, with what it lists TIED to the program's text (the seventh form; the later family's looks); each row that meets fmt, with fmt's text TOLD by the authors' own Lean function (tested against real Go, not proved from fmt's source: count such statements apart). THE CARD IS WHAT COUNTS. Prove the row's statement (the work); the ties are given (YtmlkpdbfnffoaaaGreatDoorTie.lean); close each card by the builder's one call (the guide's Derived/Test/ToyasCard.lean, 'card_holds'). Laid BY PROGRAM, IN A SANDBOX (cutbox-door.mjs). By AI agents, Wed Nov 11 2026. No macro, syntax, notation, axiom, sorry.
-/
import Derived.Test.YtmlkpdbfnffoaaaGreatDoorRows
import GoSem.ClaimSeven
namespace Go.Proofs.YtmlkpdbfnffoaaaGreatDoor
namespace Rows

/-- THE TIED CARD OF 'laws.FnExactWait'. -/
def fnExactWaitCard : Claim7 := { stood := { row := fnExactWaitRow, standIns := [], harness := (true, "ce5c157c5eae9ff5924046aef4f500d6712d4c5f7754da8ff9536b563522b8ab"), looks := true }, kinds := [], alts := [], laidByText := true, laidKinds := [.data, .data, .data, .data, .data, .pinned], laidTests := true, laidLooks := .later }
def FnExactWaitCardSaid : Prop := Claim7.holds Tryz.pinned (.plain (OpenSpec.ofChange fnExactWaitSpec)) fnExactWaitCard

/-- THE TIED CARD OF 'laws.FnExactInput'. -/
def fnExactInputCard : Claim7 := { stood := { row := fnExactInputRow, standIns := [], harness := (true, "ce5c157c5eae9ff5924046aef4f500d6712d4c5f7754da8ff9536b563522b8ab"), looks := true }, kinds := [], alts := [], laidByText := true, laidKinds := [.data, .data, .data, .data, .data, .pinned], laidTests := true, laidLooks := .later }
def FnExactInputCardSaid : Prop := Claim7.holds Tryz.pinned (.plain (OpenSpec.ofChange fnExactInputSpec)) fnExactInputCard

/-- THE SECOND FORM's CARD OF 'laws.FnExactWait'. -/
def fnExactWaitUptoCard : Claim7 := { stood := { row := fnExactWaitUptoRow, standIns := [], harness := (true, "ce5c157c5eae9ff5924046aef4f500d6712d4c5f7754da8ff9536b563522b8ab"), looks := true }, kinds := [], alts := [], laidByText := true, laidKinds := [.data, .data, .data, .data, .data, .pinned], laidTests := true, laidLooks := .later }
def FnExactWaitUptoCardSaid : Prop := Claim7.holds Tryz.pinned (.plain (OpenSpec.upto fnExactWaitSpec)) fnExactWaitUptoCard

/-- THE SECOND FORM's CARD OF 'laws.FnExactInput'. -/
def fnExactInputUptoCard : Claim7 := { stood := { row := fnExactInputUptoRow, standIns := [], harness := (true, "ce5c157c5eae9ff5924046aef4f500d6712d4c5f7754da8ff9536b563522b8ab"), looks := true }, kinds := [], alts := [], laidByText := true, laidKinds := [.data, .data, .data, .data, .data, .pinned], laidTests := true, laidLooks := .later }
def FnExactInputUptoCardSaid : Prop := Claim7.holds Tryz.pinned (.plain (OpenSpec.upto fnExactInputSpec)) fnExactInputUptoCard
end Rows
end Go.Proofs.YtmlkpdbfnffoaaaGreatDoor
