/-
  DERIVED. GIVEN WITH THE SEED: THE CARDS: each row of YtjbhkdmjilknpaaDoorRows.lean that lists a variable, with what it lists TIED to the program's text (the seventh form; the later family's looks); each row that meets fmt, with fmt's text TOLD by the authors' own Lean function (tested against real Go, not proved from fmt's source: count such statements apart). THE CARD IS WHAT COUNTS. Prove the row's statement (the work); the ties are given (YtjbhkdmjilknpaaDoorTie.lean); close each card by the builder's one call (the guide's Derived/Test/ToyasCard.lean, 'card_holds'). Laid BY PROGRAM, IN A SANDBOX (cutbox-door.mjs). By AI agents, Wed Nov 11 2026. No macro, syntax, notation, axiom, sorry.
-/
import Derived.Test.YtjbhkdmjilknpaaDoorRows
import GoSem.ClaimSeven
namespace Go.Proofs.YtjbhkdmjilknpaaDoor
namespace Rows

/-- THE TIED CARD OF 'laws.FnExactPaint'. -/
def fnExactPaintCard : Claim7 := { stood := { row := fnExactPaintRow, standIns := [], harness := (true, "c908229a4fe15f47647e38712872943b085598f9c97cc10a6ff482141afff5e6"), looks := false }, kinds := [], alts := [], laidByText := true, laidKinds := [.data, .data, .data], laidTests := true, laidLooks := .later }
def FnExactPaintCardSaid : Prop := Claim7.holds Tryd.pinned (.plain (OpenSpec.ofChange fnExactPaintSpec)) fnExactPaintCard

/-- THE SECOND FORM's CARD OF 'laws.FnExactPaint'. -/
def fnExactPaintUptoCard : Claim7 := { stood := { row := fnExactPaintUptoRow, standIns := [], harness := (true, "c908229a4fe15f47647e38712872943b085598f9c97cc10a6ff482141afff5e6"), looks := false }, kinds := [], alts := [], laidByText := true, laidKinds := [.data, .data, .data], laidTests := true, laidLooks := .later }
def FnExactPaintUptoCardSaid : Prop := Claim7.holds Tryd.pinned (.plain (OpenSpec.upto fnExactPaintSpec)) fnExactPaintUptoCard
end Rows
end Go.Proofs.YtjbhkdmjilknpaaDoor
