/-
  DERIVED. GIVEN WITH THE SEED: THE CARDS: each row of YtlmgeobmjkbccaaDoorRows.lean that lists a variable, with what it lists TIED to the program's text (the seventh form; the later family's looks); each row that meets fmt, with fmt's text TOLD by the authors' own Lean function (tested against real Go, not proved from fmt's source: count such statements apart). THE CARD IS WHAT COUNTS. Prove the row's statement (the work); the ties are given (YtlmgeobmjkbccaaDoorTie.lean); close each card by the builder's one call (the guide's Derived/Test/ToyasCard.lean, 'card_holds'). Laid BY PROGRAM, IN A SANDBOX (cutbox-door.mjs). By AI agents, Wed Nov 11 2026. No macro, syntax, notation, axiom, sorry.
-/
import Derived.Test.YtlmgeobmjkbccaaDoorRows
import GoSem.ClaimSeven
namespace Go.Proofs.YtlmgeobmjkbccaaDoor
namespace Rows

/-- THE TIED CARD OF 'laws.FnExactErase'. -/
def fnExactEraseCard : Claim7 := { stood := { row := fnExactEraseRow, standIns := [], harness := (true, "a249a70abbc0feb23a7c4441382b5a9b332f51996c61f35719a063e5cbfe4f4e"), looks := false }, kinds := [], alts := [], laidByText := true, laidKinds := [.data, .data, .data], laidTests := true, laidLooks := .later }
def FnExactEraseCardSaid : Prop := Claim7.holds Tryd.pinned (.plain (OpenSpec.ofChange fnExactEraseSpec)) fnExactEraseCard

/-- THE TIED CARD OF 'laws.FnExactRedraw'. -/
def fnExactRedrawCard : Claim7 := { stood := { row := fnExactRedrawRow, standIns := [], harness := (true, "a249a70abbc0feb23a7c4441382b5a9b332f51996c61f35719a063e5cbfe4f4e"), looks := false }, kinds := [], alts := [], laidByText := true, laidKinds := [.data, .data, .data], laidTests := true, laidLooks := .later }
def FnExactRedrawCardSaid : Prop := Claim7.holds Tryd.pinned (.plain (OpenSpec.ofChange fnExactRedrawSpec)) fnExactRedrawCard

/-- THE SECOND FORM's CARD OF 'laws.FnExactErase'. -/
def fnExactEraseUptoCard : Claim7 := { stood := { row := fnExactEraseUptoRow, standIns := [], harness := (true, "a249a70abbc0feb23a7c4441382b5a9b332f51996c61f35719a063e5cbfe4f4e"), looks := false }, kinds := [], alts := [], laidByText := true, laidKinds := [.data, .data, .data], laidTests := true, laidLooks := .later }
def FnExactEraseUptoCardSaid : Prop := Claim7.holds Tryd.pinned (.plain (OpenSpec.upto fnExactEraseSpec)) fnExactEraseUptoCard

/-- THE SECOND FORM's CARD OF 'laws.FnExactRedraw'. -/
def fnExactRedrawUptoCard : Claim7 := { stood := { row := fnExactRedrawUptoRow, standIns := [], harness := (true, "a249a70abbc0feb23a7c4441382b5a9b332f51996c61f35719a063e5cbfe4f4e"), looks := false }, kinds := [], alts := [], laidByText := true, laidKinds := [.data, .data, .data], laidTests := true, laidLooks := .later }
def FnExactRedrawUptoCardSaid : Prop := Claim7.holds Tryd.pinned (.plain (OpenSpec.upto fnExactRedrawSpec)) fnExactRedrawUptoCard
end Rows
end Go.Proofs.YtlmgeobmjkbccaaDoor
