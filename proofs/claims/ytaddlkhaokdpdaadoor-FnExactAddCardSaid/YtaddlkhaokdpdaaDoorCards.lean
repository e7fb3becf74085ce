/-
  DERIVED. GIVEN WITH THE SEED: THE CARDS: each row of YtaddlkhaokdpdaaDoorRows.lean that lists a variable, with what it lists TIED to the program's text (the seventh form; the later family's looks); each row that meets fmt, with fmt's text TOLD by the authors' own Lean function (tested against real Go, not proved from fmt's source: count such statements apart). THE CARD IS WHAT COUNTS. Prove the row's statement (the work); the ties are given (YtaddlkhaokdpdaaDoorTie.lean); close each card by the builder's one call (the guide's Derived/Test/ToyasCard.lean, 'card_holds'). Laid BY PROGRAM, IN A SANDBOX (cutbox-door.mjs). By AI agents, Wed Nov 11 2026. No macro, syntax, notation, axiom, sorry.
-/
import Derived.Test.YtaddlkhaokdpdaaDoorRows
import GoSem.ClaimSeven
namespace Go.Proofs.YtaddlkhaokdpdaaDoor
namespace Rows

/-- THE TIED CARD OF 'laws.FnExactHistoryOk'. -/
def fnExactHistoryOkCard : Claim7 := { stood := { row := fnExactHistoryOkRow, standIns := [], harness := (true, "d336cdd2e41c02ed31b01c3b6debc5279a82245041eb806066ac393fadf10425"), looks := false }, kinds := [], alts := [], laidByText := true, laidKinds := [.data, .data, .pinned], laidTests := true, laidLooks := .later }
def FnExactHistoryOkCardSaid : Prop := Claim7.holds Tryd.pinned (.plain (OpenSpec.ofChange fnExactHistoryOkSpec)) fnExactHistoryOkCard

/-- THE TIED CARD OF 'laws.FnExactLineOk'. -/
def fnExactLineOkCard : Claim7 := { stood := { row := fnExactLineOkRow, standIns := [], harness := (true, "d336cdd2e41c02ed31b01c3b6debc5279a82245041eb806066ac393fadf10425"), looks := false }, kinds := [], alts := [], laidByText := true, laidKinds := [.data, .data, .pinned], laidTests := true, laidLooks := .later }
def FnExactLineOkCardSaid : Prop := Claim7.holds Tryd.pinned (.plain (OpenSpec.ofChange fnExactLineOkSpec)) fnExactLineOkCard

/-- THE TIED CARD OF 'laws.FnExactLatest'. -/
def fnExactLatestCard : Claim7 := { stood := { row := fnExactLatestRow, standIns := [], harness := (true, "d336cdd2e41c02ed31b01c3b6debc5279a82245041eb806066ac393fadf10425"), looks := false }, kinds := [], alts := [], laidByText := true, laidKinds := [.data, .data, .pinned], laidTests := true, laidLooks := .later }
def FnExactLatestCardSaid : Prop := Claim7.holds Tryd.pinned (.plain (OpenSpec.ofChange fnExactLatestSpec)) fnExactLatestCard

/-- THE TIED CARD OF 'laws.FnExactAdd'. -/
def fnExactAddCard : Claim7 := { stood := { row := fnExactAddRow, standIns := [], harness := (true, "d336cdd2e41c02ed31b01c3b6debc5279a82245041eb806066ac393fadf10425"), looks := false }, kinds := [], alts := [], laidByText := true, laidKinds := [.data, .data, .pinned], laidTests := true, laidLooks := .later }
def FnExactAddCardSaid : Prop := Claim7.holds Tryd.pinned (.plain (OpenSpec.ofChange fnExactAddSpec)) fnExactAddCard

/-- THE SECOND FORM's CARD OF 'laws.FnExactHistoryOk'. -/
def fnExactHistoryOkUptoCard : Claim7 := { stood := { row := fnExactHistoryOkUptoRow, standIns := [], harness := (true, "d336cdd2e41c02ed31b01c3b6debc5279a82245041eb806066ac393fadf10425"), looks := false }, kinds := [], alts := [], laidByText := true, laidKinds := [.data, .data, .pinned], laidTests := true, laidLooks := .later }
def FnExactHistoryOkUptoCardSaid : Prop := Claim7.holds Tryd.pinned (.plain (OpenSpec.upto fnExactHistoryOkSpec)) fnExactHistoryOkUptoCard

/-- THE SECOND FORM's CARD OF 'laws.FnExactLineOk'. -/
def fnExactLineOkUptoCard : Claim7 := { stood := { row := fnExactLineOkUptoRow, standIns := [], harness := (true, "d336cdd2e41c02ed31b01c3b6debc5279a82245041eb806066ac393fadf10425"), looks := false }, kinds := [], alts := [], laidByText := true, laidKinds := [.data, .data, .pinned], laidTests := true, laidLooks := .later }
def FnExactLineOkUptoCardSaid : Prop := Claim7.holds Tryd.pinned (.plain (OpenSpec.upto fnExactLineOkSpec)) fnExactLineOkUptoCard

/-- THE SECOND FORM's CARD OF 'laws.FnExactLatest'. -/
def fnExactLatestUptoCard : Claim7 := { stood := { row := fnExactLatestUptoRow, standIns := [], harness := (true, "d336cdd2e41c02ed31b01c3b6debc5279a82245041eb806066ac393fadf10425"), looks := false }, kinds := [], alts := [], laidByText := true, laidKinds := [.data, .data, .pinned], laidTests := true, laidLooks := .later }
def FnExactLatestUptoCardSaid : Prop := Claim7.holds Tryd.pinned (.plain (OpenSpec.upto fnExactLatestSpec)) fnExactLatestUptoCard

/-- THE SECOND FORM's CARD OF 'laws.FnExactAdd'. -/
def fnExactAddUptoCard : Claim7 := { stood := { row := fnExactAddUptoRow, standIns := [], harness := (true, "d336cdd2e41c02ed31b01c3b6debc5279a82245041eb806066ac393fadf10425"), looks := false }, kinds := [], alts := [], laidByText := true, laidKinds := [.data, .data, .pinned], laidTests := true, laidLooks := .later }
def FnExactAddUptoCardSaid : Prop := Claim7.holds Tryd.pinned (.plain (OpenSpec.upto fnExactAddSpec)) fnExactAddUptoCard
end Rows
end Go.Proofs.YtaddlkhaokdpdaaDoor
