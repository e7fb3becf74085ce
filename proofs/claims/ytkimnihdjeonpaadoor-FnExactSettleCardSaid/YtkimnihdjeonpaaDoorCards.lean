/-
  DERIVED. GIVEN WITH THE SEED: THE CARDS: each row of YtkimnihdjeonpaaDoorRows.lean that lists a variable, with what it lists TIED to the program's text (the seventh form; the later family's looks); each row that meets fmt, with fmt's text TOLD by the authors' own Lean function (tested against real Go, not proved from fmt's source: count such statements apart). THE CARD IS WHAT COUNTS. Prove the row's statement (the work); the ties are given (YtkimnihdjeonpaaDoorTie.lean); close each card by the builder's one call (the guide's Derived/Test/ToyasCard.lean, 'card_holds'). Laid BY PROGRAM, IN A SANDBOX (cutbox-door.mjs). By AI agents, Wed Nov 11 2026. No macro, syntax, notation, axiom, sorry.
-/
import Derived.Test.YtkimnihdjeonpaaDoorRows
import GoSem.ClaimSeven
namespace Go.Proofs.YtkimnihdjeonpaaDoor
namespace Rows

/-- THE TIED CARD OF 'laws.FnExactRuneWidth'. -/
def fnExactRuneWidthCard : Claim7 := { stood := { row := fnExactRuneWidthRow, standIns := [], harness := (true, "8f25923dc3d6976658231440c119abf2fc0694ba7b07888e28e75df94b1927dd"), looks := false }, kinds := [], alts := [], laidByText := true, laidKinds := [.data], laidTests := true, laidLooks := .later }
def FnExactRuneWidthCardSaid : Prop := Claim7.holds Tryd.pinned (.plain (OpenSpec.ofChange fnExactRuneWidthSpec)) fnExactRuneWidthCard

/-- THE TIED CARD OF 'laws.FnExactSettle'. -/
def fnExactSettleCard : Claim7 := { stood := { row := fnExactSettleRow, standIns := [], harness := (true, "8f25923dc3d6976658231440c119abf2fc0694ba7b07888e28e75df94b1927dd"), looks := false }, kinds := [], alts := [], laidByText := true, laidKinds := [.data], laidTests := true, laidLooks := .later }
def FnExactSettleCardSaid : Prop := Claim7.holds Tryd.pinned (.plain (OpenSpec.ofChange fnExactSettleSpec)) fnExactSettleCard

/-- THE TIED CARD OF 'laws.FnExactClusters'. -/
def fnExactClustersCard : Claim7 := { stood := { row := fnExactClustersRow, standIns := [], harness := (true, "8f25923dc3d6976658231440c119abf2fc0694ba7b07888e28e75df94b1927dd"), looks := false }, kinds := [], alts := [], laidByText := true, laidKinds := [.data], laidTests := true, laidLooks := .later }
def FnExactClustersCardSaid : Prop := Claim7.holds Tryd.pinned (.plain (OpenSpec.ofChange fnExactClustersSpec)) fnExactClustersCard

/-- THE SECOND FORM's CARD OF 'laws.FnExactRuneWidth'. -/
def fnExactRuneWidthUptoCard : Claim7 := { stood := { row := fnExactRuneWidthUptoRow, standIns := [], harness := (true, "8f25923dc3d6976658231440c119abf2fc0694ba7b07888e28e75df94b1927dd"), looks := false }, kinds := [], alts := [], laidByText := true, laidKinds := [.data], laidTests := true, laidLooks := .later }
def FnExactRuneWidthUptoCardSaid : Prop := Claim7.holds Tryd.pinned (.plain (OpenSpec.upto fnExactRuneWidthSpec)) fnExactRuneWidthUptoCard

/-- THE SECOND FORM's CARD OF 'laws.FnExactSettle'. -/
def fnExactSettleUptoCard : Claim7 := { stood := { row := fnExactSettleUptoRow, standIns := [], harness := (true, "8f25923dc3d6976658231440c119abf2fc0694ba7b07888e28e75df94b1927dd"), looks := false }, kinds := [], alts := [], laidByText := true, laidKinds := [.data], laidTests := true, laidLooks := .later }
def FnExactSettleUptoCardSaid : Prop := Claim7.holds Tryd.pinned (.plain (OpenSpec.upto fnExactSettleSpec)) fnExactSettleUptoCard

/-- THE SECOND FORM's CARD OF 'laws.FnExactClusters'. -/
def fnExactClustersUptoCard : Claim7 := { stood := { row := fnExactClustersUptoRow, standIns := [], harness := (true, "8f25923dc3d6976658231440c119abf2fc0694ba7b07888e28e75df94b1927dd"), looks := false }, kinds := [], alts := [], laidByText := true, laidKinds := [.data], laidTests := true, laidLooks := .later }
def FnExactClustersUptoCardSaid : Prop := Claim7.holds Tryd.pinned (.plain (OpenSpec.upto fnExactClustersSpec)) fnExactClustersUptoCard
end Rows
end Go.Proofs.YtkimnihdjeonpaaDoor
