import Derived.Test.YtbieoijeilhadaaDoorGap
import Derived.Lib.ValidLaws
import Derived.Test.YtbieoijeilhadaaDoorRwImpl
import Derived.Test.YtbieoijeilhadaaDoorTabs
import Derived.Deep.RegionHeldLaw
namespace Go.Proofs.YtbieoijeilhadaaDoor
open Go.RowKit
def SnapP (a b : List Int) : Prop := settleL a = a ∧ settleL b = b ∧ (cleanL a).length + (cleanL b).length ≤ 300
end Go.Proofs.YtbieoijeilhadaaDoor
