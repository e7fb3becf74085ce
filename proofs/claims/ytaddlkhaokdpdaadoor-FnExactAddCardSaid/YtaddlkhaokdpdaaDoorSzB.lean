import Derived.Test.YtaddlkhaokdpdaaDoorBase
import Derived.Test.YtaddlkhaokdpdaaDoorProg
namespace Go.Proofs.YtaddlkhaokdpdaaDoor
open Go.RowKit
def SzR (l : Int) (n : Nat) (r : Int) : Prop := (r = -1 ∧ l < (n : Int)) ∨ (r = l - (n : Int) ∧ 0 ≤ r)
end Go.Proofs.YtaddlkhaokdpdaaDoor
