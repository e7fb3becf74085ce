import Derived.Test.YtmomcccgjjjldaaDoorCls
namespace Go.Proofs.YtmomcccgjjjldaaDoor
open Go.RowKit
def sumR (cs : List (List Int × Int)) : Nat → Nat
  | 0 => 0
  | j + 1 => sumR cs j + (cR cs j).length
end Go.Proofs.YtmomcccgjjjldaaDoor
