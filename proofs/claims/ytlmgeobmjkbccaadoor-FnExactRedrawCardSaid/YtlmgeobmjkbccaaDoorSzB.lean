import Derived.Test.YtlmgeobmjkbccaaDoorU8s
namespace Go.Proofs.YtlmgeobmjkbccaaDoor
open Go.RowKit
def SzR (l : Int) (n : Nat) (r : Int) : Prop := (r = -1 ∧ l < (n : Int)) ∨ (r = l - (n : Int) ∧ 0 ≤ r)
end Go.Proofs.YtlmgeobmjkbccaaDoor
