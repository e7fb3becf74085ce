import Derived.Test.YtifkbhflfkciiacDoorU8s
namespace Go.Proofs.YtifkbhflfkciiacDoor
open Go.RowKit

/-- What a measure answers: -1, or what is left. -/
def SzR (l : Int) (n : Nat) (r : Int) : Prop := (r = -1 ∧ l < (n : Int)) ∨ (r = l - (n : Int) ∧ 0 ≤ r)
end Go.Proofs.YtifkbhflfkciiacDoor
