import Derived.Test.YtlnmpbdnmlpkiaaDoorCls
namespace Go.Proofs.YtlnmpbdnmlpkiaaDoor
open Go.RowKit

def sumR (cs : List (List Int × Int)) : Nat → Nat
  | 0 => 0
  | j + 1 => sumR cs j + (cR cs j).length
theorem sumR_le (cs : List (List Int × Int)) (j : Nat) : ∀ n, j < n → (cR cs j).length ≤ sumR cs n := by
  intro n
  induction n with
  | zero => intro h; omega
  | succ n ih =>
    intro h
    rw [sumR]
    by_cases e : j = n
    · subst e; omega
    · have := ih (by omega); omega
end Go.Proofs.YtlnmpbdnmlpkiaaDoor
