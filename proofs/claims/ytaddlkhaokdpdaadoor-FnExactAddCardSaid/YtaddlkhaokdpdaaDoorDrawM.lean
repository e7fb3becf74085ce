import Derived.Test.YtaddlkhaokdpdaaDoorBaL
import Derived.Lib.ItoaNum
import Derived.Lib.Join
namespace Go.Proofs.YtaddlkhaokdpdaaDoor
open Go.RowKit
def slen (tx : Nat → ByteArray) : Nat → Nat
  | 0 => 0
  | i + 1 => slen tx i + (tx i).size
theorem slen_le (tx : Nat → ByteArray) (n : Nat) : ∀ k, k ≤ n → slen tx k ≤ slen tx n := by
  have aux : ∀ m k, slen tx k ≤ slen tx (k + m) := by
    intro m
    induction m with
    | zero => intro k; exact Nat.le_refl _
    | succ m ih => intro k; have := ih k; rw [← Nat.add_assoc, slen]; omega
  intro k hk
  have := aux (n - k) k
  rwa [show k + (n - k) = n by omega] at this
end Go.Proofs.YtaddlkhaokdpdaaDoor
