import Derived.Test.YtinfdhbnljnifaaGreatDoorRkM
namespace Go.Proofs.YtinfdhbnljnifaaGreatDoor
open Go.RowKit
def Mid (bs : List Int) (i : Nat) (acc : List Int) : Prop := acc ++ cleanL (bs.drop i) = cleanL bs ∧ acc.length ≤ i
theorem Mid.step {bs : List Int} {i : Nat} {acc : List Int} (h : Mid bs i acc) (hi : i < bs.length) : Mid bs (i + (decL (bs.drop i)).2) (acc ++ [cleanR (decL (bs.drop i)).1]) := by
  have hp := decL_pos (bs.drop i)
  refine ⟨?_, by have := h.2; simp; omega⟩
  rw [← h.1, cleanL_step (bs.drop i) (by simp; omega), List.drop_drop]
  simp
theorem Mid.done {bs : List Int} {i : Nat} {acc : List Int} (h : Mid bs i acc) (hi : bs.length ≤ i) : acc = cleanL bs := by
  have := h.1
  rw [List.drop_of_length_le hi, cleanL_nil [] rfl] at this
  simpa using this
end Go.Proofs.YtinfdhbnljnifaaGreatDoor
