import Derived.Test.YtinfdhbnljnifaaGreatDoorCardT0
import Derived.Test.YtinfdhbnljnifaaGreatDoorCardT1
import Derived.Test.YtinfdhbnljnifaaGreatDoorRows
import Derived.Test.YtinfdhbnljnifaaGreatDoorTie
import Derived.Test.YtinfdhbnljnifaaGreatDoorCards
import Derived.SevenTiedAt
import Derived.Lay
import Derived.LaidMore
import Derived.Lib.LaidU8
import Derived.Stop.Joined
import Derived.PinnedBridge
namespace Go.Proofs.YtinfdhbnljnifaaGreatDoor
open Go.ChangeShapes Go.WideShapes Go.ChangeAt Go.RowKit Go.Deep
theorem fnStreamed_holds : Rows.FnStreamedSaid :=
  OpenClaim.holds_of_wide 3 Tryz.f3 rfl rfl rfl rfl rfl rfl rfl ⟨rfl, rfl, rfl, rfl, rfl⟩ rfl rfl rfl rfl rfl (by kernel_rfl) Tryz.func3 fnStreamed_facts
    (of_decide_eq_true (by kernel_rfl)) (by unfold Func.isWrapper; first | (rw [if_pos (by decide +kernel)]; kernel_rfl) | (rw [if_neg (by decide +kernel)]; exact ⟨rfl, rfl⟩))
    (fun os started H enc _ => fnStreamed_lifted os started H enc)
end Go.Proofs.YtinfdhbnljnifaaGreatDoor
