import Derived.Test.YteabhioifedgeaaGreatDoorCardV0
import Derived.Test.YteabhioifedgeaaGreatDoorCardV1
import Derived.Test.YteabhioifedgeaaGreatDoorLawView
import Derived.Test.YteabhioifedgeaaGreatDoorRows
import Derived.Test.YteabhioifedgeaaGreatDoorTie
import Derived.Test.YteabhioifedgeaaGreatDoorCards
import Derived.SevenTiedAt
import Derived.Lay
import Derived.LaidMore
import Derived.Lib.LaidU8
import Derived.Stop.Joined
import Derived.PinnedBridge
namespace Go.Proofs.YteabhioifedgeaaGreatDoor
open Go.ChangeShapes Go.WideShapes Go.ChangeAt Go.RowKit Go.Deep

theorem fnExactView_holds : Rows.FnExactViewSaid :=
  OpenClaim.holds_of_wide 7 Tryz.f7 rfl rfl rfl rfl rfl rfl rfl ⟨rfl, rfl, rfl, rfl, rfl⟩ rfl rfl rfl rfl rfl (by kernel_rfl) Tryz.func7 fnExactView_facts
    (of_decide_eq_true (by kernel_rfl)) (by unfold Func.isWrapper; first | (rw [if_pos (by decide +kernel)]; kernel_rfl) | (rw [if_neg (by decide +kernel)]; exact ⟨rfl, rfl⟩))
    (fun os started H enc _ => fnExactView_lifted os started H enc)

end Go.Proofs.YteabhioifedgeaaGreatDoor
