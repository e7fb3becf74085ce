import Derived.Test.YteabhioifedgeaaGreatDoorCardV2
import Derived.Test.YteabhioifedgeaaGreatDoorLawView
import Derived.Test.YteabhioifedgeaaGreatDoorRows
import Derived.Test.YteabhioifedgeaaGreatDoorTie
import Derived.Test.YteabhioifedgeaaGreatDoorCards
import Derived.SevenTiedAt
import Derived.Lay
import Derived.LaidMore
import Derived.Lib.LaidU8
import Derived.Stop.Joined
import Derived.PinnedBridge
namespace Go.Proofs.YteabhioifedgeaaGreatDoor
open Go.ChangeShapes Go.WideShapes Go.ChangeAt Go.RowKit Go.Deep

theorem fnExactView_card_holds : Rows.FnExactViewCardSaid :=
  Claim7.holds_tied_plain_at .later [] [.data, .data, .pinned] true Rows.fnExactViewCard.stood.harness Rows.fnExactViewCard.stood.looks
    fnExactView_holds (fun _ h => by cases h) (by kernel_rfl) (fun _ h => by cases h) fnExactView_row_tie rfl ⟨rfl, rfl⟩ (by kernel_rfl) rfl
    (fun f fn hf hfn => by
      obtain rfl : f = 7 := Option.some.inj ((show Tryz.prog.funcNamed Rows.fnExactViewRow.func = some 7 by kernel_rfl).symm.trans hf) |>.symm
      obtain rfl : fn = Tryz.f7 := (Option.some.inj (Tryz.func7.symm.trans hfn)).symm
      exact ⟨by kernel_rfl, fun j t ht => by
        rw [Tryz.params7] at ht
        have hm : t ∈ [74] := by simpa using Array.mem_of_getElem? ht
        have hall : ([74].all fun u => !Tryz.prog.wantsStandIn u) = true := by kernel_rfl
        exact (show Tryz.prog.wantsStandIn t = false by simpa using List.all_eq_true.1 hall t hm)⟩)
    (by kernel_rfl)
#print axioms fnExactView_card_holds
end Go.Proofs.YteabhioifedgeaaGreatDoor
