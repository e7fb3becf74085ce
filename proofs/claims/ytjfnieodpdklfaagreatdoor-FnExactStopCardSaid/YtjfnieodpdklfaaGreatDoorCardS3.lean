import Derived.Test.YtjfnieodpdklfaaGreatDoorCardS2
import Derived.Test.YtjfnieodpdklfaaGreatDoorRows
import Derived.Test.YtjfnieodpdklfaaGreatDoorTie
import Derived.Test.YtjfnieodpdklfaaGreatDoorCards
import Derived.SevenTiedAt
import Derived.Lay
import Derived.LaidMore
import Derived.Lib.LaidU8
import Derived.Stop.Joined
import Derived.PinnedBridge
namespace Go.Proofs.YtjfnieodpdklfaaGreatDoor
open Go.ChangeShapes Go.WideShapes Go.ChangeAt Go.RowKit Go.Deep

theorem fnExactStop_card_holds : Rows.FnExactStopCardSaid :=
  Claim7.holds_tied_plain_at .later [] [.data, .data, .data, .data, .data, .pinned] true Rows.fnExactStopCard.stood.harness Rows.fnExactStopCard.stood.looks
    fnExactStop_holds (fun _ h => by cases h) (by kernel_rfl) (fun _ h => by cases h) fnExactStop_row_tie rfl ⟨rfl, rfl⟩ (by kernel_rfl) rfl
    (fun f fn hf hfn => by
      obtain rfl : f = 4 := Option.some.inj ((show Tryz.prog.funcNamed Rows.fnExactStopRow.func = some 4 by kernel_rfl).symm.trans hf) |>.symm
      obtain rfl : fn = Tryz.f4 := (Option.some.inj (Tryz.func4.symm.trans hfn)).symm
      exact ⟨by kernel_rfl, fun j t ht => by
        rw [Tryz.params4] at ht
        have hm : t ∈ [43] := by simpa using Array.mem_of_getElem? ht
        have hall : ([43].all fun u => !Tryz.prog.wantsStandIn u) = true := by kernel_rfl
        exact (show Tryz.prog.wantsStandIn t = false by simpa using List.all_eq_true.1 hall t hm)⟩)
    (by kernel_rfl)
#print axioms fnExactStop_card_holds
end Go.Proofs.YtjfnieodpdklfaaGreatDoor
