import Derived.Test.YteabhioifedgeaaGreatDoorRows
import Derived.Test.YteabhioifedgeaaGreatDoorTie
import Derived.Test.YteabhioifedgeaaGreatDoorCards
import Derived.SevenTiedAt
import Derived.Lay
import Derived.LaidMore
import Derived.Lib.LaidU8
import Derived.Stop.Joined
import Derived.PinnedBridge
namespace Go.Proofs.YteabhioifedgeaaGreatDoor

set_option maxRecDepth 100000 in
set_option maxHeartbeats 8000000 in
theorem fnExactView_facts : joinedFacts Tryz.pinned.checked.prog 7 Tryz.f7 Rows.fnExactViewSpec Rows.fnExactViewRow = true := by
  simp only [joinedFacts, Bool.and_eq_true]
  repeat' with_reducible refine And.intro ?_ ?_
  all_goals as_aux_lemma => kernel_rfl
end Go.Proofs.YteabhioifedgeaaGreatDoor
