import Derived.Test.YtmlkpdbfnffoaaaGreatDoorTie
import Derived.Test.YtmlkpdbfnffoaaaGreatDoorCards
import Derived.Lay
import Derived.LaidMore
import Derived.Lib.LaidU8
import Derived.Stop.Joined
import Derived.PinnedBridge
namespace Go.Proofs.YtmlkpdbfnffoaaaGreatDoor
set_option maxRecDepth 100000 in
set_option maxHeartbeats 8000000 in
theorem zeT : joinedFacts Tryz.pinned.checked.prog 3 Tryz.f3 Rows.fnExactWaitSpec Rows.fnExactWaitRow = true := by
 simp only [joinedFacts, Bool.and_eq_true]
 repeat' with_reducible refine And.intro ?_ ?_
 all_goals as_aux_lemma => kernel_rfl
end Go.Proofs.YtmlkpdbfnffoaaaGreatDoor
