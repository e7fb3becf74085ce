import Derived.Test.YtinfdhbnljnifaaGreatDoorRows
import Derived.Test.YtinfdhbnljnifaaGreatDoorTie
import Derived.Test.YtinfdhbnljnifaaGreatDoorCards
import Derived.SevenTiedAt
import Derived.Lay
import Derived.LaidMore
import Derived.Lib.LaidU8
import Derived.Stop.Joined
import Derived.PinnedBridge
namespace Go.Proofs.YtinfdhbnljnifaaGreatDoor
set_option maxRecDepth 100000 in
set_option maxHeartbeats 8000000 in
theorem zhR : joinedFacts Tryz.pinned.checked.prog 5 Tryz.f5 Rows.fnDrawnSpec Rows.fnDrawnRow = true := by
 simp only [joinedFacts, Bool.and_eq_true]
 repeat' with_reducible refine And.intro ?_ ?_
 all_goals as_aux_lemma => kernel_rfl
end Go.Proofs.YtinfdhbnljnifaaGreatDoor
