import Derived.Test.YtokjpnlmkecleaaGreatDoorRows
import Derived.Test.YtokjpnlmkecleaaGreatDoorTie
import Derived.Test.YtokjpnlmkecleaaGreatDoorCards
import Derived.SevenTiedAt
import Derived.Lay
import Derived.LaidMore
import Derived.Lib.LaidU8
import Derived.Stop.Joined
import Derived.PinnedBridge
namespace Go.Proofs.YtokjpnlmkecleaaGreatDoor
set_option maxRecDepth 100000 in
set_option maxHeartbeats 8000000 in
theorem fnUndone_facts : joinedFacts Tryz.pinned.checked.prog 5 Tryz.f5 Rows.fnUndoneSpec Rows.fnUndoneRow = true := by
  simp only [joinedFacts, Bool.and_eq_true]
  repeat' with_reducible refine And.intro ?_ ?_
  all_goals as_aux_lemma => kernel_rfl
end Go.Proofs.YtokjpnlmkecleaaGreatDoor
