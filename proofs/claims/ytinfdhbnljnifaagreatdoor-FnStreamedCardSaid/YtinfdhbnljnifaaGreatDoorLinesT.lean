import Derived.Test.YtinfdhbnljnifaaGreatDoorRowTxB
import Derived.Test.YtinfdhbnljnifaaGreatDoorOkImpl
import Derived.Test.YtinfdhbnljnifaaGreatDoorKd
namespace Go.Proofs.YtinfdhbnljnifaaGreatDoor
open Go.RowKit
def lineT (d : SD) (i : Nat) : ByteArray := rowT (d.tx i) (d.hf i) (d.C i)
theorem lineT_U {d : SD} (h : OkP d) {i : Nat} (hi : i < d.R) : rowU (d.tx i) (d.hf i) (d.C i) = lineT d i := by
  unfold lineT rowT rowU
  rw [row_same (d.tx i) (d.hf i) (d.C i) (fun k hk hh => (h.half i k hi hk hh).1) _ (Nat.le_refl _)]
end Go.Proofs.YtinfdhbnljnifaaGreatDoor
