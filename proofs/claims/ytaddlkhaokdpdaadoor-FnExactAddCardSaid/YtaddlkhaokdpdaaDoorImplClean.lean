import Derived.Test.YtaddlkhaokdpdaaDoorSpecClean
import Derived.Test.YtaddlkhaokdpdaaDoorShowable
import Derived.Lib.OthersKept
namespace Go.Proofs.YtaddlkhaokdpdaaDoor
open Go.RowKit
theorem grown_iterAt (w : World) (k : Nat) (s : ByteArray) (p : Nat) : w.grownBy (w.iterAt k s p) (some k) :=
  ⟨rfl, rfl, rfl, by rw [Lib.iterAt_size]; exact Nat.le_refl _, fun i _ hn => Lib.iterAt_other w k i s p (fun e => hn (by rw [e]))⟩
end Go.Proofs.YtaddlkhaokdpdaaDoor
