import Derived.Test.YtaddlkhaokdpdaaDoorTextOkI
import Derived.Test.YtaddlkhaokdpdaaDoorSpecRune
import Derived.Test.YtaddlkhaokdpdaaDoorRows12
import Derived.Deep.RegionHeld3
import Derived.Test.YtaddlkhaokdpdaaDoorSzB
import Derived.Test.YtaddlkhaokdpdaaDoorCame
import Derived.Test.YtaddlkhaokdpdaaDoorBaL
import Derived.Lib.ItoaNum
import Derived.Lib.Join
namespace Go.Proofs.YtaddlkhaokdpdaaDoor
open Go.RowKit
theorem encA_len : ∀ xs : List Int, (encA xs).length ≤ 4 * xs.length
  | [] => by simp [encA]
  | x :: xs => by
    have := encA_len xs
    have h2 : (encR x).length ≤ 4 := by
      unfold encR encL
      repeat' split
      all_goals simp
    simp only [encA, List.length_append, List.length_cons]
    omega
theorem settled_short (bs : List Int) (h : settleL bs = bs) : bs.length ≤ 4 * (cleanL bs).length := by
  have hv := ((settled_iff bs).1 h).2.2
  have h1 := encA_len (runesL bs)
  rw [hv] at h1
  rw [clean_runes, List.length_map]
  exact h1
end Go.Proofs.YtaddlkhaokdpdaaDoor
