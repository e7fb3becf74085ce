import Derived.Test.YtaddlkhaokdpdaaDoorFrame
import Derived.Test.YtaddlkhaokdpdaaDoorRows12
import Derived.Deep.SlicePairs
import Derived.Deep.Strs
namespace Go.Proofs.YtaddlkhaokdpdaaDoor
open Go.ChangeShapes Go.WideShapes Go.ChangeAt Go.RowKit Go.Deep
theorem addr_plain {W : World} {a : Addr} {v : Value} (h : W.cell? (a.add 0) = some v) : a = ⟨a.block, a.off, none⟩ := by
  obtain ⟨b, off, spot⟩ := a
  have hspot : spot = none := by simpa [Addr.add] using World.cell?_spot h
  subst hspot
  rfl
end Go.Proofs.YtaddlkhaokdpdaaDoor
