import Derived.Test.YtaddlkhaokdpdaaDoorRwImpl
import Derived.Test.YtaddlkhaokdpdaaDoorFrame
import Derived.Lib.LaidU8
namespace Go.Proofs.YtaddlkhaokdpdaaDoor
open Go.RowKit
def Tabs3 (w : World) : Prop := Laid w ∧ Lib.Utf8Tabs 1 2 w
theorem Tabs3.ext {w w' : World} (h : Tabs3 w) (he : Ext w w') : Tabs3 w' :=
  ⟨h.1.below he.below, fun c hc => he.cell (h.2.1 c hc), fun i hi => ⟨he.cell (h.2.2 i hi).1, he.cell (h.2.2 i hi).2⟩⟩
end Go.Proofs.YtaddlkhaokdpdaaDoor
