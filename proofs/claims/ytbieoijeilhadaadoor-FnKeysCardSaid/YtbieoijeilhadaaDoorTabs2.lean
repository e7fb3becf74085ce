import Derived.Test.YtbieoijeilhadaaDoorBlocks
import Derived.Lib.LaidU8
namespace Go.Proofs.YtbieoijeilhadaaDoor
open Go.RowKit
def Tabs2 (w : World) : Prop := Lib.Utf8Tabs 0 1 w
theorem Tabs2.ext {w w' : World} (h : Tabs2 w) (he : Ext w w') : Tabs2 w' :=
  ⟨fun c hc => he.cell (h.1 c hc), fun i hi => ⟨he.cell (h.2 i hi).1, he.cell (h.2 i hi).2⟩⟩
end Go.Proofs.YtbieoijeilhadaaDoor
