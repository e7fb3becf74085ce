import Derived.Test.YtokjpnlmkecleaaGreatDoorKys
import Derived.Deep.RegionLaw
import Derived.Deep.DeepCutAuto
import Derived.Deep.RegionHeld3
namespace Go.Proofs.YtokjpnlmkecleaaGreatDoor
open Go.RowKit
end Go.Proofs.YtokjpnlmkecleaaGreatDoor
