import Derived.Test.YtinfdhbnljnifaaGreatDoorFsM2
import Derived.Test.YtinfdhbnljnifaaGreatDoorFsM3
namespace Go.Proofs.YtinfdhbnljnifaaGreatDoor
open Go.RowKit
theorem l2Mark_any {base : Nat} {X : Nat → Prop} {d : SD} {gv : Value} {rv : Nat → Value} {hv bv : Value} (w : World) (h : ScrV w base X d gv rv bv) (ha hc : Nat) (hs : Option Addr) (hhv : hv = .slice hs ha hc) (hk : OkP d) (t : ByteArray) (ht4 : t.size ≤ 4) :
    Calls Tryz.prog 99 #[scrV d gv hv bv, .string t] w (SpR w base X (d.mark t) hv) := by
  by_cases hm : d.mkAt < 0
  · exact l2Mark_none w h ha hc hs hhv hk t hm
  · cases hl : d.late with
    | true => exact l2Mark_late w h ha hc hs hhv hk t ht4 hm hl
    | false => exact l2Mark_not w h ha hc hs hhv hk t ht4 hm hl
end Go.Proofs.YtinfdhbnljnifaaGreatDoor
