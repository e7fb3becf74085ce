import Derived.Test.YtinfdhbnljnifaaGreatDoorKmF
import Derived.Test.YtinfdhbnljnifaaGreatDoorShelfK
import Derived.Test.YtinfdhbnljnifaaGreatDoorRkM
import Derived.Test.YtinfdhbnljnifaaGreatDoorRowO
import Derived.Test.YtinfdhbnljnifaaGreatDoorTextOf
import Derived.Test.YtinfdhbnljnifaaGreatDoorSpecClean
import Derived.Test.YtinfdhbnljnifaaGreatDoorRwImpl
import Derived.Lib.OthersKept
import Derived.Test.YtinfdhbnljnifaaGreatDoorSnapMark
namespace Go.Proofs.YtinfdhbnljnifaaGreatDoor
open Go.RowKit
theorem decodeRune_any (bs : List Int) (hb : Bytes bs) (v : Value) (w : World) (hv : IntsAt w .u8 v bs) (h0 : 0 < bs.length) (hT : Tabs2 w) :
    Calls Tryz.prog 167 #[v] w fun e w' => e = .returned (.tuple #[.int .i32 (decL bs).1, .int .i64 (decL bs).2]) ∧ Ext w w' := by
  obtain ⟨ao, cap, rfl, _, hr⟩ := hv
  obtain ⟨b, off, rfl, hc⟩ := hr h0
  have h := Any7.utf8_DecodeRune Tryz.lays32 (toBA bs) b off cap w hT (fun j hj => by rw [toBA_size] at hj; rw [hc j hj, toBA_get bs hb j, Int.toNat_of_nonneg (hb.at0 j).1])
  rw [toBA_size] at h
  refine Calls.mono h ?_
  rintro e w' ⟨rfl, hb'⟩
  have hd := decode_is bs hb 0
  rw [List.drop_zero] at hd
  have e1 : Lib.decodeGo (toBA bs) = Utf8.decode (toBA bs) 0 := by unfold Lib.decodeGo; rw [if_neg (by rw [toBA_size]; omega)]
  rw [e1]
  refine ⟨?_, Ext.of_below hb'⟩
  rw [← hd]
end Go.Proofs.YtinfdhbnljnifaaGreatDoor
