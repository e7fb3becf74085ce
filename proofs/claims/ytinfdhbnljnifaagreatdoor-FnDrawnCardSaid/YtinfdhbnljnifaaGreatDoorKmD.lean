import Derived.Test.YtinfdhbnljnifaaGreatDoorKmF
import Derived.Test.YtinfdhbnljnifaaGreatDoorShelfK
import Derived.Test.YtinfdhbnljnifaaGreatDoorFdB
namespace Go.Proofs.YtinfdhbnljnifaaGreatDoor
open Go.RowKit
theorem zho (bs : List Int) (hb : zv bs) (v : Value) (w : World) (hv : zx w .u8 v bs) (h0 : 0 < bs.length) (hT : zka w) :
  Calls Tryz.prog 167 #[v] w fun e w' => e = .returned (.tuple #[.int .i32 (zak bs).1, .int .i64 (zak bs).2]) ∧ Ext w w' := by
 obtain ⟨ao, cap, rfl, _, hr⟩ := hv
 obtain ⟨b, off, rfl, hc⟩ := hr h0
 have h := Any7.utf8_DecodeRune Tryz.lays32 (zo bs) b off cap w hT (fun j hj => by rw [zai] at hj; rw [hc j hj, zck bs hb j, Int.toNat_of_nonneg (hb.at0 j).1])
 rw [zai] at h
 refine Calls.mono h ?_
 rintro e w' ⟨rfl, hb'⟩
 have hd := zmM bs hb 0
 rw [List.drop_zero] at hd
 have e1 : Lib.decodeGo (zo bs) = Utf8.decode (zo bs) 0 := by unfold Lib.decodeGo; rw [if_neg (by rw [zai]; omega)]
 rw [e1]
 refine ⟨?_, Ext.of_below hb'⟩
 rw [← hd]
end Go.Proofs.YtinfdhbnljnifaaGreatDoor
