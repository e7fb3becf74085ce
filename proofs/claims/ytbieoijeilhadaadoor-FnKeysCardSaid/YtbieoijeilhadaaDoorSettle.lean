import Derived.Test.YtbieoijeilhadaaDoorTextOf
import Derived.Test.YtbieoijeilhadaaDoorSpecClean
import Derived.Test.YtbieoijeilhadaaDoorImplClean
import Derived.Test.YtbieoijeilhadaaDoorClsGrow
import Derived.Test.YtbieoijeilhadaaDoorRwImpl
namespace Go.Proofs.YtbieoijeilhadaaDoor
open Go.RowKit
theorem run_s2i {P : Program} (w : World) (src dst e : TypeId) (hs : P.underlying src = some .string) (hd : P.underlying dst = some (.slice e)) (he : P.underlying e = some (.int .u8)) (zs : List Int) (hz : Bytes zs) :
    ∃ v W', (convert src dst (.string (toBA zs))).run P w = .ok v W' ∧ IntsAt W' .u8 v zs ∧ Ext w W' := by
  have hr := run_bytes_of_string (P := P) w src dst e (toBA zs) hs hd he
  rw [toBA_size] at hr
  obtain ⟨cap, W', h1, h2, h3, h4⟩ := run_s2b (P := P) w src dst e hs hd he zs hz
  have h5 := h1
  rw [hr] at h5
  injection h5 with h6 h7
  injection h6 with h8 h9 h10
  refine ⟨_, _, h1, ⟨_, _, rfl, ?_, fun hp => ⟨_, _, rfl, fun j hj => ?_⟩⟩, h2⟩
  · rw [← h10]; exact grownCap_ge w zs.length 0 e
  · have h11 := h4 j (.int .u8 (at0 zs j)) (by simp [at0_lt hj])
    rw [Addr.add_lit] at h11
    exact h11
end Go.Proofs.YtbieoijeilhadaaDoor
