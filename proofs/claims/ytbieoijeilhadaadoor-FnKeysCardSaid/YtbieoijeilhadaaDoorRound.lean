import Derived.Test.YtbieoijeilhadaaDoorSpecClean
import Derived.Test.YtbieoijeilhadaaDoorImplClean
import Derived.Test.YtbieoijeilhadaaDoorRows12
import Derived.Test.YtbieoijeilhadaaDoorRwImpl
namespace Go.Proofs.YtbieoijeilhadaaDoor
open Go.RowKit
theorem run_s2i {P : Program} (w : World) (src dst e : TypeId) (hs : P.underlying src = some .string) (hd : P.underlying dst = some (.slice e)) (he : P.underlying e = some (.int .u8)) (zs : List Int) (hz : Bytes zs) :
    ∃ v W', (convert src dst (.string (toBA zs))).run P w = .ok v W' ∧ IntsAt W' .u8 v zs ∧ Ext w W' := by
  have hr := run_bytes_of_string (P := P) w src dst e (toBA zs) hs hd he
  rw [toBA_size] at hr
  obtain ⟨cap, W', h1, h2, h3, h4⟩ := run_s2b (P := P) w src dst e hs hd he zs hz
  have h5 := h1
  rw [hr] at h5
  injection h5 with h6 h7
  injection h6 with h8 h9 h10
  refine ⟨_, _, h1, ⟨_, _, rfl, ?_, fun hp => ⟨_, _, rfl, fun j hj => ?_⟩⟩, h2⟩
  · rw [← h10]; exact grownCap_ge w zs.length 0 e
  · have h11 := h4 j (.int .u8 (at0 zs j)) (by simp [at0_lt hj])
    rw [Addr.add_lit] at h11
    exact h11
end Go.Proofs.YtbieoijeilhadaaDoor

namespace Go.Proofs.YtbieoijeilhadaaDoor
open Go.RowKit
theorem toBA_ne {xs ys : List Int} (hx : Bytes xs) (hy : Bytes ys) (h : xs ≠ ys) : ((toBA xs).toList == (toBA ys).toList) = false := by
  rw [beq_eq_false_iff_ne, toList_data, toList_data]
  intro e
  exact h (toBA_inj hx hy (WideShapes.bytes_inj e))
end Go.Proofs.YtbieoijeilhadaaDoor

namespace Go.Proofs.YtbieoijeilhadaaDoor
open Go.RowKit
def CleanR (r : Int) : Prop := Utf8.valid r = true ∧ 32 ≤ r ∧ ¬ (127 ≤ r ∧ r ≤ 159)
theorem cleanR_shown (r : Int) : CleanR (shownI r) := by
  unfold shownI
  split
  · exact ⟨by decide, by omega, by omega⟩
  · rename_i h
    refine ⟨?_, by omega, by omega⟩
    cases hv : Utf8.valid r
    · exact absurd (.inl hv) h
    · rfl
theorem cleanR_clean (r : Int) : CleanR (cleanR r) := by
  unfold cleanR
  split
  · exact ⟨by decide, by omega, by omega⟩
  · exact cleanR_shown r
theorem cleanF_mem : ∀ (f : Nat) (l : List Int), ∀ x ∈ cleanF f l, CleanR x
  | 0, l => by simp [cleanF]
  | f + 1, l => by
    intro x hx
    rw [cleanF] at hx
    split at hx
    · simp at hx
    · rcases List.mem_cons.1 hx with rfl | h
      · exact cleanR_clean _
      · exact cleanF_mem f _ x h
theorem cleanL_mem (l : List Int) : ∀ x ∈ cleanL l, CleanR x := cleanF_mem _ _
end Go.Proofs.YtbieoijeilhadaaDoor
