import Derived.Test.YtmkcmbfkggohpaaDoorUtf
import Derived.Test.YtmkcmbfkggohpaaDoorProg
namespace Go.Proofs.YtmkcmbfkggohpaaDoor
open Go.RowKit

theorem l1Valid_any (r : Int) (w : World) : Calls Tryd.prog 20 #[.int .i64 r] w fun e w' => e = .returned (.bool (Utf8.valid r)) ∧ w' = w := by
  go_enter Tryd.func20, Tryd.ntmps20
  go_wp2
  all_goals
    go_ret
    refine ⟨ret_bool ?_, rfl⟩
    rw [Bool.eq_iff_iff]
    simp [Utf8.valid]
    omega
theorem l1Shown_any (r : Int) (w : World) : Calls Tryd.prog 16 #[.int .i64 r] w fun e w' => e = .returned (.int .i64 (shownI r)) ∧ w' = w := by
  cases hv : Utf8.valid r
  · have HS : Hid (shownI r = 65533) := by show shownI r = 65533; simp [shownI, hv]
    go_enter Tryd.func16, Tryd.ntmps16
    go_wp2_with fail
    refine (l1Valid_any _ _).mono ?_
    rintro e w1 ⟨rfl, rfl⟩
    go_wp2
    go_ret
    exact ⟨ret_int HS.out.symm, rfl⟩
  · have HS : Hid (shownI r = if r < 32 ∨ (127 ≤ r ∧ r ≤ 159) then 65533 else r) := by show shownI r = _; simp [shownI, hv]
    go_enter Tryd.func16, Tryd.ntmps16
    go_wp2_with fail
    refine (l1Valid_any _ _).mono ?_
    rintro e w1 ⟨rfl, rfl⟩
    go_wp2
    all_goals
      go_ret
      refine ⟨ret_int ?_, rfl⟩
      rw [HS.out]
      first | (rw [if_pos (by omega)]) | (rw [if_neg (by omega)])
theorem new_ints {w : World} (k : IntKind) (zs : List Int) (t n : Nat) (hn : n = zs.length) : IntsAt (w.alloc (.cells (zs.map (Value.int k)).toArray t)) k (.slice (some ⟨w.heap.size, 0, none⟩) n n) zs := by
  subst hn
  refine ⟨_, _, rfl, Nat.le_refl _, fun _ => ⟨_, 0, rfl, fun j hj => ?_⟩⟩
  rw [World.cell?_alloc_at _ _ _ _ rfl]
  simp [at0, hj]
theorem ret_str {a b : ByteArray} (h : a = b) : Ending.returned (.string a) = .returned (.string b) := by rw [h]
end Go.Proofs.YtmkcmbfkggohpaaDoor
