import Derived.Test.YtkimnihdjeonpaaDoorUtf
import Derived.Test.YtkimnihdjeonpaaDoorProg
namespace Go.Proofs.YtkimnihdjeonpaaDoor
open Go.RowKit
theorem l1Valid_any (r : Int) (w : World) : Calls Tryd.prog 27 #[.int .i64 r] w fun e w' => e = .returned (.bool (Utf8.valid r)) ∧ w' = w := by
  go_enter Tryd.func27, Tryd.ntmps27
  go_wp2
  all_goals
    go_ret
    refine ⟨ret_bool ?_, rfl⟩
    rw [Bool.eq_iff_iff]
    simp [Utf8.valid]
    omega
theorem l1Shown_any (r : Int) (w : World) : Calls Tryd.prog 23 #[.int .i64 r] w fun e w' => e = .returned (.int .i64 (shownI r)) ∧ w' = w := by
  cases hv : Utf8.valid r
  · have HS : Hid (shownI r = 65533) := by show shownI r = 65533; simp [shownI, hv]
    go_enter Tryd.func23, Tryd.ntmps23
    go_wp2_with fail
    refine (l1Valid_any _ _).mono ?_
    rintro e w1 ⟨rfl, rfl⟩
    go_wp2
    go_ret
    exact ⟨ret_int HS.out.symm, rfl⟩
  · have HS : Hid (shownI r = if r < 32 ∨ (127 ≤ r ∧ r ≤ 159) then 65533 else r) := by show shownI r = _; simp [shownI, hv]
    go_enter Tryd.func23, Tryd.ntmps23
    go_wp2_with fail
    refine (l1Valid_any _ _).mono ?_
    rintro e w1 ⟨rfl, rfl⟩
    go_wp2
    all_goals
      go_ret
      refine ⟨ret_int ?_, rfl⟩
      rw [HS.out]
      first | (rw [if_pos (by omega)]) | (rw [if_neg (by omega)])
end Go.Proofs.YtkimnihdjeonpaaDoor
