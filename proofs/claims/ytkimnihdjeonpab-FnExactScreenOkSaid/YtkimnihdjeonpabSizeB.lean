import Derived.Test.YtkimnihdjeonpabBase
import Derived.Test.YtkimnihdjeonpabChecked
namespace Go.Proofs.Ytkimnihdjeonpab
open Go.RowKit
def sizeB (c r : Int) : Bool := decide (2 ≤ c) && decide (c ≤ 200) && decide (1 ≤ r) && decide (r ≤ 100)
theorem sizeB_open {c r : Int} (h : sizeB c r = true) : ∃ cn rn : Nat, c = cn ∧ r = rn ∧ 2 ≤ cn ∧ cn ≤ 200 ∧ 1 ≤ rn ∧ rn ≤ 100 := by
  simp [sizeB] at h
  exact ⟨c.toNat, r.toNat, by omega, by omega, by omega, by omega, by omega, by omega⟩
theorem sizeOk_any (c r : Int) (w : World) : Calls Try.prog 35 #[.int .i64 c, .int .i64 r] w fun e w' => e = .returned (.bool (sizeB c r)) ∧ w' = w := by
  go_enter Try.func35, Try.ntmps35
  go_wp2
  all_goals
    go_ret
    refine ⟨ret_bool ?_, rfl⟩
    unfold sizeB
    rw [Bool.eq_iff_iff]
    simp
    omega
theorem l2SizeOk_any (c r : Int) (w : World) : Calls Try.prog 33 #[.int .i64 c, .int .i64 r] w fun e w' => e = .returned (.bool (sizeB c r)) ∧ w' = w := by
  go_enter Try.func33, Try.ntmps33
  go_wp2
  all_goals
    go_ret
    refine ⟨ret_bool ?_, rfl⟩
    unfold sizeB
    rw [Bool.eq_iff_iff]
    simp
    omega
end Go.Proofs.Ytkimnihdjeonpab
