import Derived.Test.YtmomcccgjjjldaaDoorSpecRune
namespace Go.Proofs.YtmomcccgjjjldaaDoor
open Go.RowKit
def isCtl (r : Int) : Bool := decide (r < 32) || (decide (127 ≤ r) && decide (r ≤ 159))
theorem isControl_any (r : Int) (w : World) : Calls Tryd.prog 29 #[.int .i32 r] w fun e w' => e = .returned (.bool (isCtl r)) ∧ w' = w := by
  go_enter Tryd.func29, Tryd.ntmps29
  go_wp2
  all_goals
    go_ret
    refine ⟨ret_bool ?_, rfl⟩
    unfold isCtl
    rw [Bool.eq_iff_iff]
    simp
    omega
theorem ValidRune_any (r : Int) (w : World) : Calls Tryd.prog 30 #[.int .i32 r] w fun e w' => e = .returned (.bool (Utf8.valid r)) ∧ w' = w := by
  go_enter Tryd.func30, Tryd.ntmps30
  go_wp2
  all_goals
    go_ret
    refine ⟨ret_bool ?_, rfl⟩
    rw [Bool.eq_iff_iff]
    simp [Utf8.valid]
    omega
theorem shown_ctl (r : Int) (h : isCtl r = true) : shownI r = 65533 := by
  unfold shownI
  rw [if_pos (.inr (by simpa [isCtl] using h))]
theorem shown_bad (r : Int) (h : Utf8.valid r = false) : shownI r = 65533 := by
  unfold shownI
  rw [if_pos (.inl h)]
theorem shown_ok (r : Int) (h : isCtl r = false) (h2 : Utf8.valid r = true) : shownI r = r := by
  unfold shownI
  rw [if_neg]
  rintro (h3 | h3)
  · rw [h2] at h3; cases h3
  · have : isCtl r = true := by simpa [isCtl] using h3
    rw [h] at this; cases this
set_option maxHeartbeats 400000 in
theorem showable_any (r : Int) (w : World) : Calls Tryd.prog 18 #[.int .i32 r] w fun e w' => e = .returned (.int .i32 (shownI r)) ∧ w' = w := by
  cases h1 : isCtl r
  · cases h2 : Utf8.valid r
    · have H := hide (shown_bad r h2)
      go_enter Tryd.func18, Tryd.ntmps18
      go_wp2_with (first | (go_at_call 29; refine (isControl_any _ _).mono ?_; rintro e w' ⟨rfl, rfl⟩) | (go_at_call 30; refine (ValidRune_any _ _).mono ?_; rintro e w' ⟨rfl, rfl⟩))
      go_ret
      exact ⟨ret_int (unhide H).symm, rfl⟩
    · have H := hide (shown_ok r h1 h2)
      go_enter Tryd.func18, Tryd.ntmps18
      go_wp2_with (first | (go_at_call 29; refine (isControl_any _ _).mono ?_; rintro e w' ⟨rfl, rfl⟩) | (go_at_call 30; refine (ValidRune_any _ _).mono ?_; rintro e w' ⟨rfl, rfl⟩))
      go_ret
      exact ⟨ret_int (unhide H).symm, rfl⟩
  · have H := hide (shown_ctl r h1)
    go_enter Tryd.func18, Tryd.ntmps18
    go_wp2_with (first | (go_at_call 29; refine (isControl_any _ _).mono ?_; rintro e w' ⟨rfl, rfl⟩) | (go_at_call 30; refine (ValidRune_any _ _).mono ?_; rintro e w' ⟨rfl, rfl⟩))
    go_ret
    exact ⟨ret_int (unhide H).symm, rfl⟩
end Go.Proofs.YtmomcccgjjjldaaDoor
