import Derived.Test.YtlmgeobmjkbccaaDoorWri
namespace Go.Proofs.YtlmgeobmjkbccaaDoor
open Go.RowKit
set_option maxRecDepth 10000 in
set_option maxHeartbeats 1000000 in
theorem blockOk_any (v : Value) (row col : Int) (n : Nat) (tx : Nat → ByteArray) (w : World) (hv : Row1At w v n (fun j => .string (tx j))) :
    Calls Tryd.prog 21 #[blV v row col] w fun e w' => e = .returned (.bool (@decide (bOk n row col) (bOkD n row col))) ∧ Ext w w' := by
  obtain ⟨ao, cap, rfl, _, _⟩ := hv
  unfold blV
  by_cases h1 : 0 ≤ row
  · by_cases h2 : row < (n : Int)
    · by_cases h3 : 0 ≤ col
      · by_cases h4 : col < 200
        · have hb : Hid (@decide (bOk n row col) (bOkD n row col) = true) := @decide_eq_true _ (bOkD n row col) ⟨h1, h2, h3, h4⟩
          go_enter Tryd.func21, Tryd.ntmps21
          go_wp2
          go_ret
          exact ⟨ret_bool (unhide hb).symm, (Ext.refl _).alloc _⟩
        · have hb : Hid (@decide (bOk n row col) (bOkD n row col) = false) := @decide_eq_false _ (bOkD n row col) (fun e => h4 e.2.2.2)
          go_enter Tryd.func21, Tryd.ntmps21
          go_wp2
          go_ret
          exact ⟨ret_bool (unhide hb).symm, (Ext.refl _).alloc _⟩
      · have hb : Hid (@decide (bOk n row col) (bOkD n row col) = false) := @decide_eq_false _ (bOkD n row col) (fun e => h3 e.2.2.1)
        go_enter Tryd.func21, Tryd.ntmps21
        go_wp2
        go_ret
        exact ⟨ret_bool (unhide hb).symm, (Ext.refl _).alloc _⟩
    · have hb : Hid (@decide (bOk n row col) (bOkD n row col) = false) := @decide_eq_false _ (bOkD n row col) (fun e => h2 e.2.1)
      go_enter Tryd.func21, Tryd.ntmps21
      go_wp2
      go_ret
      exact ⟨ret_bool (unhide hb).symm, (Ext.refl _).alloc _⟩
  · have hb : Hid (@decide (bOk n row col) (bOkD n row col) = false) := @decide_eq_false _ (bOkD n row col) (fun e => h1 e.1)
    go_enter Tryd.func21, Tryd.ntmps21
    go_wp2
    go_ret
    exact ⟨ret_bool (unhide hb).symm, (Ext.refl _).alloc _⟩
set_option maxRecDepth 10000 in
set_option maxHeartbeats 1000000 in
theorem l6Ok_any (v : Value) (row col : Int) (n : Nat) (tx : Nat → ByteArray) (w : World) (hv : Row1At w v n (fun j => .string (tx j))) :
    Calls Tryd.prog 17 #[blV v row col] w fun e w' => e = .returned (.bool (@decide (bOk n row col) (bOkD n row col))) ∧ Ext w w' := by
  obtain ⟨ao, cap, rfl, _, _⟩ := hv
  unfold blV
  by_cases h1 : 0 ≤ row
  · by_cases h2 : row < (n : Int)
    · by_cases h3 : 0 ≤ col
      · by_cases h4 : col < 200
        · have hb : Hid (@decide (bOk n row col) (bOkD n row col) = true) := @decide_eq_true _ (bOkD n row col) ⟨h1, h2, h3, h4⟩
          go_enter Tryd.func17, Tryd.ntmps17
          go_wp2
          go_ret
          exact ⟨ret_bool (unhide hb).symm, (Ext.refl _).alloc _⟩
        · have hb : Hid (@decide (bOk n row col) (bOkD n row col) = false) := @decide_eq_false _ (bOkD n row col) (fun e => h4 e.2.2.2)
          go_enter Tryd.func17, Tryd.ntmps17
          go_wp2
          go_ret
          exact ⟨ret_bool (unhide hb).symm, (Ext.refl _).alloc _⟩
      · have hb : Hid (@decide (bOk n row col) (bOkD n row col) = false) := @decide_eq_false _ (bOkD n row col) (fun e => h3 e.2.2.1)
        go_enter Tryd.func17, Tryd.ntmps17
        go_wp2
        go_ret
        exact ⟨ret_bool (unhide hb).symm, (Ext.refl _).alloc _⟩
    · have hb : Hid (@decide (bOk n row col) (bOkD n row col) = false) := @decide_eq_false _ (bOkD n row col) (fun e => h2 e.2.1)
      go_enter Tryd.func17, Tryd.ntmps17
      go_wp2
      go_ret
      exact ⟨ret_bool (unhide hb).symm, (Ext.refl _).alloc _⟩
  · have hb : Hid (@decide (bOk n row col) (bOkD n row col) = false) := @decide_eq_false _ (bOkD n row col) (fun e => h1 e.1)
    go_enter Tryd.func17, Tryd.ntmps17
    go_wp2
    go_ret
    exact ⟨ret_bool (unhide hb).symm, (Ext.refl _).alloc _⟩
end Go.Proofs.YtlmgeobmjkbccaaDoor
