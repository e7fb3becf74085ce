import Derived.Test.YtmomcccgjjjldaaDoorRd
namespace Go.Proofs.YtmomcccgjjjldaaDoor
open Go.RowKit
theorem pce {e : Ending} {zs : List Int} (h : e = .returned (.string (toBA zs))) (hb : zs.all (fun z => decide (0 ≤ z) && decide (z ≤ 255)) = true) (h0 : 0 < zs.length) (h4 : zs.length ≤ 4) : ∃ zs, e = .returned (.string (toBA zs)) ∧ Bytes zs ∧ 0 < zs.length ∧ zs.length ≤ 4 :=
  ⟨zs, h, fun z hz => by have := List.all_eq_true.1 hb z hz; simpa using this, h0, h4⟩
theorem l1Piece_0 (k : Nat) (w : World) (hm : k % 28 = 0) :
    Calls Tryd.prog 26 #[.int .i64 (k : Int)] w fun e w' => (∃ zs, e = .returned (.string (toBA zs)) ∧ Bytes zs ∧ 0 < zs.length ∧ zs.length ≤ 4) ∧ Ext w w' := by
  have hI : (k : Int) % 28 = 0 := by omega
  go_enter Tryd.func26, Tryd.ntmps26
  go_wp2
  go_ret
  exact ⟨pce (zs := [97]) rfl rfl (by decide) (by decide), (Ext.refl _).alloc _⟩
theorem l1Piece_1 (k : Nat) (w : World) (hm : k % 28 = 1) :
    Calls Tryd.prog 26 #[.int .i64 (k : Int)] w fun e w' => (∃ zs, e = .returned (.string (toBA zs)) ∧ Bytes zs ∧ 0 < zs.length ∧ zs.length ≤ 4) ∧ Ext w w' := by
  have hI : (k : Int) % 28 = 1 := by omega
  go_enter Tryd.func26, Tryd.ntmps26
  go_wp2
  go_ret
  exact ⟨pce (zs := [98]) rfl rfl (by decide) (by decide), (Ext.refl _).alloc _⟩
theorem l1Piece_2 (k : Nat) (w : World) (hm : k % 28 = 2) :
    Calls Tryd.prog 26 #[.int .i64 (k : Int)] w fun e w' => (∃ zs, e = .returned (.string (toBA zs)) ∧ Bytes zs ∧ 0 < zs.length ∧ zs.length ≤ 4) ∧ Ext w w' := by
  have hI : (k : Int) % 28 = 2 := by omega
  go_enter Tryd.func26, Tryd.ntmps26
  go_wp2
  go_ret
  exact ⟨pce (zs := [32]) rfl rfl (by decide) (by decide), (Ext.refl _).alloc _⟩
theorem l1Piece_3 (k : Nat) (w : World) (hm : k % 28 = 3) :
    Calls Tryd.prog 26 #[.int .i64 (k : Int)] w fun e w' => (∃ zs, e = .returned (.string (toBA zs)) ∧ Bytes zs ∧ 0 < zs.length ∧ zs.length ≤ 4) ∧ Ext w w' := by
  have hI : (k : Int) % 28 = 3 := by omega
  go_enter Tryd.func26, Tryd.ntmps26
  go_wp2
  go_ret
  exact ⟨pce (zs := [99]) rfl rfl (by decide) (by decide), (Ext.refl _).alloc _⟩
theorem l1Piece_4 (k : Nat) (w : World) (hm : k % 28 = 4) :
    Calls Tryd.prog 26 #[.int .i64 (k : Int)] w fun e w' => (∃ zs, e = .returned (.string (toBA zs)) ∧ Bytes zs ∧ 0 < zs.length ∧ zs.length ≤ 4) ∧ Ext w w' := by
  have hI : (k : Int) % 28 = 4 := by omega
  go_enter Tryd.func26, Tryd.ntmps26
  go_wp2
  go_ret
  exact ⟨pce (zs := [228, 184, 150]) rfl rfl (by decide) (by decide), (Ext.refl _).alloc _⟩
theorem l1Piece_5 (k : Nat) (w : World) (hm : k % 28 = 5) :
    Calls Tryd.prog 26 #[.int .i64 (k : Int)] w fun e w' => (∃ zs, e = .returned (.string (toBA zs)) ∧ Bytes zs ∧ 0 < zs.length ∧ zs.length ≤ 4) ∧ Ext w w' := by
  have hI : (k : Int) % 28 = 5 := by omega
  go_enter Tryd.func26, Tryd.ntmps26
  go_wp2
  go_ret
  exact ⟨pce (zs := [204, 129]) rfl rfl (by decide) (by decide), (Ext.refl _).alloc _⟩
theorem l1Piece_6 (k : Nat) (w : World) (hm : k % 28 = 6) :
    Calls Tryd.prog 26 #[.int .i64 (k : Int)] w fun e w' => (∃ zs, e = .returned (.string (toBA zs)) ∧ Bytes zs ∧ 0 < zs.length ∧ zs.length ≤ 4) ∧ Ext w w' := by
  have hI : (k : Int) % 28 = 6 := by omega
  go_enter Tryd.func26, Tryd.ntmps26
  go_wp2
  go_ret
  exact ⟨pce (zs := [195, 169]) rfl rfl (by decide) (by decide), (Ext.refl _).alloc _⟩
theorem l1Piece_7 (k : Nat) (w : World) (hm : k % 28 = 7) :
    Calls Tryd.prog 26 #[.int .i64 (k : Int)] w fun e w' => (∃ zs, e = .returned (.string (toBA zs)) ∧ Bytes zs ∧ 0 < zs.length ∧ zs.length ≤ 4) ∧ Ext w w' := by
  have hI : (k : Int) % 28 = 7 := by omega
  go_enter Tryd.func26, Tryd.ntmps26
  go_wp2
  go_ret
  exact ⟨pce (zs := [120]) rfl rfl (by decide) (by decide), (Ext.refl _).alloc _⟩
theorem l1Piece_8 (k : Nat) (w : World) (hm : k % 28 = 8) :
    Calls Tryd.prog 26 #[.int .i64 (k : Int)] w fun e w' => (∃ zs, e = .returned (.string (toBA zs)) ∧ Bytes zs ∧ 0 < zs.length ∧ zs.length ≤ 4) ∧ Ext w w' := by
  have hI : (k : Int) % 28 = 8 := by omega
  go_enter Tryd.func26, Tryd.ntmps26
  go_wp2
  go_ret
  exact ⟨pce (zs := [240, 159, 152, 128]) rfl rfl (by decide) (by decide), (Ext.refl _).alloc _⟩
theorem l1Piece_9 (k : Nat) (w : World) (hm : k % 28 = 9) :
    Calls Tryd.prog 26 #[.int .i64 (k : Int)] w fun e w' => (∃ zs, e = .returned (.string (toBA zs)) ∧ Bytes zs ∧ 0 < zs.length ∧ zs.length ≤ 4) ∧ Ext w w' := by
  have hI : (k : Int) % 28 = 9 := by omega
  go_enter Tryd.func26, Tryd.ntmps26
  go_wp2
  go_ret
  exact ⟨pce (zs := [45]) rfl rfl (by decide) (by decide), (Ext.refl _).alloc _⟩
theorem l1Piece_10 (k : Nat) (w : World) (hm : k % 28 = 10) :
    Calls Tryd.prog 26 #[.int .i64 (k : Int)] w fun e w' => (∃ zs, e = .returned (.string (toBA zs)) ∧ Bytes zs ∧ 0 < zs.length ∧ zs.length ≤ 4) ∧ Ext w w' := by
  have hI : (k : Int) % 28 = 10 := by omega
  go_enter Tryd.func26, Tryd.ntmps26
  go_wp2
  go_ret
  exact ⟨pce (zs := [255]) rfl rfl (by decide) (by decide), (Ext.refl _).alloc _⟩
theorem l1Piece_11 (k : Nat) (w : World) (hm : k % 28 = 11) :
    Calls Tryd.prog 26 #[.int .i64 (k : Int)] w fun e w' => (∃ zs, e = .returned (.string (toBA zs)) ∧ Bytes zs ∧ 0 < zs.length ∧ zs.length ≤ 4) ∧ Ext w w' := by
  have hI : (k : Int) % 28 = 11 := by omega
  go_enter Tryd.func26, Tryd.ntmps26
  go_wp2
  go_ret
  exact ⟨pce (zs := [9]) rfl rfl (by decide) (by decide), (Ext.refl _).alloc _⟩
theorem l1Piece_12 (k : Nat) (w : World) (hm : k % 28 = 12) :
    Calls Tryd.prog 26 #[.int .i64 (k : Int)] w fun e w' => (∃ zs, e = .returned (.string (toBA zs)) ∧ Bytes zs ∧ 0 < zs.length ∧ zs.length ≤ 4) ∧ Ext w w' := by
  have hI : (k : Int) % 28 = 12 := by omega
  go_enter Tryd.func26, Tryd.ntmps26
  go_wp2
  go_ret
  exact ⟨pce (zs := [226, 128, 141]) rfl rfl (by decide) (by decide), (Ext.refl _).alloc _⟩
theorem l1Piece_13 (k : Nat) (w : World) (hm : k % 28 = 13) :
    Calls Tryd.prog 26 #[.int .i64 (k : Int)] w fun e w' => (∃ zs, e = .returned (.string (toBA zs)) ∧ Bytes zs ∧ 0 < zs.length ∧ zs.length ≤ 4) ∧ Ext w w' := by
  have hI : (k : Int) % 28 = 13 := by omega
  go_enter Tryd.func26, Tryd.ntmps26
  go_wp2
  go_ret
  exact ⟨pce (zs := [228, 184]) rfl rfl (by decide) (by decide), (Ext.refl _).alloc _⟩
theorem l1Piece_14 (k : Nat) (w : World) (hm : k % 28 = 14) :
    Calls Tryd.prog 26 #[.int .i64 (k : Int)] w fun e w' => (∃ zs, e = .returned (.string (toBA zs)) ∧ Bytes zs ∧ 0 < zs.length ∧ zs.length ≤ 4) ∧ Ext w w' := by
  have hI : (k : Int) % 28 = 14 := by omega
  go_enter Tryd.func26, Tryd.ntmps26
  go_wp2
  go_ret
  exact ⟨pce (zs := [111]) rfl rfl (by decide) (by decide), (Ext.refl _).alloc _⟩
theorem l1Piece_15 (k : Nat) (w : World) (hm : k % 28 = 15) :
    Calls Tryd.prog 26 #[.int .i64 (k : Int)] w fun e w' => (∃ zs, e = .returned (.string (toBA zs)) ∧ Bytes zs ∧ 0 < zs.length ∧ zs.length ≤ 4) ∧ Ext w w' := by
  have hI : (k : Int) % 28 = 15 := by omega
  go_enter Tryd.func26, Tryd.ntmps26
  go_wp2
  go_ret
  exact ⟨pce (zs := [7]) rfl rfl (by decide) (by decide), (Ext.refl _).alloc _⟩
theorem l1Piece_16 (k : Nat) (w : World) (hm : k % 28 = 16) :
    Calls Tryd.prog 26 #[.int .i64 (k : Int)] w fun e w' => (∃ zs, e = .returned (.string (toBA zs)) ∧ Bytes zs ∧ 0 < zs.length ∧ zs.length ≤ 4) ∧ Ext w w' := by
  have hI : (k : Int) % 28 = 16 := by omega
  go_enter Tryd.func26, Tryd.ntmps26
  go_wp2
  go_ret
  exact ⟨pce (zs := [239, 184, 143]) rfl rfl (by decide) (by decide), (Ext.refl _).alloc _⟩
theorem l1Piece_17 (k : Nat) (w : World) (hm : k % 28 = 17) :
    Calls Tryd.prog 26 #[.int .i64 (k : Int)] w fun e w' => (∃ zs, e = .returned (.string (toBA zs)) ∧ Bytes zs ∧ 0 < zs.length ∧ zs.length ≤ 4) ∧ Ext w w' := by
  have hI : (k : Int) % 28 = 17 := by omega
  go_enter Tryd.func26, Tryd.ntmps26
  go_wp2
  go_ret
  exact ⟨pce (zs := [32]) rfl rfl (by decide) (by decide), (Ext.refl _).alloc _⟩
theorem l1Piece_18 (k : Nat) (w : World) (hm : k % 28 = 18) :
    Calls Tryd.prog 26 #[.int .i64 (k : Int)] w fun e w' => (∃ zs, e = .returned (.string (toBA zs)) ∧ Bytes zs ∧ 0 < zs.length ∧ zs.length ≤ 4) ∧ Ext w w' := by
  have hI : (k : Int) % 28 = 18 := by omega
  go_enter Tryd.func26, Tryd.ntmps26
  go_wp2
  go_ret
  exact ⟨pce (zs := [227, 130, 162]) rfl rfl (by decide) (by decide), (Ext.refl _).alloc _⟩
theorem l1Piece_19 (k : Nat) (w : World) (hm : k % 28 = 19) :
    Calls Tryd.prog 26 #[.int .i64 (k : Int)] w fun e w' => (∃ zs, e = .returned (.string (toBA zs)) ∧ Bytes zs ∧ 0 < zs.length ∧ zs.length ≤ 4) ∧ Ext w w' := by
  have hI : (k : Int) % 28 = 19 := by omega
  go_enter Tryd.func26, Tryd.ntmps26
  go_wp2
  go_ret
  exact ⟨pce (zs := [122]) rfl rfl (by decide) (by decide), (Ext.refl _).alloc _⟩
theorem l1Piece_20 (k : Nat) (w : World) (hm : k % 28 = 20) :
    Calls Tryd.prog 26 #[.int .i64 (k : Int)] w fun e w' => (∃ zs, e = .returned (.string (toBA zs)) ∧ Bytes zs ∧ 0 < zs.length ∧ zs.length ≤ 4) ∧ Ext w w' := by
  have hI : (k : Int) % 28 = 20 := by omega
  go_enter Tryd.func26, Tryd.ntmps26
  go_wp2
  go_ret
  exact ⟨pce (zs := [237, 160, 128]) rfl rfl (by decide) (by decide), (Ext.refl _).alloc _⟩
theorem l1Piece_21 (k : Nat) (w : World) (hm : k % 28 = 21) :
    Calls Tryd.prog 26 #[.int .i64 (k : Int)] w fun e w' => (∃ zs, e = .returned (.string (toBA zs)) ∧ Bytes zs ∧ 0 < zs.length ∧ zs.length ≤ 4) ∧ Ext w w' := by
  have hI : (k : Int) % 28 = 21 := by omega
  go_enter Tryd.func26, Tryd.ntmps26
  go_wp2
  go_ret
  exact ⟨pce (zs := [192, 128]) rfl rfl (by decide) (by decide), (Ext.refl _).alloc _⟩
theorem l1Piece_22 (k : Nat) (w : World) (hm : k % 28 = 22) :
    Calls Tryd.prog 26 #[.int .i64 (k : Int)] w fun e w' => (∃ zs, e = .returned (.string (toBA zs)) ∧ Bytes zs ∧ 0 < zs.length ∧ zs.length ≤ 4) ∧ Ext w w' := by
  have hI : (k : Int) % 28 = 22 := by omega
  go_enter Tryd.func26, Tryd.ntmps26
  go_wp2
  go_ret
  exact ⟨pce (zs := [240, 159, 152]) rfl rfl (by decide) (by decide), (Ext.refl _).alloc _⟩
theorem l1Piece_23 (k : Nat) (w : World) (hm : k % 28 = 23) :
    Calls Tryd.prog 26 #[.int .i64 (k : Int)] w fun e w' => (∃ zs, e = .returned (.string (toBA zs)) ∧ Bytes zs ∧ 0 < zs.length ∧ zs.length ≤ 4) ∧ Ext w w' := by
  have hI : (k : Int) % 28 = 23 := by omega
  go_enter Tryd.func26, Tryd.ntmps26
  go_wp2
  go_ret
  exact ⟨pce (zs := [194, 133]) rfl rfl (by decide) (by decide), (Ext.refl _).alloc _⟩
theorem l1Piece_24 (k : Nat) (w : World) (hm : k % 28 = 24) :
    Calls Tryd.prog 26 #[.int .i64 (k : Int)] w fun e w' => (∃ zs, e = .returned (.string (toBA zs)) ∧ Bytes zs ∧ 0 < zs.length ∧ zs.length ≤ 4) ∧ Ext w w' := by
  have hI : (k : Int) % 28 = 24 := by omega
  go_enter Tryd.func26, Tryd.ntmps26
  go_wp2
  go_ret
  exact ⟨pce (zs := [97, 98, 32]) rfl rfl (by decide) (by decide), (Ext.refl _).alloc _⟩
theorem l1Piece_25 (k : Nat) (w : World) (hm : k % 28 = 25) :
    Calls Tryd.prog 26 #[.int .i64 (k : Int)] w fun e w' => (∃ zs, e = .returned (.string (toBA zs)) ∧ Bytes zs ∧ 0 < zs.length ∧ zs.length ≤ 4) ∧ Ext w w' := by
  have hI : (k : Int) % 28 = 25 := by omega
  go_enter Tryd.func26, Tryd.ntmps26
  go_wp2
  go_ret
  exact ⟨pce (zs := [227, 128, 128]) rfl rfl (by decide) (by decide), (Ext.refl _).alloc _⟩
theorem l1Piece_26 (k : Nat) (w : World) (hm : k % 28 = 26) :
    Calls Tryd.prog 26 #[.int .i64 (k : Int)] w fun e w' => (∃ zs, e = .returned (.string (toBA zs)) ∧ Bytes zs ∧ 0 < zs.length ∧ zs.length ≤ 4) ∧ Ext w w' := by
  have hI : (k : Int) % 28 = 26 := by omega
  go_enter Tryd.func26, Tryd.ntmps26
  go_wp2
  go_ret
  exact ⟨pce (zs := [244, 144, 128, 128]) rfl rfl (by decide) (by decide), (Ext.refl _).alloc _⟩
theorem l1Piece_27 (k : Nat) (w : World) (hm : k % 28 = 27) :
    Calls Tryd.prog 26 #[.int .i64 (k : Int)] w fun e w' => (∃ zs, e = .returned (.string (toBA zs)) ∧ Bytes zs ∧ 0 < zs.length ∧ zs.length ≤ 4) ∧ Ext w w' := by
  have hI : (k : Int) % 28 = 27 := by omega
  go_enter Tryd.func26, Tryd.ntmps26
  go_wp2
  go_ret
  exact ⟨pce (zs := [113]) rfl rfl (by decide) (by decide), (Ext.refl _).alloc _⟩
theorem l1Piece_any (k : Nat) (w : World) :
    Calls Tryd.prog 26 #[.int .i64 (k : Int)] w fun e w' => (∃ zs, e = .returned (.string (toBA zs)) ∧ Bytes zs ∧ 0 < zs.length ∧ zs.length ≤ 4) ∧ Ext w w' := by
  have h : k % 28 = 0 ∨ k % 28 = 1 ∨ k % 28 = 2 ∨ k % 28 = 3 ∨ k % 28 = 4 ∨ k % 28 = 5 ∨ k % 28 = 6 ∨ k % 28 = 7 ∨ k % 28 = 8 ∨ k % 28 = 9 ∨ k % 28 = 10 ∨ k % 28 = 11 ∨ k % 28 = 12 ∨ k % 28 = 13 ∨ k % 28 = 14 ∨ k % 28 = 15 ∨ k % 28 = 16 ∨ k % 28 = 17 ∨ k % 28 = 18 ∨ k % 28 = 19 ∨ k % 28 = 20 ∨ k % 28 = 21 ∨ k % 28 = 22 ∨ k % 28 = 23 ∨ k % 28 = 24 ∨ k % 28 = 25 ∨ k % 28 = 26 ∨ k % 28 = 27 := by omega
  rcases h with h | h | h | h | h | h | h | h | h | h | h | h | h | h | h | h | h | h | h | h | h | h | h | h | h | h | h | h
  · exact l1Piece_0 k w h
  · exact l1Piece_1 k w h
  · exact l1Piece_2 k w h
  · exact l1Piece_3 k w h
  · exact l1Piece_4 k w h
  · exact l1Piece_5 k w h
  · exact l1Piece_6 k w h
  · exact l1Piece_7 k w h
  · exact l1Piece_8 k w h
  · exact l1Piece_9 k w h
  · exact l1Piece_10 k w h
  · exact l1Piece_11 k w h
  · exact l1Piece_12 k w h
  · exact l1Piece_13 k w h
  · exact l1Piece_14 k w h
  · exact l1Piece_15 k w h
  · exact l1Piece_16 k w h
  · exact l1Piece_17 k w h
  · exact l1Piece_18 k w h
  · exact l1Piece_19 k w h
  · exact l1Piece_20 k w h
  · exact l1Piece_21 k w h
  · exact l1Piece_22 k w h
  · exact l1Piece_23 k w h
  · exact l1Piece_24 k w h
  · exact l1Piece_25 k w h
  · exact l1Piece_26 k w h
  · exact l1Piece_27 k w h
end Go.Proofs.YtmomcccgjjjldaaDoor
