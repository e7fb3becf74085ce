import Derived.Test.YtinfdhbnljnifaaGreatDoorRd
namespace Go.Proofs.YtinfdhbnljnifaaGreatDoor
open Go.RowKit
theorem pce {e : Ending} {zs : List Int} (h : e = .returned (.string (zo zs))) (hb : zs.all (fun z => decide (0 ≤ z) && decide (z ≤ 255)) = true) (h0 : 0 < zs.length) (h4 : zs.length ≤ 4) : ∃ zs, e = .returned (.string (zo zs)) ∧ zv zs ∧ 0 < zs.length ∧ zs.length ≤ 4 :=
 ⟨zs, h, fun z hz => by have := List.all_eq_true.1 hb z hz; simpa using this, h0, h4⟩
theorem zm4 (k : Nat) (w : World) (hm : k % 28 = 0) :
  Calls Tryz.prog 88 #[.int .i64 (k : Int)] w fun e w' => (∃ zs, e = .returned (.string (zo zs)) ∧ zv zs ∧ 0 < zs.length ∧ zs.length ≤ 4) ∧ Ext w w' := by
 have hI : (k : Int) % 28 = 0 := by omega
 go_enter Tryz.func88, Tryz.ntmps88
 go_wp2
 go_ret
 exact ⟨pce (zs := [97]) rfl rfl (by decide) (by decide), (Ext.refl _).alloc _⟩
theorem zmW (k : Nat) (w : World) (hm : k % 28 = 1) :
  Calls Tryz.prog 88 #[.int .i64 (k : Int)] w fun e w' => (∃ zs, e = .returned (.string (zo zs)) ∧ zv zs ∧ 0 < zs.length ∧ zs.length ≤ 4) ∧ Ext w w' := by
 have hI : (k : Int) % 28 = 1 := by omega
 go_enter Tryz.func88, Tryz.ntmps88
 go_wp2
 go_ret
 exact ⟨pce (zs := [98]) rfl rfl (by decide) (by decide), (Ext.refl _).alloc _⟩
theorem znw (k : Nat) (w : World) (hm : k % 28 = 2) :
  Calls Tryz.prog 88 #[.int .i64 (k : Int)] w fun e w' => (∃ zs, e = .returned (.string (zo zs)) ∧ zv zs ∧ 0 < zs.length ∧ zs.length ≤ 4) ∧ Ext w w' := by
 have hI : (k : Int) % 28 = 2 := by omega
 go_enter Tryz.func88, Tryz.ntmps88
 go_wp2
 go_ret
 exact ⟨pce (zs := [32]) rfl rfl (by decide) (by decide), (Ext.refl _).alloc _⟩
theorem zmG (k : Nat) (w : World) (hm : k % 28 = 3) :
  Calls Tryz.prog 88 #[.int .i64 (k : Int)] w fun e w' => (∃ zs, e = .returned (.string (zo zs)) ∧ zv zs ∧ 0 < zs.length ∧ zs.length ≤ 4) ∧ Ext w w' := by
 have hI : (k : Int) % 28 = 3 := by omega
 go_enter Tryz.func88, Tryz.ntmps88
 go_wp2
 go_ret
 exact ⟨pce (zs := [99]) rfl rfl (by decide) (by decide), (Ext.refl _).alloc _⟩
theorem zmX (k : Nat) (w : World) (hm : k % 28 = 4) :
  Calls Tryz.prog 88 #[.int .i64 (k : Int)] w fun e w' => (∃ zs, e = .returned (.string (zo zs)) ∧ zv zs ∧ 0 < zs.length ∧ zs.length ≤ 4) ∧ Ext w w' := by
 have hI : (k : Int) % 28 = 4 := by omega
 go_enter Tryz.func88, Tryz.ntmps88
 go_wp2
 go_ret
 exact ⟨pce (zs := [228, 184, 150]) rfl rfl (by decide) (by decide), (Ext.refl _).alloc _⟩
theorem zmO (k : Nat) (w : World) (hm : k % 28 = 5) :
  Calls Tryz.prog 88 #[.int .i64 (k : Int)] w fun e w' => (∃ zs, e = .returned (.string (zo zs)) ∧ zv zs ∧ 0 < zs.length ∧ zs.length ≤ 4) ∧ Ext w w' := by
 have hI : (k : Int) % 28 = 5 := by omega
 go_enter Tryz.func88, Tryz.ntmps88
 go_wp2
 go_ret
 exact ⟨pce (zs := [204, 129]) rfl rfl (by decide) (by decide), (Ext.refl _).alloc _⟩
theorem zm2 (k : Nat) (w : World) (hm : k % 28 = 6) :
  Calls Tryz.prog 88 #[.int .i64 (k : Int)] w fun e w' => (∃ zs, e = .returned (.string (zo zs)) ∧ zv zs ∧ 0 < zs.length ∧ zs.length ≤ 4) ∧ Ext w w' := by
 have hI : (k : Int) % 28 = 6 := by omega
 go_enter Tryz.func88, Tryz.ntmps88
 go_wp2
 go_ret
 exact ⟨pce (zs := [195, 169]) rfl rfl (by decide) (by decide), (Ext.refl _).alloc _⟩
theorem znr (k : Nat) (w : World) (hm : k % 28 = 7) :
  Calls Tryz.prog 88 #[.int .i64 (k : Int)] w fun e w' => (∃ zs, e = .returned (.string (zo zs)) ∧ zv zs ∧ 0 < zs.length ∧ zs.length ≤ 4) ∧ Ext w w' := by
 have hI : (k : Int) % 28 = 7 := by omega
 go_enter Tryz.func88, Tryz.ntmps88
 go_wp2
 go_ret
 exact ⟨pce (zs := [120]) rfl rfl (by decide) (by decide), (Ext.refl _).alloc _⟩
theorem zmH (k : Nat) (w : World) (hm : k % 28 = 8) :
  Calls Tryz.prog 88 #[.int .i64 (k : Int)] w fun e w' => (∃ zs, e = .returned (.string (zo zs)) ∧ zv zs ∧ 0 < zs.length ∧ zs.length ≤ 4) ∧ Ext w w' := by
 have hI : (k : Int) % 28 = 8 := by omega
 go_enter Tryz.func88, Tryz.ntmps88
 go_wp2
 go_ret
 exact ⟨pce (zs := [240, 159, 152, 128]) rfl rfl (by decide) (by decide), (Ext.refl _).alloc _⟩
theorem zmL (k : Nat) (w : World) (hm : k % 28 = 9) :
  Calls Tryz.prog 88 #[.int .i64 (k : Int)] w fun e w' => (∃ zs, e = .returned (.string (zo zs)) ∧ zv zs ∧ 0 < zs.length ∧ zs.length ≤ 4) ∧ Ext w w' := by
 have hI : (k : Int) % 28 = 9 := by omega
 go_enter Tryz.func88, Tryz.ntmps88
 go_wp2
 go_ret
 exact ⟨pce (zs := [45]) rfl rfl (by decide) (by decide), (Ext.refl _).alloc _⟩
theorem zlu (k : Nat) (w : World) (hm : k % 28 = 10) :
  Calls Tryz.prog 88 #[.int .i64 (k : Int)] w fun e w' => (∃ zs, e = .returned (.string (zo zs)) ∧ zv zs ∧ 0 < zs.length ∧ zs.length ≤ 4) ∧ Ext w w' := by
 have hI : (k : Int) % 28 = 10 := by omega
 go_enter Tryz.func88, Tryz.ntmps88
 go_wp2
 go_ret
 exact ⟨pce (zs := [255]) rfl rfl (by decide) (by decide), (Ext.refl _).alloc _⟩
theorem zli (k : Nat) (w : World) (hm : k % 28 = 11) :
  Calls Tryz.prog 88 #[.int .i64 (k : Int)] w fun e w' => (∃ zs, e = .returned (.string (zo zs)) ∧ zv zs ∧ 0 < zs.length ∧ zs.length ≤ 4) ∧ Ext w w' := by
 have hI : (k : Int) % 28 = 11 := by omega
 go_enter Tryz.func88, Tryz.ntmps88
 go_wp2
 go_ret
 exact ⟨pce (zs := [9]) rfl rfl (by decide) (by decide), (Ext.refl _).alloc _⟩
theorem zlG (k : Nat) (w : World) (hm : k % 28 = 12) :
  Calls Tryz.prog 88 #[.int .i64 (k : Int)] w fun e w' => (∃ zs, e = .returned (.string (zo zs)) ∧ zv zs ∧ 0 < zs.length ∧ zs.length ≤ 4) ∧ Ext w w' := by
 have hI : (k : Int) % 28 = 12 := by omega
 go_enter Tryz.func88, Tryz.ntmps88
 go_wp2
 go_ret
 exact ⟨pce (zs := [226, 128, 141]) rfl rfl (by decide) (by decide), (Ext.refl _).alloc _⟩
theorem zly (k : Nat) (w : World) (hm : k % 28 = 13) :
  Calls Tryz.prog 88 #[.int .i64 (k : Int)] w fun e w' => (∃ zs, e = .returned (.string (zo zs)) ∧ zv zs ∧ 0 < zs.length ∧ zs.length ≤ 4) ∧ Ext w w' := by
 have hI : (k : Int) % 28 = 13 := by omega
 go_enter Tryz.func88, Tryz.ntmps88
 go_wp2
 go_ret
 exact ⟨pce (zs := [228, 184]) rfl rfl (by decide) (by decide), (Ext.refl _).alloc _⟩
theorem zlL (k : Nat) (w : World) (hm : k % 28 = 14) :
  Calls Tryz.prog 88 #[.int .i64 (k : Int)] w fun e w' => (∃ zs, e = .returned (.string (zo zs)) ∧ zv zs ∧ 0 < zs.length ∧ zs.length ≤ 4) ∧ Ext w w' := by
 have hI : (k : Int) % 28 = 14 := by omega
 go_enter Tryz.func88, Tryz.ntmps88
 go_wp2
 go_ret
 exact ⟨pce (zs := [111]) rfl rfl (by decide) (by decide), (Ext.refl _).alloc _⟩
theorem zlz (k : Nat) (w : World) (hm : k % 28 = 15) :
  Calls Tryz.prog 88 #[.int .i64 (k : Int)] w fun e w' => (∃ zs, e = .returned (.string (zo zs)) ∧ zv zs ∧ 0 < zs.length ∧ zs.length ≤ 4) ∧ Ext w w' := by
 have hI : (k : Int) % 28 = 15 := by omega
 go_enter Tryz.func88, Tryz.ntmps88
 go_wp2
 go_ret
 exact ⟨pce (zs := [7]) rfl rfl (by decide) (by decide), (Ext.refl _).alloc _⟩
theorem zlf (k : Nat) (w : World) (hm : k % 28 = 16) :
  Calls Tryz.prog 88 #[.int .i64 (k : Int)] w fun e w' => (∃ zs, e = .returned (.string (zo zs)) ∧ zv zs ∧ 0 < zs.length ∧ zs.length ≤ 4) ∧ Ext w w' := by
 have hI : (k : Int) % 28 = 16 := by omega
 go_enter Tryz.func88, Tryz.ntmps88
 go_wp2
 go_ret
 exact ⟨pce (zs := [239, 184, 143]) rfl rfl (by decide) (by decide), (Ext.refl _).alloc _⟩
theorem zk1 (k : Nat) (w : World) (hm : k % 28 = 17) :
  Calls Tryz.prog 88 #[.int .i64 (k : Int)] w fun e w' => (∃ zs, e = .returned (.string (zo zs)) ∧ zv zs ∧ 0 < zs.length ∧ zs.length ≤ 4) ∧ Ext w w' := by
 have hI : (k : Int) % 28 = 17 := by omega
 go_enter Tryz.func88, Tryz.ntmps88
 go_wp2
 go_ret
 exact ⟨pce (zs := [32]) rfl rfl (by decide) (by decide), (Ext.refl _).alloc _⟩
theorem zlH (k : Nat) (w : World) (hm : k % 28 = 18) :
  Calls Tryz.prog 88 #[.int .i64 (k : Int)] w fun e w' => (∃ zs, e = .returned (.string (zo zs)) ∧ zv zs ∧ 0 < zs.length ∧ zs.length ≤ 4) ∧ Ext w w' := by
 have hI : (k : Int) % 28 = 18 := by omega
 go_enter Tryz.func88, Tryz.ntmps88
 go_wp2
 go_ret
 exact ⟨pce (zs := [227, 130, 162]) rfl rfl (by decide) (by decide), (Ext.refl _).alloc _⟩
theorem zlJ (k : Nat) (w : World) (hm : k % 28 = 19) :
  Calls Tryz.prog 88 #[.int .i64 (k : Int)] w fun e w' => (∃ zs, e = .returned (.string (zo zs)) ∧ zv zs ∧ 0 < zs.length ∧ zs.length ≤ 4) ∧ Ext w w' := by
 have hI : (k : Int) % 28 = 19 := by omega
 go_enter Tryz.func88, Tryz.ntmps88
 go_wp2
 go_ret
 exact ⟨pce (zs := [122]) rfl rfl (by decide) (by decide), (Ext.refl _).alloc _⟩
theorem zkU (k : Nat) (w : World) (hm : k % 28 = 20) :
  Calls Tryz.prog 88 #[.int .i64 (k : Int)] w fun e w' => (∃ zs, e = .returned (.string (zo zs)) ∧ zv zs ∧ 0 < zs.length ∧ zs.length ≤ 4) ∧ Ext w w' := by
 have hI : (k : Int) % 28 = 20 := by omega
 go_enter Tryz.func88, Tryz.ntmps88
 go_wp2
 go_ret
 exact ⟨pce (zs := [237, 160, 128]) rfl rfl (by decide) (by decide), (Ext.refl _).alloc _⟩
theorem zk7 (k : Nat) (w : World) (hm : k % 28 = 21) :
  Calls Tryz.prog 88 #[.int .i64 (k : Int)] w fun e w' => (∃ zs, e = .returned (.string (zo zs)) ∧ zv zs ∧ 0 < zs.length ∧ zs.length ≤ 4) ∧ Ext w w' := by
 have hI : (k : Int) % 28 = 21 := by omega
 go_enter Tryz.func88, Tryz.ntmps88
 go_wp2
 go_ret
 exact ⟨pce (zs := [192, 128]) rfl rfl (by decide) (by decide), (Ext.refl _).alloc _⟩
theorem zlw (k : Nat) (w : World) (hm : k % 28 = 22) :
  Calls Tryz.prog 88 #[.int .i64 (k : Int)] w fun e w' => (∃ zs, e = .returned (.string (zo zs)) ∧ zv zs ∧ 0 < zs.length ∧ zs.length ≤ 4) ∧ Ext w w' := by
 have hI : (k : Int) % 28 = 22 := by omega
 go_enter Tryz.func88, Tryz.ntmps88
 go_wp2
 go_ret
 exact ⟨pce (zs := [240, 159, 152]) rfl rfl (by decide) (by decide), (Ext.refl _).alloc _⟩
theorem zkZ (k : Nat) (w : World) (hm : k % 28 = 23) :
  Calls Tryz.prog 88 #[.int .i64 (k : Int)] w fun e w' => (∃ zs, e = .returned (.string (zo zs)) ∧ zv zs ∧ 0 < zs.length ∧ zs.length ≤ 4) ∧ Ext w w' := by
 have hI : (k : Int) % 28 = 23 := by omega
 go_enter Tryz.func88, Tryz.ntmps88
 go_wp2
 go_ret
 exact ⟨pce (zs := [194, 133]) rfl rfl (by decide) (by decide), (Ext.refl _).alloc _⟩
theorem zk4 (k : Nat) (w : World) (hm : k % 28 = 24) :
  Calls Tryz.prog 88 #[.int .i64 (k : Int)] w fun e w' => (∃ zs, e = .returned (.string (zo zs)) ∧ zv zs ∧ 0 < zs.length ∧ zs.length ≤ 4) ∧ Ext w w' := by
 have hI : (k : Int) % 28 = 24 := by omega
 go_enter Tryz.func88, Tryz.ntmps88
 go_wp2
 go_ret
 exact ⟨pce (zs := [97, 98, 32]) rfl rfl (by decide) (by decide), (Ext.refl _).alloc _⟩
theorem zk8 (k : Nat) (w : World) (hm : k % 28 = 25) :
  Calls Tryz.prog 88 #[.int .i64 (k : Int)] w fun e w' => (∃ zs, e = .returned (.string (zo zs)) ∧ zv zs ∧ 0 < zs.length ∧ zs.length ≤ 4) ∧ Ext w w' := by
 have hI : (k : Int) % 28 = 25 := by omega
 go_enter Tryz.func88, Tryz.ntmps88
 go_wp2
 go_ret
 exact ⟨pce (zs := [227, 128, 128]) rfl rfl (by decide) (by decide), (Ext.refl _).alloc _⟩
theorem zk9 (k : Nat) (w : World) (hm : k % 28 = 26) :
  Calls Tryz.prog 88 #[.int .i64 (k : Int)] w fun e w' => (∃ zs, e = .returned (.string (zo zs)) ∧ zv zs ∧ 0 < zs.length ∧ zs.length ≤ 4) ∧ Ext w w' := by
 have hI : (k : Int) % 28 = 26 := by omega
 go_enter Tryz.func88, Tryz.ntmps88
 go_wp2
 go_ret
 exact ⟨pce (zs := [244, 144, 128, 128]) rfl rfl (by decide) (by decide), (Ext.refl _).alloc _⟩
theorem zkX (k : Nat) (w : World) (hm : k % 28 = 27) :
  Calls Tryz.prog 88 #[.int .i64 (k : Int)] w fun e w' => (∃ zs, e = .returned (.string (zo zs)) ∧ zv zs ∧ 0 < zs.length ∧ zs.length ≤ 4) ∧ Ext w w' := by
 have hI : (k : Int) % 28 = 27 := by omega
 go_enter Tryz.func88, Tryz.ntmps88
 go_wp2
 go_ret
 exact ⟨pce (zs := [113]) rfl rfl (by decide) (by decide), (Ext.refl _).alloc _⟩
theorem zjK (k : Nat) (w : World) :
  Calls Tryz.prog 88 #[.int .i64 (k : Int)] w fun e w' => (∃ zs, e = .returned (.string (zo zs)) ∧ zv zs ∧ 0 < zs.length ∧ zs.length ≤ 4) ∧ Ext w w' := by
 have h : k % 28 = 0 ∨ k % 28 = 1 ∨ k % 28 = 2 ∨ k % 28 = 3 ∨ k % 28 = 4 ∨ k % 28 = 5 ∨ k % 28 = 6 ∨ k % 28 = 7 ∨ k % 28 = 8 ∨ k % 28 = 9 ∨ k % 28 = 10 ∨ k % 28 = 11 ∨ k % 28 = 12 ∨ k % 28 = 13 ∨ k % 28 = 14 ∨ k % 28 = 15 ∨ k % 28 = 16 ∨ k % 28 = 17 ∨ k % 28 = 18 ∨ k % 28 = 19 ∨ k % 28 = 20 ∨ k % 28 = 21 ∨ k % 28 = 22 ∨ k % 28 = 23 ∨ k % 28 = 24 ∨ k % 28 = 25 ∨ k % 28 = 26 ∨ k % 28 = 27 := by omega
 rcases h with h | h | h | h | h | h | h | h | h | h | h | h | h | h | h | h | h | h | h | h | h | h | h | h | h | h | h | h
 ·exact zm4 k w h
 ·exact zmW k w h
 ·exact znw k w h
 ·exact zmG k w h
 ·exact zmX k w h
 ·exact zmO k w h
 ·exact zm2 k w h
 ·exact znr k w h
 ·exact zmH k w h
 ·exact zmL k w h
 ·exact zlu k w h
 ·exact zli k w h
 ·exact zlG k w h
 ·exact zly k w h
 ·exact zlL k w h
 ·exact zlz k w h
 ·exact zlf k w h
 ·exact zk1 k w h
 ·exact zlH k w h
 ·exact zlJ k w h
 ·exact zkU k w h
 ·exact zk7 k w h
 ·exact zlw k w h
 ·exact zkZ k w h
 ·exact zk4 k w h
 ·exact zk8 k w h
 ·exact zk9 k w h
 ·exact zkX k w h
end Go.Proofs.YtinfdhbnljnifaaGreatDoor
